/-
  slices.SortFunc of no cells at all; the comparing functions.
-/
import Derived.Test.YtcoejiehckileaaDoorStoSort
import Derived.Lib.Walk
namespace Go.Proofs.YtcoejiehckileaaDoor
open Go.RowKit Go.Shelf Go.Lib Go.Sort

set_option maxRecDepth 100000 in
theorem cells_cmp : CmpC 44 := by
  intro a b W
  obtain ⟨ka, ha, ta, sa, la⟩ := a
  obtain ⟨kb, hb, tb, sb, lb⟩ := b
  show Calls Tryd.prog 44 #[.agg #[.string ka, .bool ha, .string ta, .int .i64 sa, la], .agg #[.string kb, .bool hb, .string tb, .int .i64 sb, lb]] W fun e w' => e = .returned (.int .i64 (cfB ka kb)) ∧ ∃ q os', w' = grow (W.drewN q) os'
  unfold cfB
  have hcon := fun W' => Tryd.strings_Compare ka kb W'
  generalize Lib.compareBytes ka.data.toList kb.data.toList = r at hcon ⊢
  go_enter Tryd.func44, Tryd.ntmps44
  go_wp2_with (go_at_call 24; refine (hcon _).mono ?_; rintro e w' ⟨rfl, rfl⟩)
  go_ret
  exact ⟨rfl, 0, _, by rw [alloc_eq_grow, alloc_eq_grow, grow_grow]; rfl⟩
theorem cells_eg : ∀ args w, (callFunc 44 args).run Tryd.prog w = .ok (.enter 44 args) w := enters_of Tryd.func44 (by kernel_rfl) rfl

set_option maxRecDepth 100000 in
theorem sortz_ins (fv : Value) (w : World) : Calls Tryd.prog 62 #[.slice none 0 0, .int .i64 0, .int .i64 0, fv] w fun e w' => e = .returned (.tuple #[]) ∧ w' = w := by
  go_enter Tryd.func62, Tryd.ntmps62
  go_wp2
  refine wp_loop_rounds 1 ?_
  rw [rounds_succ]
  go_wp2
  go_end0
  exact ⟨rfl, rfl⟩
set_option maxRecDepth 100000 in
theorem sortz_pdq (fv : Value) (lim : Int) (w : World) : Calls Tryd.prog 46 #[.slice none 0 0, .int .i64 0, .int .i64 0, .int .i64 lim, fv] w fun e w' => e = .returned (.tuple #[]) ∧ w' = w := by
  go_enter Tryd.func46, Tryd.ntmps46
  go_wp2
  refine wp_loop_rounds 1 ?_
  rw [rounds_succ]
  go_wp2_with (go_at_call 62; refine (sortz_ins _ _).mono ?_; rintro e w' ⟨rfl, rfl⟩)
  (try simp only [Exit.inBlock, Exit.then]); refine bodyPost_ret (results_none rfl _ _ _) rfl ?_
  exact ⟨rfl, rfl⟩
set_option maxRecDepth 100000 in
theorem sortz_any (fv : Value) (w : World) : Calls Tryd.prog 22 #[.slice none 0 0, fv] w fun e w' => e = .returned (.tuple #[]) ∧ w' = w := by
  go_enter Tryd.func22, Tryd.ntmps22
  go_wp2_with (first | (go_at_call 47; refine (Tryd.bits_Len 0 _ (by decide) (by decide)).mono ?_; rintro e w' ⟨rfl, rfl⟩) | (go_at_call 46; refine (sortz_pdq _ _ _).mono ?_; rintro e w' ⟨rfl, rfl⟩))
  go_end0
  exact ⟨rfl, rfl⟩
end Go.Proofs.YtcoejiehckileaaDoor
