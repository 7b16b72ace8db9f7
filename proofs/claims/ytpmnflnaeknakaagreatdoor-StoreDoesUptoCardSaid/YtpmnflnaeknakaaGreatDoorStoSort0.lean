/-
  slices.SortFunc of no cells at all; the comparing functions.
-/
import Derived.Test.YtpmnflnaeknakaaGreatDoorStoSort
import Derived.Lib.Walk
namespace Go.Proofs.YtpmnflnaeknakaaGreatDoor
open Go.RowKit Go.Shelf Go.Lib Go.Sort

set_option maxRecDepth 100000 in
theorem cells_cmp : CmpC 29 := by
  intro a b W
  obtain ⟨ka, ha, ta, sa, la⟩ := a
  obtain ⟨kb, hb, tb, sb, lb⟩ := b
  show Calls Tryz.prog 29 #[.agg #[.string ka, .bool ha, .string ta, .int .i64 sa, la], .agg #[.string kb, .bool hb, .string tb, .int .i64 sb, lb]] W fun e w' => e = .returned (.int .i64 (cfB ka kb)) ∧ ∃ q os', w' = grow (W.drewN q) os'
  unfold cfB
  have hcon := fun W' => Tryz.strings_Compare ka kb W'
  generalize Lib.compareBytes ka.data.toList kb.data.toList = r at hcon ⊢
  go_enter Tryz.func29, Tryz.ntmps29
  go_wp2_with (go_at_call 30; refine (hcon _).mono ?_; rintro e w' ⟨rfl, rfl⟩)
  go_ret
  exact ⟨rfl, 0, _, by rw [alloc_eq_grow, alloc_eq_grow, grow_grow]; rfl⟩
theorem cells_eg : ∀ args w, (callFunc 29 args).run Tryz.prog w = .ok (.enter 29 args) w := enters_of Tryz.func29 (by kernel_rfl) rfl

set_option maxRecDepth 100000 in
theorem sortz_ins (fv : Value) (w : World) : Calls Tryz.prog 55 #[.slice none 0 0, .int .i64 0, .int .i64 0, fv] w fun e w' => e = .returned (.tuple #[]) ∧ w' = w := by
  go_enter Tryz.func55, Tryz.ntmps55
  go_wp2
  refine wp_loop_rounds 1 ?_
  rw [rounds_succ]
  go_wp2
  go_end0
  exact ⟨rfl, rfl⟩
set_option maxRecDepth 100000 in
theorem sortz_pdq (fv : Value) (lim : Int) (w : World) : Calls Tryz.prog 43 #[.slice none 0 0, .int .i64 0, .int .i64 0, .int .i64 lim, fv] w fun e w' => e = .returned (.tuple #[]) ∧ w' = w := by
  go_enter Tryz.func43, Tryz.ntmps43
  go_wp2
  refine wp_loop_rounds 1 ?_
  rw [rounds_succ]
  go_wp2_with (go_at_call 55; refine (sortz_ins _ _).mono ?_; rintro e w' ⟨rfl, rfl⟩)
  (try simp only [Exit.inBlock, Exit.then]); refine bodyPost_ret (results_none rfl _ _ _) rfl ?_
  exact ⟨rfl, rfl⟩
set_option maxRecDepth 100000 in
theorem sortz_any (fv : Value) (w : World) : Calls Tryz.prog 28 #[.slice none 0 0, fv] w fun e w' => e = .returned (.tuple #[]) ∧ w' = w := by
  go_enter Tryz.func28, Tryz.ntmps28
  go_wp2_with (first | (go_at_call 44; refine (Tryz.bits_Len 0 _ (by decide) (by decide)).mono ?_; rintro e w' ⟨rfl, rfl⟩) | (go_at_call 43; refine (sortz_pdq _ _ _).mono ?_; rintro e w' ⟨rfl, rfl⟩))
  go_end0
  exact ⟨rfl, rfl⟩
end Go.Proofs.YtpmnflnaeknakaaGreatDoor
