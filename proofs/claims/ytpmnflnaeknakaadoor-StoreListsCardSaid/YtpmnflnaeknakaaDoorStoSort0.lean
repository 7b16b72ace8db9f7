/-
  slices.SortFunc of no cells at all; the comparing functions.
-/
import Derived.Test.YtpmnflnaeknakaaDoorStoSort
import Derived.Lib.Walk
namespace Go.Proofs.YtpmnflnaeknakaaDoor
open Go.RowKit Go.Shelf Go.Lib Go.Sort

set_option maxRecDepth 100000 in
theorem cells_cmp : CmpC 28 := by
  intro a b W
  obtain ⟨ka, ha, ta, sa, la⟩ := a
  obtain ⟨kb, hb, tb, sb, lb⟩ := b
  show Calls Tryd.prog 28 #[.agg #[.string ka, .bool ha, .string ta, .int .i64 sa, la], .agg #[.string kb, .bool hb, .string tb, .int .i64 sb, lb]] W fun e w' => e = .returned (.int .i64 (cfB ka kb)) ∧ ∃ q os', w' = grow (W.drewN q) os'
  unfold cfB
  have hcon := fun W' => Tryd.strings_Compare ka kb W'
  generalize Lib.compareBytes ka.data.toList kb.data.toList = r at hcon ⊢
  go_enter Tryd.func28, Tryd.ntmps28
  go_wp2_with (go_at_call 29; refine (hcon _).mono ?_; rintro e w' ⟨rfl, rfl⟩)
  go_ret
  exact ⟨rfl, 0, _, by rw [alloc_eq_grow, alloc_eq_grow, grow_grow]; rfl⟩
theorem cells_eg : ∀ args w, (callFunc 28 args).run Tryd.prog w = .ok (.enter 28 args) w := enters_of Tryd.func28 (by kernel_rfl) rfl

set_option maxRecDepth 100000 in
theorem sortz_ins (fv : Value) (w : World) : Calls Tryd.prog 58 #[.slice none 0 0, .int .i64 0, .int .i64 0, fv] w fun e w' => e = .returned (.tuple #[]) ∧ w' = w := by
  go_enter Tryd.func58, Tryd.ntmps58
  go_wp2
  refine wp_loop_rounds 1 ?_
  rw [rounds_succ]
  go_wp2
  go_end0
  exact ⟨rfl, rfl⟩
set_option maxRecDepth 100000 in
theorem sortz_pdq (fv : Value) (lim : Int) (w : World) : Calls Tryd.prog 40 #[.slice none 0 0, .int .i64 0, .int .i64 0, .int .i64 lim, fv] w fun e w' => e = .returned (.tuple #[]) ∧ w' = w := by
  go_enter Tryd.func40, Tryd.ntmps40
  go_wp2
  refine wp_loop_rounds 1 ?_
  rw [rounds_succ]
  go_wp2_with (go_at_call 58; refine (sortz_ins _ _).mono ?_; rintro e w' ⟨rfl, rfl⟩)
  (try simp only [Exit.inBlock, Exit.then]); refine bodyPost_ret (results_none rfl _ _ _) rfl ?_
  exact ⟨rfl, rfl⟩
set_option maxRecDepth 100000 in
theorem sortz_any (fv : Value) (w : World) : Calls Tryd.prog 27 #[.slice none 0 0, fv] w fun e w' => e = .returned (.tuple #[]) ∧ w' = w := by
  go_enter Tryd.func27, Tryd.ntmps27
  go_wp2_with (first | (go_at_call 32; refine (Tryd.bits_Len 0 _ (by decide) (by decide)).mono ?_; rintro e w' ⟨rfl, rfl⟩) | (go_at_call 40; refine (sortz_pdq _ _ _).mono ?_; rintro e w' ⟨rfl, rfl⟩))
  go_end0
  exact ⟨rfl, rfl⟩
end Go.Proofs.YtpmnflnaeknakaaDoor
