/-
  The contract of ident.Right.
-/
import Derived.Test.YtpmnflnaeknakaaGreatDoorProg
import Derived.WalkKit
import Derived.Handy
import Derived.Below
namespace Go.Proofs.YtpmnflnaeknakaaGreatDoor
open Go.RowKit

/-- Right, as a Bool. -/
def idRW (x : Int × Int) : Bool := decide (1 ≤ x.1 ∧ x.1 ≤ 1099511627776 ∧ 0 ≤ x.2 ∧ x.2 ≤ 200)

set_option maxRecDepth 100000 in
theorem idrightW_any (x1 x2 : Int) (b : Bool) (w : World) (hb : idRW (x1, x2) = b) :
    Calls Tryz.prog 35 #[.agg #[.int .i64 x1, .int .i64 x2]] w fun e w' => e = .returned (.bool b) ∧ Below w.heap.size w w' := by
  subst hb
  unfold idRW
  by_cases h1 : 1 ≤ x1
  · by_cases h2 : x1 ≤ 1099511627776
    · by_cases h3 : 0 ≤ x2
      · by_cases h4 : x2 ≤ 200
        · rw [decide_eq_true (show 1 ≤ (x1, x2).1 ∧ (x1, x2).1 ≤ 1099511627776 ∧ 0 ≤ (x1, x2).2 ∧ (x1, x2).2 ≤ 200 from ⟨h1, h2, h3, h4⟩)]
          go_enter Tryz.func35, Tryz.ntmps35
          go_wp2
          go_ret
          exact ⟨rfl, (Below.refl _ _).alloc (Nat.le_refl _) _⟩
        · rw [decide_eq_false (show ¬ (1 ≤ (x1, x2).1 ∧ (x1, x2).1 ≤ 1099511627776 ∧ 0 ≤ (x1, x2).2 ∧ (x1, x2).2 ≤ 200) from fun h => h4 h.2.2.2)]
          have d : decide (x2 ≤ 200) = false := decide_eq_false h4
          go_enter Tryz.func35, Tryz.ntmps35
          go_wp2
          go_ret
          exact ⟨by first | rfl | (show Ending.returned (Value.bool (decide _)) = _; rw [d]), (Below.refl _ _).alloc (Nat.le_refl _) _⟩
      · rw [decide_eq_false (show ¬ (1 ≤ (x1, x2).1 ∧ (x1, x2).1 ≤ 1099511627776 ∧ 0 ≤ (x1, x2).2 ∧ (x1, x2).2 ≤ 200) from fun h => h3 h.2.2.1)]
        have d : decide (0 ≤ x2) = false := decide_eq_false h3
        go_enter Tryz.func35, Tryz.ntmps35
        go_wp2
        go_ret
        exact ⟨by first | rfl | simp, (Below.refl _ _).alloc (Nat.le_refl _) _⟩
    · rw [decide_eq_false (show ¬ (1 ≤ (x1, x2).1 ∧ (x1, x2).1 ≤ 1099511627776 ∧ 0 ≤ (x1, x2).2 ∧ (x1, x2).2 ≤ 200) from fun h => h2 h.2.1)]
      have d : decide (x1 ≤ 1099511627776) = false := decide_eq_false h2
      go_enter Tryz.func35, Tryz.ntmps35
      go_wp2
      go_ret
      exact ⟨by first | rfl | simp, (Below.refl _ _).alloc (Nat.le_refl _) _⟩
  · rw [decide_eq_false (show ¬ (1 ≤ (x1, x2).1 ∧ (x1, x2).1 ≤ 1099511627776 ∧ 0 ≤ (x1, x2).2 ∧ (x1, x2).2 ≤ 200) from fun h => h1 h.1)]
    have d : decide (1 ≤ x1) = false := decide_eq_false h1
    go_enter Tryz.func35, Tryz.ntmps35
    go_wp2
    go_ret
    exact ⟨by first | rfl | simp, (Below.refl _ _).alloc (Nat.le_refl _) _⟩
end Go.Proofs.YtpmnflnaeknakaaGreatDoor
