/-
  The contract of the document's IdRight.
-/
import Derived.Test.YtpmnflnaeknakaaGreatDoorIdRight
import Derived.Test.YtpmnflnaeknakaaGreatDoorWithin
import Derived.Lib.Hide
namespace Go.Proofs.YtpmnflnaeknakaaGreatDoor
open Go.RowKit

set_option maxRecDepth 100000 in
theorem ridrightW_as (x1 x2 : Int) (b : Bool) (w : World) (hb : idRW (x1, x2) = b) :
    Calls Tryz.prog 15 #[.agg #[.int .i64 x1, .int .i64 x2]] w fun e w' => e = .returned (.bool b) ∧ Below w.heap.size w w' := by
  subst hb
  by_cases h1 : 1 ≤ x1 ∧ x1 ≤ 1099511627776
  · by_cases h2 : 0 ≤ x2 ∧ x2 ≤ 200
    · have HW : Hid (idRW (x1, x2) = true) := Lib.hid (by unfold idRW; exact decide_eq_true ⟨h1.1, h1.2, h2.1, h2.2⟩)
      go_enter Tryz.func15, Tryz.ntmps15
      go_wp2_with fail
      refine (within_yes x1 1 1099511627776 _ h1.1 h1.2).mono ?_
      rintro r w' ⟨rfl, rfl⟩
      go_wp2_with fail
      refine (within_yes x2 0 200 _ h2.1 h2.2).mono ?_
      rintro r w' ⟨rfl, rfl⟩
      go_wp2
      go_ret
      exact ⟨by rw [HW.out]; rfl, (Below.refl _ _).alloc (Nat.le_refl _) _⟩
    · have HW : Hid (idRW (x1, x2) = false) := Lib.hid (by unfold idRW; exact decide_eq_false (fun h => h2 h.2.2))
      by_cases h3 : x2 < 0
      · go_enter Tryz.func15, Tryz.ntmps15
        go_wp2_with fail
        refine (within_yes x1 1 1099511627776 _ h1.1 h1.2).mono ?_
        rintro r w' ⟨rfl, rfl⟩
        go_wp2_with fail
        refine (within_low x2 0 200 _ h3).mono ?_
        rintro r w' ⟨rfl, rfl⟩
        go_wp2
        go_ret
        exact ⟨by rw [HW.out]; rfl, (Below.refl _ _).alloc (Nat.le_refl _) _⟩
      · go_enter Tryz.func15, Tryz.ntmps15
        go_wp2_with fail
        refine (within_yes x1 1 1099511627776 _ h1.1 h1.2).mono ?_
        rintro r w' ⟨rfl, rfl⟩
        go_wp2_with fail
        refine (within_high x2 0 200 _ (by omega) (by omega)).mono ?_
        rintro r w' ⟨rfl, rfl⟩
        go_wp2
        go_ret
        exact ⟨by rw [HW.out]; rfl, (Below.refl _ _).alloc (Nat.le_refl _) _⟩
  · have HW : Hid (idRW (x1, x2) = false) := Lib.hid (by unfold idRW; exact decide_eq_false (fun h => h1 ⟨h.1, h.2.1⟩))
    by_cases h3 : x1 < 1
    · go_enter Tryz.func15, Tryz.ntmps15
      go_wp2_with fail
      refine (within_low x1 1 1099511627776 _ h3).mono ?_
      rintro r w' ⟨rfl, rfl⟩
      go_wp2
      go_ret
      exact ⟨by rw [HW.out]; rfl, (Below.refl _ _).alloc (Nat.le_refl _) _⟩
    · go_enter Tryz.func15, Tryz.ntmps15
      go_wp2_with fail
      refine (within_high x1 1 1099511627776 _ (by omega) (by omega)).mono ?_
      rintro r w' ⟨rfl, rfl⟩
      go_wp2
      go_ret
      exact ⟨by rw [HW.out]; rfl, (Below.refl _ _).alloc (Nat.le_refl _) _⟩
end Go.Proofs.YtpmnflnaeknakaaGreatDoor
