/-
  The fact 'summed' of packtrainkeep, and 'pick'.
-/
import Derived.Test.YtggokgiebdadpaaCrcMore
namespace Go.Proofs.Ytggokgiebdadpaa
open Go.RowKit

theorem sum_known : sum [49, 50, 51, 52, 53, 54, 55, 56, 57] = 3808858755 := by decide +kernel
theorem more_known : more (sum [49, 50, 51, 52]) [53, 54, 55, 56, 57] = 3808858755 := by decide +kernel

set_option maxRecDepth 100000 in
set_option maxHeartbeats 400000 in
theorem summed_any (w : World) :
    Calls Try.prog 11 #[] w fun e w' => e = .returned (.bool true) ∧ w = w' := by
  have h1 := sum_known
  have h2 := sum_nil
  have h3 := more_known
  have h4 := sum_lt [49, 50, 51, 52]
  go_enter Try.func11, Try.ntmps11
  go_wp2_with (first | (go_at_call 14; refine (sum_any _ _ (by decide)).mono ?_; rintro e w' ⟨rfl, rfl⟩) | (go_at_call 22; refine (more_any _ _ _ (Int.natCast_nonneg _) (by omega) (by decide)).mono ?_; rintro e w' ⟨rfl, rfl⟩; rw [Int.toNat_natCast]))
  go_ret
  exact ⟨rfl, rfl⟩
end Go.Proofs.Ytggokgiebdadpaa
