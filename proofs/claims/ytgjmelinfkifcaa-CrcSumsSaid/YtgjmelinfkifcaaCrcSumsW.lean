/-
  The walk of 'packtrainlaw.CrcSums'.
-/
import Derived.Test.YtgjmelinfkifcaaCrcRef
import Derived.Below
namespace Go.Proofs.Ytgjmelinfkifcaa
open Go.RowKit

set_option maxRecDepth 100000 in
set_option maxHeartbeats 1000000 in
theorem crcSums_walk (s : ByteArray) (hs : s.size ≤ maxLen) (x : Int) (x0 : 0 ≤ x) (x1 : x ≤ 4294967295) (w : World) :
    Calls Try.prog 3 #[.string s, .int .u32 x] w fun e w' => e = .returned (.bool true) ∧ Below w.heap.size w w' := by
  by_cases h8 : 800 < s.size
  · unfold maxLen at hs
    go_enter Try.func3, Try.ntmps3
    go_wp2_with fail
    go_ret
    exact ⟨rfl, Below.refl _ _⟩
  · have hx : x < 4294967296 := by omega
    have h9 : s.size ≤ 1000000 := by omega
    go_enter Try.func3, Try.ntmps3
    go_wp2_with (first | (go_at_call 13; refine (sum_any _ _ hs).mono ?_; rintro e w' ⟨rfl, rfl⟩) | (go_at_call 14; refine (refsum_any _ _ h9).mono ?_; rintro e w' ⟨rfl, rfl⟩) | (go_at_call 15; refine (more_any _ _ _ x0 hx hs).mono ?_; rintro e w' ⟨rfl, rfl⟩) | (go_at_call 16; refine (refmore_any _ _ _ x0 hx h9).mono ?_; rintro e w' ⟨rfl, rfl⟩))
    go_ret
    exact ⟨rfl, Below.refl _ _⟩
end Go.Proofs.Ytgjmelinfkifcaa
