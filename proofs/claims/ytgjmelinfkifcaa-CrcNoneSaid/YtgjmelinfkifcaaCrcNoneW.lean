/-
  The walk of 'packtrainkeep.CrcNone'.
-/
import Derived.Test.YtgjmelinfkifcaaCrcSummed
import Derived.Test.YtgjmelinfkifcaaCrcJoin
namespace Go.Proofs.Ytgjmelinfkifcaa
open Go.RowKit

theorem more_none (c : Nat) : more c [] = c := by unfold more; exact inv_inv c

set_option maxRecDepth 100000 in
set_option maxHeartbeats 1000000 in
theorem crcNone_walk (s : ByteArray) (hs : s.size ≤ maxLen) (x : Int) (x0 : 0 ≤ x) (x1 : x ≤ 4294967295) (w : World) :
    Calls Try.prog 11 #[.string s, .int .u32 x] w fun e w' => e = .returned (.bool true) ∧ Below w.heap.size w w' := by
  obtain ⟨x, rfl⟩ := Int.eq_ofNat_of_zero_le x0
  have hx : x < 4294967296 := by omega
  clear x0 x1
  by_cases h3 : 300 < s.size
  · unfold maxLen at hs
    go_enter Try.func11, Try.ntmps11
    go_wp2_with (go_at_call 19; refine (summed_any _).mono ?_; rintro e w' ⟨rfl, rfl⟩)
    go_ret
    exact ⟨rfl, Below.refl _ _⟩
  · have l1 := sum_lt s.data.toList
    have HS := Lib.hid hs
    clear hs
    have HM := Lib.hid (more_none x)
    have h0 := sum_nil
    have HJ1 := Lib.hid (join_none (sum s.data.toList))
    have HJ2 := Lib.hid (join_front (sum s.data.toList) s.size)
    go_enter Try.func11, Try.ntmps11
    go_wp2_with (first | (go_at_call 19; refine (summed_any _).mono ?_; rintro e w' ⟨rfl, rfl⟩) | (go_at_call 13; refine (sum_any s _ HS.out).mono ?_; rintro e w' ⟨rfl, rfl⟩) | (go_at_call 13; refine (sum_any _ _ (by decide)).mono ?_; rintro e w' ⟨rfl, rfl⟩) | (go_at_call 15; refine (more_any _ _ _ (Int.natCast_nonneg _) (by omega) (by decide)).mono ?_; rintro e w' ⟨rfl, rfl⟩; rw [Int.toNat_natCast, HM.out]))
    refine (join_nat _ 0 0 _ l1 (by omega) (by omega)).mono ?_
    rintro e w1 ⟨rfl, hb1⟩
    rw [HJ1.out]
    have HB1 := Lib.hid hb1
    clear hb1
    go_wp2_with (go_at_call 13; refine (sum_any _ _ (by decide)).mono ?_; rintro e w' ⟨rfl, rfl⟩)
    refine (join_nat 0 _ s.size _ (by omega) l1 (by omega)).mono ?_
    rintro e w2 ⟨rfl, hb2⟩
    rw [HJ2.out]
    have HB2 : Hid (Below w.heap.size w w2) := HB1.out.trans (hb2.mono HB1.out.size)
    clear hb2
    go_wp2
    go_ret
    exact ⟨rfl, HB2.out⟩
end Go.Proofs.Ytgjmelinfkifcaa
