/-
  The walk of 'packtrainkeep.CrcThree'.
-/
import Derived.Test.YtgjmelinfkifcaaCrcSummed
import Derived.Test.YtgjmelinfkifcaaPick
import Derived.Test.YtgjmelinfkifcaaCrcJoin
namespace Go.Proofs.Ytgjmelinfkifcaa
open Go.RowKit

set_option maxRecDepth 100000 in
set_option maxHeartbeats 1000000 in
theorem crcThree_walk (a : Int) (a0 : 0 ≤ a) (a1 : a ≤ 4294967295) (b : Int) (b0 : 0 ≤ b) (b1 : b ≤ 4294967295) (c : Int) (c0 : 0 ≤ c) (c1 : c ≤ 4294967295) (n : Int) (_ : -9223372036854775808 ≤ n) (_ : n ≤ 9223372036854775807) (m : Int) (_ : -9223372036854775808 ≤ m) (_ : m ≤ 9223372036854775807) (w : World) :
    Calls Try.prog 7 #[.int .u32 a, .int .u32 b, .int .u32 c, .int .i64 n, .int .i64 m] w fun e w' => e = .returned (.bool true) ∧ Below w.heap.size w w' := by
  obtain ⟨a, rfl⟩ := Int.eq_ofNat_of_zero_le a0
  obtain ⟨b, rfl⟩ := Int.eq_ofNat_of_zero_le b0
  obtain ⟨c, rfl⟩ := Int.eq_ofNat_of_zero_le c0
  have ha : a < 4294967296 := by omega
  have hb : b < 4294967296 := by omega
  have hc : c < 4294967296 := by omega
  clear a0 a1 b0 b1 c0 c1
  obtain ⟨p, hp⟩ := Int.eq_ofNat_of_zero_le (pickN_pos (a := n) (show 0 < (3000 : Int) by omega)).1
  obtain ⟨q, hq⟩ := Int.eq_ofNat_of_zero_le (pickN_pos (a := m) (show 0 < (3000 : Int) by omega)).1
  have p1 : p < 3000 := by have := (pickN_pos (a := n) (show 0 < (3000 : Int) by omega)).2; omega
  have q1 : q < 3000 := by have := (pickN_pos (a := m) (show 0 < (3000 : Int) by omega)).2; omega
  have HP := Lib.hid hp
  have HQ := Lib.hid hq
  have HJ := Lib.hid (join_three a b c p q)
  have j1 := join_lt p ha hb
  have j2 := join_lt q hb hc
  clear hp hq
  go_enter Try.func7, Try.ntmps7
  go_wp2_with (first | (go_at_call 19; refine (summed_any _).mono ?_; rintro e w' ⟨rfl, rfl⟩) | (go_at_call 20; with_reducible refine (pick_any n _ _ (by omega) (by omega)).mono ?_; rintro e w' ⟨rfl, rfl⟩; rw [HP.out]) | (go_at_call 20; with_reducible refine (pick_any m _ _ (by omega) (by omega)).mono ?_; rintro e w' ⟨rfl, rfl⟩; rw [HQ.out]))
  refine (join_nat a b p _ ha hb (by omega)).mono ?_
  rintro e w1 ⟨rfl, hb1⟩
  have HB1 := Lib.hid hb1
  clear hb1
  go_wp2_with fail
  refine (join_nat _ c q _ j1 hc (by omega)).mono ?_
  rintro e w2 ⟨rfl, hb2⟩
  have HB2 : Hid (Below w.heap.size w w2) := HB1.out.trans (hb2.mono HB1.out.size)
  clear hb2
  rw [HJ.out]
  go_wp2_with fail
  refine (join_nat b c q _ hb hc (by omega)).mono ?_
  rintro e w3 ⟨rfl, hb3⟩
  have HB3 : Hid (Below w.heap.size w w3) := HB2.out.trans (hb3.mono HB2.out.size)
  clear hb3
  go_wp2_with fail
  rw [← Int.natCast_add]
  refine (join_nat a _ (p + q) _ ha j2 (by omega)).mono ?_
  rintro e w4 ⟨rfl, hb4⟩
  have HB4 : Hid (Below w.heap.size w w4) := HB3.out.trans (hb4.mono HB3.out.size)
  clear hb4
  go_wp2
  go_ret
  exact ⟨rfl, HB4.out⟩
end Go.Proofs.Ytgjmelinfkifcaa
