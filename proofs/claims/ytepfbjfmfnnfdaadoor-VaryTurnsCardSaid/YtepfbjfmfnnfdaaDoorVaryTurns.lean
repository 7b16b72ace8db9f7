/-
  The walk of 'packtrainlaw.VaryTurns': any number as bytes, and the number that any bytes begin with, is the document's.
-/
import Derived.Test.YtepfbjfmfnnfdaaDoorRefVary
import Derived.Test.YtepfbjfmfnnfdaaDoorRefInt
import Derived.Test.YtepfbjfmfnnfdaaDoorVaryInts
namespace Go.Proofs.YtepfbjfmfnnfdaaDoor
open Go.RowKit

set_option maxRecDepth 100000 in
set_option maxHeartbeats 1000000 in
theorem varyTurns_walk (a : Int) (a0 : 0 ≤ a) (a1 : a ≤ 18446744073709551615) (s : ByteArray) (hs : s.size ≤ maxLen) (w : World) (hg : errT w) :
    Calls Tryd.prog 3 #[.int .u64 a, .string s] w fun e w' => e = .returned (.bool true) ∧ Below w.heap.size w w' := by
  obtain ⟨N, rfl⟩ := Int.eq_ofNat_of_zero_le a0
  have hs2 := hs
  unfold maxLen at hs2
  by_cases h100 : 100 < s.size
  · go_enter Tryd.func3, Tryd.ntmps3
    go_wp2
    go_ret
    exact ⟨rfl, Below.refl _ _⟩
  · obtain ⟨n, k, e, hr⟩ : ∃ n k e, getL s.data.toList = (n, k, e) := ⟨_, _, _, rfl⟩
    have HA : Hid (numV (getL s.data.toList) = .tuple #[.int .u64 n, .int .i64 k, errV e]) := by show numV _ = _; rw [hr]; rfl
    have HB : Hid (numR (getL s.data.toList) = .tuple #[.int .u64 n, .int .i64 k, .int .i64 e]) := by show numR _ = _; rw [hr]; rfl
    have HP := Lib.hid (fun w => placeIs_errV w e)
    have HG := Lib.hid hg
    clear hr hg
    obtain ⟨v, hv⟩ : ∃ v, errV e = v := ⟨_, rfl⟩
    rw [hv] at HA HP
    clear hv
    go_enter Tryd.func3, Tryd.ntmps3
    go_wp2_with fail
    refine (unvary_any s _ hs).mono ?_
    rintro r w' ⟨rfl, rfl⟩
    rw [HB.out]
    go_wp2_with fail
    refine (get_any s _ hs).mono ?_
    rintro r w' ⟨rfl, rfl⟩
    rw [HA.out]
    go_wp2_with fail
    refine (put_nat N _ (by omega)).mono ?_
    rintro r w1 ⟨rfl, hb1⟩
    go_wp2_with fail
    refine (rvary_any N _ (by omega)).mono ?_
    rintro r w2 ⟨rfl, hb2⟩
    have HX : Hid (Below w.heap.size w w2) := hb1.trans (hb2.mono hb1.size)
    clear hb1 hb2
    go_wp2_with fail
    refine (bare_ok v e _ (HG.out.below HX.out) (HP.out _)).mono ?_
    rintro r w3 ⟨rfl, hb3⟩
    have HX2 : Hid (Below w.heap.size w w3) := HX.out.trans (hb3.mono HX.out.size)
    clear hb3
    go_wp2
    go_ret
    exact ⟨rfl, HX2.out⟩
end Go.Proofs.YtepfbjfmfnnfdaaDoor
