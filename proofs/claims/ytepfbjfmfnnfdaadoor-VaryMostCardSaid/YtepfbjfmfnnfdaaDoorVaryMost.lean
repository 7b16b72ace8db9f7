/-
  The walk of 'packtrainkeep.VaryMost': a number is taken just if it isn't more.
-/
import Derived.Test.YtepfbjfmfnnfdaaDoorVaryInt
import Derived.Test.YtepfbjfmfnnfdaaDoorStr
import Derived.Deep.RegionHeld3
namespace Go.Proofs.YtepfbjfmfnnfdaaDoor
open Go.RowKit

set_option maxRecDepth 100000 in
set_option maxHeartbeats 1000000 in
theorem varyMost_walk (a : Int) (a0 : 0 ≤ a) (a1 : a ≤ 18446744073709551615) (most : Int) (m0 : -9223372036854775808 ≤ most) (m1 : most ≤ 9223372036854775807) (w : World) (hg : errT w) :
    Calls Tryd.prog 11 #[.int .u64 a, .int .i64 most] w fun e w' => e = .returned (.bool true) ∧ Below w.heap.size w w' := by
  obtain ⟨n, rfl⟩ := Int.eq_ofNat_of_zero_le a0
  have hl10 := putL_le10 (n := n) (by omega)
  have hget : getL (putL n) = (n, (putL n).length, 0) := by have := getL_put n [] (by omega); simpa using this
  by_cases hm : most < 0 ∨ most < (n : Int)
  · have HI : Hid (intV (intL (putL n) most) = .tuple #[.int .i64 0, .int .i64 0, .iface 23 (.int .i64 2)]) := by
      show intV _ = _
      rw [intL_range hget hm]; rfl
    have HS : Hid ((⟨(putL n).toArray⟩ : ByteArray).size ≤ maxLen) := by show _ ≤ _; rw [bs_size]; unfold maxLen; omega
    clear hget
    have HM := Lib.hid hm
    rcases hm with hm | hm
    · go_enter Tryd.func11, Tryd.ntmps11
      go_wp2_with fail
      refine (counted_any _ hg).mono ?_
      rintro r w1 ⟨rfl, hb1⟩
      go_wp2_with fail
      refine (put_nat n _ (by omega)).mono ?_
      rintro r w2 ⟨rfl, hb2⟩
      have HB : Hid (Below w.heap.size w w2) := hb1.trans (hb2.mono hb1.size)
      have HG : Hid (errT w2) := hg.below HB.out
      clear hb1 hb2 hg
      go_wp2_with fail
      refine (int_any _ most _ HS.out m0 m1).mono ?_
      rintro r w' ⟨rfl, rfl⟩
      rw [bs_data, HI.out]
      go_wp2_with fail
      refine (tell_err _ 2 _ HG.out (.inl rfl)).mono ?_
      rintro r w3 ⟨rfl, hb3⟩
      have HB3 : Hid (Below w.heap.size w w3) := HB.out.trans (hb3.mono HB.out.size)
      clear hb3
      go_wp2
      go_ret
      exact ⟨rfl, HB3.out⟩
    · have hcase : most < 0 ∨ 0 ≤ most := by omega
      rcases hcase with hz | hz
      all_goals
        go_enter Tryd.func11, Tryd.ntmps11
        go_wp2_with fail
        refine (counted_any _ hg).mono ?_
        rintro r w1 ⟨rfl, hb1⟩
        go_wp2_with fail
        refine (put_nat n _ (by omega)).mono ?_
        rintro r w2 ⟨rfl, hb2⟩
        have HB : Hid (Below w.heap.size w w2) := hb1.trans (hb2.mono hb1.size)
        have HG : Hid (errT w2) := hg.below HB.out
        clear hb1 hb2 hg
        go_wp2_with fail
        refine (int_any _ most _ HS.out m0 m1).mono ?_
        rintro r w' ⟨rfl, rfl⟩
        rw [bs_data, HI.out]
        go_wp2_with fail
        refine (tell_err _ 2 _ HG.out (.inl rfl)).mono ?_
        rintro r w3 ⟨rfl, hb3⟩
        have HB3 : Hid (Below w.heap.size w w3) := HB.out.trans (hb3.mono HB.out.size)
        clear hb3
        go_wp2
        go_ret
        exact ⟨rfl, HB3.out⟩
  · have HI : Hid (intV (intL (putL n) most) = .tuple #[.int .i64 n, .int .i64 (putL n).length, .nilIface]) := by
      show intV _ = _
      rw [intL_ok hget hm]; rfl
    have HS : Hid ((⟨(putL n).toArray⟩ : ByteArray).size ≤ maxLen) := by show _ ≤ _; rw [bs_size]; unfold maxLen; omega
    have h1 : 0 ≤ most := by omega
    have h2 : (n : Int) ≤ most := by omega
    clear hm hget
    go_enter Tryd.func11, Tryd.ntmps11
    go_wp2_with fail
    refine (counted_any _ hg).mono ?_
    rintro r w1 ⟨rfl, hb1⟩
    go_wp2_with fail
    refine (put_nat n _ (by omega)).mono ?_
    rintro r w2 ⟨rfl, hb2⟩
    have HB : Hid (Below w.heap.size w w2) := hb1.trans (hb2.mono hb1.size)
    clear hb1 hb2 hg
    go_wp2_with fail
    refine (int_any _ most _ HS.out m0 m1).mono ?_
    rintro r w' ⟨rfl, rfl⟩
    rw [bs_data, HI.out]
    go_wp2_with fail
    refine (put_nat n _ (by omega)).mono ?_
    rintro r w3 ⟨rfl, hb3⟩
    have HB3 : Hid (Below w.heap.size w w3) := HB.out.trans (hb3.mono HB.out.size)
    clear hb3
    go_wp2
    go_ret
    exact ⟨rfl, HB3.out⟩
end Go.Proofs.YtepfbjfmfnnfdaaDoor
