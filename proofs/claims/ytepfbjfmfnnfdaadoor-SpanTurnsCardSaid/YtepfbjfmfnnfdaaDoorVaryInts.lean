/-
  The walk of 'packtrainlaw.VaryInts': the number of no more than so much that any bytes begin with is the document's.
-/
import Derived.Test.YtepfbjfmfnnfdaaDoorRefInt
import Derived.Test.YtepfbjfmfnnfdaaDoorPlace
namespace Go.Proofs.YtepfbjfmfnnfdaaDoor
open Go.RowKit

theorem placeIs_errV (w : World) (e : Nat) : placeIs w (errV e) e (-1) := by
  unfold placeIs errV
  by_cases h : e = 0
  · rw [if_pos h]; exact .inl ⟨rfl, by omega, rfl⟩
  · rw [if_neg h]; exact .inr (.inl ⟨rfl, rfl⟩)

set_option maxRecDepth 100000 in
set_option maxHeartbeats 1000000 in
theorem varyInts_walk (s : ByteArray) (hs : s.size ≤ maxLen) (most : Int) (m0 : -9223372036854775808 ≤ most) (m1 : most ≤ 9223372036854775807) (w : World) (hg : errT w) :
    Calls Tryd.prog 4 #[.string s, .int .i64 most] w fun e w' => e = .returned (.bool true) ∧ Below w.heap.size w w' := by
  have hs2 := hs
  unfold maxLen at hs2
  by_cases h100 : 100 < s.size
  · go_enter Tryd.func4, Tryd.ntmps4
    go_wp2
    go_ret
    exact ⟨rfl, Below.refl _ _⟩
  · obtain ⟨n, k, e, hr⟩ : ∃ n k e, intL s.data.toList most = (n, k, e) := ⟨_, _, _, rfl⟩
    have HA : Hid (intV (intL s.data.toList most) = .tuple #[.int .i64 n, .int .i64 k, errV e]) := by show intV _ = _; rw [hr]; rfl
    have HB : Hid (intR (intL s.data.toList most) = .tuple #[.int .i64 n, .int .i64 k, .int .i64 e]) := by show intR _ = _; rw [hr]; rfl
    have HP := Lib.hid (placeIs_errV w e)
    have HG := Lib.hid hg
    clear hr hg
    obtain ⟨v, hv⟩ : ∃ v, errV e = v := ⟨_, rfl⟩
    rw [hv] at HA HP
    clear hv
    go_enter Tryd.func4, Tryd.ntmps4
    go_wp2_with fail
    refine (rint_any s most _ hs m0 m1).mono ?_
    rintro r w' ⟨rfl, rfl⟩
    rw [HB.out]
    go_wp2_with fail
    refine (int_any s most _ hs m0 m1).mono ?_
    rintro r w' ⟨rfl, rfl⟩
    rw [HA.out]
    go_wp2_with fail
    refine (bare_ok v e _ HG.out HP.out).mono ?_
    rintro r w1 ⟨rfl, hb1⟩
    have HX := Lib.hid hb1
    clear hb1
    go_wp2
    go_ret
    exact ⟨rfl, HX.out⟩
end Go.Proofs.YtepfbjfmfnnfdaaDoor
