/-
  The walk of 'packtrainlaw.SpanTurns': any text with its length ahead, and the text that any begins with, is the document's.
-/
import Derived.Test.YtepfbjfmfnnfdaaDoorRefSpan
import Derived.Test.YtepfbjfmfnnfdaaDoorVaryInts
namespace Go.Proofs.YtepfbjfmfnnfdaaDoor
open Go.RowKit

set_option maxRecDepth 100000 in
set_option maxHeartbeats 2000000 in
theorem spanTurns_walk (s : ByteArray) (hs : s.size ≤ maxLen) (w : World) (hg : errT w) :
    Calls Tryd.prog 12 #[.string s] w fun e w' => e = .returned (.bool true) ∧ Below w.heap.size w w' := by
  have hs2 := hs
  unfold maxLen at hs2
  by_cases h21 : 2100 < s.size
  · go_enter Tryd.func12, Tryd.ntmps12
    go_wp2
    go_ret
    exact ⟨rfl, Below.refl _ _⟩
  · obtain ⟨t, k, e, hr⟩ : ∃ t k e, getS s.data.toList = (t, k, e) := ⟨_, _, _, rfl⟩
    have HA : Hid (spanV (getS s.data.toList) = .tuple #[.string ⟨t.toArray⟩, .int .i64 k, errV e]) := by show spanV _ = _; rw [hr]; rfl
    have HB : Hid (spanR (getS s.data.toList) = .tuple #[.string ⟨t.toArray⟩, .int .i64 k, .int .i64 e]) := by show spanR _ = _; rw [hr]; rfl
    have HP := Lib.hid (fun w => placeIs_errV w e)
    have HP0 := Lib.hid (fun w => placeIs_errV w 0)
    have HP4 := Lib.hid (fun w => placeIs_errV w 4)
    have HG := Lib.hid hg
    clear hr hg
    obtain ⟨v, hv⟩ : ∃ v, errV e = v := ⟨_, rfl⟩
    rw [hv] at HA HP
    clear hv
    by_cases h20 : 2000 < s.size
    · go_enter Tryd.func12, Tryd.ntmps12
      go_wp2_with fail
      refine (rspan_bad s _ h20 hs).mono ?_
      rintro r w' ⟨rfl, rfl⟩
      go_wp2_with fail
      refine (sput_bad s _ h20 hs).mono ?_
      rintro r w' ⟨rfl, rfl⟩
      go_wp2_with fail
      refine (runspan_any s _ (by omega)).mono ?_
      rintro r w' ⟨rfl, rfl⟩
      rw [HB.out]
      go_wp2_with fail
      refine (sget_any s _ (by omega)).mono ?_
      rintro r w1 ⟨rfl, hb1⟩
      rw [HA.out]
      have HX := Lib.hid hb1
      clear hb1
      go_wp2_with fail
      refine (bare_ok _ 4 _ (HG.out.below HX.out) (HP4.out _)).mono ?_
      rintro r w2 ⟨rfl, hb2⟩
      have HX2 : Hid (Below w.heap.size w w2) := HX.out.trans (hb2.mono HX.out.size)
      clear hb2
      go_wp2_with fail
      refine (bare_ok v e _ (HG.out.below HX2.out) (HP.out _)).mono ?_
      rintro r w3 ⟨rfl, hb3⟩
      have HX3 : Hid (Below w.heap.size w w3) := HX2.out.trans (hb3.mono HX2.out.size)
      clear hb3
      go_wp2
      go_ret
      exact ⟨rfl, HX3.out⟩
    · go_enter Tryd.func12, Tryd.ntmps12
      go_wp2_with fail
      refine (rspan_ok s _ (by omega)).mono ?_
      rintro r w1 ⟨rfl, hb1⟩
      go_wp2_with fail
      refine (sput_ok s _ (by omega)).mono ?_
      rintro r w2 ⟨rfl, hb2⟩
      have HX : Hid (Below w.heap.size w w2) := hb1.trans (hb2.mono hb1.size)
      clear hb1 hb2
      go_wp2_with fail
      refine (runspan_any s _ (by omega)).mono ?_
      rintro r w' ⟨rfl, rfl⟩
      rw [HB.out]
      go_wp2_with fail
      refine (sget_any s _ (by omega)).mono ?_
      rintro r w3 ⟨rfl, hb3⟩
      rw [HA.out]
      have HX2 : Hid (Below w.heap.size w w3) := HX.out.trans (hb3.mono HX.out.size)
      clear hb3
      go_wp2_with fail
      refine (bare_ok _ 0 _ (HG.out.below HX2.out) (HP0.out _)).mono ?_
      rintro r w4 ⟨rfl, hb4⟩
      have HX3 : Hid (Below w.heap.size w w4) := HX2.out.trans (hb4.mono HX2.out.size)
      clear hb4
      go_wp2_with fail
      refine (bare_ok v e _ (HG.out.below HX3.out) (HP.out _)).mono ?_
      rintro r w5 ⟨rfl, hb5⟩
      have HX4 : Hid (Below w.heap.size w w5) := HX3.out.trans (hb5.mono HX3.out.size)
      clear hb5
      go_wp2
      go_ret
      exact ⟨rfl, HX4.out⟩
end Go.Proofs.YtepfbjfmfnnfdaaDoor
