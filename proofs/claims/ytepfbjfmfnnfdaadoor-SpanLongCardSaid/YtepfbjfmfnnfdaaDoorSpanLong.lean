/-
  The walk of 'packtrainkeep.SpanLong': a text with its length ahead is as long as it is, and as its length needs.
-/
import Derived.Test.YtepfbjfmfnnfdaaDoorSpanned
namespace Go.Proofs.YtepfbjfmfnnfdaaDoor
open Go.RowKit

set_option maxRecDepth 100000 in
set_option maxHeartbeats 2000000 in
theorem spanLong_walk (s : ByteArray) (hs : s.size ≤ maxLen) (w : World) (hg : errT w) :
    Calls Tryd.prog 16 #[.string s] w fun e w' => e = .returned (.bool true) ∧ Below w.heap.size w w' := by
  have hs2 := hs
  unfold maxLen at hs2
  by_cases h21 : 2100 < s.size
  · go_enter Tryd.func16, Tryd.ntmps16
    go_wp2_with fail
    refine (spanned_any _).mono ?_
    rintro r w1 ⟨rfl, hb1⟩
    go_wp2_with fail
    refine (counted_any _ (hg.below hb1)).mono ?_
    rintro r w2 ⟨rfl, hb2⟩
    have HX : Hid (Below w.heap.size w w2) := hb1.trans (hb2.mono hb1.size)
    clear hb1 hb2
    go_wp2
    go_ret
    exact ⟨rfl, HX.out⟩
  · by_cases h20 : 2000 < s.size
    · go_enter Tryd.func16, Tryd.ntmps16
      go_wp2_with fail
      refine (spanned_any _).mono ?_
      rintro r w1 ⟨rfl, hb1⟩
      go_wp2_with fail
      refine (counted_any _ (hg.below hb1)).mono ?_
      rintro r w2 ⟨rfl, hb2⟩
      have HX : Hid (Below w.heap.size w w2) := hb1.trans (hb2.mono hb1.size)
      have HG : Hid (errT w2) := hg.below HX.out
      clear hb1 hb2 hg
      go_wp2_with fail
      refine (sput_bad s _ h20 hs).mono ?_
      rintro r w' ⟨rfl, rfl⟩
      go_wp2_with fail
      refine (tell_err _ 4 _ HG.out (.inl rfl)).mono ?_
      rintro r w3 ⟨rfl, hb3⟩
      have HX2 : Hid (Below w.heap.size w w3) := HX.out.trans (hb3.mono HX.out.size)
      clear hb3
      go_wp2
      go_ret
      exact ⟨rfl, HX2.out⟩
    · have hl10 := putL_le10 (n := s.size) (by omega)
      have HSuf : Hid (Lib.hasSuffix (spanB s).data.toList s.data.toList = true) := by
        show Lib.hasSuffix _ _ = true
        rw [spanB_data]; unfold spanL Lib.hasSuffix; simp
      have htsz := spanB_size s
      have hsz1 : (spanB s).size ≤ 9223372036854775807 := by omega
      have hbq : (((spanB s).size : Int) == (s.size : Int) + ((putL s.size).length : Int)) = true := by rw [beq_iff_eq, htsz]; omega
      clear htsz
      obtain ⟨t, ht⟩ : ∃ t, spanB s = t := ⟨_, rfl⟩
      rw [ht] at HSuf hsz1 hbq
      have HT := Lib.hid ht
      clear ht
      go_enter Tryd.func16, Tryd.ntmps16
      go_wp2_with fail
      refine (spanned_any _).mono ?_
      rintro r w1 ⟨rfl, hb1⟩
      go_wp2_with fail
      refine (counted_any _ (hg.below hb1)).mono ?_
      rintro r w2 ⟨rfl, hb2⟩
      have HX : Hid (Below w.heap.size w w2) := hb1.trans (hb2.mono hb1.size)
      clear hb1 hb2 hg
      go_wp2_with fail
      refine (sput_ok s _ (by omega)).mono ?_
      rintro r w3 ⟨rfl, hb3⟩
      rw [HT.out]
      have HX2 : Hid (Below w.heap.size w w3) := HX.out.trans (hb3.mono HX.out.size)
      clear hb3
      go_wp2_with fail
      refine (put_nat s.size _ (by omega)).mono ?_
      rintro r w4 ⟨rfl, hb4⟩
      have HX3 : Hid (Below w.heap.size w w4) := HX2.out.trans (hb4.mono HX2.out.size)
      clear hb4
      go_wp2_with fail
      refine (Tryd.strings_HasSuffix t s _ hsz1).mono ?_
      rintro r w' ⟨rfl, rfl⟩
      rw [HSuf.out]
      go_wp2
      go_ret
      exact ⟨rfl, HX3.out⟩
end Go.Proofs.YtepfbjfmfnnfdaaDoor
