/-
  The walk of 'packtrainkeep.SpanCut': no beginning of a text with its length ahead is one.
-/
import Derived.Test.YtepfbjfmfnnfdaaDoorSpanned
import Derived.Test.YtepfbjfmfnnfdaaDoorPick
namespace Go.Proofs.YtepfbjfmfnnfdaaDoor
open Go.RowKit

set_option maxRecDepth 100000 in
set_option maxHeartbeats 2000000 in
theorem spanCut_walk (s : ByteArray) (hs : s.size ≤ maxLen) (b : Int) (_b0 : -9223372036854775808 ≤ b) (_b1 : b ≤ 9223372036854775807) (w : World) (hg : errT w) :
    Calls Tryd.prog 15 #[.string s, .int .i64 b] w fun e w' => e = .returned (.bool true) ∧ Below w.heap.size w w' := by
  unfold maxLen at hs
  by_cases h5 : 500 < s.size
  · go_enter Tryd.func15, Tryd.ntmps15
    go_wp2_with fail
    refine (spanned_any _).mono ?_
    rintro r w1 ⟨rfl, hb1⟩
    have HX := Lib.hid hb1
    clear hb1
    go_wp2
    go_ret
    exact ⟨rfl, HX.out⟩
  · have NB : Hid (s.size ≤ 2000) := by have : s.size ≤ 2000 := by omega
                                        exact this
    have hl10 := putL_le10 (n := s.size) (by omega)
    have hl0 := putL_pos s.size
    have htsz := spanB_size s
    have HC : Hid (∀ j, j < (spanB s).size → getS (((spanB s).extract 0 j).data.toList) = ([], 0, 7)) := by
      show ∀ j, _ → _
      intro j hj
      rw [ext_data, List.drop_zero, spanB_data]
      exact getS_cut _ j (by rw [← size_data]; omega) (by rw [← spanB_data, ← size_data]; exact hj)
    have hsz1 : (spanB s).size ≤ 510 := by omega
    have hsz0 : 1 ≤ (spanB s).size := by omega
    have hne : (spanB s).toList.isEmpty = false := by
      rw [ByteArray.toList_eq, List.isEmpty_eq_false_iff]
      intro h
      have h0 : (spanB s).size = 0 := by rw [size_data, h]; rfl
      omega
    clear htsz
    obtain ⟨t, ht⟩ : ∃ t, spanB s = t := ⟨_, rfl⟩
    rw [ht] at HC hsz1 hsz0 hne
    have HT := Lib.hid ht
    clear ht
    go_enter Tryd.func15, Tryd.ntmps15
    go_wp2_with fail
    refine (spanned_any _).mono ?_
    rintro r w1 ⟨rfl, hb1⟩
    go_wp2_with fail
    refine (sput_ok s _ NB.out).mono ?_
    rintro r w2 ⟨rfl, hb2⟩
    rw [HT.out]
    have HX : Hid (Below w.heap.size w w2) := hb1.trans (hb2.mono hb1.size)
    clear hb1 hb2
    go_wp2_with fail
    refine (pick_any b t.size _ (by omega) (by omega)).mono ?_
    rintro r w' ⟨rfl, rfl⟩
    obtain ⟨k, hk, hkl⟩ : ∃ k : Nat, pickN b t.size = k ∧ k < t.size := by
      have := pickN_pos (a := b) (n := t.size) (by omega)
      exact ⟨(pickN b t.size).toNat, by omega, by omega⟩
    rw [hk]
    clear hk
    go_wp2_with fail
    refine (sget_any _ _ (by rw [ByteArray.size_extract]; omega)).mono ?_
    rintro r w3 ⟨rfl, hb3⟩
    rw [HC.out k hkl, show spanV (([], 0, 7) : List UInt8 × Nat × Nat) = .tuple #[.string ⟨#[]⟩, .int .i64 0, .iface 23 (.int .i64 7)] from rfl]
    have HX2 : Hid (Below w.heap.size w w3) := HX.out.trans (hb3.mono HX.out.size)
    have HG : Hid (errT w3) := hg.below HX2.out
    clear hb3 hg
    go_wp2_with fail
    refine (tell_err _ 7 _ HG.out (.inl rfl)).mono ?_
    rintro r w4 ⟨rfl, hb4⟩
    have HX3 : Hid (Below w.heap.size w w4) := HX2.out.trans (hb4.mono HX2.out.size)
    clear hb4
    go_wp2
    go_ret
    exact ⟨rfl, HX3.out⟩
end Go.Proofs.YtepfbjfmfnnfdaaDoor
