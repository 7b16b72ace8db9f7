/-
  The fact that the laws of chapter 2 ask first ('spanned'); plain lemmas on texts with their lengths ahead.
-/
import Derived.Test.YtepfbjfmfnnfdaaDoorSpan
namespace Go.Proofs.YtepfbjfmfnnfdaaDoor
open Go.RowKit

theorem spanB_ab : spanB ⟨#[97, 98]⟩ = ⟨#[2, 97, 98]⟩ := bs_ext (by rw [spanB_data]; unfold spanL; rw [putL_small (by decide)]; rfl)
theorem getS_2abc : getS [2, 97, 98, 99] = ([97, 98], 3, 0) := by decide

theorem getS_cut (l : List UInt8) (j : Nat) (hl : l.length ≤ 2000) (hj : j < (spanL l).length) : getS ((spanL l).take j) = ([], 0, 7) := by
  unfold spanL at hj ⊢
  rw [List.length_append] at hj
  by_cases h : j < (putL l.length).length
  · rw [List.take_append_of_le_length (by omega)]
    exact getS_bad (getL_cut _ _ (by omega) h) (by decide)
  · have e : (putL l.length ++ l).take j = putL l.length ++ l.take (j - (putL l.length).length) := by
      rw [List.take_append, List.take_of_length_le (by omega)]
    rw [e]
    exact getS_miss (getL_put _ _ (by omega)) (by omega) (by simp; omega)
theorem getS_span (l more : List UInt8) (hl : l.length ≤ 2000) : getS (spanL l ++ more) = (l, (spanL l).length, 0) := by
  unfold spanL
  rw [List.append_assoc, getS_ok (getL_put _ _ (by omega)) (by omega) (by simp)]
  simp

set_option maxRecDepth 100000 in
theorem spanned_any (w : World) : Calls Tryd.prog 37 #[] w fun r w' => r = .returned (.bool true) ∧ Below w.heap.size w w' := by
  go_enter Tryd.func37, Tryd.ntmps37
  go_wp2_with fail
  refine (sput_ok ⟨#[97, 98]⟩ _ (by decide)).mono ?_
  rintro r w1 ⟨rfl, hb1⟩
  rw [spanB_ab]
  go_wp2_with fail
  refine (sget_any ⟨#[2, 97, 98, 99]⟩ _ (by decide)).mono ?_
  rintro r w2 ⟨rfl, hb2⟩
  rw [show spanV (getS (⟨#[2, 97, 98, 99]⟩ : ByteArray).data.toList) = .tuple #[.string ⟨#[97, 98]⟩, .int .i64 3, .nilIface] from by rw [show (⟨#[2, 97, 98, 99]⟩ : ByteArray).data.toList = [2, 97, 98, 99] from rfl, getS_2abc]; rfl]
  have HX : Hid (Below w.heap.size w w2) := hb1.trans (hb2.mono hb1.size)
  clear hb1 hb2
  go_wp2
  go_ret
  exact ⟨rfl, HX.out⟩
end Go.Proofs.YtepfbjfmfnnfdaaDoor
