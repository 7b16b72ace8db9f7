/-
  The walk of 'packtrainkeep.LzJoins'.
-/
import Derived.Test.YtjhmlmcibpjagaaDoorLzFact
namespace Go.Proofs.YtjhmlmcibpjagaaDoor
open Go.RowKit

theorem join_swell (a b : List UInt8) (h : a.length + b.length ≤ 20000) : swellF (sqL a ++ sqL b) = a ++ b ∧ (readF (sqL a ++ sqL b)).1 = (0, -1) := by
  obtain ⟨h1, h2⟩ := toks_join a b h
  have h3 : readF (sqL a ++ sqL b) = ((0, -1), toks a ++ toks b) := by
    have := read_write (l := toks a ++ toks b) (by rw [h1])
    rw [writeL_app] at this; exact this
  refine ⟨?_, by rw [h3]⟩
  rw [swell_ok (by rw [h3]), h3]; exact h2

set_option maxRecDepth 100000 in
set_option maxHeartbeats 1000000 in
theorem lzJoins_walk (a : ByteArray) (ha : a.size ≤ 140737488351232) (b : ByteArray) (hb : b.size ≤ 140737488351232) (w : World) (hg : errT w) :
    Calls Tryd.prog 9 #[.string a, .string b] w fun e w' => e = .returned (.bool true) ∧ Below w.heap.size w w' := by
  have HG := Lib.hid hg
  clear hg
  by_cases h1 : a.size + b.size ≤ 800
  · have d1 : (a.size : Int) + (b.size : Int) ≤ 800 := by omega
    obtain ⟨T, hT⟩ : ∃ T : ByteArray, ⟨(sqL a.data.toList).toArray⟩ = T := ⟨_, rfl⟩
    obtain ⟨U, hU⟩ : ∃ U : ByteArray, ⟨(sqL b.data.toList).toArray⟩ = U := ⟨_, rfl⟩
    have hla : a.data.toList.length = a.size := (size_data a).symm
    have hlb : b.data.toList.length = b.size := (size_data b).symm
    have hTU : (T ++ U).data.toList = sqL a.data.toList ++ sqL b.data.toList := by rw [app_data, ← hT, ← hU]
    have hj := join_swell a.data.toList b.data.toList (by omega)
    have la := sq_len a.data.toList (by omega)
    have lb := sq_len b.data.toList (by omega)
    have HT := Lib.hid hT
    have HU := Lib.hid hU
    have hts : T.size ≤ 220000 := by rw [size_data, ← hT]; exact la
    have hus : U.size ≤ 220000 := by rw [size_data, ← hU]; exact lb
    have HT1 : Hid (swellF (T ++ U).data.toList = (a ++ b).data.toList) := Lib.hid (show swellF (T ++ U).data.toList = (a ++ b).data.toList by rw [hTU, app_data]; exact hj.1)
    have HT2 : Hid ((readF (T ++ U).data.toList).1 = (0, -1)) := Lib.hid (show (readF (T ++ U).data.toList).1 = (0, -1) by rw [hTU]; exact hj.2)
    have HT3 : Hid ((T ++ U).size ≤ 400000) := Lib.hid (show (T ++ U).size ≤ 400000 by rw [size_data, hTU, List.length_append]; have := small_one a.data.toList (by omega); have h2 := small_one b.data.toList (by omega); unfold cost at this h2; unfold sqL; omega)
    clear hT hU hTU hj la lb hla hlb
    go_enter Tryd.func9, Tryd.ntmps9
    go_wp2_with fail
    refine (squeezed_any _ HG.out).mono ?_
    rintro r w1 ⟨rfl, hb1⟩
    have HB1 := Lib.hid hb1
    have HG1 := Lib.hid (HG.out.below hb1)
    clear hb1
    go_wp2_with fail
    refine (lzsq_as a T _ (by omega) HT.out).mono ?_
    rintro r w2 ⟨rfl, hb2⟩
    have HB2 : Hid (Below w.heap.size w w2) := HB1.out.trans (hb2.mono HB1.out.size)
    have HG2 := Lib.hid (HG1.out.below hb2)
    clear hb2
    go_wp2_with fail
    refine (lzsq_as b U _ (by omega) HU.out).mono ?_
    rintro r w3 ⟨rfl, hb3⟩
    have HB3 : Hid (Below w.heap.size w w3) := HB2.out.trans (hb3.mono HB2.out.size)
    have HG3 := Lib.hid (HG2.out.below hb3)
    clear hb3
    go_wp2_with fail
    refine (lzswell_as (T ++ U) (a ++ b) _ HT3.out HG3.out HT1.out HT2.out).mono ?_
    rintro r w4 ⟨rfl, hb4⟩
    have HB4 : Hid (Below w.heap.size w w4) := HB3.out.trans (hb4.mono HB3.out.size)
    clear hb4
    go_wp2
    go_ret
    exact ⟨by first | rfl | simp, HB4.out⟩
  · have d1 : 800 < (a.size : Int) + (b.size : Int) := by omega
    go_enter Tryd.func9, Tryd.ntmps9
    go_wp2_with fail
    refine (squeezed_any _ HG.out).mono ?_
    rintro r w1 ⟨rfl, hb1⟩
    have HB1 := Lib.hid hb1
    clear hb1
    go_wp2
    go_ret
    exact ⟨rfl, HB1.out⟩
end Go.Proofs.YtjhmlmcibpjagaaDoor
