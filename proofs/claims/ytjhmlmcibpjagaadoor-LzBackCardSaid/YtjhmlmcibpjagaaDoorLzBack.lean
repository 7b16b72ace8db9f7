/-
  The walk of 'packtrainkeep.LzBack'.
-/
import Derived.Test.YtjhmlmcibpjagaaDoorLzFact
namespace Go.Proofs.YtjhmlmcibpjagaaDoor
open Go.RowKit

set_option maxRecDepth 100000 in
set_option maxHeartbeats 1000000 in
theorem lzBack_walk (s : ByteArray) (hs : s.size ≤ maxLen) (w : World) (hg : errT w) :
    Calls Tryd.prog 6 #[.string s] w fun e w' => e = .returned (.bool true) ∧ Below w.heap.size w w' := by
  have HG := Lib.hid hg
  unfold maxLen at hs
  clear hg
  by_cases h1 : s.size ≤ 1000
  · have d1 : (s.size : Int) ≤ 1000 := by omega
    obtain ⟨T, hT⟩ : ∃ T : ByteArray, ⟨(sqL s.data.toList).toArray⟩ = T := ⟨_, rfl⟩
    have hl : s.data.toList.length ≤ 20000 := by rw [← size_data]; omega
    have hTd : T.data.toList = sqL s.data.toList := by rw [← hT]
    have HT := Lib.hid hT
    have HT1 : Hid (swellF T.data.toList = s.data.toList) := Lib.hid (show swellF T.data.toList = s.data.toList by rw [hTd]; exact (swell_sq _ hl).1)
    have HT2 : Hid ((readF T.data.toList).1 = (0, -1)) := Lib.hid (show (readF T.data.toList).1 = (0, -1) by rw [hTd]; exact (swell_sq _ hl).2)
    have HT3 : Hid (T.size ≤ 400000) := Lib.hid (show T.size ≤ 400000 by rw [size_data, hTd]; have := sq_len _ hl; omega)
    clear hT hl hTd
    go_enter Tryd.func6, Tryd.ntmps6
    go_wp2_with fail
    refine (squeezed_any _ HG.out).mono ?_
    rintro r w1 ⟨rfl, hb1⟩
    have HB1 := Lib.hid hb1
    have HG1 := Lib.hid (HG.out.below hb1)
    clear hb1
    go_wp2_with fail
    refine (lzsq_as s T _ (by omega) HT.out).mono ?_
    rintro r w2 ⟨rfl, hb2⟩
    have HB2 : Hid (Below w.heap.size w w2) := HB1.out.trans (hb2.mono HB1.out.size)
    have HG2 := Lib.hid (HG1.out.below hb2)
    clear hb2
    go_wp2_with fail
    refine (lzswell_as T s _ HT3.out HG2.out HT1.out HT2.out).mono ?_
    rintro r w3 ⟨rfl, hb3⟩
    have HB3 : Hid (Below w.heap.size w w3) := HB2.out.trans (hb3.mono HB2.out.size)
    clear hb3
    go_wp2
    go_ret
    exact ⟨by first | rfl | simp, HB3.out⟩
  · have d1 : 1000 < (s.size : Int) := by omega
    go_enter Tryd.func6, Tryd.ntmps6
    go_wp2_with fail
    refine (squeezed_any _ HG.out).mono ?_
    rintro r w1 ⟨rfl, hb1⟩
    have HB1 := Lib.hid hb1
    clear hb1
    go_wp2
    go_ret
    exact ⟨rfl, HB1.out⟩
end Go.Proofs.YtjhmlmcibpjagaaDoor
