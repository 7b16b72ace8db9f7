/-
  The walk of 'packtrainkeep.LzSmall'.
-/
import Derived.Test.YtjhmlmcibpjagaaDoorLzFact
import Derived.Test.YtjhmlmcibpjagaaDoorMatchWrong
namespace Go.Proofs.YtjhmlmcibpjagaaDoor
open Go.RowKit

set_option maxRecDepth 100000 in
set_option maxHeartbeats 2000000 in
theorem lzSmall_walk (s : ByteArray) (hs : s.size ≤ maxLen) (w : World) (hg : errT w) :
    Calls Tryd.prog 8 #[.string s] w fun e w' => e = .returned (.bool true) ∧ Below w.heap.size w w' := by
  have HG := Lib.hid hg
  unfold maxLen at hs
  clear hg
  by_cases h1 : s.size ≤ 400
  · have d1 : (s.size : Int) ≤ 400 := by omega
    by_cases h0 : s.size = 0
    · have e1 := empty_b h0
      go_enter Tryd.func8, Tryd.ntmps8
      go_wp2_with fail
      refine (squeezed_any _ HG.out).mono ?_
      rintro r w1 ⟨rfl, hb1⟩
      have HB1 := Lib.hid hb1
      clear hb1
      go_wp2
      go_ret
      exact ⟨rfl, HB1.out⟩
    · have e1 := full_b h0
      have hl : s.data.toList.length = s.size := (size_data s).symm
      have hss : (s ++ s).data.toList = s.data.toList ++ s.data.toList := app_data s s
      obtain ⟨T, hT⟩ : ∃ T : ByteArray, ⟨(sqL s.data.toList).toArray⟩ = T := ⟨_, rfl⟩
      obtain ⟨U, hU⟩ : ∃ U : ByteArray, ⟨(sqL (s ++ s).data.toList).toArray⟩ = U := ⟨_, rfl⟩
      have hts : T.size = cost (toks s.data.toList) := by rw [size_data, ← hT]; rfl
      have hus : U.size = cost (toks (s.data.toList ++ s.data.toList)) := by rw [size_data, ← hU, hss]; rfl
      have m1 := small_one s.data.toList (by omega)
      rw [← hts, hl] at m1
      have d2 : (T.size : Int) ≤ (s.size : Int) + 2 + (s.size : Int) / 4 := by omega
      have d2' : (T.size : Int) ≤ 1000 := by omega
      have HSS : Hid ((s ++ s).size ≤ 20000) := Lib.hid (show (s ++ s).size ≤ 20000 by rw [app_size]; omega)
      have HT := Lib.hid hT
      have HU := Lib.hid hU
      have d3 : 8 ≤ s.size → (U.size : Int) ≤ (T.size : Int) + 3 + 3 * ((s.size : Int) / 67 + 1) := fun h8 => by
        have m2 := small_two s.data.toList (by omega) (by omega)
        rw [← hts, ← hus, hl] at m2
        omega
      have HD3 := Lib.hid d3
      clear hT hU hts hus m1 hss hl d3 h0
      by_cases h8 : s.size < 8
      · have d4 : (s.size : Int) < 8 := by omega
        clear h8
        go_enter Tryd.func8, Tryd.ntmps8
        go_wp2_with fail
        refine (squeezed_any _ HG.out).mono ?_
        rintro r w1 ⟨rfl, hb1⟩
        have HB1 := Lib.hid hb1
        clear hb1
        go_wp2_with fail
        refine (lzsq_as s T _ (by omega) HT.out).mono ?_
        rintro r w2 ⟨rfl, hb2⟩
        have HB2 : Hid (Below w.heap.size w w2) := HB1.out.trans (hb2.mono HB1.out.size)
        clear hb2
        go_wp2_with fail
        refine (lzsq_as (s ++ s) U _ HSS.out HU.out).mono ?_
        rintro r w3 ⟨rfl, hb3⟩
        have HB3 : Hid (Below w.heap.size w w3) := HB2.out.trans (hb3.mono HB2.out.size)
        clear hb3
        go_wp2
        go_ret
        exact ⟨by first | rfl | simp, HB3.out⟩
      · have d4 : (8 : Int) ≤ (s.size : Int) := by omega
        have d5 := HD3.out (by omega)
        clear h8
        go_enter Tryd.func8, Tryd.ntmps8
        go_wp2_with fail
        refine (squeezed_any _ HG.out).mono ?_
        rintro r w1 ⟨rfl, hb1⟩
        have HB1 := Lib.hid hb1
        clear hb1
        go_wp2_with fail
        refine (lzsq_as s T _ (by omega) HT.out).mono ?_
        rintro r w2 ⟨rfl, hb2⟩
        have HB2 : Hid (Below w.heap.size w w2) := HB1.out.trans (hb2.mono HB1.out.size)
        clear hb2
        go_wp2_with fail
        refine (lzsq_as (s ++ s) U _ HSS.out HU.out).mono ?_
        rintro r w3 ⟨rfl, hb3⟩
        have HB3 : Hid (Below w.heap.size w w3) := HB2.out.trans (hb3.mono HB2.out.size)
        clear hb3
        go_wp2
        go_ret
        exact ⟨by first | rfl | simp, HB3.out⟩
  · have d1 : 400 < (s.size : Int) := by omega
    go_enter Tryd.func8, Tryd.ntmps8
    go_wp2_with fail
    refine (squeezed_any _ HG.out).mono ?_
    rintro r w1 ⟨rfl, hb1⟩
    have HB1 := Lib.hid hb1
    clear hb1
    go_wp2
    go_ret
    exact ⟨rfl, HB1.out⟩
end Go.Proofs.YtjhmlmcibpjagaaDoor
