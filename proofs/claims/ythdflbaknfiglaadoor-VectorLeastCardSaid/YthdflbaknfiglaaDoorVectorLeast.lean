/-
  The walk of 'packtrainkeep.VectorLeast'.
-/
import Derived.Test.YthdflbaknfiglaaDoorVecFact
import Derived.Test.YthdflbaknfiglaaDoorVecLaw
namespace Go.Proofs.YthdflbaknfiglaaDoor
open Go.RowKit

set_option maxRecDepth 100000 in
set_option maxHeartbeats 4000000 in
theorem vectorLeast_walk (w : World) (a0 : Option Addr) (len0 cap0 : Nat) (l0 : List Ent) (hv0 : IsEnts w (.slice a0 len0 cap0) l0) (hn0 : l0.length = len0) (hc0 : len0 ≤ cap0) (hm0 : cap0 ≤ maxLen) (a1 : Option Addr) (len1 cap1 : Nat) (l1 : List Ent) (hv1 : IsEnts w (.slice a1 len1 cap1) l1) (hn1 : l1.length = len1) (hc1 : len1 ≤ cap1) (hm1 : cap1 ≤ maxLen) (a2 : Option Addr) (len2 cap2 : Nat) (l2 : List Ent) (hv2 : IsEnts w (.slice a2 len2 cap2) l2) (hn2 : l2.length = len2) (hc2 : len2 ≤ cap2) (hm2 : cap2 ≤ maxLen) (hg : errT w) :
    Calls Tryd.prog 10 #[.slice a0 len0 cap0, .slice a1 len1 cap1, .slice a2 len2 cap2] w fun e w' => e = .returned (.bool true) ∧ Below w.heap.size w w' := by
  have HV0 := Lib.hid hv0
  have HL0 : Hid (l0.length ≤ 9223372036854775807) := Lib.hid (show l0.length ≤ 9223372036854775807 by unfold maxLen at hm0; omega)
  have HV1 := Lib.hid hv1
  have HL1 : Hid (l1.length ≤ 9223372036854775807) := Lib.hid (show l1.length ≤ 9223372036854775807 by unfold maxLen at hm1; omega)
  have HV2 := Lib.hid hv2
  have HL2 : Hid (l2.length ≤ 9223372036854775807) := Lib.hid (show l2.length ≤ 9223372036854775807 by unfold maxLen at hm2; omega)
  have HG := Lib.hid hg
  clear hv0 hm0 hv1 hm1 hv2 hm2 hg
  by_cases hall : allR [l0, l1, l2] = true
  · have HX := Lib.hid hall
    have hr := allR_iff.1 hall
    have HR0 : Hid (rightV l0) := Lib.hid (hr l0 (by simp))
    have HR1 : Hid (rightV l1) := Lib.hid (hr l1 (by simp))
    have HR2 : Hid (rightV l2) := Lib.hid (hr l2 (by simp))
    clear hall hr
    go_enter Tryd.func10, Tryd.ntmps10
    go_wp2_with fail
    refine (known_any _ HG.out).mono ?_
    rintro r w1 ⟨rfl, hb1⟩
    have HB1 := Lib.hid hb1
    clear hb1
    go_wp2_with fail
    refine (few_three _ _ _ l0 l1 l2 true _ (HV0.out.below HB1.out) (HV1.out.below HB1.out) (HV2.out.below HB1.out) HL0.out HL1.out HL2.out HX.out).mono ?_
    rintro r w2 ⟨rfl, hb2⟩
    have HB2 : Hid (Below w.heap.size w w2) := HB1.out.trans (hb2.mono HB1.out.size)
    clear hb2
    rcases join_two HR0.out HR1.out with ⟨hlen, hj⟩ | ⟨hlen, hj, hrj⟩
    · have HJ := Lib.hid hj
      clear hlen hj
      go_wp2_with fail
      refine (vjoin_bad _ _ l0 l1 [] 4 _ (HV0.out.below HB2.out) (HV1.out.below HB2.out) HL0.out HL1.out (HG.out.below HB2.out) HJ.out (by decide)).mono ?_
      rintro r w3 ⟨v, rfl, hi3, hb3⟩
      have HB3 : Hid (Below w.heap.size w w3) := HB2.out.trans (hb3.mono HB2.out.size)
      have HI_v := Lib.hid hi3
      clear hi3
      obtain ⟨av, cv, rfl⟩ := HI_v.out.none
      clear hb3
      go_wp2
      go_ret
      exact ⟨by first | rfl | simp, HB3.out⟩
    · have HJ := Lib.hid hj
      have HRJ := Lib.hid hrj
      have HC1 := Lib.hid (cov_left HR0.out HR1.out hrj)
      have HC2 := Lib.hid (cov_right HR0.out HR1.out hrj)
      have HJL : Hid ((joinL l0 l1).length ≤ 9223372036854775807) := Lib.hid (show (joinL l0 l1).length ≤ 9223372036854775807 by omega)
      obtain ⟨c1, hc1⟩ : ∃ c, covB l2 l0 = c := ⟨_, rfl⟩
      obtain ⟨c2, hc2⟩ : ∃ c, covB l2 l1 = c := ⟨_, rfl⟩
      have HD1 := Lib.hid hc1
      have HD2 := Lib.hid hc2
      clear hlen hj hrj hc1 hc2
      go_wp2_with fail
      refine (vjoin_good _ _ l0 l1 (joinL l0 l1) _ (HV0.out.below HB2.out) (HV1.out.below HB2.out) HL0.out HL1.out (HG.out.below HB2.out) HJ.out).mono ?_
      rintro r w3 ⟨v, rfl, hi3, hb3⟩
      have HB3 : Hid (Below w.heap.size w w3) := HB2.out.trans (hb3.mono HB2.out.size)
      have HI_v := Lib.hid hi3
      clear hi3
      have HIV := Lib.hid (show IsEnts w3 v (joinL l0 l1) from HI_v.out)
      clear hb3
      go_wp2_with fail
      refine (vcov_as v _ (joinL l0 l1) l0 true _ HIV.out (HV0.out.below HB3.out) HJL.out HL0.out HC1.out).mono ?_
      rintro r w4 ⟨rfl, hb4⟩
      have HB4 : Hid (Below w.heap.size w w4) := HB3.out.trans (hb4.mono HB3.out.size)
      have HIV4 := Lib.hid (HIV.out.below hb4)
      clear hb4
      go_wp2_with fail
      refine (vcov_as v _ (joinL l0 l1) l1 true _ HIV4.out (HV1.out.below HB4.out) HJL.out HL1.out HC2.out).mono ?_
      rintro r w5 ⟨rfl, hb5⟩
      have HB5 : Hid (Below w.heap.size w w5) := HB4.out.trans (hb5.mono HB4.out.size)
      have HIV5 := Lib.hid (HIV4.out.below hb5)
      clear hb5
      go_wp2_with fail
      refine (vcov_as _ _ l2 l0 c1 _ (HV2.out.below HB5.out) (HV0.out.below HB5.out) HL2.out HL0.out HD1.out).mono ?_
      rintro r w6 ⟨rfl, hb6⟩
      have HB6 : Hid (Below w.heap.size w w6) := HB5.out.trans (hb6.mono HB5.out.size)
      have HIV6 := Lib.hid (HIV5.out.below hb6)
      clear hb6
      cases c1 with
      | false =>
        go_wp2
        go_ret
        exact ⟨by first | rfl | simp, HB6.out⟩
      | true =>
        go_wp2_with fail
        refine (vcov_as _ _ l2 l1 c2 _ (HV2.out.below HB6.out) (HV1.out.below HB6.out) HL2.out HL1.out HD2.out).mono ?_
        rintro r w7 ⟨rfl, hb7⟩
        have HB7 : Hid (Below w.heap.size w w7) := HB6.out.trans (hb7.mono HB6.out.size)
        have HIV7 := Lib.hid (HIV6.out.below hb7)
        clear hb7
        cases c2 with
        | false =>
          go_wp2
          go_ret
          exact ⟨by first | rfl | simp, HB7.out⟩
        | true =>
          go_wp2_with fail
          refine (vcov_as _ v l2 (joinL l0 l1) true _ (HV2.out.below HB7.out) HIV7.out HL2.out HJL.out (cov_least HR0.out HR1.out HR2.out HRJ.out HD1.out HD2.out)).mono ?_
          rintro r w8 ⟨rfl, hb8⟩
          have HB8 : Hid (Below w.heap.size w w8) := HB7.out.trans (hb8.mono HB7.out.size)
          clear hb8
          go_wp2
          go_ret
          exact ⟨by first | rfl | simp, HB8.out⟩
  · have HX : Hid (allR [l0, l1, l2] = false) := Lib.hid (by simpa using hall)
    clear hall
    go_enter Tryd.func10, Tryd.ntmps10
    go_wp2_with fail
    refine (known_any _ HG.out).mono ?_
    rintro r w1 ⟨rfl, hb1⟩
    have HB1 := Lib.hid hb1
    clear hb1
    go_wp2_with fail
    refine (few_three _ _ _ l0 l1 l2 false _ (HV0.out.below HB1.out) (HV1.out.below HB1.out) (HV2.out.below HB1.out) HL0.out HL1.out HL2.out HX.out).mono ?_
    rintro r w2 ⟨rfl, hb2⟩
    have HB2 : Hid (Below w.heap.size w w2) := HB1.out.trans (hb2.mono HB1.out.size)
    clear hb2
    go_wp2
    go_ret
    exact ⟨rfl, HB2.out⟩
end Go.Proofs.YthdflbaknfiglaaDoor
