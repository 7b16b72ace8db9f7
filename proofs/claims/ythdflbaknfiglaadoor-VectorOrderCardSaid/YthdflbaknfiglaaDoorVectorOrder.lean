/-
  The walk of 'packtrainkeep.VectorOrder'.
-/
import Derived.Test.YthdflbaknfiglaaDoorVecFact
import Derived.Test.YthdflbaknfiglaaDoorVecLaw
namespace Go.Proofs.YthdflbaknfiglaaDoor
open Go.RowKit

set_option maxRecDepth 100000 in
set_option maxHeartbeats 4000000 in
theorem vectorOrder_walk (w : World) (a0 : Option Addr) (len0 cap0 : Nat) (l0 : List Ent) (hv0 : IsEnts w (.slice a0 len0 cap0) l0) (hn0 : l0.length = len0) (hc0 : len0 ≤ cap0) (hm0 : cap0 ≤ maxLen) (a1 : Option Addr) (len1 cap1 : Nat) (l1 : List Ent) (hv1 : IsEnts w (.slice a1 len1 cap1) l1) (hn1 : l1.length = len1) (hc1 : len1 ≤ cap1) (hm1 : cap1 ≤ maxLen) (a2 : Option Addr) (len2 cap2 : Nat) (l2 : List Ent) (hv2 : IsEnts w (.slice a2 len2 cap2) l2) (hn2 : l2.length = len2) (hc2 : len2 ≤ cap2) (hm2 : cap2 ≤ maxLen) (hg : errT w) :
    Calls Tryd.prog 11 #[.slice a0 len0 cap0, .slice a1 len1 cap1, .slice a2 len2 cap2] w fun e w' => e = .returned (.bool true) ∧ Below w.heap.size w w' := by
  have HV0 := Lib.hid hv0
  have HL0 : Hid (l0.length ≤ 9223372036854775807) := Lib.hid (show l0.length ≤ 9223372036854775807 by unfold maxLen at hm0; omega)
  have HV1 := Lib.hid hv1
  have HL1 : Hid (l1.length ≤ 9223372036854775807) := Lib.hid (show l1.length ≤ 9223372036854775807 by unfold maxLen at hm1; omega)
  have HV2 := Lib.hid hv2
  have HL2 : Hid (l2.length ≤ 9223372036854775807) := Lib.hid (show l2.length ≤ 9223372036854775807 by unfold maxLen at hm2; omega)
  have HG := Lib.hid hg
  clear hv0 hm0 hv1 hm1 hv2 hm2 hg
  by_cases hall : allR [l0, l1, l2] = true
  · have HX := Lib.hid hall
    have hr := allR_iff.1 hall
    have HR0 : Hid (rightV l0) := Lib.hid (hr l0 (by simp))
    have HR1 : Hid (rightV l1) := Lib.hid (hr l1 (by simp))
    have HR2 : Hid (rightV l2) := Lib.hid (hr l2 (by simp))
    clear hall hr
    go_enter Tryd.func11, Tryd.ntmps11
    go_wp2_with fail
    refine (known_any _ HG.out).mono ?_
    rintro r w1 ⟨rfl, hb1⟩
    have HB1 := Lib.hid hb1
    clear hb1
    go_wp2_with fail
    refine (few_three _ _ _ l0 l1 l2 true _ (HV0.out.below HB1.out) (HV1.out.below HB1.out) (HV2.out.below HB1.out) HL0.out HL1.out HL2.out HX.out).mono ?_
    rintro r w2 ⟨rfl, hb2⟩
    have HB2 : Hid (Below w.heap.size w w2) := HB1.out.trans (hb2.mono HB1.out.size)
    clear hb2
    obtain ⟨ab, hab⟩ : ∃ c, covB l0 l1 = c := ⟨_, rfl⟩
    obtain ⟨ba, hba⟩ : ∃ c, covB l1 l0 = c := ⟨_, rfl⟩
    obtain ⟨bc, hbc⟩ : ∃ c, covB l1 l2 = c := ⟨_, rfl⟩
    have hde := cov_eq HR0.out HR1.out
    rw [hab, hba] at hde
    have HAB := Lib.hid hab
    have HBA := Lib.hid hba
    have HBC := Lib.hid hbc
    have HDE := Lib.hid hde
    have HS1 := Lib.hid (cov_self HR0.out)
    have HS2 := Lib.hid (cov_nil HR0.out)
    have H6 : Hid (l0.length ≤ 1000000) := Lib.hid (show l0.length ≤ 1000000 by have := HR0.out.1; omega)
    clear hab hba hbc hde
    go_wp2_with fail
    refine (vcov_as _ _ l0 l1 ab _ (HV0.out.below HB2.out) (HV1.out.below HB2.out) HL0.out HL1.out HAB.out).mono ?_
    rintro r w3 ⟨rfl, hb3⟩
    have HB3 : Hid (Below w.heap.size w w3) := HB2.out.trans (hb3.mono HB2.out.size)
    clear hb3
    go_wp2_with fail
    refine (vcov_as _ _ l1 l0 ba _ (HV1.out.below HB3.out) (HV0.out.below HB3.out) HL1.out HL0.out HBA.out).mono ?_
    rintro r w4 ⟨rfl, hb4⟩
    have HB4 : Hid (Below w.heap.size w w4) := HB3.out.trans (hb4.mono HB3.out.size)
    clear hb4
    go_wp2_with fail
    refine (vcov_as _ _ l1 l2 bc _ (HV1.out.below HB4.out) (HV2.out.below HB4.out) HL1.out HL2.out HBC.out).mono ?_
    rintro r w5 ⟨rfl, hb5⟩
    have HB5 : Hid (Below w.heap.size w w5) := HB4.out.trans (hb5.mono HB4.out.size)
    clear hb5
    go_wp2_with fail
    refine (vcov_as _ _ l0 l0 true _ (HV0.out.below HB5.out) (HV0.out.below HB5.out) HL0.out HL0.out HS1.out).mono ?_
    rintro r w6 ⟨rfl, hb6⟩
    have HB6 : Hid (Below w.heap.size w w6) := HB5.out.trans (hb6.mono HB5.out.size)
    clear hb6
    go_wp2_with fail
    refine (vcov_as _ _ l0 [] true _ (HV0.out.below HB6.out) (IsEnts.nil _) HL0.out (by decide) HS2.out).mono ?_
    rintro r w7 ⟨rfl, hb7⟩
    have HB7 : Hid (Below w.heap.size w w7) := HB6.out.trans (hb7.mono HB6.out.size)
    clear hb7
    cases ab with
    | false =>
      go_wp2_with fail
      refine (equal_as _ _ l0 l1 _ _ (HV0.out.below HB7.out) (HV1.out.below HB7.out) H6.out HL1.out HDE.out).mono ?_
      rintro r w' ⟨rfl, q, rfl⟩
      go_wp2
      go_ret
      exact ⟨by first | rfl | simp, below_drewN HB7.out q⟩
    | true =>
      go_wp2_with fail
      refine (equal_as _ _ l0 l1 _ _ (HV0.out.below HB7.out) (HV1.out.below HB7.out) H6.out HL1.out HDE.out).mono ?_
      rintro r w' ⟨rfl, q, rfl⟩
      have HB8 := Lib.hid (below_drewN HB7.out q)
      obtain ⟨w8, hw8⟩ : ∃ w8, w7.drewN q = w8 := ⟨_, rfl⟩
      rw [hw8] at HB8 ⊢
      clear hw8
      cases bc with
      | false =>
        cases ba with
        | false =>
          go_wp2
          go_ret
          exact ⟨by first | rfl | simp, HB8.out⟩
        | true =>
          go_wp2
          go_ret
          exact ⟨by first | rfl | simp, HB8.out⟩
      | true =>
        cases ba with
        | false =>
          go_wp2_with fail
          refine (vcov_as _ _ l0 l2 true _ (HV0.out.below HB8.out) (HV2.out.below HB8.out) HL0.out HL2.out (cov_trans HR0.out HR1.out HR2.out HAB.out HBC.out)).mono ?_
          rintro r w9 ⟨rfl, hb9⟩
          have HB9 : Hid (Below w.heap.size w w9) := HB8.out.trans (hb9.mono HB8.out.size)
          clear hb9
          go_wp2
          go_ret
          exact ⟨by first | rfl | simp, HB9.out⟩
        | true =>
          go_wp2_with fail
          refine (vcov_as _ _ l0 l2 true _ (HV0.out.below HB8.out) (HV2.out.below HB8.out) HL0.out HL2.out (cov_trans HR0.out HR1.out HR2.out HAB.out HBC.out)).mono ?_
          rintro r w9 ⟨rfl, hb9⟩
          have HB9 : Hid (Below w.heap.size w w9) := HB8.out.trans (hb9.mono HB8.out.size)
          clear hb9
          go_wp2
          go_ret
          exact ⟨by first | rfl | simp, HB9.out⟩
  · have HX : Hid (allR [l0, l1, l2] = false) := Lib.hid (by simpa using hall)
    clear hall
    go_enter Tryd.func11, Tryd.ntmps11
    go_wp2_with fail
    refine (known_any _ HG.out).mono ?_
    rintro r w1 ⟨rfl, hb1⟩
    have HB1 := Lib.hid hb1
    clear hb1
    go_wp2_with fail
    refine (few_three _ _ _ l0 l1 l2 false _ (HV0.out.below HB1.out) (HV1.out.below HB1.out) (HV2.out.below HB1.out) HL0.out HL1.out HL2.out HX.out).mono ?_
    rintro r w2 ⟨rfl, hb2⟩
    have HB2 : Hid (Below w.heap.size w w2) := HB1.out.trans (hb2.mono HB1.out.size)
    clear hb2
    go_wp2
    go_ret
    exact ⟨rfl, HB2.out⟩
end Go.Proofs.YthdflbaknfiglaaDoor
