/-
  The walk of 'packtrainkeep.VectorSame'.
-/
import Derived.Test.YthdflbaknfiglaaDoorVecFact
import Derived.Test.YthdflbaknfiglaaDoorVecLaw
namespace Go.Proofs.YthdflbaknfiglaaDoor
open Go.RowKit

set_option maxRecDepth 100000 in
set_option maxHeartbeats 4000000 in
theorem vectorSame_walk (w : World) (a0 : Option Addr) (len0 cap0 : Nat) (l0 : List Ent) (hv0 : IsEnts w (.slice a0 len0 cap0) l0) (hn0 : l0.length = len0) (hc0 : len0 ≤ cap0) (hm0 : cap0 ≤ maxLen) (a1 : Option Addr) (len1 cap1 : Nat) (l1 : List Ent) (hv1 : IsEnts w (.slice a1 len1 cap1) l1) (hn1 : l1.length = len1) (hc1 : len1 ≤ cap1) (hm1 : cap1 ≤ maxLen) (a2 : Option Addr) (len2 cap2 : Nat) (l2 : List Ent) (hv2 : IsEnts w (.slice a2 len2 cap2) l2) (hn2 : l2.length = len2) (hc2 : len2 ≤ cap2) (hm2 : cap2 ≤ maxLen) (hg : errT w) :
    Calls Tryd.prog 9 #[.slice a0 len0 cap0, .slice a1 len1 cap1, .slice a2 len2 cap2] w fun e w' => e = .returned (.bool true) ∧ Below w.heap.size w w' := by
  have HV0 := Lib.hid hv0
  have HL0 : Hid (l0.length ≤ 9223372036854775807) := Lib.hid (show l0.length ≤ 9223372036854775807 by unfold maxLen at hm0; omega)
  have HV1 := Lib.hid hv1
  have HL1 : Hid (l1.length ≤ 9223372036854775807) := Lib.hid (show l1.length ≤ 9223372036854775807 by unfold maxLen at hm1; omega)
  have HV2 := Lib.hid hv2
  have HL2 : Hid (l2.length ≤ 9223372036854775807) := Lib.hid (show l2.length ≤ 9223372036854775807 by unfold maxLen at hm2; omega)
  have HG := Lib.hid hg
  clear hv0 hm0 hv1 hm1 hv2 hm2 hg
  by_cases hall : allR [l0, l1, l2] = true
  · have HX := Lib.hid hall
    have hr := allR_iff.1 hall
    have HR0 : Hid (rightV l0) := Lib.hid (hr l0 (by simp))
    have HR1 : Hid (rightV l1) := Lib.hid (hr l1 (by simp))
    have HR2 : Hid (rightV l2) := Lib.hid (hr l2 (by simp))
    clear hall hr
    go_enter Tryd.func9, Tryd.ntmps9
    go_wp2_with fail
    refine (known_any _ HG.out).mono ?_
    rintro r w1 ⟨rfl, hb1⟩
    have HB1 := Lib.hid hb1
    clear hb1
    go_wp2_with fail
    refine (few_three _ _ _ l0 l1 l2 true _ (HV0.out.below HB1.out) (HV1.out.below HB1.out) (HV2.out.below HB1.out) HL0.out HL1.out HL2.out HX.out).mono ?_
    rintro r w2 ⟨rfl, hb2⟩
    have HB2 : Hid (Below w.heap.size w w2) := HB1.out.trans (hb2.mono HB1.out.size)
    clear hb2
    have H6 : Hid (l0.length ≤ 1000000) := Lib.hid (show l0.length ≤ 1000000 by have := HR0.out.1; omega)
    have HJ3 : Hid (joinR l0 l0 = (0, l0)) := Lib.hid (show joinR l0 l0 = (0, l0) by
      rcases join_two HR0.out HR0.out with ⟨h1, _⟩ | ⟨_, h2, _⟩
      · rw [join_self HR0.out.2] at h1; have := HR0.out.1; omega
      · rw [h2, join_self HR0.out.2])
    rcases join_two HR0.out HR1.out with ⟨hlen, hj⟩ | ⟨hlen, hj, hrj⟩
    · have HJ := Lib.hid hj
      have HJ2 : Hid (joinR l1 l0 = (4, [])) := Lib.hid (show joinR l1 l0 = (4, []) by
        rcases join_two HR1.out HR0.out with ⟨_, h2⟩ | ⟨h1, _, _⟩
        · exact h2
        · rw [join_comm] at h1; omega)
      clear hlen hj
      go_wp2_with fail
      refine (vjoin_bad _ _ l0 l1 [] 4 _ (HV0.out.below HB2.out) (HV1.out.below HB2.out) HL0.out HL1.out (HG.out.below HB2.out) HJ.out (by decide)).mono ?_
      rintro r w3 ⟨v1, rfl, hi3, hb3⟩
      have HB3 : Hid (Below w.heap.size w w3) := HB2.out.trans (hb3.mono HB2.out.size)
      have HI_v1 : Hid (IsEnts w3 v1 []) := Lib.hid hi3
      clear hi3 hb3
      go_wp2_with fail
      refine (vjoin_bad _ _ l1 l0 [] 4 _ (HV1.out.below HB3.out) (HV0.out.below HB3.out) HL1.out HL0.out (HG.out.below HB3.out) HJ2.out (by decide)).mono ?_
      rintro r w4 ⟨v2, rfl, hi4, hb4⟩
      have HB4 : Hid (Below w.heap.size w w4) := HB3.out.trans (hb4.mono HB3.out.size)
      have HI_v2 : Hid (IsEnts w4 v2 []) := Lib.hid hi4
      have HV1b := Lib.hid (HI_v1.out.below hb4)
      clear hi4 hb4
      go_wp2_with fail
      refine (vjoin_good _ _ l0 l0 l0 _ (HV0.out.below HB4.out) (HV0.out.below HB4.out) HL0.out HL0.out (HG.out.below HB4.out) HJ3.out).mono ?_
      rintro r w5 ⟨v3, rfl, hi5, hb5⟩
      have HB5 : Hid (Below w.heap.size w w5) := HB4.out.trans (hb5.mono HB4.out.size)
      have HI_v3 : Hid (IsEnts w5 v3 l0) := Lib.hid hi5
      have HV1c := Lib.hid (HV1b.out.below hb5)
      have HV2c := Lib.hid (HI_v2.out.below hb5)
      clear hi5 hb5
      go_wp2
      go_quiet ((first | (go_at_call 23; with_reducible exact equal_q v3 (.slice a0 len0 cap0) l0 _ _ HI_v3.out (HV0.out.below HB5.out) H6.out) | (go_at_call 23; with_reducible exact equal_q v1 v2 [] _ _ HV1c.out HV2c.out (by decide))))
      have HB6 := Lib.hid (below_drewN HB5.out nq)
      obtain ⟨w6, hw6⟩ : ∃ w6, w5.drewN nq = w6 := ⟨_, rfl⟩
      rw [hw6] at HB6 ⊢
      clear hw6
      rcases join_two HR1.out HR2.out with ⟨hl5, hj5⟩ | ⟨hl5, hj5, hr5⟩
      · have HJ5 := Lib.hid hj5
        clear hl5 hj5
        go_wp2_with fail
        refine (vjoin_bad _ _ l1 l2 [] 4 _ (HV1.out.below HB6.out) (HV2.out.below HB6.out) HL1.out HL2.out (HG.out.below HB6.out) HJ5.out (by decide)).mono ?_
        rintro r w7 ⟨v4, rfl, hi7, hb7⟩
        have HB7 : Hid (Below w.heap.size w w7) := HB6.out.trans (hb7.mono HB6.out.size)
        have HI_v4 : Hid (IsEnts w7 v4 []) := Lib.hid hi7
        clear hi7 hb7
        go_wp2
        go_ret
        exact ⟨by first | rfl | simp, HB7.out⟩
      · have HJ5 := Lib.hid hj5
        have HR5 := Lib.hid hr5
        clear hl5 hj5 hr5
        go_wp2_with fail
        refine (vjoin_good _ _ l1 l2 (joinL l1 l2) _ (HV1.out.below HB6.out) (HV2.out.below HB6.out) HL1.out HL2.out (HG.out.below HB6.out) HJ5.out).mono ?_
        rintro r w7 ⟨v4, rfl, hi7, hb7⟩
        have HB7 : Hid (Below w.heap.size w w7) := HB6.out.trans (hb7.mono HB6.out.size)
        have HI_v4 : Hid (IsEnts w7 v4 (joinL l1 l2)) := Lib.hid hi7
        clear hi7 hb7
        go_wp2
        go_ret
        exact ⟨by first | rfl | simp, HB7.out⟩
    · have HJ := Lib.hid hj
      have HRJ := Lib.hid hrj
      have HJ2 : Hid (joinR l1 l0 = (0, joinL l0 l1)) := Lib.hid (show joinR l1 l0 = (0, joinL l0 l1) by
        rcases join_two HR1.out HR0.out with ⟨h1, _⟩ | ⟨_, h2, _⟩
        · rw [join_comm] at h1; omega
        · rw [h2, join_comm])
      have H7 : Hid ((joinL l0 l1).length ≤ 1000000) := Lib.hid (show (joinL l0 l1).length ≤ 1000000 by omega)
      have HJL : Hid ((joinL l0 l1).length ≤ 9223372036854775807) := Lib.hid (show (joinL l0 l1).length ≤ 9223372036854775807 by omega)
      clear hlen hj hrj
      go_wp2_with fail
      refine (vjoin_good _ _ l0 l1 (joinL l0 l1) _ (HV0.out.below HB2.out) (HV1.out.below HB2.out) HL0.out HL1.out (HG.out.below HB2.out) HJ.out).mono ?_
      rintro r w3 ⟨v1, rfl, hi3, hb3⟩
      have HB3 : Hid (Below w.heap.size w w3) := HB2.out.trans (hb3.mono HB2.out.size)
      have HI_v1 : Hid (IsEnts w3 v1 (joinL l0 l1)) := Lib.hid hi3
      clear hi3 hb3
      go_wp2_with fail
      refine (vjoin_good _ _ l1 l0 (joinL l0 l1) _ (HV1.out.below HB3.out) (HV0.out.below HB3.out) HL1.out HL0.out (HG.out.below HB3.out) HJ2.out).mono ?_
      rintro r w4 ⟨v2, rfl, hi4, hb4⟩
      have HB4 : Hid (Below w.heap.size w w4) := HB3.out.trans (hb4.mono HB3.out.size)
      have HI_v2 : Hid (IsEnts w4 v2 (joinL l0 l1)) := Lib.hid hi4
      have HV1b := Lib.hid (HI_v1.out.below hb4)
      clear hi4 hb4
      go_wp2_with fail
      refine (vjoin_good _ _ l0 l0 l0 _ (HV0.out.below HB4.out) (HV0.out.below HB4.out) HL0.out HL0.out (HG.out.below HB4.out) HJ3.out).mono ?_
      rintro r w5 ⟨v3, rfl, hi5, hb5⟩
      have HB5 : Hid (Below w.heap.size w w5) := HB4.out.trans (hb5.mono HB4.out.size)
      have HI_v3 : Hid (IsEnts w5 v3 l0) := Lib.hid hi5
      have HV1c := Lib.hid (HV1b.out.below hb5)
      have HV2c := Lib.hid (HI_v2.out.below hb5)
      clear hi5 hb5
      go_wp2
      go_quiet ((first | (go_at_call 23; with_reducible exact equal_q v3 (.slice a0 len0 cap0) l0 _ _ HI_v3.out (HV0.out.below HB5.out) H6.out) | (go_at_call 23; with_reducible exact equal_q v1 v2 (joinL l0 l1) _ _ HV1c.out HV2c.out H7.out)))
      have HB6 := Lib.hid (below_drewN HB5.out nq)
      have HV1d := Lib.hid (HV1c.out.drewN nq)
      obtain ⟨w6, hw6⟩ : ∃ w6, w5.drewN nq = w6 := ⟨_, rfl⟩
      rw [hw6] at HB6 HV1d ⊢
      clear hw6
      rcases join_two HR1.out HR2.out with ⟨hl5, hj5⟩ | ⟨hl5, hj5, hr5⟩
      · have HJ5 := Lib.hid hj5
        clear hl5 hj5
        go_wp2_with fail
        refine (vjoin_bad _ _ l1 l2 [] 4 _ (HV1.out.below HB6.out) (HV2.out.below HB6.out) HL1.out HL2.out (HG.out.below HB6.out) HJ5.out (by decide)).mono ?_
        rintro r w7 ⟨v4, rfl, hi7, hb7⟩
        have HB7 : Hid (Below w.heap.size w w7) := HB6.out.trans (hb7.mono HB6.out.size)
        have HI_v4 : Hid (IsEnts w7 v4 []) := Lib.hid hi7
        clear hi7 hb7
        go_wp2
        go_ret
        exact ⟨by first | rfl | simp, HB7.out⟩
      · have HJ5 := Lib.hid hj5
        have HR5 := Lib.hid hr5
        clear hl5 hj5 hr5
        go_wp2_with fail
        refine (vjoin_good _ _ l1 l2 (joinL l1 l2) _ (HV1.out.below HB6.out) (HV2.out.below HB6.out) HL1.out HL2.out (HG.out.below HB6.out) HJ5.out).mono ?_
        rintro r w7 ⟨v4, rfl, hi7, hb7⟩
        have HB7 : Hid (Below w.heap.size w w7) := HB6.out.trans (hb7.mono HB6.out.size)
        have HI_v4 : Hid (IsEnts w7 v4 (joinL l1 l2)) := Lib.hid hi7
        have HV1e := Lib.hid (HV1d.out.below hb7)
        clear hi7 hb7
        have HL5 : Hid ((joinL l1 l2).length ≤ 9223372036854775807) := Lib.hid (show (joinL l1 l2).length ≤ 9223372036854775807 by have := HR5.out.1; omega)
        have HAS := Lib.hid (join_assoc HR0.out.2 HR1.out.2 HR2.out.2)
        rcases join_two HRJ.out HR2.out with ⟨hl6, hj6⟩ | ⟨hl6, hj6, hr6⟩
        · have HJ6 := Lib.hid hj6
          have HJ7 : Hid (joinR l0 (joinL l1 l2) = (4, [])) := Lib.hid (show joinR l0 (joinL l1 l2) = (4, []) by
            rcases join_two HR0.out HR5.out with ⟨_, h2⟩ | ⟨h1, _, _⟩
            · exact h2
            · rw [← HAS.out] at h1; omega)
          clear hl6 hj6
          go_wp2_with fail
          refine (vjoin_bad v1 _ (joinL l0 l1) l2 [] 4 _ HV1e.out (HV2.out.below HB7.out) HJL.out HL2.out (HG.out.below HB7.out) HJ6.out (by decide)).mono ?_
          rintro r w8 ⟨v5, rfl, hi8, hb8⟩
          have HB8 : Hid (Below w.heap.size w w8) := HB7.out.trans (hb8.mono HB7.out.size)
          have HI_v5 : Hid (IsEnts w8 v5 []) := Lib.hid hi8
          have HI4b := Lib.hid (HI_v4.out.below hb8)
          clear hi8 hb8
          go_wp2_with fail
          refine (vjoin_bad _ v4 l0 (joinL l1 l2) [] 4 _ (HV0.out.below HB8.out) HI4b.out HL0.out HL5.out (HG.out.below HB8.out) HJ7.out (by decide)).mono ?_
          rintro r w9 ⟨v6, rfl, hi9, hb9⟩
          have HB9 : Hid (Below w.heap.size w w9) := HB8.out.trans (hb9.mono HB8.out.size)
          have HI_v6 : Hid (IsEnts w9 v6 []) := Lib.hid hi9
          have HI5b := Lib.hid (HI_v5.out.below hb9)
          clear hi9 hb9
          go_wp2
          go_quiet ((go_at_call 23; with_reducible exact equal_q v5 v6 [] _ _ HI5b.out HI_v6.out (by decide)))
          go_wp2
          go_ret
          exact ⟨by first | rfl | simp, below_drewN HB9.out _⟩
        · have HJ6 := Lib.hid hj6
          have HJ7 : Hid (joinR l0 (joinL l1 l2) = (0, joinL (joinL l0 l1) l2)) := Lib.hid (show joinR l0 (joinL l1 l2) = (0, joinL (joinL l0 l1) l2) by
            rcases join_two HR0.out HR5.out with ⟨h1, _⟩ | ⟨_, h2, _⟩
            · rw [← HAS.out] at h1; omega
            · rw [h2, HAS.out])
          have H8 : Hid ((joinL (joinL l0 l1) l2).length ≤ 1000000) := Lib.hid (show (joinL (joinL l0 l1) l2).length ≤ 1000000 by omega)
          clear hl6 hj6 hr6
          go_wp2_with fail
          refine (vjoin_good v1 _ (joinL l0 l1) l2 (joinL (joinL l0 l1) l2) _ HV1e.out (HV2.out.below HB7.out) HJL.out HL2.out (HG.out.below HB7.out) HJ6.out).mono ?_
          rintro r w8 ⟨v5, rfl, hi8, hb8⟩
          have HB8 : Hid (Below w.heap.size w w8) := HB7.out.trans (hb8.mono HB7.out.size)
          have HI_v5 : Hid (IsEnts w8 v5 (joinL (joinL l0 l1) l2)) := Lib.hid hi8
          have HI4b := Lib.hid (HI_v4.out.below hb8)
          clear hi8 hb8
          go_wp2_with fail
          refine (vjoin_good _ v4 l0 (joinL l1 l2) (joinL (joinL l0 l1) l2) _ (HV0.out.below HB8.out) HI4b.out HL0.out HL5.out (HG.out.below HB8.out) HJ7.out).mono ?_
          rintro r w9 ⟨v6, rfl, hi9, hb9⟩
          have HB9 : Hid (Below w.heap.size w w9) := HB8.out.trans (hb9.mono HB8.out.size)
          have HI_v6 : Hid (IsEnts w9 v6 (joinL (joinL l0 l1) l2)) := Lib.hid hi9
          have HI5b := Lib.hid (HI_v5.out.below hb9)
          clear hi9 hb9
          go_wp2
          go_quiet ((go_at_call 23; with_reducible exact equal_q v5 v6 (joinL (joinL l0 l1) l2) _ _ HI5b.out HI_v6.out H8.out))
          go_wp2
          go_ret
          exact ⟨by first | rfl | simp, below_drewN HB9.out _⟩
  · have HX : Hid (allR [l0, l1, l2] = false) := Lib.hid (by simpa using hall)
    clear hall
    go_enter Tryd.func9, Tryd.ntmps9
    go_wp2_with fail
    refine (known_any _ HG.out).mono ?_
    rintro r w1 ⟨rfl, hb1⟩
    have HB1 := Lib.hid hb1
    clear hb1
    go_wp2_with fail
    refine (few_three _ _ _ l0 l1 l2 false _ (HV0.out.below HB1.out) (HV1.out.below HB1.out) (HV2.out.below HB1.out) HL0.out HL1.out HL2.out HX.out).mono ?_
    rintro r w2 ⟨rfl, hb2⟩
    have HB2 : Hid (Below w.heap.size w w2) := HB1.out.trans (hb2.mono HB1.out.size)
    clear hb2
    go_wp2
    go_ret
    exact ⟨rfl, HB2.out⟩
end Go.Proofs.YthdflbaknfiglaaDoor
