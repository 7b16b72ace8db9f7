/-
  The walk of 'packtrainkeep.BatchParts'.
-/
import Derived.Test.YtiipnifnejnhlaaDoorBatPair
namespace Go.Proofs.YtiipnifnejnhlaaDoor
open Go.RowKit

set_option maxRecDepth 100000 in
set_option maxHeartbeats 8000000 in
theorem batchParts_walk (w : World) (vf vh vw : Value) (f h : List Ent) (l : List Wr) (hx : BatIs w vf vh vw f h l)
    (a1 : Option Addr) (len1 cap1 : Nat) (l1 : List Ent) (hv1 : IsEnts w (.slice a1 len1 cap1) l1) (hn1 : l1.length = len1) (hc1 : len1 ≤ cap1) (hm1 : cap1 ≤ maxLen) (hg : errT w) :
    Calls Tryd.prog 7 #[.agg #[vf, vh, vw], .slice a1 len1 cap1] w fun e w' => e = .returned (.bool true) ∧ Below w.heap.size w w' := by
  have HL1 : Hid (l1.length ≤ 9223372036854775807) := Lib.hid (show l1.length ≤ 9223372036854775807 by unfold maxLen at hm1; omega)
  have HX := Lib.hid hx
  have HG := Lib.hid hg
  have HV1 := Lib.hid hv1
  obtain ⟨hf, hh, hv, _⟩ := hx
  obtain ⟨af, cf, rfl, _⟩ := hf.form
  obtain ⟨ah, ch, rfl, _⟩ := hh.form
  obtain ⟨aw, cw, rfl, fw⟩ := hv.form
  have FW := Lib.hid fw
  obtain ⟨n, hn⟩ : ∃ n, n = l.length := ⟨_, rfl⟩
  have HN := Lib.hid hn
  rw [← hn] at HX ⊢
  have HA := Lib.hid (batAt_new w (.slice af f.length cf) (.slice ah h.length ch) (.slice aw n cw) 25)
  have HW0 : Hid (Below w.heap.size w (w.alloc (.cells #[.slice af f.length cf, .slice ah h.length ch, .slice aw n cw] 25))) := Lib.hid ((Below.refl _ _).alloc (Nat.le_refl _) _)
  have HZ : Hid (w.heap.size < (w.alloc (.cells #[.slice af f.length cf, .slice ah h.length ch, .slice aw n cw] 25)).heap.size) := Lib.hid (by simp)
  generalize f.length = nf at HX HA HW0 HZ ⊢
  generalize h.length = nh at HX HA HW0 HZ ⊢
  clear hf hh hv hg hv1 hm1 fw hn
  obtain ⟨x, hx⟩ : ∃ x, allR [l1] = x := ⟨_, rfl⟩
  obtain ⟨y, hy⟩ : ∃ y, covB l1 f = y := ⟨_, rfl⟩
  obtain ⟨z, hzz⟩ : ∃ z, covB h l1 = z := ⟨_, rfl⟩
  have HXX := Lib.hid hx
  have HY := Lib.hid hy
  have HZZ := Lib.hid hzz
  clear hx hy hzz
  go_enter Tryd.func7, Tryd.ntmps7
  go_wp2_with fail
  generalize w.alloc (.cells #[.slice af nf cf, .slice ah nh ch, .slice aw n cw] 25) = W at HA HW0 HZ ⊢
  have HE : Hid (∀ w', Below W.heap.size W w' → Below w.heap.size w w') := Lib.hid (fun w' hx => HW0.out.trans (hx.mono HW0.out.size))
  refine (gathered_any _ (HG.out.below HW0.out)).mono ?_
  rintro r w1 ⟨rfl, hb1⟩
  have HB1 := Lib.hid hb1
  clear hb1
  go_wp2_with fail
  refine (known_any _ (HG.out.below (HE.out _ HB1.out))).mono ?_
  rintro r w2 ⟨rfl, hb2⟩
  have HB2 : Hid (Below W.heap.size W w2) := HB1.out.trans (hb2.mono HB1.out.size)
  clear hb2
  go_wp2_with fail
  refine (ordered_any _).mono ?_
  rintro r w2b ⟨rfl, hb2⟩
  have HB2b : Hid (Below W.heap.size W w2b) := HB2.out.trans (hb2.mono HB2.out.size)
  clear hb2
  obtain ⟨d0, d1, d2⟩ := HA.out.below HB2b.out HZ.out
  go_wp2_with fail
  refine (held_any _ _ _ f h l _ (HX.out.below (HE.out _ HB2b.out)) (HG.out.below (HE.out _ HB2b.out))).mono ?_
  rintro r w3 ⟨c, rfl, hc, hb3⟩
  have HB3 : Hid (Below W.heap.size W w3) := HB2b.out.trans (hb3.mono HB2b.out.size)
  have HC := Lib.hid hc
  clear hb3 hc d0 d1 d2
  cases c with
  | false =>
    go_wp2
    go_ret
    exact ⟨rfl, HE.out _ HB3.out⟩
  | true =>
    go_wp2_with fail
    refine (few_one _ l1 x _ (HV1.out.below (HE.out _ HB3.out)) HL1.out HXX.out).mono ?_
    rintro r w4 ⟨rfl, hb4⟩
    have HB4 : Hid (Below W.heap.size W w4) := HB3.out.trans (hb4.mono HB3.out.size)
    clear hb4
    cases x with
    | false =>
      go_wp2
      go_ret
      exact ⟨rfl, HE.out _ HB4.out⟩
    | true =>
      have hr := allR_iff.1 HXX.out
      have HR1 := Lib.hid (hr l1 (by simp))
      clear hr
      obtain ⟨d0, d1, d2⟩ := HA.out.below HB4.out HZ.out
      go_wp2_with fail
      refine (bcov_as _ _ l1 f y _ (HV1.out.below (HE.out _ HB4.out)) (HX.out.below (HE.out _ HB4.out)).1 HL1.out HX.out.2.2.2.1 HY.out).mono ?_
      rintro r w5 ⟨rfl, hb5⟩
      have HB5 : Hid (Below W.heap.size W w5) := HB4.out.trans (hb5.mono HB4.out.size)
      clear hb5 d0 d1 d2
      cases y with
      | false =>
        go_wp2
        go_ret
        exact ⟨rfl, HE.out _ HB5.out⟩
      | true =>
        obtain ⟨d0, d1, d2⟩ := HA.out.below HB5.out HZ.out
        go_wp2_with fail
        refine (bcov_as _ _ h l1 z _ (HX.out.below (HE.out _ HB5.out)).2.1 (HV1.out.below (HE.out _ HB5.out)) HX.out.2.2.2.2.1 HL1.out HZZ.out).mono ?_
        rintro r w6 ⟨rfl, hb6⟩
        have HB6 : Hid (Below W.heap.size W w6) := HB5.out.trans (hb6.mono HB5.out.size)
        clear hb6 d0 d1 d2
        cases z with
        | false =>
          go_wp2
          go_ret
          exact ⟨rfl, HE.out _ HB6.out⟩
        | true =>
          have HRB : Hid (rightB f h l) := Lib.hid (HC.out (by trivial))
          obtain ⟨d0, d1, d2⟩ := HA.out.below HB6.out HZ.out
          have hlt6 : w.heap.size < w6.heap.size := Nat.lt_of_lt_of_le HZ.out HB6.out.size
          go_wp2
          go_region
          · skip
            have hp := pt_newA w6 (.slice af nf cf) (.slice a1 len1 cap1) (.slice a1 len1 cap1) (.slice ah nh ch)
            obtain ⟨W7, hW7⟩ : ∃ W7, W7 = ((w6.alloc (.cells #[.slice af nf cf, .slice a1 len1 cap1, .slice none 0 0] 25)).alloc (.cells #[.slice a1 len1 cap1, .slice ah nh ch, .slice none 0 0] 25)).drew := ⟨_, rfl⟩
            obtain ⟨base, hbs⟩ : ∃ b, b = w6.heap.size + 1 + 1 := ⟨_, rfl⟩
            rw [← hW7, ← hbs] at hp
            rw [← hW7]
            obtain ⟨Q, hq1⟩ : ∃ q, q = w6.heap.size + 1 := ⟨_, rfl⟩
            rw [← hq1] at hp ⊢
            obtain ⟨P, hq2⟩ : ∃ q, q = w6.heap.size := ⟨_, rfl⟩
            rw [← hq2] at hp ⊢
            have HPB : Hid (P < base) := Lib.hid (by omega)
            have HQB : Hid (Q < base) := Lib.hid (by omega)
            have HPQ : Hid (P ≠ Q) := Lib.hid (by omega)
            have HP0 : Hid (w6.heap.size ≤ P) := Lib.hid (by omega)
            have HQ0 : Hid (w6.heap.size ≤ Q) := Lib.hid (by omega)
            clear hW7 hbs hq1 hq2
            have HP := Lib.hid hp
            have HBW7 : Hid (Below W.heap.size W W7) := HB6.out.trans (hp.2.2.2.2.2.2.2.2.mono HB6.out.size)
            clear hp d0 d1 d2
            obtain ⟨d0, d1, d2⟩ := HA.out.below HBW7.out HZ.out
            have hlt7 : w.heap.size < W7.heap.size := Nat.lt_of_lt_of_le HZ.out HBW7.out.size
            go_wp2
            clear d0 d1 d2 hlt7 hlt6
            go_loopw [53] (fun i wr => ∃ (k : Nat) (v1 v2 : Value), k ≤ n ∧ i = .int .i64 k ∧ PT w6 base P Q (.slice af nf cf) (.slice a1 len1 cap1) (.slice a1 len1 cap1) (.slice ah nh ch) ((l.take k).filter fun x => wiF (wid x) f l1) ((l.take k).filter fun x => wiF (wid x) l1 h) v1 v2 wr) (fun i _ => n - (intOf i).toNat)
            case atStart => exact ⟨0, _, _, by omega, rfl, by simpa using HP.out⟩
            case round =>
              obtain ⟨k, v1, v2, hk, rfl, hp⟩ := hrel
              obtain ⟨L1, hL1⟩ : ∃ L, L = (l.take k).filter fun x => wiF (wid x) f l1 := ⟨_, rfl⟩
              obtain ⟨L2, hL2⟩ : ∃ L, L = (l.take k).filter fun x => wiF (wid x) l1 h := ⟨_, rfl⟩
              rw [← hL1, ← hL2] at hp
              have HL1F := Lib.hid hL1
              have HL2F := Lib.hid hL2
              have HPT := Lib.hid hp
              have HBR : Hid (Below W.heap.size W wr) := HB6.out.trans (hp.2.2.2.2.2.2.2.2.mono HB6.out.size)
              have HBW : Hid (base ≤ wr.heap.size) := Lib.hid hp.2.2.2.2.2.2.2.1
              have HOWN1 := Lib.hid hp.2.2.2.2.1
              have HOWN2 := Lib.hid hp.2.2.2.2.2.1
              have h60 := (rightB_iff.1 HRB.out).2.1
              have HLN1 : Hid (L1.length ≤ 60) := Lib.hid (by rw [hL1]; exact Nat.le_trans (List.length_filter_le _ _) (Nat.le_trans (List.length_take_le _ _) (by have := HN.out; omega)))
              have HLN2 : Hid (L2.length ≤ 60) := Lib.hid (by rw [hL2]; exact Nat.le_trans (List.length_filter_le _ _) (Nat.le_trans (List.length_take_le _ _) (by have := HN.out; omega)))
              clear hL1 hL2 hp
              by_cases hlt : k < n
              · obtain ⟨t, ht⟩ : ∃ t, l[k]? = some t := ⟨l[k]'(by have := HN.out; omega), List.getElem?_eq_getElem _⟩
                obtain ⟨b1, o1, rfl, hb1, p0, p1, p2, p3, p4, p5⟩ := FW.out k t ht
                have hBw := HE.out _ HBR.out
                have q0 := (hBw.cell (p := ⟨b1, o1 + k * 6, none⟩) hb1).trans p0
                have q1 := (hBw.cell (p := ⟨b1, o1 + k * 6 + 1, none⟩) hb1).trans p1
                have q2 := (hBw.cell (p := ⟨b1, o1 + k * 6 + 2, none⟩) hb1).trans p2
                have q3 := (hBw.cell (p := ⟨b1, o1 + k * 6 + 3, none⟩) hb1).trans p3
                have q4 := (hBw.cell (p := ⟨b1, o1 + k * 6 + 4, none⟩) hb1).trans p4
                have q5 := (hBw.cell (p := ⟨b1, o1 + k * 6 + 5, none⟩) hb1).trans p5
                have hfa := filter_snoc (p := fun x => wiF (wid x) f l1) ht
                have hfb := filter_snoc (p := fun x => wiF (wid x) l1 h) ht
                have hone := wi_partsB (wid t) (rightB_iff.1 HRB.out).1.1 HR1.out (rightB_iff.1 HRB.out).1.2.1 HY.out HZZ.out ((rightB_iff.1 HRB.out).2.2.1 t (List.mem_of_getElem? ht)).2
                obtain ⟨cc, hcc⟩ : ∃ c, wiF (wid t) f l1 = c := ⟨_, rfl⟩
                rw [hcc] at hone
                try simp only at hfa hfb
                rw [hcc, ← HL1F.out] at hfa
                rw [hone, ← HL2F.out] at hfb
                have HFA := Lib.hid hfa
                have HFB := Lib.hid hfb
                obtain ⟨T, R, K, key, val, N⟩ := t
                simp only at q0 q1 q2 q3 q4 q5
                have HW1 : Hid (wiF (T, R) f l1 = cc) := Lib.hid hcc
                have HW2 : Hid (wiF (T, R) l1 h = !cc) := Lib.hid hone
                obtain ⟨e0, e1, e2⟩ := HA.out.below HBR.out HZ.out
                have hn60 : n ≤ 60 := by rw [HN.out]; exact h60
                have hltr : w.heap.size < wr.heap.size := Nat.lt_of_lt_of_le HZ.out HBR.out.size
                clear p0 p1 p2 p3 p4 p5 hBw ht hfa hfb hone hcc h60
                go_wp2_with fail
                refine (within_as T R _ _ f l1 cc _ ((HX.out.below (HE.out _ HBR.out)).1.alloc _) ((HV1.out.below (HE.out _ HBR.out)).alloc _) HX.out.2.2.2.1 HL1.out HW1.out).mono ?_
                rintro r w9 ⟨rfl, hb9⟩
                have HB9 : Hid (Below W.heap.size W w9) := (HBR.out.alloc HBR.out.size _).trans (hb9.mono (by have := HBR.out.size; simp; omega))
                have HC9 : Hid (wrAt w9 wr.heap.size T R K key val N) := Lib.hid ((wrAt_new wr T R K key val N 41).below hb9 (by simp))
                have HPT9 := Lib.hid ((HPT.out.alloc (.cells #[.int .i64 T, .int .i64 R, .int .i64 K, .string key, .string val, .int .i64 N] 41) HPB.out HQB.out).below hb9 HPB.out HQB.out)
                have HD9 := Lib.hid (HA.out.below HB9.out HZ.out)
                have HZ9 : Hid (w.heap.size < w9.heap.size) := Lib.hid (Nat.lt_of_lt_of_le HZ.out HB9.out.size)
                have HMB9 : Hid (wr.heap.size < w9.heap.size) := Lib.hid (by have := hb9.size; simp at this; exact this)
                clear hb9 q0 q1 q2 q3 q4 q5 e0 e1 e2 hltr
                cases cc with
                | true =>
                  have hpp := HPT9.out
                  obtain ⟨c0, c1, c2, c3, c4, c5⟩ := HC9.out
                  have hb2 := hpp.1.2.2
                  go_wp2_with (at_builtin; refine wpList_append_wr2 rfl _ _ rfl base v1 L1 rfl (hpp.2.2.2.2.1.alloc _) w9.heap.size 1 rfl ⟨T, R, K, key, val, N⟩ ?ca18 ?cb18 ?cc18 ?_)
                  case ca18 => exact heap_alloc_new _ _
                  case cb18 => have := HLN1.out; omega
                  case cc18 => have := hpp.2.2.2.2.2.2.2.1; simp; omega
                  intro g cap w10 ho hg hw3
                  have hpa := (hpp.alloc (.cells #[.int .i64 T, .int .i64 R, .int .i64 K, .string key, .string val, .int .i64 N] 41) HPB.out HQB.out)
                  obtain ⟨g1, g2⟩ := hpa.grown HPB.out hg
                  have HPX := Lib.hid (hpa.push HPB.out HQB.out (by first | exact HPQ.out | exact HPQ.out.symm) HP0.out ho hg (hw3.imp_right fun e => e.trans (World.size_alloc _ _).symm))
                  obtain ⟨f0, f1, f2, f3, f4, f5⟩ := (HC9.out.below ((Below.refl _ _).alloc (Nat.le_refl _) (.cells #[.int .i64 T, .int .i64 R, .int .i64 K, .string key, .string val, .int .i64 N] 41)) HMB9.out).grown0 (by have := HMB9.out; simp; omega) hg (fun e => by have := (HOWN1.out.lt _ e).2; omega)
                  obtain ⟨e0, e1, e2⟩ := (HD9.out.below ((Below.refl _ _).alloc (Nat.le_refl _) (.cells #[.int .i64 T, .int .i64 R, .int .i64 K, .string key, .string val, .int .i64 N] 41)) HZ9.out).grown0 (by have := HZ9.out; simp; omega) hg (fun e => by have := (HOWN1.out.lt _ e).1; have := HPB.out; have := HP0.out; have := HB6.out.size; have := HZ.out; omega)
                  clear ho hg hw3 hpa hpp c0 c1 c2 c3 c4 c5 hb2
                  obtain ⟨ln, hln⟩ : ∃ ln, ln = L1.length := ⟨_, rfl⟩
                  rw [← hln] at HPX ⊢
                  have HLNX := Lib.hid hln
                  clear hln
                  go_wp2_with fail
                  have HBX : Hid (Below W.heap.size W (w10.setCell ⟨P, 2, none⟩ (.slice (some ⟨g, 0, none⟩) (ln + 1) cap))) := HB6.out.trans (HPX.out.2.2.2.2.2.2.2.2.mono HB6.out.size)
                  refine (within_as T R _ _ l1 h false _ (HV1.out.below (HE.out _ HBX.out)) (HX.out.below (HE.out _ HBX.out)).2.1 HL1.out HX.out.2.2.2.2.1 (show wiF (T, R) l1 h = false from HW2.out)).mono ?_
                  rintro r w12 ⟨rfl, hb12⟩
                  have HPT12 := Lib.hid (HPX.out.below hb12 HPB.out HQB.out)
                  clear hb12 f0 f1 f2 f3 f4 f5 e0 e1 e2 g1 g2
                  go_wp2
                  go_roundw
                  case rel => exact ⟨k + 1, _, v2, by omega, by go_num, by rw [HFA.out, HFB.out]; exact HPT12.out⟩
                  case measure => simp [intOf]; omega
                | false =>
                  obtain ⟨c0, c1, c2, c3, c4, c5⟩ := HC9.out
                  obtain ⟨e0, e1, e2⟩ := HD9.out
                  go_wp2_with fail
                  refine (within_as T R _ _ l1 h true _ (HV1.out.below (HE.out _ HB9.out)) (HX.out.below (HE.out _ HB9.out)).2.1 HL1.out HX.out.2.2.2.2.1 (show wiF (T, R) l1 h = true from HW2.out)).mono ?_
                  rintro r w12 ⟨rfl, hb12⟩
                  have HC12 := Lib.hid (HC9.out.below hb12 HMB9.out)
                  have HPT12 := Lib.hid (HPT9.out.below hb12 HPB.out HQB.out)
                  have HMB12 : Hid (wr.heap.size < w12.heap.size) := Lib.hid (Nat.lt_of_lt_of_le HMB9.out hb12.size)
                  clear hb12 c0 c1 c2 c3 c4 c5 e0 e1 e2
                  have hpp := HPT12.out.swap
                  obtain ⟨c0, c1, c2, c3, c4, c5⟩ := HC12.out
                  have hb2 := hpp.1.2.2
                  go_wp2_with (at_builtin; refine wpList_append_wr2 rfl _ _ rfl base v2 L2 rfl (hpp.2.2.2.2.1.alloc _) w12.heap.size 1 rfl ⟨T, R, K, key, val, N⟩ ?da ?db ?dc ?_)
                  case da => exact heap_alloc_new _ _
                  case db => have := HLN2.out; omega
                  case dc => have := hpp.2.2.2.2.2.2.2.1; simp; omega
                  intro g cap w10 ho hg hw3
                  have hpa := (hpp.alloc (.cells #[.int .i64 T, .int .i64 R, .int .i64 K, .string key, .string val, .int .i64 N] 41) HQB.out HPB.out)
                  obtain ⟨g1, g2⟩ := hpa.grown HQB.out hg
                  have HPX := Lib.hid (hpa.push HQB.out HPB.out HPQ.out.symm HQ0.out ho hg (hw3.imp_right fun e => e.trans (World.size_alloc _ _).symm))
                  clear ho hg hw3 hpa hpp c0 c1 c2 c3 c4 c5 hb2
                  obtain ⟨ln, hln⟩ : ∃ ln, ln = L2.length := ⟨_, rfl⟩
                  rw [← hln] at HPX ⊢
                  clear hln
                  go_wp2
                  go_roundw
                  case rel => exact ⟨k + 1, v1, _, by omega, by go_num, by rw [HFA.out, HFB.out]; exact HPX.out.swap⟩
                  case measure => simp [intOf]; omega
              · have hkn : k = n := by omega
                have hL1 : L1 = l.filter fun x => wiF (wid x) f l1 := by rw [HL1F.out, hkn, HN.out, List.take_length]
                have hL2 : L2 = l.filter fun x => wiF (wid x) l1 h := by rw [HL2F.out, hkn, HN.out, List.take_length]
                have hb := rightB_iff.1 HRB.out
                have HQ1 : Hid (batF f l1 L1 = (0, -1)) := Lib.hid (batF_place (by rw [hL1]; exact right_part1 HRB.out HR1.out HY.out))
                have HQ2 : Hid (batF l1 h L2 = (0, -1)) := Lib.hid (batF_place (by rw [hL2]; exact right_part2 HRB.out HR1.out HZZ.out))
                have hsum : L1.length + L2.length = n := by
                  rw [hL1, hL2, HN.out]
                  exact filter_both l fun x hx => wi_partsB (wid x) hb.1.1 HR1.out hb.1.2.1 HY.out HZZ.out (hb.2.2.1 x hx).2
                have HO1 : Hid (∀ t ∈ L1, WrOk t) := Lib.hid (fun t ht => HX.out.2.2.2.2.2.2 t (by rw [hL1, List.mem_filter] at ht; exact ht.1))
                have HO2 : Hid (∀ t ∈ L2, WrOk t) := Lib.hid (fun t ht => HX.out.2.2.2.2.2.2 t (by rw [hL2, List.mem_filter] at ht; exact ht.1))
                have HI1 := Lib.hid HOWN1.out.is
                have HI2 := Lib.hid HOWN2.out.is
                obtain ⟨av1, cv1, hv1, _⟩ := HI1.out.form
                obtain ⟨av2, cv2, hv2, _⟩ := HI2.out.form
                subst hv1 hv2
                obtain ⟨m1, hm1⟩ : ∃ m, m = L1.length := ⟨_, rfl⟩
                obtain ⟨m2, hm2⟩ : ∃ m, m = L2.length := ⟨_, rfl⟩
                rw [← hm1, ← hm2] at hsum
                rw [← hm1] at HPT HI1
                rw [← hm2] at HPT HI2
                have hsi : (m1 : Int) + (m2 : Int) = (n : Int) := by omega
                have hn60 : n ≤ 60 := by rw [HN.out]; exact hb.2.1
                have hws : IntKind.i64.wrap ((m1 : Int) + (m2 : Int)) = (n : Int) := by rw [hsi]; exact IntWalk.i64_in _ (by omega)
                have hwn : IntKind.i64.wrap (n : Int) = (n : Int) := IntWalk.i64_in _ (by omega)
                have HM1 : Hid (L1.length ≤ 9223372036854775807) := Lib.hid (by have := HLN1.out; omega)
                have HM2 : Hid (L2.length ≤ 9223372036854775807) := Lib.hid (by have := HLN2.out; omega)
                obtain ⟨x0, x1, x2⟩ := HPT.out.1
                clear hkn hL1 hL2 hb hm1 hm2 hsum
                go_wp2_with fail
                refine (brightB_as _ _ _ f l1 L1 0 (-1) _ ⟨(HX.out.below (HE.out _ HBR.out)).1, HV1.out.below (HE.out _ HBR.out), HI1.out, HX.out.2.2.2.1, HL1.out, HM1.out, HO1.out⟩ (HG.out.below (HE.out _ HBR.out)) HQ1.out).mono ?_
                rintro r w20 ⟨err, rfl, hat, hb20⟩
                obtain rfl := hat.nil rfl
                have HB20 : Hid (Below W.heap.size W w20) := HBR.out.trans (hb20.mono HBR.out.size)
                have HPT20 := Lib.hid (HPT.out.below hb20 HPB.out HQB.out)
                have HI20 := Lib.hid (HI2.out.below hb20)
                clear hb20 hat x0 x1 x2
                obtain ⟨x0, x1, x2⟩ := HPT20.out.2.1
                go_wp2_with fail
                refine (brightB_as _ _ _ l1 h L2 0 (-1) _ ⟨HV1.out.below (HE.out _ HB20.out), (HX.out.below (HE.out _ HB20.out)).2.1, HI20.out, HL1.out, HX.out.2.2.2.2.1, HM2.out, HO2.out⟩ (HG.out.below (HE.out _ HB20.out)) HQ2.out).mono ?_
                rintro r w21 ⟨err, rfl, hat, hb21⟩
                obtain rfl := hat.nil rfl
                have HB21 : Hid (Below W.heap.size W w21) := HB20.out.trans (hb21.mono HB20.out.size)
                have HPT21 := Lib.hid (HPT20.out.below hb21 HPB.out HQB.out)
                clear hb21 hat x0 x1 x2
                obtain ⟨x0, x1, x2⟩ := HPT21.out.1
                obtain ⟨y0, y1, y2⟩ := HPT21.out.2.1
                obtain ⟨z0, z1, z2⟩ := HA.out.below HB21.out HZ.out
                go_wp2
                go_ret
                exact ⟨by first | rfl | simp, HE.out _ HB21.out⟩
          · skip
            have hp := pt_newB w6 (.slice af nf cf) (.slice a1 len1 cap1) (.slice a1 len1 cap1) (.slice ah nh ch)
            obtain ⟨W7, hW7⟩ : ∃ W7, W7 = ((w6.alloc (.cells #[.slice a1 len1 cap1, .slice ah nh ch, .slice none 0 0] 25)).alloc (.cells #[.slice af nf cf, .slice a1 len1 cap1, .slice none 0 0] 25)).drew := ⟨_, rfl⟩
            obtain ⟨base, hbs⟩ : ∃ b, b = w6.heap.size + 1 + 1 := ⟨_, rfl⟩
            rw [← hW7, ← hbs] at hp
            rw [← hW7]
            obtain ⟨P, hq1⟩ : ∃ q, q = w6.heap.size + 1 := ⟨_, rfl⟩
            rw [← hq1] at hp ⊢
            obtain ⟨Q, hq2⟩ : ∃ q, q = w6.heap.size := ⟨_, rfl⟩
            rw [← hq2] at hp ⊢
            have HPB : Hid (P < base) := Lib.hid (by omega)
            have HQB : Hid (Q < base) := Lib.hid (by omega)
            have HPQ : Hid (P ≠ Q) := Lib.hid (by omega)
            have HP0 : Hid (w6.heap.size ≤ P) := Lib.hid (by omega)
            have HQ0 : Hid (w6.heap.size ≤ Q) := Lib.hid (by omega)
            clear hW7 hbs hq1 hq2
            have HP := Lib.hid hp
            have HBW7 : Hid (Below W.heap.size W W7) := HB6.out.trans (hp.2.2.2.2.2.2.2.2.mono HB6.out.size)
            clear hp d0 d1 d2
            obtain ⟨d0, d1, d2⟩ := HA.out.below HBW7.out HZ.out
            have hlt7 : w.heap.size < W7.heap.size := Nat.lt_of_lt_of_le HZ.out HBW7.out.size
            go_wp2
            clear d0 d1 d2 hlt7 hlt6
            go_loopw [53] (fun i wr => ∃ (k : Nat) (v1 v2 : Value), k ≤ n ∧ i = .int .i64 k ∧ PT w6 base P Q (.slice af nf cf) (.slice a1 len1 cap1) (.slice a1 len1 cap1) (.slice ah nh ch) ((l.take k).filter fun x => wiF (wid x) f l1) ((l.take k).filter fun x => wiF (wid x) l1 h) v1 v2 wr) (fun i _ => n - (intOf i).toNat)
            case atStart => exact ⟨0, _, _, by omega, rfl, by simpa using HP.out⟩
            case round =>
              obtain ⟨k, v1, v2, hk, rfl, hp⟩ := hrel
              obtain ⟨L1, hL1⟩ : ∃ L, L = (l.take k).filter fun x => wiF (wid x) f l1 := ⟨_, rfl⟩
              obtain ⟨L2, hL2⟩ : ∃ L, L = (l.take k).filter fun x => wiF (wid x) l1 h := ⟨_, rfl⟩
              rw [← hL1, ← hL2] at hp
              have HL1F := Lib.hid hL1
              have HL2F := Lib.hid hL2
              have HPT := Lib.hid hp
              have HBR : Hid (Below W.heap.size W wr) := HB6.out.trans (hp.2.2.2.2.2.2.2.2.mono HB6.out.size)
              have HBW : Hid (base ≤ wr.heap.size) := Lib.hid hp.2.2.2.2.2.2.2.1
              have HOWN1 := Lib.hid hp.2.2.2.2.1
              have HOWN2 := Lib.hid hp.2.2.2.2.2.1
              have h60 := (rightB_iff.1 HRB.out).2.1
              have HLN1 : Hid (L1.length ≤ 60) := Lib.hid (by rw [hL1]; exact Nat.le_trans (List.length_filter_le _ _) (Nat.le_trans (List.length_take_le _ _) (by have := HN.out; omega)))
              have HLN2 : Hid (L2.length ≤ 60) := Lib.hid (by rw [hL2]; exact Nat.le_trans (List.length_filter_le _ _) (Nat.le_trans (List.length_take_le _ _) (by have := HN.out; omega)))
              clear hL1 hL2 hp
              by_cases hlt : k < n
              · obtain ⟨t, ht⟩ : ∃ t, l[k]? = some t := ⟨l[k]'(by have := HN.out; omega), List.getElem?_eq_getElem _⟩
                obtain ⟨b1, o1, rfl, hb1, p0, p1, p2, p3, p4, p5⟩ := FW.out k t ht
                have hBw := HE.out _ HBR.out
                have q0 := (hBw.cell (p := ⟨b1, o1 + k * 6, none⟩) hb1).trans p0
                have q1 := (hBw.cell (p := ⟨b1, o1 + k * 6 + 1, none⟩) hb1).trans p1
                have q2 := (hBw.cell (p := ⟨b1, o1 + k * 6 + 2, none⟩) hb1).trans p2
                have q3 := (hBw.cell (p := ⟨b1, o1 + k * 6 + 3, none⟩) hb1).trans p3
                have q4 := (hBw.cell (p := ⟨b1, o1 + k * 6 + 4, none⟩) hb1).trans p4
                have q5 := (hBw.cell (p := ⟨b1, o1 + k * 6 + 5, none⟩) hb1).trans p5
                have hfa := filter_snoc (p := fun x => wiF (wid x) f l1) ht
                have hfb := filter_snoc (p := fun x => wiF (wid x) l1 h) ht
                have hone := wi_partsB (wid t) (rightB_iff.1 HRB.out).1.1 HR1.out (rightB_iff.1 HRB.out).1.2.1 HY.out HZZ.out ((rightB_iff.1 HRB.out).2.2.1 t (List.mem_of_getElem? ht)).2
                obtain ⟨cc, hcc⟩ : ∃ c, wiF (wid t) f l1 = c := ⟨_, rfl⟩
                rw [hcc] at hone
                try simp only at hfa hfb
                rw [hcc, ← HL1F.out] at hfa
                rw [hone, ← HL2F.out] at hfb
                have HFA := Lib.hid hfa
                have HFB := Lib.hid hfb
                obtain ⟨T, R, K, key, val, N⟩ := t
                simp only at q0 q1 q2 q3 q4 q5
                have HW1 : Hid (wiF (T, R) f l1 = cc) := Lib.hid hcc
                have HW2 : Hid (wiF (T, R) l1 h = !cc) := Lib.hid hone
                obtain ⟨e0, e1, e2⟩ := HA.out.below HBR.out HZ.out
                have hn60 : n ≤ 60 := by rw [HN.out]; exact h60
                have hltr : w.heap.size < wr.heap.size := Nat.lt_of_lt_of_le HZ.out HBR.out.size
                clear p0 p1 p2 p3 p4 p5 hBw ht hfa hfb hone hcc h60
                go_wp2_with fail
                refine (within_as T R _ _ f l1 cc _ ((HX.out.below (HE.out _ HBR.out)).1.alloc _) ((HV1.out.below (HE.out _ HBR.out)).alloc _) HX.out.2.2.2.1 HL1.out HW1.out).mono ?_
                rintro r w9 ⟨rfl, hb9⟩
                have HB9 : Hid (Below W.heap.size W w9) := (HBR.out.alloc HBR.out.size _).trans (hb9.mono (by have := HBR.out.size; simp; omega))
                have HC9 : Hid (wrAt w9 wr.heap.size T R K key val N) := Lib.hid ((wrAt_new wr T R K key val N 41).below hb9 (by simp))
                have HPT9 := Lib.hid ((HPT.out.alloc (.cells #[.int .i64 T, .int .i64 R, .int .i64 K, .string key, .string val, .int .i64 N] 41) HPB.out HQB.out).below hb9 HPB.out HQB.out)
                have HD9 := Lib.hid (HA.out.below HB9.out HZ.out)
                have HZ9 : Hid (w.heap.size < w9.heap.size) := Lib.hid (Nat.lt_of_lt_of_le HZ.out HB9.out.size)
                have HMB9 : Hid (wr.heap.size < w9.heap.size) := Lib.hid (by have := hb9.size; simp at this; exact this)
                clear hb9 q0 q1 q2 q3 q4 q5 e0 e1 e2 hltr
                cases cc with
                | true =>
                  have hpp := HPT9.out
                  obtain ⟨c0, c1, c2, c3, c4, c5⟩ := HC9.out
                  have hb2 := hpp.1.2.2
                  go_wp2_with (at_builtin; refine wpList_append_wr2 rfl _ _ rfl base v1 L1 rfl (hpp.2.2.2.2.1.alloc _) w9.heap.size 1 rfl ⟨T, R, K, key, val, N⟩ ?ca18x ?cb18x ?cc18x ?_)
                  case ca18x => exact heap_alloc_new _ _
                  case cb18x => have := HLN1.out; omega
                  case cc18x => have := hpp.2.2.2.2.2.2.2.1; simp; omega
                  intro g cap w10 ho hg hw3
                  have hpa := (hpp.alloc (.cells #[.int .i64 T, .int .i64 R, .int .i64 K, .string key, .string val, .int .i64 N] 41) HPB.out HQB.out)
                  obtain ⟨g1, g2⟩ := hpa.grown HPB.out hg
                  have HPX := Lib.hid (hpa.push HPB.out HQB.out (by first | exact HPQ.out | exact HPQ.out.symm) HP0.out ho hg (hw3.imp_right fun e => e.trans (World.size_alloc _ _).symm))
                  obtain ⟨f0, f1, f2, f3, f4, f5⟩ := (HC9.out.below ((Below.refl _ _).alloc (Nat.le_refl _) (.cells #[.int .i64 T, .int .i64 R, .int .i64 K, .string key, .string val, .int .i64 N] 41)) HMB9.out).grown0 (by have := HMB9.out; simp; omega) hg (fun e => by have := (HOWN1.out.lt _ e).2; omega)
                  obtain ⟨e0, e1, e2⟩ := (HD9.out.below ((Below.refl _ _).alloc (Nat.le_refl _) (.cells #[.int .i64 T, .int .i64 R, .int .i64 K, .string key, .string val, .int .i64 N] 41)) HZ9.out).grown0 (by have := HZ9.out; simp; omega) hg (fun e => by have := (HOWN1.out.lt _ e).1; have := HPB.out; have := HP0.out; have := HB6.out.size; have := HZ.out; omega)
                  clear ho hg hw3 hpa hpp c0 c1 c2 c3 c4 c5 hb2
                  obtain ⟨ln, hln⟩ : ∃ ln, ln = L1.length := ⟨_, rfl⟩
                  rw [← hln] at HPX ⊢
                  have HLNX := Lib.hid hln
                  clear hln
                  go_wp2_with fail
                  have HBX : Hid (Below W.heap.size W (w10.setCell ⟨P, 2, none⟩ (.slice (some ⟨g, 0, none⟩) (ln + 1) cap))) := HB6.out.trans (HPX.out.2.2.2.2.2.2.2.2.mono HB6.out.size)
                  refine (within_as T R _ _ l1 h false _ (HV1.out.below (HE.out _ HBX.out)) (HX.out.below (HE.out _ HBX.out)).2.1 HL1.out HX.out.2.2.2.2.1 (show wiF (T, R) l1 h = false from HW2.out)).mono ?_
                  rintro r w12 ⟨rfl, hb12⟩
                  have HPT12 := Lib.hid (HPX.out.below hb12 HPB.out HQB.out)
                  clear hb12 f0 f1 f2 f3 f4 f5 e0 e1 e2 g1 g2
                  go_wp2
                  go_roundw
                  case rel => exact ⟨k + 1, _, v2, by omega, by go_num, by rw [HFA.out, HFB.out]; exact HPT12.out⟩
                  case measure => simp [intOf]; omega
                | false =>
                  obtain ⟨c0, c1, c2, c3, c4, c5⟩ := HC9.out
                  obtain ⟨e0, e1, e2⟩ := HD9.out
                  go_wp2_with fail
                  refine (within_as T R _ _ l1 h true _ (HV1.out.below (HE.out _ HB9.out)) (HX.out.below (HE.out _ HB9.out)).2.1 HL1.out HX.out.2.2.2.2.1 (show wiF (T, R) l1 h = true from HW2.out)).mono ?_
                  rintro r w12 ⟨rfl, hb12⟩
                  have HC12 := Lib.hid (HC9.out.below hb12 HMB9.out)
                  have HPT12 := Lib.hid (HPT9.out.below hb12 HPB.out HQB.out)
                  have HMB12 : Hid (wr.heap.size < w12.heap.size) := Lib.hid (Nat.lt_of_lt_of_le HMB9.out hb12.size)
                  clear hb12 c0 c1 c2 c3 c4 c5 e0 e1 e2
                  have hpp := HPT12.out.swap
                  obtain ⟨c0, c1, c2, c3, c4, c5⟩ := HC12.out
                  have hb2 := hpp.1.2.2
                  go_wp2_with (at_builtin; refine wpList_append_wr2 rfl _ _ rfl base v2 L2 rfl (hpp.2.2.2.2.1.alloc _) w12.heap.size 1 rfl ⟨T, R, K, key, val, N⟩ ?dax ?dbx ?dcx ?_)
                  case dax => exact heap_alloc_new _ _
                  case dbx => have := HLN2.out; omega
                  case dcx => have := hpp.2.2.2.2.2.2.2.1; simp; omega
                  intro g cap w10 ho hg hw3
                  have hpa := (hpp.alloc (.cells #[.int .i64 T, .int .i64 R, .int .i64 K, .string key, .string val, .int .i64 N] 41) HQB.out HPB.out)
                  obtain ⟨g1, g2⟩ := hpa.grown HQB.out hg
                  have HPX := Lib.hid (hpa.push HQB.out HPB.out HPQ.out.symm HQ0.out ho hg (hw3.imp_right fun e => e.trans (World.size_alloc _ _).symm))
                  clear ho hg hw3 hpa hpp c0 c1 c2 c3 c4 c5 hb2
                  obtain ⟨ln, hln⟩ : ∃ ln, ln = L2.length := ⟨_, rfl⟩
                  rw [← hln] at HPX ⊢
                  clear hln
                  go_wp2
                  go_roundw
                  case rel => exact ⟨k + 1, v1, _, by omega, by go_num, by rw [HFA.out, HFB.out]; exact HPX.out.swap⟩
                  case measure => simp [intOf]; omega
              · have hkn : k = n := by omega
                have hL1 : L1 = l.filter fun x => wiF (wid x) f l1 := by rw [HL1F.out, hkn, HN.out, List.take_length]
                have hL2 : L2 = l.filter fun x => wiF (wid x) l1 h := by rw [HL2F.out, hkn, HN.out, List.take_length]
                have hb := rightB_iff.1 HRB.out
                have HQ1 : Hid (batF f l1 L1 = (0, -1)) := Lib.hid (batF_place (by rw [hL1]; exact right_part1 HRB.out HR1.out HY.out))
                have HQ2 : Hid (batF l1 h L2 = (0, -1)) := Lib.hid (batF_place (by rw [hL2]; exact right_part2 HRB.out HR1.out HZZ.out))
                have hsum : L1.length + L2.length = n := by
                  rw [hL1, hL2, HN.out]
                  exact filter_both l fun x hx => wi_partsB (wid x) hb.1.1 HR1.out hb.1.2.1 HY.out HZZ.out (hb.2.2.1 x hx).2
                have HO1 : Hid (∀ t ∈ L1, WrOk t) := Lib.hid (fun t ht => HX.out.2.2.2.2.2.2 t (by rw [hL1, List.mem_filter] at ht; exact ht.1))
                have HO2 : Hid (∀ t ∈ L2, WrOk t) := Lib.hid (fun t ht => HX.out.2.2.2.2.2.2 t (by rw [hL2, List.mem_filter] at ht; exact ht.1))
                have HI1 := Lib.hid HOWN1.out.is
                have HI2 := Lib.hid HOWN2.out.is
                obtain ⟨av1, cv1, hv1, _⟩ := HI1.out.form
                obtain ⟨av2, cv2, hv2, _⟩ := HI2.out.form
                subst hv1 hv2
                obtain ⟨m1, hm1⟩ : ∃ m, m = L1.length := ⟨_, rfl⟩
                obtain ⟨m2, hm2⟩ : ∃ m, m = L2.length := ⟨_, rfl⟩
                rw [← hm1, ← hm2] at hsum
                rw [← hm1] at HPT HI1
                rw [← hm2] at HPT HI2
                have hsi : (m1 : Int) + (m2 : Int) = (n : Int) := by omega
                have hn60 : n ≤ 60 := by rw [HN.out]; exact hb.2.1
                have hws : IntKind.i64.wrap ((m1 : Int) + (m2 : Int)) = (n : Int) := by rw [hsi]; exact IntWalk.i64_in _ (by omega)
                have hwn : IntKind.i64.wrap (n : Int) = (n : Int) := IntWalk.i64_in _ (by omega)
                have HM1 : Hid (L1.length ≤ 9223372036854775807) := Lib.hid (by have := HLN1.out; omega)
                have HM2 : Hid (L2.length ≤ 9223372036854775807) := Lib.hid (by have := HLN2.out; omega)
                obtain ⟨x0, x1, x2⟩ := HPT.out.1
                clear hkn hL1 hL2 hb hm1 hm2 hsum
                go_wp2_with fail
                refine (brightB_as _ _ _ f l1 L1 0 (-1) _ ⟨(HX.out.below (HE.out _ HBR.out)).1, HV1.out.below (HE.out _ HBR.out), HI1.out, HX.out.2.2.2.1, HL1.out, HM1.out, HO1.out⟩ (HG.out.below (HE.out _ HBR.out)) HQ1.out).mono ?_
                rintro r w20 ⟨err, rfl, hat, hb20⟩
                obtain rfl := hat.nil rfl
                have HB20 : Hid (Below W.heap.size W w20) := HBR.out.trans (hb20.mono HBR.out.size)
                have HPT20 := Lib.hid (HPT.out.below hb20 HPB.out HQB.out)
                have HI20 := Lib.hid (HI2.out.below hb20)
                clear hb20 hat x0 x1 x2
                obtain ⟨x0, x1, x2⟩ := HPT20.out.2.1
                go_wp2_with fail
                refine (brightB_as _ _ _ l1 h L2 0 (-1) _ ⟨HV1.out.below (HE.out _ HB20.out), (HX.out.below (HE.out _ HB20.out)).2.1, HI20.out, HL1.out, HX.out.2.2.2.2.1, HM2.out, HO2.out⟩ (HG.out.below (HE.out _ HB20.out)) HQ2.out).mono ?_
                rintro r w21 ⟨err, rfl, hat, hb21⟩
                obtain rfl := hat.nil rfl
                have HB21 : Hid (Below W.heap.size W w21) := HB20.out.trans (hb21.mono HB20.out.size)
                have HPT21 := Lib.hid (HPT20.out.below hb21 HPB.out HQB.out)
                clear hb21 hat x0 x1 x2
                obtain ⟨x0, x1, x2⟩ := HPT21.out.1
                obtain ⟨y0, y1, y2⟩ := HPT21.out.2.1
                obtain ⟨z0, z1, z2⟩ := HA.out.below HB21.out HZ.out
                go_wp2
                go_ret
                exact ⟨by first | rfl | simp, HE.out _ HB21.out⟩
end Go.Proofs.YtiipnifnejnhlaaDoor
