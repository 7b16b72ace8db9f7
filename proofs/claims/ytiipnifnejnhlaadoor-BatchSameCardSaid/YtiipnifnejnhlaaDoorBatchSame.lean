/-
  The walk of 'packtrainkeep.BatchSame'.
-/
import Derived.Test.YtiipnifnejnhlaaDoorBatOne
namespace Go.Proofs.YtiipnifnejnhlaaDoor
open Go.RowKit

theorem tell_of (v : Value) (e : Nat) (pl : Int) (w : World) (hg : errT w) (hv : anyErr w v (e, pl)) : Calls Tryd.prog 18 #[v] w fun r w' => r = .returned (.int .i64 (e : Int)) ∧ Below w.heap.size w w' := by
  by_cases h0 : e = 0
  · subst h0
    obtain rfl := hv.nil rfl
    exact (tell_nil w).mono fun _ _ ⟨h1, h2⟩ => ⟨h1, h2 ▸ Below.refl _ _⟩
  · exact tell_err v e w hg (hv.isErr h0)

set_option maxRecDepth 100000 in
set_option maxHeartbeats 16000000 in
theorem batchSame_walk (w : World) (vf vh vw : Value) (f h : List Ent) (l : List Wr) (hx : BatIs w vf vh vw f h l) (uf uh uw : Value) (f2 h2 : List Ent) (l2 : List Wr) (hy : BatIs w uf uh uw f2 h2 l2) (hg : errT w) :
    Calls Tryd.prog 6 #[.agg #[vf, vh, vw], .agg #[uf, uh, uw]] w fun e w' => e = .returned (.bool true) ∧ Below w.heap.size w w' := by
  have HG := Lib.hid hg
  clear hg
  have HX := Lib.hid hx
  have HY := Lib.hid hy
  obtain ⟨hf, hh, hv, _⟩ := hx
  obtain ⟨af, cf, rfl, _⟩ := hf.form
  obtain ⟨ah, ch, rfl, _⟩ := hh.form
  obtain ⟨aw, cw, rfl, _⟩ := hv.form
  obtain ⟨hf2, hh2, hv2, _⟩ := hy
  obtain ⟨bf, df, rfl, _⟩ := hf2.form
  obtain ⟨bh, dh, rfl, _⟩ := hh2.form
  obtain ⟨bw, dw, rfl, _⟩ := hv2.form
  clear hf hh hv hf2 hh2 hv2
  obtain ⟨nf, hn1⟩ : ∃ n, n = f.length := ⟨_, rfl⟩
  obtain ⟨nh, hn2⟩ : ∃ n, n = h.length := ⟨_, rfl⟩
  obtain ⟨n, hn3⟩ : ∃ n, n = l.length := ⟨_, rfl⟩
  obtain ⟨mf, hn4⟩ : ∃ n, n = f2.length := ⟨_, rfl⟩
  obtain ⟨mh, hn5⟩ : ∃ n, n = h2.length := ⟨_, rfl⟩
  obtain ⟨m, hn6⟩ : ∃ n, n = l2.length := ⟨_, rfl⟩
  rw [← hn1, ← hn2, ← hn3] at HX ⊢
  rw [← hn4, ← hn5, ← hn6] at HY ⊢
  obtain ⟨c1, e1⟩ : ∃ c, bigV 200 f h l = c := ⟨_, rfl⟩
  obtain ⟨c2, e2⟩ : ∃ c, bigV 200 f2 h2 l2 = c := ⟨_, rfl⟩
  obtain ⟨c3, e3⟩ : ∃ c, sameV f h l f2 h2 l2 = c := ⟨_, rfl⟩
  have H1 := Lib.hid e1
  have H2 := Lib.hid e2
  have H3 := Lib.hid e3
  have H4 := Lib.hid ((sameV_comm f h l f2 h2 l2).trans e3)
  have H5 := Lib.hid (sameV_self f h l)
  have HW0 : Hid (Below w.heap.size w ((w.alloc (.cells #[.slice af nf cf, .slice ah nh ch, .slice aw n cw] 25)).alloc (.cells #[.slice bf mf df, .slice bh mh dh, .slice bw m dw] 25))) := Lib.hid (((Below.refl _ _).alloc (Nat.le_refl _) _).alloc (by simp) _)
  have HA : Hid (bat2 ((w.alloc (.cells #[.slice af nf cf, .slice ah nh ch, .slice aw n cw] 25)).alloc (.cells #[.slice bf mf df, .slice bh mh dh, .slice bw m dw] 25)) w.heap.size (.slice af nf cf) (.slice ah nh ch) (.slice aw n cw) (.slice bf mf df) (.slice bh mh dh) (.slice bw m dw)) := Lib.hid (bat2_new _ _ _ _ _ _ _ _ _)
  have HZ : Hid (w.heap.size + 1 < ((w.alloc (.cells #[.slice af nf cf, .slice ah nh ch, .slice aw n cw] 25)).alloc (.cells #[.slice bf mf df, .slice bh mh dh, .slice bw m dw] 25)).heap.size) := Lib.hid (by simp)
  clear hn1 hn2 hn3 hn4 hn5 hn6 e1 e2 e3
  go_enter Tryd.func6, Tryd.ntmps6
  go_wp2_with fail
  generalize (w.alloc (.cells #[.slice af nf cf, .slice ah nh ch, .slice aw n cw] 25)).alloc (.cells #[.slice bf mf df, .slice bh mh dh, .slice bw m dw] 25) = W at HA HW0 HZ ⊢
  have HE : Hid (∀ w', Below W.heap.size W w' → Below w.heap.size w w') := Lib.hid (fun w' hx => HW0.out.trans (hx.mono HW0.out.size))
  refine (gathered_any _ (HG.out.below HW0.out)).mono ?_
  rintro r w1 ⟨rfl, hb1⟩
  have HB1 := Lib.hid hb1
  clear hb1
  obtain ⟨d0, d1, d2, d3, d4, d5⟩ := HA.out.below HB1.out HZ.out
  go_wp2_with fail
  refine (bigK_as _ _ _ f h l c1 _ (HX.out.below (HE.out _ HB1.out)) H1.out).mono ?_
  rintro r w2 ⟨rfl, hb2⟩
  have HB2 : Hid (Below W.heap.size W w2) := HB1.out.trans (hb2.mono HB1.out.size)
  clear hb2 d0 d1 d2 d3 d4 d5
  cases c1 with
  | true =>
    go_wp2
    go_ret
    exact ⟨rfl, HE.out _ HB2.out⟩
  | false =>
    obtain ⟨d0, d1, d2, d3, d4, d5⟩ := HA.out.below HB2.out HZ.out
    go_wp2_with fail
    refine (bigK_as _ _ _ f2 h2 l2 c2 _ (HY.out.below (HE.out _ HB2.out)) H2.out).mono ?_
    rintro r w3 ⟨rfl, hb3⟩
    have HB3 : Hid (Below W.heap.size W w3) := HB2.out.trans (hb3.mono HB2.out.size)
    clear hb3 d0 d1 d2 d3 d4 d5
    cases c2 with
    | true =>
      go_wp2
      go_ret
      exact ⟨rfl, HE.out _ HB3.out⟩
    | false =>
      go_wp2
      have HB3d : Hid (Below W.heap.size W w3.drew) := Lib.hid HB3.out.drew
      have hA0 := HA.out.below HB3.out HZ.out
      unfold bat2 at hA0
      cases c3 with
      | true =>
        obtain ⟨e, pl, hb⟩ : ∃ e pl, batF f h l = (e, pl) := ⟨_, _, rfl⟩
        have HF1 := Lib.hid hb
        have HF2 : Hid (batF f2 h2 l2 = (e, pl)) := Lib.hid (by
          obtain ⟨g1, g2, g3⟩ := sameV_eq H3.out
          rw [← g1, ← g2, ← g3]; exact hb)
        clear hb
        go_region_held3 (fun w' => w'.cell? ⟨w.heap.size, 0, none⟩ = some (.slice af nf cf) ∧ w'.cell? ⟨w.heap.size, 1, none⟩ = some (.slice ah nh ch) ∧ w'.cell? ⟨w.heap.size, 2, none⟩ = some (.slice aw n cw) ∧ w'.cell? ⟨w.heap.size + 1, 0, none⟩ = some (.slice bf mf df) ∧ w'.cell? ⟨w.heap.size + 1, 1, none⟩ = some (.slice bh mh dh) ∧ w'.cell? ⟨w.heap.size + 1, 2, none⟩ = some (.slice bw m dw)) (first | exact hA0 | exact k4 | exact k5 | exact k6 | exact k7 | exact k8 | exact k9 | exact k10 | exact k11 | fail) (first
          | (go_at_call 23; ((with_reducible refine (bsame_as _ _ _ _ _ _ f h l f h l true w3.drew (HX.out.below (HE.out _ HB3d.out)) (HX.out.below (HE.out _ HB3d.out)) H5.out).mono ?_); rintro r w4 ⟨rfl, hb4⟩; have HB4 : Hid (Below W.heap.size W w4) := HB3d.out.trans (hb4.mono HB3d.out.size); have k4 := HA.out.below HB4.out HZ.out; unfold bat2 at k4; clear hb4))
          | (go_at_call 23; ((with_reducible refine (bsame_as _ _ _ _ _ _ f h l f2 h2 l2 true w4 (HX.out.below (HE.out _ HB4.out)) (HY.out.below (HE.out _ HB4.out)) H3.out).mono ?_); rintro r w5 ⟨rfl, hb5⟩; have HB5 : Hid (Below W.heap.size W w5) := HB4.out.trans (hb5.mono HB4.out.size); have k5 := HA.out.below HB5.out HZ.out; unfold bat2 at k5; clear hb5))
          | (go_at_call 23; ((with_reducible refine (bsame_as _ _ _ _ _ _ f2 h2 l2 f h l true w5 (HY.out.below (HE.out _ HB5.out)) (HX.out.below (HE.out _ HB5.out)) H4.out).mono ?_); rintro r w6 ⟨rfl, hb6⟩; have HB6 : Hid (Below W.heap.size W w6) := HB5.out.trans (hb6.mono HB5.out.size); have k6 := HA.out.below HB6.out HZ.out; unfold bat2 at k6; clear hb6))
          | (go_at_call 23; ((with_reducible refine (bsame_as _ _ _ _ _ _ f h l f2 h2 l2 true w6 (HX.out.below (HE.out _ HB6.out)) (HY.out.below (HE.out _ HB6.out)) H3.out).mono ?_); rintro r w7 ⟨rfl, hb7⟩; have HB7 : Hid (Below W.heap.size W w7) := HB6.out.trans (hb7.mono HB6.out.size); have k7 := HA.out.below HB7.out HZ.out; unfold bat2 at k7; clear hb7))
          | (go_at_call 10; ((with_reducible refine (brightB_as _ _ _ f h l e pl w7 (HX.out.below (HE.out _ HB7.out)) (HG.out.below (HE.out _ HB7.out)) HF1.out).mono ?_); rintro r w8 ⟨er1, rfl, hat1, hb8⟩; have HB8 : Hid (Below W.heap.size W w8) := HB7.out.trans (hb8.mono HB7.out.size); have HAT1 := Lib.hid hat1; clear hat1; have k8 := HA.out.below HB8.out HZ.out; unfold bat2 at k8; clear hb8))
          | (go_at_call 18; ((with_reducible refine (tell_of _ e pl w8 (HG.out.below (HE.out _ HB8.out)) HAT1.out).mono ?_); rintro r w9 ⟨rfl, hb9⟩; have HB9 : Hid (Below W.heap.size W w9) := HB8.out.trans (hb9.mono HB8.out.size); have k9 := HA.out.below HB9.out HZ.out; unfold bat2 at k9; clear hb9))
          | (go_at_call 10; ((with_reducible refine (brightB_as _ _ _ f2 h2 l2 e pl w9 (HY.out.below (HE.out _ HB9.out)) (HG.out.below (HE.out _ HB9.out)) HF2.out).mono ?_); rintro r w10 ⟨er2, rfl, hat2, hb10⟩; have HB10 : Hid (Below W.heap.size W w10) := HB9.out.trans (hb10.mono HB9.out.size); have HAT2 := Lib.hid hat2; clear hat2; have k10 := HA.out.below HB10.out HZ.out; unfold bat2 at k10; clear hb10))
          | (go_at_call 18; ((with_reducible refine (tell_of _ e pl w10 (HG.out.below (HE.out _ HB10.out)) HAT2.out).mono ?_); rintro r w11 ⟨rfl, hb11⟩; have HB11 : Hid (Below W.heap.size W w11) := HB10.out.trans (hb11.mono HB10.out.size); have k11 := HA.out.below HB11.out HZ.out; unfold bat2 at k11; clear hb11))
          | fail)
        go_wp2
        go_ret
        exact ⟨by first | rfl | simp, HE.out _ HB11.out⟩
      | false =>
        refine wp_region_held_drew (S := (fun w' => w'.cell? ⟨w.heap.size, 0, none⟩ = some (.slice af nf cf) ∧ w'.cell? ⟨w.heap.size, 1, none⟩ = some (.slice ah nh ch) ∧ w'.cell? ⟨w.heap.size, 2, none⟩ = some (.slice aw n cw) ∧ w'.cell? ⟨w.heap.size + 1, 0, none⟩ = some (.slice bf mf df) ∧ w'.cell? ⟨w.heap.size + 1, 1, none⟩ = some (.slice bh mh dh) ∧ w'.cell? ⟨w.heap.size + 1, 2, none⟩ = some (.slice bw m dw))) (by kernel_rfl) hA0 (fun hHeld => ?_)
        refine wpAnyH_take (i := 0) (v := ?v0) rfl (by kernel_rfl) (by kernel_rfl) (by kernel_rfl) (fun _ _ _ h => h) (Or.inl ⟨by rfl, ?h0⟩) (by assumption) ?r0
        case h0 => (intro W hSw; (try dsimp only at hSw); go_simp; all_goals (with_reducible rfl))
        try simp only [Act.put, List.getElem_toArray, List.getElem_cons_zero, List.setIfInBounds_toArray, List.set_cons_zero, List.set_cons_succ]
        refine wpAnyH_take (i := 1) (v := ?v1) rfl (by kernel_rfl) (by kernel_rfl) (by kernel_rfl) (fun _ _ _ h => h) (Or.inl ⟨by rfl, ?h1⟩) (by assumption) ?r1
        case h1 => (intro W hSw; (try dsimp only at hSw); go_simp; all_goals (with_reducible rfl))
        try simp only [Act.put, List.getElem_toArray, List.getElem_cons_zero, List.getElem_cons_succ, List.setIfInBounds_toArray, List.set_cons_zero, List.set_cons_succ]
        refine wpAnyH_ready (rs := [2]) (by kernel_rfl) (by simp) ?_
        refine AllReadyH.cons rfl (fun K hK => ?_) AllReadyH.nil
        go_simp
        refine (bsame_as _ _ _ _ _ _ f h l f h l true w3.drew (HX.out.below (HE.out _ HB3d.out)) (HX.out.below (HE.out _ HB3d.out)) H5.out).mono ?_
        rintro r w4 ⟨rfl, hb4⟩
        have HB4 : Hid (Below W.heap.size W w4) := HB3d.out.trans (hb4.mono HB3d.out.size)
        have k4 := HA.out.below HB4.out HZ.out
        unfold bat2 at k4
        clear hb4
        refine hK.out _ _ k4 (fun hHeld2 => ?_)
        clear hK hHeld
        try simp only [Act.put, List.getElem_toArray, List.getElem_cons_zero, List.getElem_cons_succ, List.setIfInBounds_toArray, List.set_cons_zero, List.set_cons_succ]
        refine wpAnyH_take (i := 3) (v := ?v3) rfl (by kernel_rfl) (by kernel_rfl) (by kernel_rfl) (fun _ _ _ h => h) (Or.inl ⟨by rfl, ?h3⟩) (by assumption) ?r3
        case h3 => (intro W hSw; (try dsimp only at hSw); go_simp; all_goals (with_reducible rfl))
        try simp only [Act.put, List.getElem_toArray, List.getElem_cons_zero, List.getElem_cons_succ, List.setIfInBounds_toArray, List.set_cons_zero, List.set_cons_succ]
        refine wpAnyH_take (i := 4) (v := ?v4) rfl (by kernel_rfl) (by kernel_rfl) (by kernel_rfl) (fun _ _ _ h => h) (Or.inl ⟨by rfl, ?h4⟩) (by assumption) ?r4
        case h4 => (intro W hSw; (try dsimp only at hSw); go_simp; all_goals (with_reducible rfl))
        try simp only [Act.put, List.getElem_toArray, List.getElem_cons_zero, List.getElem_cons_succ, List.setIfInBounds_toArray, List.set_cons_zero, List.set_cons_succ]
        refine wpAnyH_take (i := 5) (v := ?v5) rfl (by kernel_rfl) (by kernel_rfl) (by kernel_rfl) (fun _ _ _ h => h) (Or.inl ⟨by rfl, ?h5⟩) (by assumption) ?r5
        case h5 => (intro W hSw; (try dsimp only at hSw); go_simp; all_goals (with_reducible rfl))
        try simp only [Act.put, List.getElem_toArray, List.getElem_cons_zero, List.getElem_cons_succ, List.setIfInBounds_toArray, List.set_cons_zero, List.set_cons_succ]
        refine wpAnyH_take (i := 7) (v := ?v7) rfl (by kernel_rfl) (by kernel_rfl) (by kernel_rfl) (fun _ _ _ h => h) (Or.inl ⟨by rfl, ?h7⟩) (by assumption) ?r7
        case h7 => (intro W hSw; (try dsimp only at hSw); go_simp; all_goals (with_reducible rfl))
        try simp only [Act.put, List.getElem_toArray, List.getElem_cons_zero, List.getElem_cons_succ, List.setIfInBounds_toArray, List.set_cons_zero, List.set_cons_succ]
        refine wpAnyH_take (i := 8) (v := ?v8) rfl (by kernel_rfl) (by kernel_rfl) (by kernel_rfl) (fun _ _ _ h => h) (Or.inl ⟨by rfl, ?h8⟩) (by assumption) ?r8
        case h8 => (intro W hSw; (try dsimp only at hSw); go_simp; all_goals (with_reducible rfl))
        try simp only [Act.put, List.getElem_toArray, List.getElem_cons_zero, List.getElem_cons_succ, List.setIfInBounds_toArray, List.set_cons_zero, List.set_cons_succ]
        refine wpAnyH_ready (rs := [6]) (by kernel_rfl) (by simp) ?_
        refine AllReadyH.cons rfl (fun K hK => ?_) AllReadyH.nil
        go_simp
        refine (bsame_as _ _ _ _ _ _ f h l f2 h2 l2 false w4 (HX.out.below (HE.out _ HB4.out)) (HY.out.below (HE.out _ HB4.out)) H3.out).mono ?_
        rintro r w5 ⟨rfl, hb5⟩
        have HB5 : Hid (Below W.heap.size W w5) := HB4.out.trans (hb5.mono HB4.out.size)
        have k5 := HA.out.below HB5.out HZ.out
        unfold bat2 at k5
        clear hb5
        refine hK.out _ _ k5 (fun hHeld6 => ?_)
        clear hK hHeld2
        try simp only [Act.put, List.getElem_toArray, List.getElem_cons_zero, List.getElem_cons_succ, List.setIfInBounds_toArray, List.set_cons_zero, List.set_cons_succ]
        refine wpAnyH_ready (rs := [9]) (by kernel_rfl) (by simp) ?_
        refine AllReadyH.cons rfl (fun K hK => ?_) AllReadyH.nil
        go_simp
        refine (bsame_as _ _ _ _ _ _ f2 h2 l2 f h l false w5 (HY.out.below (HE.out _ HB5.out)) (HX.out.below (HE.out _ HB5.out)) H4.out).mono ?_
        rintro r w6 ⟨rfl, hb6⟩
        have HB6 : Hid (Below W.heap.size W w6) := HB5.out.trans (hb6.mono HB5.out.size)
        have k6 := HA.out.below HB6.out HZ.out
        unfold bat2 at k6
        clear hb6
        refine hK.out _ _ k6 (fun hHeld9 => ?_)
        clear hK hHeld6
        try simp only [Act.put, List.getElem_toArray, List.getElem_cons_zero, List.getElem_cons_succ, List.setIfInBounds_toArray, List.set_cons_zero, List.set_cons_succ]
        refine wpAnyH_take (i := 10) (v := ?v10) rfl (by kernel_rfl) (by kernel_rfl) (by kernel_rfl) (fun _ _ _ h => h) (Or.inl ⟨by rfl, ?h10⟩) (by assumption) ?r10
        case h10 => (intro W hSw; (try dsimp only at hSw); go_simp; all_goals (with_reducible rfl))
        try simp only [Act.put, List.getElem_toArray, List.getElem_cons_zero, List.getElem_cons_succ, List.setIfInBounds_toArray, List.set_cons_zero, List.set_cons_succ]
        refine wpAnyH_take (i := 11) (v := ?v11) rfl (by kernel_rfl) (by kernel_rfl) (by kernel_rfl) (fun _ _ _ h => h) (Or.inl ⟨by rfl, ?h11⟩) (by assumption) ?r11
        case h11 => (intro W hSw; (try dsimp only at hSw); go_simp; all_goals (with_reducible rfl))
        try simp only [Act.put, List.getElem_toArray, List.getElem_cons_zero, List.getElem_cons_succ, List.setIfInBounds_toArray, List.set_cons_zero, List.set_cons_succ]
        refine wpAnyH_take (i := 12) (v := ?v12) rfl (by kernel_rfl) (by kernel_rfl) (by kernel_rfl) (fun _ _ _ h => h) (Or.inl ⟨by rfl, ?h12⟩) (by assumption) ?r12
        case h12 => (intro W hSw; (try dsimp only at hSw); go_simp; all_goals (with_reducible rfl))
        try simp only [Act.put, List.getElem_toArray, List.getElem_cons_zero, List.getElem_cons_succ, List.setIfInBounds_toArray, List.set_cons_zero, List.set_cons_succ]
        refine wpAnyH_take (i := 13) (v := ?v13) rfl (by kernel_rfl) (by kernel_rfl) (by kernel_rfl) (fun _ _ _ h => h) (Or.inl ⟨by rfl, ?h13⟩) (by assumption) ?r13
        case h13 => (intro W hSw; (try dsimp only at hSw); go_simp; all_goals (with_reducible rfl))
        try simp only [Act.put, List.getElem_toArray, List.getElem_cons_zero, List.getElem_cons_succ, List.setIfInBounds_toArray, List.set_cons_zero, List.set_cons_succ]
        refine wpAnyH_take (i := 14) (v := ?v14) rfl (by kernel_rfl) (by kernel_rfl) (by kernel_rfl) (fun _ _ _ h => h) (Or.inl ⟨by rfl, ?h14⟩) (by assumption) ?r14
        case h14 => (intro W hSw; (try dsimp only at hSw); go_simp; all_goals (with_reducible rfl))
        try simp only [Act.put, List.getElem_toArray, List.getElem_cons_zero, List.getElem_cons_succ, List.setIfInBounds_toArray, List.set_cons_zero, List.set_cons_succ]
        refine wpAnyH_ready (rs := [15]) (by kernel_rfl) (by simp) ?_
        refine AllReadyH.cons rfl (fun K hK => ?_) AllReadyH.nil
        go_simp
        refine (bsame_as _ _ _ _ _ _ f h l f2 h2 l2 false w6 (HX.out.below (HE.out _ HB6.out)) (HY.out.below (HE.out _ HB6.out)) H3.out).mono ?_
        rintro r w7 ⟨rfl, hb7⟩
        have HB7 : Hid (Below W.heap.size W w7) := HB6.out.trans (hb7.mono HB6.out.size)
        have k7 := HA.out.below HB7.out HZ.out
        unfold bat2 at k7
        clear hb7
        refine hK.out _ _ k7 (fun hHeld15 => ?_)
        clear hK hHeld9
        try simp only [Act.put, List.getElem_toArray, List.getElem_cons_zero, List.getElem_cons_succ, List.setIfInBounds_toArray, List.set_cons_zero, List.set_cons_succ]
        refine wpAnyH_take (i := 16) (v := ?v16) rfl (by kernel_rfl) (by kernel_rfl) (by kernel_rfl) (fun _ _ _ h => h) (Or.inl ⟨by rfl, ?h16⟩) (by assumption) ?r16
        case h16 => (intro W hSw; (try dsimp only at hSw); go_simp; all_goals (with_reducible rfl))
        try simp only [Act.put, List.getElem_toArray, List.getElem_cons_zero, List.getElem_cons_succ, List.setIfInBounds_toArray, List.set_cons_zero, List.set_cons_succ]
        refine wpAnyH_take (i := 17) (v := ?v17) rfl (by kernel_rfl) (by kernel_rfl) (by kernel_rfl) (fun _ _ _ h => h) (Or.inl ⟨by rfl, ?h17⟩) (by assumption) ?r17
        case h17 => (intro W hSw; (try dsimp only at hSw); go_simp; all_goals (with_reducible rfl))
        try simp only [Act.put, List.getElem_toArray, List.getElem_cons_zero, List.getElem_cons_succ, List.setIfInBounds_toArray, List.set_cons_zero, List.set_cons_succ]
        refine wpAnyH_take (i := 18) (v := undef) rfl (by kernel_rfl) (by kernel_rfl) (by kernel_rfl) (fun _ _ _ h => h) (Or.inr ⟨by rfl, rfl⟩) (by assumption) ?_
        try simp only [Act.put, List.getElem_toArray, List.getElem_cons_zero, List.getElem_cons_succ, List.setIfInBounds_toArray, List.set_cons_zero, List.set_cons_succ]
        refine wpAnyH_take (i := 19) (v := undef) rfl (by kernel_rfl) (by kernel_rfl) (by kernel_rfl) (fun _ _ _ h => h) (Or.inr ⟨by rfl, rfl⟩) (by assumption) ?_
        try simp only [Act.put, List.getElem_toArray, List.getElem_cons_zero, List.getElem_cons_succ, List.setIfInBounds_toArray, List.set_cons_zero, List.set_cons_succ]
        refine wpAnyH_take (i := 20) (v := undef) rfl (by kernel_rfl) (by kernel_rfl) (by kernel_rfl) (fun _ _ _ h => h) (Or.inr ⟨by rfl, rfl⟩) (by assumption) ?_
        try simp only [Act.put, List.getElem_toArray, List.getElem_cons_zero, List.getElem_cons_succ, List.setIfInBounds_toArray, List.set_cons_zero, List.set_cons_succ]
        refine wpAnyH_take (i := 21) (v := undef) rfl (by kernel_rfl) (by kernel_rfl) (by kernel_rfl) (fun _ _ _ h => h) (Or.inr ⟨by rfl, rfl⟩) (by assumption) ?_
        try simp only [Act.put, List.getElem_toArray, List.getElem_cons_zero, List.getElem_cons_succ, List.setIfInBounds_toArray, List.set_cons_zero, List.set_cons_succ]
        refine wpAnyH_take (i := 22) (v := undef) rfl (by kernel_rfl) (by kernel_rfl) (by kernel_rfl) (fun _ _ _ h => h) (Or.inr ⟨by rfl, rfl⟩) (by assumption) ?_
        try simp only [Act.put, List.getElem_toArray, List.getElem_cons_zero, List.getElem_cons_succ, List.setIfInBounds_toArray, List.set_cons_zero, List.set_cons_succ]
        refine wpAnyH_take (i := 23) (v := undef) rfl (by kernel_rfl) (by kernel_rfl) (by kernel_rfl) (fun _ _ _ h => h) (Or.inr ⟨by rfl, rfl⟩) (by assumption) ?_
        try simp only [Act.put, List.getElem_toArray, List.getElem_cons_zero, List.getElem_cons_succ, List.setIfInBounds_toArray, List.set_cons_zero, List.set_cons_succ]
        refine wpAnyH_take (i := 24) (v := undef) rfl (by kernel_rfl) (by kernel_rfl) (by kernel_rfl) (fun _ _ _ h => h) (Or.inr ⟨by rfl, rfl⟩) (by assumption) ?_
        try simp only [Act.put, List.getElem_toArray, List.getElem_cons_zero, List.getElem_cons_succ, List.setIfInBounds_toArray, List.set_cons_zero, List.set_cons_succ]
        refine wpAnyH_take (i := 25) (v := ?v25) rfl (by kernel_rfl) (by kernel_rfl) (by kernel_rfl) (fun _ _ _ h => h) (Or.inl ⟨by rfl, ?h25⟩) (by assumption) ?r25
        case h25 => (intro W hSw; (try dsimp only at hSw); go_simp; all_goals (with_reducible rfl))
        try simp only [Act.put, List.getElem_toArray, List.getElem_cons_zero, List.getElem_cons_succ, List.setIfInBounds_toArray, List.set_cons_zero, List.set_cons_succ]
        refine wpAnyH_take (i := 26) (v := ?v26) rfl (by kernel_rfl) (by kernel_rfl) (by kernel_rfl) (fun _ _ _ h => h) (Or.inl ⟨by rfl, ?h26⟩) (by assumption) ?r26
        case h26 => (intro W hSw; (try dsimp only at hSw); go_simp; all_goals (with_reducible rfl))
        try simp only [Act.put, List.getElem_toArray, List.getElem_cons_zero, List.getElem_cons_succ, List.setIfInBounds_toArray, List.set_cons_zero, List.set_cons_succ]
        refine wpAnyH_take (i := 27) (v := ?v27) rfl (by kernel_rfl) (by kernel_rfl) (by kernel_rfl) (fun _ _ _ h => h) (Or.inl ⟨by rfl, ?h27⟩) (by assumption) ?r27
        case h27 => (intro W hSw; (try dsimp only at hSw); go_simp; all_goals (with_reducible rfl))
        try simp only [Act.put, List.getElem_toArray, List.getElem_cons_zero, List.getElem_cons_succ, List.setIfInBounds_toArray, List.set_cons_zero, List.set_cons_succ]
        refine wpAnyH_done (by kernel_rfl) ?_ _
        go_wp2
        go_ret
        exact ⟨by first | rfl | simp, HE.out _ HB7.out⟩
end Go.Proofs.YtiipnifnejnhlaaDoor
