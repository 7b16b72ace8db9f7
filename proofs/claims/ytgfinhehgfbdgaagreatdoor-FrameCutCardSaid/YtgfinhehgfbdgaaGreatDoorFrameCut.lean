/-
  The walk of 'packtrainkeep.FrameCut'.
-/
import Derived.Test.YtgfinhehgfbdgaaGreatDoorKa47
import Derived.Test.YtgfinhehgfbdgaaGreatDoorKa34
import Derived.Test.YtgfinhehgfbdgaaGreatDoorKa03
namespace Go.Proofs.YtgfinhehgfbdgaaGreatDoor
open Go.RowKit

set_option maxRecDepth 100000 in
set_option maxHeartbeats 4000000 in
theorem frameCut_walk (w : World) (vf vh vw : Value) (f h : List Ent) (l : List Wr) (hx : BatIs w vf vh vw f h l) (k : Int) (_ : -9223372036854775808 ≤ k) (_ : k ≤ 9223372036854775807) (hg : errT w) :
    Calls Tryz.prog 7 #[.agg #[vf, vh, vw], .int .i64 k] w fun e w' => e = .returned (.bool true) ∧ Below w.heap.size w w' := by
  have HX := Lib.hid hx
  have HG := Lib.hid hg
  obtain ⟨hf, hh, hv, _⟩ := hx
  obtain ⟨af, cf, rfl, _⟩ := hf.form
  obtain ⟨ah, ch, rfl, _⟩ := hh.form
  obtain ⟨aw, cw, rfl, _⟩ := hv.form
  have HA := Lib.hid (batAt_new w (.slice af f.length cf) (.slice ah h.length ch) (.slice aw l.length cw) 25)
  have HW0 : Hid (Below w.heap.size w (w.alloc (.cells #[.slice af f.length cf, .slice ah h.length ch, .slice aw l.length cw] 25))) := Lib.hid ((Below.refl _ _).alloc (Nat.le_refl _) _)
  have HZ : Hid (w.heap.size < (w.alloc (.cells #[.slice af f.length cf, .slice ah h.length ch, .slice aw l.length cw] 25)).heap.size) := Lib.hid (by simp)
  generalize f.length = nf at HX HA HW0 HZ ⊢
  generalize h.length = nh at HX HA HW0 HZ ⊢
  generalize l.length = n at HX HA HW0 HZ ⊢
  clear hf hh hv hg
  go_enter Tryz.func7, Tryz.ntmps7
  go_wp2_with fail
  generalize w.alloc (.cells #[.slice af nf cf, .slice ah nh ch, .slice aw n cw] 25) = W at HA HW0 HZ ⊢
  have HE : Hid (∀ w', Below W.heap.size W w' → Below w.heap.size w w') := Lib.hid (fun w' hx => HW0.out.trans (hx.mono HW0.out.size))
  refine (framed_any W (HG.out.below HW0.out)).mono ?_
  rintro r w1 ⟨rfl, hb1⟩
  have HB1 := Lib.hid hb1
  clear hb1
  obtain ⟨d0, d1, d2⟩ := HA.out.below HB1.out HZ.out
  go_wp2_with fail
  refine (held_any _ _ _ f h l w1 (HX.out.below (HE.out _ HB1.out)) (HG.out.below (HE.out _ HB1.out))).mono ?_
  rintro r w2 ⟨c, rfl, hc, hb2⟩
  have HB2 : Hid (Below W.heap.size W w2) := HB1.out.trans (hb2.mono HB1.out.size)
  have HC := Lib.hid hc
  clear hb2 hc d0 d1 d2
  obtain ⟨d0, d1, d2⟩ := HA.out.below HB2.out HZ.out
  cases c with
  | false =>
    go_wp2
    go_ret
    exact ⟨rfl, HE.out _ HB2.out⟩
  | true =>
    have HX2 := Lib.hid (HX.out.below (HE.out _ HB2.out))
    have HG2 := Lib.hid (HG.out.below (HE.out _ HB2.out))
    rcases frm_cases f h l with ⟨s, e, pl, hbf, he, hno⟩ | ⟨S, T, hr, hS, hsz, hfr, hfl⟩
    · have HBF := Lib.hid hbf
      clear hbf hno
      go_wp2_with fail
      refine (fwrite_err _ _ _ f h l s e pl w2 HX2.out HG2.out HBF.out he).mono ?_
      rintro r w3 ⟨t, u, rfl, hb3⟩
      have HB3 : Hid (Below W.heap.size W w3) := HB2.out.trans (hb3.mono HB2.out.size)
      clear hb3 d0 d1 d2
      go_wp2
      go_ret
      exact ⟨by first | rfl | simp, HE.out _ HB3.out⟩
    · have HFR := Lib.hid hfr
      have htz : 9 ≤ T.size ∧ T.size ≤ 400000 := by
        rw [size_data T, ← hfl, frm_len, putL_size (by rw [← size_data]; exact hsz), ← size_data]
        refine ⟨by omega, ?_⟩
        split <;> split <;> omega
      have hne : T.toList.isEmpty = false := by
        rw [toL]
        cases hq : T.data.toList with
        | nil => rw [size_data, hq] at htz; simp at htz
        | cons a b => rfl
      obtain ⟨p, hp⟩ : ∃ p : Nat, pickN k T.size = (p : Int) ∧ p < T.size := by
        have := pickN_pos (a := k) (n := (T.size : Int)) (by omega)
        exact ⟨(pickN k T.size).toNat, by omega, by omega⟩
      obtain ⟨hp1, hp2⟩ := hp
      have HPK := Lib.hid hp1
      obtain ⟨K, hK⟩ : ∃ K : ByteArray, T.extract 0 p = K := ⟨_, rfl⟩
      have hKd : K.data.toList = T.data.toList.take p := by rw [← hK, ext_list]; simp
      have hKz : K.size ≤ 400000 := by rw [← hK]; simp; omega
      have q1 : (0 : Int) ≤ (p : Int) := by omega
      have q2 : (p : Int) ≤ (T.size : Int) := by omega
      have q3 : 0 < (T.size : Int) := by omega
      have hTz : T.size ≤ 400000 := htz.2
      have hp3 : p ≤ T.size := by omega
      rcases hu : unfF K.data.toList with ⟨x, pl⟩ | ⟨f', h', l'⟩
      · have HU := Lib.hid hu
        clear hr hS hfr hfl hp1 hp2 hKd hu htz
        go_wp2_with fail
        refine (fwrite_ok _ _ _ f h l T w2 HX2.out HG2.out HFR.out).mono ?_
        rintro r w3 ⟨rfl, hb3⟩
        have HB3 : Hid (Below W.heap.size W w3) := HB2.out.trans (hb3.mono HB2.out.size)
        clear hb3 d0 d1 d2
        go_wp2_with fail
        refine (pick_any k _ w3 q3 (by omega)).mono ?_
        rintro r w4 ⟨rfl, rfl⟩
        rw [HPK.out]
        go_wp2_with fail
        refine (fread_err K x pl w3 hKz (HG.out.below (HE.out _ HB3.out)) HU.out).mono ?_
        rintro r w4 ⟨t, u, rfl, _, hb4⟩
        have HB4 : Hid (Below W.heap.size W w4) := HB3.out.trans (hb4.mono HB3.out.size)
        clear hb4
        have HB5 : Hid (Below w.heap.size w (w4.alloc (.cells #[.slice none 0 0, .slice none 0 0, .slice none 0 0] 25))) := Lib.hid ((HE.out _ HB4.out).alloc (HE.out _ HB4.out).size _)
        go_wp2
        go_ret
        exact ⟨by first | rfl | simp, HB5.out⟩
      · have hns : sameV f h l f' h' l' = false := by
          cases hq : sameV f h l f' h' l' with
          | false => rfl
          | true =>
            obtain ⟨rfl, rfl, rfl⟩ : f = f' ∧ h = h' ∧ l = l' := by simp [sameV] at hq; exact ⟨hq.1.1, hq.1.2, hq.2⟩
            rw [hKd] at hu
            exact (unf_cut (by rw [← size_data]; exact hp2) hfr hu).elim
        have HU := Lib.hid hu
        have HNS := Lib.hid hns
        clear hr hS hfr hfl hp1 hp2 hKd hu htz hns
        go_wp2_with fail
        refine (fwrite_ok _ _ _ f h l T w2 HX2.out HG2.out HFR.out).mono ?_
        rintro r w3 ⟨rfl, hb3⟩
        have HB3 : Hid (Below W.heap.size W w3) := HB2.out.trans (hb3.mono HB2.out.size)
        clear hb3 d0 d1 d2
        go_wp2_with fail
        refine (pick_any k _ w3 q3 (by omega)).mono ?_
        rintro r w4 ⟨rfl, rfl⟩
        rw [HPK.out]
        go_wp2_with fail
        refine (fread_ok K f' h' l' w3 hKz (HG.out.below (HE.out _ HB3.out)) HU.out).mono ?_
        rintro r w4 ⟨a1, c1, a2, c2, a3, c3, rfl, hx4, hb4⟩
        generalize f'.length = mf at hx4 ⊢
        generalize h'.length = mh at hx4 ⊢
        generalize l'.length = m at hx4 ⊢
        have HX5 := Lib.hid (hx4.alloc (.cells #[.slice a1 mf c1, .slice a2 mh c2, .slice a3 m c3] 25))
        have HA5 := Lib.hid (batAt_new w4 (.slice a1 mf c1) (.slice a2 mh c2) (.slice a3 m c3) 25)
        have HB5 : Hid (Below W.heap.size W (w4.alloc (.cells #[.slice a1 mf c1, .slice a2 mh c2, .slice a3 m c3] 25))) := Lib.hid ((HB3.out.trans (hb4.mono HB3.out.size)).alloc (HB3.out.trans (hb4.mono HB3.out.size)).size _)
        clear hb4 hx4
        obtain ⟨d0, d1, d2⟩ := HA.out.below HB5.out HZ.out
        obtain ⟨e0, e1, e2⟩ := HA5.out
        go_wp2_with fail
        refine (bsame_as _ _ _ _ _ _ f h l f' h' l' false _ (HX.out.below (HE.out _ HB5.out)) HX5.out HNS.out).mono ?_
        rintro r w6 ⟨rfl, hb6⟩
        have HB6 : Hid (Below W.heap.size W w6) := HB5.out.trans (hb6.mono HB5.out.size)
        clear hb6 d0 d1 d2 e0 e1 e2
        go_wp2
        go_ret
        exact ⟨by first | rfl | simp, HE.out _ HB6.out⟩
end Go.Proofs.YtgfinhehgfbdgaaGreatDoor
