/-
  The walk of 'packtrainkeep.BodyBack'.
-/
import Derived.Test.YtgelfjcmggicdaaGreatDoorPk17
namespace Go.Proofs.YtgelfjcmggicdaaGreatDoor
open Go.RowKit

set_option maxRecDepth 100000 in
set_option maxHeartbeats 8000000 in
theorem bodyBack_walk (w : World) (vf vh vw : Value) (f h : List Ent) (l : List Wr) (hx : BatIs w vf vh vw f h l) (hg : errT w) :
    Calls Tryz.prog 5 #[.agg #[vf, vh, vw]] w fun e w' => e = .returned (.bool true) ∧ Below w.heap.size w w' := by
  have HX := Lib.hid hx
  have HG := Lib.hid hg
  obtain ⟨hf, hh, hv, _⟩ := hx
  obtain ⟨af, cf, rfl, _⟩ := hf.form
  obtain ⟨ah, ch, rfl, _⟩ := hh.form
  obtain ⟨aw, cw, rfl, _⟩ := hv.form
  have HA := Lib.hid (batAt_new w (.slice af f.length cf) (.slice ah h.length ch) (.slice aw l.length cw) 25)
  have HW0 : Hid (Below w.heap.size w (w.alloc (.cells #[.slice af f.length cf, .slice ah h.length ch, .slice aw l.length cw] 25))) := Lib.hid ((Below.refl _ _).alloc (Nat.le_refl _) _)
  have HZ : Hid (w.heap.size < (w.alloc (.cells #[.slice af f.length cf, .slice ah h.length ch, .slice aw l.length cw] 25)).heap.size) := Lib.hid (by simp)
  obtain ⟨c, hc⟩ : ∃ c, bigV 200 f h l = c := ⟨_, rfl⟩
  obtain ⟨S, hS⟩ : ∃ S : ByteArray, bodyL f h l = S.data.toList := ⟨⟨(bodyL f h l).toArray⟩, by simp⟩
  have HC := Lib.hid hc
  have HS := Lib.hid hS
  generalize hnf : f.length = nf at HX HA HW0 HZ ⊢
  generalize hnh : h.length = nh at HX HA HW0 HZ ⊢
  generalize hn : l.length = n at HX HA HW0 HZ ⊢
  have HNF := Lib.hid hnf
  have HNH := Lib.hid hnh
  have HN := Lib.hid hn
  clear hf hh hv hg hc hS hnf hnh hn
  go_enter Tryz.func5, Tryz.ntmps5
  go_wp2_with fail
  generalize w.alloc (.cells #[.slice af nf cf, .slice ah nh ch, .slice aw n cw] 25) = W at HA HW0 HZ ⊢
  have HE : Hid (∀ w', Below W.heap.size W w' → Below w.heap.size w w') := Lib.hid (fun w' hx => HW0.out.trans (hx.mono HW0.out.size))
  refine (bodied_any _ (HG.out.below HW0.out)).mono ?_
  rintro r w1 ⟨rfl, hb1⟩
  have HB1 := Lib.hid hb1
  clear hb1
  obtain ⟨d0, d1, d2⟩ := HA.out.below HB1.out HZ.out
  go_wp2_with fail
  refine (bigK_as _ _ _ f h l c _ (HX.out.below (HE.out _ HB1.out)) HC.out).mono ?_
  rintro r w2 ⟨rfl, hb2⟩
  have HB2 : Hid (Below W.heap.size W w2) := HB1.out.trans (hb2.mono HB1.out.size)
  clear hb2 d0 d1 d2
  cases c with
  | true =>
    go_wp2
    go_ret
    exact ⟨rfl, HE.out _ HB2.out⟩
  | false =>
    obtain ⟨d0, d1, d2⟩ := HA.out.below HB2.out HZ.out
    go_wp2_with fail
    by_cases hr : rightB f h l ∧ S.size ≤ 20000
    · refine (bwrite_ok _ _ _ f h l S _ (HX.out.below (HE.out _ HB2.out)) (HG.out.below (HE.out _ HB2.out)) hr.1 HS.out hr.2).mono ?_
      rintro r w3 ⟨rfl, hb3⟩
      have HB3 : Hid (Below W.heap.size W w3) := HB2.out.trans (hb3.mono HB2.out.size)
      have HU : Hid (unbF S.data.toList = .inr (f, h, l)) := Lib.hid (by
        have k := unb_body hr.1 [] (by rw [List.append_nil, HS.out, ← size_data]; exact hr.2)
        rw [List.append_nil, if_pos rfl, HS.out] at k
        exact k)
      have HZS : Hid (S.size ≤ maxLen) := Lib.hid (by unfold maxLen; omega)
      have HR0 := Lib.hid (batF_place hr.1)
      clear hb3 d0 d1 d2 hr
      obtain ⟨d0, d1, d2⟩ := HA.out.below HB3.out HZ.out
      go_wp2_with fail
      refine (brightB_as _ _ _ f h l 0 (-1) _ (HX.out.below (HE.out _ HB3.out)) (HG.out.below (HE.out _ HB3.out)) HR0.out).mono ?_
      rintro r w4 ⟨err, rfl, hat, hb4⟩
      obtain rfl := hat.nil rfl
      have HB4 : Hid (Below W.heap.size W w4) := HB3.out.trans (hb4.mono HB3.out.size)
      clear hb4 hat d0 d1 d2
      go_wp2_with fail
      refine (bread_ok S f h l w4 HZS.out (HG.out.below (HE.out _ HB4.out)) HU.out).mono ?_
      rintro r w5 ⟨a1, c1, a2, c2, a3, c3, rfl, hx5, hb5⟩
      have HB5 : Hid (Below W.heap.size W w5) := HB4.out.trans (hb5.mono HB4.out.size)
      have HZ5 : Hid (w.heap.size < w5.heap.size) := Lib.hid (Nat.lt_of_lt_of_le HZ.out HB5.out.size)
      rw [HNF.out, HNH.out, HN.out] at hx5 ⊢
      have HX5 := Lib.hid hx5
      clear hb5 hx5
      have HB6 : Hid (Below W.heap.size W (w5.alloc (.cells #[.slice a1 nf c1, .slice a2 nh c2, .slice a3 n c3] 25))) := Lib.hid (HB5.out.alloc HB5.out.size _)
      obtain ⟨d0, d1, d2⟩ := HA.out.below HB6.out HZ.out
      obtain ⟨e0, e1, e2⟩ := batAt_new w5 (.slice a1 nf c1) (.slice a2 nh c2) (.slice a3 n c3) 25
      go_wp2_with fail
      refine (bsame_as _ _ _ _ _ _ f h l f h l true _ (HX.out.below (HE.out _ HB6.out)) (HX5.out.alloc _) (sameV_self _ _ _)).mono ?_
      rintro r w7 ⟨rfl, hb7⟩
      have HB7 : Hid (Below W.heap.size W w7) := HB6.out.trans (hb7.mono HB6.out.size)
      clear hb7 d0 d1 d2 e0 e1 e2
      go_wp2
      go_ret
      exact ⟨rfl, HE.out _ HB7.out⟩
    · refine (bwrite_err _ _ _ f h l _ (HX.out.below (HE.out _ HB2.out)) (HG.out.below (HE.out _ HB2.out)) (by rw [HS.out, ← size_data]; exact hr)).mono ?_
      rintro r w3 ⟨t, u, x, rfl, hi, hx4, hb3⟩
      have HB3 : Hid (Below W.heap.size W w3) := HB2.out.trans (hb3.mono HB2.out.size)
      have HI := Lib.hid hi
      have HX4 := Lib.hid hx4
      clear hb3 d0 d1 d2 hi hx4
      obtain ⟨e, pl, he⟩ : ∃ e pl, batF f h l = (e, pl) := ⟨_, _, rfl⟩
      have HEE := Lib.hid he
      obtain ⟨d0, d1, d2⟩ := HA.out.below HB3.out HZ.out
      clear hr he
      go_wp2_with fail
      refine (brightB_as _ _ _ f h l e pl _ (HX.out.below (HE.out _ HB3.out)) (HG.out.below (HE.out _ HB3.out)) HEE.out).mono ?_
      rintro r w4 ⟨err, rfl, hat, hb4⟩
      have HB4 : Hid (Below W.heap.size W w4) := HB3.out.trans (hb4.mono HB3.out.size)
      have HI4 := Lib.hid (HI.out.below hb4)
      clear hb4 d0 d1 d2
      by_cases he : e = 0
      · subst he
        obtain rfl := hat.nil rfl
        obtain rfl := HX4.out (show (batF f h l).1 = 0 by rw [HEE.out])
        clear hat
        go_wp2_with fail
        refine (tell_err _ _ w4 (HG.out.below (HE.out _ HB4.out)) HI4.out).mono ?_
        rintro r w5 ⟨rfl, hb5⟩
        have HB5 : Hid (Below W.heap.size W w5) := HB4.out.trans (hb5.mono HB4.out.size)
        clear hb5
        go_wp2
        go_ret
        exact ⟨by first | rfl | simp, HE.out _ HB5.out⟩
      · obtain ⟨t2, u2, rfl⟩ := hat.iface he
        clear hat
        go_wp2
        go_ret
        exact ⟨by first | rfl | simp, HE.out _ HB4.out⟩
end Go.Proofs.YtgelfjcmggicdaaGreatDoor
