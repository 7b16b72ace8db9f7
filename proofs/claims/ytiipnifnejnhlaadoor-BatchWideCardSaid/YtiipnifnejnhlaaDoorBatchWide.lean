/-
  The walk of 'packtrainkeep.BatchWide'.
-/
import Derived.Test.YtiipnifnejnhlaaDoorBatOne
import Derived.Test.YtiipnifnejnhlaaDoorVecLaw
namespace Go.Proofs.YtiipnifnejnhlaaDoor
open Go.RowKit

/-- From less, to more. -/
theorem right_wide {f h : List Ent} {l : List Wr} {a b : List Ent} (hr : rightB f h l) (ha : rightV a) (hb : rightV b) (h1 : covB f a = true) (h2 : covB b h = true) : rightB a b l := by
  rw [rightB_iff] at hr ⊢
  obtain ⟨⟨g1, g2, g3⟩, g4, g5, g6⟩ := hr
  refine ⟨⟨ha, hb, cov_trans hb g1 ha (cov_trans hb g2 g1 h2 g3) h1⟩, g4, fun x hx => ⟨(g5 x hx).1, ?_⟩, g6⟩
  have hw := (g5 x hx).2
  have k1 := (covB_iff g1 ha).1 h1 (wid x).2
  have k2 := (covB_iff hb g2).1 h2 (wid x).2
  unfold wiF at hw ⊢
  simp only [Bool.and_eq_true, decide_eq_true_eq] at hw ⊢
  omega

set_option maxRecDepth 100000 in
set_option maxHeartbeats 8000000 in
theorem batchWide_walk (w : World) (vf vh vw : Value) (f h : List Ent) (l : List Wr) (hx : BatIs w vf vh vw f h l)
    (a1 : Option Addr) (len1 cap1 : Nat) (l1 : List Ent) (hv1 : IsEnts w (.slice a1 len1 cap1) l1) (hn1 : l1.length = len1) (hc1 : len1 ≤ cap1) (hm1 : cap1 ≤ maxLen)
    (a2 : Option Addr) (len2 cap2 : Nat) (l2 : List Ent) (hv2 : IsEnts w (.slice a2 len2 cap2) l2) (hn2 : l2.length = len2) (hc2 : len2 ≤ cap2) (hm2 : cap2 ≤ maxLen) (hg : errT w) :
    Calls Tryd.prog 5 #[.agg #[vf, vh, vw], .slice a1 len1 cap1, .slice a2 len2 cap2] w fun e w' => e = .returned (.bool true) ∧ Below w.heap.size w w' := by
  have HL1 : Hid (l1.length ≤ 9223372036854775807) := Lib.hid (show l1.length ≤ 9223372036854775807 by unfold maxLen at hm1; omega)
  have HL2 : Hid (l2.length ≤ 9223372036854775807) := Lib.hid (show l2.length ≤ 9223372036854775807 by unfold maxLen at hm2; omega)
  have HX := Lib.hid hx
  have HG := Lib.hid hg
  have HV1 := Lib.hid hv1
  have HV2 := Lib.hid hv2
  obtain ⟨hf, hh, hv, _⟩ := hx
  obtain ⟨af, cf, rfl, _⟩ := hf.form
  obtain ⟨ah, ch, rfl, _⟩ := hh.form
  obtain ⟨aw, cw, rfl, _⟩ := hv.form
  have HA := Lib.hid (batAt_new w (.slice af f.length cf) (.slice ah h.length ch) (.slice aw l.length cw) 25)
  have HW0 : Hid (Below w.heap.size w (w.alloc (.cells #[.slice af f.length cf, .slice ah h.length ch, .slice aw l.length cw] 25))) := Lib.hid ((Below.refl _ _).alloc (Nat.le_refl _) _)
  have HZ : Hid (w.heap.size < (w.alloc (.cells #[.slice af f.length cf, .slice ah h.length ch, .slice aw l.length cw] 25)).heap.size) := Lib.hid (by simp)
  generalize f.length = nf at HX HA HW0 HZ ⊢
  generalize h.length = nh at HX HA HW0 HZ ⊢
  generalize l.length = n at HX HA HW0 HZ ⊢
  clear hf hh hv hg hv1 hv2 hm1 hm2
  obtain ⟨x, hx⟩ : ∃ x, allR [l1, l2] = x := ⟨_, rfl⟩
  obtain ⟨y, hy⟩ : ∃ y, covB f l1 = y := ⟨_, rfl⟩
  obtain ⟨z, hzz⟩ : ∃ z, covB l2 h = z := ⟨_, rfl⟩
  have HXX := Lib.hid hx
  have HY := Lib.hid hy
  have HZZ := Lib.hid hzz
  clear hx hy hzz
  go_enter Tryd.func5, Tryd.ntmps5
  go_wp2_with fail
  generalize w.alloc (.cells #[.slice af nf cf, .slice ah nh ch, .slice aw n cw] 25) = W at HA HW0 HZ ⊢
  have HE : Hid (∀ w', Below W.heap.size W w' → Below w.heap.size w w') := Lib.hid (fun w' hx => HW0.out.trans (hx.mono HW0.out.size))
  refine (gathered_any _ (HG.out.below HW0.out)).mono ?_
  rintro r w1 ⟨rfl, hb1⟩
  have HB1 := Lib.hid hb1
  clear hb1
  go_wp2_with fail
  refine (known_any _ (HG.out.below (HE.out _ HB1.out))).mono ?_
  rintro r w2 ⟨rfl, hb2⟩
  have HB2 : Hid (Below W.heap.size W w2) := HB1.out.trans (hb2.mono HB1.out.size)
  clear hb2
  obtain ⟨d0, d1, d2⟩ := HA.out.below HB2.out HZ.out
  go_wp2_with fail
  refine (held_any _ _ _ f h l _ (HX.out.below (HE.out _ HB2.out)) (HG.out.below (HE.out _ HB2.out))).mono ?_
  rintro r w3 ⟨c, rfl, hc, hb3⟩
  have HB3 : Hid (Below W.heap.size W w3) := HB2.out.trans (hb3.mono HB2.out.size)
  have HC := Lib.hid hc
  clear hb3 hc d0 d1 d2
  cases c with
  | false =>
    go_wp2
    go_ret
    exact ⟨rfl, HE.out _ HB3.out⟩
  | true =>
    go_wp2_with fail
    refine (few_two _ _ l1 l2 x _ (HV1.out.below (HE.out _ HB3.out)) (HV2.out.below (HE.out _ HB3.out)) HL1.out HL2.out HXX.out).mono ?_
    rintro r w4 ⟨rfl, hb4⟩
    have HB4 : Hid (Below W.heap.size W w4) := HB3.out.trans (hb4.mono HB3.out.size)
    clear hb4
    cases x with
    | false =>
      go_wp2
      go_ret
      exact ⟨rfl, HE.out _ HB4.out⟩
    | true =>
      have hr := allR_iff.1 HXX.out
      have HR1 := Lib.hid (hr l1 (by simp))
      have HR2 := Lib.hid (hr l2 (by simp))
      clear hr
      obtain ⟨d0, d1, d2⟩ := HA.out.below HB4.out HZ.out
      go_wp2_with fail
      refine (bcov_as _ _ f l1 y _ (HX.out.below (HE.out _ HB4.out)).1 (HV1.out.below (HE.out _ HB4.out)) HX.out.2.2.2.1 HL1.out HY.out).mono ?_
      rintro r w5 ⟨rfl, hb5⟩
      have HB5 : Hid (Below W.heap.size W w5) := HB4.out.trans (hb5.mono HB4.out.size)
      clear hb5 d0 d1 d2
      cases y with
      | false =>
        go_wp2
        go_ret
        exact ⟨rfl, HE.out _ HB5.out⟩
      | true =>
        obtain ⟨d0, d1, d2⟩ := HA.out.below HB5.out HZ.out
        go_wp2_with fail
        refine (bcov_as _ _ l2 h z _ (HV2.out.below (HE.out _ HB5.out)) (HX.out.below (HE.out _ HB5.out)).2.1 HL2.out HX.out.2.2.2.2.1 HZZ.out).mono ?_
        rintro r w6 ⟨rfl, hb6⟩
        have HB6 : Hid (Below W.heap.size W w6) := HB5.out.trans (hb6.mono HB5.out.size)
        clear hb6 d0 d1 d2
        cases z with
        | false =>
          go_wp2
          go_ret
          exact ⟨rfl, HE.out _ HB6.out⟩
        | true =>
          have HRB := Lib.hid (right_wide (HC.out (by trivial)) HR1.out HR2.out HY.out HZZ.out)
          obtain ⟨d0, d1, d2⟩ := HA.out.below HB6.out HZ.out
          go_wp2_with fail
          have HX6 := HX.out.below (HE.out _ HB6.out)
          refine (brightB_as _ _ _ l1 l2 l 0 (-1) _ ⟨HV1.out.below (HE.out _ HB6.out), HV2.out.below (HE.out _ HB6.out), HX6.2.2.1, HL1.out, HL2.out, HX6.2.2.2.2.2⟩ (HG.out.below (HE.out _ HB6.out)) (batF_place HRB.out)).mono ?_
          rintro r w7 ⟨err, rfl, hat, hb7⟩
          obtain rfl := hat.nil rfl
          have HB7 : Hid (Below W.heap.size W w7) := HB6.out.trans (hb7.mono HB6.out.size)
          clear hb7 hat d0 d1 d2
          go_wp2
          go_ret
          exact ⟨rfl, HE.out _ HB7.out⟩
end Go.Proofs.YtiipnifnejnhlaaDoor
