/-
  The walk of 'packtrainkeep.BodyHead'.
-/
import Derived.Test.YtgelfjcmggicdaaGreatDoorPk17
import Derived.Test.YtgelfjcmggicdaaGreatDoorPk18
import Derived.Test.YtgelfjcmggicdaaGreatDoorPk01
namespace Go.Proofs.YtgelfjcmggicdaaGreatDoor
open Go.RowKit

theorem head_pre {S U V : ByteArray} {r : List UInt8} (h : S.data.toList = U.data.toList ++ (V.data.toList ++ r)) : Lib.hasPrefix S.data.toList (U ++ V).data.toList = true := by
  rw [app_data, h, ← List.append_assoc]
  simp [Lib.hasPrefix]

set_option maxRecDepth 100000 in
set_option maxHeartbeats 8000000 in
theorem bodyHead_walk (w : World) (vf vh vw : Value) (f h : List Ent) (l : List Wr) (hx : BatIs w vf vh vw f h l) (hg : errT w) :
    Calls Tryz.prog 9 #[.agg #[vf, vh, vw]] w fun e w' => e = .returned (.bool true) ∧ Below w.heap.size w w' := by
  have HX := Lib.hid hx
  have HG := Lib.hid hg
  obtain ⟨hf, hh, hv, _⟩ := hx
  obtain ⟨af, cf, rfl, _⟩ := hf.form
  obtain ⟨ah, ch, rfl, _⟩ := hh.form
  obtain ⟨aw, cw, rfl, _⟩ := hv.form
  have HA := Lib.hid (batAt_new w (.slice af f.length cf) (.slice ah h.length ch) (.slice aw l.length cw) 25)
  have HW0 : Hid (Below w.heap.size w (w.alloc (.cells #[.slice af f.length cf, .slice ah h.length ch, .slice aw l.length cw] 25))) := Lib.hid ((Below.refl _ _).alloc (Nat.le_refl _) _)
  have HZ : Hid (w.heap.size < (w.alloc (.cells #[.slice af f.length cf, .slice ah h.length ch, .slice aw l.length cw] 25)).heap.size) := Lib.hid (by simp)
  obtain ⟨S, hS⟩ : ∃ S : ByteArray, bodyL f h l = S.data.toList := ⟨⟨(bodyL f h l).toArray⟩, by simp⟩
  obtain ⟨U, hU⟩ : ∃ S : ByteArray, vwriteL f = S.data.toList := ⟨⟨(vwriteL f).toArray⟩, by simp⟩
  obtain ⟨V, hV⟩ : ∃ S : ByteArray, vwriteL h = S.data.toList := ⟨⟨(vwriteL h).toArray⟩, by simp⟩
  have HS := Lib.hid hS
  have HU := Lib.hid hU
  have HV := Lib.hid hV
  generalize f.length = nf at HX HA HW0 HZ ⊢
  generalize h.length = nh at HX HA HW0 HZ ⊢
  generalize l.length = n at HX HA HW0 HZ ⊢
  clear hf hh hv hg hS hU hV
  go_enter Tryz.func9, Tryz.ntmps9
  go_wp2_with fail
  generalize w.alloc (.cells #[.slice af nf cf, .slice ah nh ch, .slice aw n cw] 25) = W at HA HW0 HZ ⊢
  have HE : Hid (∀ w', Below W.heap.size W w' → Below w.heap.size w w') := Lib.hid (fun w' hx => HW0.out.trans (hx.mono HW0.out.size))
  refine (bodied_any _ (HG.out.below HW0.out)).mono ?_
  rintro r w1 ⟨rfl, hb1⟩
  have HB1 := Lib.hid hb1
  clear hb1
  go_wp2_with fail
  refine (known_any _ (HG.out.below (HE.out _ HB1.out))).mono ?_
  rintro r w2 ⟨rfl, hb2⟩
  have HB2 : Hid (Below W.heap.size W w2) := HB1.out.trans (hb2.mono HB1.out.size)
  clear hb2
  obtain ⟨d0, d1, d2⟩ := HA.out.below HB2.out HZ.out
  go_wp2_with fail
  refine (held_any _ _ _ f h l _ (HX.out.below (HE.out _ HB2.out)) (HG.out.below (HE.out _ HB2.out))).mono ?_
  rintro r w3 ⟨c, rfl, hc, hb3⟩
  have HB3 : Hid (Below W.heap.size W w3) := HB2.out.trans (hb3.mono HB2.out.size)
  have HC := Lib.hid hc
  clear hb3 hc d0 d1 d2
  cases c with
  | false =>
    go_wp2
    go_ret
    exact ⟨rfl, HE.out _ HB3.out⟩
  | true =>
    have hr := HC.out rfl
    have HR := Lib.hid hr
    obtain ⟨⟨g1, g2, _⟩, _⟩ := rightB_iff.1 hr
    have HF := Lib.hid g1
    have HH := Lib.hid g2
    clear hr g1 g2
    obtain ⟨d0, d1, d2⟩ := HA.out.below HB3.out HZ.out
    go_wp2_with fail
    by_cases hs : S.size ≤ 20000
    · refine (bwrite_ok _ _ _ f h l S _ (HX.out.below (HE.out _ HB3.out)) (HG.out.below (HE.out _ HB3.out)) HR.out HS.out hs).mono ?_
      rintro r w4 ⟨rfl, hb4⟩
      have HB4 : Hid (Below W.heap.size W w4) := HB3.out.trans (hb4.mono HB3.out.size)
      have HRS := Lib.hid hs
      clear hb4 d0 d1 d2 hs
      obtain ⟨d0, d1, d2⟩ := HA.out.below HB4.out HZ.out
      go_wp2_with fail
      have HX4 := Lib.hid (HX.out.below (HE.out _ HB4.out))
      refine (vwrite_good _ f U _ HX4.out.1 HX4.out.2.2.2.1 HF.out HU.out).mono ?_
      rintro r w5 ⟨rfl, hb5⟩
      have HB5 : Hid (Below W.heap.size W w5) := HB4.out.trans (hb5.mono HB4.out.size)
      clear hb5 d0 d1 d2 HX4
      obtain ⟨d0, d1, d2⟩ := HA.out.below HB5.out HZ.out
      go_wp2_with fail
      have HX5 := Lib.hid (HX.out.below (HE.out _ HB5.out))
      refine (vwrite_good _ h V _ HX5.out.2.1 HX5.out.2.2.2.2.1 HH.out HV.out).mono ?_
      rintro r w6 ⟨rfl, hb6⟩
      have HB6 : Hid (Below W.heap.size W w6) := HB5.out.trans (hb6.mono HB5.out.size)
      clear hb6 d0 d1 d2 HX5
      have HPRE : Hid (∃ r, S.data.toList = U.data.toList ++ (V.data.toList ++ r)) := Lib.hid (by
        rw [← HS.out, ← HU.out, ← HV.out]
        unfold bodyL
        simp only [List.append_assoc]
        exact ⟨_, rfl⟩)
      have hadd : ((U.size : Int) + (V.size : Int)) ≤ 9223372036854775807 := by
        obtain ⟨r, hr⟩ := HPRE.out
        have k := congrArg List.length hr
        simp only [List.length_append, ← size_data] at k
        have := HRS.out
        omega
      go_wp2_with fail
      refine (Tryz.strings_HasPrefix S (U ++ V) w6).mono ?_
      rintro r w7 ⟨rfl, rfl⟩
      obtain ⟨r, hr⟩ := HPRE.out
      rw [head_pre hr]
      clear hr
      go_wp2
      go_ret
      exact ⟨by first | rfl | simp, HE.out _ HB6.out⟩
    · refine (bwrite_err _ _ _ f h l _ (HX.out.below (HE.out _ HB3.out)) (HG.out.below (HE.out _ HB3.out)) (fun k => hs (by rw [size_data, ← HS.out]; exact k.2))).mono ?_
      rintro r w4 ⟨t, u, x, rfl, _, _, hb4⟩
      have HB4 : Hid (Below W.heap.size W w4) := HB3.out.trans (hb4.mono HB3.out.size)
      clear hb4 d0 d1 d2 hs
      obtain ⟨d0, d1, d2⟩ := HA.out.below HB4.out HZ.out
      go_wp2_with fail
      have HX4 := Lib.hid (HX.out.below (HE.out _ HB4.out))
      refine (vwrite_good _ f U _ HX4.out.1 HX4.out.2.2.2.1 HF.out HU.out).mono ?_
      rintro r w5 ⟨rfl, hb5⟩
      have HB5 : Hid (Below W.heap.size W w5) := HB4.out.trans (hb5.mono HB4.out.size)
      clear hb5 d0 d1 d2 HX4
      obtain ⟨d0, d1, d2⟩ := HA.out.below HB5.out HZ.out
      go_wp2_with fail
      have HX5 := Lib.hid (HX.out.below (HE.out _ HB5.out))
      refine (vwrite_good _ h V _ HX5.out.2.1 HX5.out.2.2.2.2.1 HH.out HV.out).mono ?_
      rintro r w6 ⟨rfl, hb6⟩
      have HB6 : Hid (Below W.heap.size W w6) := HB5.out.trans (hb6.mono HB5.out.size)
      clear hb6 d0 d1 d2 HX5
      go_wp2
      go_ret
      exact ⟨by first | rfl | simp, HE.out _ HB6.out⟩
end Go.Proofs.YtgelfjcmggicdaaGreatDoor
