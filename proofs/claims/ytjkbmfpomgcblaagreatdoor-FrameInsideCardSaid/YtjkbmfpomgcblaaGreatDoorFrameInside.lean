/-
  The walk of 'packtrainkeep.FrameInside'.
-/
import Derived.Test.YtjkbmfpomgcblaaGreatDoorKp47
import Derived.Test.YtjkbmfpomgcblaaGreatDoorKp26
import Derived.Test.YtjkbmfpomgcblaaGreatDoorKp48
import Derived.Test.YtjkbmfpomgcblaaGreatDoorKp07
namespace Go.Proofs.YtjkbmfpomgcblaaGreatDoor
open Go.RowKit

set_option maxRecDepth 100000 in
set_option maxHeartbeats 4000000 in
theorem frameInside_walk (w : World) (vf vh vw : Value) (f h : List Ent) (l : List Wr) (hx : BatIs w vf vh vw f h l) (hg : errT w) :
    Calls Tryz.prog 5 #[.agg #[vf, vh, vw]] w fun e w' => e = .returned (.bool true) ∧ Below w.heap.size w w' := by
  obtain ⟨A, hA⟩ : ∃ A : ByteArray, (⟨#[80, 84, 2]⟩ : ByteArray) = A := ⟨_, rfl⟩
  have HA2 := Lib.hid hA
  clear hA
  have HX := Lib.hid hx
  have HG := Lib.hid hg
  obtain ⟨hf, hh, hv, _⟩ := hx
  obtain ⟨af, cf, rfl, _⟩ := hf.form
  obtain ⟨ah, ch, rfl, _⟩ := hh.form
  obtain ⟨aw, cw, rfl, _⟩ := hv.form
  have HA := Lib.hid (batAt_new w (.slice af f.length cf) (.slice ah h.length ch) (.slice aw l.length cw) 25)
  have HW0 : Hid (Below w.heap.size w (w.alloc (.cells #[.slice af f.length cf, .slice ah h.length ch, .slice aw l.length cw] 25))) := Lib.hid ((Below.refl _ _).alloc (Nat.le_refl _) _)
  have HZ : Hid (w.heap.size < (w.alloc (.cells #[.slice af f.length cf, .slice ah h.length ch, .slice aw l.length cw] 25)).heap.size) := Lib.hid (by simp)
  generalize f.length = nf at HX HA HW0 HZ ⊢
  generalize h.length = nh at HX HA HW0 HZ ⊢
  generalize l.length = n at HX HA HW0 HZ ⊢
  clear hf hh hv hg
  go_enter Tryz.func5, Tryz.ntmps5
  rw [HA2.out]
  go_wp2_with fail
  generalize w.alloc (.cells #[.slice af nf cf, .slice ah nh ch, .slice aw n cw] 25) = W at HA HW0 HZ ⊢
  have HE : Hid (∀ w', Below W.heap.size W w' → Below w.heap.size w w') := Lib.hid (fun w' hx => HW0.out.trans (hx.mono HW0.out.size))
  have HXE : Hid (∀ w', Below W.heap.size W w' → BatIs w' (.slice af nf cf) (.slice ah nh ch) (.slice aw n cw) f h l) := Lib.hid (fun w' hb => HX.out.below (HE.out _ hb))
  have HGE : Hid (∀ w', Below W.heap.size W w' → errT w') := Lib.hid (fun w' hb => HG.out.below (HE.out _ hb))
  have HAE : Hid (∀ w', Below W.heap.size W w' → batAt w' w.heap.size (.slice af nf cf) (.slice ah nh ch) (.slice aw n cw)) := Lib.hid (fun w' hb => HA.out.below hb HZ.out)
  refine (framed_any W (HG.out.below HW0.out)).mono ?_
  rintro r w1 ⟨rfl, hb1⟩
  have HB1 := Lib.hid hb1
  clear hb1
  obtain ⟨d0, d1, d2⟩ := HAE.out _ HB1.out
  go_wp2_with fail
  refine (summed_any w1).mono ?_
  rintro r w' ⟨rfl, rfl⟩
  go_wp2_with fail
  refine (held_any _ _ _ f h l w1 (HXE.out _ HB1.out) (HGE.out _ HB1.out)).mono ?_
  rintro r w2 ⟨c, rfl, hc, hb2⟩
  have HB2 : Hid (Below W.heap.size W w2) := HB1.out.trans (hb2.mono HB1.out.size)
  have HC := Lib.hid hc
  clear hb2 hc d0 d1 d2
  obtain ⟨d0, d1, d2⟩ := HAE.out _ HB2.out
  cases c with
  | false =>
    go_wp2
    go_ret
    exact ⟨rfl, HE.out _ HB2.out⟩
  | true =>
    have HR := Lib.hid (HC.out rfl)
    rcases frm_cases f h l with ⟨s, e, pl, hbf, he, hno⟩ | ⟨S, T, hr, hS, hsz, hfr, hfl⟩
    · have HBF := Lib.hid hbf
      clear hbf hno
      have HOP : Hid (opnF (⟨#[]⟩ : ByteArray).data.toList = (0, (⟨#[]⟩ : ByteArray).data.toList, 7)) := Lib.hid (opn_few (by decide))
      go_wp2_with fail
      refine (osecond_err _ _ _ f h l s e pl w2 (HXE.out _ HB2.out) (HGE.out _ HB2.out) HBF.out he).mono ?_
      rintro r w3 ⟨t, u, rfl, hb3⟩
      have HB3 : Hid (Below W.heap.size W w3) := HB2.out.trans (hb3.mono HB2.out.size)
      clear hb3 d0 d1 d2
      obtain ⟨d0, d1, d2⟩ := HAE.out _ HB3.out
      go_wp2_with fail
      refine (bwrite_errO _ _ _ f h l s e pl w3 (HXE.out _ HB3.out) (HGE.out _ HB3.out) HBF.out he).mono ?_
      rintro r w4 ⟨t4, u4, rfl, hb4⟩
      have HB4 : Hid (Below W.heap.size W w4) := HB3.out.trans (hb4.mono HB3.out.size)
      clear hb4 d0 d1 d2
      obtain ⟨d0, d1, d2⟩ := HAE.out _ HB4.out
      go_wp2_with fail
      refine (inside_as ⟨#[]⟩ ⟨#[]⟩ 0 7 w4 (by decide) HOP.out).mono ?_
      rintro r w5 ⟨rfl, hb5⟩
      rw [errC_ne (show (7 : Nat) ≠ 0 by decide)]
      have HB5 : Hid (Below W.heap.size W w5) := HB4.out.trans (hb5.mono HB4.out.size)
      clear hb5 d0 d1 d2
      go_wp2
      go_ret
      exact ⟨by first | rfl | simp, HE.out _ HB5.out⟩
    · obtain ⟨⟨V, hse, hsv, hva, hvo, hvs, hv8, hvz, hbd⟩, I3, hta, hto, hts, htd, htu, ht8, htz⟩ := all_facts hr hS hsz hfr hfl
      obtain ⟨U, I1, hfi, hua, huo, hud, hus, hu8, huz, huu⟩ := first_facts hr
      have HFR := Lib.hid hfr
      have HFI := Lib.hid hfi
      have HSE := Lib.hid hse
      have HVZ : Hid (V.size ≤ 140737488351232) := Lib.hid (by omega)
      have HVO := Lib.hid hvo
      have HBD := Lib.hid hbd
      have hAz : A.size = 3 := by rw [← HA2.out]; rfl
      have HSB : Hid (sealB (A ++ S) = V) := Lib.hid (by
        apply bytes_ext
        rw [sealB_data, ← hsv, ← HA2.out]
        simp)
      have HASZ : Hid ((A ++ S).size ≤ 140737488351232) := Lib.hid (by rw [ByteArray.size_append]; omega)
      have ha1 : ¬ (9223372036854775807 < A.size + S.size) := by omega
      clear hr hS hsz hfr hfl hse hsv hva hvo hvs hv8 hvz hbd hta hto hts htd htu ht8 htz hfi hua huo hud hus hu8 huz huu
      go_wp2_with fail
      refine (osecond_ok _ _ _ f h l V w2 (HXE.out _ HB2.out) (HGE.out _ HB2.out) HSE.out).mono ?_
      rintro r w3 ⟨rfl, hb3⟩
      have HB3 : Hid (Below W.heap.size W w3) := HB2.out.trans (hb3.mono HB2.out.size)
      clear hb3 d0 d1 d2
      obtain ⟨d0, d1, d2⟩ := HAE.out _ HB3.out
      go_wp2_with fail
      refine (bwrite_okO _ _ _ f h l S w3 (HXE.out _ HB3.out) (HGE.out _ HB3.out) HBD.out).mono ?_
      rintro r w4 ⟨rfl, hb4⟩
      have HB4 : Hid (Below W.heap.size W w4) := HB3.out.trans (hb4.mono HB3.out.size)
      clear hb4 d0 d1 d2
      obtain ⟨d0, d1, d2⟩ := HAE.out _ HB4.out
      go_wp2_with fail
      refine (inside_as V S 2 0 w4 HVZ.out HVO.out).mono ?_
      rintro r w5 ⟨rfl, hb5⟩
      rw [errC_zero]
      have HB5 : Hid (Below W.heap.size W w5) := HB4.out.trans (hb5.mono HB4.out.size)
      clear hb5 d0 d1 d2
      go_wp2_with fail
      refine (seal_any (A ++ S) w5 HASZ.out).mono ?_
      rintro r w6 ⟨rfl, hb6⟩
      rw [HSB.out]
      have HB6 : Hid (Below W.heap.size W w6) := HB5.out.trans (hb6.mono HB5.out.size)
      clear hb6
      go_wp2
      go_ret
      exact ⟨by first | rfl | simp, HE.out _ HB6.out⟩
end Go.Proofs.YtjkbmfpomgcblaaGreatDoor
