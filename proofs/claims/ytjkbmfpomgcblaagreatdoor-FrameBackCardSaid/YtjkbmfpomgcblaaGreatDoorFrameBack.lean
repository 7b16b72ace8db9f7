/-
  The walk of 'packtrainkeep.FrameBack'.
-/
import Derived.Test.YtjkbmfpomgcblaaGreatDoorKp47
import Derived.Test.YtjkbmfpomgcblaaGreatDoorKp26
import Derived.Test.YtjkbmfpomgcblaaGreatDoorKp48
namespace Go.Proofs.YtjkbmfpomgcblaaGreatDoor
open Go.RowKit

set_option maxRecDepth 100000 in
set_option maxHeartbeats 4000000 in
theorem frameBack_walk (w : World) (vf vh vw : Value) (f h : List Ent) (l : List Wr) (hx : BatIs w vf vh vw f h l) (hg : errT w) :
    Calls Tryz.prog 3 #[.agg #[vf, vh, vw]] w fun e w' => e = .returned (.bool true) ∧ Below w.heap.size w w' := by
  obtain ⟨c, hc⟩ : ∃ c, bigV 200 f h l = c := ⟨_, rfl⟩
  have HBV := Lib.hid hc
  clear hc
  have HX := Lib.hid hx
  have HG := Lib.hid hg
  obtain ⟨hf, hh, hv, _⟩ := hx
  obtain ⟨af, cf, rfl, _⟩ := hf.form
  obtain ⟨ah, ch, rfl, _⟩ := hh.form
  obtain ⟨aw, cw, rfl, _⟩ := hv.form
  have HA := Lib.hid (batAt_new w (.slice af f.length cf) (.slice ah h.length ch) (.slice aw l.length cw) 25)
  have HW0 : Hid (Below w.heap.size w (w.alloc (.cells #[.slice af f.length cf, .slice ah h.length ch, .slice aw l.length cw] 25))) := Lib.hid ((Below.refl _ _).alloc (Nat.le_refl _) _)
  have HZ : Hid (w.heap.size < (w.alloc (.cells #[.slice af f.length cf, .slice ah h.length ch, .slice aw l.length cw] 25)).heap.size) := Lib.hid (by simp)
  generalize f.length = nf at HX HA HW0 HZ ⊢
  generalize h.length = nh at HX HA HW0 HZ ⊢
  generalize l.length = n at HX HA HW0 HZ ⊢
  clear hf hh hv hg
  go_enter Tryz.func3, Tryz.ntmps3
  go_wp2_with fail
  generalize w.alloc (.cells #[.slice af nf cf, .slice ah nh ch, .slice aw n cw] 25) = W at HA HW0 HZ ⊢
  have HE : Hid (∀ w', Below W.heap.size W w' → Below w.heap.size w w') := Lib.hid (fun w' hx => HW0.out.trans (hx.mono HW0.out.size))
  have HXE : Hid (∀ w', Below W.heap.size W w' → BatIs w' (.slice af nf cf) (.slice ah nh ch) (.slice aw n cw) f h l) := Lib.hid (fun w' hb => HX.out.below (HE.out _ hb))
  have HGE : Hid (∀ w', Below W.heap.size W w' → errT w') := Lib.hid (fun w' hb => HG.out.below (HE.out _ hb))
  have HAE : Hid (∀ w', Below W.heap.size W w' → batAt w' w.heap.size (.slice af nf cf) (.slice ah nh ch) (.slice aw n cw)) := Lib.hid (fun w' hb => HA.out.below hb HZ.out)
  refine (framed_any W (HG.out.below HW0.out)).mono ?_
  rintro r w1 ⟨rfl, hb1⟩
  have HB1 := Lib.hid hb1
  clear hb1
  obtain ⟨d0, d1, d2⟩ := HAE.out _ HB1.out
  go_wp2_with fail
  refine (bigK_as _ _ _ f h l c w1 (HXE.out _ HB1.out) HBV.out).mono ?_
  rintro r w2 ⟨rfl, hb2⟩
  have HB2 : Hid (Below W.heap.size W w2) := HB1.out.trans (hb2.mono HB1.out.size)
  clear hb2 d0 d1 d2
  obtain ⟨d0, d1, d2⟩ := HAE.out _ HB2.out
  cases c with
  | true =>
    go_wp2
    go_ret
    exact ⟨rfl, HE.out _ HB2.out⟩
  | false =>
    rcases frm_cases f h l with ⟨s, e, pl, hbf, he, hno⟩ | ⟨S, T, hr, hS, hsz, hfr, hfl⟩
    · have HBF := Lib.hid hbf
      clear hbf hno
      go_wp2_with fail
      refine (fwrite_err _ _ _ f h l s e pl w2 (HXE.out _ HB2.out) (HGE.out _ HB2.out) HBF.out he).mono ?_
      rintro r w3 ⟨t, u, rfl, hb3⟩
      have HB3 : Hid (Below W.heap.size W w3) := HB2.out.trans (hb3.mono HB2.out.size)
      clear hb3 d0 d1 d2
      go_wp2
      go_ret
      exact ⟨by first | rfl | simp, HE.out _ HB3.out⟩
    · obtain ⟨⟨V, hse, hsv, hva, hvo, hvs, hv8, hvz, hbd⟩, I3, hta, hto, hts, htd, htu, ht8, htz⟩ := all_facts hr hS hsz hfr hfl
      obtain ⟨U, I1, hfi, hua, huo, hud, hus, hu8, huz, huu⟩ := first_facts hr
      have HFR := Lib.hid hfr
      have HFI := Lib.hid hfi
      have HSE := Lib.hid hse
      have HTZ := Lib.hid htz
      have HUZ := Lib.hid huz
      have HVZ := Lib.hid hvz
      have HTU := Lib.hid htu
      have HTA := Lib.hid hta
      have HUA := Lib.hid hua
      have HVA := Lib.hid hva
      have HTO := Lib.hid hto
      have HUO := Lib.hid huo
      have HVO := Lib.hid hvo
      clear hr hS hsz hfr hfl hse hsv hva hvo hvs hv8 hvz hbd hta hto hts htd htu ht8 htz hfi hua huo hud hus hu8 huz huu
      go_wp2_with fail
      refine (fwrite_ok _ _ _ f h l T w2 (HXE.out _ HB2.out) (HGE.out _ HB2.out) HFR.out).mono ?_
      rintro r w3 ⟨rfl, hb3⟩
      have HB3 : Hid (Below W.heap.size W w3) := HB2.out.trans (hb3.mono HB2.out.size)
      clear hb3 d0 d1 d2
      obtain ⟨d0, d1, d2⟩ := HAE.out _ HB3.out
      go_wp2_with fail
      refine (ofirst_ok _ _ _ f h l U w3 (HXE.out _ HB3.out) (HGE.out _ HB3.out) HFI.out).mono ?_
      rintro r w4 ⟨rfl, hb4⟩
      have HB4 : Hid (Below W.heap.size W w4) := HB3.out.trans (hb4.mono HB3.out.size)
      clear hb4 d0 d1 d2
      obtain ⟨d0, d1, d2⟩ := HAE.out _ HB4.out
      go_wp2_with fail
      refine (osecond_ok _ _ _ f h l V w4 (HXE.out _ HB4.out) (HGE.out _ HB4.out) HSE.out).mono ?_
      rintro r w5 ⟨rfl, hb5⟩
      have HB5 : Hid (Below W.heap.size W w5) := HB4.out.trans (hb5.mono HB4.out.size)
      clear hb5 d0 d1 d2
      obtain ⟨d0, d1, d2⟩ := HAE.out _ HB5.out
      go_wp2_with fail
      refine (fread_ok T f h l w5 HTZ.out (HGE.out _ HB5.out) HTU.out).mono ?_
      rintro r w6 ⟨a1, c1, a2, c2, a3, c3, rfl, hx6, hb6⟩
      generalize f.length = mf at hx6 ⊢
      generalize h.length = mh at hx6 ⊢
      generalize l.length = ml at hx6 ⊢
      have HX6 := Lib.hid (hx6.alloc (.cells #[.slice a1 mf c1, .slice a2 mh c2, .slice a3 ml c3] 25))
      have HA6 := Lib.hid (batAt_new w6 (.slice a1 mf c1) (.slice a2 mh c2) (.slice a3 ml c3) 25)
      have HB6 : Hid (Below W.heap.size W (w6.alloc (.cells #[.slice a1 mf c1, .slice a2 mh c2, .slice a3 ml c3] 25))) := Lib.hid ((HB5.out.trans (hb6.mono HB5.out.size)).alloc (HB5.out.trans (hb6.mono HB5.out.size)).size _)
      clear hb6 hx6 d0 d1 d2
      obtain ⟨d0, d1, d2⟩ := HAE.out _ HB6.out
      obtain ⟨e0, e1, e2⟩ := HA6.out
      go_wp2_with fail
      refine (bsame_as _ _ _ _ _ _ f h l f h l true _ HX6.out (HXE.out _ HB6.out) (sameV_self f h l)).mono ?_
      rintro r w7 ⟨rfl, hb7⟩
      have HB7 : Hid (Below W.heap.size W w7) := HB6.out.trans (hb7.mono HB6.out.size)
      clear hb7 d0 d1 d2 e0 e1 e2
      have HID : Hid (∀ i : Nat, i < 3 → ∃ (Z I : ByteArray), (Instr.index 35 (.agg #[.string U, .string V, .string T]) (.int .i64 (i : Int))).run Tryz.prog = (fun w => .ok (.string Z) w) ∧ anyF Z.data.toList = .inr (f, h, l) ∧ opnF Z.data.toList = (i + 1, I.data.toList, 0) ∧ Z.size ≤ 400000) := Lib.hid (fun i hi => by
        match i, hi with
        | 0, _ => exact ⟨U, I1, funext fun w => by kernel_rfl, HUA.out, HUO.out, HUZ.out⟩
        | 1, _ => exact ⟨V, S, funext fun w => by kernel_rfl, HVA.out, HVO.out, HVZ.out⟩
        | 2, _ => exact ⟨T, I3, funext fun w => by kernel_rfl, HTA.out, HTO.out, HTZ.out⟩)
      go_wp2
      go_loopw [65] (fun iv wr => ∃ i : Nat, i ≤ 3 ∧ iv = .int .i64 i ∧ Below W.heap.size W wr) (fun iv _ => 3 - (intOf iv).toNat)
      case atStart => exact ⟨0, by omega, rfl, HB7.out⟩
      case round =>
        obtain ⟨i, hi3, rfl, hb⟩ := hrel
        have HB := Lib.hid hb
        clear hb
        by_cases hlt : i < 3
        · obtain ⟨Z, I, hz, hza, hzo, hzz⟩ := HID.out i hlt
          have HZA := Lib.hid hza
          have HZO := Lib.hid hzo
          have HZZ := Lib.hid hzz
          have HZM : Hid (Z.size ≤ 140737488351232) := Lib.hid (by omega)
          have hidx : ∀ w, (Instr.index 35 (.agg #[.string U, .string V, .string T]) (.int .i64 (i : Int))).run Tryz.prog w = .ok (.string Z) w := fun w => congrFun hz w
          obtain ⟨d0, d1, d2⟩ := HAE.out _ HB.out
          clear hz hza hzo hzz
          go_wp2_with fail
          refine (rd_ok (oany_any Z wr HZZ.out (HGE.out _ HB.out)) HZA.out).mono ?_
          rintro r w8 ⟨x1, y1, x2, y2, x3, y3, rfl, hx8, hb8⟩
          generalize f.length = qf at hx8 ⊢
          generalize h.length = qh at hx8 ⊢
          generalize l.length = ql at hx8 ⊢
          have HX8 := Lib.hid (hx8.alloc (.cells #[.slice x1 qf y1, .slice x2 qh y2, .slice x3 ql y3] 25))
          have HA8 := Lib.hid (batAt_new w8 (.slice x1 qf y1) (.slice x2 qh y2) (.slice x3 ql y3) 25)
          have HZ8 : Hid (w8.heap.size < (w8.alloc (.cells #[.slice x1 qf y1, .slice x2 qh y2, .slice x3 ql y3] 25)).heap.size) := Lib.hid (by simp)
          have HB8 : Hid (Below W.heap.size W (w8.alloc (.cells #[.slice x1 qf y1, .slice x2 qh y2, .slice x3 ql y3] 25))) := Lib.hid ((HB.out.trans (hb8.mono HB.out.size)).alloc (HB.out.trans (hb8.mono HB.out.size)).size _)
          clear hb8 hx8 d0 d1 d2
          go_wp2_with fail
          generalize w8.alloc (.cells #[.slice x1 qf y1, .slice x2 qh y2, .slice x3 ql y3] 25) = W8 at HX8 HA8 HZ8 HB8 ⊢
          refine (version_as Z I (i + 1) 0 W8 HZM.out HZO.out).mono ?_
          rintro r w9 ⟨rfl, hb9⟩
          rw [errC_zero]
          have HX9 := Lib.hid (HX8.out.below hb9)
          have HA9 := Lib.hid (HA8.out.below hb9 HZ8.out)
          have HB9 : Hid (Below W.heap.size W w9) := Lib.hid (HB8.out.trans (hb9.mono HB8.out.size))
          have hi1 : (((i + 1 : Nat) : Int)) = (i : Int) + 1 := by omega
          have hiw : IntKind.i64.wrap ((i : Int) + 1) = (i : Int) + 1 := IntWalk.i64_in _ (by omega)
          have hi4 : (i : Int) < 3 := by omega
          rw [hi1]
          clear hb9 hi1
          obtain ⟨d0, d1, d2⟩ := HAE.out _ HB9.out
          obtain ⟨e0, e1, e2⟩ := HA9.out
          go_wp2_with fail
          refine (bsame_as _ _ _ _ _ _ f h l f h l true _ (HXE.out _ HB9.out) HX9.out (sameV_self f h l)).mono ?_
          rintro r w10 ⟨rfl, hb10⟩
          have HB10 : Hid (Below W.heap.size W w10) := Lib.hid (HB9.out.trans (hb10.mono HB9.out.size))
          clear hb10 d0 d1 d2 e0 e1 e2 hidx
          go_wp2
          go_roundw
          case rel => exact ⟨i + 1, by omega, by go_num, HB10.out⟩
          case measure => simp [intOf]; omega
        · obtain rfl : i = 3 := by omega
          go_wp2
          go_ret
          exact ⟨by first | rfl | simp, HE.out _ HB.out⟩
end Go.Proofs.YtjkbmfpomgcblaaGreatDoor
