/-
  The walk of 'packtrainkeep.FrameSmall'.
-/
import Derived.Test.YtgfinhehgfbdgaaGreatDoorKa47
import Derived.Test.YtgfinhehgfbdgaaGreatDoorKa36
import Derived.Test.YtgfinhehgfbdgaaGreatDoorKa34
namespace Go.Proofs.YtgfinhehgfbdgaaGreatDoor
open Go.RowKit

set_option maxRecDepth 100000 in
set_option maxHeartbeats 4000000 in
theorem frameSmall_walk (w : World) (vf vh vw : Value) (f h : List Ent) (l : List Wr) (hx : BatIs w vf vh vw f h l) (hg : errT w) :
    Calls Tryz.prog 6 #[.agg #[vf, vh, vw]] w fun e w' => e = .returned (.bool true) ∧ Below w.heap.size w w' := by
  have HX := Lib.hid hx
  have HG := Lib.hid hg
  obtain ⟨hf, hh, hv, _⟩ := hx
  obtain ⟨af, cf, rfl, _⟩ := hf.form
  obtain ⟨ah, ch, rfl, _⟩ := hh.form
  obtain ⟨aw, cw, rfl, _⟩ := hv.form
  have HA := Lib.hid (batAt_new w (.slice af f.length cf) (.slice ah h.length ch) (.slice aw l.length cw) 25)
  have HW0 : Hid (Below w.heap.size w (w.alloc (.cells #[.slice af f.length cf, .slice ah h.length ch, .slice aw l.length cw] 25))) := Lib.hid ((Below.refl _ _).alloc (Nat.le_refl _) _)
  have HZ : Hid (w.heap.size < (w.alloc (.cells #[.slice af f.length cf, .slice ah h.length ch, .slice aw l.length cw] 25)).heap.size) := Lib.hid (by simp)
  generalize f.length = nf at HX HA HW0 HZ ⊢
  generalize h.length = nh at HX HA HW0 HZ ⊢
  generalize l.length = n at HX HA HW0 HZ ⊢
  clear hf hh hv hg
  go_enter Tryz.func6, Tryz.ntmps6
  go_wp2_with fail
  generalize w.alloc (.cells #[.slice af nf cf, .slice ah nh ch, .slice aw n cw] 25) = W at HA HW0 HZ ⊢
  have HE : Hid (∀ w', Below W.heap.size W w' → Below w.heap.size w w') := Lib.hid (fun w' hx => HW0.out.trans (hx.mono HW0.out.size))
  refine (framed_any W (HG.out.below HW0.out)).mono ?_
  rintro r w1 ⟨rfl, hb1⟩
  have HB1 := Lib.hid hb1
  clear hb1
  go_wp2_with fail
  refine (bodied_any w1 (HG.out.below (HE.out _ HB1.out))).mono ?_
  rintro r w2 ⟨rfl, hb2⟩
  have HB2 : Hid (Below W.heap.size W w2) := HB1.out.trans (hb2.mono HB1.out.size)
  clear hb2
  go_wp2_with fail
  refine (squeezed_any w2 (HG.out.below (HE.out _ HB2.out))).mono ?_
  rintro r w3 ⟨rfl, hb3⟩
  have HB3 : Hid (Below W.heap.size W w3) := HB2.out.trans (hb3.mono HB2.out.size)
  clear hb3
  obtain ⟨d0, d1, d2⟩ := HA.out.below HB3.out HZ.out
  go_wp2_with fail
  obtain ⟨c, hc⟩ : ∃ c, bigV 200 f h l = c := ⟨_, rfl⟩
  refine (bigK_as _ _ _ f h l c _ (HX.out.below (HE.out _ HB3.out)) hc).mono ?_
  clear hc
  rintro r w4 ⟨rfl, hb4⟩
  have HB4 : Hid (Below W.heap.size W w4) := HB3.out.trans (hb4.mono HB3.out.size)
  clear hb4 d0 d1 d2
  obtain ⟨d0, d1, d2⟩ := HA.out.below HB4.out HZ.out
  cases c with
  | true =>
    go_wp2
    go_ret
    exact ⟨rfl, HE.out _ HB4.out⟩
  | false =>
    have HX4 := Lib.hid (HX.out.below (HE.out _ HB4.out))
    have HG4 := Lib.hid (HG.out.below (HE.out _ HB4.out))
    rcases frm_cases f h l with ⟨s, e, pl, hbf, he, hno⟩ | ⟨S, T, hr, hS, hsz, hfr, hfl⟩
    · have HBF := Lib.hid hbf
      have HNO := Lib.hid hno
      clear hbf hno
      go_wp2_with fail
      refine (bwrite_err _ _ _ f h l w4 HX4.out HG4.out HNO.out).mono ?_
      rintro r w5 ⟨t, u, x, rfl, _, _, hb5⟩
      have HB5 : Hid (Below W.heap.size W w5) := HB4.out.trans (hb5.mono HB4.out.size)
      clear hb5 d0 d1 d2
      obtain ⟨d0, d1, d2⟩ := HA.out.below HB5.out HZ.out
      go_wp2_with fail
      refine (fwrite_err _ _ _ f h l s e pl w5 (HX.out.below (HE.out _ HB5.out)) (HG.out.below (HE.out _ HB5.out)) HBF.out he).mono ?_
      rintro r w6 ⟨t2, u2, rfl, hb6⟩
      have HB6 : Hid (Below W.heap.size W w6) := HB5.out.trans (hb6.mono HB5.out.size)
      clear hb6 d0 d1 d2
      go_wp2
      go_ret
      exact ⟨by first | rfl | simp, HE.out _ HB6.out⟩
    · have HR := Lib.hid hr
      have HS := Lib.hid hS
      have HFR := Lib.hid hfr
      obtain ⟨Z, hZ⟩ : ∃ Z : ByteArray, sqL S.data.toList = Z.data.toList := ⟨⟨(sqL S.data.toList).toArray⟩, by simp⟩
      have HSQ := Lib.hid hZ
      have hlen : T.size = 8 + (1 + (if 128 ≤ S.size then 1 else 0) + (if 16384 ≤ S.size then 1 else 0)) + min Z.size S.size := by
        rw [size_data T, ← hfl, frm_len, hZ, ← size_data, ← size_data, putL_size hsz]
      have hzz : Z.size ≤ 220000 := by rw [size_data, ← hZ]; exact sq_len _ (by rw [← size_data]; exact hsz)
      clear hr hS hfr hZ hfl
      go_wp2_with fail
      refine (bwrite_ok _ _ _ f h l S w4 HX4.out HG4.out HR.out HS.out hsz).mono ?_
      rintro r w5 ⟨rfl, hb5⟩
      have HB5 : Hid (Below W.heap.size W w5) := HB4.out.trans (hb5.mono HB4.out.size)
      clear hb5 d0 d1 d2
      obtain ⟨d0, d1, d2⟩ := HA.out.below HB5.out HZ.out
      go_wp2_with fail
      refine (fwrite_ok _ _ _ f h l T w5 (HX.out.below (HE.out _ HB5.out)) (HG.out.below (HE.out _ HB5.out)) HFR.out).mono ?_
      rintro r w6 ⟨rfl, hb6⟩
      have HB6 : Hid (Below W.heap.size W w6) := HB5.out.trans (hb6.mono HB5.out.size)
      clear hb6 d0 d1 d2
      go_wp2_with fail
      refine (lzsq_to S Z w6 hsz HSQ.out).mono ?_
      rintro r w7 ⟨rfl, hb7⟩
      have HB7 : Hid (Below W.heap.size W w7) := HB6.out.trans (hb7.mono HB6.out.size)
      clear hb7
      obtain ⟨m, hm⟩ : ∃ m : Nat, min Z.size S.size = m := ⟨_, rfl⟩
      have hm1 : min (S.size : Int) (Z.size : Int) = (m : Int) := by omega
      have hm2 : (if (Z.size : Int) < (S.size : Int) then (Z.size : Int) else (S.size : Int)) = (m : Int) := by split <;> omega
      have hmz : m ≤ 20000 := by omega
      rw [hm] at hlen
      clear hm
      rcases (show S.size < 128 ∨ (128 ≤ S.size ∧ S.size < 16384) ∨ (128 ≤ S.size ∧ 16384 ≤ S.size) by omega) with k | ⟨k1, k2⟩ | ⟨k1, k2⟩
      · have i1 : (S.size : Int) < 128 := by omega
        have i2 : (S.size : Int) < 16384 := by omega
        have i3 : (T.size : Int) = 9 + (m : Int) := by rw [if_neg (by omega), if_neg (by omega)] at hlen; omega
        clear hlen k
        go_wp2
        go_ret
        exact ⟨by first | rfl | simp, HE.out _ HB7.out⟩
      · have i0 : 128 ≤ (S.size : Int) := by omega
        have i2 : (S.size : Int) < 16384 := by omega
        have i3 : (T.size : Int) = 10 + (m : Int) := by rw [if_pos (by omega), if_neg (by omega)] at hlen; omega
        clear hlen k1 k2
        go_wp2
        go_ret
        exact ⟨by first | rfl | simp, HE.out _ HB7.out⟩
      · have i0 : 128 ≤ (S.size : Int) := by omega
        have i2 : 16384 ≤ (S.size : Int) := by omega
        have i3 : (T.size : Int) = 11 + (m : Int) := by rw [if_pos (by omega), if_pos (by omega)] at hlen; omega
        clear hlen k1 k2
        go_wp2
        go_ret
        exact ⟨by first | rfl | simp, HE.out _ HB7.out⟩
end Go.Proofs.YtgfinhehgfbdgaaGreatDoor
