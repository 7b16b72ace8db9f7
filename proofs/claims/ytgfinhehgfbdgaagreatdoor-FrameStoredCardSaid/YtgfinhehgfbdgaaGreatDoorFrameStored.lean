/-
  The walk of 'packtrainkeep.FrameStored'.
-/
import Derived.Test.YtgfinhehgfbdgaaGreatDoorKa47
import Derived.Test.YtgfinhehgfbdgaaGreatDoorKa36
import Derived.Test.YtgfinhehgfbdgaaGreatDoorKa09
import Derived.Test.YtgfinhehgfbdgaaGreatDoorKa34
namespace Go.Proofs.YtgfinhehgfbdgaaGreatDoor
open Go.RowKit

set_option maxRecDepth 100000 in
theorem sealed_to (s T : ByteArray) (w : World) (hs : s.size ≤ 140737488351232) (hT : sealB s = T) :
    Calls Tryz.prog 32 #[.string s] w fun e w' => e = .returned (.string T) ∧ Below w.heap.size w w' := by
  subst hT
  go_enter Tryz.func32, Tryz.ntmps32
  go_wp2_with fail
  refine (seal_any s _ hs).mono ?_
  rintro r w1 ⟨rfl, hb1⟩
  have HB1 := Lib.hid hb1
  clear hb1
  go_wp2
  go_ret
  exact ⟨rfl, HB1.out⟩
set_option maxRecDepth 100000 in
theorem size_to (n : Nat) (N : ByteArray) (w : World) (h : n ≤ 1000000) (hN : putL n = N.data.toList) :
    Calls Tryz.prog 33 #[.int .i64 (n : Int)] w fun e w' => e = .returned (.string N) ∧ Below w.heap.size w w' := by
  have HN := Lib.hid hN
  clear hN
  go_enter Tryz.func33, Tryz.ntmps33
  go_wp2_with fail
  refine (put_to n N _ h HN.out).mono ?_
  rintro r w1 ⟨rfl, hb1⟩
  have HB1 := Lib.hid hb1
  clear hb1
  go_wp2
  go_ret
  exact ⟨rfl, HB1.out⟩

set_option maxRecDepth 100000 in
set_option maxHeartbeats 4000000 in
theorem frameStored_walk (w : World) (vf vh vw : Value) (f h : List Ent) (l : List Wr) (hx : BatIs w vf vh vw f h l) (hg : errT w) :
    Calls Tryz.prog 8 #[.agg #[vf, vh, vw]] w fun e w' => e = .returned (.bool true) ∧ Below w.heap.size w w' := by
  have HX := Lib.hid hx
  have HG := Lib.hid hg
  obtain ⟨hf, hh, hv, _⟩ := hx
  obtain ⟨af, cf, rfl, _⟩ := hf.form
  obtain ⟨ah, ch, rfl, _⟩ := hh.form
  obtain ⟨aw, cw, rfl, _⟩ := hv.form
  have HA := Lib.hid (batAt_new w (.slice af f.length cf) (.slice ah h.length ch) (.slice aw l.length cw) 25)
  have HW0 : Hid (Below w.heap.size w (w.alloc (.cells #[.slice af f.length cf, .slice ah h.length ch, .slice aw l.length cw] 25))) := Lib.hid ((Below.refl _ _).alloc (Nat.le_refl _) _)
  have HZ : Hid (w.heap.size < (w.alloc (.cells #[.slice af f.length cf, .slice ah h.length ch, .slice aw l.length cw] 25)).heap.size) := Lib.hid (by simp)
  generalize f.length = nf at HX HA HW0 HZ ⊢
  generalize h.length = nh at HX HA HW0 HZ ⊢
  generalize l.length = n at HX HA HW0 HZ ⊢
  clear hf hh hv hg
  go_enter Tryz.func8, Tryz.ntmps8
  go_wp2_with fail
  generalize w.alloc (.cells #[.slice af nf cf, .slice ah nh ch, .slice aw n cw] 25) = W at HA HW0 HZ ⊢
  have HE : Hid (∀ w', Below W.heap.size W w' → Below w.heap.size w w') := Lib.hid (fun w' hx => HW0.out.trans (hx.mono HW0.out.size))
  refine (framed_any W (HG.out.below HW0.out)).mono ?_
  rintro r w1 ⟨rfl, hb1⟩
  have HB1 := Lib.hid hb1
  clear hb1
  go_wp2_with fail
  refine (bodied_any w1 (HG.out.below (HE.out _ HB1.out))).mono ?_
  rintro r w2 ⟨rfl, hb2⟩
  have HB2 : Hid (Below W.heap.size W w2) := HB1.out.trans (hb2.mono HB1.out.size)
  clear hb2
  go_wp2_with fail
  refine (squeezed_any w2 (HG.out.below (HE.out _ HB2.out))).mono ?_
  rintro r w3 ⟨rfl, hb3⟩
  have HB3 : Hid (Below W.heap.size W w3) := HB2.out.trans (hb3.mono HB2.out.size)
  clear hb3
  obtain ⟨d0, d1, d2⟩ := HA.out.below HB3.out HZ.out
  go_wp2_with fail
  refine (summed_any _).mono ?_
  rintro e w' ⟨rfl, rfl⟩
  go_wp2_with fail
  refine (held_any _ _ _ f h l w3 (HX.out.below (HE.out _ HB3.out)) (HG.out.below (HE.out _ HB3.out))).mono ?_
  rintro r w4 ⟨c, rfl, hc, hb4⟩
  have HB4 : Hid (Below W.heap.size W w4) := HB3.out.trans (hb4.mono HB3.out.size)
  clear hb4 hc d0 d1 d2
  obtain ⟨d0, d1, d2⟩ := HA.out.below HB4.out HZ.out
  cases c with
  | false =>
    go_wp2
    go_ret
    exact ⟨rfl, HE.out _ HB4.out⟩
  | true =>
    have HX4 := Lib.hid (HX.out.below (HE.out _ HB4.out))
    have HG4 := Lib.hid (HG.out.below (HE.out _ HB4.out))
    rcases frm_cases f h l with ⟨s, e, pl, hbf, he, hno⟩ | ⟨S, T, hr, hS, hsz, hfr, hfl⟩
    · have HBF := Lib.hid hbf
      have HNO := Lib.hid hno
      clear hbf hno
      go_wp2_with fail
      refine (bwrite_err _ _ _ f h l w4 HX4.out HG4.out HNO.out).mono ?_
      rintro r w5 ⟨t, u, x, rfl, _, _, hb5⟩
      have HB5 : Hid (Below W.heap.size W w5) := HB4.out.trans (hb5.mono HB4.out.size)
      clear hb5 d0 d1 d2
      obtain ⟨d0, d1, d2⟩ := HA.out.below HB5.out HZ.out
      go_wp2_with fail
      refine (fwrite_err _ _ _ f h l s e pl w5 (HX.out.below (HE.out _ HB5.out)) (HG.out.below (HE.out _ HB5.out)) HBF.out he).mono ?_
      rintro r w6 ⟨t2, u2, rfl, hb6⟩
      have HB6 : Hid (Below W.heap.size W w6) := HB5.out.trans (hb6.mono HB5.out.size)
      clear hb6 d0 d1 d2
      go_wp2
      go_ret
      exact ⟨by first | rfl | simp, HE.out _ HB6.out⟩
    · have HR := Lib.hid hr
      have HS := Lib.hid hS
      have HFR := Lib.hid hfr
      obtain ⟨Z, hZ⟩ : ∃ Z : ByteArray, sqL S.data.toList = Z.data.toList := ⟨⟨(sqL S.data.toList).toArray⟩, by simp⟩
      obtain ⟨N, hN⟩ : ∃ N : ByteArray, putL S.size = N.data.toList := ⟨⟨(putL S.size).toArray⟩, by simp⟩
      obtain ⟨U, hU⟩ : ∃ U : ByteArray, sealL (80 :: 84 :: 3 :: othL S.data.toList) = U.data.toList := ⟨⟨(sealL (80 :: 84 :: 3 :: othL S.data.toList)).toArray⟩, by simp⟩
      have HSQ := Lib.hid hZ
      have HN := Lib.hid hN
      have hzz : Z.size ≤ 220000 := by rw [size_data, ← hZ]; exact sq_len _ (by rw [← size_data]; exact hsz)
      have hnz : N.size ≤ 3 := by rw [size_data, ← hN, putL_size hsz]; split <;> split <;> omega
      have htz : 8 ≤ T.size := by rw [size_data, ← hfl, frm_len]; omega
      have hti : 8 ≤ (T.size : Int) := by omega
      have huu := unf_oth hr (by rw [hS, ← size_data]; exact hsz)
      rw [hS, hU] at huu
      have hne : (U.toList != T.toList) = true := by
        rw [toL, toL, ← hU, ← hfl]
        exact bne_iff_ne.2 (oth_ne _)
      have hne2 : (U.toList == T.toList) = false := by
        rw [toL, toL, ← hU, ← hfl]
        exact beq_eq_false_iff_ne.2 (oth_ne _)
      have huz : U.size ≤ 400000 := by
        rw [size_data, ← hU, sealL_len]
        unfold othL
        split
        · simp only [List.length_cons, List.length_append, putL_size hsz, ← size_data]; split <;> split <;> omega
        · simp only [List.length_cons, List.length_append, putL_size hsz, ← size_data, hZ]; split <;> split <;> omega
      have HU := Lib.hid huu
      have hoth : (Z.size < S.size ∧ sealB ((⟨#[80, 84, 3, 0]⟩ : ByteArray) ++ N ++ S) = U) ∨ (S.size ≤ Z.size ∧ sealB ((⟨#[80, 84, 3, 1]⟩ : ByteArray) ++ N ++ Z) = U) := by
        unfold othL at hU
        rw [hZ, ← size_data, ← size_data] at hU
        by_cases hc : Z.size < S.size
        · rw [if_pos hc, hN] at hU
          exact .inl ⟨hc, bytes_ext (by rw [sealB_data, ← hU]; simp)⟩
        · rw [if_neg hc, hN] at hU
          exact .inr ⟨by omega, bytes_ext (by rw [sealB_data, ← hU]; simp)⟩
      clear hr hS hfr hZ hfl hN hU huu htz
      go_wp2_with fail
      refine (bwrite_ok _ _ _ f h l S w4 HX4.out HG4.out HR.out HS.out hsz).mono ?_
      rintro r w5 ⟨rfl, hb5⟩
      have HB5 : Hid (Below W.heap.size W w5) := HB4.out.trans (hb5.mono HB4.out.size)
      clear hb5 d0 d1 d2
      obtain ⟨d0, d1, d2⟩ := HA.out.below HB5.out HZ.out
      go_wp2_with fail
      refine (fwrite_ok _ _ _ f h l T w5 (HX.out.below (HE.out _ HB5.out)) (HG.out.below (HE.out _ HB5.out)) HFR.out).mono ?_
      rintro r w6 ⟨rfl, hb6⟩
      have HB6 : Hid (Below W.heap.size W w6) := HB5.out.trans (hb6.mono HB5.out.size)
      clear hb6 d0 d1 d2
      go_wp2_with fail
      refine (lzsq_to S Z w6 hsz HSQ.out).mono ?_
      rintro r w7 ⟨rfl, hb7⟩
      have HB7 : Hid (Below W.heap.size W w7) := HB6.out.trans (hb7.mono HB6.out.size)
      clear hb7
      rcases hoth with ⟨hc, hsl⟩ | ⟨hc, hsl⟩
      · have hci : (Z.size : Int) < (S.size : Int) := by omega
        have HSL := Lib.hid hsl
        clear hc hsl
        obtain ⟨A4, hA4⟩ : ∃ A4 : ByteArray, A4 = ⟨#[80, 84, 3, 0]⟩ := ⟨_, rfl⟩
        have hA4z : A4.size = 4 := by rw [hA4]; rfl
        have hAF : (⟨#[80, 84, 3]⟩ : ByteArray) ++ ⟨#[0]⟩ = A4 := by rw [hA4]; rfl
        rw [← hA4] at HSL
        clear hA4
        have HSI := Lib.hid (fun w' => size_to S.size N w' (by omega) HN.out)
        have ha1 : ¬ (9223372036854775807 < A4.size + N.size) := by omega
        have ha2 : ¬ (9223372036854775807 < (A4 ++ N).size + S.size) := by rw [ByteArray.size_append]; omega
        have ha3 : ¬ (9223372036854775807 < A4.size + N.size + S.size) := by omega
        have HSZ : Hid ((A4 ++ N ++ S).size ≤ 140737488351232) := Lib.hid (by rw [ByteArray.size_append, ByteArray.size_append]; omega)
        go_wp2_with fail
        refine (HSI.out w7).mono ?_
        rintro r w8 ⟨rfl, hb8⟩
        have HB8 : Hid (Below W.heap.size W w8) := HB7.out.trans (hb8.mono HB7.out.size)
        clear hb8
        go_wp2_with fail
        refine (sealed_to _ U w8 HSZ.out HSL.out).mono ?_
        rintro r w9 ⟨rfl, hb9⟩
        have HB9 : Hid (Below W.heap.size W w9) := HB8.out.trans (hb9.mono HB8.out.size)
        clear hb9
        go_wp2_with fail
        refine (fread_err U 13 (-1) w9 huz (HG.out.below (HE.out _ HB9.out)) HU.out).mono ?_
        rintro r wa ⟨t, u, rfl, hi, hba⟩
        have HBA : Hid (Below W.heap.size W (wa.alloc (.cells #[.slice none 0 0, .slice none 0 0, .slice none 0 0] 25))) := Lib.hid ((HB9.out.trans (hba.mono HB9.out.size)).alloc (HB9.out.trans (hba.mono HB9.out.size)).size _)
        have HIE := Lib.hid (hi.below (w' := wa.alloc (.cells #[.slice none 0 0, .slice none 0 0, .slice none 0 0] 25)) ((Below.refl _ _).alloc (Nat.le_refl _) _))
        clear hba hi
        go_wp2_with fail
        refine (tell_err _ ((13 : Nat) : Int) _ (HG.out.below (HE.out _ HBA.out)) HIE.out).mono ?_
        rintro r wb ⟨rfl, hbb⟩
        have HBB2 : Hid (Below W.heap.size W wb) := HBA.out.trans (hbb.mono HBA.out.size)
        clear hbb
        go_wp2
        go_ret
        exact ⟨by first | rfl | simp, HE.out _ HBB2.out⟩
      · have hci : (S.size : Int) ≤ (Z.size : Int) := by omega
        have HSL := Lib.hid hsl
        clear hc hsl
        obtain ⟨A4, hA4⟩ : ∃ A4 : ByteArray, A4 = ⟨#[80, 84, 3, 1]⟩ := ⟨_, rfl⟩
        have hA4z : A4.size = 4 := by rw [hA4]; rfl
        have hAF : (⟨#[80, 84, 3]⟩ : ByteArray) ++ ⟨#[1]⟩ = A4 := by rw [hA4]; rfl
        rw [← hA4] at HSL
        clear hA4
        have HSI := Lib.hid (fun w' => size_to S.size N w' (by omega) HN.out)
        have ha1 : ¬ (9223372036854775807 < A4.size + N.size) := by omega
        have ha2 : ¬ (9223372036854775807 < (A4 ++ N).size + Z.size) := by rw [ByteArray.size_append]; omega
        have ha3 : ¬ (9223372036854775807 < A4.size + N.size + Z.size) := by omega
        have HSZ : Hid ((A4 ++ N ++ Z).size ≤ 140737488351232) := Lib.hid (by rw [ByteArray.size_append, ByteArray.size_append]; omega)
        go_wp2_with fail
        refine (HSI.out w7).mono ?_
        rintro r w8 ⟨rfl, hb8⟩
        have HB8 : Hid (Below W.heap.size W w8) := HB7.out.trans (hb8.mono HB7.out.size)
        clear hb8
        go_wp2_with fail
        refine (sealed_to _ U w8 HSZ.out HSL.out).mono ?_
        rintro r w9 ⟨rfl, hb9⟩
        have HB9 : Hid (Below W.heap.size W w9) := HB8.out.trans (hb9.mono HB8.out.size)
        clear hb9
        go_wp2_with fail
        refine (fread_err U 13 (-1) w9 huz (HG.out.below (HE.out _ HB9.out)) HU.out).mono ?_
        rintro r wa ⟨t, u, rfl, hi, hba⟩
        have HBA : Hid (Below W.heap.size W (wa.alloc (.cells #[.slice none 0 0, .slice none 0 0, .slice none 0 0] 25))) := Lib.hid ((HB9.out.trans (hba.mono HB9.out.size)).alloc (HB9.out.trans (hba.mono HB9.out.size)).size _)
        have HIE := Lib.hid (hi.below (w' := wa.alloc (.cells #[.slice none 0 0, .slice none 0 0, .slice none 0 0] 25)) ((Below.refl _ _).alloc (Nat.le_refl _) _))
        clear hba hi
        go_wp2_with fail
        refine (tell_err _ ((13 : Nat) : Int) _ (HG.out.below (HE.out _ HBA.out)) HIE.out).mono ?_
        rintro r wb ⟨rfl, hbb⟩
        have HBB2 : Hid (Below W.heap.size W wb) := HBA.out.trans (hbb.mono HBA.out.size)
        clear hbb
        go_wp2
        go_ret
        exact ⟨by first | rfl | simp, HE.out _ HBB2.out⟩
end Go.Proofs.YtgfinhehgfbdgaaGreatDoor
