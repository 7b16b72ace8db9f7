/-
  The walk of 'packtrainkeep.BodyCut'.
-/
import Derived.Test.YtgelfjcmggicdaaGreatDoorPk17
namespace Go.Proofs.YtgelfjcmggicdaaGreatDoor
open Go.RowKit

theorem ne_empty {s : ByteArray} (h : 0 < s.size) : s.toList.isEmpty = false := by
  rw [ByteArray.toList_eq]
  cases h2 : s.data.toList with
  | nil => rw [size_data, h2] at h; exact absurd h (Nat.lt_irrefl _)
  | cons a t => rfl
theorem unb_none : (unbF []).isRight = false := by decide +kernel
theorem body_pos {f h : List Ent} {l : List Wr} (hr : rightB f h l) : 0 < (bodyL f h l).length := by
  rcases Nat.eq_zero_or_pos (bodyL f h l).length with h0 | h0
  · have hn : bodyL f h l = [] := List.length_eq_zero_iff.1 h0
    have k := unb_body hr [] (by rw [hn]; decide)
    rw [hn, List.append_nil, if_pos rfl] at k
    have k2 := unb_none
    rw [k] at k2
    cases k2
  · exact h0

set_option maxRecDepth 100000 in
set_option maxHeartbeats 8000000 in
theorem bodyCut_walk (w : World) (vf vh vw : Value) (f h : List Ent) (l : List Wr) (hx : BatIs w vf vh vw f h l) (z : Int) (_ : -9223372036854775808 ≤ z) (_ : z ≤ 9223372036854775807) (more : ByteArray) (hmm : more.size ≤ maxLen) (hg : errT w) :
    Calls Tryz.prog 7 #[.agg #[vf, vh, vw], .int .i64 z, .string more] w fun e w' => e = .returned (.bool true) ∧ Below w.heap.size w w' := by
  have HX := Lib.hid hx
  have HG := Lib.hid hg
  obtain ⟨hf, hh, hv, _⟩ := hx
  obtain ⟨af, cf, rfl, _⟩ := hf.form
  obtain ⟨ah, ch, rfl, _⟩ := hh.form
  obtain ⟨aw, cw, rfl, _⟩ := hv.form
  have HA := Lib.hid (batAt_new w (.slice af f.length cf) (.slice ah h.length ch) (.slice aw l.length cw) 25)
  have HW0 : Hid (Below w.heap.size w (w.alloc (.cells #[.slice af f.length cf, .slice ah h.length ch, .slice aw l.length cw] 25))) := Lib.hid ((Below.refl _ _).alloc (Nat.le_refl _) _)
  have HZ : Hid (w.heap.size < (w.alloc (.cells #[.slice af f.length cf, .slice ah h.length ch, .slice aw l.length cw] 25)).heap.size) := Lib.hid (by simp)
  obtain ⟨c, hc⟩ : ∃ c, bigV 200 f h l = c := ⟨_, rfl⟩
  obtain ⟨S, hS⟩ : ∃ S : ByteArray, bodyL f h l = S.data.toList := ⟨⟨(bodyL f h l).toArray⟩, by simp⟩
  have HC := Lib.hid hc
  have HS := Lib.hid hS
  generalize hnf : f.length = nf at HX HA HW0 HZ ⊢
  generalize hnh : h.length = nh at HX HA HW0 HZ ⊢
  generalize hn : l.length = n at HX HA HW0 HZ ⊢
  have HNF := Lib.hid hnf
  have HNH := Lib.hid hnh
  have HN := Lib.hid hn
  have HMM := Lib.hid hmm
  clear hf hh hv hg hc hS hnf hnh hn hmm
  go_enter Tryz.func7, Tryz.ntmps7
  go_wp2_with fail
  generalize w.alloc (.cells #[.slice af nf cf, .slice ah nh ch, .slice aw n cw] 25) = W at HA HW0 HZ ⊢
  have HE : Hid (∀ w', Below W.heap.size W w' → Below w.heap.size w w') := Lib.hid (fun w' hx => HW0.out.trans (hx.mono HW0.out.size))
  refine (bodied_any _ (HG.out.below HW0.out)).mono ?_
  rintro r w1 ⟨rfl, hb1⟩
  have HB1 := Lib.hid hb1
  clear hb1
  obtain ⟨d0, d1, d2⟩ := HA.out.below HB1.out HZ.out
  go_wp2_with fail
  refine (bigK_as _ _ _ f h l c _ (HX.out.below (HE.out _ HB1.out)) HC.out).mono ?_
  rintro r w2 ⟨rfl, hb2⟩
  have HB2 : Hid (Below W.heap.size W w2) := HB1.out.trans (hb2.mono HB1.out.size)
  clear hb2 d0 d1 d2
  cases c with
  | true =>
    go_wp2
    go_ret
    exact ⟨rfl, HE.out _ HB2.out⟩
  | false =>
    by_cases hm : more.size ≤ 100
    · have hm' : (more.size : Int) ≤ 100 := by omega
      have HM1 := Lib.hid hm
      clear hm
      obtain ⟨d0, d1, d2⟩ := HA.out.below HB2.out HZ.out
      go_wp2_with fail
      by_cases hr : rightB f h l ∧ S.size ≤ 20000
      · refine (bwrite_ok _ _ _ f h l S _ (HX.out.below (HE.out _ HB2.out)) (HG.out.below (HE.out _ HB2.out)) hr.1 HS.out hr.2).mono ?_
        rintro r w3 ⟨rfl, hb3⟩
        have HB3 : Hid (Below W.heap.size W w3) := HB2.out.trans (hb3.mono HB2.out.size)
        have HR := Lib.hid hr.1
        have HRS2 : Hid (S.size ≤ 20000) := Lib.hid hr.2
        have HRS := Lib.hid hr.2
        have hpos : 0 < S.size := by
          have k := body_pos hr.1
          rwa [HS.out, ← size_data] at k
        have hse := ne_empty hpos
        obtain ⟨p, hp⟩ : ∃ p : Nat, pickN z (S.size : Int) = (p : Int) := ⟨_, (Int.toNat_of_nonneg (pickN_pos (by omega)).1).symm⟩
        have hpl : p < S.size := by have := (pickN_pos (a := z) (n := (S.size : Int)) (by omega)).2; omega
        have HP := Lib.hid hp
        have HPL := Lib.hid hpl
        have HPO := Lib.hid hpos
        clear hb3 d0 d1 d2 hr hpos hp hpl
        go_wp2_with fail
        refine (pick_any z (S.size : Int) _ (by have := HPO.out; omega) (by have := HRS2.out; omega)).mono ?_
        rintro r w4 ⟨rfl, hw4⟩
        subst hw4
        rw [HP.out]
        have hp1 : (p : Int) ≤ (S.size : Int) := by have := HPL.out; omega
        have hp0 : (0 : Int) ≤ (p : Int) := by omega
        go_wp2_with fail
        have HU : Hid (∃ r, unbF (S.extract 0 p).data.toList = .inl r) := Lib.hid (by
          have k := unb_cut HR.out (j := p) (by rw [HS.out, ← size_data]; exact HRS.out) (by rw [HS.out, ← size_data]; exact HPL.out)
          rw [ext_data, List.drop_zero, ← HS.out]
          exact k)
        obtain ⟨⟨x, pl⟩, hu⟩ := HU.out
        have HU1 := Lib.hid hu
        clear HU hu
        refine (bread_err (S.extract 0 p) x pl w3 (by rw [size_data, ext_data]; have := HRS2.out; unfold maxLen; rw [List.drop_zero, List.length_take, ← size_data]; omega) (HG.out.below (HE.out _ HB3.out)) HU1.out).mono ?_
        rintro r w5 ⟨t, u, rfl, hi, hb5⟩
        have HB5 : Hid (Below W.heap.size W w5) := HB3.out.trans (hb5.mono HB3.out.size)
        clear hb5 hi HU1
        have HB6 : Hid (Below W.heap.size W (w5.alloc (.cells #[.slice none 0 0, .slice none 0 0, .slice none 0 0] 25))) := Lib.hid (HB5.out.alloc HB5.out.size _)
        have HG6 := Lib.hid (HG.out.below (HE.out _ HB6.out))
        clear hp1 hp0
        have hadd : ((S.size : Int) + (more.size : Int)) ≤ 9223372036854775807 := by have := HRS2.out; have := HM1.out; omega
        have HMX : Hid ((S ++ more).size ≤ maxLen) := Lib.hid (by rw [size_data, app_data, List.length_append, ← size_data, ← size_data]; have := HRS2.out; have := HM1.out; unfold maxLen; omega)
        rcases Nat.eq_zero_or_pos more.size with hm0 | hm0
        · have hme : more.toList.isEmpty = true := by
            rw [ByteArray.toList_eq, List.length_eq_zero_iff.1 (show more.data.toList.length = 0 by rw [← size_data]; exact hm0)]; rfl
          have HU2 : Hid (unbF (S ++ more).data.toList = .inr (f, h, l)) := Lib.hid (by
            have k := unb_body HR.out [] (by rw [List.append_nil, HS.out, ← size_data]; exact HRS.out)
            rw [List.append_nil, if_pos rfl, HS.out] at k
            rw [app_data, List.length_eq_zero_iff.1 (show more.data.toList.length = 0 by rw [← size_data]; exact hm0), List.append_nil]
            exact k)
          clear hm0
          go_wp2_with fail
          refine (bread_ok (S ++ more) f h l _ HMX.out HG6.out HU2.out).mono ?_
          rintro r w7 ⟨a1, c1, a2, c2, a3, c3, rfl, _, hb7⟩
          have HB7 : Hid (Below W.heap.size W w7) := HB6.out.trans (hb7.mono HB6.out.size)
          clear hb7
          generalize f.length = nf
          generalize h.length = nh
          generalize l.length = n
          have HB8 : Hid (Below W.heap.size W (w7.alloc (.cells #[.slice a1 nf c1, .slice a2 nh c2, .slice a3 n c3] 25))) := Lib.hid (HB7.out.alloc HB7.out.size _)
          go_wp2
          go_ret
          exact ⟨by first | rfl | simp, HE.out _ HB8.out⟩
        · have hme : more.toList.isEmpty = false := ne_empty hm0
          by_cases hbig : S.size + more.size ≤ 20000
          · have HU2 : Hid (unbF (S ++ more).data.toList = .inl (3, ((bodyL f h l).length : Int))) := Lib.hid (by
              have hl2 : (bodyL f h l ++ more.data.toList).length ≤ 20000 := by rw [HS.out, List.length_append, ← size_data, ← size_data]; exact hbig
              have k := unb_body HR.out more.data.toList hl2
              rw [if_neg (fun h0 => by rw [size_data, h0] at hm0; exact absurd hm0 (Nat.lt_irrefl _)), HS.out] at k
              rw [app_data, HS.out]
              exact k)
            clear hm0 hbig
            go_wp2_with fail
            refine (bread_err (S ++ more) 3 _ _ HMX.out HG6.out HU2.out).mono ?_
            rintro r w7 ⟨t2, u2, rfl, hi, hb7⟩
            have HB7 : Hid (Below W.heap.size W w7) := HB6.out.trans (hb7.mono HB6.out.size)
            have HB8 : Hid (Below W.heap.size W (w7.alloc (.cells #[.slice none 0 0, .slice none 0 0, .slice none 0 0] 25))) := Lib.hid (HB7.out.alloc HB7.out.size _)
            have HI8 := Lib.hid (hi.alloc (.cells #[.slice none 0 0, .slice none 0 0, .slice none 0 0] 25))
            clear hb7 hi
            go_wp2_with fail
            refine (tell_err _ _ _ (HG.out.below (HE.out _ HB8.out)) HI8.out).mono ?_
            rintro r w9 ⟨rfl, hb9⟩
            have HB9 : Hid (Below W.heap.size W w9) := HB8.out.trans (hb9.mono HB8.out.size)
            clear hb9
            go_wp2
            go_ret
            exact ⟨by first | rfl | simp, HE.out _ HB9.out⟩
          · have HU2 : Hid (unbF (S ++ more).data.toList = .inl (4, -1)) := Lib.hid (unb_long (by rw [app_data, List.length_append, ← size_data, ← size_data]; omega))
            have hbg : 20000 < ((S.size : Int) + (more.size : Int)) := by omega
            clear hm0 hbig
            go_wp2_with fail
            refine (bread_err (S ++ more) 4 _ _ HMX.out HG6.out HU2.out).mono ?_
            rintro r w7 ⟨t2, u2, rfl, hi, hb7⟩
            have HB7 : Hid (Below W.heap.size W w7) := HB6.out.trans (hb7.mono HB6.out.size)
            have HB8 : Hid (Below W.heap.size W (w7.alloc (.cells #[.slice none 0 0, .slice none 0 0, .slice none 0 0] 25))) := Lib.hid (HB7.out.alloc HB7.out.size _)
            have HI8 := Lib.hid (hi.alloc (.cells #[.slice none 0 0, .slice none 0 0, .slice none 0 0] 25))
            clear hb7 hi
            go_wp2_with fail
            refine (tell_err _ _ _ (HG.out.below (HE.out _ HB8.out)) HI8.out).mono ?_
            rintro r w9 ⟨rfl, hb9⟩
            have HB9 : Hid (Below W.heap.size W w9) := HB8.out.trans (hb9.mono HB8.out.size)
            clear hb9
            go_wp2
            go_ret
            exact ⟨by first | rfl | (simp; omega), HE.out _ HB9.out⟩
      · refine (bwrite_err _ _ _ f h l _ (HX.out.below (HE.out _ HB2.out)) (HG.out.below (HE.out _ HB2.out)) (by rw [HS.out, ← size_data]; exact hr)).mono ?_
        rintro r w3 ⟨t, u, x, rfl, hi, hx4, hb3⟩
        have HB3 : Hid (Below W.heap.size W w3) := HB2.out.trans (hb3.mono HB2.out.size)
        clear hb3 d0 d1 d2 hi hx4 hr
        go_wp2
        go_ret
        exact ⟨by first | rfl | simp, HE.out _ HB3.out⟩
    · have hm' : 100 < (more.size : Int) := by omega
      go_wp2
      go_ret
      exact ⟨rfl, HE.out _ HB2.out⟩
end Go.Proofs.YtgelfjcmggicdaaGreatDoor
