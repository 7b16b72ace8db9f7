/-
  The walk of 'packtrainkeep.FrameTurned'.
-/
import Derived.Test.YtjkbmfpomgcblaaGreatDoorKp47
import Derived.Test.YtjkbmfpomgcblaaGreatDoorKp26
import Derived.Test.YtjkbmfpomgcblaaGreatDoorKp48
import Derived.Test.YtjkbmfpomgcblaaGreatDoorKp10
import Derived.Test.YtjkbmfpomgcblaaGreatDoorKp02
namespace Go.Proofs.YtjkbmfpomgcblaaGreatDoor
open Go.RowKit

/-- A text that opens, with bits turned: it is none, or nothing was turned. -/
theorem turned_any_facts (s : ByteArray) (p bits : Nat) (hb : bits < 4294967296) (hp : p ≤ 8 * s.size) (ho : (openL s.data.toList).2 = 0) : turnL s.data.toList p bits = s.data.toList ∨ (turnL s.data.toList p bits ≠ s.data.toList ∧ ∃ x pl, anyF (turnL s.data.toList p bits) = .inl (x, pl)) := by
  by_cases he : turnL s.data.toList p bits = s.data.toList
  · exact .inl he
  · refine .inr ⟨he, ?_⟩
    have hn : (openL (turnL s.data.toList p bits)).2 ≠ 0 := fun h => he ((turnL_seen s.data.toList p bits hb (by rw [← size_data]; exact hp) ho).1 h)
    obtain ⟨v, i, e, hop⟩ : ∃ v i e, opnF (turnL s.data.toList p bits) = (v, i, e) := ⟨_, _, _, rfl⟩
    by_cases h0 : e = 0
    · subst h0
      obtain ⟨hs, _, _⟩ := opn_only hop
      rw [hs, openL_seal] at hn
      exact absurd rfl hn
    · exact ⟨_, _, any_open hop h0⟩
/-- The end of the law: a frame that was written, turned, read. -/
theorem size_turn (s : ByteArray) (p bits : Nat) : (⟨(turnL s.data.toList p bits).toArray⟩ : ByteArray).size = s.size := by rw [bs_size, turnL_len, size_data]

set_option maxRecDepth 100000 in
set_option maxHeartbeats 4000000 in
theorem frameTurned_walk (w : World) (vf vh vw : Value) (f h : List Ent) (l : List Wr) (hx : BatIs w vf vh vw f h l) (m : Int) (_ : -9223372036854775808 ≤ m) (_ : m ≤ 9223372036854775807) (fi : Int) (_ : -9223372036854775808 ≤ fi) (_ : fi ≤ 9223372036854775807) (b : Int) (b0 : 0 ≤ b) (b1 : b ≤ 4294967295) (hg : errT w) :
    Calls Tryz.prog 4 #[.agg #[vf, vh, vw], .int .i64 m, .int .i64 fi, .int .u32 b] w fun e w' => e = .returned (.bool true) ∧ Below w.heap.size w w' := by
  obtain ⟨bn, rfl⟩ := Int.eq_ofNat_of_zero_le b0
  have HBN : Hid (bn < 4294967296) := Lib.hid (by omega)
  clear b0 b1
  have HX := Lib.hid hx
  have HG := Lib.hid hg
  obtain ⟨hf, hh, hv, _⟩ := hx
  obtain ⟨af, cf, rfl, _⟩ := hf.form
  obtain ⟨ah, ch, rfl, _⟩ := hh.form
  obtain ⟨aw, cw, rfl, _⟩ := hv.form
  have HA := Lib.hid (batAt_new w (.slice af f.length cf) (.slice ah h.length ch) (.slice aw l.length cw) 25)
  have HW0 : Hid (Below w.heap.size w (w.alloc (.cells #[.slice af f.length cf, .slice ah h.length ch, .slice aw l.length cw] 25))) := Lib.hid ((Below.refl _ _).alloc (Nat.le_refl _) _)
  have HZ : Hid (w.heap.size < (w.alloc (.cells #[.slice af f.length cf, .slice ah h.length ch, .slice aw l.length cw] 25)).heap.size) := Lib.hid (by simp)
  generalize f.length = nf at HX HA HW0 HZ ⊢
  generalize h.length = nh at HX HA HW0 HZ ⊢
  generalize l.length = n at HX HA HW0 HZ ⊢
  clear hf hh hv hg
  go_enter Tryz.func4, Tryz.ntmps4
  go_wp2_with fail
  generalize w.alloc (.cells #[.slice af nf cf, .slice ah nh ch, .slice aw n cw] 25) = W at HA HW0 HZ ⊢
  have HE : Hid (∀ w', Below W.heap.size W w' → Below w.heap.size w w') := Lib.hid (fun w' hx => HW0.out.trans (hx.mono HW0.out.size))
  have HXE : Hid (∀ w', Below W.heap.size W w' → BatIs w' (.slice af nf cf) (.slice ah nh ch) (.slice aw n cw) f h l) := Lib.hid (fun w' hb => HX.out.below (HE.out _ hb))
  have HGE : Hid (∀ w', Below W.heap.size W w' → errT w') := Lib.hid (fun w' hb => HG.out.below (HE.out _ hb))
  have HAE : Hid (∀ w', Below W.heap.size W w' → batAt w' w.heap.size (.slice af nf cf) (.slice ah nh ch) (.slice aw n cw)) := Lib.hid (fun w' hb => HA.out.below hb HZ.out)
  refine (framed_any W (HG.out.below HW0.out)).mono ?_
  rintro r w1 ⟨rfl, hb1⟩
  have HB1 := Lib.hid hb1
  clear hb1
  obtain ⟨d0, d1, d2⟩ := HAE.out _ HB1.out
  go_wp2_with fail
  refine (held_any _ _ _ f h l w1 (HXE.out _ HB1.out) (HGE.out _ HB1.out)).mono ?_
  rintro r w2 ⟨c, rfl, hc, hb2⟩
  have HB2 : Hid (Below W.heap.size W w2) := HB1.out.trans (hb2.mono HB1.out.size)
  have HC := Lib.hid hc
  clear hb2 hc d0 d1 d2
  obtain ⟨d0, d1, d2⟩ := HAE.out _ HB2.out
  cases c with
  | false =>
    go_wp2
    go_ret
    exact ⟨rfl, HE.out _ HB2.out⟩
  | true =>
    have HR := Lib.hid (HC.out rfl)
    have hp3 := pickN_pos (a := m) (show (0 : Int) < 3 by decide)
    obtain ⟨v, hv⟩ : ∃ v, pickN m 3 = v := ⟨_, rfl⟩
    rw [hv] at hp3
    have HV := Lib.hid hv
    clear hv
    rcases (show v = 0 ∨ v = 1 ∨ v = 2 by omega) with rfl | rfl | rfl
    · rcases frm_cases f h l with ⟨s, e, pl, hbf, he, hno⟩ | ⟨S, T, hr, hS, hsz, hfr, hfl⟩
      · have HBF := Lib.hid hbf
        clear hbf hno
        go_wp2_with fail
        refine (pick_any m 3 w2 (by decide) (by decide)).mono ?_
        rintro r w' ⟨rfl, rfl⟩
        rw [HV.out]
        go_wp2_with fail
        refine (fwrite_err _ _ _ f h l s e pl w2 (HXE.out _ HB2.out) (HGE.out _ HB2.out) HBF.out he).mono ?_
        rintro r w3 ⟨t, u, rfl, hb3⟩
        have HB3 : Hid (Below W.heap.size W w3) := HB2.out.trans (hb3.mono HB2.out.size)
        clear hb3 d0 d1 d2
        go_wp2
        go_ret
        exact ⟨by first | rfl | simp, HE.out _ HB3.out⟩
      · obtain ⟨_, I3, hta, hto, hts, htd, htu, ht8, htz⟩ := all_facts hr hS hsz hfr hfl
        have HFR := Lib.hid hfr
        have HAY := Lib.hid hta
        have HTO := Lib.hid hts
        have HT8 := Lib.hid ht8
        have HTZ := Lib.hid htz
        clear hr hS hsz hfr hfl hta hto hts htd htu ht8 htz
        go_wp2_with fail
        refine (pick_any m 3 w2 (by decide) (by decide)).mono ?_
        rintro r w' ⟨rfl, rfl⟩
        rw [HV.out]
        go_wp2_with fail
        refine (fwrite_ok _ _ _ f h l T w2 (HXE.out _ HB2.out) (HGE.out _ HB2.out) HFR.out).mono ?_
        rintro r w3 ⟨rfl, hb3⟩
        have HB3 : Hid (Below W.heap.size W w3) := HB2.out.trans (hb3.mono HB2.out.size)
        clear hb3 d0 d1 d2
        have hpp := pickN_pos (a := fi) (show (0 : Int) < 8 * (T.size : Int) by have := HT8.out; omega)
        obtain ⟨p, hp⟩ := Int.eq_ofNat_of_zero_le hpp.1
        have hple : p ≤ 8 * T.size := by have := hpp.2; omega
        have HP := Lib.hid hp
        have hne : T.toList.isEmpty = false := by
          rw [toL]
          cases hq : T.data.toList with
          | nil => have h1 := size_data T; have h2 := HT8.out; rw [hq] at h1; simp only [List.length_nil] at h1; omega
          | cons a b => rfl
        have hne2 : (T.toList == []) = false := by
          rw [toL] at hne ⊢
          cases hq : T.data.toList with
          | nil => rw [hq] at hne; simp at hne
          | cons a b => rfl
        have hmw : IntKind.i64.wrap (8 * (T.size : Int)) = 8 * (T.size : Int) := IntWalk.i64_in _ (by have := HTZ.out; omega)
        have hT0 : 0 < 8 * (T.size : Int) := by have := HT8.out; omega
        have hT1 : 8 * (T.size : Int) ≤ 9223372036854775807 := by have := HTZ.out; omega
        have htz4 : T.size ≤ 400000 := HTZ.out
        obtain ⟨K, hK⟩ : ∃ K : ByteArray, (⟨(turnL T.data.toList p bn).toArray⟩ : ByteArray) = K := ⟨_, rfl⟩
        have hKd : turnL T.data.toList p bn = K.data.toList := by rw [← hK]
        have hKz : K.size ≤ 400000 := by rw [← hK, size_turn]; exact HTZ.out
        have HK := Lib.hid hK
        have HKZ := Lib.hid hKz
        have hc := turned_any_facts T p bn HBN.out hple HTO.out
        rw [hKd] at hc
        have hp7 : p ≤ 10000000 := by omega
        clear hpp hp hK hKd hKz
        rcases hc with hc | ⟨hc, x, pl, hx⟩
        · have hKT : K = T := bytes_ext hc
          subst hKT
          have HKT := HK.out
          clear hc
          go_wp2_with fail
          refine (pick_any fi _ w3 hT0 hT1).mono ?_
          rintro r w' ⟨rfl, rfl⟩
          rw [HP.out]
          go_wp2_with fail
          refine (turned_any K p bn w3 (by omega) hp7 HBN.out).mono ?_
          rintro r w4 ⟨rfl, hb4⟩
          rw [HKT]
          have HB4 : Hid (Below W.heap.size W w4) := HB3.out.trans (hb4.mono HB3.out.size)
          clear hb4 HKT
          go_wp2_with fail
          refine (rd_ok (oany_any K w4 HKZ.out (HGE.out _ HB4.out)) HAY.out).mono ?_
          rintro r w5 ⟨a1, c1, a2, c2, a3, c3, rfl, _, hb5⟩
          have HB5 : Hid (Below W.heap.size W (w5.alloc (.cells #[.slice a1 f.length c1, .slice a2 h.length c2, .slice a3 l.length c3] 25))) := Lib.hid ((HB4.out.trans (hb5.mono HB4.out.size)).alloc (HB4.out.trans (hb5.mono HB4.out.size)).size _)
          clear hb5
          generalize f.length = mf at HB5 ⊢
          generalize h.length = mh at HB5 ⊢
          generalize l.length = ml at HB5 ⊢
          go_wp2
          go_ret
          exact ⟨by first | rfl | simp, HE.out _ HB5.out⟩
        · have hKT : (T.toList == K.toList) = false := by
            rw [toL, toL]
            exact beq_eq_false_iff_ne.2 (fun e => hc e.symm)
          have HX := Lib.hid hx
          clear hc hx
          go_wp2_with fail
          refine (pick_any fi _ w3 hT0 hT1).mono ?_
          rintro r w' ⟨rfl, rfl⟩
          rw [HP.out]
          go_wp2_with fail
          refine (turned_any T p bn w3 (by omega) hp7 HBN.out).mono ?_
          rintro r w4 ⟨rfl, hb4⟩
          rw [HK.out]
          have HB4 : Hid (Below W.heap.size W w4) := HB3.out.trans (hb4.mono HB3.out.size)
          clear hb4
          go_wp2_with fail
          refine (rd_err (oany_any K w4 HKZ.out (HGE.out _ HB4.out)) HX.out).mono ?_
          rintro r w5 ⟨t, u, rfl, _, hb5⟩
          have HB5 : Hid (Below W.heap.size W (w5.alloc (.cells #[.slice none 0 0, .slice none 0 0, .slice none 0 0] 25))) := Lib.hid ((HB4.out.trans (hb5.mono HB4.out.size)).alloc (HB4.out.trans (hb5.mono HB4.out.size)).size _)
          clear hb5
          go_wp2
          go_ret
          exact ⟨by first | rfl | simp, HE.out _ HB5.out⟩
    · obtain ⟨T, I1, hfi, hua, huo, hud, hus, hu8, huz, huu⟩ := first_facts HR.out
      have HFI := Lib.hid hfi
      have HAY := Lib.hid hua
      have HTO := Lib.hid hus
      have HT8 := Lib.hid hu8
      have HTZ := Lib.hid huz
      clear hfi hua huo hud hus hu8 huz huu
      go_wp2_with fail
      refine (pick_any m 3 w2 (by decide) (by decide)).mono ?_
      rintro r w' ⟨rfl, rfl⟩
      rw [HV.out]
      go_wp2_with fail
      refine (ofirst_ok _ _ _ f h l T w2 (HXE.out _ HB2.out) (HGE.out _ HB2.out) HFI.out).mono ?_
      rintro r w3 ⟨rfl, hb3⟩
      have HB3 : Hid (Below W.heap.size W w3) := HB2.out.trans (hb3.mono HB2.out.size)
      clear hb3 d0 d1 d2
      have hpp := pickN_pos (a := fi) (show (0 : Int) < 8 * (T.size : Int) by have := HT8.out; omega)
      obtain ⟨p, hp⟩ := Int.eq_ofNat_of_zero_le hpp.1
      have hple : p ≤ 8 * T.size := by have := hpp.2; omega
      have HP := Lib.hid hp
      have hne : T.toList.isEmpty = false := by
        rw [toL]
        cases hq : T.data.toList with
        | nil => have h1 := size_data T; have h2 := HT8.out; rw [hq] at h1; simp only [List.length_nil] at h1; omega
        | cons a b => rfl
      have hne2 : (T.toList == []) = false := by
        rw [toL] at hne ⊢
        cases hq : T.data.toList with
        | nil => rw [hq] at hne; simp at hne
        | cons a b => rfl
      have hmw : IntKind.i64.wrap (8 * (T.size : Int)) = 8 * (T.size : Int) := IntWalk.i64_in _ (by have := HTZ.out; omega)
      have hT0 : 0 < 8 * (T.size : Int) := by have := HT8.out; omega
      have hT1 : 8 * (T.size : Int) ≤ 9223372036854775807 := by have := HTZ.out; omega
      have htz4 : T.size ≤ 400000 := HTZ.out
      obtain ⟨K, hK⟩ : ∃ K : ByteArray, (⟨(turnL T.data.toList p bn).toArray⟩ : ByteArray) = K := ⟨_, rfl⟩
      have hKd : turnL T.data.toList p bn = K.data.toList := by rw [← hK]
      have hKz : K.size ≤ 400000 := by rw [← hK, size_turn]; exact HTZ.out
      have HK := Lib.hid hK
      have HKZ := Lib.hid hKz
      have hc := turned_any_facts T p bn HBN.out hple HTO.out
      rw [hKd] at hc
      have hp7 : p ≤ 10000000 := by omega
      clear hpp hp hK hKd hKz
      rcases hc with hc | ⟨hc, x, pl, hx⟩
      · have hKT : K = T := bytes_ext hc
        subst hKT
        have HKT := HK.out
        clear hc
        go_wp2_with fail
        refine (pick_any fi _ w3 hT0 hT1).mono ?_
        rintro r w' ⟨rfl, rfl⟩
        rw [HP.out]
        go_wp2_with fail
        refine (turned_any K p bn w3 (by omega) hp7 HBN.out).mono ?_
        rintro r w4 ⟨rfl, hb4⟩
        rw [HKT]
        have HB4 : Hid (Below W.heap.size W w4) := HB3.out.trans (hb4.mono HB3.out.size)
        clear hb4 HKT
        go_wp2_with fail
        refine (rd_ok (oany_any K w4 HKZ.out (HGE.out _ HB4.out)) HAY.out).mono ?_
        rintro r w5 ⟨a1, c1, a2, c2, a3, c3, rfl, _, hb5⟩
        have HB5 : Hid (Below W.heap.size W (w5.alloc (.cells #[.slice a1 f.length c1, .slice a2 h.length c2, .slice a3 l.length c3] 25))) := Lib.hid ((HB4.out.trans (hb5.mono HB4.out.size)).alloc (HB4.out.trans (hb5.mono HB4.out.size)).size _)
        clear hb5
        generalize f.length = mf at HB5 ⊢
        generalize h.length = mh at HB5 ⊢
        generalize l.length = ml at HB5 ⊢
        go_wp2
        go_ret
        exact ⟨by first | rfl | simp, HE.out _ HB5.out⟩
      · have hKT : (T.toList == K.toList) = false := by
          rw [toL, toL]
          exact beq_eq_false_iff_ne.2 (fun e => hc e.symm)
        have HX := Lib.hid hx
        clear hc hx
        go_wp2_with fail
        refine (pick_any fi _ w3 hT0 hT1).mono ?_
        rintro r w' ⟨rfl, rfl⟩
        rw [HP.out]
        go_wp2_with fail
        refine (turned_any T p bn w3 (by omega) hp7 HBN.out).mono ?_
        rintro r w4 ⟨rfl, hb4⟩
        rw [HK.out]
        have HB4 : Hid (Below W.heap.size W w4) := HB3.out.trans (hb4.mono HB3.out.size)
        clear hb4
        go_wp2_with fail
        refine (rd_err (oany_any K w4 HKZ.out (HGE.out _ HB4.out)) HX.out).mono ?_
        rintro r w5 ⟨t, u, rfl, _, hb5⟩
        have HB5 : Hid (Below W.heap.size W (w5.alloc (.cells #[.slice none 0 0, .slice none 0 0, .slice none 0 0] 25))) := Lib.hid ((HB4.out.trans (hb5.mono HB4.out.size)).alloc (HB4.out.trans (hb5.mono HB4.out.size)).size _)
        clear hb5
        go_wp2
        go_ret
        exact ⟨by first | rfl | simp, HE.out _ HB5.out⟩
    · rcases frm_cases f h l with ⟨s, e, pl, hbf, he, hno⟩ | ⟨S, T0, hr, hS, hsz, hfr, hfl⟩
      · have HBF := Lib.hid hbf
        clear hbf hno
        go_wp2_with fail
        refine (pick_any m 3 w2 (by decide) (by decide)).mono ?_
        rintro r w' ⟨rfl, rfl⟩
        rw [HV.out]
        go_wp2_with fail
        refine (osecond_err _ _ _ f h l s e pl w2 (HXE.out _ HB2.out) (HGE.out _ HB2.out) HBF.out he).mono ?_
        rintro r w3 ⟨t, u, rfl, hb3⟩
        have HB3 : Hid (Below W.heap.size W w3) := HB2.out.trans (hb3.mono HB2.out.size)
        clear hb3 d0 d1 d2
        go_wp2
        go_ret
        exact ⟨by first | rfl | simp, HE.out _ HB3.out⟩
      · obtain ⟨⟨T, hse, hsv, hva, hvo, hvs, hv8, hvz, hbd⟩, _⟩ := all_facts hr hS hsz hfr hfl
        have HSE := Lib.hid hse
        have HAY := Lib.hid hva
        have HTO := Lib.hid hvs
        have HT8 := Lib.hid hv8
        have HTZ := Lib.hid hvz
        clear hr hS hsz hfr hfl hse hsv hva hvo hvs hv8 hvz hbd
        go_wp2_with fail
        refine (pick_any m 3 w2 (by decide) (by decide)).mono ?_
        rintro r w' ⟨rfl, rfl⟩
        rw [HV.out]
        go_wp2_with fail
        refine (osecond_ok _ _ _ f h l T w2 (HXE.out _ HB2.out) (HGE.out _ HB2.out) HSE.out).mono ?_
        rintro r w3 ⟨rfl, hb3⟩
        have HB3 : Hid (Below W.heap.size W w3) := HB2.out.trans (hb3.mono HB2.out.size)
        clear hb3 d0 d1 d2
        have hpp := pickN_pos (a := fi) (show (0 : Int) < 8 * (T.size : Int) by have := HT8.out; omega)
        obtain ⟨p, hp⟩ := Int.eq_ofNat_of_zero_le hpp.1
        have hple : p ≤ 8 * T.size := by have := hpp.2; omega
        have HP := Lib.hid hp
        have hne : T.toList.isEmpty = false := by
          rw [toL]
          cases hq : T.data.toList with
          | nil => have h1 := size_data T; have h2 := HT8.out; rw [hq] at h1; simp only [List.length_nil] at h1; omega
          | cons a b => rfl
        have hne2 : (T.toList == []) = false := by
          rw [toL] at hne ⊢
          cases hq : T.data.toList with
          | nil => rw [hq] at hne; simp at hne
          | cons a b => rfl
        have hmw : IntKind.i64.wrap (8 * (T.size : Int)) = 8 * (T.size : Int) := IntWalk.i64_in _ (by have := HTZ.out; omega)
        have hT0 : 0 < 8 * (T.size : Int) := by have := HT8.out; omega
        have hT1 : 8 * (T.size : Int) ≤ 9223372036854775807 := by have := HTZ.out; omega
        have htz4 : T.size ≤ 400000 := HTZ.out
        obtain ⟨K, hK⟩ : ∃ K : ByteArray, (⟨(turnL T.data.toList p bn).toArray⟩ : ByteArray) = K := ⟨_, rfl⟩
        have hKd : turnL T.data.toList p bn = K.data.toList := by rw [← hK]
        have hKz : K.size ≤ 400000 := by rw [← hK, size_turn]; exact HTZ.out
        have HK := Lib.hid hK
        have HKZ := Lib.hid hKz
        have hc := turned_any_facts T p bn HBN.out hple HTO.out
        rw [hKd] at hc
        have hp7 : p ≤ 10000000 := by omega
        clear hpp hp hK hKd hKz
        rcases hc with hc | ⟨hc, x, pl, hx⟩
        · have hKT : K = T := bytes_ext hc
          subst hKT
          have HKT := HK.out
          clear hc
          go_wp2_with fail
          refine (pick_any fi _ w3 hT0 hT1).mono ?_
          rintro r w' ⟨rfl, rfl⟩
          rw [HP.out]
          go_wp2_with fail
          refine (turned_any K p bn w3 (by omega) hp7 HBN.out).mono ?_
          rintro r w4 ⟨rfl, hb4⟩
          rw [HKT]
          have HB4 : Hid (Below W.heap.size W w4) := HB3.out.trans (hb4.mono HB3.out.size)
          clear hb4 HKT
          go_wp2_with fail
          refine (rd_ok (oany_any K w4 HKZ.out (HGE.out _ HB4.out)) HAY.out).mono ?_
          rintro r w5 ⟨a1, c1, a2, c2, a3, c3, rfl, _, hb5⟩
          have HB5 : Hid (Below W.heap.size W (w5.alloc (.cells #[.slice a1 f.length c1, .slice a2 h.length c2, .slice a3 l.length c3] 25))) := Lib.hid ((HB4.out.trans (hb5.mono HB4.out.size)).alloc (HB4.out.trans (hb5.mono HB4.out.size)).size _)
          clear hb5
          generalize f.length = mf at HB5 ⊢
          generalize h.length = mh at HB5 ⊢
          generalize l.length = ml at HB5 ⊢
          go_wp2
          go_ret
          exact ⟨by first | rfl | simp, HE.out _ HB5.out⟩
        · have hKT : (T.toList == K.toList) = false := by
            rw [toL, toL]
            exact beq_eq_false_iff_ne.2 (fun e => hc e.symm)
          have HX := Lib.hid hx
          clear hc hx
          go_wp2_with fail
          refine (pick_any fi _ w3 hT0 hT1).mono ?_
          rintro r w' ⟨rfl, rfl⟩
          rw [HP.out]
          go_wp2_with fail
          refine (turned_any T p bn w3 (by omega) hp7 HBN.out).mono ?_
          rintro r w4 ⟨rfl, hb4⟩
          rw [HK.out]
          have HB4 : Hid (Below W.heap.size W w4) := HB3.out.trans (hb4.mono HB3.out.size)
          clear hb4
          go_wp2_with fail
          refine (rd_err (oany_any K w4 HKZ.out (HGE.out _ HB4.out)) HX.out).mono ?_
          rintro r w5 ⟨t, u, rfl, _, hb5⟩
          have HB5 : Hid (Below W.heap.size W (w5.alloc (.cells #[.slice none 0 0, .slice none 0 0, .slice none 0 0] 25))) := Lib.hid ((HB4.out.trans (hb5.mono HB4.out.size)).alloc (HB4.out.trans (hb5.mono HB4.out.size)).size _)
          clear hb5
          go_wp2
          go_ret
          exact ⟨by first | rfl | simp, HE.out _ HB5.out⟩
end Go.Proofs.YtjkbmfpomgcblaaGreatDoor
