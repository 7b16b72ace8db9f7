/-
  The contract of the document's Unchunk.
-/
import Derived.Test.YtggokgiebdadpaaDoorChkFill
import Derived.Test.YtggokgiebdadpaaDoorChkRefWrite
import Derived.Test.YtggokgiebdadpaaDoorRefInt
namespace Go.Proofs.YtggokgiebdadpaaDoor
open Go.RowKit

theorem rint_l (s : ByteArray) (n k e : Nat) (w : World) (hs : s.size ≤ maxLen) (h : intL s.data.toList 4096 = (n, k, e)) :
    Calls Tryd.prog 28 #[.string s, .int .i64 4096] w fun r w' => r = .returned (.tuple #[.int .i64 n, .int .i64 k, .int .i64 e]) ∧ w = w' := by
  have h1 := rint_any s 4096 w hs (by decide) (by decide)
  rw [h] at h1
  exact h1
/-- A name's bytes from the last one on. -/
def nmB (l : List UInt8) (k : Nat) : Nat := val ((l.drop (k + 1)).take (4 - k))
theorem nmB_lt (l : List UInt8) (k : Nat) : nmB l (k + 1) < 16777216 := by
  unfold nmB
  refine Nat.lt_of_lt_of_le (val_lt _) ?_
  have h : ((l.drop (k + 1 + 1)).take (4 - (k + 1))).length ≤ 3 := by rw [List.length_take]; omega
  exact Nat.pow_le_pow_right (by decide) (show 8 * _ ≤ 24 by omega)
theorem nmB_step (s : ByteArray) (k : Nat) (hk : k < 4) (h : k + 1 < s.size) : nmB s.data.toList (k + 1) * 256 + s[k + 1].toNat = nmB s.data.toList k := by
  unfold nmB
  have hl : k + 1 < s.data.toList.length := by simp; omega
  rw [List.drop_eq_getElem_cons hl, show 4 - k = (4 - (k + 1)) + 1 by omega, List.take_succ_cons, val_cons, Nat.mul_comm, Nat.add_comm]
  rfl
theorem nmB_four (l : List UInt8) : nmB l 4 = 0 := by unfold nmB; simp [val]

set_option maxRecDepth 100000 in
set_option maxHeartbeats 4000000 in
theorem rcread_any (s : ByteArray) (w : World) (hs : s.size ≤ 1000000) :
    Calls Tryd.prog 11 #[.string s] w fun r w' => r = .returned (.tuple #[chkV (creadF s.data.toList).1, .int .i64 (creadF s.data.toList).2]) ∧ Below w.heap.size w w' := by
  have HW : Hid (CkB w (w.alloc (.cells #[.int .u32 0, .int .i64 0, .int .i64 0, .string ⟨#[]⟩] 34)) w.heap.size chk0) := Lib.hid (CkB.new (c := chk0) (Below.refl _ _))
  obtain ⟨o, e, ho⟩ : ∃ o e, openL s.data.toList = (o, e) := ⟨_, _, rfl⟩
  obtain ⟨J, hJ⟩ : ∃ J : ByteArray, (⟨o.toArray⟩ : ByteArray) = J := ⟨_, rfl⟩
  have hJo : o = J.data.toList := by rw [← hJ]
  have HO : Hid (∀ w', Calls Tryd.prog 26 #[.string s] w' fun r w2 => r = .returned (.tuple #[.string J, .int .i64 e]) ∧ Below w'.heap.size w' w2) := Lib.hid (fun w' => by
    have h := refopen_any s w' hs
    rw [ho] at h
    unfold openR at h
    rw [hJ] at h
    exact h)
  by_cases h0 : e = 0
  · subst h0
    have hR : creadF s.data.toList = fillF J.data.toList := by unfold creadF; rw [ho, if_neg (by simp), hJo]
    have hz : J.size ≤ 1000000 := by
      have h1 := openL_only ho
      have h2 := congrArg List.length h1
      unfold sealL at h2
      rw [List.length_append, hJo] at h2
      simp at h2
      omega
    rw [hR]
    clear hJ hJo ho hR hs
    rcases fill_ways J.data.toList with h1 | ⟨h1, h2⟩ | ⟨h1, h2, h3⟩
    · have HA : Hid (Value.tuple #[chkV (fillF J.data.toList).1, .int .i64 (fillF J.data.toList).2] = .tuple #[.agg #[.int .u32 0, .int .i64 0, .int .i64 0, .string ⟨#[]⟩], .int .i64 5]) := Lib.hid (by rw [fill_name h1]; rfl)
      have HPB : Hid (Lib.hasPrefix J.data.toList [67] = false) := Lib.hid (pre_cn h1)
      clear h1
      go_enter Tryd.func11, Tryd.ntmps11
      go_wp2_with fail
      generalize w.alloc (.cells #[.int .u32 0, .int .i64 0, .int .i64 0, .string ⟨#[]⟩] 34) = W at HW ⊢
      refine (HO.out W).mono ?_
      rintro r w1 ⟨rfl, hb⟩
      have HR1 := Lib.hid (HW.out.below hb)
      clear hb
      go_wp2_with fail
      refine (Tryd.strings_HasPrefix J _ w1).mono ?_
      rintro r w' ⟨rfl, rfl⟩
      rw [HPB.out]
      obtain ⟨_, z0, z1, z2, z3, _⟩ := HR1.out.cells
      obtain ⟨c0, c1, c2, c3⟩ := HR1.out.zero
      have HM := Lib.hid HR1.out.put0
      go_wp2
      generalize (((w'.setCell ⟨w.heap.size, 0, none⟩ (.int .u32 0)).setCell ⟨w.heap.size, 1, none⟩ (.int .i64 0)).setCell ⟨w.heap.size, 2, none⟩ (.int .i64 0)).setCell ⟨w.heap.size, 3, none⟩ (.string ⟨#[]⟩) = WZ at HM ⊢
      obtain ⟨q0, q1, q2, q3⟩ := HM.out.zero
      refine bodyPost_ret (v := .tuple #[.agg #[.int .u32 0, .int .i64 0, .int .i64 0, .string ⟨#[]⟩], .int .i64 5]) (by simp [results, Tryd.results11, go_sem, q0, q1, q2, q3]) rfl ?_
      exact ⟨by rw [HA.out], HM.out.2.1⟩
    · have HA : Hid (Value.tuple #[chkV (fillF J.data.toList).1, .int .i64 (fillF J.data.toList).2] = .tuple #[.agg #[.int .u32 0, .int .i64 0, .int .i64 0, .string ⟨#[]⟩], .int .i64 7]) := Lib.hid (by rw [fill_few h1 h2]; rfl)
      have HPB : Hid (Lib.hasPrefix J.data.toList [67] = true) := Lib.hid (pre_c.2 h1)
      have h5 : J.size < 5 := by have h := h2; simp at h; exact h
      clear h1 h2
      go_enter Tryd.func11, Tryd.ntmps11
      go_wp2_with fail
      generalize w.alloc (.cells #[.int .u32 0, .int .i64 0, .int .i64 0, .string ⟨#[]⟩] 34) = W at HW ⊢
      refine (HO.out W).mono ?_
      rintro r w1 ⟨rfl, hb⟩
      have HR1 := Lib.hid (HW.out.below hb)
      clear hb
      go_wp2_with fail
      refine (Tryd.strings_HasPrefix J _ w1).mono ?_
      rintro r w' ⟨rfl, rfl⟩
      rw [HPB.out]
      obtain ⟨_, z0, z1, z2, z3, _⟩ := HR1.out.cells
      obtain ⟨c0, c1, c2, c3⟩ := HR1.out.zero
      have HM := Lib.hid HR1.out.put0
      go_wp2
      generalize (((w'.setCell ⟨w.heap.size, 0, none⟩ (.int .u32 0)).setCell ⟨w.heap.size, 1, none⟩ (.int .i64 0)).setCell ⟨w.heap.size, 2, none⟩ (.int .i64 0)).setCell ⟨w.heap.size, 3, none⟩ (.string ⟨#[]⟩) = WZ at HM ⊢
      obtain ⟨q0, q1, q2, q3⟩ := HM.out.zero
      refine bodyPost_ret (v := .tuple #[.agg #[.int .u32 0, .int .i64 0, .int .i64 0, .string ⟨#[]⟩], .int .i64 7]) (by simp [results, Tryd.results11, go_sem, q0, q1, q2, q3]) rfl ?_
      exact ⟨by rw [HA.out], HM.out.2.1⟩
    · have HPB : Hid (Lib.hasPrefix J.data.toList [67] = true) := Lib.hid (pre_c.2 h1)
      have h5 : ¬ J.size < 5 := by have h := h2; simp at h; omega
      obtain ⟨S2, hS2⟩ : ∃ S, J.extract 5 J.size = S := ⟨_, rfl⟩
      have y2 : S2.size = J.size - 5 := by rw [← hS2, ByteArray.size_extract]; omega
      have d2 : S2.data.toList = J.data.toList.drop 5 := by rw [← hS2, ext_dropC]
      obtain ⟨n, hn⟩ : ∃ n, val ((J.data.toList.drop 1).take 4) = n := ⟨_, rfl⟩
      have hn0 : nmB J.data.toList 0 = n := hn
      have i1 : (5 : Int) ≤ (J.size : Int) := by omega
      have H3 := Lib.hid h3
      have H1 := Lib.hid h1
      have H2 := Lib.hid h2
      have D2 := Lib.hid d2
      have HNN := Lib.hid hn
      have HN0 := Lib.hid hn0
      have HM2 : Hid (S2.size ≤ maxLen) := Lib.hid (by unfold maxLen; omega)
      have HJZ := Lib.hid hz
      clear h1 h2 h3 y2 d2 hn hn0
      go_enter Tryd.func11, Tryd.ntmps11
      go_wp2_with fail
      generalize w.alloc (.cells #[.int .u32 0, .int .i64 0, .int .i64 0, .string ⟨#[]⟩] 34) = W at HW ⊢
      refine (HO.out W).mono ?_
      rintro r w1 ⟨rfl, hb⟩
      have HR1 := Lib.hid (HW.out.below hb)
      clear hb
      go_wp2_with fail
      refine (Tryd.strings_HasPrefix J _ w1).mono ?_
      rintro r w' ⟨rfl, rfl⟩
      rw [HPB.out]
      have HP : Hid (CkB w (w'.alloc (.cells #[.int .u32 0, .int .i64 0, .int .i64 0, .string ⟨#[]⟩] 34)) w'.heap.size chk0) := Lib.hid (CkB.new (c := chk0) HR1.out.2.1)
      have HR : Hid (CkB w (w'.alloc (.cells #[.int .u32 0, .int .i64 0, .int .i64 0, .string ⟨#[]⟩] 34)) w.heap.size chk0) := Lib.hid (HR1.out.below ((Below.refl _ _).alloc (Nat.le_refl _) _))
      have hne : w.heap.size ≠ w'.heap.size := by have := HR1.out.cells.2.2.2.2.2; omega
      have hne2 : w'.heap.size ≠ w.heap.size := fun e => hne e.symm
      have HCB : Hid (w.heap.size ≤ w'.heap.size) := Lib.hid HR1.out.2.1.size
      go_wp2_with fail
      generalize w'.alloc (.cells #[.int .u32 0, .int .i64 0, .int .i64 0, .string ⟨#[]⟩] 34) = W2 at HP HR ⊢
      generalize w'.heap.size = C at HP HCB hne hne2 ⊢
      clear HR1
      go_loopw [7] (fun i wr => ∃ k : Nat, k ≤ 4 ∧ i = .int .i64 k ∧ CkB w wr C ⟨nmB J.data.toList k, 0, 0, ⟨#[]⟩⟩ ∧ CkB w wr w.heap.size chk0) (fun i _ => (intOf i).toNat)
      case atStart => exact ⟨4, by omega, rfl, by rw [nmB_four]; exact HP.out, HR.out⟩
      case round =>
        obtain ⟨k, hk, rfl, hP, hR⟩ := hrel
        have HPk := Lib.hid hP
        have HRk := Lib.hid hR
        clear hP hR HP HR
        by_cases hk0 : k = 0
        · subst hk0
          rw [HN0.out] at HPk
          generalize wr = W3 at HPk HRk ⊢
          rcases H3.out with ⟨e, h4, he⟩ | ⟨t, k, h4, ht, hk1, hl, _, h6⟩
          · have hne0 : ((e : Int) != 0) = true := by simp; omega
            have HA : Hid (Value.tuple #[chkV (fillF J.data.toList).1, .int .i64 (fillF J.data.toList).2] = .tuple #[.agg #[.int .u32 0, .int .i64 0, .int .i64 0, .string ⟨#[]⟩], .int .i64 e]) := Lib.hid (by rw [fill_one H1.out H2.out h4 he]; rfl)
            have HI := Lib.hid (rint_l S2 0 0 e W3 HM2.out (by rw [D2.out]; exact h4))
            clear h4 he
            obtain ⟨_, z0, z1, z2, z3, _⟩ := HRk.out.cells
            obtain ⟨c0, c1, c2, c3⟩ := HRk.out.zero
            go_wp2_with fail
            refine HI.out.mono ?_
            rintro r w'' ⟨rfl, rfl⟩
            have HM := Lib.hid HRk.out.put0
            go_wp2
            generalize (((W3.setCell ⟨w.heap.size, 0, none⟩ (.int .u32 0)).setCell ⟨w.heap.size, 1, none⟩ (.int .i64 0)).setCell ⟨w.heap.size, 2, none⟩ (.int .i64 0)).setCell ⟨w.heap.size, 3, none⟩ (.string ⟨#[]⟩) = WZ at HM ⊢
            obtain ⟨q0, q1, q2, q3⟩ := HM.out.zero
            refine bodyPost_ret (v := .tuple #[.agg #[.int .u32 0, .int .i64 0, .int .i64 0, .string ⟨#[]⟩], .int .i64 e]) (by simp [results, Tryd.results11, go_sem, q0, q1, q2, q3]) rfl ?_
            exact ⟨by rw [HA.out], HM.out.2.1⟩
          · obtain ⟨p, hp⟩ : ∃ p, 5 + k = p := ⟨_, rfl⟩
            rw [hp] at hl h6
            have hl' : p ≤ J.size := by have h := hl; simp at h; exact h
            obtain ⟨S3, hS3⟩ : ∃ S, J.extract p J.size = S := ⟨_, rfl⟩
            have d3 : S3.data.toList = J.data.toList.drop p := by rw [← hS3, ext_dropC]
            have HM3 : Hid (S3.size ≤ maxLen) := Lib.hid (by have := HJZ.out; rw [← hS3, ByteArray.size_extract]; unfold maxLen; omega)
            have i3 : (p : Int) ≤ (J.size : Int) := by omega
            have i4 : (0 : Int) ≤ (p : Int) := by omega
            have kp : IntKind.i64.wrap (5 + (k : Int)) = (p : Int) := by rw [IntWalk.i64_in _ (by have := HJZ.out; omega)]; omega
            have kp2 : 5 + (k : Int) = (p : Int) := by omega
            have HI := Lib.hid (rint_l S2 t k 0 W3 HM2.out (by rw [D2.out]; exact h4))
            have H4 := Lib.hid h4
            have H6 := Lib.hid h6
            have D3 := Lib.hid d3
            have HT := Lib.hid ht
            have HPP := Lib.hid hp
            clear h4 h6 d3 ht hl hl' hk1 hp
            go_wp2_with fail
            refine HI.out.mono ?_
            rintro r w'' ⟨rfl, rfl⟩
            rcases H6.out with ⟨e, h4, he⟩ | ⟨a, j, h4, ha, hj, hl, _⟩
            · have hne0 : ((e : Int) != 0) = true := by simp; omega
              have HA : Hid (Value.tuple #[chkV (fillF J.data.toList).1, .int .i64 (fillF J.data.toList).2] = .tuple #[.agg #[.int .u32 0, .int .i64 0, .int .i64 0, .string ⟨#[]⟩], .int .i64 e]) := Lib.hid (by rw [fill_two H1.out H2.out H4.out (by rw [HPP.out]; exact h4) he]; rfl)
              have HI := Lib.hid (rint_l S3 0 0 e W3 HM3.out (by rw [D3.out]; exact h4))
              clear h4 he
              obtain ⟨_, z0, z1, z2, z3, _⟩ := HRk.out.cells
              obtain ⟨c0, c1, c2, c3⟩ := HRk.out.zero
              go_wp2_with fail
              refine HI.out.mono ?_
              rintro r w'' ⟨rfl, rfl⟩
              have HM := Lib.hid HRk.out.put0
              go_wp2
              generalize (((W3.setCell ⟨w.heap.size, 0, none⟩ (.int .u32 0)).setCell ⟨w.heap.size, 1, none⟩ (.int .i64 0)).setCell ⟨w.heap.size, 2, none⟩ (.int .i64 0)).setCell ⟨w.heap.size, 3, none⟩ (.string ⟨#[]⟩) = WZ at HM ⊢
              obtain ⟨q0, q1, q2, q3⟩ := HM.out.zero
              refine bodyPost_ret (v := .tuple #[.agg #[.int .u32 0, .int .i64 0, .int .i64 0, .string ⟨#[]⟩], .int .i64 e]) (by simp [results, Tryd.results11, go_sem, q0, q1, q2, q3]) rfl ?_
              exact ⟨by rw [HA.out], HM.out.2.1⟩
            · obtain ⟨q, hq⟩ : ∃ q, p + j = q := ⟨_, rfl⟩
              rw [hq] at hl
              have hl' : q ≤ J.size := by have h := hl; simp at h; exact h
              obtain ⟨S4, hS4⟩ : ∃ S, J.extract q J.size = S := ⟨_, rfl⟩
              have y4 : S4.size = J.size - q := by rw [← hS4, ByteArray.size_extract]; omega
              have d4 : S4.data.toList = J.data.toList.drop q := by rw [← hS4, ext_dropC]
              have i5 : (q : Int) ≤ (J.size : Int) := by omega
              have i6 : (0 : Int) ≤ (q : Int) := by omega
              have kq : IntKind.i64.wrap ((p : Int) + (j : Int)) = (q : Int) := by rw [IntWalk.i64_in _ (by have := HJZ.out; omega)]; omega
              have kq2 : (p : Int) + (j : Int) = (q : Int) := by omega
              have HI := Lib.hid (rint_l S3 a j 0 W3 HM3.out (by rw [D3.out]; exact h4))
              have hzl : (J.data.toList.drop q).length = S4.size := by rw [← d4]; simp
              have hmk : (⟨(J.data.toList.drop q).toArray⟩ : ByteArray) = S4 := by rw [← d4, mk_bytes]
              have HF := fill_three H1.out H2.out H4.out (by rw [HPP.out]; exact h4)
              rw [HPP.out, hq, hzl, hmk, HNN.out] at HF
              have HF := Lib.hid HF
              have HOK : Hid (ChkOk ⟨n, t, a, S4⟩) := Lib.hid ⟨by
                have h := val_lt ((J.data.toList.drop 1).take 4)
                rw [HNN.out, List.length_take, List.length_drop] at h
                exact Nat.lt_of_lt_of_le h (Nat.pow_le_pow_right (by decide) (show 8 * min 4 (J.data.toList.length - 1) ≤ 32 by omega)), by show -9223372036854775808 ≤ (t : Int); omega, by have := HT.out; show (t : Int) ≤ 9223372036854775807; omega, by show -9223372036854775808 ≤ (a : Int); omega, by show (a : Int) ≤ 9223372036854775807; omega, by have := HJZ.out; show S4.size ≤ 140737488351232; omega⟩
              have HP1 : Hid (CkB w (W3.setCell ⟨C, 1, none⟩ (.int .i64 t)) C ⟨n, t, 0, ⟨#[]⟩⟩) := Lib.hid (HPk.out.put rfl)
              have HP2 : Hid (CkB w ((W3.setCell ⟨C, 1, none⟩ (.int .i64 t)).setCell ⟨C, 2, none⟩ (.int .i64 a)) C ⟨n, t, a, ⟨#[]⟩⟩) := Lib.hid (HP1.out.put rfl)
              have HP3 : Hid (CkB w (((W3.setCell ⟨C, 1, none⟩ (.int .i64 t)).setCell ⟨C, 2, none⟩ (.int .i64 a)).setCell ⟨C, 3, none⟩ (.string S4)) C ⟨n, t, a, S4⟩) := Lib.hid (HP2.out.put rfl)
              have HR3 : Hid (CkB w (((W3.setCell ⟨C, 1, none⟩ (.int .i64 t)).setCell ⟨C, 2, none⟩ (.int .i64 a)).setCell ⟨C, 3, none⟩ (.string S4)) w.heap.size chk0) := Lib.hid (((HRk.out.other hne HCB.out).other hne HCB.out).other hne HCB.out)
              obtain ⟨e, he⟩ : ∃ e, crE (t : Int) (a : Int) S4.size = e := ⟨_, rfl⟩
              have HRT := Lib.hid (fun w' => rcright_any n t a S4 e w' HOK.out he)
              have HEE := Lib.hid he
              clear h4 hl hl' y4 d4 hzl hmk hj ha hq he
              obtain ⟨⟨c0, c1, c2, c3⟩, z0, z1, z2, z3, _⟩ := HPk.out.cells
              simp only at c0 c1 c2 c3
              go_wp2_with fail
              refine HI.out.mono ?_
              rintro r w'' ⟨rfl, rfl⟩
              go_wp2_with fail
              go_region
              go_wp2_with fail
              have HP4 := Lib.hid HP3.out.drew
              have HR4 := Lib.hid HR3.out.drew
              generalize (((W3.setCell ⟨C, 1, none⟩ (.int .i64 (t : Int))).setCell ⟨C, 2, none⟩ (.int .i64 (a : Int))).setCell ⟨C, 3, none⟩ (.string S4)).drew = W4 at HP4 HR4 ⊢
              clear c0 c1 c2 c3 z0 z1 z2 z3 HP1 HP2 HP3 HR3 HPk HRk HI i1 i3 i4 i5 i6 kp kp2 kq kq2
              refine (HRT.out W4).mono ?_
              rintro r w6 ⟨rfl, hb⟩
              have HP7 := Lib.hid (HP4.out.below hb)
              have HR7 := Lib.hid (HR4.out.below hb)
              clear hb HP4 HR4
              by_cases h0 : e = 0
              · subst h0
                have HA : Hid (Value.tuple #[chkV (fillF J.data.toList).1, .int .i64 (fillF J.data.toList).2] = .tuple #[.agg #[.int .u32 n, .int .i64 t, .int .i64 a, .string S4], .int .i64 0]) := Lib.hid (by rw [HF.out, HEE.out]; rfl)
                obtain ⟨_, z0, z1, z2, z3, _⟩ := HR7.out.cells
                obtain ⟨⟨c0, c1, c2, c3⟩, _⟩ := HP7.out.cells
                obtain ⟨b0, b1, b2, b3⟩ := HR7.out.zero
                simp only at c0 c1 c2 c3
                have HM := Lib.hid (HR7.out.put4 ⟨n, t, a, S4⟩)
                go_wp2
                generalize (((w6.setCell ⟨w.heap.size, 0, none⟩ (.int .u32 (n : Int))).setCell ⟨w.heap.size, 1, none⟩ (.int .i64 (t : Int))).setCell ⟨w.heap.size, 2, none⟩ (.int .i64 (a : Int))).setCell ⟨w.heap.size, 3, none⟩ (.string S4) = WZ at HM ⊢
                obtain ⟨⟨q0, q1, q2, q3⟩, _⟩ := HM.out.cells
                simp only at q0 q1 q2 q3
                refine bodyPost_ret (v := .tuple #[.agg #[.int .u32 n, .int .i64 t, .int .i64 a, .string S4], .int .i64 0]) (by simp [results, Tryd.results11, go_sem, q0, q1, q2, q3]) rfl ?_
                exact ⟨by rw [HA.out], HM.out.2.1⟩
              · have hne0 : ((e : Int) != 0) = true := by simp; omega
                have HA : Hid (Value.tuple #[chkV (fillF J.data.toList).1, .int .i64 (fillF J.data.toList).2] = .tuple #[.agg #[.int .u32 0, .int .i64 0, .int .i64 0, .string ⟨#[]⟩], .int .i64 e]) := Lib.hid (by rw [HF.out, HEE.out, if_pos h0]; rfl)
                clear h0
                obtain ⟨_, z0, z1, z2, z3, _⟩ := HR7.out.cells
                obtain ⟨c0, c1, c2, c3⟩ := HR7.out.zero
                have HM := Lib.hid HR7.out.put0
                go_wp2
                generalize (((w6.setCell ⟨w.heap.size, 0, none⟩ (.int .u32 0)).setCell ⟨w.heap.size, 1, none⟩ (.int .i64 0)).setCell ⟨w.heap.size, 2, none⟩ (.int .i64 0)).setCell ⟨w.heap.size, 3, none⟩ (.string ⟨#[]⟩) = WZ at HM ⊢
                obtain ⟨q0, q1, q2, q3⟩ := HM.out.zero
                refine bodyPost_ret (v := .tuple #[.agg #[.int .u32 0, .int .i64 0, .int .i64 0, .string ⟨#[]⟩], .int .i64 e]) (by simp [results, Tryd.results11, go_sem, q0, q1, q2, q3]) rfl ?_
                exact ⟨by rw [HA.out], HM.out.2.1⟩
        · obtain ⟨j, hj⟩ : ∃ j, j + 1 = k := ⟨k - 1, by omega⟩
          have hkJ : k < J.size := by omega
          have hst : nmB J.data.toList k * 256 + J[k].toNat = nmB J.data.toList j := by subst hj; exact nmB_step J j (by omega) hkJ
          have hlt : nmB J.data.toList k < 16777216 := by subst hj; exact nmB_lt J.data.toList j
          have hb : J[k].toNat < 256 := J[k].toNat_lt
          obtain ⟨v, hv⟩ : ∃ v, nmB J.data.toList k = v := ⟨_, rfl⟩
          obtain ⟨u, hu⟩ : ∃ u, nmB J.data.toList j = u := ⟨_, rfl⟩
          rw [hv] at hlt hst HPk
          rw [hu] at hst
          have hst' : (v : Int) * 256 + (J[k].toNat : Int) = (u : Int) := by omega
          have HU := Lib.hid hu
          have HP2 : Hid (CkB w (wr.setCell ⟨C, 0, none⟩ (.int .u32 u)) C ⟨u, 0, 0, ⟨#[]⟩⟩) := Lib.hid (HPk.out.put rfl)
          have HR2 : Hid (CkB w (wr.setCell ⟨C, 0, none⟩ (.int .u32 u)) w.heap.size chk0) := Lib.hid (HRk.out.other hne HCB.out)
          have e1 : (k : Int) - 1 = (j : Int) := by omega
          have e2 : IntKind.i64.wrap ((k : Int) - 1) = (j : Int) := by rw [e1]; exact IntWalk.i64_in _ (by omega)
          have e3 : (1 : Int) ≤ (k : Int) := by omega
          have HJK : Hid (j < k) := Lib.hid (by omega)
          have HJ4 : Hid (j ≤ 4) := Lib.hid (by omega)
          clear hv hu hj hk0
          obtain ⟨⟨c0, c1, c2, c3⟩, z0, z1, z2, z3, _⟩ := HPk.out.cells
          simp only at c0 c1 c2 c3
          go_wp2_with fail
          go_region
          go_wp2
          have HP3 := Lib.hid HP2.out.drew
          have HR3 := Lib.hid HR2.out.drew
          go_roundw
          case rel => exact ⟨j, HJ4.out, rfl, by rw [HU.out]; exact HP3.out, HR3.out⟩
          case measure => simp [intOf]; exact HJK.out
  · have hne0 : ((e : Int) != 0) = true := by simp; omega
    have HA : Hid (Value.tuple #[chkV (creadF s.data.toList).1, .int .i64 (creadF s.data.toList).2] = .tuple #[.agg #[.int .u32 0, .int .i64 0, .int .i64 0, .string ⟨#[]⟩], .int .i64 e]) := Lib.hid (by
      rw [cread_open (by rw [ho]; exact h0), ho]; rfl)
    clear hJ hJo ho h0 hs
    go_enter Tryd.func11, Tryd.ntmps11
    go_wp2_with fail
    generalize w.alloc (.cells #[.int .u32 0, .int .i64 0, .int .i64 0, .string ⟨#[]⟩] 34) = W at HW ⊢
    refine (HO.out W).mono ?_
    rintro r w1 ⟨rfl, hb⟩
    have HR1 := Lib.hid (HW.out.below hb)
    clear hb
    obtain ⟨_, z0, z1, z2, z3, _⟩ := HR1.out.cells
    obtain ⟨c0, c1, c2, c3⟩ := HR1.out.zero
    have HM := Lib.hid HR1.out.put0
    go_wp2
    generalize (((w1.setCell ⟨w.heap.size, 0, none⟩ (.int .u32 0)).setCell ⟨w.heap.size, 1, none⟩ (.int .i64 0)).setCell ⟨w.heap.size, 2, none⟩ (.int .i64 0)).setCell ⟨w.heap.size, 3, none⟩ (.string ⟨#[]⟩) = WZ at HM ⊢
    obtain ⟨q0, q1, q2, q3⟩ := HM.out.zero
    refine bodyPost_ret (v := .tuple #[.agg #[.int .u32 0, .int .i64 0, .int .i64 0, .string ⟨#[]⟩], .int .i64 e]) (by simp [results, Tryd.results11, go_sem, q0, q1, q2, q3]) rfl ?_
    exact ⟨by rw [HA.out], HM.out.2.1⟩
end Go.Proofs.YtggokgiebdadpaaDoor
