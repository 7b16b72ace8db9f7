/-
  The walk of 'packtrainkeep.RecvOthers'.
-/
import Derived.Test.YtjnbnkaocoamlaaDoorTaken
import Derived.Test.YtjnbnkaocoamlaaDoorPick
namespace Go.Proofs.YtjnbnkaocoamlaaDoor
open Go.RowKit

theorem empty_of {s : ByteArray} (h : s.size = 0) : s = ⟨#[]⟩ := by
  apply ByteArray.ext
  exact Array.eq_empty_of_size_eq_zero h
theorem isE_false {s : ByteArray} (h : s.size ≠ 0) : s.toList.isEmpty = false := by
  cases hc : s.toList.isEmpty with
  | false => rfl
  | true =>
    rw [List.isEmpty_iff, ByteArray.toList_eq] at hc
    have h2 : s.data.toList.length = 0 := by rw [hc]; rfl
    rw [Array.length_toList] at h2
    exact absurd h2 h
theorem isN_none {s : ByteArray} (h : s.size ≠ 0) : ¬ s.toList = [] := fun e => by
  have := isE_false h
  rw [e] at this
  cases this
set_option maxRecDepth 100000 in
set_option maxHeartbeats 4000000 in
theorem recvOthers_walk (s : ByteArray) (hs : s.size ≤ 140737488351232) (t : ByteArray) (ht : t.size ≤ 140737488351232) (n : Int) (_ : -9223372036854775808 ≤ n) (_ : n ≤ 9223372036854775807) (i : Int) (_ : -9223372036854775808 ≤ i) (_ : i ≤ 9223372036854775807) (w : World) (hg : errT w) :
    Calls Tryd.prog 5 #[.string s, .string t, .int .i64 n, .int .i64 i] w fun e w' => e = .returned (.bool true) ∧ Below w.heap.size w w' := by
  have HG := Lib.hid hg
  have HSM := Lib.hid (fun (S : ByteArray) W (h : S.size ≤ maxLen) => sum_any S W h)
  clear hg
  go_enter Tryd.func5, Tryd.ntmps5
  go_wp2_with fail
  refine (taken_any w HG.out).mono ?_
  rintro r w1 ⟨rfl, hb⟩
  have HB1 := Lib.hid hb
  clear hb
  go_wp2_with fail
  refine (pieced_any w1).mono ?_
  rintro r w2 ⟨rfl, hb⟩
  have HB2 := Lib.hid (HB1.out.trans (hb.mono HB1.out.size))
  clear hb
  obtain ⟨q, hq⟩ : ∃ q, q = s.size + t.size := ⟨_, rfl⟩
  have w1' : IntKind.i64.wrap ((s.size : Int) + (t.size : Int)) = (q : Int) := by rw [show (s.size : Int) + (t.size : Int) = (q : Int) by omega]; exact IntWalk.i64_in _ (by omega)
  have w2' : (s.size : Int) + (t.size : Int) = (q : Int) := by omega
  by_cases h600 : 600 < q
  · have h6 : decide ((600 : Int) < (q : Int)) = true := decide_eq_true (by omega)
    clear hq h600
    go_wp2_with fail
    go_ret
    exact ⟨rfl, HB2.out⟩
  have h6 : decide ((600 : Int) < (q : Int)) = false := decide_eq_false (by omega)
  by_cases hs0 : s.size = 0
  · have hse := empty_of hs0
    have h7 : decide ((600 : Int) < (t.size : Int)) = false := decide_eq_false (by omega)
    have HQ := Lib.hid hq
    clear hq h600 w1' w2' h6
    subst hse
    go_wp2_with fail
    go_ret
    exact ⟨rfl, HB2.out⟩
  have hsb := isE_false hs0
  have hsn := isN_none hs0
  by_cases ht0 : t.size = 0
  · have hte := empty_of ht0
    have h7 : decide ((600 : Int) < (s.size : Int)) = false := decide_eq_false (by omega)
    have HQ := Lib.hid hq
    clear hq h600 w1' w2' h6
    subst hte
    go_wp2_with fail
    go_ret
    exact ⟨rfl, HB2.out⟩
  have htb := isE_false ht0
  have htn := isN_none ht0
  have HQ := Lib.hid hq
  have HS0 : Hid (1 ≤ s.size ∧ 1 ≤ t.size ∧ s.size ≤ 600 ∧ t.size ≤ 600) := Lib.hid (by omega)
  clear hq h600 hs0 ht0
  go_wp2_with fail
  refine (HSM.out s w2 (by unfold maxLen; omega)).mono ?_
  rintro r w3 ⟨rfl, rfl⟩
  go_wp2_with fail
  refine (HSM.out t w2 (by unfold maxLen; omega)).mono ?_
  rintro r w3 ⟨rfl, rfl⟩
  obtain ⟨a, ha⟩ : ∃ a, a = sum s.data.toList := ⟨_, rfl⟩
  obtain ⟨b, hb⟩ : ∃ b, b = sum t.data.toList := ⟨_, rfl⟩
  rw [← ha, ← hb]
  by_cases hab : a = b
  · subst hab
    clear ha hb
    go_wp2_with fail
    go_ret
    exact ⟨rfl, HB2.out⟩
  · have hab' : ((a : Int) == (b : Int)) = false := by simp; omega
    have HAB : Hid (sum s.data.toList ≠ sum t.data.toList) := Lib.hid (by rw [← ha, ← hb]; exact hab)
    clear hab ha hb
    go_wp2_with fail
    refine (pick_any n 64 w2 (by decide) (by decide)).mono ?_
    rintro r w3 ⟨rfl, rfl⟩
    obtain ⟨z0, hz0⟩ : ∃ z : Nat, pickN n 64 = z := ⟨(pickN n 64).toNat, by have := pickN_pos (a := n) (n := 64) (by decide); omega⟩
    have hz64 : z0 < 64 := by have := pickN_pos (a := n) (n := 64) (by decide); omega
    rw [hz0]
    clear hz0
    obtain ⟨z, hz⟩ : ∃ z, z = 1 + z0 := ⟨_, rfl⟩
    have hw3 : IntKind.i64.wrap (1 + (z0 : Int)) = (z : Int) := by rw [show (1 : Int) + (z0 : Int) = (z : Int) by omega]; exact IntWalk.i64_in _ (by omega)
    have hw4 : (1 : Int) + (z0 : Int) = (z : Int) := by omega
    have hw5 : wrap64 (z : Int) = (z : Int) := IntWalk.wrap64_in _ ⟨by omega, by omega⟩
    have HZ : Hid (1 ≤ z ∧ z ≤ 64) := Lib.hid (by omega)
    clear hz hz64
    go_wp2_with fail
    refine (cut_ok s z w2 HS0.out.1 (by have := HS0.out; omega) HZ.out.1 (by have := HZ.out; omega)).mono ?_
    rintro r w3 ⟨v3, rfl, ho3, hb3⟩
    have HC1 : Hid (0 < cutN s.size z ∧ cutN s.size z ≤ 600) := Lib.hid ⟨(cutN_lt (k := 0) (by have := HZ.out; omega)).1 (by have := HS0.out; omega), by have := cutN_le s.size z (by have := HZ.out; omega); have := HS0.out; omega⟩
    obtain ⟨ga, ca, rfl, hp3⟩ := pieces_of ho3 HC1.out.1
    have HP1 := Lib.hid hp3
    have HB3 := Lib.hid (HB2.out.trans (hb3.mono HB2.out.size))
    clear ho3 hb3 hp3
    go_wp2_with fail
    refine (cut_ok t z w3 HS0.out.2.1 (by have := HS0.out; omega) HZ.out.1 (by have := HZ.out; omega)).mono ?_
    rintro r w4 ⟨v4, rfl, ho4, hb4⟩
    have HC2 : Hid (0 < cutN t.size z ∧ cutN t.size z ≤ 600) := Lib.hid ⟨(cutN_lt (k := 0) (by have := HZ.out; omega)).1 (by have := HS0.out; omega), by have := cutN_le t.size z (by have := HZ.out; omega); have := HS0.out; omega⟩
    obtain ⟨gb, cb, rfl, hp4⟩ := pieces_of ho4 HC2.out.1
    have HP2 := Lib.hid hp4
    have HP1 := Lib.hid (HP1.out.below hb4)
    have HB4 := Lib.hid (HB3.out.trans (hb4.mono HB3.out.size))
    clear ho4 hb4 hp4
    go_wp2_with fail
    refine (rnew_any w4).mono ?_
    rintro q' w5 ⟨r, F, rfl, hr, hb, hF⟩
    have HR := Lib.hid hr
    have HP1 := Lib.hid (HP1.out.below hb)
    have HP2 := Lib.hid (HP2.out.below hb)
    have HB5 := Lib.hid (HB4.out.trans (hb.mono HB4.out.size))
    have HFW : Hid (∀ k, F k → w.heap.size ≤ k) := Lib.hid (fun k hk => Nat.le_trans HB4.out.size (hF k hk))
    clear hr hb hF
    obtain ⟨na, hna⟩ : ∃ m, m = cutN s.size z := ⟨_, rfl⟩
    obtain ⟨nb, hnb⟩ : ∃ m, m = cutN t.size z := ⟨_, rfl⟩
    rw [← hna] at HC1 HP1
    rw [← hnb] at HC2 HP2
    rw [← hna, ← hnb]
    have HNA := Lib.hid hna
    have HNB := Lib.hid hnb
    have e1 : ((na : Int) == 0) = false := by have := HC1.out.1; simp; omega
    have e2 : ((nb : Int) == 0) = false := by have := HC2.out.1; simp; omega
    have hna6 : na ≤ 600 := HC1.out.2
    have hnb6 : nb ≤ 600 := HC2.out.2
    clear hna hnb
    go_wp2_with fail
    refine (pick_any i na w5 (by have := HC1.out.1; omega) (by omega)).mono ?_
    rintro q' w6 ⟨rfl, rfl⟩
    obtain ⟨ka, hka⟩ : ∃ k : Nat, pickN i na = k := ⟨(pickN i na).toNat, by have := pickN_pos (a := i) (n := (na : Int)) (by have := HC1.out.1; omega); omega⟩
    have hka6 : ka < na := by have := pickN_pos (a := i) (n := (na : Int)) (by have := HC1.out.1; omega); omega
    rw [hka]
    clear hka
    have hka1 : (ka : Int) < (na : Int) := by omega
    have hkz : ka * z < s.size := (cutN_lt (by have := HZ.out; omega)).2 (by rw [← HNA.out]; exact hka6)
    obtain ⟨T1, t1a, t1b, t1c, t1d⟩ := piece_ok s z ka hkz (by have := HS0.out; omega) HZ.out.1 (by have := HZ.out; omega)
    have HW1 := Lib.hid (fun W => cwrite_ok (piece s z ka) T1 W t1d (piece_right s z ka hkz (by have := HS0.out; omega) HZ.out.1 (by have := HZ.out; omega)) t1a)
    have HT1 : Hid (ka * z < s.size ∧ T1.size ≤ 300 ∧ creadF T1.data.toList = (piece s z ka, 0)) := Lib.hid ⟨hkz, t1b, t1c⟩
    obtain ⟨p0, p1, p2, p3⟩ := HP1.out.2 ka hka6
    unfold chkV at HW1
    clear hkz t1a t1b t1c t1d
    go_wp2_with fail
    refine (HW1.out _).mono ?_
    rintro q' w6 ⟨rfl, hb6⟩
    have HR := Lib.hid (HR.out.below hb6)
    have HP2 := Lib.hid (HP2.out.below hb6)
    have HB6 := Lib.hid (HB5.out.trans (hb6.mono HB5.out.size))
    clear hb6 p0 p1 p2 p3 HP1 HB1 HB2 HB3 HB4
    go_wp2_with fail
    refine (pick_any i nb w6 (by have := HC2.out.1; omega) (by omega)).mono ?_
    rintro q' w7 ⟨rfl, rfl⟩
    obtain ⟨kb, hkb⟩ : ∃ k : Nat, pickN i nb = k := ⟨(pickN i nb).toNat, by have := pickN_pos (a := i) (n := (nb : Int)) (by have := HC2.out.1; omega); omega⟩
    have hkb6 : kb < nb := by have := pickN_pos (a := i) (n := (nb : Int)) (by have := HC2.out.1; omega); omega
    rw [hkb]
    clear hkb
    have hkb1 : (kb : Int) < (nb : Int) := by omega
    have hkz : kb * z < t.size := (cutN_lt (by have := HZ.out; omega)).2 (by rw [← HNB.out]; exact hkb6)
    obtain ⟨T2, t1a, t1b, t1c, t1d⟩ := piece_ok t z kb hkz (by have := HS0.out; omega) HZ.out.1 (by have := HZ.out; omega)
    have HW2 := Lib.hid (fun W => cwrite_ok (piece t z kb) T2 W t1d (piece_right t z kb hkz (by have := HS0.out; omega) HZ.out.1 (by have := HZ.out; omega)) t1a)
    have HT2 : Hid (T2.size ≤ 300 ∧ creadF T2.data.toList = (piece t z kb, 0)) := Lib.hid ⟨t1b, t1c⟩
    obtain ⟨p0, p1, p2, p3⟩ := HP2.out.2 kb hkb6
    unfold chkV at HW2
    clear hkz t1a t1b t1c t1d
    go_wp2_with fail
    refine (HW2.out _).mono ?_
    rintro q' w7 ⟨rfl, hb7⟩
    have HR := Lib.hid (HR.out.below hb7)
    have HB7 := Lib.hid (HB6.out.trans (hb7.mono HB6.out.size))
    clear hb7 p0 p1 p2 p3 HP2
    go_wp2_with fail
    refine (tookAt r F _ s T1 _ z ka w7 HR.out (partO_new s) HT1.out.1 HT1.out.2.1 HT1.out.2.2).mono ?_
    rintro q' w8 ⟨F1, rfl, hr, hb, hF⟩
    have HR := Lib.hid hr
    have HB8 := Lib.hid (But.on HB7.out hb HB7.out.size HFW.out)
    have HFW : Hid (∀ k, F1 k → w.heap.size ≤ k) := Lib.hid (fun k hk => by
      rcases hF k hk with h | h
      · exact HFW.out k h
      · have := HB7.out.size; omega)
    have HPT := Lib.hid ((partO_new s).took HT1.out.1)
    clear hr hb hF
    obtain ⟨X, hX⟩ : ∃ X, X = tookR rNew s z ka := ⟨_, rfl⟩
    have HTE : Hid (takeSE X T2.data.toList = 6 ∧ takeS X T2.data.toList = X) := Lib.hid (by
      have e : takeE X (piece t z kb) = 6 := by
        unfold takeE
        rw [if_pos]
        refine ⟨by rw [hX, HPT.out.tot]; have := HS0.out; omega, .inl ?_⟩
        rw [hX, HPT.out.nm]
        exact HAB.out
      unfold takeSE takeS
      rw [HT2.out.2]
      simp only
      rw [e]
      exact ⟨rfl, rfl⟩)
    rw [← hX] at HR
    clear hX HPT
    go_wp2_with fail
    refine (offerAt r F1 X w8 HR.out).mono ?_
    rintro q' w9 ⟨rfl, rfl⟩
    obtain ⟨of, hof⟩ : ∃ o, o = offR X := ⟨_, rfl⟩
    rw [← hof]
    have HOF := Lib.hid hof
    clear hof
    go_wp2_with fail
    refine (takeAt r F1 X T2 w9 HR.out (by have := HT2.out.1; omega)).mono ?_
    rintro q' w10 ⟨F2, rfl, hr, hb, hF⟩
    rw [HTE.out.2] at hr
    have HE6 : Hid (errV (takeSE X T2.data.toList) = .iface 29 (.int .i64 6)) := Lib.hid (by rw [HTE.out.1]; rfl)
    rw [HE6.out]
    have HR := Lib.hid hr
    have HB10 := Lib.hid (But.on HB8.out hb HB8.out.size HFW.out)
    clear hr hb hF
    go_wp2_with fail
    refine (tell_err _ 6 w10 (HG.out.below HB10.out) (.inl rfl)).mono ?_
    rintro q' w11 ⟨rfl, hb11⟩
    have HR := Lib.hid (HR.out.below hb11)
    have HB11 := Lib.hid (HB10.out.trans (hb11.mono HB10.out.size))
    clear hb11
    go_wp2_with fail
    refine (offerAt r F2 X w11 HR.out).mono ?_
    rintro q' w12 ⟨rfl, rfl⟩
    rw [← HOF.out]
    go_wp2_with fail
    go_ret
    exact ⟨rfl, HB11.out⟩
end Go.Proofs.YtjnbnkaocoamlaaDoor
