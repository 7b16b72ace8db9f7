/-
  The walk of 'packtrainkeep.MatchText'.
-/
import Derived.Test.YtoimmdkfgepdeaaMatchFound
import Derived.Test.YtoimmdkfgepdeaaMatchTx
namespace Go.Proofs.Ytoimmdkfgepdeaa
open Go.RowKit

set_option maxRecDepth 100000 in
set_option maxHeartbeats 4000000 in
theorem matchText_walk (s : ByteArray) (hs : s.size ≤ maxLen) (w : World) :
    Calls Try.prog 7 #[.string s] w fun e w' => e = .returned (.bool true) ∧ Below w.heap.size w w' := by
  unfold maxLen at hs
  by_cases h1 : 1000 < s.size
  · go_enter Try.func7, Try.ntmps7
    go_wp2_with fail
    refine (found_any _).mono ?_
    rintro e w1 ⟨rfl, hb1⟩
    have HB1 := Lib.hid hb1
    clear hb1
    go_wp2
    go_ret
    exact ⟨rfl, HB1.out⟩
  · have hl : s.data.toList.length = s.size := (size_data s).symm
    obtain ⟨l, hlk⟩ : ∃ l, toks s.data.toList = l := ⟨_, rfl⟩
    obtain ⟨ht1, ht2⟩ := toks_text s.data.toList (by omega)
    have hadj := tks_adj s.data.toList s.data.toList.length 0 0
    have hown : ∀ t ∈ l, t.own.size ≤ s.size := by
      rw [← hlk, ← hl]; exact tks_own _ _ _ _
    have hnil := toks_nil s.data.toList (by omega)
    have hll : l.length ≤ 1000000 := by
      have := tks_len s.data.toList s.data.toList.length 0 0
      rw [← hlk]
      unfold toks
      omega
    change adj (toks s.data.toList) at hadj
    rw [hlk] at ht1 ht2 hadj hnil
    have HLK := Lib.hid hlk
    have HT1 := Lib.hid ht1
    have HADJ := Lib.hid hadj
    have HOWN : Hid (∀ t ∈ l, t.own.size ≤ 140737488351232) := by
      have h : ∀ t ∈ l, t.own.size ≤ 140737488351232 := fun t h => by have := hown t h; omega
      exact h
    have HTX : Hid ((⟨(textF l).toArray⟩ : ByteArray) = s) := by
      have h : (⟨(textF l).toArray⟩ : ByteArray) = s := by
        unfold textF
        rw [ht1, if_pos rfl, ht2, bs_of]
      exact h
    have NB : Hid (s.size ≤ 400000) := by have h : s.size ≤ 400000 := by omega
                                          exact h
    have HLL : Hid (l.length ≤ 9223372036854775807) := by have h : l.length ≤ 9223372036854775807 := by omega
                                                          exact h
    obtain ⟨n, hn⟩ : ∃ n, n = l.length := ⟨_, rfl⟩
    have hz : (n = 0 ∧ s.size = 0) ∨ (n ≠ 0 ∧ s.size ≠ 0) := by
      by_cases h : l = []
      · have h2 := hnil.1 h
        rw [h2] at hl
        exact .inl ⟨by rw [hn, h]; rfl, by rw [← hl]; rfl⟩
      · refine .inr ⟨fun e => h (List.length_eq_zero_iff.1 (by omega)), fun e => h (hnil.2 (List.length_eq_zero_iff.1 (by omega)))⟩
    have HZ := Lib.hid hz
    have HN := Lib.hid hn
    have hn2 : n ≤ 1000000 := by omega
    clear hlk ht1 ht2 hadj hown hnil hll hl hz
    go_enter Try.func7, Try.ntmps7
    go_wp2_with fail
    refine (found_any _).mono ?_
    rintro e w1 ⟨rfl, hb1⟩
    have HB1 := Lib.hid hb1
    clear hb1
    go_wp2_with fail
    refine (tokens_any s _ NB.out).mono ?_
    rintro e w2 ⟨v, rfl, ho, hb2⟩
    rw [HLK.out] at ho
    have HI2 := Lib.hid ho.is
    have HB2 : Hid (Below w.heap.size w w2) := HB1.out.trans (hb2.mono HB1.out.size)
    clear ho hb2
    go_wp2_with fail
    refine (text_any v l _ HI2.out HLL.out HOWN.out).mono ?_
    rintro e w3 ⟨err, rfl, hat, hb3⟩
    rw [HT1.out] at hat
    obtain rfl : err = .nilIface := by
      rcases hat with ⟨_, h⟩ | ⟨h, _⟩
      · exact h
      · exact absurd rfl h
    rw [HTX.out]
    have HI3 := Lib.hid (HI2.out.below hb3)
    have HB3 : Hid (Below w.heap.size w w3) := HB2.out.trans (hb3.mono HB2.out.size)
    obtain ⟨a, c, hv, f⟩ := HI3.out.form
    subst hv
    have F := Lib.hid f
    rw [← hn] at HI3 HI2 ⊢
    clear hat hb3 f hn
    go_wp2
    go_loop [6] (fun i => ∃ k : Nat, 1 ≤ k ∧ i = .int .i64 k) (fun i => n - (intOf i).toNat)
    case atStart => exact ⟨1, by omega, rfl⟩
    case round =>
      obtain ⟨k, hk, rfl⟩ := hrel
      by_cases hlt : k < n
      · obtain ⟨t, ht⟩ : ∃ t, l[k]? = some t := ⟨l[k]'(by have := HN.out; omega), List.getElem?_eq_getElem _⟩
        obtain ⟨u, hu⟩ : ∃ u, l[k - 1]? = some u := ⟨l[k - 1]'(by have := HN.out; omega), List.getElem?_eq_getElem _⟩
        obtain ⟨b1, o1, rfl, _, p0, _, _⟩ := F.out k t ht
        obtain ⟨b2, o2, he, _, q0, _, _⟩ := F.out (k - 1) u hu
        obtain ⟨rfl, rfl⟩ : b1 = b2 ∧ o1 = o2 := by injection he with he; injection he with h1 h2; exact ⟨h1, h2⟩
        have hadj := adj_at HADJ.out (k - 1) u t hu (by rw [show k - 1 + 1 = k by omega]; exact ht)
        obtain ⟨k, rfl⟩ : ∃ k', k = k' + 1 := ⟨k - 1, by omega⟩
        obtain ⟨town, _, _⟩ := t
        obtain ⟨uown, _, _⟩ := u
        simp only [Nat.add_sub_cancel] at p0 q0 hadj
        clear ht hu he
        by_cases hz1 : town.size = 0
        · have d1 := empty_b hz1
          have d2 : (!town.toList.isEmpty) = false := by rw [d1]; rfl
          clear hz1 hadj
          go_wp2
          go_round
          case rel => exact ⟨k + 2, by omega, by go_num⟩
          case measure => simp [intOf]; omega
        · have hz2 : uown.size = 0 := by omega
          have d1 := full_b hz1
          have d2 : (!town.toList.isEmpty) = true := by rw [d1]; rfl
          have d3 := empty_b hz2
          have d4 : (!uown.toList.isEmpty) = false := by rw [d3]; rfl
          clear hz1 hz2 hadj
          go_wp2
          go_round
          case rel => exact ⟨k + 2, by omega, by go_num⟩
          case measure => simp [intOf]; omega
      · rcases HZ.out with ⟨hn0, hs0⟩ | ⟨hn0, hs0⟩
        · have d1 := empty_b hs0
          have d2 : ((n : Int) == 0) = true := by simp; omega
          clear hs0 hn0
          go_wp2_with fail
          refine (right_any _ l _ HI3.out HLL.out HOWN.out).mono ?_
          rintro e w4 ⟨err, rfl, hat, hb4⟩
          rw [HT1.out] at hat
          obtain rfl : err = .nilIface := by
            rcases hat with ⟨_, h⟩ | ⟨h, _⟩
            · exact h
            · exact absurd rfl h
          have HB4 : Hid (Below w.heap.size w w4) := HB3.out.trans (hb4.mono HB3.out.size)
          clear hat hb4
          go_wp2
          go_ret
          exact ⟨rfl, HB4.out⟩
        · have d1 := full_b hs0
          have d2 : ((n : Int) == 0) = false := by simp; omega
          clear hs0 hn0
          go_wp2_with fail
          refine (right_any _ l _ HI3.out HLL.out HOWN.out).mono ?_
          rintro e w4 ⟨err, rfl, hat, hb4⟩
          rw [HT1.out] at hat
          obtain rfl : err = .nilIface := by
            rcases hat with ⟨_, h⟩ | ⟨h, _⟩
            · exact h
            · exact absurd rfl h
          have HB4 : Hid (Below w.heap.size w w4) := HB3.out.trans (hb4.mono HB3.out.size)
          clear hat hb4
          go_wp2
          go_ret
          exact ⟨rfl, HB4.out⟩
end Go.Proofs.Ytoimmdkfgepdeaa
