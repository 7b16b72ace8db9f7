/-
  The walk of 'packtrainkeep.MatchCut'.
-/
import Derived.Test.YtoimmdkfgepdeaaMatchFound
import Derived.Test.YtoimmdkfgepdeaaPick
import Derived.Test.YtoimmdkfgepdeaaTokArg
import Derived.Test.YtoimmdkfgepdeaaShelf
namespace Go.Proofs.Ytoimmdkfgepdeaa
open Go.RowKit

theorem IsToks.take {w : World} {a : Option Addr} {n c : Nat} {l : List Tok} (h : IsToks w (.slice a n c) l) (k : Nat) (hk : k ≤ l.length) : IsToks w (.slice a k c) (l.take k) := by
  have hl : (l.take k).length = k := by rw [List.length_take]; omega
  by_cases h0 : k = 0
  · subst h0; exact .inl ⟨_, _, rfl, rfl⟩
  · rcases h with ⟨a', c', h1, rfl⟩ | ⟨b, off, c', h1, h0', h2, h3⟩
    · simp at hk; omega
    · simp only [Value.slice.injEq] at h1
      obtain ⟨rfl, _, rfl⟩ := h1
      refine .inr ⟨b, off, c, by rw [hl], by rw [hl]; omega, h2, fun j u hj => h3 j u ?_⟩
      have e : toksC l = toksC (l.take k) ++ toksC (l.drop k) := by rw [← toksC_app, List.take_append_drop]
      rw [e, List.getElem?_append_left (List.getElem?_eq_some_iff.1 hj).1]
      exact hj
theorem text_prefix (l : List Tok) (k : Nat) (h : (rightF l 0 0).1 = 0) : Lib.hasPrefix (textF l) (textF (l.take k)) = true := by
  have h2 := rightF_take h k
  unfold textF
  rw [if_pos h, if_pos h2]
  have e : textL [] l = textL (textL [] (l.take k)) (l.drop k) := by rw [← textL_cat, List.take_append_drop]
  obtain ⟨c, hc⟩ := textL_app (l.drop k) (textL [] (l.take k))
  rw [e, hc]
  simp [Lib.hasPrefix]

set_option maxRecDepth 100000 in
set_option maxHeartbeats 2000000 in
theorem matchCut_walk (w : World) (a : Option Addr) (len cap : Nat) (l : List Tok) (hv : IsToks w (.slice a len cap) l) (hn : l.length = len) (hc : len ≤ cap) (hm : cap ≤ maxLen) (hz : ∀ t ∈ l, t.own.size ≤ 140737488351232)
    (n0 : Int) (_ : -9223372036854775808 ≤ n0) (_ : n0 ≤ 9223372036854775807) :
    Calls Try.prog 8 #[.slice a len cap, .int .i64 n0] w fun e w' => e = .returned (.bool true) ∧ Below w.heap.size w w' := by
  unfold maxLen at hm
  have HV := Lib.hid hv
  have HZ := Lib.hid hz
  have HN := Lib.hid hn
  have HLL : Hid (l.length ≤ 9223372036854775807) := by have h : l.length ≤ 9223372036854775807 := by omega
                                                        exact h
  clear hv hz
  by_cases h6 : 60 < len
  · have d1 : decide (60 < (len : Int)) = true := by simp; omega
    clear hn
    go_enter Try.func8, Try.ntmps8
    go_wp2_with fail
    refine (found_any _).mono ?_
    rintro e w1 ⟨rfl, hb1⟩
    have HB1 := Lib.hid hb1
    clear hb1
    go_wp2
    go_ret
    exact ⟨rfl, HB1.out⟩
  · have d1 : decide (60 < (len : Int)) = false := by simp; omega
    by_cases hr : (rightF l 0 0).1 = 0
    · have HR := Lib.hid hr
      have hp := pickN_pos (a := n0) (show 0 < (len : Int) + 1 by omega)
      obtain ⟨k, hk⟩ := Int.eq_ofNat_of_zero_le hp.1
      have hkl : k ≤ len := by have := hp.2; omega
      have HK := Lib.hid hk
      have HTK : Hid (∀ t ∈ l.take k, t.own.size ≤ 140737488351232) := by
        have h : ∀ t ∈ l.take k, t.own.size ≤ 140737488351232 := fun t ht => HZ.out t (List.mem_of_mem_take ht)
        exact h
      have HTL : Hid ((l.take k).length ≤ 9223372036854775807) := by
        have h : (l.take k).length ≤ 9223372036854775807 := by rw [List.length_take]; omega
        exact h
      have HPF := Lib.hid (text_prefix l k hr)
      have HR2 := Lib.hid (rightF_any (rightF_take hr k))
      have HR1 := Lib.hid (rightF_any hr)
      have hkc : (k : Int) ≤ (cap : Int) := by omega
      have hk0 : (0 : Int) ≤ (k : Int) := by omega
      clear hr hp hk hn
      go_enter Try.func8, Try.ntmps8
      go_wp2_with fail
      refine (found_any _).mono ?_
      rintro e w1 ⟨rfl, hb1⟩
      have HB1 := Lib.hid hb1
      have HV1 := Lib.hid (HV.out.below hb1)
      clear hb1
      go_wp2_with fail
      refine (right_any _ l _ HV1.out HLL.out HZ.out).mono ?_
      rintro e w2 ⟨err, rfl, hat, hb2⟩
      rw [HR1.out] at hat
      obtain rfl : err = .nilIface := by
        rcases hat with ⟨_, h⟩ | ⟨h, _⟩
        · exact h
        · exact absurd rfl h
      have HV2 := Lib.hid (HV1.out.below hb2)
      have HB2 : Hid (Below w.heap.size w w2) := HB1.out.trans (hb2.mono HB1.out.size)
      clear hat hb2
      go_wp2_with fail
      refine (pick_any n0 (len + 1) _ (by omega) (by omega)).mono ?_
      rintro e w' ⟨rfl, rfl⟩
      rw [HK.out]
      have HK2 : Hid (k ≤ l.length) := by have h : k ≤ l.length := by have := HN.out; omega
                                          exact h
      go_wp2_with fail
      refine (text_any _ (l.take k) _ (HV2.out.take k HK2.out) HTL.out HTK.out).mono ?_
      rintro e w3 ⟨err1, rfl, hat, hb3⟩
      rw [HR2.out] at hat
      obtain rfl : err1 = .nilIface := by
        rcases hat with ⟨_, h⟩ | ⟨h, _⟩
        · exact h
        · exact absurd rfl h
      have HV3 := Lib.hid (HV2.out.below hb3)
      have HB3 : Hid (Below w.heap.size w w3) := HB2.out.trans (hb3.mono HB2.out.size)
      clear hat hb3
      go_wp2_with fail
      refine (text_any _ l _ HV3.out HLL.out HZ.out).mono ?_
      rintro e w4 ⟨err2, rfl, hat, hb4⟩
      rw [HR1.out] at hat
      obtain rfl : err2 = .nilIface := by
        rcases hat with ⟨_, h⟩ | ⟨h, _⟩
        · exact h
        · exact absurd rfl h
      have HB4 : Hid (Below w.heap.size w w4) := HB3.out.trans (hb4.mono HB3.out.size)
      clear hat hb4
      go_wp2_with fail
      refine (Try.strings_HasPrefix _ _ _).mono ?_
      rintro e w5 ⟨rfl, hw5⟩
      subst hw5
      rw [bs_data, bs_data, HPF.out]
      go_wp2
      go_ret
      exact ⟨rfl, HB4.out⟩
    · have hne := hr
      have HR := Lib.hid hr
      clear hr hn hne
      go_enter Try.func8, Try.ntmps8
      go_wp2_with fail
      refine (found_any _).mono ?_
      rintro e w1 ⟨rfl, hb1⟩
      have HB1 := Lib.hid hb1
      have HV1 := Lib.hid (HV.out.below hb1)
      clear hb1
      go_wp2_with fail
      refine (right_any _ l _ HV1.out HLL.out HZ.out).mono ?_
      rintro e w2 ⟨err, rfl, hat, hb2⟩
      obtain ⟨b, rfl, _⟩ : ∃ b, err = .iface 51 (.pointer (some ⟨b, 0, none⟩)) ∧ True := by
        rcases hat with ⟨h, _⟩ | ⟨_, b, h, _⟩
        · exact absurd (by rw [h]) HR.out
        · exact ⟨b, h, trivial⟩
      have HB2 : Hid (Below w.heap.size w w2) := HB1.out.trans (hb2.mono HB1.out.size)
      clear hat hb2
      go_wp2
      go_ret
      exact ⟨rfl, HB2.out⟩
end Go.Proofs.Ytoimmdkfgepdeaa
