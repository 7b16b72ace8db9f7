/-
  The contract of match.Find.
-/
import Derived.Test.YtjhmlmcibpjagaaDoorMatchSame
namespace Go.Proofs.YtjhmlmcibpjagaaDoor
open Go.RowKit

/-- What Find answers, as a value. -/
def findV (r : Nat × Nat) : Value := .tuple #[.int .i64 r.1, .int .i64 r.2]
theorem find_neg (l : List UInt8) (a : Int) (h : a < 0 ∨ (l.length : Int) ≤ a) : findV (if 0 ≤ a then find l a.toNat else (0, 0)) = .tuple #[.int .i64 0, .int .i64 0] := by
  by_cases h0 : 0 ≤ a
  · rw [if_pos h0, find_out (by omega)]; rfl
  · rw [if_neg h0]; rfl

set_option maxRecDepth 100000 in
set_option maxHeartbeats 1000000 in
theorem find_nat (s : ByteArray) (a : Nat) (w : World) (hs : s.size ≤ maxLen) (ha : a < s.size) :
    Calls Tryd.prog 48 #[.string s, .int .i64 a] w fun e w' => e = .returned (findV (find s.data.toList a)) ∧ ∃ q, w' = w.drewN q := by
  have HS := Lib.hid hs
  unfold maxLen at hs
  obtain ⟨m, hm⟩ : ∃ m, m = min 67 (s.size - a) := ⟨_, rfl⟩
  obtain ⟨t, ht⟩ : ∃ t, t = min 1024 a := ⟨_, rfl⟩
  have m1 : (if (s.size : Int) - (a : Int) < 67 then (s.size : Int) - (a : Int) else 67) = (m : Int) := by split <;> omega
  have t1 : (if (a : Int) < 1024 then (a : Int) else 1024) = (t : Int) := by split <;> omega
  have HF : Hid (find s.data.toList a = best s.data.toList a m t) := by
    have hl : s.data.toList.length = s.size := by simp
    have h : find s.data.toList a = best s.data.toList a m t := by rw [find_in (by omega), hl, hm, ht]
    exact h
  have hm0 : 0 < m := by omega
  have hma : a + m ≤ s.size := by omega
  have hta : t ≤ a := by omega
  have c1 : decide ((a : Int) < 0) = false := by simp
  have c2 : decide (s.size ≤ a) = false := by simp; omega
  clear hm ht
  go_enter Tryd.func48, Tryd.ntmps48
  go_wp2
  clear m1 t1 c1 c2
  go_loopw [4, 5, 24] (fun b n i wr => ∃ i' b' n' q : Nat, i' ≤ t ∧ i = .int .i64 i' ∧ b = .int .i64 b' ∧ n = .int .i64 n' ∧ n' < m ∧ bestC s.data.toList a m 1 i' b' n' ∧ wr = w.drewN q) (fun _ _ i _ => t - (intOf i).toNat)
  case atStart => exact ⟨0, 0, 0, 0, by omega, rfl, rfl, rfl, hm0, .inl ⟨rfl, rfl, fun k h1 h2 => by omega⟩, rfl⟩
  case round =>
    obtain ⟨i, b, n, q, hi, rfl, rfl, rfl, hn, hC, rfl⟩ := hrel
    have HC := Lib.hid hC
    clear hC
    by_cases hlt : i < t
    · obtain ⟨x, hx⟩ : ∃ x, sm s.data.toList a (i + 1) m = x := ⟨_, rfl⟩
      have hxm := sm_le s.data.toList a (i + 1) m
      rw [hx] at hxm
      by_cases hb : 4 ≤ x ∧ n < x
      · have hN := bestC_far HC.out (by omega) (by omega) (by omega)
        rw [hx] at hN
        have HN := Lib.hid hN
        have HX := Lib.hid hx
        obtain ⟨b4, bn⟩ := hb
        clear hN hx
        by_cases hf : x = m
        · have hbe : ((x : Int) == (m : Int)) = true := by simp [hf]
          have HE : Hid (find s.data.toList a = (i + 1, x)) := by
            have h : find s.data.toList a = (i + 1, x) := by rw [HF.out]; exact best_eq (bestC_full HN.out hf hm0 (by omega))
            exact h
          clear hf
          go_wp2_with fail
          refine (same_at s a (i + 1) m _ _ HS.out (by omega) (by omega) hma).mono ?_
          rintro e w1 ⟨rfl, q1, rfl⟩
          rw [HX.out]
          go_wp2
          go_ret2
          exact ⟨by rw [HE.out]; rfl, by first | exact ⟨_, rfl⟩ | exact drewq _ _ _⟩
        · have hbe : ((x : Int) == (m : Int)) = false := by simp; omega
          go_wp2_with fail
          refine (same_at s a (i + 1) m _ _ HS.out (by omega) (by omega) hma).mono ?_
          rintro e w1 ⟨rfl, q1, rfl⟩
          rw [HX.out]
          go_wp2
          go_roundw
          case rel => exact ⟨i + 1, i + 1, x, q + q1, by omega, by go_num, by go_num, rfl, by omega, HN.out, by simp⟩
          case measure => simp [intOf]; omega
      · have hN := bestC_farnot HC.out (by rw [hx]; exact hb)
        have HN := Lib.hid hN
        have HX := Lib.hid hx
        have hbe : ((n : Int) == (m : Int)) = false := by simp; omega
        clear hN hx
        by_cases h4 : 4 ≤ x
        · have h5 : ¬ n < x := fun h => hb ⟨h4, h⟩
          clear hb
          go_wp2_with fail
          refine (same_at s a (i + 1) m _ _ HS.out (by omega) (by omega) hma).mono ?_
          rintro e w1 ⟨rfl, q1, rfl⟩
          rw [HX.out]
          go_wp2
          go_roundw
          case rel => exact ⟨i + 1, b, n, q + q1, by omega, by go_num, rfl, rfl, by omega, HN.out, by simp⟩
          case measure => simp [intOf]; omega
        · clear hb
          go_wp2_with fail
          refine (same_at s a (i + 1) m _ _ HS.out (by omega) (by omega) hma).mono ?_
          rintro e w1 ⟨rfl, q1, rfl⟩
          rw [HX.out]
          go_wp2
          go_roundw
          case rel => exact ⟨i + 1, b, n, q + q1, by omega, by go_num, rfl, rfl, by omega, HN.out, by simp⟩
          case measure => simp [intOf]; omega
    · have HE : Hid (find s.data.toList a = (b, n)) := by
        have h : find s.data.toList a = (b, n) := by
          rw [HF.out]
          have e : i = t := by omega
          rw [← e]; exact best_eq HC.out
        exact h
      go_wp2
      go_ret2
      exact ⟨by rw [HE.out]; rfl, _, rfl⟩

/-- At whatever place. -/
theorem find_any (s : ByteArray) (a : Int) (w : World) (hs : s.size ≤ maxLen) :
    Calls Tryd.prog 48 #[.string s, .int .i64 a] w fun e w' => e = .returned (findV (if 0 ≤ a then find s.data.toList a.toNat else (0, 0))) ∧ ∃ q, w' = w.drewN q := by
  have hl : s.data.toList.length = s.size := by simp
  by_cases h : 0 ≤ a ∧ a < s.size
  · obtain ⟨k, rfl⟩ := Int.eq_ofNat_of_zero_le h.1
    rw [if_pos h.1]
    exact find_nat s k w hs (by omega)
  · rw [find_neg _ _ (by omega)]
    unfold maxLen at hs
    by_cases h0 : a < 0
    · go_enter Tryd.func48, Tryd.ntmps48
      go_wp2
      go_ret2
      exact ⟨rfl, 0, rfl⟩
    · have h1 : (s.size : Int) ≤ a := by omega
      go_enter Tryd.func48, Tryd.ntmps48
      go_wp2
      go_ret2
      exact ⟨rfl, 0, rfl⟩
end Go.Proofs.YtjhmlmcibpjagaaDoor
