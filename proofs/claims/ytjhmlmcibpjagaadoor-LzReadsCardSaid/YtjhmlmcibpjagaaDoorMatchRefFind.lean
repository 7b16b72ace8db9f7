/-
  The contract of the document's Find.
-/
import Derived.Test.YtjhmlmcibpjagaaDoorMatchFind
import Derived.Test.YtjhmlmcibpjagaaDoorWithin
import Derived.Below
namespace Go.Proofs.YtjhmlmcibpjagaaDoor
open Go.RowKit

set_option maxRecDepth 100000 in
set_option maxHeartbeats 2000000 in
theorem rfind_nat (s : ByteArray) (a : Nat) (w : World) (hs : s.size ≤ maxLen) (ha : a < s.size) :
    Calls Tryd.prog 60 #[.string s, .int .i64 a] w fun e w' => e = .returned (findV (find s.data.toList a)) ∧ ∃ q, w' = w.drewN q := by
  unfold maxLen at hs
  obtain ⟨m, hm⟩ : ∃ m, m = min 67 (s.size - a) := ⟨_, rfl⟩
  obtain ⟨t, ht⟩ : ∃ t, t = min 1024 a := ⟨_, rfl⟩
  have t1 : (if 1024 < (a : Int) then 1024 else (a : Int)) = (t : Int) := by split <;> omega
  have HF : Hid (find s.data.toList a = best s.data.toList a m t) := by
    have hl : s.data.toList.length = s.size := by simp
    have h : find s.data.toList a = best s.data.toList a m t := by rw [find_in (by omega), hl, hm, ht]
    exact h
  have hm0 : 0 < m := by omega
  have hta : t ≤ a := by omega
  have HM := Lib.hid hm
  clear hm ht
  go_enter Tryd.func60, Tryd.ntmps60
  go_wp2_with fail
  refine (within_yes a 0 _ _ (by omega) (by omega)).mono ?_
  rintro e w1 ⟨rfl, rfl⟩
  go_wp2
  clear t1
  go_loopw [6, 7, 8] (fun n b i wr => ∃ i' b' n' q : Nat, i' ≤ t ∧ i = .int .i64 i' ∧ b = .int .i64 b' ∧ n = .int .i64 n' ∧ bestC s.data.toList a m (i' + 1) t b' n' ∧ wr = w.drewN q) (fun _ _ i _ => (intOf i).toNat)
  case atStart => exact ⟨t, 0, 0, 0, by omega, rfl, rfl, rfl, .inl ⟨rfl, rfl, fun k h1 h2 => by omega⟩, rfl⟩
  case round =>
    obtain ⟨i, b, n, q, hi, rfl, rfl, rfl, hC, rfl⟩ := hrel
    have HC := Lib.hid hC
    clear hC
    by_cases hlt : 1 ≤ i
    · go_wp2
      obtain ⟨wo, hwo⟩ : ∃ wo : World, wo = w.drewN q := ⟨_, rfl⟩
      rw [← hwo]
      have HWO := Lib.hid hwo
      clear hwo
      go_loopw [9] (fun k wr => ∃ k' q' : Nat, k' ≤ m ∧ k = .int .i64 k' ∧ wr = wo.drewN q' ∧ ∀ j, j < k' → s.data.toList.getD (a + j) 0 = s.data.toList.getD (a + j - i) 0) (fun k _ => m - (intOf k).toNat)
      case atStart => exact ⟨0, 0, by omega, rfl, rfl, fun j h => by omega⟩
      case round =>
        obtain ⟨k, q', hk, rfl, rfl, hall⟩ := hrel
        have HA := Lib.hid hall
        clear hall
        by_cases hlt2 : k < m
        · obtain ⟨p, hp⟩ : ∃ p, p = a + k := ⟨_, rfl⟩
          obtain ⟨r, hr⟩ : ∃ r, r = a + k - i := ⟨_, rfl⟩
          have hpl : p < s.size := by have := HM.out; omega
          have hrl : r < s.size := by omega
          have h1 : IntKind.i64.wrap ((a : Int) + (k : Int)) = (p : Int) := by rw [IntWalk.i64_in _ (by omega)]; omega
          have h2 : IntKind.i64.wrap ((p : Int) - (i : Int)) = (r : Int) := by rw [IntWalk.i64_in _ (by omega)]; omega
          have k67 : k < 67 := by have := HM.out; omega
          have d1 : decide ((k : Int) < 67) = true := by simp; omega
          have d2 : decide (p < s.size) = true := by simp; omega
          have HP := Lib.hid hp
          have HR := Lib.hid hr
          clear hp hr
          by_cases heq : s[p] = s[r]
          · have hq : ((s[p].toNat : Int) == (s[r].toNat : Int)) = true := by rw [u8_eq]; simp [heq]
            have HN : Hid (∀ j, j < k + 1 → s.data.toList.getD (a + j) 0 = s.data.toList.getD (a + j - i) 0) := by
              intro j hj
              by_cases e : j = k
              · rw [e, ← HR.out, ← HP.out, getB _ _ hpl, getB _ _ hrl]; exact heq
              · exact HA.out j (by omega)
            clear heq
            go_wp2
            go_quiet (fail)
            clear h1 h2 d1 d2
            go_wp2
            go_roundw
            case rel => exact ⟨k + 1, _, by omega, by go_num, rfl, HN.out⟩
            case measure => simp [intOf]; omega
          · have hq : ((s[p].toNat : Int) == (s[r].toNat : Int)) = false := by rw [u8_eq]; simp [heq]
            have HK : Hid (sm s.data.toList a i m = k) := by
              refine sm_eq ⟨by omega, HA.out, fun _ => ?_⟩
              rw [← HR.out, ← HP.out, getB _ _ hpl, getB _ _ hrl]; exact heq
            clear heq
            have hC := HC.out
            by_cases c4 : 4 ≤ k
            · by_cases cn : n ≤ k
              · have hN := bestC_near hC hi (by rw [HK.out]; exact c4) (by rw [HK.out]; exact cn)
                rw [HK.out] at hN
                have HN := Lib.hid hN
                clear hN hC
                go_wp2
                go_quiet (fail)
                go_wp2
                go_roundw
                case rel => exact ⟨i - 1, i, k, _, by omega, by go_num, rfl, rfl, by rw [show i - 1 + 1 = i by omega]; exact HN.out, by rw [HWO.out]; simp; rfl⟩
                case measure => simp [intOf]; omega
              · have hN := bestC_nearnot hC (by rw [HK.out]; exact fun h => cn h.1)
                have HN := Lib.hid hN
                clear hN hC
                go_wp2
                go_quiet (fail)
                go_wp2
                go_roundw
                case rel => exact ⟨i - 1, b, n, _, by omega, by go_num, rfl, rfl, by rw [show i - 1 + 1 = i by omega]; exact HN.out, by rw [HWO.out]; simp; rfl⟩
                case measure => simp [intOf]; omega
            · have hN := bestC_nearnot hC (by rw [HK.out]; exact fun h => c4 h.2)
              have HN := Lib.hid hN
              clear hN hC
              by_cases cn : n ≤ k
              · go_wp2
                go_quiet (fail)
                go_wp2
                go_roundw
                case rel => exact ⟨i - 1, b, n, _, by omega, by go_num, rfl, rfl, by rw [show i - 1 + 1 = i by omega]; exact HN.out, by rw [HWO.out]; simp; rfl⟩
                case measure => simp [intOf]; omega
              · go_wp2
                go_quiet (fail)
                go_wp2
                go_roundw
                case rel => exact ⟨i - 1, b, n, _, by omega, by go_num, rfl, rfl, by rw [show i - 1 + 1 = i by omega]; exact HN.out, by rw [HWO.out]; simp; rfl⟩
                case measure => simp [intOf]; omega
        · have e : k = m := by omega
          have HK : Hid (sm s.data.toList a i m = k) := by
            refine sm_eq ⟨by omega, HA.out, fun h => absurd h hlt2⟩
          by_cases k67 : k < 67
          · obtain ⟨p, hp⟩ : ∃ p, p = a + k := ⟨_, rfl⟩
            have hps : p ≤ s.size := by have := HM.out; omega
            have h1 : IntKind.i64.wrap ((a : Int) + (k : Int)) = (p : Int) := by rw [IntWalk.i64_in _ (by omega)]; omega
            have d1 : decide ((k : Int) < 67) = true := by simp; omega
            have d2 : decide (p < s.size) = false := by have := HM.out; simp; omega
            have HP := Lib.hid hp
            clear hp e
            have hC := HC.out
            by_cases c4 : 4 ≤ k
            · by_cases cn : n ≤ k
              · have hN := bestC_near hC hi (by rw [HK.out]; exact c4) (by rw [HK.out]; exact cn)
                rw [HK.out] at hN
                have HN := Lib.hid hN
                clear hN hC
                go_wp2
                go_quiet (fail)
                go_wp2
                go_roundw
                case rel => exact ⟨i - 1, i, k, _, by omega, by go_num, rfl, rfl, by rw [show i - 1 + 1 = i by omega]; exact HN.out, by rw [HWO.out]; simp; rfl⟩
                case measure => simp [intOf]; omega
              · have hN := bestC_nearnot hC (by rw [HK.out]; exact fun h => cn h.1)
                have HN := Lib.hid hN
                clear hN hC
                go_wp2
                go_quiet (fail)
                go_wp2
                go_roundw
                case rel => exact ⟨i - 1, b, n, _, by omega, by go_num, rfl, rfl, by rw [show i - 1 + 1 = i by omega]; exact HN.out, by rw [HWO.out]; simp; rfl⟩
                case measure => simp [intOf]; omega
            · have hN := bestC_nearnot hC (by rw [HK.out]; exact fun h => c4 h.2)
              have HN := Lib.hid hN
              clear hN hC
              by_cases cn : n ≤ k
              · go_wp2
                go_quiet (fail)
                go_wp2
                go_roundw
                case rel => exact ⟨i - 1, b, n, _, by omega, by go_num, rfl, rfl, by rw [show i - 1 + 1 = i by omega]; exact HN.out, by rw [HWO.out]; simp; rfl⟩
                case measure => simp [intOf]; omega
              · go_wp2
                go_quiet (fail)
                go_wp2
                go_roundw
                case rel => exact ⟨i - 1, b, n, _, by omega, by go_num, rfl, rfl, by rw [show i - 1 + 1 = i by omega]; exact HN.out, by rw [HWO.out]; simp; rfl⟩
                case measure => simp [intOf]; omega
          · have d1 : decide ((k : Int) < 67) = false := by simp; omega
            clear e
            have hC := HC.out
            by_cases c4 : 4 ≤ k
            · by_cases cn : n ≤ k
              · have hN := bestC_near hC hi (by rw [HK.out]; exact c4) (by rw [HK.out]; exact cn)
                rw [HK.out] at hN
                have HN := Lib.hid hN
                clear hN hC
                go_wp2
                go_quiet (fail)
                go_wp2
                go_roundw
                case rel => exact ⟨i - 1, i, k, _, by omega, by go_num, rfl, rfl, by rw [show i - 1 + 1 = i by omega]; exact HN.out, by rw [HWO.out]; simp; rfl⟩
                case measure => simp [intOf]; omega
              · have hN := bestC_nearnot hC (by rw [HK.out]; exact fun h => cn h.1)
                have HN := Lib.hid hN
                clear hN hC
                go_wp2
                go_quiet (fail)
                go_wp2
                go_roundw
                case rel => exact ⟨i - 1, b, n, _, by omega, by go_num, rfl, rfl, by rw [show i - 1 + 1 = i by omega]; exact HN.out, by rw [HWO.out]; simp; rfl⟩
                case measure => simp [intOf]; omega
            · omega
    · have HE : Hid (find s.data.toList a = (b, n)) := by
        have h : find s.data.toList a = (b, n) := by
          rw [HF.out]
          have e : i = 0 := by omega
          have := HC.out
          rw [e] at this
          exact best_eq this
        exact h
      go_wp2
      go_ret2
      exact ⟨by rw [HE.out]; rfl, _, rfl⟩

theorem rfind_any (s : ByteArray) (a : Int) (w : World) (hs : s.size ≤ maxLen) :
    Calls Tryd.prog 60 #[.string s, .int .i64 a] w fun e w' => e = .returned (findV (if 0 ≤ a then find s.data.toList a.toNat else (0, 0))) ∧ ∃ q, w' = w.drewN q := by
  have hl : s.data.toList.length = s.size := by simp
  by_cases h : 0 ≤ a ∧ a < s.size
  · obtain ⟨k, rfl⟩ := Int.eq_ofNat_of_zero_le h.1
    rw [if_pos h.1]
    exact rfind_nat s k w hs (by omega)
  · rw [find_neg _ _ (by omega)]
    unfold maxLen at hs
    by_cases h0 : a < 0
    · go_enter Tryd.func60, Tryd.ntmps60
      go_wp2_with fail
      refine (within_low a 0 _ _ h0).mono ?_
      rintro e w1 ⟨rfl, rfl⟩
      go_wp2
      go_ret2
      exact ⟨rfl, 0, rfl⟩
    · have h1 : (s.size : Int) ≤ a := by omega
      go_enter Tryd.func60, Tryd.ntmps60
      go_wp2_with fail
      refine (within_high a 0 _ _ (by omega) (by omega)).mono ?_
      rintro e w1 ⟨rfl, rfl⟩
      go_wp2
      go_ret2
      exact ⟨rfl, 0, rfl⟩
end Go.Proofs.YtjhmlmcibpjagaaDoor
