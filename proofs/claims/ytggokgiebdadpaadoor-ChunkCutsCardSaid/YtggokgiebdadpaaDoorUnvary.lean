/-
  The contract of the document's Unvary: whatever text comes in, it answers what 'getL' gives for its bytes.
-/
import Derived.Test.YtggokgiebdadpaaDoorVaryGet
import Derived.Test.YtggokgiebdadpaaDoorStr
import Derived.Deep.LoopGhost
namespace Go.Proofs.YtggokgiebdadpaaDoor
open Go.RowKit

/-- A number, how many bytes it has, an Errno: as the document's functions answer. -/
def numR (r : Nat × Nat × Nat) : Value := .tuple #[.int .u64 r.1, .int .i64 r.2.1, .int .i64 r.2.2]

theorem numR_ret {l : List UInt8} {n k e : Nat} {a b c : Int} (h : getL l = (n, k, e)) (ha : a = n) (hb : b = k) (hc : c = e) :
    Ending.returned (.tuple #[.int .u64 a, .int .i64 b, .int .i64 c]) = .returned (numR (getL l)) := by
  rw [h, ha, hb, hc]; rfl

theorem valL_drop_le (l : List UInt8) : ∀ j, valL (l.drop j) ≤ valL l := by
  induction l with
  | nil => intro j; simp
  | cons c r ih =>
    intro j
    cases j with
    | zero => exact Nat.le_refl _
    | succ j => rw [List.drop_succ_cons, valL]; have := ih j; omega

theorem valL_drop_step (s : ByteArray) (i j : Nat) (hi : i < s.size) (hj : j ≤ i) :
    valL ((s.data.toList.take (i + 1)).drop j) = s[j].toNat % 128 + 128 * valL ((s.data.toList.take (i + 1)).drop (j + 1)) := by
  have hl : j < (s.data.toList.take (i + 1)).length := by rw [List.length_take, ← size_data]; omega
  rw [List.drop_eq_getElem_cons hl, valL]
  congr 2
  rw [List.getElem_take]
  rfl

set_option maxRecDepth 100000 in
set_option maxHeartbeats 1000000 in
theorem unvary_any (s : ByteArray) (w : World) (hs : s.size ≤ maxLen) :
    Calls Tryd.prog 39 #[.string s] w fun e w' => e = .returned (numR (getL s.data.toList)) ∧ w = w' := by
  unfold maxLen at hs
  go_enter Tryd.func39, Tryd.ntmps39
  go_wp2
  go_loop [5] (fun i => ∃ k : Nat, k ≤ s.size ∧ k ≤ 9 ∧ i = .int .i64 k ∧ scan 0 s.data.toList = scan k (s.data.toList.drop k)) (fun i => s.size - (intOf i).toNat)
  case atStart => exact ⟨0, Nat.zero_le _, Nat.zero_le _, rfl, rfl⟩
  case round =>
    obtain ⟨k, hk, hk9, rfl, hsc⟩ := hrel
    have HSC := Lib.hid hsc
    clear hsc
    by_cases hlt : k < s.size
    · have hne : ((k : Int) == (s.size : Int)) = false := by simp; omega
      have hd9 : (((k : Int) == 9) = true ∧ Hid (k = 9)) ∨ (((k : Int) == 9) = false ∧ Hid (k ≠ 9)) := by
        by_cases h : k = 9
        · exact .inl ⟨by rw [h]; rfl, h⟩
        · exact .inr ⟨by simp; omega, h⟩
      rcases hd9 with ⟨hb, H9⟩ | ⟨hb, H9⟩
      all_goals go_wp2
      all_goals first
        | (have h1 : 1 < (s[k].toNat : Int) := by assumption
           go_ret3
           exact ⟨numR_ret (getL_of_bad (by rw [HSC.out, scan_at s k hlt, if_pos ⟨H9.out, by omega⟩])) rfl rfl rfl, rfl⟩)
        | (have h1 : s[k].toNat = 0 := by assumption
           have h2 : 0 < k := by first | assumption | (have := H9.out; omega)
           go_ret3
           exact ⟨numR_ret (getL_of_bad (by rw [HSC.out, scan_at s k hlt, if_neg (by omega), if_pos ⟨h2, h1⟩])) rfl rfl rfl, rfl⟩)
        | (have h3 : 128 ≤ (s[k].toNat : Int) := by assumption
           have n9 : k ≠ 9 := by first | exact H9.out | omega
           go_round
           case rel => exact ⟨k + 1, by omega, by omega, by go_num, by rw [HSC.out, scan_at s k hlt, if_neg (by intro h; exact n9 h.1), if_neg (by omega), if_neg (by omega)]⟩
           case measure => simp [intOf]; omega)
        | skip
      all_goals
        have HST : Hid (scan 0 s.data.toList = .inr (k + 1)) := by
          have h9 := H9.out
          show scan 0 s.data.toList = .inr (k + 1)
          rw [HSC.out, scan_at s k hlt, if_neg (by omega), if_neg (by omega), if_pos (by omega)]
        have HV := Lib.hid (scan_lt HST.out).2.2.2
        clear HSC H9 hb hne
        go_loop [6, 7] (fun n j => ∃ m : Nat, m ≤ k + 1 ∧ j = .int .i64 ((m : Int) - 1) ∧ n = .int .u64 (valL ((s.data.toList.take (k + 1)).drop m))) (fun _ j => (intOf j + 1).toNat)
        case atStart => exact ⟨k + 1, Nat.le_refl _, by go_num, by rw [List.drop_eq_nil_of_le (by simp; omega)]; rfl⟩
        case round =>
          obtain ⟨m, hm, rfl, rfl⟩ := hrel
          rcases m with _ | m
          · go_wp2
            go_ret3
            exact ⟨numR_ret (getL_of_ok HST.out) rfl rfl rfl, rfl⟩
          · have hm2 : m < s.size := by omega
            have hst := valL_drop_step s k m hlt (by omega)
            have hle := valL_drop_le (s.data.toList.take (k + 1)) m
            have hv := HV.out
            have HST2 := Lib.hid hst
            have hbd : (valL ((s.data.toList.take (k + 1)).drop (m + 1)) : Int) * 128 + (s[m].toNat : Int) % 128 ≤ 18446744073709551615 := by omega
            clear hst hle hv
            go_wp2
            go_round
            case rel => exact ⟨m, by omega, rfl, by rw [HST2.out]; go_num⟩
            case measure => simp [intOf]
    · have hne : ((k : Int) == (s.size : Int)) = true := by simp; omega
      go_wp2
      go_ret3
      exact ⟨numR_ret (getL_of_bad (by rw [HSC.out, List.drop_eq_nil_of_le (by rw [← size_data]; omega), scan])) rfl rfl rfl, rfl⟩
end Go.Proofs.YtggokgiebdadpaaDoor
