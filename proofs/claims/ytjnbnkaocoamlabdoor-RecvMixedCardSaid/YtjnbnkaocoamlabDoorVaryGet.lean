/-
  The contract of vary.Get: whatever text comes in, it answers what 'getL' gives for its bytes, and the world is as it was.
-/
import Derived.Test.YtjnbnkaocoamlabDoorNum
import Derived.Test.YtjnbnkaocoamlabDoorRows
import Derived.WalkKit
import Derived.Handy
import Derived.Lib.Hide
import Derived.Lib.Strings
import Derived.Laws.BitsAllLaws
namespace Go.Proofs.YtjnbnkaocoamlabDoor
open Go.RowKit

/-- An error as a value of type error: nil, or an Errno. -/
def errV (e : Nat) : Value := if e = 0 then .nilIface else .iface 43 (.int .i64 e)
/-- A number, how many bytes it has, an error. -/
def numV (r : Nat × Nat × Nat) : Value := .tuple #[.int .u64 r.1, .int .i64 r.2.1, errV r.2.2]

theorem pow128 (k : Nat) : (2 : Nat) ^ (7 * k) = 128 ^ k := by rw [Nat.pow_mul]
theorem or_shift (acc x k : Nat) (ha : acc < 128 ^ k) (hx : x < 128) (hk : k ≤ 9) (h9 : k = 9 → x ≤ 1) :
    bits .or .u64 (acc : Int) (IntKind.u64.wrap ((x : Int) * 2 ^ (7 * k))) = ((acc + x * 128 ^ k : Nat) : Int) ∧ acc + x * 128 ^ k < 18446744073709551616 := by
  have hb : acc + x * 128 ^ k < 18446744073709551616 := by
    by_cases h : k = 9
    · subst h; have := h9 rfl; rw [pow9] at ha ⊢; omega
    · have hp : 128 ^ k ≤ 128 ^ 8 := Nat.pow_le_pow_right (by decide) (by omega)
      have h8 : 128 ^ 8 = 72057594037927936 := by decide
      have := Nat.mul_le_mul (show x ≤ 127 by omega) hp
      omega
  refine ⟨?_, hb⟩
  have e1 : ((x : Int) * 2 ^ (7 * k)) = ((x * 128 ^ k : Nat) : Int) := by
    rw [← pow128, Int.natCast_mul, Int.natCast_pow]; rfl
  rw [e1, IntWalk.u64_in _ ⟨by omega, by omega⟩, u64_or_nat _ _ (by omega) (by omega), ← pow128]
  congr 1
  rw [Nat.add_comm, Nat.mul_comm x, Nat.two_pow_add_eq_or_of_lt (by rw [pow128]; exact ha), Nat.or_comm]

theorem num_ret {l : List UInt8} {n k e : Nat} {a b : Int} {v : Value} (h : getL l = (n, k, e)) (ha : a = n) (hb : b = k) (hv : v = errV e) :
    Ending.returned (.tuple #[.int .u64 a, .int .i64 b, v]) = .returned (numV (getL l)) := by
  rw [h, ha, hb, hv]; rfl
theorem getL_of_bad {l : List UInt8} {e : Nat} (h : scan 0 l = .inl e) : getL l = (0, 0, e) := by unfold getL; rw [h]
theorem getL_of_ok {l : List UInt8} {k : Nat} (h : scan 0 l = .inr k) : getL l = (valL (l.take k), k, 0) := by unfold getL; rw [h]
theorem scan_at (s : ByteArray) (k : Nat) (h : k < s.size) : scan k (s.data.toList.drop k) = if k = 9 ∧ 1 < s[k].toNat then .inl 4 else if 0 < k ∧ s[k].toNat = 0 then .inl 3 else if s[k].toNat < 128 then .inr (k + 1) else scan (k + 1) (s.data.toList.drop (k + 1)) :=
  scan_drop s.data.toList k (by simpa using h)
theorem val_at (s : ByteArray) (k : Nat) (h : k < s.size) (hk : k ≤ 9) (h9 : k = 9 → s[k].toNat ≤ 1) :
    bits .or .u64 ((valL (s.data.toList.take k) : Nat) : Int) (IntKind.u64.wrap ((s[k].toNat : Int) % 128 * 2 ^ (7 * k))) = ((valL (s.data.toList.take (k + 1)) : Nat) : Int) := by
  have h' : k < s.data.toList.length := by simpa using h
  have hl := valL_lt (s.data.toList.take k)
  rw [List.length_take, Nat.min_eq_left (by omega)] at hl
  have hm : s[k].toNat % 128 < 128 := Nat.mod_lt _ (by decide)
  have := (or_shift _ (s[k].toNat % 128) k hl hm hk (by intro e; have := h9 e; omega)).1
  rw [valL_take_succ _ _ h']
  exact this
theorem val_at9 (s : ByteArray) (h : 9 < s.size) (h9 : s[9].toNat ≤ 1) :
    bits .or .u64 ((valL (s.data.toList.take 9) : Nat) : Int) ((s[9].toNat : Int) % 128 * 9223372036854775808) = ((valL (s.data.toList.take 10) : Nat) : Int) := by
  rw [← val_at s 9 h (by omega) (fun _ => h9)]
  congr 1
  rw [show (2 : Int) ^ (7 * 9) = 9223372036854775808 by decide, IntWalk.u64_in _ ⟨by omega, by omega⟩]

set_option maxRecDepth 100000 in
set_option maxHeartbeats 1000000 in
theorem get_any (s : ByteArray) (w : World) (hs : s.size ≤ maxLen) :
    Calls Tryd.prog 46 #[.string s] w fun e w' => e = .returned (numV (getL s.data.toList)) ∧ w = w' := by
  unfold maxLen at hs
  go_enter Tryd.func46, Tryd.ntmps46
  go_wp2
  go_loop [5, 10] (fun n i => ∃ k : Nat, k ≤ s.size ∧ k ≤ 9 ∧ i = .int .i64 k ∧ n = .int .u64 (valL (s.data.toList.take k)) ∧ scan 0 s.data.toList = scan k (s.data.toList.drop k)) (fun _ i => s.size - (intOf i).toNat)
  case atStart => exact ⟨0, Nat.zero_le _, Nat.zero_le _, rfl, rfl, rfl⟩
  case round =>
    obtain ⟨k, hk, hk9, rfl, rfl, hsc⟩ := hrel
    have HSC := Lib.hid hsc
    clear hsc
    by_cases hlt : k < s.size
    · by_cases h9 : k = 9
      · subst h9
        go_wp2
        · have h1 : 1 < (s[9].toNat : Int) := by assumption
          go_ret3
          exact ⟨num_ret (getL_of_bad (by rw [HSC.out, scan_at s 9 hlt, if_pos ⟨rfl, by omega⟩])) rfl rfl rfl, rfl⟩
        · have h1 : (s[9].toNat : Int) ≤ 1 := by assumption
          have h2 : ((s[9].toNat : Int) == 0) = true := by assumption
          have h2' : s[9].toNat = 0 := by have := eq_of_beq h2; omega
          go_ret3
          exact ⟨num_ret (getL_of_bad (by rw [HSC.out, scan_at s 9 hlt, if_neg (by omega), if_pos ⟨by omega, h2'⟩])) rfl rfl rfl, rfl⟩
        · have h1 : (s[9].toNat : Int) ≤ 1 := by assumption
          have h2 : ((s[9].toNat : Int) == 0) = false := by assumption
          have h2' : s[9].toNat ≠ 0 := by intro h; rw [h] at h2; exact absurd h2 (by decide)
          go_ret3
          exact ⟨num_ret (getL_of_ok (by rw [HSC.out, scan_at s 9 hlt, if_neg (by omega), if_neg (by omega), if_pos (by omega)])) (val_at9 s hlt (by omega)) rfl rfl, rfl⟩
      · have hb : ((k : Int) == 9) = false := by simp; omega
        have H9 := Lib.hid h9
        clear h9
        go_wp2
        · have h1 : 0 < k := by assumption
          have h2 : ((s[k].toNat : Int) == 0) = true := by assumption
          have h2' : s[k].toNat = 0 := by have := eq_of_beq h2; omega
          go_ret3
          exact ⟨num_ret (getL_of_bad (by rw [HSC.out, scan_at s k hlt, if_neg (by intro h; exact H9.out h.1), if_pos ⟨h1, h2'⟩])) rfl rfl rfl, rfl⟩
        · have h2 : ((s[k].toNat : Int) == 0) = false := by assumption
          have h2' : s[k].toNat ≠ 0 := by intro h; rw [h] at h2; exact absurd h2 (by decide)
          have h3 : (s[k].toNat : Int) < 128 := by assumption
          go_ret3
          exact ⟨num_ret (getL_of_ok (by rw [HSC.out, scan_at s k hlt, if_neg (by intro h; exact H9.out h.1), if_neg (by intro h; exact h2' h.2), if_pos (by omega)])) (val_at s k hlt hk9 (fun h => absurd h H9.out)) rfl rfl, rfl⟩
        · have h2 : ((s[k].toNat : Int) == 0) = false := by assumption
          have h2' : s[k].toNat ≠ 0 := by intro h; rw [h] at h2; exact absurd h2 (by decide)
          have h3 : 128 ≤ (s[k].toNat : Int) := by assumption
          go_round
          case rel => exact ⟨k + 1, by omega, by have := H9.out; omega, by go_num, by rw [val_at s k hlt hk9 (fun h => absurd h H9.out)], by rw [HSC.out, scan_at s k hlt, if_neg (by intro h; exact H9.out h.1), if_neg (by intro h; exact h2' h.2), if_neg (by omega)]⟩
          case measure => simp [intOf]; omega
        · have h1 : ¬ 0 < k := by assumption
          have h3 : (s[k].toNat : Int) < 128 := by assumption
          go_ret3
          exact ⟨num_ret (getL_of_ok (by rw [HSC.out, scan_at s k hlt, if_neg (by intro h; exact H9.out h.1), if_neg (by omega), if_pos (by omega)])) (val_at s k hlt hk9 (fun h => absurd h H9.out)) rfl rfl, rfl⟩
        · have h1 : ¬ 0 < k := by assumption
          have h3 : 128 ≤ (s[k].toNat : Int) := by assumption
          go_round
          case rel => exact ⟨k + 1, by omega, by omega, by go_num, by rw [val_at s k hlt hk9 (fun h => absurd h H9.out)], by rw [HSC.out, scan_at s k hlt, if_neg (by intro h; exact H9.out h.1), if_neg (by omega), if_neg (by omega)]⟩
          case measure => simp [intOf]; omega
    · go_wp2
      go_ret3
      exact ⟨num_ret (getL_of_bad (by rw [HSC.out, List.drop_eq_nil_of_le (by simp; omega), scan])) rfl rfl rfl, rfl⟩
end Go.Proofs.YtjnbnkaocoamlabDoor
