/-
  The contract of the document's pow at 128: a power of 128 below 2^64.
-/
import Derived.Test.YtggokgiebdadpaaDoorNum
import Derived.Test.YtggokgiebdadpaaDoorProg
import Derived.Handy
import Derived.Lib.Hide
namespace Go.Proofs.YtggokgiebdadpaaDoor
open Go.RowKit

theorem pow_step (j k : Nat) (h : j < k) (hk : k ≤ 9) : (128 ^ j : Nat) * 128 ≤ 9223372036854775808 := by
  have h1 : 128 ^ (j + 1) ≤ 128 ^ 9 := Nat.pow_le_pow_right (by decide) (by omega)
  rw [pow9, Nat.pow_succ] at h1
  exact h1

/-- A power of 128, behind a name. -/
def p128 (j : Nat) : Nat := 128 ^ j

set_option maxRecDepth 100000 in
theorem pow_any (k : Nat) (w : World) (hk : k ≤ 9) :
    Calls Tryd.prog 36 #[.int .u64 128, .int .i64 k] w fun e w' => e = .returned (.int .u64 (p128 k)) ∧ w = w' := by
  go_enter Tryd.func36, Tryd.ntmps36
  go_wp2
  go_loop [5, 7] (fun p j => ∃ m : Nat, m ≤ k ∧ j = .int .i64 m ∧ p = .int .u64 (p128 m)) (fun _ j => k - (intOf j).toNat)
  case atStart => exact ⟨0, Nat.zero_le _, rfl, rfl⟩
  case round =>
    obtain ⟨m, hm, rfl, rfl⟩ := hrel
    by_cases hlt : m < k
    · have hs : p128 m * 128 ≤ 9223372036854775808 := pow_step m k hlt hk
      have he : Hid (p128 m * 128 = p128 (m + 1)) := (Nat.pow_succ 128 m).symm
      go_wp2
      go_round
      case rel => exact ⟨m + 1, by omega, by go_num, by rw [← he.out]; go_num⟩
      case measure => simp [intOf]; omega
    · have : m = k := by omega
      subst this
      go_wp2
      go_ret
      exact ⟨rfl, rfl⟩
end Go.Proofs.YtggokgiebdadpaaDoor
