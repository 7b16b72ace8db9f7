/-
  Shifts of numbers of 32 bits, as a walk spells them.
-/
import Derived.Test.YtggokgiebdadpaaCrcMore
namespace Go.Proofs.Ytggokgiebdadpaa
open Go.RowKit

theorem shr_cast (n k : Nat) : (n : Int) / 2 ^ k = ((n / 2 ^ k : Nat) : Int) := by simp
theorem shr_yes {n k : Nat} (h : n < 4294967296) (ht : (bits .and .u32 ((n : Int) / 2 ^ k) 1 == 1) = true) : n / 2 ^ k % 2 = 1 := by
  rw [shr_cast] at ht; exact and_one_yes (Nat.lt_of_le_of_lt (Nat.div_le_self _ _) h) ht
theorem shr_no {n k : Nat} (h : n < 4294967296) (ht : (bits .and .u32 ((n : Int) / 2 ^ k) 1 == 1) = false) : n / 2 ^ k % 2 ≠ 1 := by
  rw [shr_cast] at ht; exact and_one_no (Nat.lt_of_le_of_lt (Nat.div_le_self _ _) h) ht

theorem pow_lt {k : Nat} (h : k < 32) : 2 ^ k < 4294967296 := Nat.pow_lt_pow_right (m := k) (n := 32) (by decide) h
theorem shl_one {k : Nat} (h : k < 32) : (2 : Int) ^ k % 4294967296 = ((2 ^ k : Nat) : Int) := by
  have h2 := pow_lt h
  have e : (2 : Int) ^ k = ((2 ^ k : Nat) : Int) := by simp
  rw [e]
  generalize 2 ^ k = m at *
  omega
end Go.Proofs.Ytggokgiebdadpaa
