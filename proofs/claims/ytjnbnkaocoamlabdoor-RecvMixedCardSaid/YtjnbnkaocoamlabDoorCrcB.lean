/-
  What the model's operations on bits come to on sums, in the words of the plain mathematics.
-/
import Derived.Test.YtjnbnkaocoamlabDoorCrcM
import Derived.WalkKit
import Derived.Handy
import Derived.Lib.Hide
import Derived.Laws.BitsAllLaws
namespace Go.Proofs.YtjnbnkaocoamlabDoor
open Go.RowKit

theorem ret_u32 {a b : Int} (h : a = b) : Ending.returned (.int .u32 a) = .returned (.int .u32 b) := by rw [h]
theorem and_one (n : Nat) (h : n < 4294967296) : bits .and .u32 (n : Int) 1 = ((n % 2 : Nat) : Int) := by
  rw [show (1 : Int) = ((1 : Nat) : Int) from rfl, u32_and_nat n 1 h (by decide), Nat.and_one_is_mod]
theorem and_one_yes {n : Nat} (h : n < 4294967296) (ht : (bits .and .u32 (n : Int) 1 == 1) = true) : n % 2 = 1 := by
  rw [and_one n h] at ht; have := eq_of_beq ht; omega
theorem and_one_no {n : Nat} (h : n < 4294967296) (ht : (bits .and .u32 (n : Int) 1 == 1) = false) : n % 2 ≠ 1 := by
  intro e; rw [and_one n h, e] at ht; exact absurd ht (by decide)
theorem half_cast (n : Nat) : (n : Int) / 2 = ((n / 2 : Nat) : Int) := by omega
theorem st_yes {n : Nat} (h : n < 4294967296) (ht : n % 2 = 1) : bits .xor .u32 ((n : Int) / 2) 2197175160 = (st n : Nat) := by
  rw [st_odd ht, half_cast, show (2197175160 : Int) = ((2197175160 : Nat) : Int) from rfl, u32_xor_nat _ _ (by omega) (by omega)]
theorem st_no {n : Nat} (ht : n % 2 ≠ 1) : (n : Int) / 2 = (st n : Nat) := by
  rw [st_even ht, half_cast]
end Go.Proofs.YtjnbnkaocoamlabDoor
