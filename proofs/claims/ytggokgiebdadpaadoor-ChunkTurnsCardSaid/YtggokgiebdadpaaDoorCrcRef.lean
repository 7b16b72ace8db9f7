/-
  The contracts of the document's own sums: packtrainref.carry, Sum, More.
-/
import Derived.Test.YtggokgiebdadpaaDoorCrcMore
namespace Go.Proofs.YtggokgiebdadpaaDoor
open Go.RowKit

theorem shr_cast' (n k : Nat) : (n : Int) / 2 ^ k = ((n / 2 ^ k : Nat) : Int) := by simp
theorem low_eq {n : Nat} (hn : n < 4294967296) (y r : Nat) (hy : y < 256) :
    bits .xor .u32 (bits .and .u32 (n : Int) 1) (bits .and .u32 ((y : Int) / 2 ^ r % 4294967296) 1) = (((n ^^^ y / 2 ^ r % 2) % 2 : Nat) : Int) := by
  have h1 : y / 2 ^ r < 256 := Nat.lt_of_le_of_lt (Nat.div_le_self _ _) hy
  have e1 : (y : Int) / 2 ^ r % 4294967296 = ((y / 2 ^ r : Nat) : Int) := by
    rw [shr_cast']
    generalize y / 2 ^ r = m at *
    omega
  rw [e1, and_one n hn, and_one _ (by omega), u32_xor_nat _ _ (by omega) (by omega)]
  congr 1
  have := Nat.xor_mod_two_pow (a := n) (b := y / 2 ^ r % 2) (n := 1)
  simp only [Nat.pow_one] at this
  rw [this, Nat.mod_mod]
theorem st_bit (n b : Nat) (hb : b < 2) : (n ^^^ b) / 2 = n / 2 := by
  rw [Nat.xor_div_two, show b / 2 = 0 by omega, Nat.xor_zero]
theorem bit_yes {n : Nat} (hn : n < 4294967296) (y r : Nat) (hy : y < 256)
    (ht : (bits .xor .u32 (bits .and .u32 (n : Int) 1) (bits .and .u32 ((y : Int) / 2 ^ r % 4294967296) 1) == 1) = true) :
    bits .xor .u32 ((n : Int) / 2) 2197175160 = (st (n ^^^ y / 2 ^ r % 2) : Nat) := by
  rw [low_eq hn y r hy] at ht
  have h2 := eq_of_beq ht
  rw [st_odd (by omega), st_bit _ _ (Nat.mod_lt _ (by decide)), half_cast, show (2197175160 : Int) = ((2197175160 : Nat) : Int) from rfl, u32_xor_nat _ _ (by omega) (by omega)]
theorem bit_no {n : Nat} (hn : n < 4294967296) (y r : Nat) (hy : y < 256)
    (ht : (bits .xor .u32 (bits .and .u32 (n : Int) 1) (bits .and .u32 ((y : Int) / 2 ^ r % 4294967296) 1) == 1) = false) :
    (n : Int) / 2 = (st (n ^^^ y / 2 ^ r % 2) : Nat) := by
  rw [low_eq hn y r hy] at ht
  have h2 : (n ^^^ y / 2 ^ r % 2) % 2 ≠ 1 := by intro e; rw [e] at ht; exact absurd ht (by decide)
  rw [st_even h2, st_bit _ _ (Nat.mod_lt _ (by decide)), half_cast]
theorem bs_at (s : ByteArray) (c k : Nat) (h : k / 8 < s.size) : bs c (val s.data.toList) (k + 1) = st (bs c (val s.data.toList) k ^^^ s[k / 8].toNat / 2 ^ (k % 8) % 2) := by
  have := val_bit s.data.toList (k / 8) (k % 8) (by simpa using h) (Nat.mod_lt _ (by decide))
  rw [show 8 * (k / 8) + k % 8 = k by omega] at this
  rw [bs, this]; rfl

set_option maxRecDepth 100000 in
set_option maxHeartbeats 1000000 in
theorem refcarry_any (x : Int) (s : ByteArray) (w : World) (h0 : 0 ≤ x) (h1 : x < 4294967296) (hs : s.size ≤ 1000000) :
    Calls Tryd.prog 31 #[.int .u32 x, .string s] w fun e w' => e = .returned (.int .u32 (run x.toNat s.data.toList : Nat)) ∧ w = w' := by
  obtain ⟨c, rfl⟩ := Int.eq_ofNat_of_zero_le h0
  have hc : c < 4294967296 := by omega
  clear h0 h1
  go_enter Tryd.func31, Tryd.ntmps31
  go_wp2
  go_loop [0, 5] (fun n i => ∃ k : Nat, k ≤ 8 * s.size ∧ i = .int .i64 k ∧ n = .int .u32 (bs c (val s.data.toList) k : Nat)) (fun _ i => 8 * s.size - (intOf i).toNat)
  case atStart => exact ⟨0, by omega, rfl, rfl⟩
  case round =>
    obtain ⟨k, hk, rfl, rfl⟩ := hrel
    have hb := bs_lt (val s.data.toList) k hc
    by_cases hlt : k < 8 * s.size
    · have hj : k / 8 < s.size := by omega
      have hj2 : (k : Int) / 8 < (s.size : Int) := by omega
      have hj1 : 0 ≤ (k : Int) / 8 := by omega
      have hr1 : 0 ≤ (k : Int) % 8 := by omega
      have hr2 : (k : Int) % 8 < 8 := by omega
      go_wp2
      · have ht := bit_yes hb _ _ s[k / 8].toNat_lt (by assumption)
        go_round
        case rel => exact ⟨k + 1, by omega, by go_num, by rw [ht, bs_at s c k hj]⟩
        case measure => simp [intOf]; omega
      · have ht := bit_no hb _ _ s[k / 8].toNat_lt (by assumption)
        go_round
        case rel => exact ⟨k + 1, by omega, by go_num, by rw [ht, bs_at s c k hj]⟩
        case measure => simp [intOf]; omega
    · obtain rfl : k = 8 * s.size := by omega
      go_wp2
      go_ret
      exact ⟨ret_u32 (by rw [← bs_run]; simp), rfl⟩

set_option maxRecDepth 100000 in
set_option maxHeartbeats 400000 in
theorem refsum_any (s : ByteArray) (w : World) (hs : s.size ≤ 1000000) :
    Calls Tryd.prog 15 #[.string s] w fun e w' => e = .returned (.int .u32 (sum s.data.toList : Nat)) ∧ w = w' := by
  go_enter Tryd.func15, Tryd.ntmps15
  go_wp2_with fail
  refine (refcarry_any _ _ _ (by omega) (by omega) hs).mono ?_
  rintro e w' ⟨rfl, rfl⟩
  go_wp2
  go_ret
  exact ⟨ret_u32 (not_u32 (run_lt _ (by decide))), rfl⟩

end Go.Proofs.YtggokgiebdadpaaDoor
