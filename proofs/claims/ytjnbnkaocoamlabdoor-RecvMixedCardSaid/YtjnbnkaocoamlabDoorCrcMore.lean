/-
  The contracts of crc.More and crc.Sum: whatever text comes in, they answer what 'more' and 'sum' give for its bytes; the world is as it was.
-/
import Derived.Test.YtjnbnkaocoamlabDoorCrcPass
namespace Go.Proofs.YtjnbnkaocoamlabDoor
open Go.RowKit

theorem not_u32 {n : Nat} (h : n < 4294967296) : bits .xor .u32 IntKind.u32.max (n : Int) = (inv n : Nat) := by
  rw [show IntKind.u32.max = ((4294967295 : Nat) : Int) from by decide, u32_xor_nat _ _ (by decide) h, Nat.xor_comm]; rfl
theorem xor_u32 {n : Nat} (h : n < 4294967296) (c : UInt8) : bits .xor .u32 (n : Int) ((c.toNat : Int) % 4294967296) = ((n ^^^ c.toNat : Nat) : Int) := by
  have := byte_lt c
  rw [Int.emod_eq_of_lt (by omega) (by omega)]; exact u32_xor_nat _ _ h (byte_lt c)
theorem take_at (s : ByteArray) (c k : Nat) (h : k < s.size) : run c (s.data.toList.take (k + 1)) = pass (run c (s.data.toList.take k) ^^^ s[k].toNat) :=
  run_take c s.data.toList k (by simpa using h)
theorem take_allC (s : ByteArray) : s.data.toList.take s.size = s.data.toList := List.take_of_length_le (by simp)

set_option maxRecDepth 100000 in
set_option maxHeartbeats 400000 in
theorem more_any (x : Int) (s : ByteArray) (w : World) (h0 : 0 ≤ x) (h1 : x < 4294967296) (hs : s.size ≤ maxLen) :
    Calls Tryd.prog 31 #[.int .u32 x, .string s] w fun e w' => e = .returned (.int .u32 (more x.toNat s.data.toList : Nat)) ∧ w = w' := by
  unfold maxLen at hs
  obtain ⟨n, rfl⟩ := Int.eq_ofNat_of_zero_le h0
  have hn : n < 4294967296 := by omega
  clear h0 h1
  go_enter Tryd.func31, Tryd.ntmps31
  go_wp2
  go_loop [0, 10] (fun s0 i => ∃ k : Nat, k ≤ s.size ∧ i = .int .i64 k ∧ s0 = .int .u32 (run (inv n) (s.data.toList.take k) : Nat)) (fun _ i => s.size - (intOf i).toNat)
  case atStart => exact ⟨0, by omega, rfl, by rw [not_u32 hn]; rfl⟩
  case round =>
    obtain ⟨k, hk, rfl, rfl⟩ := hrel
    have hr := run_lt (s.data.toList.take k) (inv_lt hn)
    by_cases hlt : k < s.size
    · have hx := xor_u32 hr s[k]
      have hl := xlt hr (byte_lt s[k])
      go_wp2_with fail
      refine (pass_any _ _ (by omega) (by omega)).mono ?_
      rintro e w' ⟨rfl, rfl⟩
      rw [Int.toNat_natCast]
      go_wp2
      go_round
      case rel => exact ⟨k + 1, by omega, by go_num, by rw [take_at s _ k hlt]⟩
      case measure => simp [intOf]; omega
    · obtain rfl : k = s.size := by omega
      go_wp2
      go_ret
      exact ⟨ret_u32 (by rw [not_u32 hr, take_allC]; rfl), rfl⟩

set_option maxRecDepth 100000 in
set_option maxHeartbeats 400000 in
theorem sum_any (s : ByteArray) (w : World) (hs : s.size ≤ maxLen) :
    Calls Tryd.prog 17 #[.string s] w fun e w' => e = .returned (.int .u32 (sum s.data.toList : Nat)) ∧ w = w' := by
  go_enter Tryd.func17, Tryd.ntmps17
  go_wp2_with fail
  refine (more_any _ _ _ (by omega) (by omega) hs).mono ?_
  rintro e w' ⟨rfl, rfl⟩
  go_wp2
  go_ret
  exact ⟨rfl, rfl⟩
end Go.Proofs.YtjnbnkaocoamlabDoor
