/-
  The contract of crc.pass: whatever sum comes in, it answers what a byte of 0 makes of it; the world is as it was.
-/
import Derived.Test.YtjnbnkaocoamlabDoorCrcB
import Derived.Test.YtjnbnkaocoamlabDoorRows
namespace Go.Proofs.YtjnbnkaocoamlabDoor
open Go.RowKit

set_option maxRecDepth 100000 in
set_option maxHeartbeats 400000 in
theorem pass_any (x : Int) (w : World) (h0 : 0 ≤ x) (h1 : x < 4294967296) :
    Calls Tryd.prog 41 #[.int .u32 x] w fun e w' => e = .returned (.int .u32 (pass x.toNat : Nat)) ∧ w = w' := by
  obtain ⟨n, rfl⟩ := Int.eq_ofNat_of_zero_le h0
  have hn : n < 4294967296 := by omega
  clear h0 h1
  go_enter Tryd.func41, Tryd.ntmps41
  go_wp2
  go_loop [0, 4] (fun s i => ∃ k : Nat, k ≤ 8 ∧ i = .int .i64 k ∧ s = .int .u32 (stn k n : Nat)) (fun _ i => 8 - (intOf i).toNat)
  case atStart => exact ⟨0, by omega, rfl, rfl⟩
  case round =>
    obtain ⟨k, hk, rfl, rfl⟩ := hrel
    have hs := stn_lt k hn
    by_cases hlt : k < 8
    · go_wp2
      · have ht := and_one_yes hs (by assumption)
        go_round
        case rel => exact ⟨k + 1, by omega, by go_num, by rw [st_yes hs ht]; rfl⟩
        case measure => simp [intOf]; omega
      · have ht := and_one_no hs (by assumption)
        go_round
        case rel => exact ⟨k + 1, by omega, by go_num, by rw [st_no ht]; rfl⟩
        case measure => simp [intOf]; omega
    · obtain rfl : k = 8 := by omega
      go_wp2
      go_ret
      exact ⟨rfl, rfl⟩
end Go.Proofs.YtjnbnkaocoamlabDoor
