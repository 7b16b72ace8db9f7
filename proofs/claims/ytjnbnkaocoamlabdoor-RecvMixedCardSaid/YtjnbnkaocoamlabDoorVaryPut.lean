/-
  The contract of vary.Put: whatever number comes in, it answers the text of the bytes 'putL' gives; nothing that was in memory is changed.
-/
import Derived.Test.YtjnbnkaocoamlabDoorNum
import Derived.Test.YtjnbnkaocoamlabDoorBuf
import Derived.WalkKit
import Derived.Handy
import Derived.Lib.Hide
import Derived.Laws.BitsAllLaws
namespace Go.Proofs.YtjnbnkaocoamlabDoor
open Go.RowKit

/-- A byte that says that more follow. -/
def hiB (m : Nat) : UInt8 := UInt8.ofNat (m % 128 + 128)
theorem high_byte (m : Nat) : bits .or .u8 ((m : Int) % 256) 128 = ((hiB m).toNat : Int) := by
  unfold hiB
  have e : (m : Int) % 256 = ((m % 256 : Nat) : Int) := by omega
  rw [e, show (128 : Int) = ((128 : Nat) : Int) from rfl, u8_or_nat _ _ (by omega) (by omega), toNat_ofNat_lt (by omega)]
  congr 1
  have h1 : m % 256 = 2 ^ 7 * (m / 128 % 2) + m % 128 := by omega
  rw [h1, Nat.two_pow_add_eq_or_of_lt (by omega), Nat.or_assoc, Nat.or_comm (m % 128), ← Nat.or_assoc]
  have h3 : 2 ^ 7 * (m / 128 % 2) ||| 128 = 2 ^ 7 * 1 := by
    have : m / 128 % 2 = 0 ∨ m / 128 % 2 = 1 := by omega
    rcases this with h | h <;> rw [h] <;> decide
  rw [h3, ← Nat.two_pow_add_eq_or_of_lt (by omega)]
  omega

theorem make10 (w : World) : (Instr.makeSlice 53 (.int .i64 0) (.int .i64 10)).run Tryd.prog w = .ok (.slice (some ⟨w.heap.size, 0, none⟩) 0 10) (w.alloc (.cells #[.int .u8 0, .int .u8 0, .int .u8 0, .int .u8 0, .int .u8 0, .int .u8 0, .int .u8 0, .int .u8 0, .int .u8 0, .int .u8 0] 5)) := by kernel_rfl

set_option maxRecDepth 100000 in
set_option maxHeartbeats 1000000 in
theorem put_any (n : Int) (w : World) (h0 : 0 ≤ n) (h1 : n ≤ 18446744073709551615) :
    Calls Tryd.prog 21 #[.int .u64 n] w fun e w' => e = .returned (.string ⟨(putL n.toNat).toArray⟩) ∧ Below w.heap.size w w' := by
  obtain ⟨N, rfl⟩ := Int.eq_ofNat_of_zero_le h0
  rw [Int.toNat_natCast]
  have hmk := make10
  go_enter Tryd.func21, Tryd.ntmps21
  go_wp2
  go_loopw [0, 3] (fun n b wr => ∃ (m : Nat) (pre : List UInt8), n = .int .u64 m ∧ m ≤ 18446744073709551615 ∧ pre ++ putL m = putL N ∧ ownsB wr w.heap.size b pre ∧ Below w.heap.size w wr) (fun n _ _ => (intOf n).toNat)
  case atStart => exact ⟨N, [], rfl, by omega, rfl, World.ownsRow_made w _ 10 (Nat.le_refl _) (by unfold maxLen; omega) rfl, (Below.refl _ _).alloc (Nat.le_refl _) _⟩
  case round =>
    obtain ⟨m, pre, rfl, hm, hput, hown, hbel⟩ := hrel
    have HP := Lib.hid hput
    clear hput hmk
    have hlen : pre.length + 1 ≤ 10 := by
      have h2 := putL_le10 (n := N) (by omega)
      rw [← HP.out, List.length_append] at h2
      have := putL_pos m
      omega
    by_cases hlt : m < 128
    · go_wp2_with (at_builtin; refine wpList_append_byte rfl _ _ rfl w.heap.size _ pre rfl (hown.alloc _) ⟨wr.heap.size, 0, none⟩ 1 rfl (m : Int) (UInt8.ofNat m) ?c1 ?c2 ?c3 ?c4 ?_)
      case c1 => simp [Addr.add]
      case c2 => rw [toNat_ofNat_lt (by omega)]
      case c3 => omega
      case c4 => have := hbel.size; simp; omega
      · intro v' w1 hown1 hg1 _
        have hcv := run_string_ownsB hown1
        have hb1 : Below w.heap.size w w1 := (hbel.alloc hbel.size _).grown hg1 (by have := hbel.size; simp; omega) (fun k hk => (World.ownsRow.lt hown k hk).1)
        clear hown1 hg1
        go_wp2
        go_ret
        refine ⟨?_, hb1⟩
        have e : pre ++ [UInt8.ofNat m] = putL N := by rw [← putL_small hlt]; exact HP.out
        rw [← e]; rfl
    · go_wp2_with (at_builtin; refine wpList_append_byte rfl _ _ rfl w.heap.size _ pre rfl (hown.alloc _) ⟨wr.heap.size, 0, none⟩ 1 rfl (bits .or .u8 ((m : Int) % 256) 128) (hiB m) ?d1 ?d2 ?d3 ?d4 ?_)
      case d1 => simp [Addr.add]
      case d2 => exact high_byte m
      case d3 => omega
      case d4 => have := hbel.size; simp; omega
      · intro v' w1 hown1 hg1 _
        have hb1 : Below w.heap.size w w1 := (hbel.alloc hbel.size _).grown hg1 (by have := hbel.size; simp; omega) (fun k hk => (World.ownsRow.lt hown k hk).1)
        clear hg1 hown
        go_wp2
        go_roundw
        case rel => exact ⟨m / 128, pre ++ [hiB m], by go_num, by omega, by rw [List.append_assoc, List.singleton_append, hiB, ← putL_big hlt]; exact HP.out, hown1, hb1⟩
        case measure => simp [intOf]; omega
end Go.Proofs.YtjnbnkaocoamlabDoor
