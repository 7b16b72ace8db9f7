/-
  The contracts of chunk.putName and chunk.getName.
-/
import Derived.Test.YtjnbnkaocoamlabDoorChkM
import Derived.Test.YtjnbnkaocoamlabDoorCrcTail
import Derived.Test.YtjnbnkaocoamlabDoorBytesX
import Derived.Laws.BitsAllLaws
namespace Go.Proofs.YtjnbnkaocoamlabDoor
open Go.RowKit

set_option maxRecDepth 100000 in
set_option maxHeartbeats 1000000 in
theorem pname_any (n : Nat) (w : World) (_ : n < 4294967296) :
    Calls Tryd.prog 23 #[.int .u32 n] w fun e w' => e = .returned (.string ⟨(tail4 n).toArray⟩) ∧ Below w.heap.size w w' := by
  go_enter Tryd.func23, Tryd.ntmps23
  go_wp2
  go_loopw [5] (fun i wr => ∃ k : Nat, k ≤ 4 ∧ i = .int .i64 k ∧ wr = w.alloc (.cells (tailC n k) 71)) (fun i _ => 4 - (intOf i).toNat)
  case atStart => exact ⟨0, by omega, rfl, rfl⟩
  case round =>
    obtain ⟨k, hk, rfl, rfl⟩ := hrel
    by_cases hlt : k < 4
    · have hc := tailC_at n k k hlt
      rw [if_neg (Nat.lt_irrefl k)] at hc
      have hz := tailC_set n k hlt
      go_wp2
      go_roundw
      case rel => exact ⟨k + 1, by omega, by go_num, rfl⟩
      case measure => simp [intOf]; omega
    · obtain rfl : k = 4 := by omega
      have hconv := tail_conv n w
      go_wp2
      go_ret
      exact ⟨rfl, (Below.refl _ _).alloc (Nat.le_refl _) _⟩

/-- The first bytes as one number. -/
theorem val_snoc (l : List UInt8) (b : UInt8) : val (l ++ [b]) = val l + b.toNat * 2 ^ (8 * l.length) := by
  induction l with
  | nil => rw [List.nil_append, val_cons]; simp [val]
  | cons c l ih =>
    rw [List.cons_append, val_cons, ih, val_cons, List.length_cons, Nat.mul_succ, Nat.pow_add, Nat.mul_add, Nat.add_assoc]
    congr 2
    rw [Nat.mul_comm 256, Nat.mul_assoc]
theorem val_take (l : List UInt8) (k : Nat) (h : k < l.length) : val (l.take (k + 1)) = val (l.take k) + l[k].toNat * 2 ^ (8 * k) := by
  rw [List.take_succ_eq_append_getElem h, val_snoc, List.length_take, Nat.min_eq_left (by omega)]
theorem or_name (v b k : Nat) (hv : v < 2 ^ (8 * k)) (hb : b < 256) (hk : k < 4) : bits .or .u32 (v : Int) (((b : Int) * 2 ^ (8 * k)) % 4294967296) = ((v + b * 2 ^ (8 * k) : Nat) : Int) := by
  have h1 : v < 4294967296 ∧ b * 2 ^ (8 * k) < 4294967296 := by
    have : b * 2 ^ (8 * k) ≤ 255 * 2 ^ (8 * k) := Nat.mul_le_mul_right _ (by omega)
    rcases (show k = 0 ∨ k = 1 ∨ k = 2 ∨ k = 3 by omega) with rfl | rfl | rfl | rfl <;> simp at hv this ⊢ <;> omega
  have e1 : ((b : Int) * 2 ^ (8 * k)) = ((b * 2 ^ (8 * k) : Nat) : Int) := by rw [Int.natCast_mul, Int.natCast_pow]; rfl
  rw [e1, Int.emod_eq_of_lt (by omega) (by omega), u32_or_nat _ _ (by omega) (by omega)]
  congr 1
  rw [Nat.add_comm, Nat.mul_comm b, Nat.two_pow_add_eq_or_of_lt hv, Nat.or_comm]
theorem name_at (s : ByteArray) (k : Nat) (hk : k < 4) (h4 : 4 ≤ s.size) : bits .or .u32 ((val (s.data.toList.take k) : Nat) : Int) (((s[k].toNat : Int) % 4294967296 * 2 ^ (8 * k)) % 4294967296) = ((val (s.data.toList.take (k + 1)) : Nat) : Int) := by
  have hz : s.data.toList.length = s.size := by simp
  have hv := val_lt (s.data.toList.take k)
  rw [List.length_take, Nat.min_eq_left (by omega)] at hv
  have hb : s[k].toNat < 256 := s[k].toNat_lt
  rw [Int.emod_eq_of_lt (a := (s[k].toNat : Int)) (by omega) (by omega), or_name _ _ _ hv hb hk, val_take _ _ (by omega)]
  rfl

set_option maxRecDepth 100000 in
set_option maxHeartbeats 1000000 in
theorem gname_any (s : ByteArray) (w : World) (hs : s.size ≤ maxLen) (h4 : 4 ≤ s.size) :
    Calls Tryd.prog 39 #[.string s] w fun e w' => e = .returned (.int .u32 (val (s.data.toList.take 4) : Nat)) ∧ w = w' := by
  unfold maxLen at hs
  go_enter Tryd.func39, Tryd.ntmps39
  go_wp2
  go_loop [3, 5] (fun n i => ∃ k : Nat, k ≤ 4 ∧ i = .int .i64 k ∧ n = .int .u32 (val (s.data.toList.take k) : Nat)) (fun _ i => 4 - (intOf i).toNat)
  case atStart => exact ⟨0, Nat.zero_le _, rfl, rfl⟩
  case round =>
    obtain ⟨k, hk, rfl, rfl⟩ := hrel
    by_cases hlt : k < 4
    · have hx := name_at s k hlt h4
      have hks : k < s.size := by omega
      go_wp2
      go_round
      case rel => exact ⟨k + 1, by omega, by go_num, rfl⟩
      case measure => simp [intOf]; omega
    · obtain rfl : k = 4 := by omega
      go_wp2
      go_ret
      exact ⟨rfl, rfl⟩
end Go.Proofs.YtjnbnkaocoamlabDoor
