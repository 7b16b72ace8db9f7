/-
  The contract of the closure 'one' of packtrainkeep.CrcShift.
-/
import Derived.Test.YtgjmelinfkifcaaCrcSummed
import Derived.Test.YtgjmelinfkifcaaBuf
import Derived.Below
import Derived.Laws.NewBlocks
import Derived.Laws.Rows
namespace Go.Proofs.Ytgjmelinfkifcaa
open Go.RowKit

/-- A text, a byte, and a text. -/
def oneB (s : ByteArray) (c : UInt8) (r : ByteArray) : ByteArray := s ++ ⟨#[c]⟩ ++ r
theorem oneB_data (s : ByteArray) (c : UInt8) (r : ByteArray) : (oneB s c r).data.toList = s.data.toList ++ [c] ++ r.data.toList := by unfold oneB; simp
theorem oneB_size (s : ByteArray) (c : UInt8) (r : ByteArray) : (oneB s c r).size = s.size + 1 + r.size := by
  unfold oneB
  rw [ByteArray.size_append, ByteArray.size_append]; rfl
theorem one_conv (c : UInt8) (w : World) : (convert 32 9 (.slice (some ⟨w.heap.size, 0, none⟩) 1 1)).run Try.prog (w.alloc (.cells #[.int .u8 (c.toNat : Int)] 5)) = .ok (.string ⟨#[c]⟩) (w.alloc (.cells #[.int .u8 (c.toNat : Int)] 5)) := by
  refine run_convert_bytes_back _ _ _ _ _ _ [c] Try.underlying32 Try.underlying5 Try.underlying9 fun j hj => ?_
  obtain rfl : j = 0 := by simp at hj; omega
  have hadd : (⟨w.heap.size, 0, none⟩ : Addr).add 0 = ⟨w.heap.size, 0, none⟩ := rfl
  rw [hadd, cell_of_row _ _ _ _ _ _ (heap_alloc_new w _)]
  rfl

set_option maxRecDepth 100000 in
set_option maxHeartbeats 1000000 in
theorem shift1_any (s : ByteArray) (c : UInt8) (r : ByteArray) (B : Nat) (w : World) (hcell : w.cell? ⟨B, 0, none⟩ = some (.string r)) (hs : s.size ≤ 100000) (hr : r.size ≤ 100000) :
    Calls Try.prog 24 #[.string s, .int .u8 (c.toNat : Int), .pointer (some ⟨B, 0, none⟩)] w fun e w' => e = .returned (.int .u32 (sum (oneB s c r).data.toList : Nat)) ∧ Below w.heap.size w w' := by
  have hcv := one_conv c w
  have hB : B < w.heap.size := block_lt_of_cell hcell
  have h1 : (⟨#[c]⟩ : ByteArray).size = 1 := rfl
  have HL : Hid ((oneB s c r).size ≤ maxLen) := by
    have h : (oneB s c r).size ≤ maxLen := by rw [oneB_size]; unfold maxLen; omega
    exact h
  go_enter Try.func24, Try.ntmps24
  go_wp2_with fail
  have e : s ++ (⟨#[c]⟩ : ByteArray) ++ r = oneB s c r := rfl
  rw [e]
  clear e hcv
  refine (sum_any _ _ HL.out).mono ?_
  rintro e w1 ⟨rfl, rfl⟩
  go_wp2
  go_ret
  exact ⟨rfl, (Below.refl _ _).alloc (Nat.le_refl _) _⟩
end Go.Proofs.Ytgjmelinfkifcaa
