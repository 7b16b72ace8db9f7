/-
  The contracts of crc.tail and crc.Seal.
-/
import Derived.Test.YtjnbnkaocoamlabDoorCrcMore
import Derived.Test.YtjnbnkaocoamlabDoorBuf
import Derived.Laws.Rows
import Derived.Laws.NewBlocks
import Derived.Below
namespace Go.Proofs.YtjnbnkaocoamlabDoor
open Go.RowKit

/-- The first k bytes of a sum, as cells. -/
def tailC (n k : Nat) : Array Value := ((List.range 4).map fun i => Value.int .u8 (if i < k then (n : Int) / 2 ^ (8 * i) % 256 else 0)).toArray
theorem tailC_size (n k : Nat) : (tailC n k).size = 4 := by simp [tailC]
theorem tailC_at (n k i : Nat) (h : i < 4) : (tailC n k)[i]? = some (.int .u8 (if i < k then (n : Int) / 2 ^ (8 * i) % 256 else 0)) := by
  unfold tailC
  simp [h]
theorem tailC_set (n k : Nat) (hk : k < 4) : (tailC n k).setIfInBounds k (.int .u8 ((n : Int) / 2 ^ (8 * k) % 256)) = tailC n (k + 1) := by
  apply Array.ext_getElem?
  intro i
  rw [Array.getElem?_setIfInBounds, tailC_size]
  by_cases hi : i < 4
  · by_cases e : k = i
    · subst e; rw [if_pos rfl, if_pos hk, tailC_at _ _ k hi, if_pos (by omega)]
    · rw [if_neg e, tailC_at _ _ i hi, tailC_at _ _ i hi]
      by_cases h2 : i < k
      · rw [if_pos h2, if_pos (by omega)]
      · rw [if_neg h2, if_neg (by omega)]
  · rw [Array.getElem?_eq_none (by rw [tailC_size]; omega), Array.getElem?_eq_none (by rw [tailC_size]; omega), if_neg (by omega)]
theorem tail4_at (n j : Nat) (h : j < (tail4 n).length) : ((tail4 n)[j].toNat : Int) = (n : Int) / 2 ^ (8 * j) % 256 := by
  have e : ∀ m : Nat, ((UInt8.ofNat m).toNat : Int) = ((m % 256 : Nat) : Int) := fun m => by simp
  match j, h with
  | 0, _ => show ((UInt8.ofNat n).toNat : Int) = _; rw [e]; simp
  | 1, _ => show ((UInt8.ofNat (n / 256)).toNat : Int) = _; rw [e]; simp
  | 2, _ => show ((UInt8.ofNat (n / 65536)).toNat : Int) = _; rw [e]; simp
  | 3, _ => show ((UInt8.ofNat (n / 16777216)).toNat : Int) = _; rw [e]; simp
  | j + 4, h => exact absurd h (by simp [tail4])
theorem tail_conv (n : Nat) (w : World) : (convert 53 9 (.slice (some ⟨w.heap.size, 0, none⟩) 4 4)).run Tryd.prog (w.alloc (.cells (tailC n 4) 71)) = .ok (.string ⟨(tail4 n).toArray⟩) (w.alloc (.cells (tailC n 4) 71)) := by
  refine run_convert_bytes_back _ _ _ _ _ _ (tail4 n) Tryd.underlying53 Tryd.underlying5 Tryd.underlying9 fun j hj => ?_
  have hadd : (⟨w.heap.size, 0, none⟩ : Addr).add j = ⟨w.heap.size, j, none⟩ := by unfold Addr.add; split <;> simp_all
  have h4 : j < 4 := hj
  rw [hadd, cell_of_row _ _ _ _ _ _ (heap_alloc_new w _), tailC_at _ _ _ h4, if_pos h4, tail4_at n j hj]

set_option maxRecDepth 100000 in
set_option maxHeartbeats 1000000 in
theorem tail_any (s : ByteArray) (w : World) (hs : s.size ≤ maxLen) :
    Calls Tryd.prog 33 #[.string s] w fun e w' => e = .returned (.string ⟨(tail4 (sum s.data.toList)).toArray⟩) ∧ Below w.heap.size w w' := by
  have hl := sum_lt s.data.toList
  go_enter Tryd.func33, Tryd.ntmps33
  go_wp2_with fail
  refine (sum_any _ _ hs).mono ?_
  rintro e w' ⟨rfl, rfl⟩
  obtain ⟨n, hn⟩ : ∃ n, n = sum s.data.toList := ⟨_, rfl⟩
  rw [← hn] at hl ⊢
  have HN := Lib.hid hn
  clear hn
  go_wp2
  go_loopw [8] (fun i wr => ∃ k : Nat, k ≤ 4 ∧ i = .int .i64 k ∧ wr = w.alloc (.cells (tailC n k) 71)) (fun i _ => 4 - (intOf i).toNat)
  case atStart => exact ⟨0, by omega, rfl, rfl⟩
  case round =>
    obtain ⟨k, hk, rfl, rfl⟩ := hrel
    by_cases hlt : k < 4
    · have hc := tailC_at n k k hlt
      rw [if_neg (Nat.lt_irrefl k)] at hc
      have hz := tailC_set n k hlt
      go_wp2
      go_roundw
      case rel => exact ⟨k + 1, by omega, by go_num, rfl⟩
      case measure => simp [intOf]; omega
    · obtain rfl : k = 4 := by omega
      have hconv := tail_conv n w
      go_wp2
      go_ret
      exact ⟨by rw [HN.out]; rfl, (Below.refl _ _).alloc (Nat.le_refl _) _⟩

/-- A text with its sum behind it. -/
def sealB (s : ByteArray) : ByteArray := s ++ ⟨(tail4 (sum s.data.toList)).toArray⟩
theorem sealB_data (s : ByteArray) : (sealB s).data.toList = sealL s.data.toList := by unfold sealB sealL; simp
theorem sealB_size (s : ByteArray) : (sealB s).size = s.size + 4 := by
  have h : (sealB s).size = (sealB s).data.toList.length := by simp
  rw [h, sealB_data]
  unfold sealL
  rw [List.length_append, tail4_len]
  simp

set_option maxRecDepth 100000 in
set_option maxHeartbeats 1000000 in
theorem seal_any (s : ByteArray) (w : World) (hs : s.size ≤ 140737488351232) :
    Calls Tryd.prog 22 #[.string s] w fun e w' => e = .returned (.string (sealB s)) ∧ Below w.heap.size w w' := by
  have hz : (⟨(tail4 (sum s.data.toList)).toArray⟩ : ByteArray).size = 4 := rfl
  go_enter Tryd.func22, Tryd.ntmps22
  go_wp2_with fail
  refine (tail_any s _ (by unfold maxLen; omega)).mono ?_
  rintro e w1 ⟨rfl, hb1⟩
  have HB := Lib.hid hb1
  clear hb1
  go_wp2
  go_ret
  exact ⟨rfl, HB.out⟩
end Go.Proofs.YtjnbnkaocoamlabDoor
