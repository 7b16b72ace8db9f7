/-
  The contracts of (*disk.Disk).has, disk.fill, disk.New.
-/
import Derived.Test.YtjnbnkaocoamlaaDskIn
import Derived.WalkSmall
import Derived.Laws.CopyOwn
import Derived.Laws.Tables
namespace Go.Proofs.Ytjnbnkaocoamlaa
open Go.RowKit

def errV (e : Nat) : Value := if e = 0 then .nilIface else .iface 72 (.int .i64 e)

set_option maxRecDepth 100000 in
theorem has_any (d L M : Nat) (X : Dsk) (i : Int) (w : World) (h : DskIn w d L M X) :
    Calls Try.prog 33 #[.pointer (some ⟨d, 0, none⟩), .int .i64 i] w fun e w' => e = .returned (.bool (decide (0 ≤ i ∧ i < X.n))) ∧ w' = w := by
  have c0 := h.c0
  have HH := Lib.hid h
  clear h
  by_cases h0 : 0 ≤ i
  · by_cases h1 : i < X.n
    · have HA : Hid (decide (0 ≤ i ∧ i < X.n) = true) := Lib.hid (decide_eq_true ⟨h0, h1⟩)
      rw [HA.out]
      go_enter Try.func33, Try.ntmps33
      go_wp2_with fail
      go_ret
      exact ⟨rfl, rfl⟩
    · have HA : Hid (decide (0 ≤ i ∧ i < X.n) = false) := Lib.hid (decide_eq_false (fun h => h1 h.2))
      rw [HA.out]
      go_enter Try.func33, Try.ntmps33
      go_wp2_with fail
      go_ret
      exact ⟨rfl, rfl⟩
  · have HA : Hid (decide (0 ≤ i ∧ i < X.n) = false) := Lib.hid (decide_eq_false (fun h => h0 h.1))
    rw [HA.out]
    go_enter Try.func33, Try.ntmps33
    go_wp2_with fail
    go_ret
    exact ⟨rfl, rfl⟩

set_option maxRecDepth 100000 in
set_option maxHeartbeats 1000000 in
theorem dfill_any (s : ByteArray) (w : World) (hs : s.size ≤ 32) :
    Calls Try.prog 34 #[.string s] w fun e w' => e = .returned (secV s.data.toList) ∧ Below w.heap.size w w' := by
  have hsz : s.data.toList.length = s.size := by simp
  go_enter Try.func34, Try.ntmps34

  go_wp2_with fail
  have hz := lit32_eq
  unfold lit32 at hz
  simp only [hz]
  clear hz
  go_loopw [7] (fun i wr => ∃ k : Nat, k ≤ s.size ∧ i = .int .i64 k ∧ wr = (w.alloc (.cells (secA []) 65)).alloc (.cells (secA (s.data.toList.take k)) 65)) (fun i _ => s.size - (RowKit.intOf i).toNat)
  case atStart => exact ⟨0, by omega, rfl, by rw [List.take_zero]⟩
  case round =>
    obtain ⟨k, hk, rfl, rfl⟩ := hrel
    by_cases hlt : k < s.size
    · obtain ⟨c, hc⟩ : ∃ c, c = s.data.toList[k]'(by omega) := ⟨_, rfl⟩
      have hz := secA_set s.data.toList k (by omega) (by omega)
      rw [← hc] at hz
      have hb : s[k]'hlt = c := by rw [hc]; rfl
      clear hc
      have hy := secA_at (s.data.toList.take k) k (by omega)
      go_wp2
      go_roundw
      case rel => exact ⟨k + 1, by omega, by go_num, rfl⟩
      case measure => simp [RowKit.intOf]; omega
    · obtain rfl : k = s.size := by omega
      have et : s.data.toList.take s.size = s.data.toList := List.take_of_length_le (by omega)
      rw [et]
      clear et
      have HR1 : Hid (((w.alloc (.cells (secA []) 65)).alloc (.cells (secA s.data.toList) 65)).heap[w.heap.size]? = some (.cells (secA []) 65 (0, 0))) := Lib.hid ((Below.heap_alloc _ _ _ (by simp)).trans (heap_alloc_new w _))
      have HR2 : Hid (((w.alloc (.cells (secA []) 65)).alloc (.cells (secA s.data.toList) 65)).heap[w.heap.size + 1]? = some (.cells (secA s.data.toList) 65 (0, 0))) := Lib.hid (by
        have := heap_alloc_new (w.alloc (.cells (secA []) 65)) (.cells (secA s.data.toList) 65)
        simpa using this)
      have HB : Hid (Below w.heap.size w ((w.alloc (.cells (secA []) 65)).alloc (.cells (secA s.data.toList) 65))) := Lib.hid (((Below.refl _ _).alloc (Nat.le_refl _) _).alloc (by simp) _)
      generalize (w.alloc (.cells (secA []) 65)).alloc (.cells (secA s.data.toList) 65) = W at HR1 HR2 HB ⊢
      have HI := Lib.hid (secA_info s.data.toList)
      have HO := Lib.hid (secA_ones s.data.toList)
      have HS : Hid ((secA []).size = (secA s.data.toList).size) := Lib.hid (by rw [secA_size, secA_size])
      go_wp2_with (first
        | (with_reducible refine wpList_load_row rfl _ _ rfl _ rfl _ _ _ _ HR2.out Try.underlying65 rfl HI.out ?_)
        | (with_reducible refine wpList_store_row rfl _ _ _ rfl _ _ rfl rfl _ _ HR1.out HI.out HS.out HO.out ?_))
      refine bodyPost_ret (v := secV s.data.toList) (results_cell_row Try.results34 _ _ w.heap.size _ _ (0, 0) _ rfl (setRow_heap _ _ _ _ _ _ HR1.out) Try.underlying65 rfl HI.out) rfl ?_
      exact ⟨rfl, below_setRow HB.out (Nat.le_refl _) _⟩
end Go.Proofs.Ytjnbnkaocoamlaa
