/-
  The contract of disk.New.
-/
import Derived.Test.YtjnbnkaocoamlabDoorDskIn
import Derived.WalkSmall
import Derived.Laws.CopyOwn
import Derived.Laws.Tables
import Derived.Laws.MakeOwn
namespace Go.Proofs.YtjnbnkaocoamlabDoor
open Go.RowKit

theorem heap_alloc_at (w : World) (o : Obj) (k : Nat) (h : k = w.heap.size) : (w.alloc o).heap[k]? = some o := by subst h; exact heap_alloc_new w o
theorem sec_info3 : (Tryd.prog.info? 121).map (fun i => (i.zero, i.size, i.bytes)) = some (some (secV []), 32, 32) := by kernel_rfl
theorem run_make_secs (n : Nat) (w : World) (hn : n ≤ 140) :
    (Instr.makeSlice 67 (.int .i64 (n : Int)) (.int .i64 (n : Int))).run Tryd.prog w = .ok (.slice (some ⟨w.heap.size, 0, none⟩) n n) (w.alloc (.cells (madeCells (secA []) (n * 32)) 121)) := by
  cases hq : Tryd.prog.info? 121 with
  | none => have := sec_info3; rw [hq] at this; cases this
  | some i0 =>
    have h3 := sec_info3
    rw [hq] at h3
    simp only [Option.map_some, Option.some.injEq, Prod.mk.injEq] at h3
    obtain ⟨hz0, hz1, hz2⟩ := h3
    have h := run_makeSlice (P := Tryd.prog) w 67 121 i0 (secV []) Tryd.underlying67 hq hz0 .i64 .i64 (n : Int) (n : Int) (by omega) (Int.le_refl _) (by rw [hz1]; omega) (by rw [hz2]; omega) (by omega)
    rw [h, hz1, Int.toNat_natCast]
    rfl
theorem made_secs {n i : Nat} (hi : i < n) {w : World} {L : Nat} {t : TypeId} (h : w.heap[L]? = some (.cells (madeCells (secA []) (n * 32)) t (0, 0))) : w.rangeAt L (i * 32) (secL []) ∧ w.there L (i * 32) 32 := by
  have hc : ∀ j, j < 32 → w.cell? ⟨L, i * 32 + j, none⟩ = some (.int .u8 0) := fun j hj => by
    rw [cell_of_row _ _ _ _ _ _ h]
    unfold madeCells
    rw [Array.getElem?_map, Array.getElem?_range, if_pos (by omega)]
    show some ((secA [])[(i * 32 + j) % (secA []).size]!) = _
    rw [secA_size, show (i * 32 + j) % 32 = j by omega, getElem!_def, secA_at _ _ hj]
    simp
  refine ⟨fun j v hv => ?_, fun j hj => ⟨by rw [hc j hj]; rfl, Lib.frozen_of_heap h _⟩⟩
  have hj : j < 32 := by have := (List.getElem?_eq_some_iff.1 hv).1; rw [secL_len] at this; exact this
  rw [hc j hj, ← hv, secL_at _ _ hj]
  simp

set_option maxRecDepth 100000 in
theorem new_bad (n : Int) (w : World) (h : n < 0 ∨ 140 < n) :
    Calls Tryd.prog 19 #[.int .i64 n] w fun e w' => e = .returned (.tuple #[.pointer none, errV 2]) ∧ w' = w := by
  have HE : Hid (errV 2 = .iface 43 (.int .i64 2)) := Lib.hid rfl
  rw [HE.out]
  rcases Int.lt_or_le n 0 with h0 | h0
  · clear h
    go_enter Tryd.func19, Tryd.ntmps19
    go_wp2_with fail
    go_ret2
    exact ⟨rfl, rfl⟩
  · have h1 : 140 < n := by omega
    clear h
    go_enter Tryd.func19, Tryd.ntmps19
    go_wp2_with fail
    go_ret2
    exact ⟨rfl, rfl⟩
set_option maxRecDepth 100000 in
theorem new_good (n : Nat) (w : World) (h : n ≤ 140) :
    Calls Tryd.prog 19 #[.int .i64 (n : Int)] w fun e w' => ∃ d L M, e = .returned (.tuple #[.pointer (some ⟨d, 0, none⟩), .nilIface]) ∧ DskIn w' d L M (dNew n) ∧ Below w.heap.size w w' ∧ w.heap.size ≤ d ∧ w.heap.size ≤ L ∧ w.heap.size ≤ M := by
  have hmk := run_make_secs n w h
  have hmm := @run_makeMap Tryd.prog
  have h0 : ¬ (n : Int) < 0 := by omega
  have h1 : (n : Int) ≤ 140 := by omega
  go_enter Tryd.func19, Tryd.ntmps19
  go_wp2_with fail
  go_ret2
  have r0 := heap_alloc_new w (.cells (madeCells (secA []) (n * 32)) 121)
  refine ⟨w.heap.size + 1 + 1, rfl, w.heap.size, w.heap.size + 1, ?_, ?_, by omega, Nat.le_refl _, by omega⟩
  · have r1 := Below.heap_alloc ((w.alloc (.cells (madeCells (secA []) (n * 32)) 121)).alloc (.map #[] 0)) (.cells #[.slice (some ⟨w.heap.size, 0, none⟩) n n, .map (some (w.heap.size + 1))] 70) w.heap.size (by simp; omega)
    have r1' := r1.trans ((Below.heap_alloc (w.alloc (.cells (madeCells (secA []) (n * 32)) 121)) (.map #[] 0) w.heap.size (by simp)).trans r0)
    refine ⟨?_, fun i hi => (made_secs hi r1').1, fun i hi => (made_secs hi r1').2, ⟨_, dskD_nil (fun _ => rfl), ?_⟩, dNew_ok n, h, ?_, by omega, by omega, by omega⟩
    · exact heap_alloc_at _ _ _ (by simp)
    · have hm := World.ownsMap_made (w.alloc (.cells (madeCells (secA []) (n * 32)) 121)) Tryd.prog 3 secR
      have e : (w.alloc (.cells (madeCells (secA []) (n * 32)) 121)).heap.size = w.heap.size + 1 := by simp
      rw [e] at hm
      exact ownsMap_but (hm.mono (Nat.zero_le _)) (Below.heap_alloc _ _ _ (by simp))
    · show w.heap.size < (((w.heap.push _).push _).push _).size
      simp only [Array.size_push]
      omega
  · exact (((Below.refl _ _).alloc (Nat.le_refl _) _).alloc (by simp) _).alloc (by simp; omega) _
end Go.Proofs.YtjnbnkaocoamlabDoor
