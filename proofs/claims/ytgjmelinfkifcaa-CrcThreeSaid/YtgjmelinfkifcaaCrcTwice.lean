/-
  The contract of (noughts).twice.
-/
import Derived.Test.YtgjmelinfkifcaaCrcMat
import Derived.Deep.RegionHeld3
import Derived.Deep.MidRow
import Derived.Outline
namespace Go.Proofs.Ytgjmelinfkifcaa
open Go.RowKit

/-- What the loop keeps: the noughts that came in, the answer (not yet written), what has been done so far. -/
def TW (f g : Nat → Nat) (k : Nat) (w wr : World) : Prop :=
  wr.heap[w.heap.size]? = some (.cells (matA f) 45 (0, 0)) ∧ wr.heap[w.heap.size + 1]? = some (.cells zero32 45 (0, 0)) ∧
  wr.heap[w.heap.size + 1 + 1]? = some (.cells (matA (upto g k)) 45 (0, 0)) ∧ Below w.heap.size w wr
theorem TW.start (f g : Nat → Nat) (w : World) : TW f g 0 w (((w.alloc (.cells (matA f) 45)).alloc (.cells zero32 45)).alloc (.cells zero32 45)) := by
  have hs1 : ∀ (o : Obj), (w.alloc o).heap.size = w.heap.size + 1 := fun o => by simp
  have hs2 : ∀ (o o' : Obj), ((w.alloc o).alloc o').heap.size = w.heap.size + 1 + 1 := fun o o' => by simp
  refine ⟨?_, ?_, ?_, ?_⟩
  · rw [Below.heap_alloc _ _ _ (by rw [hs2]; omega), Below.heap_alloc _ _ _ (by rw [hs1]; omega), heap_alloc_new]
  · rw [Below.heap_alloc _ _ _ (by rw [hs2]; omega), ← hs1 (.cells (matA f) 45), heap_alloc_new]
  · rw [← hs2 (.cells (matA f) 45) (.cells zero32 45), heap_alloc_new, zero32_mat g]
  · exact (((Below.refl _ _).alloc (Nat.le_refl _) _).alloc (by simp) _).alloc (by simp; omega) _
theorem TW.step {f g : Nat → Nat} {k : Nat} {w wr : World} (h : TW f g k w wr) (hk : k < 32) (o : Obj) : TW f g (k + 1) w ((wr.setCell ⟨w.heap.size + 1 + 1, k, none⟩ (.int .u32 (g k : Nat))).alloc o).drew := by
  obtain ⟨h1, h2, h3, h4⟩ := h
  have hs : w.heap.size + 1 + 1 < wr.heap.size := (Array.getElem?_eq_some_iff.1 h3).1
  have hz : (wr.setCell ⟨w.heap.size + 1 + 1, k, none⟩ (.int .u32 (g k : Nat))).heap.size = wr.heap.size := by simp [World.setCell]
  unfold TW
  rw [heap_drew]
  refine ⟨?_, ?_, ?_, ?_⟩
  · rw [Below.heap_alloc _ _ _ (by omega), heap_setCell_other _ _ _ _ (by simp; omega), h1]
  · rw [Below.heap_alloc _ _ _ (by omega), heap_setCell_other _ _ _ _ (by simp), h2]
  · rw [Below.heap_alloc _ _ _ (by omega), heap_setCell_same _ _ _ _ _ _ h3, matA_set g k hk]
  · exact ((h4.setCell (by simp; omega) _).alloc (by omega) _).drew
theorem TW.cells {f g : Nat → Nat} {k : Nat} {w wr : World} (h : TW f g k w wr) (hk : k < 32) :
    wr.cell? ⟨w.heap.size, k, none⟩ = some (.int .u32 (f k : Nat)) ∧ wr.cell? ⟨w.heap.size + 1 + 1, k, none⟩ = some (.int .u32 (upto g k k : Nat)) ∧ wr.frozen? ⟨w.heap.size + 1 + 1, k, none⟩ = false ∧ w.heap.size + 1 + 1 < wr.heap.size := by
  obtain ⟨h1, h2, h3, h4⟩ := h
  refine ⟨?_, ?_, frozen_of_row _ _ _ _ _ h3, (Array.getElem?_eq_some_iff.1 h3).1⟩
  · rw [cell_of_row _ _ _ _ _ _ h1, matA_at _ _ hk]
  · rw [cell_of_row _ _ _ _ _ _ h3, matA_at _ _ hk]
theorem TW.range {f g : Nat → Nat} {k : Nat} {w wr : World} (h : TW f g k w wr) : wr.rangeAt w.heap.size 0 (matA f).toList := by
  intro j v hv
  rw [cell_of_row _ _ _ _ _ _ h.1]
  simpa using hv

theorem cell_alloc {w : World} {a : Addr} {v : Value} (h : w.cell? a = some v) (o : Obj) : (w.alloc o).cell? a = some v := by
  rw [World.cell?_alloc_some w a o (by rw [h]; rfl)]; exact h
theorem range_far {W : World} {b o : Nat} {cs : List Value} (h : W.rangeAt b o cs) (p : Addr) (hp : p.block ≠ b) (v : Value) : (W.setCell p v).rangeAt b o cs := by
  intro j u hu
  rw [World.cell?_setCell_far _ _ _ _ hp]
  exact h j u hu

set_option maxRecDepth 100000 in
set_option maxHeartbeats 1000000 in
theorem twice_any (f : Nat → Nat) (w : World) (hlt32 : ∀ i, i < 32 → f i < 4294967296) :
    Calls Try.prog 28 #[.agg (matA f)] w fun e w' => e = .returned (.agg (matA fun i => mulv f (f i) 32)) ∧ Below w.heap.size w w' := by
  have HF := Lib.hid hlt32
  clear hlt32
  go_enter Try.func28, Try.ntmps28
  go_wp2
  go_loopw [5] (fun i wr => ∃ k : Nat, k ≤ 32 ∧ i = .int .i64 k ∧ TW f (fun i => mulv f (f i) 32) k w wr) (fun i _ => 32 - (intOf i).toNat)
  case atStart => exact ⟨0, by omega, rfl, TW.start f _ w⟩
  case round =>
    obtain ⟨k, hk, rfl, hT⟩ := hrel
    by_cases hlt : k < 32
    · obtain ⟨c1, c2, c3, c4⟩ := hT.cells hlt
      have hr := hT.range
      have HT := Lib.hid hT
      clear hT
      have i0 : (0 : Int) ≤ (k : Int) := by omega
      have i1 : (k : Int) < 32 := by omega
      have hlen : (matA f).toList.length = 32 := by simp [matA_size]
      have hfar : (w.heap.size + 1 + 1) ≠ w.heap.size := by omega
      have hr0 := range_far hr ⟨w.heap.size + 1 + 1, k, none⟩ hfar (.int .u32 (mulv f (f k) 32 : Nat))
      have c0 : (wr.setCell ⟨w.heap.size + 1 + 1, k, none⟩ (.int .u32 (mulv f (f k) 32 : Nat))).cell? ⟨w.heap.size, k, none⟩ = some (.int .u32 (f k : Nat)) := by rw [World.cell?_setCell_far _ _ _ _ hfar]; exact c1
      have c5 := cell_alloc c1 (.cells (matA f) 45)
      have c8 := cell_alloc c0 (.cells (matA f) 45)
      have c6 := cell_alloc c2 (.cells (matA f) 45)
      have c7 : (wr.alloc (.cells (matA f) 45)).frozen? ⟨w.heap.size + 1 + 1, k, none⟩ = false := by rw [World.frozen?_alloc_past _ _ _ c4]; exact c3
      clear c2 c3 c0
      have hr1 := World.rangeAt_alloc hr (.cells (matA f) 45)
      have hr2 := World.rangeAt_alloc hr0 (.cells (matA f) 45)
      clear hr0
      have hu := Try.underlying45
      have hi : (Try.prog.info? 45).map (·.size) = some (matA f).toList.length := by rw [hlen, mat_info32]
      go_wp2
      go_region_held3 (fun w' => w'.cell? ⟨w.heap.size, k, none⟩ = some (.int .u32 (f k : Nat)) ∧ w'.rangeAt w.heap.size 0 (matA f).toList) (with_reducible (refine ⟨?_, ?_⟩ <;> simp only [World.cell?_drew, World.rangeAt_drew] <;> first | exact c1 | exact hr | exact c5 | exact hr1 | exact c8 | exact hr2))
        ((go_at_call 29; refine (carry_any f _ _ (Int.natCast_nonneg _) (Int.ofNat_lt.2 (HF.out k hlt)) HF.out).mono ?_; rintro e w' ⟨rfl, rfl⟩))
      go_wp2
      go_roundw
      case rel => exact ⟨k + 1, by omega, by go_num, HT.out.step hlt _⟩
      case measure => simp [intOf]; omega
    · obtain rfl : k = 32 := by omega
      obtain ⟨_, h2, h3, h4⟩ := hT
      rw [matA_all] at h3
      have HG0 := Lib.hid h2
      have HG := Lib.hid h3
      have HB := Lib.hid h4
      have HI := Lib.hid (mat_info fun i => mulv f (f i) 32)
      have HZ := Lib.hid (zero32_size fun i => mulv f (f i) 32)
      have HO := Lib.hid (matA_one fun i => mulv f (f i) 32)
      clear h2 h3 h4 hlt
      go_wp2_with (first | (with_reducible refine wpList_load_row rfl _ _ rfl _ rfl _ _ _ _ HG.out Try.underlying45 rfl HI.out ?_) | (with_reducible refine wpList_store_row rfl _ _ _ rfl _ _ rfl rfl _ _ HG0.out HI.out HZ.out HO.out ?_))
      refine bodyPost_ret (results_cell_row (p := 2) (ty := 45) (by kernel_rfl) _ _ (w.heap.size + 1) 45 _ (0, 0) _ rfl (setRow_heap _ _ _ _ _ _ HG0.out) Try.underlying45 rfl HI.out) rfl ⟨rfl, ?_⟩
      exact below_setRow HB.out (by omega) _
end Go.Proofs.Ytgjmelinfkifcaa
