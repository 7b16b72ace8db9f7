/-
  The contract of the document's VectorRead: what it throws is caught.
-/
import Derived.Test.YthdflbaknfiglaaDoorVecEntries
namespace Go.Proofs.YthdflbaknfiglaaDoor
open Go.RowKit

/-- What the document's VectorRead answers. -/
def RVReadIs (w : World) (s : List UInt8) (e : Ending) (w' : World) : Prop :=
  ∃ v, e = .returned (.tuple #[v, .int .i64 ((vreadF s).2.1 : Nat), .agg #[.int .i64 ((vreadF s).1 : Nat), .int .i64 (-1)]]) ∧ ownsE w' w.heap.size v (vreadF s).2.2 ∧ Below w.heap.size w w'

/-- The three results in memory. -/
def D3 (w W : World) (lv : Value) (m x pl : Int) : Prop :=
  W.heap[w.heap.size]? = some (.cells #[lv] 22 (0, 0)) ∧ W.heap[w.heap.size + 1]? = some (.cells #[.int .i64 m] 3 (0, 0)) ∧ W.heap[w.heap.size + 2]? = some (.cells #[.int .i64 x, .int .i64 pl] 29 (0, 0)) ∧ Below w.heap.size w W ∧ w.heap.size + 3 ≤ W.heap.size
theorem D3.cells {w W : World} {lv : Value} {m x pl : Int} (h : D3 w W lv m x pl) :
    W.cell? ⟨w.heap.size, 0, none⟩ = some lv ∧ W.cell? ⟨w.heap.size + 1, 0, none⟩ = some (.int .i64 m) ∧ W.cell? ⟨w.heap.size + 2, 0, none⟩ = some (.int .i64 x) ∧ W.cell? ⟨w.heap.size + 2, 1, none⟩ = some (.int .i64 pl) ∧
      W.frozen? ⟨w.heap.size, 0, none⟩ = false ∧ W.frozen? ⟨w.heap.size + 1, 0, none⟩ = false ∧ W.frozen? ⟨w.heap.size + 2, 0, none⟩ = false ∧ W.frozen? ⟨w.heap.size + 2, 1, none⟩ = false := by
  obtain ⟨h1, h2, h3, _⟩ := h
  exact ⟨cell_of_row _ _ 0 _ _ (0, 0) h1, cell_of_row _ _ 0 _ _ (0, 0) h2, cell_of_row _ _ 0 _ _ (0, 0) h3, cell_of_row _ _ 1 _ _ (0, 0) h3, Lib.frozen_of_heap h1 0, Lib.frozen_of_heap h2 0, Lib.frozen_of_heap h3 0, Lib.frozen_of_heap h3 1⟩
theorem D3.kept {w W W2 : World} {lv : Value} {m x pl : Int} {row : Option Nat} (h : D3 w W lv m x pl) (hg : W.grownBy W2 row) (hr : ∀ k, row = some k → w.heap.size + 3 ≤ k) : D3 w W2 lv m x pl := by
  obtain ⟨h1, h2, h3, h4, h5⟩ := h
  have ne : ∀ k, k < w.heap.size + 3 → some k ≠ row := fun k hk e => by have := hr k e.symm; omega
  exact ⟨(hg.block _ (by omega) (ne _ (by omega))).trans h1, (hg.block _ (by omega) (ne _ (by omega))).trans h2, (hg.block _ (by omega) (ne _ (by omega))).trans h3, h4.grown hg (by omega) (fun k hk => by have := hr k hk; omega), Nat.le_trans h5 hg.size⟩

set_option maxRecDepth 100000 in
theorem vreset_good (F O N : Nat) (pl : Int) (u : FrameMode) (w : World) (c0 : w.cell? ⟨F, 0, none⟩ = some (.int .i64 0)) (c1 : w.cell? ⟨F, 1, none⟩ = some (.int .i64 pl)) :
    CallsD Tryd.prog 48 #[.pointer (some ⟨F, 0, none⟩), .pointer (some ⟨O, 0, none⟩), .pointer (some ⟨N, 0, none⟩)] u w fun r u' w' => u' = u ∧ (r = .returned (.tuple #[]) ∧ Below w.heap.size w w') := by
  go_enter_d Tryd.func48, Tryd.ntmps48
  go_wp2_with fail
  refine (is_any 0 pl _).mono ?_
  rintro r w1 ⟨rfl, hb1⟩
  have HB1 := Lib.hid hb1
  clear hb1
  go_wp2
  go_end0
  exact ⟨rfl, HB1.out⟩
set_option maxRecDepth 100000 in
theorem vreset_bad (F O N : Nat) (e pl m : Int) (v : Value) (u : FrameMode) (w : World) (he : (e == 0) = false) (c0 : w.cell? ⟨F, 0, none⟩ = some (.int .i64 e)) (c1 : w.cell? ⟨F, 1, none⟩ = some (.int .i64 pl)) (hF : F < w.heap.size) (hO : O < w.heap.size) (hN : N < w.heap.size) (hFO : F ≠ O) (hFN : F ≠ N) (hON : O ≠ N)
    (o0 : w.cell? ⟨O, 0, none⟩ = some v) (n0 : w.cell? ⟨N, 0, none⟩ = some (.int .i64 m)) (y0 : w.frozen? ⟨O, 0, none⟩ = false) (y1 : w.frozen? ⟨N, 0, none⟩ = false) (y2 : w.frozen? ⟨F, 0, none⟩ = false) (y3 : w.frozen? ⟨F, 1, none⟩ = false) :
    CallsD Tryd.prog 48 #[.pointer (some ⟨F, 0, none⟩), .pointer (some ⟨O, 0, none⟩), .pointer (some ⟨N, 0, none⟩)] u w fun r u' w' => u' = u ∧ (r = .returned (.tuple #[]) ∧ ∃ w1, Below w.heap.size w w1 ∧ w' = (((w1.setCell ⟨O, 0, none⟩ (.slice none 0 0)).setCell ⟨N, 0, none⟩ (.int .i64 0)).setCell ⟨F, 0, none⟩ (.int .i64 e)).setCell ⟨F, 1, none⟩ (.int .i64 (-1))) := by
  go_enter_d Tryd.func48, Tryd.ntmps48
  go_wp2_with fail
  refine (is_any e pl _).mono ?_
  rintro r w1 ⟨rfl, hb1⟩
  rw [he]
  have d0 : w1.cell? ⟨F, 0, none⟩ = some (.int .i64 e) := (hb1.cell hF).trans c0
  have HB1 := Lib.hid hb1
  have hz := hb1.size
  clear hb1
  go_wp2_with fail
  refine (baref_any e _).mono ?_
  rintro r w2 ⟨rfl, hb2⟩
  have hb3 := HB1.out.trans (hb2.mono hz)
  have e0 : w2.cell? ⟨F, 0, none⟩ = some (.int .i64 e) := (hb3.cell hF).trans c0
  have e1 : w2.cell? ⟨F, 1, none⟩ = some (.int .i64 pl) := (hb3.cell hF).trans c1
  have e2 : w2.cell? ⟨O, 0, none⟩ = some v := (hb3.cell hO).trans o0
  have e3 : w2.cell? ⟨N, 0, none⟩ = some (.int .i64 m) := (hb3.cell hN).trans n0
  have x0 : w2.frozen? ⟨F, 0, none⟩ = false := (hb3.frozen hF).trans y2
  have x1 : w2.frozen? ⟨F, 1, none⟩ = false := (hb3.frozen hF).trans y3
  have x2 : w2.frozen? ⟨O, 0, none⟩ = false := (hb3.frozen hO).trans y0
  have x3 : w2.frozen? ⟨N, 0, none⟩ = false := (hb3.frozen hN).trans y1
  have HB3 := Lib.hid hb3
  clear hb2 hb3 c0 c1 o0 n0 y0 y1 y2 y3 d0
  go_wp2
  go_end0
  exact ⟨rfl, w2, HB3.out, rfl⟩
end Go.Proofs.YthdflbaknfiglaaDoor
