/-
  The reference's Unbody: its door; what it keeps in memory on its way.
-/
import Derived.Test.YtkafhlpnhgipeaaGreatDoorPk17
import Derived.Test.YtkafhlpnhgipeaaGreatDoorPk22
import Derived.Test.YtkafhlpnhgipeaaGreatDoorPk15
import Derived.Test.YtkafhlpnhgipeaaGreatDoorPk18
import Derived.Test.YtkafhlpnhgipeaaGreatDoorPk19
import Derived.Test.YtkafhlpnhgipeaaGreatDoorPk14
import Derived.Test.YtkafhlpnhgipeaaGreatDoorPk11
import Derived.Deep.RegionHeld3
namespace Go.Proofs.YtkafhlpnhgipeaaGreatDoor
open Go.RowKit

/-- What the reference's Unbody answers. -/
def RUnbodyIs (w : World) (s : List UInt8) (e : Ending) (w' : World) : Prop :=
  Below w.heap.size w w' ∧ ((∃ x pl, unbF s = .inl (x, pl) ∧ e = .returned (.tuple #[.agg #[.slice none 0 0, .slice none 0 0, .slice none 0 0], .agg #[.int .i64 (x : Nat), .int .i64 pl]])) ∨
    ∃ f h l vf vh vw, unbF s = .inr (f, h, l) ∧ e = .returned (.tuple #[.agg #[vf, vh, vw], .agg #[.int .i64 0, .int .i64 (-1)]]) ∧ BatOwn w' w.heap.size vf vh vw f h l)

/-- The two results in memory. -/
def UD (w W : World) (vf vh vw : Value) (x pl : Int) : Prop :=
  W.heap[w.heap.size]? = some (.cells #[vf, vh, vw] 25 (0, 0)) ∧ W.heap[w.heap.size + 1]? = some (.cells #[.int .i64 x, .int .i64 pl] 29 (0, 0)) ∧ Below w.heap.size w W ∧ w.heap.size + 2 ≤ W.heap.size
theorem UD.cells {w W : World} {vf vh vw : Value} {x pl : Int} (h : UD w W vf vh vw x pl) :
    (W.cell? ⟨w.heap.size, 0, none⟩ = some vf ∧ W.cell? ⟨w.heap.size, 1, none⟩ = some vh ∧ W.cell? ⟨w.heap.size, 2, none⟩ = some vw) ∧ (W.cell? ⟨w.heap.size + 1, 0, none⟩ = some (.int .i64 x) ∧ W.cell? ⟨w.heap.size + 1, 1, none⟩ = some (.int .i64 pl)) ∧
      (W.frozen? ⟨w.heap.size, 0, none⟩ = false ∧ W.frozen? ⟨w.heap.size, 1, none⟩ = false ∧ W.frozen? ⟨w.heap.size, 2, none⟩ = false) ∧ W.frozen? ⟨w.heap.size + 1, 0, none⟩ = false ∧ W.frozen? ⟨w.heap.size + 1, 1, none⟩ = false := by
  obtain ⟨h1, h2, _⟩ := h
  exact ⟨⟨cell_of_row _ _ 0 _ _ (0, 0) h1, cell_of_row _ _ 1 _ _ (0, 0) h1, cell_of_row _ _ 2 _ _ (0, 0) h1⟩, ⟨cell_of_row _ _ 0 _ _ (0, 0) h2, cell_of_row _ _ 1 _ _ (0, 0) h2⟩, ⟨Lib.frozen_of_heap h1 0, Lib.frozen_of_heap h1 1, Lib.frozen_of_heap h1 2⟩, Lib.frozen_of_heap h2 0, Lib.frozen_of_heap h2 1⟩
theorem UD.kept {w W W2 : World} {vf vh vw : Value} {x pl : Int} {row : Option Nat} (h : UD w W vf vh vw x pl) (hg : W.grownBy W2 row) (hr : ∀ k, row = some k → w.heap.size + 2 ≤ k) : UD w W2 vf vh vw x pl := by
  obtain ⟨h1, h2, h4, h5⟩ := h
  have ne : ∀ k, k < w.heap.size + 2 → some k ≠ row := fun k hk e => by have := hr k e.symm; omega
  exact ⟨(hg.block _ (by omega) (ne _ (by omega))).trans h1, (hg.block _ (by omega) (ne _ (by omega))).trans h2, h4.grown hg (by omega) (fun k hk => by have := hr k hk; omega), Nat.le_trans h5 hg.size⟩
theorem UD.put {w W : World} {vf vh vw uf uh uw v : Value} {x pl : Int} {o : Nat} (h : UD w W vf vh vw x pl) (hs : (#[vf, vh, vw] : Array Value).setIfInBounds o v = #[uf, uh, uw]) : UD w (W.setCell ⟨w.heap.size, o, none⟩ v) uf uh uw x pl := by
  obtain ⟨h1, h2, h4, h5⟩ := h
  exact ⟨by rw [heap_setCell_same _ _ _ _ _ _ h1, hs], row_setCell h2 (by omega) v, h4.setCell (Nat.le_refl _) _, by simpa using h5⟩
theorem UD.row {w W : World} {vf vh vw uf uh uw : Value} {x pl : Int} (h : UD w W vf vh vw x pl) : UD w (W.setRow w.heap.size #[uf, uh, uw]) uf uh uw x pl := by
  obtain ⟨h1, h2, h4, h5⟩ := h
  exact ⟨row_set h1 _, row_setRow h2 (by omega), below_row h4 (Nat.le_refl _) _, by simpa [World.setRow] using h5⟩
theorem UD.fault {w W : World} {vf vh vw : Value} {x pl : Int} (h : UD w W vf vh vw x pl) (e p : Int) : UD w ((W.setCell ⟨w.heap.size + 1, 0, none⟩ (.int .i64 e)).setCell ⟨w.heap.size + 1, 1, none⟩ (.int .i64 p)) vf vh vw e p := by
  obtain ⟨h1, h2, h4, h5⟩ := h
  exact ⟨row_setCell (row_setCell h1 (by omega) _) (by omega) _, rowF.put (F := w.heap.size + 1) h2 e p, below_put h4 (Nat.le_succ _) _ _, by simpa using h5⟩

set_option maxRecDepth 100000 in
theorem ureset_good (F O : Nat) (pl : Int) (u : FrameMode) (w : World) (c0 : w.cell? ⟨F, 0, none⟩ = some (.int .i64 0)) (c1 : w.cell? ⟨F, 1, none⟩ = some (.int .i64 pl)) :
    CallsD Tryz.prog 27 #[.pointer (some ⟨F, 0, none⟩), .pointer (some ⟨O, 0, none⟩)] u w fun r u' w' => u' = u ∧ (r = .returned (.tuple #[]) ∧ Below w.heap.size w w') := by
  go_enter_d Tryz.func27, Tryz.ntmps27
  go_wp2_with fail
  refine (is_any 0 pl _).mono ?_
  rintro r w1 ⟨rfl, hb1⟩
  have HB1 := Lib.hid hb1
  clear hb1
  go_wp2
  go_end0
  exact ⟨rfl, HB1.out⟩
set_option maxRecDepth 100000 in
theorem ureset_bad (F O : Nat) (e pl : Int) (vf vh vw : Value) (u : FrameMode) (w : World) (he : (e == 0) = false) (c0 : w.cell? ⟨F, 0, none⟩ = some (.int .i64 e)) (c1 : w.cell? ⟨F, 1, none⟩ = some (.int .i64 pl)) (hO : O < w.heap.size) (hrow : w.heap[O]? = some (.cells #[vf, vh, vw] 25 (0, 0))) :
    CallsD Tryz.prog 27 #[.pointer (some ⟨F, 0, none⟩), .pointer (some ⟨O, 0, none⟩)] u w fun r u' w' => u' = u ∧ (r = .returned (.tuple #[]) ∧ ∃ w1, Below w.heap.size w w1 ∧ w' = w1.setRow O #[.slice none 0 0, .slice none 0 0, .slice none 0 0]) := by
  go_enter_d Tryz.func27, Tryz.ntmps27
  go_wp2_with fail
  refine (is_any e pl _).mono ?_
  rintro r w1 ⟨rfl, hb1⟩
  rw [he]
  have HROW := Lib.hid ((hb1.block O hO).trans hrow)
  have HI := Lib.hid (bat_sized (.slice none 0 0) (.slice none 0 0) (.slice none 0 0))
  have HONE := Lib.hid (bat_ones none none none 0 0 0 0 0 0)
  have HSAME := Lib.hid (bat_same vf vh vw (.slice none 0 0) (.slice none 0 0) (.slice none 0 0))
  have HB1 := Lib.hid hb1
  clear hb1 hrow
  go_wp2_with (with_reducible refine wpList_store_row rfl _ _ _ rfl _ _ rfl rfl _ _ HROW.out HI.out HSAME.out HONE.out ?_)
  go_end0
  exact ⟨rfl, w1, HB1.out, rfl⟩

/-- What stands at the door: the two deferred calls. -/
def udoor (w : World) : List Deferred :=
  [{ target := .fn (Fn.func 28) #[], args := #[.pointer (some ⟨w.heap.size + 1, 0, none⟩)] },
    { target := .fn (Fn.func 27) #[.pointer (some ⟨w.heap.size + 1, 0, none⟩), .pointer (some ⟨w.heap.size, 0, none⟩)], args := #[] }]

set_option maxRecDepth 100000 in
set_option maxHeartbeats 1000000 in
theorem udoor_bad {w W : World} {vf vh vw : Value} {s : List UInt8} (e : Nat) (pl : Int) (h : UD w W vf vh vw 0 (-1)) (he : e ≠ 0) (hrd : unbF s = .inl (e, pl)) (tmps : Array Value)
    (t2 : tmps[2]? = some (.pointer (some ⟨w.heap.size, 0, none⟩))) (t3 : tmps[3]? = some (.pointer (some ⟨w.heap.size + 1, 0, none⟩))) :
    Leaves Tryz.prog Tryz.f9 tmps (RUnbodyIs w s) (udoor w) (.panicking [{ v := .iface 130 (.agg #[.int .i64 (e : Int), .int .i64 pl]), recovered := false }]) W := by
  obtain ⟨_, ⟨c0, c1⟩, _, z0, z1⟩ := h.cells
  have hz := h.2.2.2
  have hbe : ((e : Int) == 0) = false := by simp; omega
  obtain ⟨W2, hW2⟩ : ∃ W2, (W.setCell ⟨w.heap.size + 1, 0, none⟩ (.int .i64 (e : Int))).setCell ⟨w.heap.size + 1, 1, none⟩ (.int .i64 pl) = W2 := ⟨_, rfl⟩
  have h2 : UD w W2 vf vh vw e pl := by rw [← hW2]; exact h.fault e pl
  obtain ⟨W3, hW3⟩ : ∃ W3, W2.alloc (.cells #[.int .i64 (e : Int), .int .i64 pl] 130) = W3 := ⟨_, rfl⟩
  have h3 : UD w W3 vf vh vw e pl := by rw [← hW3]; exact h2.kept (World.grownBy_alloc W2 _ none) (fun k hk => by cases hk)
  have hz3 := h3.2.2.2
  obtain ⟨_, ⟨p2, p3⟩, _⟩ := h3.cells
  unfold udoor
  refine leaves_cons (f := 28) (args := #[.pointer (some ⟨w.heap.size + 1, 0, none⟩)]) (by simp) (by simp [go_sem]) ?_
  refine (caught_pan (w.heap.size + 1) e pl 0 (-1) [] W (by omega) c0 c1 z0 z1).mono ?_
  rintro r u' w2 ⟨rfl, rfl, rfl⟩
  rw [hW2, hW3]
  refine leaves_cons (f := 27) (args := #[.pointer (some ⟨w.heap.size + 1, 0, none⟩), .pointer (some ⟨w.heap.size, 0, none⟩)]) (by simp [settle]) (by simp [go_sem]) ?_
  refine (ureset_bad (w.heap.size + 1) w.heap.size e pl vf vh vw _ _ hbe p2 p3 (by omega) h3.1).mono ?_
  rintro r u' w4 ⟨rfl, rfl, w5, hb5, rfl⟩
  have h6 := (h3.kept (grown_b hb5) (fun k hk => by cases hk)).row (uf := .slice none 0 0) (uh := .slice none 0 0) (uw := .slice none 0 0)
  obtain ⟨⟨q0, q1, q2⟩, ⟨v2, v3⟩, _⟩ := h6.cells
  exact ⟨.tuple #[.agg #[.slice none 0 0, .slice none 0 0, .slice none 0 0], .agg #[.int .i64 (e : Int), .int .i64 pl]], by simp [results, Tryz.results9, go_sem, t2, t3, q0, q1, q2, v2, v3], h6.2.2.1, .inl ⟨e, pl, hrd, rfl⟩⟩

set_option maxRecDepth 100000 in
set_option maxHeartbeats 1000000 in
theorem udoor_good {w W : World} {vf vh vw : Value} {f h : List Ent} {l : List Wr} {s : List UInt8} (hd : UD w W vf vh vw 0 (-1)) (ho : BatOwn W (w.heap.size + 2) vf vh vw f h l) (hrd : unbF s = .inr (f, h, l)) (tmps : Array Value)
    (t2 : tmps[2]? = some (.pointer (some ⟨w.heap.size, 0, none⟩))) (t3 : tmps[3]? = some (.pointer (some ⟨w.heap.size + 1, 0, none⟩))) :
    Leaves Tryz.prog Tryz.f9 tmps (RUnbodyIs w s) (udoor w) .returning W := by
  obtain ⟨_, ⟨c0, c1⟩, _⟩ := hd.cells
  unfold udoor
  refine leaves_cons (f := 28) (args := #[.pointer (some ⟨w.heap.size + 1, 0, none⟩)]) (by simp) (by simp [go_sem]) ?_
  refine (caught_idle _ W).mono ?_
  rintro r u' w2 ⟨rfl, rfl, rfl⟩
  refine leaves_cons (f := 27) (args := #[.pointer (some ⟨w.heap.size + 1, 0, none⟩), .pointer (some ⟨w.heap.size, 0, none⟩)]) (by simp [settle]) (by simp [go_sem]) ?_
  refine (ureset_good (w.heap.size + 1) w.heap.size (-1) _ _ c0 c1).mono ?_
  rintro r u' w3 ⟨rfl, rfl, hb3⟩
  have h3 := hd.kept (grown_b hb3) (fun k hk => by cases hk)
  obtain ⟨⟨q0, q1, q2⟩, ⟨v2, v3⟩, _⟩ := h3.cells
  exact ⟨.tuple #[.agg #[vf, vh, vw], .agg #[.int .i64 0, .int .i64 (-1)]], by simp [results, Tryz.results9, go_sem, t2, t3, q0, q1, q2, v2, v3], h3.2.2.1, .inr ⟨f, h, l, vf, vh, vw, hrd, rfl, (ho.keep (grown_b hb3) (fun k hk => by cases hk)).mono (by omega)⟩⟩
end Go.Proofs.YtkafhlpnhgipeaaGreatDoor
