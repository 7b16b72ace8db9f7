/-
  slices.Clone of any writes, none too.
-/
import Derived.Test.YtgelfjcmggicdaaGreatDoorPk18
import Derived.OneCell
namespace Go.Proofs.YtgelfjcmggicdaaGreatDoor
open Go.RowKit

theorem wpList_append_zero {w : World} {ops : Array Oper} {rest : List Oper} {o : Oper} {a : Act} {Q : Exit → Act → World → Prop} (hgd : o.guard = none) (s x : Operand)
    (ho : o.op = .call { callee := .builtin .append, args := #[s, x], argTypes := #[23, 23] })
    (g : Nat) (hs : a.eval s = .slice (some ⟨g, 0, none⟩) 0 0) (p : Option Addr) (c : Nat) (hx : a.eval x = .slice p 0 c)
    (h : wpList Tryz.prog ops Q rest (a.put o.dst (.slice (some ⟨g, 0, none⟩) 0 0)) w) : wpList Tryz.prog ops Q (o :: rest) a w := by
  obtain ⟨i0, hi, hz0, hz1, hz2⟩ := info_parts info_wr
  refine wpList_plain hgd fun K hK => ?_
  have hrun : (Builtin.append_ #[23, 23] o.type #[.slice (some ⟨g, 0, none⟩) 0 0, .slice p 0 c]).run Tryz.prog w = .ok (.slice (some ⟨g, 0, none⟩) 0 0) w := by
    cases p <;> simp [Builtin.append_, run_underlying Tryz.underlying23, sizeOf, typeInfo, hi, Builtin.lenOf, Builtin.firstCells, storeCells, loadCells, loadCellsFrom]
  unfold Oper.wp
  simp [execOp, ho, resolve, invoke, builtin, hs, hx, hrun, Result.andThen]
  exact hK _ _ h

set_option maxRecDepth 100000 in
set_option maxHeartbeats 4000000 in
theorem clone_wr0 (p : Option Addr) (c : Nat) (w : World) :
    Calls Tryz.prog 25 #[.slice p 0 c] w fun e w' => ∃ v', e = .returned v' ∧ ownsW w' w.heap.size v' [] ∧ Below w.heap.size w w' := by
  cases p with
  | none =>
    have heq : ∀ w : World, (binOp BinOp.eql 23 (.slice none 0 c) (.slice none 0 0)).run Tryz.prog w = .ok (.bool true) w := fun w => Go.Lib.run_eql_slice_nil w _ _ none 0 c 0 0 Tryz.underlying23
    go_enter Tryz.func25, Tryz.ntmps25
    go_wp2
    go_ret
    exact ⟨_, rfl, ownsW_nil _ _, Below.refl _ _⟩
  | some a =>
    have heq : ∀ w : World, (binOp BinOp.eql 23 (.slice (some a) 0 c) (.slice none 0 0)).run Tryz.prog w = .ok (.bool false) w := fun w => Go.Lib.run_eql_slice_nil w _ _ (some a) 0 c 0 0 Tryz.underlying23
    go_enter Tryz.func25, Tryz.ntmps25
    go_wp2_with (at_builtin; refine wpList_append_zero rfl _ _ rfl w.heap.size rfl (some a) c rfl ?_)
    go_ret
    exact ⟨_, rfl, ownsW_none w, (Below.refl _ _).alloc (Nat.le_refl _) _⟩
theorem clone_wr (v : Value) (l : List Wr) (w : World) (hv : IsWrs w v l) (h6 : l.length ≤ 1000000) :
    Calls Tryz.prog 25 #[v] w fun e w' => ∃ v', e = .returned v' ∧ ownsW w' w.heap.size v' l ∧ Below w.heap.size w w' := by
  rcases Nat.eq_zero_or_pos l.length with h0 | h0
  · obtain rfl := List.length_eq_zero_iff.1 h0
    obtain ⟨a, c, rfl, _⟩ := hv.form
    exact clone_wr0 a c w
  · exact clone_wrs v l w hv h0 h6
/-- One write's cell, another value. -/
theorem wrsC_set {l : List Wr} {i : Nat} {x y : Wr} {k : Nat} {u : Value} (hx : l[i]? = some x) (hk : k < 6) (h : wrC y = (wrC x).set k u) : wrsC (l.set i y) = (wrsC l).set (i * 6 + k) u := by
  induction l generalizing i with
  | nil => simp at hx
  | cons a r ih =>
    have hc : ∀ b : Wr, wrsC (b :: r) = wrC b ++ wrsC r := fun b => by simp [wrsC]
    have h3 : ∀ b : Wr, (wrC b).length = 6 := fun _ => rfl
    cases i with
    | zero =>
      simp only [List.getElem?_cons_zero, Option.some.injEq] at hx
      subst hx
      rw [List.set_cons_zero, hc, hc, h, Nat.zero_mul, Nat.zero_add, List.set_append_left _ _ (by rw [h3]; exact hk)]
    | succ i =>
      simp only [List.getElem?_cons_succ] at hx
      have hc2 : wrsC (a :: r.set i y) = wrC a ++ wrsC (r.set i y) := by simp [wrsC]
      rw [List.set_cons_succ, hc2, hc, ih hx, List.set_append_right _ _ (by rw [h3]; omega), h3, show (i + 1) * 6 + k - 6 = i * 6 + k by omega]
theorem ownsW.stored {w : World} {base g n cap : Nat} {l : List Wr} (h : ownsW w base (.slice (some ⟨g, 0, none⟩) n cap) l) (hn : n = l.length) {i : Nat} {x y : Wr} {k : Nat} {u : Value} (hx : l[i]? = some x) (hk : k < 6) (hu : wrC y = (wrC x).set k u) :
    ownsW (w.setCell ⟨g, i * 6 + k, none⟩ u) base (.slice (some ⟨g, 0, none⟩) n cap) (l.set i y) ∧ w.grownBy (w.setCell ⟨g, i * 6 + k, none⟩ u) (some g) := by
  subst hn
  unfold ownsW at h ⊢
  rw [List.length_set, wrsC_set hx hk hu]
  exact World.ownsRow.stored h _ _
/-- So many turned. -/
def mapTo (G : Wr → Wr) (l : List Wr) (k : Nat) : List Wr := (l.take k).map G ++ l.drop k
theorem mapTo_zero (G : Wr → Wr) (l : List Wr) : mapTo G l 0 = l := by simp [mapTo]
theorem mapTo_all (G : Wr → Wr) (l : List Wr) : mapTo G l l.length = l.map G := by simp [mapTo]
theorem mapTo_len (G : Wr → Wr) (l : List Wr) (k : Nat) : (mapTo G l k).length = l.length := by simp [mapTo]; omega
theorem mapTo_at {G : Wr → Wr} {l : List Wr} {k : Nat} {x : Wr} (hx : l[k]? = some x) : (mapTo G l k)[k]? = some x := by
  obtain ⟨hk, _⟩ := List.getElem?_eq_some_iff.1 hx
  unfold mapTo
  rw [List.getElem?_append_right (by simp; omega)]
  simp only [List.length_map, List.length_take]
  rw [List.getElem?_drop, ← hx]
  congr 1
  omega
theorem mapTo_set {G : Wr → Wr} {l : List Wr} {k : Nat} {x : Wr} (hx : l[k]? = some x) : (mapTo G l k).set k (G x) = mapTo G l (k + 1) := by
  obtain ⟨hk, _⟩ := List.getElem?_eq_some_iff.1 hx
  unfold mapTo
  rw [List.set_append_right _ _ (by simp; omega)]
  simp only [List.length_map, List.length_take]
  rw [show k - min k l.length = 0 by omega, List.drop_eq_getElem_cons hk, List.set_cons_zero, List.take_add_one, hx]
  simp
/-- A batch's block, whole. -/
def rowB3 (w : World) (B : Nat) (a b c : Value) : Prop := w.heap[B]? = some (.cells #[a, b, c] 25 (0, 0))
theorem rowB3.new (w : World) (a b c : Value) : rowB3 (w.alloc (.cells #[a, b, c] 25)) w.heap.size a b c := heap_alloc_new w _
theorem rowB3.at {w : World} {B : Nat} {a b c : Value} (h : rowB3 w B a b c) : w.cell? ⟨B, 0, none⟩ = some a ∧ w.cell? ⟨B, 1, none⟩ = some b ∧ w.cell? ⟨B, 2, none⟩ = some c :=
  ⟨by rw [cell_of_row _ _ _ _ _ (0, 0) h]; rfl, by rw [cell_of_row _ _ _ _ _ (0, 0) h]; rfl, by rw [cell_of_row _ _ _ _ _ (0, 0) h]; rfl⟩
theorem rowB3.frozen {w : World} {B : Nat} {a b c : Value} (h : rowB3 w B a b c) (j : Nat) : w.frozen? ⟨B, j, none⟩ = false := frozen_of_row w B j _ _ h
theorem rowB3.set2 {w : World} {B : Nat} {a b c : Value} (h : rowB3 w B a b c) (u : Value) : rowB3 (w.setCell ⟨B, 2, none⟩ u) B a b u := heap_setCell_same w B 2 _ _ u h
theorem rowB3.other {w : World} {B : Nat} {a b c : Value} (h : rowB3 w B a b c) (g j : Nat) (hg : B ≠ g) (u : Value) : rowB3 (w.setCell ⟨g, j, none⟩ u) B a b c := (heap_setCell_other w ⟨g, j, none⟩ B u hg).trans h
theorem rowB3.below {w w' : World} {B m : Nat} {a b c : Value} (h : rowB3 w B a b c) (hb : Below m w w') (hm : B < m) : rowB3 w' B a b c := (hb.block B hm).trans h
theorem ownsW.other {w : World} {base : Nat} {v : Value} {l : List Wr} (h : ownsW w base v l) (B j : Nat) (hB : B < base) (u : Value) : ownsW (w.setCell ⟨B, j, none⟩ u) base v l :=
  ownsRow_setCell_other h (a := ⟨B, j, none⟩) (fun e => by have := (h.lt B e).1; omega) u
/-- A cell of one of its writes. -/
theorem ownsW.cellAt {w : World} {base g n cap : Nat} {m : List Wr} (h : ownsW w base (.slice (some ⟨g, 0, none⟩) n cap) m) (hn : n = m.length) {k j : Nat} {x : Wr} (hx : m[k]? = some x) (hj : j < 6) : w.cell? ⟨g, k * 6 + j, none⟩ = (wrC x)[j]? := by
  subst hn
  have hk : k < m.length := (List.getElem?_eq_some_iff.1 hx).1
  rw [World.ownsRow.cellAt h (k * 6 + j) (by omega)]
  exact wrsC_at m k j x hx hj
theorem ownsW.frozenAt {w : World} {base g n cap : Nat} {m : List Wr} (h : ownsW w base (.slice (some ⟨g, 0, none⟩) n cap) m) (hn : n = m.length) (j : Nat) : w.frozen? ⟨g, j, none⟩ = false := by
  subst hn
  exact World.ownsRow.frozenAt h j
/-- Its form. -/
theorem ownsW.slice {w : World} {base : Nat} {v : Value} {l : List Wr} (h : ownsW w base v l) : ∃ a c, v = .slice a l.length c := by
  obtain ⟨a, c, h2, _⟩ := h.is.form
  exact ⟨a, c, h2⟩
theorem ownsW.some {w : World} {base : Nat} {a : Option Addr} {n c : Nat} {l : List Wr} (h : ownsW w base (.slice a n c) l) (h0 : 0 < l.length) : ∃ g, a = some ⟨g, 0, none⟩ ∧ base ≤ g ∧ g < w.heap.size := by
  obtain ⟨g, c2, e, hb, hg, _⟩ := h.rowAt h0
  injection e with e1 e2 e3
  exact ⟨g, e1, hb, hg⟩
end Go.Proofs.YtgelfjcmggicdaaGreatDoor
