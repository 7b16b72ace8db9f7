/-
  A receiver in memory: its struct, its bytes, which of them are there, its disk.
-/
import Derived.Test.YtjnbnkaocoamlabDoorDskIn
import Derived.Test.YtjnbnkaocoamlabDoorRcvM
namespace Go.Proofs.YtjnbnkaocoamlabDoor
open Go.RowKit

def dataC (f : Nat → Option UInt8) (n : Nat) : Array Value := ((List.range n).map fun i => Value.int .u8 ((((f i).getD 0).toNat : Nat) : Int)).toArray
def thereC (f : Nat → Option UInt8) (n : Nat) : Array Value := ((List.range n).map fun i => Value.bool (f i).isSome).toArray
theorem dataC_size (f : Nat → Option UInt8) (n : Nat) : (dataC f n).size = n := by simp [dataC]
theorem thereC_size (f : Nat → Option UInt8) (n : Nat) : (thereC f n).size = n := by simp [thereC]
theorem dataC_at (f : Nat → Option UInt8) {n i : Nat} (h : i < n) : (dataC f n)[i]? = some (.int .u8 ((((f i).getD 0).toNat : Nat) : Int)) := by unfold dataC; simp [h]
theorem thereC_at (f : Nat → Option UInt8) {n i : Nat} (h : i < n) : (thereC f n)[i]? = some (.bool (f i).isSome) := by unfold thereC; simp [h]
/-- One byte more is there. -/
def updC (f : Nat → Option UInt8) (p : Nat) (b : UInt8) : Nat → Option UInt8 := fun i => if i = p then some b else f i
theorem dataC_set (f : Nat → Option UInt8) {n p : Nat} (h : p < n) (b : UInt8) : (dataC f n).setIfInBounds p (.int .u8 ((b.toNat : Nat) : Int)) = dataC (updC f p b) n := by
  apply Array.ext_getElem?
  intro i
  rw [Array.getElem?_setIfInBounds, dataC_size]
  by_cases hi : i < n
  · by_cases e : p = i
    · subst e; rw [if_pos rfl, if_pos hi, dataC_at _ hi]; unfold updC; rw [if_pos rfl]; rfl
    · rw [if_neg e, dataC_at _ hi, dataC_at _ hi]; unfold updC; rw [if_neg (fun h => e h.symm)]
  · rw [Array.getElem?_eq_none (by rw [dataC_size]; omega), Array.getElem?_eq_none (by rw [dataC_size]; omega), if_neg (by omega)]
theorem thereC_set (f : Nat → Option UInt8) {n p : Nat} (h : p < n) (b : UInt8) : (thereC f n).setIfInBounds p (.bool true) = thereC (updC f p b) n := by
  apply Array.ext_getElem?
  intro i
  rw [Array.getElem?_setIfInBounds, thereC_size]
  by_cases hi : i < n
  · by_cases e : p = i
    · subst e; rw [if_pos rfl, if_pos hi, thereC_at _ hi]; unfold updC; rw [if_pos rfl]; rfl
    · rw [if_neg e, thereC_at _ hi, thereC_at _ hi]; unfold updC; rw [if_neg (fun h => e h.symm)]
  · rw [Array.getElem?_eq_none (by rw [thereC_size]; omega), Array.getElem?_eq_none (by rw [thereC_size]; omega), if_neg (by omega)]

/-- Its two rows: none while nothing came. -/
def RowsIn (w : World) (r d L M DB TB : Nat) (vd vt : Value) (f : Nat → Option UInt8) (tot : Nat) : Prop :=
  (tot = 0 ∧ vd = .slice none 0 0 ∧ vt = .slice none 0 0) ∨
  (0 < tot ∧ vd = .slice (some ⟨DB, 0, none⟩) tot tot ∧ vt = .slice (some ⟨TB, 0, none⟩) tot tot ∧ w.heap[DB]? = some (.cells (dataC f tot) 5 (0, 0)) ∧ w.heap[TB]? = some (.cells (thereC f tot) 4 (0, 0)) ∧
    DB ≠ TB ∧ r ≠ DB ∧ r ≠ TB ∧ d ≠ DB ∧ d ≠ TB ∧ L ≠ DB ∧ L ≠ TB ∧ M ≠ DB ∧ M ≠ TB)
structure RcvIn (w : World) (r d L M DB TB : Nat) (vd vt : Value) (X : Rcv) : Prop where
  row : w.heap[r]? = some (.cells #[.pointer (some ⟨d, 0, none⟩), .int .u32 X.nm, vd, vt, .int .i64 X.saved, .int .i64 X.safe, .int .u64 X.marks] 56 (0, 0))
  dsk : DskIn w d L M X.d
  n140 : X.d.n = 140
  none_ : ∀ i, X.tot ≤ i → X.came i = none
  rows : RowsIn w r d L M DB TB vd vt X.came X.tot
  tot : X.tot ≤ 4096
  nm : X.nm < 4294967296
  rd : r ≠ d
  rL : r ≠ L
  rM : r ≠ M
/-- A receiver whose blocks are all among F. -/
def RcvAt (w : World) (r : Nat) (F : Nat → Prop) (X : Rcv) : Prop :=
  ∃ d L M DB TB vd vt, RcvIn w r d L M DB TB vd vt X ∧ F r ∧ F d ∧ F L ∧ F M ∧ (0 < X.tot → F DB ∧ F TB) ∧ ∀ k, F k → k < w.heap.size
theorem RcvIn.lr {w : World} {r d L M DB TB : Nat} {vd vt : Value} {X : Rcv} (h : RcvIn w r d L M DB TB vd vt X) : r < w.heap.size := (Array.getElem?_eq_some_iff.1 h.row).1
theorem RowsIn.blocks {w w' : World} {r d L M DB TB : Nat} {vd vt : Value} {f : Nat → Option UInt8} {tot : Nat} (h : RowsIn w r d L M DB TB vd vt f tot) (hD : 0 < tot → w'.heap[DB]? = w.heap[DB]?) (hT : 0 < tot → w'.heap[TB]? = w.heap[TB]?) : RowsIn w' r d L M DB TB vd vt f tot := by
  rcases h with h | ⟨h0, h1, h2, h3, h4, h5⟩
  · exact .inl h
  · exact .inr ⟨h0, h1, h2, (hD h0).trans h3, (hT h0).trans h4, h5⟩
theorem RowsIn.lt {w : World} {r d L M DB TB : Nat} {vd vt : Value} {f : Nat → Option UInt8} {tot : Nat} (h : RowsIn w r d L M DB TB vd vt f tot) (h0 : 0 < tot) : DB < w.heap.size ∧ TB < w.heap.size := by
  rcases h with h | ⟨_, _, _, h3, h4, _⟩
  · omega
  · exact ⟨(Array.getElem?_eq_some_iff.1 h3).1, (Array.getElem?_eq_some_iff.1 h4).1⟩
theorem RcvIn.but {w w' : World} {r d L M DB TB : Nat} {vd vt : Value} {X : Rcv} {G : Nat → Prop} (h : RcvIn w r d L M DB TB vd vt X) (hb : But G w w') (hr : ¬ G r) (hd : ¬ G d) (hL : ¬ G L) (hM : ¬ G M) (hB : 0 < X.tot → ¬ G DB ∧ ¬ G TB) : RcvIn w' r d L M DB TB vd vt X :=
  { h with
    row := (hb.block r h.lr hr).trans h.row
    dsk := h.dsk.but hb hd hL hM
    rows := h.rows.blocks (fun h0 => hb.block DB (h.rows.lt h0).1 (hB h0).1) (fun h0 => hb.block TB (h.rows.lt h0).2 (hB h0).2) }
theorem RcvIn.below {w w' : World} {r d L M DB TB : Nat} {vd vt : Value} {X : Rcv} (h : RcvIn w r d L M DB TB vd vt X) (hb : Below w.heap.size w w') : RcvIn w' r d L M DB TB vd vt X :=
  h.but (G := fun _ => False) (But.of_below hb) id id id id (fun _ => ⟨id, id⟩)
theorem RcvAt.but {w w' : World} {r : Nat} {F G : Nat → Prop} {X : Rcv} (h : RcvAt w r F X) (hb : But G w w') (hs : ∀ k, F k → ¬ G k) : RcvAt w' r F X := by
  obtain ⟨d, L, M, DB, TB, vd, vt, h1, h2, h3, h4, h5, h6, h7⟩ := h
  exact ⟨d, L, M, DB, TB, vd, vt, h1.but hb (hs _ h2) (hs _ h3) (hs _ h4) (hs _ h5) (fun h0 => ⟨hs _ (h6 h0).1, hs _ (h6 h0).2⟩), h2, h3, h4, h5, h6, fun k hk => Nat.lt_of_lt_of_le (h7 k hk) hb.size⟩
theorem RcvAt.below {w w' : World} {r : Nat} {F : Nat → Prop} {X : Rcv} (h : RcvAt w r F X) (hb : Below w.heap.size w w') : RcvAt w' r F X :=
  h.but (G := fun _ => False) (But.of_below hb) (fun _ _ => id)
theorem RcvAt.lt {w : World} {r : Nat} {F : Nat → Prop} {X : Rcv} (h : RcvAt w r F X) : ∀ k, F k → k < w.heap.size := by obtain ⟨_, _, _, _, _, _, _, _, _, _, _, _, _, h⟩ := h; exact h
theorem RcvIn.c0 {w : World} {r d L M DB TB : Nat} {vd vt : Value} {X : Rcv} (h : RcvIn w r d L M DB TB vd vt X) : w.cell? ⟨r, 0, none⟩ = some (.pointer (some ⟨d, 0, none⟩)) := cell_of_row _ _ 0 _ _ _ h.row
theorem RcvIn.c1 {w : World} {r d L M DB TB : Nat} {vd vt : Value} {X : Rcv} (h : RcvIn w r d L M DB TB vd vt X) : w.cell? ⟨r, 1, none⟩ = some (.int .u32 X.nm) := cell_of_row _ _ 1 _ _ _ h.row
theorem RcvIn.c2 {w : World} {r d L M DB TB : Nat} {vd vt : Value} {X : Rcv} (h : RcvIn w r d L M DB TB vd vt X) : w.cell? ⟨r, 2, none⟩ = some vd := cell_of_row _ _ 2 _ _ _ h.row
theorem RcvIn.c3 {w : World} {r d L M DB TB : Nat} {vd vt : Value} {X : Rcv} (h : RcvIn w r d L M DB TB vd vt X) : w.cell? ⟨r, 3, none⟩ = some vt := cell_of_row _ _ 3 _ _ _ h.row
theorem RcvIn.c4 {w : World} {r d L M DB TB : Nat} {vd vt : Value} {X : Rcv} (h : RcvIn w r d L M DB TB vd vt X) : w.cell? ⟨r, 4, none⟩ = some (.int .i64 X.saved) := cell_of_row _ _ 4 _ _ _ h.row
theorem RcvIn.c5 {w : World} {r d L M DB TB : Nat} {vd vt : Value} {X : Rcv} (h : RcvIn w r d L M DB TB vd vt X) : w.cell? ⟨r, 5, none⟩ = some (.int .i64 X.safe) := cell_of_row _ _ 5 _ _ _ h.row
theorem RcvIn.c6 {w : World} {r d L M DB TB : Nat} {vd vt : Value} {X : Rcv} (h : RcvIn w r d L M DB TB vd vt X) : w.cell? ⟨r, 6, none⟩ = some (.int .u64 X.marks) := cell_of_row _ _ 6 _ _ _ h.row
theorem RowsIn.forms {w : World} {r d L M DB TB : Nat} {vd vt : Value} {f : Nat → Option UInt8} {tot : Nat} (h : RowsIn w r d L M DB TB vd vt f tot) : ∃ a b, vd = .slice a tot tot ∧ vt = .slice b tot tot := by
  rcases h with ⟨h0, h1, h2⟩ | ⟨_, h1, h2, _⟩
  · exact ⟨none, none, by rw [h0]; exact h1, by rw [h0]; exact h2⟩
  · exact ⟨_, _, h1, h2⟩
end Go.Proofs.YtjnbnkaocoamlabDoor
