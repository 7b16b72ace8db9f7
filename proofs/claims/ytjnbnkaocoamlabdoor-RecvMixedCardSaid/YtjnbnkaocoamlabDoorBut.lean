/-
  A world that is another one but for some old blocks.
-/
import Derived.WalkKit
import Derived.Handy
import Derived.Below
import Derived.Laws.OwnMore
import Derived.Lib.Hide
namespace Go.Proofs.YtjnbnkaocoamlabDoor
open Go.RowKit

structure But (F : Nat → Prop) (w w' : World) : Prop where
  os : w'.os = w.os
  tape : w'.tape = w.tape
  output : w'.output = w.output
  size : w.heap.size ≤ w'.heap.size
  block : ∀ k, k < w.heap.size → ¬ F k → w'.heap[k]? = w.heap[k]?
theorem But.refl (F : Nat → Prop) (w : World) : But F w w := ⟨rfl, rfl, rfl, Nat.le_refl _, fun _ _ _ => rfl⟩
theorem But.trans {F : Nat → Prop} {a b c : World} (h : But F a b) (k : But F b c) : But F a c :=
  ⟨k.os.trans h.os, k.tape.trans h.tape, k.output.trans h.output, Nat.le_trans h.size k.size, fun i hi hn => (k.block i (Nat.lt_of_lt_of_le hi h.size) hn).trans (h.block i hi hn)⟩
theorem But.mono {F G : Nat → Prop} {w w' : World} (h : But F w w') (hF : ∀ k, F k → G k) : But G w w' :=
  ⟨h.os, h.tape, h.output, h.size, fun k hk hn => h.block k hk (fun e => hn (hF k e))⟩
theorem But.of_below {F : Nat → Prop} {w w' : World} (h : Below w.heap.size w w') : But F w w' := ⟨h.os, h.tape, h.output, h.size, fun k hk _ => h.block k hk⟩
theorem But.below {F : Nat → Prop} {w w' : World} {B : Nat} (h : But F w w') (hB : B ≤ w.heap.size) (hF : ∀ k, F k → B ≤ k) : Below B w w' :=
  ⟨h.os, h.tape, h.output, h.size, fun k hk => h.block k (Nat.lt_of_lt_of_le hk hB) (fun e => by have := hF k e; omega)⟩
/-- New blocks count for nothing: what grew behind may be written. -/
theorem But.more {F G : Nat → Prop} {a b c : World} (h : But F a b) (k : But G b c) (hG : ∀ i, G i → F i ∨ a.heap.size ≤ i) : But F a c :=
  ⟨k.os.trans h.os, k.tape.trans h.tape, k.output.trans h.output, Nat.le_trans h.size k.size, fun i hi hn => (k.block i (Nat.lt_of_lt_of_le hi h.size) (fun e => by
    rcases hG i e with e | e
    · exact hn e
    · omega)).trans (h.block i hi hn)⟩
/-- A store into one of the blocks. -/
theorem But.setCell {F : Nat → Prop} {a w : World} (h : But F a w) {p : Addr} (hp : F p.block ∨ a.heap.size ≤ p.block) (u : Value) : But F a (w.setCell p u) :=
  ⟨h.os, h.tape, h.output, by simpa [World.setCell] using h.size, fun k hk hn => (Below.heap_setCell _ _ _ _ (fun e => by
    subst e
    rcases hp with hp | hp
    · exact hn hp
    · omega)).trans (h.block k hk hn)⟩
theorem But.below_on {F : Nat → Prop} {a b c : World} (h : But F a b) (k : Below b.heap.size b c) : But F a c := h.trans (But.of_below k)
theorem But.drew {F : Nat → Prop} {a w : World} (h : But F a w) : But F a w.drew := ⟨h.os, h.tape, h.output, h.size, h.block⟩
theorem But.alloc {F : Nat → Prop} {a w : World} (h : But F a w) (o : Obj) : But F a (w.alloc o) := h.below_on ((Below.refl _ _).alloc (Nat.le_refl _) o)
/-- Behind an append that may write into one of the blocks. -/
theorem But.grown {F : Nat → Prop} {a w w' : World} {row : Option Nat} (h : But F a w) (hg : w.grownBy w' row) (hr : ∀ k, row = some k → F k ∨ a.heap.size ≤ k) : But F a w' :=
  ⟨hg.os.trans h.os, hg.tape.trans h.tape, hg.output.trans h.output, Nat.le_trans h.size hg.size, fun k hk hn => (hg.block k (Nat.lt_of_lt_of_le hk h.size) (fun e => by
    rcases hr k e.symm with e | e
    · exact hn e
    · omega)).trans (h.block k hk hn)⟩
theorem But.cell {F : Nat → Prop} {w w' : World} (h : But F w w') {p : Addr} (hp : p.block < w.heap.size) (hn : ¬ F p.block) : w'.cell? p = w.cell? p := World.cell?_of_block (w := w) (h.block p.block hp hn)
/-- Old memory of the call's beginning, F being of its own. -/
theorem But.on {F : Nat → Prop} {W w w' : World} {B : Nat} (h : Below B W w) (k : But F w w') (hB : B ≤ w.heap.size) (hF : ∀ i, F i → B ≤ i) : Below B W w' := h.trans (k.below hB hF)
/-- A row that is owned, none of whose block is among those. -/
theorem ownsRow_but {F : Nat → Prop} {w w' : World} {base : Nat} {e : TypeId} {size n : Nat} {v : Value} {xs : List Value} (h : w.ownsRow base e size v n xs) (hb : But F w w') (hn : ∀ k, v.ownBlock = some k → ¬ F k) : w'.ownsRow base e size v n xs := by
  refine ⟨h.1, ?_⟩
  rcases h.2 with h1 | ⟨g, cap, cur, hv, hg, hh, r⟩
  · exact .inl h1
  · exact .inr ⟨g, cap, cur, hv, hg, (hb.block g (Array.getElem?_eq_some_iff.1 hh).1 (hn g (by rw [hv]; rfl))).trans hh, r⟩
theorem ownsRow_base {w : World} {base B : Nat} {e : TypeId} {size n : Nat} {v : Value} {xs : List Value} (h : w.ownsRow base e size v n xs) (hB : ∀ k, v.ownBlock = some k → B ≤ k) : w.ownsRow B e size v n xs := by
  refine ⟨h.1, ?_⟩
  rcases h.2 with h1 | ⟨g, cap, cur, hv, hg, r⟩
  · exact .inl h1
  · exact .inr ⟨g, cap, cur, hv, hB g (by rw [hv]; rfl), r⟩
theorem ownsRow_apart {w : World} {b1 b2 : Nat} {e1 e2 : TypeId} {s1 s2 n1 n2 : Nat} {v1 v2 : Value} {x1 x2 : List Value} (h1 : w.ownsRow b1 e1 s1 v1 n1 x1) (h2 : w.ownsRow b2 e2 s2 v2 n2 x2) (he : e1 ≠ e2) (k : Nat) (k1 : v1.ownBlock = some k) : v2.ownBlock ≠ some k := by
  intro k2
  rcases h1.2 with ⟨rfl, _⟩ | ⟨g, cap, cur, rfl, _, hh, _⟩
  · cases k1
  rcases h2.2 with ⟨rfl, _⟩ | ⟨g', cap', cur', rfl, _, hh', _⟩
  · cases k2
  have e1 : g = k := Option.some.inj k1
  have e2 : g' = k := Option.some.inj k2
  subst e1
  subst e2
  rw [hh] at hh'
  simp only [Option.some.injEq, Obj.cells.injEq] at hh'
  exact he hh'.2.1
theorem ownsRow_row {w : World} {base : Nat} {e t : TypeId} {size n : Nat} {v : Value} {xs : List Value} (h : w.ownsRow base e size v n xs) {P : Nat} {c : Array Value} {z : Nat × Nat} (hP : w.heap[P]? = some (.cells c t z)) (he : e ≠ t) : v.ownBlock ≠ some P := by
  intro k
  rcases h.2 with ⟨rfl, _⟩ | ⟨g, cap, cur, rfl, _, hh, _⟩
  · cases k
  have e1 : g = P := Option.some.inj k
  subst e1
  rw [hh] at hP
  simp only [Option.some.injEq, Obj.cells.injEq] at hP
  exact he hP.2.1
end Go.Proofs.YtjnbnkaocoamlabDoor
