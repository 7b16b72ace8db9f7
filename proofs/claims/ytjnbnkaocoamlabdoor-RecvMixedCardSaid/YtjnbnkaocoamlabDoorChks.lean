/-
  A []api.Chunk that the call itself makes: what append of one piece, and a store into it, do to it. For this seat's types.
-/
import Derived.Test.YtjnbnkaocoamlabDoorProg
import Derived.Test.YtjnbnkaocoamlabDoorChkM
import Derived.WalkKit
import Derived.Handy
import Derived.KernelRfl
import Derived.Below
import Derived.Deep.AppendLies
import Derived.Laws.OwnMore
import Derived.Deep.Draws
namespace Go.Proofs.YtjnbnkaocoamlabDoor
open Go.RowKit

theorem info_chk : (Tryd.prog.info? 34).map (fun i => (i.zero, i.size, i.bytes)) = some (some (.agg #[.int .u32 0, .int .i64 0, .int .i64 0, .string ⟨#[]⟩]), 4, 40) := by kernel_rfl

/-- A piece as its cells. -/
def chkC (t : Chk) : List Value := [.int .u32 t.nm, .int .i64 t.tot, .int .i64 t.pos, .string t.dat]
def chksC (l : List Chk) : List Value := l.flatMap chkC
theorem chksC_len (l : List Chk) : (chksC l).length = l.length * 4 := by
  induction l with
  | nil => rfl
  | cons t r ih => simp only [chksC, List.flatMap_cons, List.length_append, List.length_cons] at ih ⊢; rw [ih]; simp [chkC]; omega
theorem chksC_app (a b : List Chk) : chksC (a ++ b) = chksC a ++ chksC b := by simp [chksC]
theorem chksC_at (l : List Chk) (i j : Nat) (t : Chk) (h : l[i]? = some t) (hj : j < 4) : (chksC l)[i * 4 + j]? = (chkC t)[j]? := by
  induction l generalizing i with
  | nil => simp at h
  | cons u r ih =>
    have hc : chksC (u :: r) = chkC u ++ chksC r := by simp [chksC]
    have h3 : (chkC u).length = 4 := rfl
    rw [hc]
    cases i with
    | zero =>
      obtain rfl : u = t := by simpa using h
      rw [List.getElem?_append_left (by omega)]
      congr 1; omega
    | succ i =>
      rw [List.getElem?_append_right (by omega), h3, show (i + 1) * 4 + j - 4 = i * 4 + j by omega]
      exact ih i (by simpa using h)

/-- The slice v owns the pieces l, in blocks from base on. -/
def ownsC (w : World) (base : Nat) (v : Value) (l : List Chk) : Prop := w.ownsRow base 34 4 v l.length (chksC l)

theorem ownsC_nil (w : World) (base : Nat) : ownsC w base (.slice none 0 0) [] := World.ownsRow_nil _ _ _ _
theorem ownsC.alloc {w : World} {base : Nat} {v : Value} {l : List Chk} (h : ownsC w base v l) (o : Obj) : ownsC (w.alloc o) base v l := World.ownsRow.alloc h o
theorem ownsC.drew {w : World} {base : Nat} {v : Value} {l : List Chk} (h : ownsC w base v l) : ownsC w.drew base v l := World.ownsRow.drew h
theorem ownsC.drewN {w : World} {base : Nat} {v : Value} {l : List Chk} (h : ownsC w base v l) (n : Nat) : ownsC (w.drewN n) base v l := h
theorem ownsC.lt {w : World} {base : Nat} {v : Value} {l : List Chk} (h : ownsC w base v l) : ∀ k, v.ownBlock = some k → base ≤ k ∧ k < w.heap.size := World.ownsRow.lt h
theorem ownsC.mono {w : World} {base base' : Nat} {v : Value} {l : List Chk} (h : ownsC w base v l) (hb : base' ≤ base) : ownsC w base' v l := by
  obtain ⟨h0, h1⟩ := h
  refine ⟨h0, ?_⟩
  rcases h1 with h1 | ⟨g, cap, cur, hv, hg, r⟩
  · exact .inl h1
  · exact .inr ⟨g, cap, cur, hv, Nat.le_trans hb hg, r⟩
/-- Kept by whatever leaves old memory as it was. -/
theorem ownsC.below {w w' : World} {base : Nat} {v : Value} {l : List Chk} (h : ownsC w base v l) (hb : Below w.heap.size w w') : ownsC w' base v l := by
  refine World.ownsRow.kept h (row := none) ⟨hb.os, hb.tape, hb.output, hb.size, fun k hk _ => hb.block k hk⟩ ?_
  cases hv : v.ownBlock with
  | none => exact .inl rfl
  | some g => exact .inr (by simp)

/-- A slice that reads as the pieces l, all its cells in blocks below B. -/
def IsChks (w : World) (v : Value) (l : List Chk) : Prop :=
  (∃ a c, v = .slice a 0 c ∧ l = []) ∨ ∃ b off c, v = .slice (some ⟨b, off, none⟩) l.length c ∧ 0 < l.length ∧ b < w.heap.size ∧ ∀ j u, (chksC l)[j]? = some u → w.cell? ⟨b, off + j, none⟩ = some u
theorem ownsC.is {w : World} {base : Nat} {v : Value} {l : List Chk} (h : ownsC w base v l) : IsChks w v l := by
  have hall := h
  have hlt := h.lt
  obtain ⟨h0, h1⟩ := h
  rcases h1 with ⟨rfl, hn⟩ | ⟨g, cap, cur, rfl, hb, hh, hc, hm, hs, ht⟩
  · exact .inl ⟨_, _, rfl, List.length_eq_zero_iff.1 hn⟩
  · by_cases hz : l.length = 0
    · exact .inl ⟨_, _, by rw [hz], List.length_eq_zero_iff.1 hz⟩
    · refine .inr ⟨g, 0, cap, rfl, by omega, (hlt g rfl).2, fun j u hj => ?_⟩
      have hjl : j < l.length * 4 := by rw [← chksC_len]; exact (List.getElem?_eq_some_iff.1 hj).1
      rw [Nat.zero_add, World.ownsRow.cellAt hall j hjl]
      exact hj
theorem IsChks.below {w w' : World} {v : Value} {l : List Chk} (h : IsChks w v l) (hb : Below w.heap.size w w') : IsChks w' v l := by
  rcases h with ⟨a, c, h1, h2⟩ | ⟨b, off, c, h1, h0, h2, h3⟩
  · exact .inl ⟨a, c, h1, h2⟩
  · exact .inr ⟨b, off, c, h1, h0, Nat.lt_of_lt_of_le h2 hb.size, fun j u hj => (hb.cell (p := ⟨b, off + j, none⟩) h2).trans (h3 j u hj)⟩
theorem IsChks.alloc {w : World} {v : Value} {l : List Chk} (h : IsChks w v l) (o : Obj) : IsChks (w.alloc o) v l := h.below ((Below.refl _ _).alloc (Nat.le_refl _) o)
theorem IsChks.drewN {w : World} {v : Value} {l : List Chk} (h : IsChks w v l) (n : Nat) : IsChks (w.drewN n) v l := h
/-- Its length; the three cells of each. -/
theorem IsChks.form {w : World} {v : Value} {l : List Chk} (h : IsChks w v l) : ∃ a c, v = .slice a l.length c ∧ ∀ i t, l[i]? = some t → ∃ b off, a = some ⟨b, off, none⟩ ∧ b < w.heap.size ∧
    w.cell? ⟨b, off + i * 4, none⟩ = some (.int .u32 t.nm) ∧ w.cell? ⟨b, off + i * 4 + 1, none⟩ = some (.int .i64 t.tot) ∧ w.cell? ⟨b, off + i * 4 + 2, none⟩ = some (.int .i64 t.pos) ∧ w.cell? ⟨b, off + i * 4 + 3, none⟩ = some (.string t.dat) := by
  rcases h with ⟨a, c, rfl, rfl⟩ | ⟨b, off, c, rfl, h0, h2, h3⟩
  · exact ⟨a, c, rfl, fun i t h => by simp at h⟩
  · refine ⟨_, _, rfl, fun i t h => ⟨b, off, rfl, h2, ?_, ?_, ?_, ?_⟩⟩
    · exact h3 _ _ ((chksC_at l i 0 t h (by omega)).trans rfl)
    · exact h3 _ _ ((chksC_at l i 1 t h (by omega)).trans rfl)
    · exact h3 _ _ ((chksC_at l i 2 t h (by omega)).trans rfl)
    · exact h3 _ _ ((chksC_at l i 3 t h (by omega)).trans rfl)

/-- A block that is one piece. -/
def chkBlk (w : World) (B : Nat) (t : Chk) : Prop := w.heap[B]? = some (.cells #[.int .u32 t.nm, .int .i64 t.tot, .int .i64 t.pos, .string t.dat] 34 (0, 0))
theorem chkBlk_new (w : World) (m : Nat) (b n : Int) (s : ByteArray) : chkBlk (w.alloc (.cells #[.int .u32 m, .int .i64 b, .int .i64 n, .string s] 34)) w.heap.size ⟨m, b, n, s⟩ := heap_alloc_new _ _

theorem wpList_append_chk {w : World} {ops : Array Oper} {rest : List Oper} {o : Oper} {a : Act} {Q : Exit → Act → World → Prop} (hgd : o.guard = none) (s x : Operand)
    (ho : o.op = .call { callee := .builtin .append, args := #[s, x], argTypes := #[25, 25] })
    (base : Nat) (v : Value) (l : List Chk) (hs : a.eval s = v) (hown : ownsC w base v l)
    (B c : Nat) (hx : a.eval x = .slice (some ⟨B, 0, none⟩) 1 c) (t : Chk) (hcell : chkBlk w B t)
    (hlen : l.length + 1 ≤ 1000000) (hbase : base ≤ w.heap.size)
    (h : ∀ g cap w', ownsC w' base (.slice (some ⟨g, 0, none⟩) (l.length + 1) cap) (l ++ [t]) → w.grownBy w' v.ownBlock → wpList Tryd.prog ops Q rest (a.put o.dst (.slice (some ⟨g, 0, none⟩) (l.length + 1) cap)) w') : wpList Tryd.prog ops Q (o :: rest) a w := by
  obtain ⟨i0, hi, hz0, hz1, hz2⟩ := info_parts info_chk
  refine wpList_append_lies w hgd s x 25 ho base 34 i0 (.agg #[.int .u32 0, .int .i64 0, .int .i64 0, .string ⟨#[]⟩]) 4 40 Tryd.underlying25 hi hz0 hz1 hz2 rfl (by decide) v l.length (chksC l) hs hown ⟨B, 0, none⟩ 1 c (chkC t) hx rfl ?_ ?_ (by decide) (by unfold maxLen; omega) (by omega) hbase _ rfl ?_
  · intro j u hj
    have hadd : (⟨B, 0, none⟩ : Addr).add j = ⟨B, j, none⟩ := by unfold Addr.add; split <;> simp_all
    rw [hadd, cell_of_row _ _ _ _ _ _ hcell, ← hj]
    unfold chkC; simp
  · intro u hu; simp [chkC] at hu; rcases hu with rfl | rfl | rfl | rfl <;> rfl
  · intro g cap w' h1 h2 _ _
    refine h g cap w' ?_ h2
    unfold ownsC
    rw [List.length_append, chksC_app]
    simpa [chksC] using h1

end Go.Proofs.YtjnbnkaocoamlabDoor
