/-
  A []api.Entry that the call itself makes, or that comes in: its cells; what append of one entry does to it. For this seat's types.
-/
import Derived.Test.YtpmnflnaeknakaaGreatDoorProg
import Derived.Test.YtpmnflnaeknakaaGreatDoorVecM
import Derived.WalkKit
import Derived.Handy
import Derived.KernelRfl
import Derived.Below
import Derived.Deep.AppendLies
import Derived.Laws.OwnMore
import Derived.Deep.Draws
import Derived.Lib.Hide
namespace Go.Proofs.YtpmnflnaeknakaaGreatDoor
open Go.RowKit

theorem info_ent : (Tryz.prog.info? 180).map (fun i => (i.zero, i.size, i.bytes)) = some (some (.agg #[.int .i64 0, .int .i64 0]), 2, 16) := by kernel_rfl

/-- An entry's cells. -/
def entC (t : Ent) : List Value := [.int .i64 t.rep, .int .i64 t.time]
def entsC (l : List Ent) : List Value := l.flatMap entC
theorem entsC_len (l : List Ent) : (entsC l).length = l.length * 2 := by
  induction l with
  | nil => rfl
  | cons t r ih => simp only [entsC, List.flatMap_cons, List.length_append, List.length_cons] at ih ⊢; rw [ih]; simp [entC]; omega
theorem entsC_app (a b : List Ent) : entsC (a ++ b) = entsC a ++ entsC b := by simp [entsC]
theorem entsC_at (l : List Ent) (i j : Nat) (t : Ent) (h : l[i]? = some t) (hj : j < 2) : (entsC l)[i * 2 + j]? = (entC t)[j]? := by
  induction l generalizing i with
  | nil => simp at h
  | cons u r ih =>
    have hc : entsC (u :: r) = entC u ++ entsC r := by simp [entsC]
    have h3 : (entC u).length = 2 := rfl
    rw [hc]
    cases i with
    | zero =>
      obtain rfl : u = t := by simpa using h
      rw [List.getElem?_append_left (by omega)]
      congr 1; omega
    | succ i =>
      rw [List.getElem?_append_right (by omega), h3, show (i + 1) * 2 + j - 2 = i * 2 + j by omega]
      exact ih i (by simpa using h)
theorem entsC_int (l : List Ent) : ∀ u ∈ entsC l, ∃ n, u = .int .i64 n := by
  intro u hu
  obtain ⟨t, _, ht⟩ := List.mem_flatMap.1 hu
  simp [entC] at ht
  rcases ht with rfl | rfl
  · exact ⟨_, rfl⟩
  · exact ⟨_, rfl⟩

/-- The slice v owns the entries l, in blocks from base on. -/
def ownsE (w : World) (base : Nat) (v : Value) (l : List Ent) : Prop := w.ownsRow base 180 2 v l.length (entsC l)

theorem ownsE_nil (w : World) (base : Nat) : ownsE w base (.slice none 0 0) [] := World.ownsRow_nil _ _ _ _
theorem ownsE.alloc {w : World} {base : Nat} {v : Value} {l : List Ent} (h : ownsE w base v l) (o : Obj) : ownsE (w.alloc o) base v l := World.ownsRow.alloc h o
theorem ownsE.drew {w : World} {base : Nat} {v : Value} {l : List Ent} (h : ownsE w base v l) : ownsE w.drew base v l := World.ownsRow.drew h
theorem ownsE.drewN {w : World} {base : Nat} {v : Value} {l : List Ent} (h : ownsE w base v l) (n : Nat) : ownsE (w.drewN n) base v l := h
theorem ownsE.lt {w : World} {base : Nat} {v : Value} {l : List Ent} (h : ownsE w base v l) : ∀ k, v.ownBlock = some k → base ≤ k ∧ k < w.heap.size := World.ownsRow.lt h
theorem ownsE.mono {w : World} {base base' : Nat} {v : Value} {l : List Ent} (h : ownsE w base v l) (hb : base' ≤ base) : ownsE w base' v l := by
  obtain ⟨h0, h1⟩ := h
  refine ⟨h0, ?_⟩
  rcases h1 with h1 | ⟨g, cap, cur, hv, hg, r⟩
  · exact .inl h1
  · exact .inr ⟨g, cap, cur, hv, Nat.le_trans hb hg, r⟩
/-- Kept by whatever leaves old memory as it was. -/
theorem ownsE.below {w w' : World} {base : Nat} {v : Value} {l : List Ent} (h : ownsE w base v l) (hb : Below w.heap.size w w') : ownsE w' base v l := by
  refine World.ownsRow.kept h (row := none) ⟨hb.os, hb.tape, hb.output, hb.size, fun k hk _ => hb.block k hk⟩ ?_
  cases hv : v.ownBlock with
  | none => exact .inl rfl
  | some g => exact .inr (by simp)

/-- A slice that reads as the entries l, all its cells in blocks below the heap's end. -/
def IsEnts (w : World) (v : Value) (l : List Ent) : Prop :=
  (∃ a c, v = .slice a 0 c ∧ l = []) ∨ ∃ b off c, v = .slice (some ⟨b, off, none⟩) l.length c ∧ (0 < l.length ∧ l.length ≤ c) ∧ b < w.heap.size ∧ ∀ j u, (entsC l)[j]? = some u → w.cell? ⟨b, off + j, none⟩ = some u
theorem ownsE.is {w : World} {base : Nat} {v : Value} {l : List Ent} (h : ownsE w base v l) : IsEnts w v l := by
  have hall := h
  have hlt := h.lt
  obtain ⟨h0, h1⟩ := h
  rcases h1 with ⟨rfl, hn⟩ | ⟨g, cap, cur, rfl, hb, hh, hc, hm, hs, ht⟩
  · exact .inl ⟨_, _, rfl, List.length_eq_zero_iff.1 hn⟩
  · by_cases hz : l.length = 0
    · exact .inl ⟨_, _, by rw [hz], List.length_eq_zero_iff.1 hz⟩
    · refine .inr ⟨g, 0, cap, rfl, ⟨by omega, hc⟩, (hlt g rfl).2, fun j u hj => ?_⟩
      have hjl : j < l.length * 2 := by rw [← entsC_len]; exact (List.getElem?_eq_some_iff.1 hj).1
      rw [Nat.zero_add, World.ownsRow.cellAt hall j hjl]
      exact hj
theorem IsEnts.nil (w : World) : IsEnts w (.slice none 0 0) [] := .inl ⟨_, _, rfl, rfl⟩
theorem IsEnts.below {w w' : World} {v : Value} {l : List Ent} (h : IsEnts w v l) (hb : Below w.heap.size w w') : IsEnts w' v l := by
  rcases h with ⟨a, c, h1, h2⟩ | ⟨b, off, c, h1, h0, h2, h3⟩
  · exact .inl ⟨a, c, h1, h2⟩
  · exact .inr ⟨b, off, c, h1, h0, Nat.lt_of_lt_of_le h2 hb.size, fun j u hj => (hb.cell (p := ⟨b, off + j, none⟩) h2).trans (h3 j u hj)⟩
theorem IsEnts.alloc {w : World} {v : Value} {l : List Ent} (h : IsEnts w v l) (o : Obj) : IsEnts (w.alloc o) v l := h.below ((Below.refl _ _).alloc (Nat.le_refl _) o)
theorem IsEnts.drewN {w : World} {v : Value} {l : List Ent} (h : IsEnts w v l) (n : Nat) : IsEnts (w.drewN n) v l := h
/-- Its length; the two cells of each. -/
theorem IsEnts.form {w : World} {v : Value} {l : List Ent} (h : IsEnts w v l) : ∃ a c, v = .slice a l.length c ∧ ∀ i t, l[i]? = some t → ∃ b off, a = some ⟨b, off, none⟩ ∧ b < w.heap.size ∧
    w.cell? ⟨b, off + i * 2, none⟩ = some (.int .i64 t.rep) ∧ w.cell? ⟨b, off + i * 2 + 1, none⟩ = some (.int .i64 t.time) := by
  rcases h with ⟨a, c, rfl, rfl⟩ | ⟨b, off, c, rfl, h0, h2, h3⟩
  · exact ⟨a, c, rfl, fun i t h => by simp at h⟩
  · refine ⟨_, _, rfl, fun i t h => ⟨b, off, rfl, h2, ?_, ?_⟩⟩
    · exact h3 _ _ ((entsC_at l i 0 t h (by omega)).trans rfl)
    · exact h3 _ _ ((entsC_at l i 1 t h (by omega)).trans rfl)
/-- One that is not empty lies somewhere, and has room enough. -/
theorem IsEnts.lies {w : World} {v : Value} {l : List Ent} (h : IsEnts w v l) (h0 : 0 < l.length) : ∃ b off c, v = .slice (some ⟨b, off, none⟩) l.length c ∧ l.length ≤ c ∧ b < w.heap.size ∧ ∀ j u, (entsC l)[j]? = some u → w.cell? ⟨b, off + j, none⟩ = some u := by
  rcases h with ⟨a, c, rfl, rfl⟩ | ⟨b, off, c, rfl, h1, h2, h3⟩
  · exact absurd h0 (Nat.lt_irrefl _)
  · exact ⟨b, off, c, rfl, h1.2, h2, h3⟩
/-- A slice of one of a cut's reads as the cut. -/
theorem IsEnts.part {w : World} {b off n c : Nat} {l : List Ent} (h : ∀ j u, (entsC l)[j]? = some u → w.cell? ⟨b, off + j, none⟩ = some u) (hb : b < w.heap.size) (i j : Nat) (hj : j ≤ l.length) (hij : i < j) (hn : n = j - i) (hc : n ≤ c) :
    IsEnts w (.slice (some ⟨b, off + i * 2, none⟩) n c) ((l.take j).drop i) := by
  have hl : ((l.take j).drop i).length = n := by rw [List.length_drop, List.length_take]; omega
  refine .inr ⟨b, off + i * 2, c, by rw [hl], ⟨by omega, by omega⟩, hb, fun k u hk => ?_⟩
  rw [Nat.add_assoc]
  refine h _ _ ?_
  have hkl : k < n * 2 := by rw [← hl, ← entsC_len]; exact (List.getElem?_eq_some_iff.1 hk).1
  have ht : ((l.take j).drop i)[k / 2]? = some (((l.take j).drop i)[k / 2]'(by omega)) := List.getElem?_eq_getElem _
  have h1 := entsC_at _ (k / 2) (k % 2) _ ht (Nat.mod_lt _ (by decide))
  rw [show k / 2 * 2 + k % 2 = k by omega] at h1
  have ht2 : l[i + k / 2]? = some (((l.take j).drop i)[k / 2]'(by omega)) := by
    rw [← ht, List.getElem?_drop, List.getElem?_take_of_lt (by omega)]
  have h2 := entsC_at _ (i + k / 2) (k % 2) _ ht2 (Nat.mod_lt _ (by decide))
  rw [show (i + k / 2) * 2 + k % 2 = i * 2 + k by omega] at h2
  rw [h2, ← h1, hk]

/-- A block that is one entry. -/
def entBlk (w : World) (B : Nat) (t : Ent) : Prop := w.heap[B]? = some (.cells #[.int .i64 t.rep, .int .i64 t.time] 180 (0, 0))
theorem entBlk_new (w : World) (a b : Int) : entBlk (w.alloc (.cells #[.int .i64 a, .int .i64 b] 180)) w.heap.size ⟨a, b⟩ := heap_alloc_new _ _

theorem wpList_append_ent {w : World} {ops : Array Oper} {rest : List Oper} {o : Oper} {a : Act} {Q : Exit → Act → World → Prop} (hgd : o.guard = none) (s x : Operand)
    (ho : o.op = .call { callee := .builtin .append, args := #[s, x], argTypes := #[24, 24] })
    (base : Nat) (v : Value) (l : List Ent) (hs : a.eval s = v) (hown : ownsE w base v l)
    (B c : Nat) (hx : a.eval x = .slice (some ⟨B, 0, none⟩) 1 c) (t : Ent) (hcell : entBlk w B t)
    (hlen : l.length + 1 ≤ 1000000) (hbase : base ≤ w.heap.size)
    (h : ∀ g cap w', ownsE w' base (.slice (some ⟨g, 0, none⟩) (l.length + 1) cap) (l ++ [t]) → w.grownBy w' v.ownBlock → wpList Tryz.prog ops Q rest (a.put o.dst (.slice (some ⟨g, 0, none⟩) (l.length + 1) cap)) w') : wpList Tryz.prog ops Q (o :: rest) a w := by
  obtain ⟨i0, hi, hz0, hz1, hz2⟩ := info_parts info_ent
  refine wpList_append_lies w hgd s x 24 ho base 180 i0 (.agg #[.int .i64 0, .int .i64 0]) 2 16 Tryz.underlying24 hi hz0 hz1 hz2 rfl (by decide) v l.length (entsC l) hs hown ⟨B, 0, none⟩ 1 c (entC t) hx rfl ?_ ?_ (by decide) (by unfold maxLen; omega) (by omega) hbase _ rfl ?_
  · intro j u hj
    have hadd : (⟨B, 0, none⟩ : Addr).add j = ⟨B, j, none⟩ := by unfold Addr.add; split <;> simp_all
    rw [hadd, cell_of_row _ _ _ _ _ _ hcell, ← hj]
    unfold entC; simp
  · intro u hu; simp [entC] at hu; rcases hu with rfl | rfl <;> rfl
  · intro g cap w' h1 h2 _ _
    refine h g cap w' ?_ h2
    unfold ownsE
    rw [List.length_append, entsC_app]
    simpa [entsC] using h1

/-- append of another row of entries, behind one of the call's own. -/
theorem wpList_append_ents {w : World} {ops : Array Oper} {rest : List Oper} {o : Oper} {a : Act} {Q : Exit → Act → World → Prop} (hgd : o.guard = none) (s x : Operand)
    (ho : o.op = .call { callee := .builtin .append, args := #[s, x], argTypes := #[24, 24] })
    (base : Nat) (v : Value) (l : List Ent) (hs : a.eval s = v) (hown : ownsE w base v l)
    (B off c n : Nat) (hx : a.eval x = .slice (some ⟨B, off, none⟩) n c) (m : List Ent) (hn : n = m.length) (hcell : ∀ j u, (entsC m)[j]? = some u → w.cell? ⟨B, off + j, none⟩ = some u)
    (hm : 0 < m.length) (hlen : l.length + m.length ≤ 1000000) (hbase : base ≤ w.heap.size)
    (h : ∀ g cap w', ownsE w' base (.slice (some ⟨g, 0, none⟩) (l.length + m.length) cap) (l ++ m) → w.grownBy w' v.ownBlock → wpList Tryz.prog ops Q rest (a.put o.dst (.slice (some ⟨g, 0, none⟩) (l.length + m.length) cap)) w') : wpList Tryz.prog ops Q (o :: rest) a w := by
  subst hn
  obtain ⟨i0, hi, hz0, hz1, hz2⟩ := info_parts info_ent
  refine wpList_append_lies w hgd s x 24 ho base 180 i0 (.agg #[.int .i64 0, .int .i64 0]) 2 16 Tryz.underlying24 hi hz0 hz1 hz2 rfl (by decide) v l.length (entsC l) hs hown ⟨B, off, none⟩ m.length c (entsC m) hx (entsC_len m) ?_ ?_ hm (by unfold maxLen; omega) (by omega) hbase _ rfl ?_
  · intro j u hj
    have hadd : (⟨B, off, none⟩ : Addr).add j = ⟨B, off + j, none⟩ := by unfold Addr.add; split <;> simp_all
    rw [hadd]; exact hcell j u hj
  · intro u hu; obtain ⟨n, rfl⟩ := entsC_int _ _ hu; rfl
  · intro g cap w' h1 h2 _ _
    refine h g cap w' ?_ h2
    unfold ownsE
    rw [List.length_append, entsC_app]
    exact h1
theorem ownsE.form {w : World} {base : Nat} {v : Value} {l : List Ent} (h : ownsE w base v l) : (v = .slice none 0 0 ∧ l = []) ∨ ∃ g cap, v = .slice (some ⟨g, 0, none⟩) l.length cap ∧ base ≤ g ∧ g < w.heap.size ∧ ∀ j u, (entsC l)[j]? = some u → w.cell? ⟨g, j, none⟩ = some u := by
  have hall := h
  have hlt := h.lt
  obtain ⟨h0, h1⟩ := h
  rcases h1 with ⟨rfl, hn⟩ | ⟨g, cap, cur, rfl, hb, hh, hc, hm, hs, ht⟩
  · exact .inl ⟨rfl, List.length_eq_zero_iff.1 hn⟩
  · refine .inr ⟨g, cap, rfl, hb, (hlt g rfl).2, fun j u hj => ?_⟩
    have hjl : j < l.length * 2 := by rw [← entsC_len]; exact (List.getElem?_eq_some_iff.1 hj).1
    rw [World.ownsRow.cellAt hall j hjl]
    exact hj
end Go.Proofs.YtpmnflnaeknakaaGreatDoor
