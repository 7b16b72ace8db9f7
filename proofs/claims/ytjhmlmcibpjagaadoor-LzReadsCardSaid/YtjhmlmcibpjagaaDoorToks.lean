/-
  A []api.Token that the call itself makes: what append of one token, and a store into it, do to it. For this seat's types.
-/
import Derived.Test.YtjhmlmcibpjagaaDoorProg
import Derived.Test.YtjhmlmcibpjagaaDoorMatchM
import Derived.WalkKit
import Derived.Handy
import Derived.KernelRfl
import Derived.Below
import Derived.Deep.AppendLies
import Derived.Laws.OwnMore
import Derived.Deep.Draws
namespace Go.Proofs.YtjhmlmcibpjagaaDoor
open Go.RowKit

theorem info_tok : (Tryd.prog.info? 42).map (fun i => (i.zero, i.size, i.bytes)) = some (some (.agg #[.string ⟨#[]⟩, .int .i64 0, .int .i64 0]), 3, 32) := by kernel_rfl

/-- A token's cells. -/
def tokC (t : Tok) : List Value := [.string t.own, .int .i64 t.back, .int .i64 t.size]
def toksC (l : List Tok) : List Value := l.flatMap tokC
theorem toksC_len (l : List Tok) : (toksC l).length = l.length * 3 := by
  induction l with
  | nil => rfl
  | cons t r ih => simp only [toksC, List.flatMap_cons, List.length_append, List.length_cons] at ih ⊢; rw [ih]; simp [tokC]; omega
theorem toksC_app (a b : List Tok) : toksC (a ++ b) = toksC a ++ toksC b := by simp [toksC]
theorem toksC_at (l : List Tok) (i j : Nat) (t : Tok) (h : l[i]? = some t) (hj : j < 3) : (toksC l)[i * 3 + j]? = (tokC t)[j]? := by
  induction l generalizing i with
  | nil => simp at h
  | cons u r ih =>
    have hc : toksC (u :: r) = tokC u ++ toksC r := by simp [toksC]
    have h3 : (tokC u).length = 3 := rfl
    rw [hc]
    cases i with
    | zero =>
      obtain rfl : u = t := by simpa using h
      rw [List.getElem?_append_left (by omega)]
      congr 1; omega
    | succ i =>
      rw [List.getElem?_append_right (by omega), h3, show (i + 1) * 3 + j - 3 = i * 3 + j by omega]
      exact ih i (by simpa using h)

/-- The slice v owns the tokens l, in blocks from base on. -/
def ownsK (w : World) (base : Nat) (v : Value) (l : List Tok) : Prop := w.ownsRow base 42 3 v l.length (toksC l)

theorem ownsK_nil (w : World) (base : Nat) : ownsK w base (.slice none 0 0) [] := World.ownsRow_nil _ _ _ _
theorem ownsK.alloc {w : World} {base : Nat} {v : Value} {l : List Tok} (h : ownsK w base v l) (o : Obj) : ownsK (w.alloc o) base v l := World.ownsRow.alloc h o
theorem ownsK.drew {w : World} {base : Nat} {v : Value} {l : List Tok} (h : ownsK w base v l) : ownsK w.drew base v l := World.ownsRow.drew h
theorem ownsK.drewN {w : World} {base : Nat} {v : Value} {l : List Tok} (h : ownsK w base v l) (n : Nat) : ownsK (w.drewN n) base v l := h
theorem ownsK.lt {w : World} {base : Nat} {v : Value} {l : List Tok} (h : ownsK w base v l) : ∀ k, v.ownBlock = some k → base ≤ k ∧ k < w.heap.size := World.ownsRow.lt h
theorem ownsK.mono {w : World} {base base' : Nat} {v : Value} {l : List Tok} (h : ownsK w base v l) (hb : base' ≤ base) : ownsK w base' v l := by
  obtain ⟨h0, h1⟩ := h
  refine ⟨h0, ?_⟩
  rcases h1 with h1 | ⟨g, cap, cur, hv, hg, r⟩
  · exact .inl h1
  · exact .inr ⟨g, cap, cur, hv, Nat.le_trans hb hg, r⟩
/-- Kept by whatever leaves old memory as it was. -/
theorem ownsK.below {w w' : World} {base : Nat} {v : Value} {l : List Tok} (h : ownsK w base v l) (hb : Below w.heap.size w w') : ownsK w' base v l := by
  refine World.ownsRow.kept h (row := none) ⟨hb.os, hb.tape, hb.output, hb.size, fun k hk _ => hb.block k hk⟩ ?_
  cases hv : v.ownBlock with
  | none => exact .inl rfl
  | some g => exact .inr (by simp)

/-- A slice that reads as the tokens l, all its cells in blocks below B. -/
def IsToks (w : World) (v : Value) (l : List Tok) : Prop :=
  (∃ a c, v = .slice a 0 c ∧ l = []) ∨ ∃ b off c, v = .slice (some ⟨b, off, none⟩) l.length c ∧ 0 < l.length ∧ b < w.heap.size ∧ ∀ j u, (toksC l)[j]? = some u → w.cell? ⟨b, off + j, none⟩ = some u
theorem ownsK.is {w : World} {base : Nat} {v : Value} {l : List Tok} (h : ownsK w base v l) : IsToks w v l := by
  have hall := h
  have hlt := h.lt
  obtain ⟨h0, h1⟩ := h
  rcases h1 with ⟨rfl, hn⟩ | ⟨g, cap, cur, rfl, hb, hh, hc, hm, hs, ht⟩
  · exact .inl ⟨_, _, rfl, List.length_eq_zero_iff.1 hn⟩
  · by_cases hz : l.length = 0
    · exact .inl ⟨_, _, by rw [hz], List.length_eq_zero_iff.1 hz⟩
    · refine .inr ⟨g, 0, cap, rfl, by omega, (hlt g rfl).2, fun j u hj => ?_⟩
      have hjl : j < l.length * 3 := by rw [← toksC_len]; exact (List.getElem?_eq_some_iff.1 hj).1
      rw [Nat.zero_add, World.ownsRow.cellAt hall j hjl]
      exact hj
theorem IsToks.below {w w' : World} {v : Value} {l : List Tok} (h : IsToks w v l) (hb : Below w.heap.size w w') : IsToks w' v l := by
  rcases h with ⟨a, c, h1, h2⟩ | ⟨b, off, c, h1, h0, h2, h3⟩
  · exact .inl ⟨a, c, h1, h2⟩
  · exact .inr ⟨b, off, c, h1, h0, Nat.lt_of_lt_of_le h2 hb.size, fun j u hj => (hb.cell (p := ⟨b, off + j, none⟩) h2).trans (h3 j u hj)⟩
theorem IsToks.alloc {w : World} {v : Value} {l : List Tok} (h : IsToks w v l) (o : Obj) : IsToks (w.alloc o) v l := h.below ((Below.refl _ _).alloc (Nat.le_refl _) o)
theorem IsToks.drewN {w : World} {v : Value} {l : List Tok} (h : IsToks w v l) (n : Nat) : IsToks (w.drewN n) v l := h
/-- Its length; the three cells of each. -/
theorem IsToks.form {w : World} {v : Value} {l : List Tok} (h : IsToks w v l) : ∃ a c, v = .slice a l.length c ∧ ∀ i t, l[i]? = some t → ∃ b off, a = some ⟨b, off, none⟩ ∧ b < w.heap.size ∧
    w.cell? ⟨b, off + i * 3, none⟩ = some (.string t.own) ∧ w.cell? ⟨b, off + i * 3 + 1, none⟩ = some (.int .i64 t.back) ∧ w.cell? ⟨b, off + i * 3 + 2, none⟩ = some (.int .i64 t.size) := by
  rcases h with ⟨a, c, rfl, rfl⟩ | ⟨b, off, c, rfl, h0, h2, h3⟩
  · exact ⟨a, c, rfl, fun i t h => by simp at h⟩
  · refine ⟨_, _, rfl, fun i t h => ⟨b, off, rfl, h2, ?_, ?_, ?_⟩⟩
    · exact h3 _ _ ((toksC_at l i 0 t h (by omega)).trans rfl)
    · exact h3 _ _ ((toksC_at l i 1 t h (by omega)).trans rfl)
    · exact h3 _ _ ((toksC_at l i 2 t h (by omega)).trans rfl)

/-- A block that is one token. -/
def tokBlk (w : World) (B : Nat) (t : Tok) : Prop := w.heap[B]? = some (.cells #[.string t.own, .int .i64 t.back, .int .i64 t.size] 42 (0, 0))
theorem tokBlk_new (w : World) (s : ByteArray) (b n : Int) : tokBlk (w.alloc (.cells #[.string s, .int .i64 b, .int .i64 n] 42)) w.heap.size ⟨s, b, n⟩ := heap_alloc_new _ _

theorem wpList_append_tok {w : World} {ops : Array Oper} {rest : List Oper} {o : Oper} {a : Act} {Q : Exit → Act → World → Prop} (hgd : o.guard = none) (s x : Operand)
    (ho : o.op = .call { callee := .builtin .append, args := #[s, x], argTypes := #[22, 22] })
    (base : Nat) (v : Value) (l : List Tok) (hs : a.eval s = v) (hown : ownsK w base v l)
    (B c : Nat) (hx : a.eval x = .slice (some ⟨B, 0, none⟩) 1 c) (t : Tok) (hcell : tokBlk w B t)
    (hlen : l.length + 1 ≤ 1000000) (hbase : base ≤ w.heap.size)
    (h : ∀ g cap w', ownsK w' base (.slice (some ⟨g, 0, none⟩) (l.length + 1) cap) (l ++ [t]) → w.grownBy w' v.ownBlock → wpList Tryd.prog ops Q rest (a.put o.dst (.slice (some ⟨g, 0, none⟩) (l.length + 1) cap)) w') : wpList Tryd.prog ops Q (o :: rest) a w := by
  obtain ⟨i0, hi, hz0, hz1, hz2⟩ := info_parts info_tok
  refine wpList_append_lies w hgd s x 22 ho base 42 i0 (.agg #[.string ⟨#[]⟩, .int .i64 0, .int .i64 0]) 3 32 Tryd.underlying22 hi hz0 hz1 hz2 rfl (by decide) v l.length (toksC l) hs hown ⟨B, 0, none⟩ 1 c (tokC t) hx rfl ?_ ?_ (by decide) (by unfold maxLen; omega) (by omega) hbase _ rfl ?_
  · intro j u hj
    have hadd : (⟨B, 0, none⟩ : Addr).add j = ⟨B, j, none⟩ := by unfold Addr.add; split <;> simp_all
    rw [hadd, cell_of_row _ _ _ _ _ _ hcell, ← hj]
    unfold tokC; simp
  · intro u hu; simp [tokC] at hu; rcases hu with rfl | rfl | rfl <;> rfl
  · intro g cap w' h1 h2 _ _
    refine h g cap w' ?_ h2
    unfold ownsK
    rw [List.length_append, toksC_app]
    simpa [toksC] using h1

/-- A store into the text of one of them. -/
theorem ownsK.stored {w : World} {base g n cap : Nat} {l : List Tok} {t : Tok} (h : ownsK w base (.slice (some ⟨g, 0, none⟩) n cap) (l ++ [t])) (hn : n = l.length + 1) (s : ByteArray) :
    ownsK (w.setCell ⟨g, l.length * 3, none⟩ (.string s)) base (.slice (some ⟨g, 0, none⟩) n cap) (l ++ [⟨s, t.back, t.size⟩]) := by
  subst hn
  unfold ownsK at h ⊢
  rw [List.length_append] at h ⊢
  have h2 := (World.ownsRow.stored h (l.length * 3) (.string s)).1
  have e : (toksC (l ++ [t])).set (l.length * 3) (.string s) = toksC (l ++ [⟨s, t.back, t.size⟩]) := by
    rw [toksC_app, toksC_app, List.set_append_right _ _ (by rw [toksC_len]; exact Nat.le_refl _), toksC_len, Nat.sub_self]
    rfl
  rw [e] at h2
  exact h2
theorem ownsK.last {w : World} {base g n cap : Nat} {l : List Tok} {t : Tok} (h : ownsK w base (.slice (some ⟨g, 0, none⟩) n cap) (l ++ [t])) (hn : n = l.length + 1) :
    w.cell? ⟨g, l.length * 3, none⟩ = some (.string t.own) ∧ w.frozen? ⟨g, l.length * 3, none⟩ = false ∧ base ≤ g := by
  subst hn
  have hlt := (h.lt g rfl).1
  unfold ownsK at h
  rw [List.length_append] at h
  refine ⟨?_, World.ownsRow.frozenAt h _, hlt⟩
  rw [World.ownsRow.cellAt h _ (by simp)]
  exact (toksC_at (l ++ [t]) l.length 0 t (by simp) (by omega)).trans rfl
theorem ownsK.form {w : World} {base : Nat} {v : Value} {l : List Tok} {t : Tok} (h : ownsK w base v (l ++ [t])) : ∃ g cap, v = .slice (some ⟨g, 0, none⟩) (l.length + 1) cap := by
  obtain ⟨h0, h1⟩ := h
  rcases h1 with ⟨rfl, hn⟩ | ⟨g, cap, cur, rfl, hb, hh, hc, hm, hs, ht⟩
  · simp at hn
  · exact ⟨g, cap, by simp⟩
end Go.Proofs.YtjhmlmcibpjagaaDoor
