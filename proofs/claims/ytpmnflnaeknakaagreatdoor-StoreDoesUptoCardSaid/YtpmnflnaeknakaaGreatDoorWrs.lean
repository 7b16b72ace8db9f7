/-
  A []api.Write that the call itself makes, or that comes in: its cells; what append of one write does to it. For this seat's types.
-/
import Derived.Test.YtpmnflnaeknakaaGreatDoorWriteArg
import Derived.WalkKit
import Derived.Handy
import Derived.KernelRfl
import Derived.Below
import Derived.Deep.AppendLies
import Derived.Laws.OwnMore
import Derived.Deep.Draws
import Derived.Lib.Hide
namespace Go.Proofs.YtpmnflnaeknakaaGreatDoor
open Go.RowKit

theorem info_wr : (Tryz.prog.info? 32).map (fun i => (i.zero, i.size, i.bytes)) = some (some (.agg #[.int .i64 0, .int .i64 0, .int .i64 0, .string ⟨#[]⟩, .string ⟨#[]⟩, .int .i64 0]), 6, 64) := by kernel_rfl
instance : Inhabited Wr := ⟨⟨0, 0, 0, ⟨#[]⟩, ⟨#[]⟩, 0⟩⟩

def wrsC (l : List Wr) : List Value := l.flatMap wrC
theorem wrsC_len (l : List Wr) : (wrsC l).length = l.length * 6 := by
  induction l with
  | nil => rfl
  | cons t r ih => simp only [wrsC, List.flatMap_cons, List.length_append, List.length_cons] at ih ⊢; rw [ih]; simp [wrC]; omega
theorem wrsC_app (a b : List Wr) : wrsC (a ++ b) = wrsC a ++ wrsC b := by simp [wrsC]
theorem wrsC_one (a : Wr) : wrsC [a] = wrC a := by simp [wrsC]
theorem wrsC_at (l : List Wr) (i j : Nat) (t : Wr) (h : l[i]? = some t) (hj : j < 6) : (wrsC l)[i * 6 + j]? = (wrC t)[j]? := by
  induction l generalizing i with
  | nil => simp at h
  | cons u r ih =>
    have hc : wrsC (u :: r) = wrC u ++ wrsC r := by simp [wrsC]
    have h3 : (wrC u).length = 6 := rfl
    rw [hc]
    cases i with
    | zero =>
      obtain rfl : u = t := by simpa using h
      rw [List.getElem?_append_left (by omega)]
      congr 1; omega
    | succ i =>
      rw [List.getElem?_append_right (by omega), h3, show (i + 1) * 6 + j - 6 = i * 6 + j by omega]
      exact ih i (by simpa using h)
theorem wrC_cell (t : Wr) : ∀ u ∈ wrC t, u.oneCell' = true := by
  intro u hu
  simp [wrC] at hu
  rcases hu with rfl | rfl | rfl | rfl | rfl | rfl <;> rfl
theorem wrsC_cell (l : List Wr) : ∀ u ∈ wrsC l, u.oneCell' = true := by
  intro u hu
  obtain ⟨t, _, ht⟩ := List.mem_flatMap.1 hu
  exact wrC_cell t u ht
theorem wrsC_take (l : List Wr) (i : Nat) : wrsC (l.take i) = (wrsC l).take (i * 6) := by
  induction l generalizing i with
  | nil => simp [wrsC]
  | cons u r ih =>
    cases i with
    | zero => simp [wrsC]
    | succ i =>
      have hc : wrsC (u :: r) = wrC u ++ wrsC r := by simp [wrsC]
      have h3 : (wrC u).length = 6 := rfl
      rw [List.take_succ_cons, hc, show wrsC (u :: r.take i) = wrC u ++ wrsC (r.take i) by simp [wrsC], ih, List.take_append, h3, List.take_of_length_le (l := wrC u) (by rw [h3]; omega), show (i + 1) * 6 - 6 = i * 6 by omega]
theorem wrsC_drop (l : List Wr) (i : Nat) : wrsC (l.drop i) = (wrsC l).drop (i * 6) := by
  induction l generalizing i with
  | nil => simp [wrsC]
  | cons u r ih =>
    cases i with
    | zero => simp [wrsC]
    | succ i =>
      have hc : wrsC (u :: r) = wrC u ++ wrsC r := by simp [wrsC]
      have h3 : (wrC u).length = 6 := rfl
      rw [List.drop_succ_cons, hc, ih, List.drop_append, h3, show (wrC u).drop ((i + 1) * 6) = [] from List.drop_of_length_le (by rw [h3]; omega), show (i + 1) * 6 - 6 = i * 6 by omega, List.nil_append]

/-- The slice v owns the writes l, in blocks from base on. -/
def ownsW (w : World) (base : Nat) (v : Value) (l : List Wr) : Prop := w.ownsRow base 32 6 v l.length (wrsC l)

theorem ownsW_nil (w : World) (base : Nat) : ownsW w base (.slice none 0 0) [] := World.ownsRow_nil _ _ _ _
theorem ownsW.alloc {w : World} {base : Nat} {v : Value} {l : List Wr} (h : ownsW w base v l) (o : Obj) : ownsW (w.alloc o) base v l := World.ownsRow.alloc h o
theorem ownsW.drew {w : World} {base : Nat} {v : Value} {l : List Wr} (h : ownsW w base v l) : ownsW w.drew base v l := World.ownsRow.drew h
theorem ownsW.drewN {w : World} {base : Nat} {v : Value} {l : List Wr} (h : ownsW w base v l) (n : Nat) : ownsW (w.drewN n) base v l := h
theorem ownsW.lt {w : World} {base : Nat} {v : Value} {l : List Wr} (h : ownsW w base v l) : ∀ k, v.ownBlock = some k → base ≤ k ∧ k < w.heap.size := World.ownsRow.lt h
theorem ownsW.mono {w : World} {base base' : Nat} {v : Value} {l : List Wr} (h : ownsW w base v l) (hb : base' ≤ base) : ownsW w base' v l := by
  obtain ⟨h0, h1⟩ := h
  refine ⟨h0, ?_⟩
  rcases h1 with h1 | ⟨g, cap, cur, hv, hg, r⟩
  · exact .inl h1
  · exact .inr ⟨g, cap, cur, hv, Nat.le_trans hb hg, r⟩
/-- Kept by whatever leaves old memory as it was. -/
theorem ownsW.below {w w' : World} {base : Nat} {v : Value} {l : List Wr} (h : ownsW w base v l) (hb : Below w.heap.size w w') : ownsW w' base v l := by
  refine World.ownsRow.kept h (row := none) ⟨hb.os, hb.tape, hb.output, hb.size, fun k hk _ => hb.block k hk⟩ ?_
  cases hv : v.ownBlock with
  | none => exact .inl rfl
  | some g => exact .inr (by simp)

/-- A slice that reads as the writes l, all its cells in blocks below the heap's end. -/
def IsWrs (w : World) (v : Value) (l : List Wr) : Prop :=
  (∃ a c, v = .slice a 0 c ∧ l = []) ∨ ∃ b off c, v = .slice (some ⟨b, off, none⟩) l.length c ∧ (0 < l.length ∧ l.length ≤ c) ∧ b < w.heap.size ∧ ∀ j u, (wrsC l)[j]? = some u → w.cell? ⟨b, off + j, none⟩ = some u
theorem ownsW.is {w : World} {base : Nat} {v : Value} {l : List Wr} (h : ownsW w base v l) : IsWrs w v l := by
  have hall := h
  have hlt := h.lt
  obtain ⟨h0, h1⟩ := h
  rcases h1 with ⟨rfl, hn⟩ | ⟨g, cap, cur, rfl, hb, hh, hc, hm, hs, ht⟩
  · exact .inl ⟨_, _, rfl, List.length_eq_zero_iff.1 hn⟩
  · by_cases hz : l.length = 0
    · exact .inl ⟨_, _, by rw [hz], List.length_eq_zero_iff.1 hz⟩
    · refine .inr ⟨g, 0, cap, rfl, ⟨by omega, hc⟩, (hlt g rfl).2, fun j u hj => ?_⟩
      have hjl : j < l.length * 6 := by rw [← wrsC_len]; exact (List.getElem?_eq_some_iff.1 hj).1
      rw [Nat.zero_add, World.ownsRow.cellAt hall j hjl]
      exact hj
theorem IsWrs.nil (w : World) : IsWrs w (.slice none 0 0) [] := .inl ⟨_, _, rfl, rfl⟩
theorem IsWrs.below {w w' : World} {v : Value} {l : List Wr} (h : IsWrs w v l) (hb : Below w.heap.size w w') : IsWrs w' v l := by
  rcases h with ⟨a, c, h1, h2⟩ | ⟨b, off, c, h1, h0, h2, h3⟩
  · exact .inl ⟨a, c, h1, h2⟩
  · exact .inr ⟨b, off, c, h1, h0, Nat.lt_of_lt_of_le h2 hb.size, fun j u hj => (hb.cell (p := ⟨b, off + j, none⟩) h2).trans (h3 j u hj)⟩
theorem IsWrs.alloc {w : World} {v : Value} {l : List Wr} (h : IsWrs w v l) (o : Obj) : IsWrs (w.alloc o) v l := h.below ((Below.refl _ _).alloc (Nat.le_refl _) o)
theorem IsWrs.drewN {w : World} {v : Value} {l : List Wr} (h : IsWrs w v l) (n : Nat) : IsWrs (w.drewN n) v l := h
/-- Its length; the six cells of each. -/
theorem IsWrs.form {w : World} {v : Value} {l : List Wr} (h : IsWrs w v l) : ∃ a c, v = .slice a l.length c ∧ ∀ i t, l[i]? = some t → ∃ b off, a = some ⟨b, off, none⟩ ∧ b < w.heap.size ∧
    w.cell? ⟨b, off + i * 6, none⟩ = some (.int .i64 t.time) ∧ w.cell? ⟨b, off + i * 6 + 1, none⟩ = some (.int .i64 t.rep) ∧ w.cell? ⟨b, off + i * 6 + 2, none⟩ = some (.int .i64 t.kind) ∧
    w.cell? ⟨b, off + i * 6 + 3, none⟩ = some (.string t.key) ∧ w.cell? ⟨b, off + i * 6 + 4, none⟩ = some (.string t.value) ∧ w.cell? ⟨b, off + i * 6 + 5, none⟩ = some (.int .i64 t.n) := by
  rcases h with ⟨a, c, rfl, rfl⟩ | ⟨b, off, c, rfl, h0, h2, h3⟩
  · exact ⟨a, c, rfl, fun i t h => by simp at h⟩
  · refine ⟨_, _, rfl, fun i t h => ⟨b, off, rfl, h2, ?_, ?_, ?_, ?_, ?_, ?_⟩⟩
    · exact h3 _ _ ((wrsC_at l i 0 t h (by omega)).trans rfl)
    · exact h3 _ _ ((wrsC_at l i 1 t h (by omega)).trans rfl)
    · exact h3 _ _ ((wrsC_at l i 2 t h (by omega)).trans rfl)
    · exact h3 _ _ ((wrsC_at l i 3 t h (by omega)).trans rfl)
    · exact h3 _ _ ((wrsC_at l i 4 t h (by omega)).trans rfl)
    · exact h3 _ _ ((wrsC_at l i 5 t h (by omega)).trans rfl)
/-- A block of one write. -/
def wrBlk (w : World) (B : Nat) (t : Wr) : Prop := w.heap[B]? = some (.cells (wrC t).toArray 32 (0, 0))
theorem wrBlk_is {w : World} {B : Nat} {t : Wr} (h : wrBlk w B t) : IsWrs w (.slice (some ⟨B, 0, none⟩) 1 1) [t] := by
  refine .inr ⟨B, 0, 1, rfl, ⟨Nat.zero_lt_one, Nat.le_refl 1⟩, (Array.getElem?_eq_some_iff.1 h).1, fun j u hj => ?_⟩
  rw [Nat.zero_add, cell_of_row _ _ j _ _ (0, 0) h]
  rw [wrsC_one] at hj
  simpa using hj

theorem wpList_append_wr {w : World} {ops : Array Oper} {rest : List Oper} {o : Oper} {a : Act} {Q : Exit → Act → World → Prop} (hgd : o.guard = none) (s x : Operand)
    (ho : o.op = .call { callee := .builtin .append, args := #[s, x], argTypes := #[22, 22] })
    (base : Nat) (v : Value) (l : List Wr) (hs : a.eval s = v) (hown : ownsW w base v l)
    (B c : Nat) (hx : a.eval x = .slice (some ⟨B, 0, none⟩) 1 c) (t : Wr) (hcell : wrBlk w B t)
    (hlen : l.length + 1 ≤ 1000000) (hbase : base ≤ w.heap.size)
    (h : ∀ g cap w', ownsW w' base (.slice (some ⟨g, 0, none⟩) (l.length + 1) cap) (l ++ [t]) → w.grownBy w' v.ownBlock → wpList Tryz.prog ops Q rest (a.put o.dst (.slice (some ⟨g, 0, none⟩) (l.length + 1) cap)) w') : wpList Tryz.prog ops Q (o :: rest) a w := by
  obtain ⟨i0, hi, hz0, hz1, hz2⟩ := info_parts info_wr
  refine wpList_append_lies w hgd s x 22 ho base 32 i0 (.agg #[.int .i64 0, .int .i64 0, .int .i64 0, .string ⟨#[]⟩, .string ⟨#[]⟩, .int .i64 0]) 6 64 Tryz.underlying22 hi hz0 hz1 hz2 rfl (by decide) v l.length (wrsC l) hs hown ⟨B, 0, none⟩ 1 c (wrC t) hx rfl ?_ (wrC_cell t) (by decide) (by unfold maxLen; omega) (by omega) hbase _ rfl ?_
  · intro j u hj
    have hadd : (⟨B, 0, none⟩ : Addr).add j = ⟨B, j, none⟩ := by unfold Addr.add; split <;> simp_all
    rw [hadd, cell_of_row _ _ _ _ _ _ hcell, ← hj]
    simp
  · intro g cap w' h1 h2 _ _
    refine h g cap w' ?_ h2
    unfold ownsW
    rw [List.length_append, wrsC_app, wrsC_one]
    exact h1
end Go.Proofs.YtpmnflnaeknakaaGreatDoor
