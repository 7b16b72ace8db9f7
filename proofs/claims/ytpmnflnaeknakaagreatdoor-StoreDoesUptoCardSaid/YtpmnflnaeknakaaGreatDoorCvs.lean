/-
  A []api.Cell that the call itself makes, or that comes in. (Made by wip/sto/gencvs.py.)
-/
import Derived.Test.YtpmnflnaeknakaaGreatDoorStoV
import Derived.WalkKit
import Derived.Handy
import Derived.KernelRfl
import Derived.Below
import Derived.Deep.AppendLies
import Derived.Laws.OwnMore
import Derived.Deep.Draws
import Derived.Lib.Hide
namespace Go.Proofs.YtpmnflnaeknakaaGreatDoor
open Go.RowKit

theorem info_cv : (Tryz.prog.info? 60).map (fun i => (i.zero, i.size, i.bytes)) = some (some (.agg #[.string ⟨#[]⟩, .bool false, .string ⟨#[]⟩, .int .i64 0, .slice none 0 0]), 5, 72) := by kernel_rfl

def cvsC (l : List CV) : List Value := l.flatMap cvC
theorem cvsC_len (l : List CV) : (cvsC l).length = l.length * 5 := by
  induction l with
  | nil => rfl
  | cons t r ih => simp only [cvsC, List.flatMap_cons, List.length_append, List.length_cons] at ih ⊢; rw [ih]; simp [cvC]; omega
theorem cvsC_app (a b : List CV) : cvsC (a ++ b) = cvsC a ++ cvsC b := by simp [cvsC]
theorem cvsC_one (a : CV) : cvsC [a] = cvC a := by simp [cvsC]
theorem cvsC_at (l : List CV) (i j : Nat) (t : CV) (h : l[i]? = some t) (hj : j < 5) : (cvsC l)[i * 5 + j]? = (cvC t)[j]? := by
  induction l generalizing i with
  | nil => simp at h
  | cons u r ih =>
    have hc : cvsC (u :: r) = cvC u ++ cvsC r := by simp [cvsC]
    have h3 : (cvC u).length = 5 := rfl
    rw [hc]
    cases i with
    | zero =>
      obtain rfl : u = t := by simpa using h
      rw [List.getElem?_append_left (by omega)]
      congr 1; omega
    | succ i =>
      rw [List.getElem?_append_right (by omega), h3, show (i + 1) * 5 + j - 5 = i * 5 + j by omega]
      exact ih i (by simpa using h)
theorem cvC_cell {t : CV} (h : t.list.oneCell' = true) : ∀ u ∈ cvC t, u.oneCell' = true := by
  intro u hu
  simp [cvC] at hu
  rcases hu with rfl | rfl | rfl | rfl | rfl <;> first | rfl | exact h
theorem cvsC_take (l : List CV) (i : Nat) : cvsC (l.take i) = (cvsC l).take (i * 5) := by
  induction l generalizing i with
  | nil => simp [cvsC]
  | cons u r ih =>
    cases i with
    | zero => simp [cvsC]
    | succ i =>
      have hc : cvsC (u :: r) = cvC u ++ cvsC r := by simp [cvsC]
      have h3 : (cvC u).length = 5 := rfl
      rw [List.take_succ_cons, hc, show cvsC (u :: r.take i) = cvC u ++ cvsC (r.take i) by simp [cvsC], ih, List.take_append, h3, List.take_of_length_le (l := cvC u) (by rw [h3]; omega), show (i + 1) * 5 - 5 = i * 5 by omega]
theorem cvsC_drop (l : List CV) (i : Nat) : cvsC (l.drop i) = (cvsC l).drop (i * 5) := by
  induction l generalizing i with
  | nil => simp [cvsC]
  | cons u r ih =>
    cases i with
    | zero => simp [cvsC]
    | succ i =>
      have hc : cvsC (u :: r) = cvC u ++ cvsC r := by simp [cvsC]
      have h3 : (cvC u).length = 5 := rfl
      rw [List.drop_succ_cons, hc, ih, List.drop_append, h3, show (cvC u).drop ((i + 1) * 5) = [] from List.drop_of_length_le (by rw [h3]; omega), show (i + 1) * 5 - 5 = i * 5 by omega, List.nil_append]

/-- The slice v owns the writes l, in blocks from base on. -/
def ownsC (w : World) (base : Nat) (v : Value) (l : List CV) : Prop := w.ownsRow base 60 5 v l.length (cvsC l)

theorem ownsC_nil (w : World) (base : Nat) : ownsC w base (.slice none 0 0) [] := World.ownsRow_nil _ _ _ _
theorem ownsC.alloc {w : World} {base : Nat} {v : Value} {l : List CV} (h : ownsC w base v l) (o : Obj) : ownsC (w.alloc o) base v l := World.ownsRow.alloc h o
theorem ownsC.drew {w : World} {base : Nat} {v : Value} {l : List CV} (h : ownsC w base v l) : ownsC w.drew base v l := World.ownsRow.drew h
theorem ownsC.drewN {w : World} {base : Nat} {v : Value} {l : List CV} (h : ownsC w base v l) (n : Nat) : ownsC (w.drewN n) base v l := h
theorem ownsC.lt {w : World} {base : Nat} {v : Value} {l : List CV} (h : ownsC w base v l) : ∀ k, v.ownBlock = some k → base ≤ k ∧ k < w.heap.size := World.ownsRow.lt h
theorem ownsC.mono {w : World} {base base' : Nat} {v : Value} {l : List CV} (h : ownsC w base v l) (hb : base' ≤ base) : ownsC w base' v l := by
  obtain ⟨h0, h1⟩ := h
  refine ⟨h0, ?_⟩
  rcases h1 with h1 | ⟨g, cap, cur, hv, hg, r⟩
  · exact .inl h1
  · exact .inr ⟨g, cap, cur, hv, Nat.le_trans hb hg, r⟩
/-- Kept by whatever leaves old memory as it was. -/
theorem ownsC.below {w w' : World} {base : Nat} {v : Value} {l : List CV} (h : ownsC w base v l) (hb : Below w.heap.size w w') : ownsC w' base v l := by
  refine World.ownsRow.kept h (row := none) ⟨hb.os, hb.tape, hb.output, hb.size, fun k hk _ => hb.block k hk⟩ ?_
  cases hv : v.ownBlock with
  | none => exact .inl rfl
  | some g => exact .inr (by simp)

/-- A slice that reads as the writes l, all its cells in blocks below the heap's end. -/
def IsCvs (w : World) (v : Value) (l : List CV) : Prop :=
  (∃ a c, v = .slice a 0 c ∧ l = []) ∨ ∃ b off c, v = .slice (some ⟨b, off, none⟩) l.length c ∧ (0 < l.length ∧ l.length ≤ c) ∧ b < w.heap.size ∧ ∀ j u, (cvsC l)[j]? = some u → w.cell? ⟨b, off + j, none⟩ = some u
theorem ownsC.is {w : World} {base : Nat} {v : Value} {l : List CV} (h : ownsC w base v l) : IsCvs w v l := by
  have hall := h
  have hlt := h.lt
  obtain ⟨h0, h1⟩ := h
  rcases h1 with ⟨rfl, hn⟩ | ⟨g, cap, cur, rfl, hb, hh, hc, hm, hs, ht⟩
  · exact .inl ⟨_, _, rfl, List.length_eq_zero_iff.1 hn⟩
  · by_cases hz : l.length = 0
    · exact .inl ⟨_, _, by rw [hz], List.length_eq_zero_iff.1 hz⟩
    · refine .inr ⟨g, 0, cap, rfl, ⟨by omega, hc⟩, (hlt g rfl).2, fun j u hj => ?_⟩
      have hjl : j < l.length * 5 := by rw [← cvsC_len]; exact (List.getElem?_eq_some_iff.1 hj).1
      rw [Nat.zero_add, World.ownsRow.cellAt hall j hjl]
      exact hj
theorem IsCvs.nil (w : World) : IsCvs w (.slice none 0 0) [] := .inl ⟨_, _, rfl, rfl⟩
theorem IsCvs.below {w w' : World} {v : Value} {l : List CV} (h : IsCvs w v l) (hb : Below w.heap.size w w') : IsCvs w' v l := by
  rcases h with ⟨a, c, h1, h2⟩ | ⟨b, off, c, h1, h0, h2, h3⟩
  · exact .inl ⟨a, c, h1, h2⟩
  · exact .inr ⟨b, off, c, h1, h0, Nat.lt_of_lt_of_le h2 hb.size, fun j u hj => (hb.cell (p := ⟨b, off + j, none⟩) h2).trans (h3 j u hj)⟩
theorem IsCvs.alloc {w : World} {v : Value} {l : List CV} (h : IsCvs w v l) (o : Obj) : IsCvs (w.alloc o) v l := h.below ((Below.refl _ _).alloc (Nat.le_refl _) o)
theorem IsCvs.drewN {w : World} {v : Value} {l : List CV} (h : IsCvs w v l) (n : Nat) : IsCvs (w.drewN n) v l := h
/-- Its length; the five cells of each. -/
theorem IsCvs.form {w : World} {v : Value} {l : List CV} (h : IsCvs w v l) : ∃ a c, v = .slice a l.length c ∧ ∀ i t, l[i]? = some t → ∃ b off, a = some ⟨b, off, none⟩ ∧ b < w.heap.size ∧
    w.cell? ⟨b, off + i * 5, none⟩ = some (.string t.key) ∧ w.cell? ⟨b, off + i * 5 + 1, none⟩ = some (.bool t.has) ∧ w.cell? ⟨b, off + i * 5 + 2, none⟩ = some (.string t.text) ∧
    w.cell? ⟨b, off + i * 5 + 3, none⟩ = some (.int .i64 t.sum) ∧ w.cell? ⟨b, off + i * 5 + 4, none⟩ = some t.list := by
  rcases h with ⟨a, c, rfl, rfl⟩ | ⟨b, off, c, rfl, h0, h2, h3⟩
  · exact ⟨a, c, rfl, fun i t h => by simp at h⟩
  · refine ⟨_, _, rfl, fun i t h => ⟨b, off, rfl, h2, ?_, ?_, ?_, ?_, ?_⟩⟩
    · exact h3 _ _ ((cvsC_at l i 0 t h (by omega)).trans rfl)
    · exact h3 _ _ ((cvsC_at l i 1 t h (by omega)).trans rfl)
    · exact h3 _ _ ((cvsC_at l i 2 t h (by omega)).trans rfl)
    · exact h3 _ _ ((cvsC_at l i 3 t h (by omega)).trans rfl)
    · exact h3 _ _ ((cvsC_at l i 4 t h (by omega)).trans rfl)
/-- A block of one write. -/
def cvBlk (w : World) (B : Nat) (t : CV) : Prop := w.heap[B]? = some (.cells (cvC t).toArray 60 (0, 0))
theorem cvBlk_is {w : World} {B : Nat} {t : CV} (h : cvBlk w B t) : IsCvs w (.slice (some ⟨B, 0, none⟩) 1 1) [t] := by
  refine .inr ⟨B, 0, 1, rfl, ⟨Nat.zero_lt_one, Nat.le_refl 1⟩, (Array.getElem?_eq_some_iff.1 h).1, fun j u hj => ?_⟩
  rw [Nat.zero_add, cell_of_row _ _ j _ _ (0, 0) h]
  rw [cvsC_one] at hj
  simpa using hj

theorem wpList_append_cv {w : World} {ops : Array Oper} {rest : List Oper} {o : Oper} {a : Act} {Q : Exit → Act → World → Prop} (hgd : o.guard = none) (s x : Operand)
    (ho : o.op = .call { callee := .builtin .append, args := #[s, x], argTypes := #[39, 39] })
    (base : Nat) (v : Value) (l : List CV) (hs : a.eval s = v) (hown : ownsC w base v l)
    (B c : Nat) (hx : a.eval x = .slice (some ⟨B, 0, none⟩) 1 c) (t : CV) (ht : t.list.oneCell' = true) (hcell : cvBlk w B t)
    (hlen : l.length + 1 ≤ 1000000) (hbase : base ≤ w.heap.size)
    (h : ∀ g cap w', ownsC w' base (.slice (some ⟨g, 0, none⟩) (l.length + 1) cap) (l ++ [t]) → w.grownBy w' v.ownBlock → wpList Tryz.prog ops Q rest (a.put o.dst (.slice (some ⟨g, 0, none⟩) (l.length + 1) cap)) w') : wpList Tryz.prog ops Q (o :: rest) a w := by
  obtain ⟨i0, hi, hz0, hz1, hz2⟩ := info_parts info_cv
  refine wpList_append_lies w hgd s x 39 ho base 60 i0 (.agg #[.string ⟨#[]⟩, .bool false, .string ⟨#[]⟩, .int .i64 0, .slice none 0 0]) 5 72 Tryz.underlying39 hi hz0 hz1 hz2 rfl (by decide) v l.length (cvsC l) hs hown ⟨B, 0, none⟩ 1 c (cvC t) hx rfl ?_ (cvC_cell ht) (by decide) (by unfold maxLen; omega) (by omega) hbase _ rfl ?_
  · intro j u hj
    have hadd : (⟨B, 0, none⟩ : Addr).add j = ⟨B, j, none⟩ := by unfold Addr.add; split <;> simp_all
    rw [hadd, cell_of_row _ _ _ _ _ _ hcell, ← hj]
    simp
  · intro g cap w' h1 h2 _ _
    refine h g cap w' ?_ h2
    unfold ownsC
    rw [List.length_append, cvsC_app, cvsC_one]
    exact h1
end Go.Proofs.YtpmnflnaeknakaaGreatDoor
