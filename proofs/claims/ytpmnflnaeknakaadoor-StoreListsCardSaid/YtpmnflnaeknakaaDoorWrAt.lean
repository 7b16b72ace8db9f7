/-
  append of a write, told where it lies; a filter, one on.
-/
import Derived.Test.YtpmnflnaeknakaaDoorStoLaw
namespace Go.Proofs.YtpmnflnaeknakaaDoor
open Go.RowKit

theorem wpList_append_wr_at {w : World} {ops : Array Oper} {rest : List Oper} {o : Oper} {a : Act} {Q : Exit → Act → World → Prop} (hgd : o.guard = none) (s x : Operand)
    (ho : o.op = .call { callee := .builtin .append, args := #[s, x], argTypes := #[22, 22] })
    (base : Nat) (v : Value) (l : List Wr) (hs : a.eval s = v) (hown : ownsW w base v l)
    (B c : Nat) (hx : a.eval x = .slice (some ⟨B, 0, none⟩) 1 c) (t : Wr) (hcell : wrBlk w B t)
    (hlen : l.length + 1 ≤ 1000000) (hbase : base ≤ w.heap.size)
    (h : ∀ g cap w', ownsW w' base (.slice (some ⟨g, 0, none⟩) (l.length + 1) cap) (l ++ [t]) → w.grownBy w' v.ownBlock → (v.ownBlock = some g ∨ g = w.heap.size) → wpList Tryd.prog ops Q rest (a.put o.dst (.slice (some ⟨g, 0, none⟩) (l.length + 1) cap)) w') : wpList Tryd.prog ops Q (o :: rest) a w := by
  obtain ⟨i0, hi, hz0, hz1, hz2⟩ := info_parts info_wr
  refine wpList_append_lies w hgd s x 22 ho base 29 i0 (.agg #[.int .i64 0, .int .i64 0, .int .i64 0, .string ⟨#[]⟩, .string ⟨#[]⟩, .int .i64 0]) 6 64 Tryd.underlying22 hi hz0 hz1 hz2 rfl (by decide) v l.length (wrsC l) hs hown ⟨B, 0, none⟩ 1 c (wrC t) hx rfl ?_ (wrC_cell t) (by decide) (by unfold maxLen; omega) (by omega) hbase _ rfl ?_
  · intro j u hj
    have hadd : (⟨B, 0, none⟩ : Addr).add j = ⟨B, j, none⟩ := by unfold Addr.add; split <;> simp_all
    rw [hadd, cell_of_row _ _ _ _ _ _ hcell, ← hj]
    simp
  · intro g cap w' h1 h2 h3 _
    refine h g cap w' ?_ h2 h3
    unfold ownsW
    rw [List.length_append, wrsC_app, wrsC_one]
    exact h1
theorem filt_snoc' (p : Wr → Bool) {L : List Wr} {k : Nat} {x : Wr} (hx : L[k]? = some x) : (L.take (k + 1)).filter p = (L.take k).filter p ++ (if p x then [x] else []) := by
  rw [take_snoc hx, List.filter_append]
  congr 1
  cases e : p x <;> simp [e]
end Go.Proofs.YtpmnflnaeknakaaDoor
