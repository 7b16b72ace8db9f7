/-
  append of one entry to a row in memory: where it lies then; at a plain step, and at a step of a region that draws its order.
-/
import Derived.Test.YthdflbaknfiglaaDoorEnts
import Derived.Test.YthdflbaknfiglaaDoorRuns
namespace Go.Proofs.YthdflbaknfiglaaDoor
open Go.RowKit

theorem step_append_ent (w : World) {ops : Array Oper} {o : Oper} {a : Act} {K : Act → World → Prop} {Q : Exit → Act → World → Prop} {E : Prop} (hgd : o.guard = none) (s x : Operand)
    (ho : o.op = .call { callee := .builtin .append, args := #[s, x], argTypes := #[22, 22] })
    (base : Nat) (v : Value) (l : List Ent) (hs : a.eval s = v) (hown : ownsE w base v l)
    (B c : Nat) (hx : a.eval x = .slice (some ⟨B, 0, none⟩) 1 c) (t : Ent) (hcell : entBlk w B t)
    (hlen : l.length + 1 ≤ 1000000) (hbase : base ≤ w.heap.size)
    (h : ∀ g cap w', ownsE w' base (.slice (some ⟨g, 0, none⟩) (l.length + 1) cap) (l ++ [t]) → w.grownBy w' v.ownBlock → (v.ownBlock = some g ∨ g = w.heap.size) → K (a.put o.dst (.slice (some ⟨g, 0, none⟩) (l.length + 1) cap)) w') :
    if Region.wanted o (yielded ops a.tmps) = true then Oper.wp Tryd.prog o a w K Q else E := by
  obtain ⟨i0, hi, hz0, hz1, hz2⟩ := info_parts info_ent
  refine step_append_lies w hgd s x 22 ho base 40 i0 (.agg #[.int .i64 0, .int .i64 0]) 2 16 Tryd.underlying22 hi hz0 hz1 hz2 rfl (by decide) v l.length (entsC l) hs hown ⟨B, 0, none⟩ 1 c (entC t) hx rfl ?_ ?_ (by decide) (by unfold maxLen; omega) (by omega) hbase _ rfl ?_
  · intro j u hj
    have hadd : (⟨B, 0, none⟩ : Addr).add j = ⟨B, j, none⟩ := by unfold Addr.add; split <;> simp_all
    rw [hadd, cell_of_row _ _ _ _ _ _ hcell, ← hj]
    unfold entC; simp
  · intro u hu; simp [entC] at hu; rcases hu with rfl | rfl <;> rfl
  · intro g cap w' h1 h2 h3 _
    refine h g cap w' ?_ h2 h3
    unfold ownsE
    rw [List.length_append, entsC_app]
    simpa [entsC] using h1

/-- A store into the last of them. -/
theorem ownsR.stored {w : World} {base g n cap : Nat} {l : List Value} {d : Value} (h : ownsR w base (.slice (some ⟨g, 0, none⟩) n cap) (l ++ [d])) (hn : n = l.length + 1) (x : Value) :
    ownsR (w.setCell ⟨g, l.length, none⟩ x) base (.slice (some ⟨g, 0, none⟩) n cap) (l ++ [x]) ∧ w.grownBy (w.setCell ⟨g, l.length, none⟩ x) (some g) := by
  subst hn
  unfold ownsR at h ⊢
  rw [List.length_append] at h ⊢
  have h2 := World.ownsRow.stored h l.length x
  have e : (l ++ [d]).set l.length x = l ++ [x] := by
    rw [List.set_append_right _ _ (Nat.le_refl _), Nat.sub_self]; rfl
  rw [e] at h2
  exact h2
theorem ownsR.last {w : World} {base g n cap : Nat} {l : List Value} {d : Value} (h : ownsR w base (.slice (some ⟨g, 0, none⟩) n cap) (l ++ [d])) (hn : n = l.length + 1) :
    w.cell? ⟨g, l.length, none⟩ = some d ∧ w.frozen? ⟨g, l.length, none⟩ = false ∧ base ≤ g ∧ g < w.heap.size := by
  subst hn
  have hlt := h.lt g rfl
  unfold ownsR at h
  rw [List.length_append] at h
  refine ⟨?_, World.ownsRow.frozenAt h _, hlt.1, hlt.2⟩
  rw [World.ownsRow.cellAt h _ (by simp)]
  simp

end Go.Proofs.YthdflbaknfiglaaDoor
