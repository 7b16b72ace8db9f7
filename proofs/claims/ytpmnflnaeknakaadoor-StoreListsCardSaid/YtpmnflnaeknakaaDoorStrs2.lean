/-
  append of one text to a []string of the call's own, at a step of a region that draws its order.
-/
import Derived.Test.YtpmnflnaeknakaaDoorStrs
namespace Go.Proofs.YtpmnflnaeknakaaDoor
open Go.RowKit

theorem step_append_str (w : World) {ops : Array Oper} {o : Oper} {a : Act} {K : Act → World → Prop} {Q : Exit → Act → World → Prop} {E : Prop} (hgd : o.guard = none) (s x : Operand)
    (ho : o.op = .call { callee := .builtin .append, args := #[s, x], argTypes := #[30, 30] })
    (base : Nat) (v : Value) (l : List ByteArray) (hs : a.eval s = v) (hown : ownsS w base v l)
    (ad : Addr) (c : Nat) (hx : a.eval x = .slice (some ad) 1 c) (d : ByteArray) (hcell : w.cell? (ad.add 0) = some (.string d))
    (hlen : l.length + 1 ≤ 8796093022208) (hbase : base ≤ w.heap.size)
    (h : ∀ g cap w', ownsS w' base (.slice (some ⟨g, 0, none⟩) (l.length + 1) cap) (l ++ [d]) → w.grownBy w' v.ownBlock → K (a.put o.dst (.slice (some ⟨g, 0, none⟩) (l.length + 1) cap)) w') :
    if Region.wanted o (yielded ops a.tmps) = true then Oper.wp Tryd.prog o a w K Q else E := by
  obtain ⟨i0, hi, hz0, hz1, hz2⟩ := info_parts info_str
  refine step_append_lies w hgd s x 30 ho base 9 i0 (.string ⟨#[]⟩) 1 16 Tryd.underlying30 hi hz0 hz1 hz2 rfl (by decide) v l.length (l.map Value.string) hs hown ad 1 c [.string d] hx rfl ?_ ?_ (by decide) (by unfold maxLen; omega) (by omega) hbase _ rfl ?_
  · intro j u hj
    match j, hj with
    | 0, hj => simp at hj; subst hj; exact hcell
  · intro u hu; simp at hu; subst hu; rfl
  · intro g cap w' h1 h2 _ _
    refine h g cap w' ?_ h2
    unfold ownsS
    rw [List.length_append, List.map_append]
    exact h1
end Go.Proofs.YtpmnflnaeknakaaDoor
