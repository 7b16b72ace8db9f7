/-
  A []string that the call itself makes: what append of one text does to it. For this seat's types of []string and string.
-/
import Derived.Test.YtjnbnkaocoamlaaProg
import Derived.WalkKit
import Derived.Handy
import Derived.KernelRfl
import Derived.Deep.AppendLies
import Derived.Laws.OwnMore
namespace Go.Proofs.Ytjnbnkaocoamlaa
open Go.RowKit

theorem info_str : (Try.prog.info? 9).map (fun i => (i.zero, i.size, i.bytes)) = some (some (.string ⟨#[]⟩), 1, 16) := by kernel_rfl

/-- The slice v owns the texts l, in blocks from base on. -/
def ownsS (w : World) (base : Nat) (v : Value) (l : List ByteArray) : Prop := w.ownsRow base 9 1 v l.length (l.map Value.string)

theorem ownsS_nil (w : World) (base : Nat) : ownsS w base (.slice none 0 0) [] := World.ownsRow_nil _ _ _ _
theorem ownsS.alloc {w : World} {base : Nat} {v : Value} {l : List ByteArray} (h : ownsS w base v l) (o : Obj) : ownsS (w.alloc o) base v l := World.ownsRow.alloc h o
theorem ownsS.drew {w : World} {base : Nat} {v : Value} {l : List ByteArray} (h : ownsS w base v l) : ownsS w.drew base v l := World.ownsRow.drew h
theorem ownsS.lt {w : World} {base : Nat} {v : Value} {l : List ByteArray} (h : ownsS w base v l) : ∀ k, v.ownBlock = some k → base ≤ k ∧ k < w.heap.size := World.ownsRow.lt h
/-- Kept by whatever leaves old memory as it was. -/
theorem ownsS.below {w w' : World} {base : Nat} {v : Value} {l : List ByteArray} (h : ownsS w base v l) (hb : Below w.heap.size w w') : ownsS w' base v l := by
  refine World.ownsRow.kept h (row := none) ⟨hb.os, hb.tape, hb.output, hb.size, fun k hk _ => hb.block k hk⟩ ?_
  cases hv : v.ownBlock with
  | none => exact .inl rfl
  | some g => exact .inr (by simp)
/-- What it looks like: nil and nothing, or a row of cells. -/
theorem ownsS.forms {w : World} {base : Nat} {v : Value} {l : List ByteArray} (h : ownsS w base v l) :
    (v = .slice none 0 0 ∧ l = []) ∨ ∃ g cap, v = .slice (some ⟨g, 0, none⟩) l.length cap ∧ base ≤ g ∧ g < w.heap.size ∧ ∀ j, j < l.length → w.cell? ⟨g, j, none⟩ = some (.string (l.getD j ByteArray.empty)) := by
  have hall := h
  obtain ⟨h0, h1⟩ := h
  rcases h1 with ⟨rfl, hn⟩ | ⟨g, cap, cur, rfl, hb, hh, hc, hm, hs, ht⟩
  · exact .inl ⟨rfl, List.length_eq_zero_iff.1 hn⟩
  · refine .inr ⟨g, cap, rfl, hb, (World.ownsRow.lt hall g rfl).2, fun j hj => ?_⟩
    rw [World.ownsRow.cellAt hall j (by omega)]
    simp [List.getElem?_eq_getElem hj]

theorem wpList_append_str {w : World} {ops : Array Oper} {rest : List Oper} {o : Oper} {a : Act} {Q : Exit → Act → World → Prop} (hgd : o.guard = none) (s x : Operand)
    (ho : o.op = .call { callee := .builtin .append, args := #[s, x], argTypes := #[27, 27] })
    (base : Nat) (v : Value) (l : List ByteArray) (hs : a.eval s = v) (hown : ownsS w base v l)
    (ad : Addr) (c : Nat) (hx : a.eval x = .slice (some ad) 1 c) (d : ByteArray) (hcell : w.cell? (ad.add 0) = some (.string d))
    (hlen : l.length + 1 ≤ 8796093022208) (hbase : base ≤ w.heap.size)
    (h : ∀ g cap w', ownsS w' base (.slice (some ⟨g, 0, none⟩) (l.length + 1) cap) (l ++ [d]) → w.grownBy w' v.ownBlock → wpList Try.prog ops Q rest (a.put o.dst (.slice (some ⟨g, 0, none⟩) (l.length + 1) cap)) w') : wpList Try.prog ops Q (o :: rest) a w := by
  obtain ⟨i0, hi, hz0, hz1, hz2⟩ := info_parts info_str
  refine wpList_append_lies w hgd s x 27 ho base 9 i0 (.string ⟨#[]⟩) 1 16 Try.underlying27 hi hz0 hz1 hz2 rfl (by decide) v l.length (l.map Value.string) hs hown ad 1 c [.string d] hx rfl ?_ ?_ (by decide) (by unfold maxLen; omega) (by omega) hbase _ rfl ?_
  · intro j u hj
    match j, hj with
    | 0, hj => simp at hj; subst hj; exact hcell
  · intro u hu; simp at hu; subst hu; rfl
  · intro g cap w' h1 h2 _ _
    refine h g cap w' ?_ h2
    unfold ownsS
    rw [List.length_append, List.map_append]
    exact h1
end Go.Proofs.Ytjnbnkaocoamlaa
