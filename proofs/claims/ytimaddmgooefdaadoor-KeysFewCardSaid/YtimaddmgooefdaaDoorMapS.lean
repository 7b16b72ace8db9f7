/-
  A map of texts that are there; of numbers that were told of: that a call makes. For this seat's types.
-/
import Derived.Test.YtimaddmgooefdaaDoorMapO
namespace Go.Proofs.YtimaddmgooefdaaDoor
open Go.RowKit Go.Maps

theorem zeroT (w : World) : (zeroValue 4).run Tryd.prog w = .ok (.bool false) w := by kernel_rfl
theorem keyedI : Keyed Tryd.prog 3 := int_keyed Tryd.underlying3
/-- Block b is a map of these texts, that are there. -/
def ownsSet (w : World) (b n : Nat) (t : List ByteArray) : Prop := ∃ D, SetM D t ∧ w.ownsMap Tryd.prog 9 (plainElem Tryd.prog 4) b n D
theorem ownsSet_made (w : World) : ownsSet (w.alloc (.map #[] 0)) w.heap.size 0 [] := ⟨_, setM_nil, World.ownsMap_made _ _ _ _⟩
theorem ownsSet.below {w w' : World} {b n : Nat} {t : List ByteArray} (h : ownsSet w b n t) (hb : Below w.heap.size w w') : ownsSet w' b n t := by
  obtain ⟨D, h1, h2⟩ := h
  exact ⟨D, h1, h2.kept (row := none) ⟨hb.os, hb.tape, hb.output, hb.size, fun k hk _ => hb.block k hk⟩ (by simp)⟩
theorem ownsSet.alloc {w : World} {b n : Nat} {t : List ByteArray} (h : ownsSet w b n t) (o : Obj) : ownsSet (w.alloc o) b n t := by
  obtain ⟨D, h1, h2⟩ := h; exact ⟨D, h1, h2.alloc o⟩
theorem ownsSet.drew {w : World} {b n : Nat} {t : List ByteArray} (h : ownsSet w b n t) : ownsSet w.drew b n t := by
  obtain ⟨D, h1, h2⟩ := h; exact ⟨D, h1, h2.drew⟩
section
variable {w : World} {ops : Array Oper} {rest : List Oper} {o : Oper} {a : Act} {Q : Exit → Act → World → Prop}
theorem wpList_set_look (hg : o.guard = none) (m x : Operand) (hop : o.op = Op.lookup 98 m x false) (b n : Nat) (t : List ByteArray)
    (hm : a.eval m = .map (some b)) (hown : ownsSet w b n t) (s : ByteArray) (hx : a.eval x = .string s) (hs : s.size ≤ maxLen) (v : Bool) (hv : if v then s ∈ t else s ∉ t)
    (hK : wpList Tryd.prog ops Q rest (a.put o.dst (.bool v)) w) : wpList Tryd.prog ops Q (o :: rest) a w := by
  obtain ⟨D, h1, h2⟩ := hown
  refine wpList_lookup_own_is w hg m x _ hop 9 4 keyedS Tryd.underlying98 _ (zeroT w) (.lit (.bool false)) [] (plainElem_bool Tryd.underlying4 false) b n D hm h2 _ _ hx (keyS hs) (.bool v) ?_ hK
  intro v' ps hv'
  obtain ⟨y, rfl, hy⟩ := plainElem_bool_inv Tryd.underlying4 hv'
  cases v with
  | true => rw [h1.there s (by simpa using hv)] at hy; simp at hy; rw [hy.1]
  | false => rw [h1.none s (by simpa using hv)] at hy; simp at hy; rw [hy.1]
theorem wpList_set_put (hg : o.guard = none) (m x v : Operand) (hop : o.op = Op.mapUpdate 98 m x v) (b n : Nat) (t : List ByteArray)
    (hm : a.eval m = .map (some b)) (hown : ownsSet w b n t) (hn : n < maxLen) (s : ByteArray) (hx : a.eval x = .string s) (hv : a.eval v = .bool true) (hs : s.size ≤ maxLen)
    (hK : ∀ w', ownsSet w' b (n + 1) (t ++ [s]) → w.grownBy w' (some b) → wpList Tryd.prog ops Q rest (a.put o.dst undef) w') : wpList Tryd.prog ops Q (o :: rest) a w := by
  obtain ⟨D, h1, h2⟩ := hown
  refine wpList_mapUpdate_own w hg m x v _ hop 9 4 keyedS Tryd.underlying98 _ b n D hm h2 hn _ _ _ hx hv (keyS hs) (.lit (.bool true)) [] (plainElem_bool Tryd.underlying4 true) ?_
  intro w' h3 h4
  exact hK w' ⟨_, h1.put s, h3⟩ h4
end

/-- Block b is a map of just the numbers below m. -/
def ownsTold (w : World) (b n m : Nat) : Prop := ∃ D, ToldM D m ∧ w.ownsMap Tryd.prog 3 (plainElem Tryd.prog 4) b n D
theorem ownsTold_made (w : World) : ownsTold (w.alloc (.map #[] 0)) w.heap.size 0 0 := ⟨_, toldM_nil, World.ownsMap_made _ _ _ _⟩
theorem ownsTold.kept {w w' : World} {b n m : Nat} {row : Option Nat} (h : ownsTold w b n m) (hg : w.grownBy w' row) (hne : some b ≠ row) : ownsTold w' b n m := by
  obtain ⟨D, h1, h2⟩ := h; exact ⟨D, h1, h2.kept hg hne⟩
theorem ownsTold.below {w w' : World} {b n m : Nat} (h : ownsTold w b n m) (hb : Below w.heap.size w w') : ownsTold w' b n m :=
  h.kept (row := none) ⟨hb.os, hb.tape, hb.output, hb.size, fun k hk _ => hb.block k hk⟩ (by simp)
theorem ownsTold.alloc {w : World} {b n m : Nat} (h : ownsTold w b n m) (o : Obj) : ownsTold (w.alloc o) b n m := by
  obtain ⟨D, h1, h2⟩ := h; exact ⟨D, h1, h2.alloc o⟩
theorem ownsTold.lt {w : World} {b n m : Nat} (h : ownsTold w b n m) : b < w.heap.size := by
  obtain ⟨D, h1, h2⟩ := h; exact h2.lt
section
variable {w : World} {ops : Array Oper} {rest : List Oper} {o : Oper} {a : Act} {Q : Exit → Act → World → Prop}
theorem wpList_told_len (hg : o.guard = none) (m : Operand) (hop : o.op = Op.call { callee := Callee.builtin Builtin.len, args := #[m], argTypes := #[61] }) (b n k : Nat) (hm : a.eval m = .map (some b)) (hown : ownsTold w b n k)
    (hK : wpList Tryd.prog ops Q rest (a.put o.dst (.int .i64 (k : Nat))) w) : wpList Tryd.prog ops Q (o :: rest) a w := by
  obtain ⟨D, h1, h2⟩ := hown
  refine wpList_len_own w hg m _ hop 3 4 Tryd.underlying61 _ b n D hm h2 ?_
  rw [h1.size]; exact hK
theorem wpList_told_put (hg : o.guard = none) (m x v : Operand) (hop : o.op = Op.mapUpdate 61 m x v) (b n k : Nat) (hm : a.eval m = .map (some b)) (hown : ownsTold w b n k) (hn : n < maxLen)
    (j : Nat) (hj : j ≤ k) (hk : k ≤ 1000000) (hx : a.eval x = .int .i64 (j : Nat)) (hv : a.eval v = .bool true)
    (hK : ∀ w', ownsTold w' b (n + 1) (if j = k then k + 1 else k) → w.grownBy w' (some b) → wpList Tryd.prog ops Q rest (a.put o.dst undef) w') : wpList Tryd.prog ops Q (o :: rest) a w := by
  obtain ⟨D, h1, h2⟩ := hown
  refine wpList_mapUpdate_own w hg m x v _ hop 3 4 keyedI Tryd.underlying61 _ b n D hm h2 hn _ _ _ hx hv (keyOf_int_mk Tryd.underlying3 (WalkArith.wf_i64 (by omega))) (.lit (.bool true)) [] (plainElem_bool Tryd.underlying4 true) ?_
  intro w' h3 h4
  refine hK w' ⟨_, ?_, h3⟩ h4
  by_cases e : j = k
  · subst e; rw [if_pos rfl]; exact h1.new
  · rw [if_neg e]; exact h1.old (by omega)
end
end Go.Proofs.YtimaddmgooefdaaDoor
