/-
  Maps of keys that a call makes: texts and their numbers; texts that are there; numbers that were told of. For this seat's types.
-/
import Derived.Test.YtimaddmgooefdaaDoorProg
import Derived.Test.YtimaddmgooefdaaDoorMapM
import Derived.KernelRfl
import Derived.StringKeys
namespace Go.Proofs.YtimaddmgooefdaaDoor
open Go.RowKit Go.Maps

theorem keyedS : Keyed Tryd.prog 9 := string_keyed Tryd.underlying9
theorem zeroI (w : World) : (zeroValue 3).run Tryd.prog w = .ok (.int .i64 0) w := by kernel_rfl
theorem keyS {s : ByteArray} (h : s.size ≤ maxLen) : keyOf Tryd.prog 9 (.string s) = some (keyL s) := Go.WideMaps.keyOf_string_mk Tryd.underlying9 h

/-- Block b is a map, of at most n entries, of each text of t where it stands. -/
def ownsNum (w : World) (b n : Nat) (t : List ByteArray) : Prop := ∃ D, NumM D t ∧ w.ownsMap Tryd.prog 9 (plainElem Tryd.prog 3) b n D
theorem ownsNum_made (w : World) : ownsNum (w.alloc (.map #[] 0)) w.heap.size 0 [] := ⟨_, numM_nil, World.ownsMap_made _ _ _ _⟩
theorem ownsNum.kept {w w' : World} {b n : Nat} {t : List ByteArray} {row : Option Nat} (h : ownsNum w b n t) (hg : w.grownBy w' row) (hne : some b ≠ row) : ownsNum w' b n t := by
  obtain ⟨D, h1, h2⟩ := h; exact ⟨D, h1, h2.kept hg hne⟩
theorem ownsNum.alloc {w : World} {b n : Nat} {t : List ByteArray} (h : ownsNum w b n t) (o : Obj) : ownsNum (w.alloc o) b n t := by
  obtain ⟨D, h1, h2⟩ := h; exact ⟨D, h1, h2.alloc o⟩
theorem ownsNum.drew {w : World} {b n : Nat} {t : List ByteArray} (h : ownsNum w b n t) : ownsNum w.drew b n t := by
  obtain ⟨D, h1, h2⟩ := h; exact ⟨D, h1, h2.drew⟩
theorem ownsNum.mono {w : World} {b n m : Nat} {t : List ByteArray} (h : ownsNum w b n t) (hm : n ≤ m) : ownsNum w b m t := by
  obtain ⟨D, h1, h2⟩ := h; exact ⟨D, h1, h2.mono hm⟩
theorem ownsNum.lt {w : World} {b n : Nat} {t : List ByteArray} (h : ownsNum w b n t) : b < w.heap.size := by
  obtain ⟨D, h1, h2⟩ := h; exact h2.lt
theorem ownsNum.below {w w' : World} {b n : Nat} {t : List ByteArray} (h : ownsNum w b n t) (hb : Below w.heap.size w w') : ownsNum w' b n t :=
  h.kept (row := none) ⟨hb.os, hb.tape, hb.output, hb.size, fun k hk _ => hb.block k hk⟩ (by simp)
theorem ownsNum.nodup {w : World} {b n : Nat} {t : List ByteArray} (h : ownsNum w b n t) : t.Nodup := by
  obtain ⟨D, h1, h2⟩ := h; exact h1.nodup

section
variable {w : World} {ops : Array Oper} {rest : List Oper} {o : Oper} {a : Act} {Q : Exit → Act → World → Prop}
theorem wpList_num_there (hg : o.guard = none) (m x : Operand) (hop : o.op = Op.lookup 71 m x true) (b n : Nat) (t : List ByteArray)
    (hm : a.eval m = .map (some b)) (hown : ownsNum w b n t) (s : ByteArray) (hx : a.eval x = .string s) (hs : s.size ≤ maxLen) (j : Nat) (hj : t[j]? = some s)
    (hK : wpList Tryd.prog ops Q rest (a.put o.dst (.tuple #[.int .i64 j, .bool true])) w) : wpList Tryd.prog ops Q (o :: rest) a w := by
  obtain ⟨D, h1, h2⟩ := hown
  refine wpList_lookup_own_ok_int w hg m x _ hop 9 3 .i64 keyedS Tryd.underlying71 Tryd.underlying3 (zeroI w) b n D hm h2 _ _ hx (keyS hs) ?_
  intro c hc _
  rw [h1.at' s j hj] at hc
  obtain rfl : (j : Int) = c := by simpa using hc
  rw [h1.there s (List.mem_of_getElem? hj)]
  exact hK
theorem wpList_num_none (hg : o.guard = none) (m x : Operand) (hop : o.op = Op.lookup 71 m x true) (b n : Nat) (t : List ByteArray)
    (hm : a.eval m = .map (some b)) (hown : ownsNum w b n t) (s : ByteArray) (hx : a.eval x = .string s) (hs : s.size ≤ maxLen) (hj : s ∉ t)
    (hK : ∀ c, wpList Tryd.prog ops Q rest (a.put o.dst (.tuple #[.int .i64 c, .bool false])) w) : wpList Tryd.prog ops Q (o :: rest) a w := by
  obtain ⟨D, h1, h2⟩ := hown
  refine wpList_lookup_own_ok_int w hg m x _ hop 9 3 .i64 keyedS Tryd.underlying71 Tryd.underlying3 (zeroI w) b n D hm h2 _ _ hx (keyS hs) ?_
  intro c hc _
  rw [h1.none s hj]
  exact hK c
theorem wpList_num_put (hg : o.guard = none) (m x v : Operand) (hop : o.op = Op.mapUpdate 71 m x v) (b n : Nat) (t : List ByteArray)
    (hm : a.eval m = .map (some b)) (hown : ownsNum w b n t) (hn : n < maxLen) (s : ByteArray) (hx : a.eval x = .string s) (hv : a.eval v = .int .i64 (t.length : Nat)) (hs : s.size ≤ maxLen) (hj : s ∉ t) (ht : t.length ≤ maxLen)
    (hK : ∀ w', ownsNum w' b (n + 1) (t ++ [s]) → w.grownBy w' (some b) → wpList Tryd.prog ops Q rest (a.put o.dst undef) w') : wpList Tryd.prog ops Q (o :: rest) a w := by
  obtain ⟨D, h1, h2⟩ := hown
  refine wpList_mapUpdate_own w hg m x v _ hop 9 3 keyedS Tryd.underlying71 _ b n D hm h2 hn _ _ _ hx hv (keyS hs) (.lit (.int .i64 t.length)) [] (plainElem_int Tryd.underlying3 (WalkArith.wf_i64 (by unfold maxLen at ht; omega))) ?_
  intro w' h3 h4
  exact hK w' ⟨_, h1.put hj, h3⟩ h4
end

end Go.Proofs.YtimaddmgooefdaaDoor
