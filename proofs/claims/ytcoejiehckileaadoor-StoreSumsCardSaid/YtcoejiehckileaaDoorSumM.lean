/-
  A map of sums by keys.
-/
import Derived.Test.YtcoejiehckileaaDoorStoLaw
import Derived.Test.YtcoejiehckileaaDoorMapM
import Derived.KernelRfl
import Derived.StringKeys
namespace Go.Proofs.YtcoejiehckileaaDoor
open Go.RowKit Go.Maps

theorem keyedT : Keyed Tryd.prog 9 := string_keyed Tryd.underlying9
theorem zeroT (w : World) : (zeroValue 3).run Tryd.prog w = .ok (.int .i64 0) w := by kernel_rfl
theorem keyT {s : ByteArray} (h : s.size ≤ maxLen) : keyOf Tryd.prog 9 (.string s) = some (keyL s) := Go.WideMaps.keyOf_string_mk Tryd.underlying9 h

/-- D reads as the sums S. -/
structure SumD (D : DataW Unit) (S : ByteArray → Int) : Prop where
  isMap : IsMap D
  at' : ∀ k, D.atKey (keyL k) (.lit (.int .i64 0)) = .lit (.int .i64 (S k))
theorem sumD_nil : SumD (.map []) (fun _ => 0) := ⟨isMap_empty, fun _ => rfl⟩
theorem SumD.put {D : DataW Unit} {S : ByteArray → Int} (h : SumD D S) (k : ByteArray) (x : Int) : SumD (D.put (keyL k) (.lit (.int .i64 x))) (upd S k x) := by
  refine ⟨h.isMap.put _ _, fun j => ?_⟩
  by_cases e : j = k
  · rw [e, atKey_put_same h.isMap (keyL_key _), upd_same]
  · rw [atKey_put_other (fun e2 => e (keyL_inj e2)), upd_other _ _ e]; exact h.at' j
/-- Block b is a map, of at most n entries, of the sums S. -/
def ownsSum (w : World) (b n : Nat) (S : ByteArray → Int) : Prop := ∃ D, SumD D S ∧ w.ownsMap Tryd.prog 9 (plainElem Tryd.prog 3) b n D
theorem ownsSum_made (w : World) : ownsSum (w.alloc (.map #[] 0)) w.heap.size 0 (fun _ => 0) := ⟨_, sumD_nil, World.ownsMap_made _ _ _ _⟩
theorem ownsSum.kept {w w' : World} {b n : Nat} {S : ByteArray → Int} {row : Option Nat} (h : ownsSum w b n S) (hg : w.grownBy w' row) (hne : some b ≠ row) : ownsSum w' b n S := by
  obtain ⟨D, h1, h2⟩ := h; exact ⟨D, h1, h2.kept hg hne⟩
theorem ownsSum.alloc {w : World} {b n : Nat} {S : ByteArray → Int} (h : ownsSum w b n S) (o : Obj) : ownsSum (w.alloc o) b n S := by
  obtain ⟨D, h1, h2⟩ := h; exact ⟨D, h1, h2.alloc o⟩
theorem ownsSum.lt {w : World} {b n : Nat} {S : ByteArray → Int} (h : ownsSum w b n S) : b < w.heap.size := by
  obtain ⟨D, h1, h2⟩ := h; exact h2.lt
theorem ownsSum.mono {w : World} {b n m : Nat} {S : ByteArray → Int} (h : ownsSum w b n S) (hm : n ≤ m) : ownsSum w b m S := by
  obtain ⟨D, h1, h2⟩ := h; exact ⟨D, h1, h2.mono hm⟩
theorem ownsSum.below {w w' : World} {b n : Nat} {S : ByteArray → Int} (h : ownsSum w b n S) (hb : Below w.heap.size w w') : ownsSum w' b n S :=
  h.kept (row := none) ⟨hb.os, hb.tape, hb.output, hb.size, fun k hk _ => hb.block k hk⟩ (by simp)
theorem wpList_sum_get {w : World} {ops : Array Oper} {rest : List Oper} {o : Oper} {a : Act} {Q : Exit → Act → World → Prop} (hg : o.guard = none) (m x : Operand) (hop : o.op = Op.lookup 54 m x false) (b n : Nat) (S : ByteArray → Int)
    (hm : a.eval m = .map (some b)) (hown : ownsSum w b n S) (s : ByteArray) (hx : a.eval x = .string s) (hs : s.size ≤ maxLen)
    (hK : wpList Tryd.prog ops Q rest (a.put o.dst (.int .i64 (S s))) w) : wpList Tryd.prog ops Q (o :: rest) a w := by
  obtain ⟨D, h1, h2⟩ := hown
  refine wpList_lookup_own_is w hg m x _ hop 9 3 keyedT Tryd.underlying54 _ (zeroT w) (.lit (.int .i64 0)) [] (plainElem_int Tryd.underlying3 (WalkArith.wf_i64 (by omega))) b n D hm h2 _ _ hx (keyT hs) _ ?_ hK
  intro v ps hv
  rw [h1.at' s] at hv
  obtain ⟨y, rfl, e, _⟩ := plainElem_int_inv Tryd.underlying3 hv
  simp only [Prod.mk.injEq, DataW.lit.injEq, Lit.int.injEq, true_and] at e
  rw [e.1]
theorem wpList_sum_put {w : World} {ops : Array Oper} {rest : List Oper} {o : Oper} {a : Act} {Q : Exit → Act → World → Prop} (hg : o.guard = none) (m x v : Operand) (hop : o.op = Op.mapUpdate 54 m x v) (b n : Nat) (S : ByteArray → Int)
    (hm : a.eval m = .map (some b)) (hown : ownsSum w b n S) (hn : n < maxLen) (s : ByteArray) (y : Int) (hx : a.eval x = .string s) (hv : a.eval v = .int .i64 y) (hs : s.size ≤ maxLen) (hy : -9223372036854775808 ≤ y ∧ y ≤ 9223372036854775807)
    (hK : ∀ w', ownsSum w' b (n + 1) (upd S s y) → w.grownBy w' (some b) → wpList Tryd.prog ops Q rest (a.put o.dst undef) w') : wpList Tryd.prog ops Q (o :: rest) a w := by
  obtain ⟨D, h1, h2⟩ := hown
  refine wpList_mapUpdate_own w hg m x v _ hop 9 3 keyedT Tryd.underlying54 _ b n D hm h2 hn _ _ _ hx hv (keyT hs) (.lit (.int .i64 y)) [] (plainElem_int Tryd.underlying3 (WalkArith.wf_i64 hy)) ?_
  intro w' h3 h4
  exact hK w' ⟨_, h1.put s y, h3⟩ h4
/-- The sums of what is added. -/
def sumW (l : List Wr) (k : ByteArray) : Int := IntKind.i64.wrap (sumK l k)
theorem sumW_nil : sumW [] = fun _ => 0 := by funext k; rfl
theorem sumW_snoc (l : List Wr) (x : Wr) : upd (sumW l) x.key (IntKind.i64.wrap (sumW l x.key + x.n)) = sumW (l ++ [x]) := by
  funext j
  have h : sumK (l ++ [x]) j = sumK l j + (if x.key = j then x.n else 0) := by
    unfold sumK
    rw [List.filter_append, List.map_append, List.sum_append]
    congr 1
    by_cases e : x.key = j
    · rw [if_pos e, List.filter_cons_of_pos (by simpa using e)]; simp
    · rw [if_neg e, List.filter_cons_of_neg (by simpa using e)]; rfl
  by_cases e : j = x.key
  · subst e
    rw [upd_same]
    unfold sumW
    rw [wrap_add, h, if_pos rfl]
  · rw [upd_other _ _ e]
    unfold sumW
    rw [h, if_neg (fun e2 => e e2.symm), Int.add_zero]
theorem sumW_fits (l : List Wr) (k : ByteArray) : -9223372036854775808 ≤ sumW l k ∧ sumW l k ≤ 9223372036854775807 := by
  unfold sumW; rw [IntKind.wrap_i64]; omega
end Go.Proofs.YtcoejiehckileaaDoor
