/-
  A [][]api.Entry that the call itself makes: what append of one run does to it.
-/
import Derived.Test.YtiipnifnejnhlaaDoorEnts
import Derived.Test.YtiipnifnejnhlaaDoorVecR
namespace Go.Proofs.YtiipnifnejnhlaaDoor
open Go.RowKit

theorem info_run : (Tryd.prog.info? 22).map (fun i => (i.zero, i.size, i.bytes)) = some (some (.slice none 0 0), 1, 24) := by kernel_rfl

/-- The slice v owns the slices l, in blocks from base on. -/
def ownsR (w : World) (base : Nat) (v : Value) (l : List Value) : Prop := w.ownsRow base 22 1 v l.length l
theorem ownsR_nil (w : World) (base : Nat) : ownsR w base (.slice none 0 0) [] := World.ownsRow_nil _ _ _ _
theorem ownsR.alloc {w : World} {base : Nat} {v : Value} {l : List Value} (h : ownsR w base v l) (o : Obj) : ownsR (w.alloc o) base v l := World.ownsRow.alloc h o
theorem ownsR.drewN {w : World} {base : Nat} {v : Value} {l : List Value} (h : ownsR w base v l) (n : Nat) : ownsR (w.drewN n) base v l := h
theorem ownsR.lt {w : World} {base : Nat} {v : Value} {l : List Value} (h : ownsR w base v l) : ∀ k, v.ownBlock = some k → base ≤ k ∧ k < w.heap.size := World.ownsRow.lt h
theorem ownsR.below {w w' : World} {base : Nat} {v : Value} {l : List Value} (h : ownsR w base v l) (hb : Below w.heap.size w w') : ownsR w' base v l := by
  refine World.ownsRow.kept h (row := none) ⟨hb.os, hb.tape, hb.output, hb.size, fun k hk _ => hb.block k hk⟩ ?_
  cases hv : v.ownBlock with
  | none => exact .inl rfl
  | some g => exact .inr (by simp)
/-- What it looks like: nil and nothing, or a row of cells. -/
theorem ownsR.forms {w : World} {base : Nat} {v : Value} {l : List Value} (h : ownsR w base v l) :
    (v = .slice none 0 0 ∧ l = []) ∨ ∃ g cap, v = .slice (some ⟨g, 0, none⟩) l.length cap ∧ base ≤ g ∧ g < w.heap.size ∧ (∃ cur, w.heap[g]? = some (.cells cur 22 (0, 0))) ∧ ∀ j u, l[j]? = some u → w.cell? ⟨g, j, none⟩ = some u := by
  have hall := h
  obtain ⟨h0, h1⟩ := h
  rcases h1 with ⟨rfl, hn⟩ | ⟨g, cap, cur, rfl, hb, hh, hc, hm, hs, ht⟩
  · exact .inl ⟨rfl, List.length_eq_zero_iff.1 hn⟩
  · refine .inr ⟨g, cap, rfl, hb, (World.ownsRow.lt hall g rfl).2, ⟨cur, hh⟩, fun j u hj => ?_⟩
    have hjl : j < l.length := (List.getElem?_eq_some_iff.1 hj).1
    rw [World.ownsRow.cellAt hall j (by omega)]
    exact hj

theorem wpList_append_run {w : World} {ops : Array Oper} {rest : List Oper} {o : Oper} {a : Act} {Q : Exit → Act → World → Prop} (hgd : o.guard = none) (s x : Operand)
    (ho : o.op = .call { callee := .builtin .append, args := #[s, x], argTypes := #[76, 76] })
    (base : Nat) (v : Value) (l : List Value) (hs : a.eval s = v) (hown : ownsR w base v l)
    (ad : Addr) (c : Nat) (hx : a.eval x = .slice (some ad) 1 c) (d : Value) (hd : ∃ a n m, d = .slice a n m) (hcell : w.cell? (ad.add 0) = some d)
    (hlen : l.length + 1 ≤ 1000000) (hbase : base ≤ w.heap.size)
    (h : ∀ g cap w', ownsR w' base (.slice (some ⟨g, 0, none⟩) (l.length + 1) cap) (l ++ [d]) → w.grownBy w' v.ownBlock → wpList Tryd.prog ops Q rest (a.put o.dst (.slice (some ⟨g, 0, none⟩) (l.length + 1) cap)) w') : wpList Tryd.prog ops Q (o :: rest) a w := by
  obtain ⟨i0, hi, hz0, hz1, hz2⟩ := info_parts info_run
  refine wpList_append_lies w hgd s x 76 ho base 22 i0 (.slice none 0 0) 1 24 Tryd.underlying76 hi hz0 hz1 hz2 rfl (by decide) v l.length l hs hown ad 1 c [d] hx rfl ?_ ?_ (by decide) (by unfold maxLen; omega) (by omega) hbase _ rfl ?_
  · intro j u hj
    match j, hj with
    | 0, hj => simp at hj; subst hj; exact hcell
  · intro u hu; simp at hu; subst hu; obtain ⟨a, n, m, rfl⟩ := hd; rfl
  · intro g cap w' h1 h2 _ _
    refine h g cap w' ?_ h2
    unfold ownsR
    rw [List.length_append]
    exact h1

/-- Each of the slices reads as its run. -/
def areE (w : World) : List Value → List (List Ent) → Prop
  | [], [] => True
  | v :: vs, r :: rs => IsEnts w v r ∧ areE w vs rs
  | _, _ => False
theorem areE_nil (w : World) : areE w [] [] := trivial
theorem areE_len {w : World} {vs : List Value} : ∀ {rs : List (List Ent)}, areE w vs rs → vs.length = rs.length := by
  induction vs with
  | nil => intro rs h; cases rs with
    | nil => rfl
    | cons r rs => exact h.elim
  | cons v vs ih => intro rs h; cases rs with
    | nil => exact h.elim
    | cons r rs => simp [ih h.2]
theorem areE_below {w w' : World} {vs : List Value} : ∀ {rs : List (List Ent)}, areE w vs rs → Below w.heap.size w w' → areE w' vs rs := by
  induction vs with
  | nil => intro rs h _; cases rs with
    | nil => trivial
    | cons r rs => exact h.elim
  | cons v vs ih => intro rs h hb; cases rs with
    | nil => exact h.elim
    | cons r rs => exact ⟨h.1.below hb, ih h.2 hb⟩
theorem areE_snoc {w : World} {vs : List Value} {v : Value} {r : List Ent} (hv : IsEnts w v r) : ∀ {rs : List (List Ent)}, areE w vs rs → areE w (vs ++ [v]) (rs ++ [r]) := by
  induction vs with
  | nil => intro rs h; cases rs with
    | nil => exact ⟨hv, trivial⟩
    | cons r rs => exact h.elim
  | cons v vs ih => intro rs h; cases rs with
    | nil => exact h.elim
    | cons r rs => exact ⟨h.1, ih h.2⟩
theorem areE_at {w : World} {vs : List Value} : ∀ {rs : List (List Ent)} {i : Nat} {r : List Ent}, areE w vs rs → rs[i]? = some r → ∃ v, vs[i]? = some v ∧ IsEnts w v r := by
  induction vs with
  | nil => intro rs i r h hi; cases rs with
    | nil => simp at hi
    | cons r rs => exact h.elim
  | cons v vs ih => intro rs i r h hi; cases rs with
    | nil => exact h.elim
    | cons r rs => cases i with
      | zero => simp at hi; subst hi; exact ⟨v, by simp, h.1⟩
      | succ i => simp at hi; obtain ⟨u, h1, h2⟩ := ih h.2 hi; exact ⟨u, by simpa using h1, h2⟩
end Go.Proofs.YtiipnifnejnhlaaDoor
