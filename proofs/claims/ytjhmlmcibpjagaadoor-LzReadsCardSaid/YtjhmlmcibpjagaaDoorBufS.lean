/-
  A []byte of the call's own beside a token's block: append of a text's bytes, and what it looks like.
-/
import Derived.Test.YtjhmlmcibpjagaaDoorBuf
import Derived.Test.YtjhmlmcibpjagaaDoorToks
import Derived.Lib.AppendStr
namespace Go.Proofs.YtjhmlmcibpjagaaDoor
open Go.RowKit

theorem ownsB.drew {w : World} {base : Nat} {v : Value} {l : List UInt8} (h : ownsB w base v l) : ownsB w.drew base v l := h
theorem ownsB.lt {w : World} {base : Nat} {v : Value} {l : List UInt8} (h : ownsB w base v l) : ∀ k, v.ownBlock = some k → base ≤ k ∧ k < w.heap.size := World.ownsRow.lt h
theorem ownsB.below {w w' : World} {base : Nat} {v : Value} {l : List UInt8} (h : ownsB w base v l) (hb : Below w.heap.size w w') : ownsB w' base v l := by
  refine World.ownsRow.kept h (row := none) ⟨hb.os, hb.tape, hb.output, hb.size, fun k hk _ => hb.block k hk⟩ ?_
  cases hv : v.ownBlock with
  | none => exact .inl rfl
  | some g => exact .inr (by simp)
/-- What it looks like: nil and nothing, or a row of cells. -/
theorem ownsB.forms {w : World} {base : Nat} {v : Value} {l : List UInt8} (h : ownsB w base v l) :
    (v = .slice none 0 0 ∧ l = []) ∨ ∃ g cap, v = .slice (some ⟨g, 0, none⟩) l.length cap ∧ base ≤ g ∧ g < w.heap.size ∧ ∀ j, j < l.length → w.cell? ⟨g, j, none⟩ = some (.int .u8 ((l.getD j 0).toNat : Int)) := by
  have hall := h
  obtain ⟨h0, h1⟩ := h
  rcases h1 with ⟨rfl, hn⟩ | ⟨g, cap, cur, rfl, hb, hh, hc, hm, hs, ht⟩
  · exact .inl ⟨rfl, List.length_eq_zero_iff.1 hn⟩
  · refine .inr ⟨g, cap, rfl, hb, (World.ownsRow.lt hall g rfl).2, fun j hj => ?_⟩
    rw [World.ownsRow.cellAt hall j (by omega)]
    simp [List.getElem?_eq_getElem hj, byteV]
/-- It is no token's block. -/
theorem ownsB.ne_tok {w : World} {base B : Nat} {v : Value} {l : List UInt8} {t : Tok} (h : ownsB w base v l) (hb : tokBlk w B t) : v.ownBlock ≠ some B := by
  rcases h.2 with ⟨rfl, _⟩ | ⟨g', cap, cur, rfl, _, hh, _⟩
  · simp [Value.ownBlock]
  · intro he
    have : g' = B := by simpa [Value.ownBlock] using he
    subst this
    unfold tokBlk at hb
    rw [hh] at hb
    injection hb with hb
    injection hb with _ ht
    exact absurd ht (by decide)
theorem tokBlk.lt {w : World} {B : Nat} {t : Tok} (h : tokBlk w B t) : B < w.heap.size := by
  rcases Nat.lt_or_ge B w.heap.size with hlt | hge
  · exact hlt
  · unfold tokBlk at h; rw [Array.getElem?_eq_none hge] at h; cases h
theorem tokBlk.alloc {w : World} {B : Nat} {t : Tok} (h : tokBlk w B t) (o : Obj) : tokBlk (w.alloc o) B t := (Below.heap_alloc w o B h.lt).trans h
theorem tokBlk.grown {w w' : World} {B : Nat} {t : Tok} {row : Option Nat} (h : tokBlk w B t) (hg : w.grownBy w' row) (hne : row ≠ some B) : tokBlk w' B t := (hg.block B h.lt (fun e => hne e.symm)).trans h
theorem tokBlk.cells {w : World} {B : Nat} {t : Tok} (h : tokBlk w B t) : w.cell? ⟨B, 0, none⟩ = some (.string t.own) ∧ w.cell? ⟨B, 1, none⟩ = some (.int .i64 t.back) ∧ w.cell? ⟨B, 2, none⟩ = some (.int .i64 t.size) :=
  ⟨cell_of_row w B 0 _ _ (0, 0) h, cell_of_row w B 1 _ _ (0, 0) h, cell_of_row w B 2 _ _ (0, 0) h⟩

theorem wpList_append_text {w : World} {ops : Array Oper} {rest : List Oper} {o : Oper} {a : Act} {Q : Exit → Act → World → Prop} (hgd : o.guard = none) (s x : Operand)
    (ho : o.op = .call { callee := .builtin .append, args := #[s, x], argTypes := #[55, 9] })
    (base : Nat) (v : Value) (l : List UInt8) (hs : a.eval s = v) (hown : ownsB w base v l)
    (t : ByteArray) (hx : a.eval x = .string t) (hlen : l.length + t.size ≤ 140737488355328) (hbase : base ≤ w.heap.size)
    (h : ∀ v' w', ownsB w' base v' (l ++ t.data.toList) → w.grownBy w' v.ownBlock → wpList Tryd.prog ops Q rest (a.put o.dst v') w') : wpList Tryd.prog ops Q (o :: rest) a w := by
  obtain ⟨i0, hi, hz0, hz1, hz2⟩ := info_parts info_u8
  refine Go.Lib.wpList_append_own_string w hgd s x 55 9 ho base 5 i0 Tryd.underlying55 Tryd.underlying9 hi hz0 hz1 hz2 v l.length (l.map byteV) hs hown t hx (by unfold maxLen; omega) hlen hbase ?_
  intro v' w' h1 h2 _
  refine h v' w' ?_ h2
  unfold ownsB
  rw [List.length_append, List.map_append, Array.length_toList]
  exact h1
end Go.Proofs.YtjhmlmcibpjagaaDoor
