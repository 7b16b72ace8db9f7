/-
  A []api.Token that comes in: what the row's own reading and reach say of it.
-/
import Derived.Test.YtjhmlmcibpjagaaDoorToks
import Derived.Deep.Slices
import Derived.Deep.Fields
import Derived.ChangeSame
import Derived.SizedLaws
import Derived.ProofKit
namespace Go.Proofs.YtjhmlmcibpjagaaDoor
open Go.ChangeShapes Go.WideShapes Go.ChangeAt Go.RowKit

theorem laidOutK : laidOutB Tryd.prog = true := by kernel_rfl
instance : Inhabited Tok := ⟨⟨ByteArray.empty, 0, 0⟩⟩

/-- A struct of three fields, each of one cell, read. -/
theorem three_fields {H : Type} {enc : TypeId × Value → H} {P : Program} {W : World} {spare : Nat → Bool} {held : Bool} {n : Nat} {t : TypeId} {cs : List Value} {x : DataW H × List MemPlace} {p q r : Field}
    (ht : P.underlying t = some (.struct #[p, q, r])) (h1 : Go.Deep.oneCellFields P #[p, q, r] = true) (h3 : P.cellsOf t = 3)
    (h : DataW.trod enc P W 0 spare held n t cs = some x) :
    ∃ (a b c : Value) (u v w : DataW H × List MemPlace) (m : Nat), cs = [a, b, c] ∧ x.1 = .agg [u.1, v.1, w.1] ∧
      DataW.trod enc P W 0 spare held m p.type [a] = some u ∧ DataW.trod enc P W 0 spare held m q.type [b] = some v ∧ DataW.trod enc P W 0 spare held m r.type [c] = some w := by
  obtain ⟨xs, m, _, hx, hl, hxl, hf⟩ := DataW.trod_struct ht h
  rw [h3] at hl
  have hxl' : xs.length = 3 := hxl
  match cs, hl with
  | [a, b, c], _ =>
    match xs, hxl' with
    | [u, v, w], _ =>
      have one := Go.Deep.hone_of h1
      have g0 := hf 0 p rfl
      have g1 := hf 1 q rfl
      have g2 := hf 2 r rfl
      rw [(one 0 p rfl).1, (one 0 p rfl).2] at g0
      rw [(one 1 q rfl).1, (one 1 q rfl).2] at g1
      rw [(one 2 r rfl).1, (one 2 r rfl).2] at g2
      exact ⟨a, b, c, u, v, w, m, rfl, by rw [hx]; rfl, g0, g1, g2⟩

/-- How a token reads. -/
def tokD {H : Type} (t : Tok) : DataW H := .agg [.lit (.string t.own.data.toList), .lit (.int .i64 t.back), .lit (.int .i64 t.size)]
/-- One element. -/
theorem tok_elem {H : Type} {enc : TypeId × Value → H} {W : World} {spare : Nat → Bool} {held : Bool} {n : Nat} {cs : List Value} {x : DataW H × List MemPlace}
    (h : DataW.trod enc Tryd.prog W 0 spare held n 42 cs = some x) : ∃ t : Tok, cs = tokC t ∧ x.1 = tokD t := by
  obtain ⟨a, b, c, u, v, w, m, rfl, hx, g0, g1, g2⟩ := three_fields Tryd.underlying42 (by kernel_rfl) (by kernel_rfl) h
  obtain ⟨s, e0, f0, _⟩ := DataW.trod_string Tryd.underlying9 g0
  obtain ⟨k, e1, f1, _⟩ := DataW.trod_int Tryd.underlying3 g1
  obtain ⟨z, e2, f2, _⟩ := DataW.trod_int Tryd.underlying3 g2
  have e0' : a = .string s := List.head_eq_of_cons_eq e0
  have e1' : b = .int .i64 k := List.head_eq_of_cons_eq e1
  have e2' : c = .int .i64 z := List.head_eq_of_cons_eq e2
  refine ⟨⟨s, k, z⟩, by rw [e0', e1', e2']; rfl, ?_⟩
  rw [hx, f0, f1, f2]; rfl
theorem tok_weight {H : Type} (ds : List (DataW H)) (t : Tok) (h : tokD t ∈ ds) : t.own.size ∈ DataW.weightsAll Tryd.prog 42 ds := by
  induction ds with
  | nil => cases h
  | cons d r ih =>
    rw [DataW.weightsAll]
    rcases List.mem_cons.1 h with h | h
    · apply List.mem_append_left
      rw [← h]
      unfold tokD
      rw [DataW.weights, Tryd.underlying42]
      show t.own.size ∈ DataW.weightsEach _ (_ :: _) (_ :: _)
      rw [DataW.weightsEach]
      apply List.mem_append_left
      rw [DataW.weights, Array.length_toList]
      exact List.mem_singleton.2 rfl
    · exact List.mem_append_right _ (ih h)

theorem toksArg {H : Type} {enc : TypeId × Value → H} {W : World} {spare : Nat → Bool} {held : Bool} {a0 : Option Addr} {len0 cap0 fuel : Nat} {d : DataW H} {p : List MemPlace}
    (hf : DataW.trod enc Tryd.prog W 0 spare held fuel 22 [.slice a0 len0 cap0] = some (d, p))
    (hw : ∀ x ∈ DataW.weights Tryd.prog 22 d, x ≤ reachBytes) :
    ∃ l : List Tok, IsToks W (.slice a0 len0 cap0) l ∧ l.length = len0 ∧ len0 ≤ cap0 ∧ cap0 ≤ maxLen ∧ ∀ t ∈ l, t.own.size ≤ 140737488351232 := by
  rcases Go.Deep.open_slice Tryd.underlying22 hf with ⟨hcs, _⟩ | ⟨a, ln, cp, m, n, D, Pl, hcs, _, hl, hm, hmm, hx, hi⟩
  · simp only [List.cons.injEq, Value.slice.injEq, and_true] at hcs
    obtain ⟨rfl, rfl, rfl⟩ := hcs
    exact ⟨[], .inl ⟨_, _, rfl, rfl⟩, rfl, Nat.le_refl _, by unfold maxLen; omega, fun t h => by cases h⟩
  · simp only [List.cons.injEq, Value.slice.injEq, and_true] at hcs
    obtain ⟨rfl, rfl, rfl⟩ := hcs
    have h3 : Tryd.prog.cellsOf 42 = 3 := by kernel_rfl
    rw [h3] at hi
    have hle : len0 ≤ m := by rw [hmm]; split <;> omega
    obtain ⟨f, hfc⟩ := Go.Deep.choose_lt (n := len0) (p := fun i (t : Tok) => W.cells? 0 (a.add (i * 3)) 3 = some (tokC t) ∧ D i = tokD t) (fun i hlt => by
      obtain ⟨cs', hc, ht⟩ := hi i (by omega)
      obtain ⟨t, h1, h2⟩ := tok_elem ht
      exact ⟨t, by rw [hc, h1], h2⟩)
    have hll : ((List.range len0).map f).length = len0 := by simp
    refine ⟨(List.range len0).map f, ?_, hll, hl, hm, fun t ht => ?_⟩
    · by_cases hz : len0 = 0
      · subst hz; exact .inl ⟨_, _, rfl, rfl⟩
      · obtain ⟨b, off, spot⟩ := a
        have hcell : ∀ i, i < len0 → ∀ r, r < 3 → W.cell? ((⟨b, off, spot⟩ : Addr).add (i * 3 + r)) = (tokC (f i))[r]? := fun i hlt r hr => by
          obtain ⟨_, _, hat⟩ := World.cells?_some (hfc i hlt).1
          rw [← Go.Deep.add_add]; exact hat r hr
        have h0 := hcell 0 (by omega) 0 (by omega)
        have hspot : spot = none := by simpa [Addr.add] using World.cell?_spot (h0.trans rfl)
        subst hspot
        refine .inr ⟨b, off, cap0, by rw [hll], by rw [hll]; omega, block_lt_of_cell (h0.trans rfl), fun j u hj => ?_⟩
        have hjl : j < len0 * 3 := by rw [← hll, ← toksC_len]; exact (List.getElem?_eq_some_iff.1 hj).1
        have hc := hcell (j / 3) (by omega) (j % 3) (Nat.mod_lt _ (by decide))
        have hti : ((List.range len0).map f)[j / 3]? = some (f (j / 3)) := by
          rw [List.getElem?_map, List.getElem?_range (by omega)]; rfl
        have h5 := toksC_at _ _ (j % 3) _ hti (Nat.mod_lt _ (by decide))
        rw [show j / 3 * 3 + j % 3 = j by omega] at hc h5
        rw [← h5, hj] at hc
        rw [← hc]
        refine congrArg W.cell? ?_
        unfold Addr.add
        split
        · rename_i e; rw [e]; rfl
        · rfl
    · obtain ⟨i, hir, hit⟩ := List.mem_map.1 ht
      have hil := List.mem_range.1 hir
      have hd : d = .slice ((List.range len0).map D) ((List.range (m - len0)).map fun j => D (len0 + j)) := (Prod.mk.inj hx).1
      have hmem : tokD t ∈ (List.range len0).map D := List.mem_map.2 ⟨i, hir, by rw [(hfc i hil).2, hit]⟩
      have := hw t.own.size (by
        rw [hd, DataW.weights, Tryd.underlying22]
        exact List.mem_cons_of_mem _ (List.mem_append_left _ (tok_weight _ t hmem)))
      unfold reachBytes at this
      omega
end Go.Proofs.YtjhmlmcibpjagaaDoor
