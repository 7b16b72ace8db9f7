/-
  A []api.Entry that comes in: what the row's own reading says of it; an id that comes in.
-/
import Derived.Test.YtpmnflnaeknakaaGreatDoorEnts
import Derived.Deep.Slices
import Derived.Deep.Fields
import Derived.ChangeSame
import Derived.SizedLaws
import Derived.ProofKit
namespace Go.Proofs.YtpmnflnaeknakaaGreatDoor
open Go.ChangeShapes Go.WideShapes Go.ChangeAt Go.RowKit

theorem laidOutE : laidOutB Tryz.prog = true := by kernel_rfl
instance : Inhabited Ent := ⟨⟨0, 0⟩⟩

/-- A struct of two fields, each of one cell, read. -/
theorem two_fields {H : Type} {enc : TypeId × Value → H} {P : Program} {W : World} {spare : Nat → Bool} {held : Bool} {n : Nat} {t : TypeId} {cs : List Value} {x : DataW H × List MemPlace} {p q : Field}
    (ht : P.underlying t = some (.struct #[p, q])) (h1 : Go.Deep.oneCellFields P #[p, q] = true) (h3 : P.cellsOf t = 2)
    (h : DataW.trod enc P W 0 spare held n t cs = some x) :
    ∃ (a b : Value) (u v : DataW H × List MemPlace) (m : Nat), cs = [a, b] ∧ x.1 = .agg [u.1, v.1] ∧
      DataW.trod enc P W 0 spare held m p.type [a] = some u ∧ DataW.trod enc P W 0 spare held m q.type [b] = some v := by
  obtain ⟨xs, m, _, hx, hl, hxl, hf⟩ := DataW.trod_struct ht h
  rw [h3] at hl
  have hxl' : xs.length = 2 := hxl
  match cs, hl with
  | [a, b], _ =>
    match xs, hxl' with
    | [u, v], _ =>
      have one := Go.Deep.hone_of h1
      have g0 := hf 0 p rfl
      have g1 := hf 1 q rfl
      rw [(one 0 p rfl).1, (one 0 p rfl).2] at g0
      rw [(one 1 q rfl).1, (one 1 q rfl).2] at g1
      exact ⟨a, b, u, v, m, rfl, by rw [hx]; rfl, g0, g1⟩

/-- How an entry reads. -/
def entD {H : Type} (t : Ent) : DataW H := .agg [.lit (.int .i64 t.rep), .lit (.int .i64 t.time)]
/-- One element. -/
theorem ent_elem {H : Type} {enc : TypeId × Value → H} {W : World} {spare : Nat → Bool} {held : Bool} {n : Nat} {cs : List Value} {x : DataW H × List MemPlace}
    (h : DataW.trod enc Tryz.prog W 0 spare held n 180 cs = some x) : ∃ t : Ent, cs = entC t := by
  obtain ⟨a, b, u, v, m, rfl, hx, g0, g1⟩ := two_fields Tryz.underlying180 (by kernel_rfl) (by kernel_rfl) h
  obtain ⟨k, e0, f0, _⟩ := DataW.trod_int Tryz.underlying3 g0
  obtain ⟨z, e1, f1, _⟩ := DataW.trod_int Tryz.underlying3 g1
  have e0' : a = .int .i64 k := List.head_eq_of_cons_eq e0
  have e1' : b = .int .i64 z := List.head_eq_of_cons_eq e1
  exact ⟨⟨k, z⟩, by rw [e0', e1']; rfl⟩

theorem entsArg {H : Type} {enc : TypeId × Value → H} {W : World} {spare : Nat → Bool} {held : Bool} {a0 : Option Addr} {len0 cap0 fuel : Nat} {d : DataW H} {p : List MemPlace}
    (hf : DataW.trod enc Tryz.prog W 0 spare held fuel 24 [.slice a0 len0 cap0] = some (d, p)) :
    ∃ l : List Ent, IsEnts W (.slice a0 len0 cap0) l ∧ l.length = len0 ∧ len0 ≤ cap0 ∧ cap0 ≤ maxLen := by
  rcases Go.Deep.open_slice Tryz.underlying24 hf with ⟨hcs, _⟩ | ⟨a, ln, cp, m, n, D, Pl, hcs, _, hl, hm, hmm, hx, hi⟩
  · simp only [List.cons.injEq, Value.slice.injEq, and_true] at hcs
    obtain ⟨rfl, rfl, rfl⟩ := hcs
    exact ⟨[], .inl ⟨_, _, rfl, rfl⟩, rfl, Nat.le_refl _, by unfold maxLen; omega⟩
  · simp only [List.cons.injEq, Value.slice.injEq, and_true] at hcs
    obtain ⟨rfl, rfl, rfl⟩ := hcs
    have h3 : Tryz.prog.cellsOf 180 = 2 := by kernel_rfl
    rw [h3] at hi
    have hle : len0 ≤ m := by rw [hmm]; split <;> omega
    obtain ⟨f, hfc⟩ := Go.Deep.choose_lt (n := len0) (p := fun i (t : Ent) => W.cells? 0 (a.add (i * 2)) 2 = some (entC t)) (fun i hlt => by
      obtain ⟨cs', hc, ht⟩ := hi i (by omega)
      obtain ⟨t, h1⟩ := ent_elem ht
      exact ⟨t, by rw [hc, h1]⟩)
    have hll : ((List.range len0).map f).length = len0 := by simp
    refine ⟨(List.range len0).map f, ?_, hll, hl, hm⟩
    by_cases hz : len0 = 0
    · subst hz; exact .inl ⟨_, _, rfl, rfl⟩
    · obtain ⟨b, off, spot⟩ := a
      have hcell : ∀ i, i < len0 → ∀ r, r < 2 → W.cell? ((⟨b, off, spot⟩ : Addr).add (i * 2 + r)) = (entC (f i))[r]? := fun i hlt r hr => by
        obtain ⟨_, _, hat⟩ := World.cells?_some (hfc i hlt)
        rw [← Go.Deep.add_add]; exact hat r hr
      have h0 := hcell 0 (by omega) 0 (by omega)
      have hspot : spot = none := by simpa [Addr.add] using World.cell?_spot (h0.trans rfl)
      subst hspot
      refine .inr ⟨b, off, cap0, by rw [hll], ⟨by rw [hll]; omega, by rw [hll]; omega⟩, block_lt_of_cell (h0.trans rfl), fun j u hj => ?_⟩
      have hjl : j < len0 * 2 := by rw [← hll, ← entsC_len]; exact (List.getElem?_eq_some_iff.1 hj).1
      have hc := hcell (j / 2) (by omega) (j % 2) (Nat.mod_lt _ (by decide))
      have hti : ((List.range len0).map f)[j / 2]? = some (f (j / 2)) := by
        rw [List.getElem?_map, List.getElem?_range (by omega)]; rfl
      have h5 := entsC_at _ _ (j % 2) _ hti (Nat.mod_lt _ (by decide))
      rw [show j / 2 * 2 + j % 2 = j by omega] at hc h5
      rw [← h5, hj] at hc
      rw [← hc]
      refine congrArg W.cell? ?_
      unfold Addr.add
      split
      · rename_i e; rw [e]; rfl
      · rfl
end Go.Proofs.YtpmnflnaeknakaaGreatDoor
