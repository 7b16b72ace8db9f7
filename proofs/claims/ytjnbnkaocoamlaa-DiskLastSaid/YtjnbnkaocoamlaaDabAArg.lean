/-
  A []packtrainkeep.Dab that comes in: what the row's own reading and reach say of it.
-/
import Derived.Test.YtjnbnkaocoamlaaProg
import Derived.WalkKit
import Derived.Handy
import Derived.KernelRfl
import Derived.Below
import Derived.Deep.Slices
import Derived.Deep.Fields
import Derived.ChangeSame
import Derived.ChangeArms
import Derived.SizedLaws
import Derived.ProofKit
import Derived.OpenShut
namespace Go.Proofs.Ytjnbnkaocoamlaa
open Go.ChangeShapes Go.WideShapes Go.ChangeAt Go.RowKit

theorem laidOutDabA : laidOutB Try.prog = true := by kernel_rfl
structure DabA where
  at_ : Int
  s : ByteArray
  syncs : Bool
instance : Inhabited DabA := ⟨⟨0, ByteArray.empty, false⟩⟩
def dabAC (t : DabA) : List Value := [.int .i64 t.at_, .string t.s, .bool t.syncs]
def dabAsC (l : List DabA) : List Value := l.flatMap dabAC
def DabAOk (t : DabA) : Prop := (Lit.int .i64 t.at_).wf = true ∧ t.s.size ≤ 140737488351232
theorem dabAsC_len (l : List DabA) : (dabAsC l).length = l.length * 3 := by
  induction l with
  | nil => rfl
  | cons t r ih => simp only [dabAsC, List.flatMap_cons, List.length_append, List.length_cons] at ih ⊢; rw [ih]; simp [dabAC]; omega
theorem dabAsC_at (l : List DabA) (i j : Nat) (t : DabA) (h : l[i]? = some t) (hj : j < 3) : (dabAsC l)[i * 3 + j]? = (dabAC t)[j]? := by
  induction l generalizing i with
  | nil => simp at h
  | cons u r ih =>
    have hc : dabAsC (u :: r) = dabAC u ++ dabAsC r := by simp [dabAsC]
    have h3 : (dabAC u).length = 3 := rfl
    rw [hc]
    cases i with
    | zero =>
      obtain rfl : u = t := by simpa using h
      rw [List.getElem?_append_left (by omega)]
      congr 1; omega
    | succ i =>
      rw [List.getElem?_append_right (by omega), h3, show (i + 1) * 3 + j - 3 = i * 3 + j by omega]
      exact ih i (by simpa using h)
/-- A slice that reads as l. -/
def IsDabAs (w : World) (v : Value) (l : List DabA) : Prop :=
  (∃ a c, v = .slice a 0 c ∧ l = []) ∨ ∃ b off c, v = .slice (some ⟨b, off, none⟩) l.length c ∧ (0 < l.length ∧ l.length ≤ c) ∧ b < w.heap.size ∧ ∀ j u, (dabAsC l)[j]? = some u → w.cell? ⟨b, off + j, none⟩ = some u
theorem IsDabAs.below {w w' : World} {v : Value} {l : List DabA} (h : IsDabAs w v l) (hb : Below w.heap.size w w') : IsDabAs w' v l := by
  rcases h with ⟨a, c, h1, h2⟩ | ⟨b, off, c, h1, h0, h2, h3⟩
  · exact .inl ⟨a, c, h1, h2⟩
  · exact .inr ⟨b, off, c, h1, h0, Nat.lt_of_lt_of_le h2 hb.size, fun j u hj => (hb.cell (p := ⟨b, off + j, none⟩) h2).trans (h3 j u hj)⟩
/-- Its length; the cells of each. -/
theorem IsDabAs.form {w : World} {v : Value} {l : List DabA} (h : IsDabAs w v l) : ∃ a c, v = .slice a l.length c ∧ ∀ i t, l[i]? = some t → ∃ b off, a = some ⟨b, off, none⟩ ∧ b < w.heap.size ∧
    w.cell? ⟨b, off + i * 3, none⟩ = some (.int .i64 t.at_) ∧ w.cell? ⟨b, off + i * 3 + 1, none⟩ = some (.string t.s) ∧ w.cell? ⟨b, off + i * 3 + 2, none⟩ = some (.bool t.syncs) := by
  rcases h with ⟨a, c, rfl, rfl⟩ | ⟨b, off, c, rfl, h0, h2, h3⟩
  · exact ⟨a, c, rfl, fun i t h => by simp at h⟩
  · refine ⟨_, _, rfl, fun i t h => ⟨b, off, rfl, h2, ?_, ?_, ?_⟩⟩
    · exact h3 _ _ ((dabAsC_at l i 0 t h (by omega)).trans rfl)
    · exact h3 _ _ ((dabAsC_at l i 1 t h (by omega)).trans rfl)
    · exact h3 _ _ ((dabAsC_at l i 2 t h (by omega)).trans rfl)
/-- How one reads. -/
def dabAD {H : Type} (t : DabA) : DataW H := .agg [.lit (.int .i64 t.at_), .lit (.string t.s.data.toList), .lit (.bool t.syncs)]
set_option maxRecDepth 100000 in
theorem dabA_elem {H : Type} {enc : TypeId × Value → H} {W : World} {spare : Nat → Bool} {held : Bool} {n : Nat} {cs : List Value} {x : DataW H × List MemPlace}
    (h : DataW.trod enc Try.prog W 0 spare held n 30 cs = some x) : ∃ t : DabA, cs = dabAC t ∧ x.1 = dabAD t ∧ (Lit.int .i64 t.at_).wf = true := by
  obtain ⟨xs, m, _, hx, hl, hxl, hf⟩ := DataW.trod_struct Try.underlying30 h
  have cN : Try.prog.cellsOf 30 = 3 := by kernel_rfl
  have c_bool : Try.prog.cellsOf 4 = 1 := by kernel_rfl
  have c_int : Try.prog.cellsOf 3 = 1 := by kernel_rfl
  have c_str : Try.prog.cellsOf 9 = 1 := by kernel_rfl
  rw [cN] at hl
  have hxl' : xs.length = 3 := hxl
  match cs, hl with
  | [a0, a1, a2], _ =>
    match xs, hxl' with
    | [u0, u1, u2], _ =>
      have g0 := hf 0 _ rfl
      have g1 := hf 1 _ rfl
      have g2 := hf 2 _ rfl
      simp [c_bool, c_int, c_str] at g0 g1 g2
      obtain ⟨x0, e0, f0, w0⟩ := DataW.trod_int Try.underlying3 g0
      obtain ⟨x1, e1, f1, _⟩ := DataW.trod_string Try.underlying9 g1
      obtain ⟨x2, e2, f2⟩ := DataW.trod_bool Try.underlying4 g2
      obtain rfl := List.head_eq_of_cons_eq e0
      obtain rfl := List.head_eq_of_cons_eq e1
      obtain rfl := List.head_eq_of_cons_eq e2
      refine ⟨⟨x0, x1, x2⟩, rfl, ?_, w0⟩
      rw [hx]
      show DataW.agg [u0.1, u1.1, u2.1] = _
      rw [f0, f1, f2]
      rfl
theorem dabA_weight {H : Type} (ds : List (DataW H)) (t : DabA) (h : dabAD t ∈ ds) : t.s.size ∈ DataW.weightsAll Try.prog 30 ds := by
  induction ds with
  | nil => cases h
  | cons d r ih =>
    rw [DataW.weightsAll]
    rcases List.mem_cons.1 h with h | h
    · apply List.mem_append_left
      rw [← h]
      unfold dabAD
      rw [DataW.weights, Try.underlying30]
      show t.s.size ∈ DataW.weightsEach _ (_ :: _ :: _) (_ :: _ :: _)
      rw [DataW.weightsEach, DataW.weightsEach]
      have hs : t.s.size ∈ DataW.weights (H := H) Try.prog 9 (.lit (.string t.s.data.toList)) := by
        rw [DataW.weights, Array.length_toList]
        exact List.mem_singleton.2 rfl
      exact List.mem_append_right _ (List.mem_append_left _ hs)
    · exact List.mem_append_right _ (ih h)

theorem dabAsArg {H : Type} {enc : TypeId × Value → H} {W : World} {spare : Nat → Bool} {held : Bool} {a0 : Option Addr} {len0 cap0 fuel : Nat} {d : DataW H} {p : List MemPlace}
    (hf : DataW.trod enc Try.prog W 0 spare held fuel 22 [.slice a0 len0 cap0] = some (d, p))
    (hw : ∀ x ∈ DataW.weights Try.prog 22 d, x ≤ reachBytes) :
    ∃ l : List DabA, IsDabAs W (.slice a0 len0 cap0) l ∧ l.length = len0 ∧ len0 ≤ cap0 ∧ cap0 ≤ maxLen ∧ ∀ t ∈ l, DabAOk t := by
  rcases Go.Deep.open_slice Try.underlying22 hf with ⟨hcs, _⟩ | ⟨a, ln, cp, m, n, D, Pl, hcs, _, hl, hm, hmm, hx, hi⟩
  · simp only [List.cons.injEq, Value.slice.injEq, and_true] at hcs
    obtain ⟨rfl, rfl, rfl⟩ := hcs
    exact ⟨[], .inl ⟨_, _, rfl, rfl⟩, rfl, Nat.le_refl _, by unfold maxLen; omega, fun t h => by cases h⟩
  · simp only [List.cons.injEq, Value.slice.injEq, and_true] at hcs
    obtain ⟨rfl, rfl, rfl⟩ := hcs
    have h3 : Try.prog.cellsOf 30 = 3 := by kernel_rfl
    rw [h3] at hi
    have hle : len0 ≤ m := by rw [hmm]; split <;> omega
    obtain ⟨f, hfc⟩ := Go.Deep.choose_lt (n := len0) (p := fun i (t : DabA) => W.cells? 0 (a.add (i * 3)) 3 = some (dabAC t) ∧ D i = dabAD t ∧ (Lit.int .i64 t.at_).wf = true) (fun i hlt => by
      obtain ⟨cs', hc, ht⟩ := hi i (by omega)
      obtain ⟨t, h1, h2⟩ := dabA_elem ht
      exact ⟨t, by rw [hc, h1], h2⟩)
    have hll : ((List.range len0).map f).length = len0 := by simp
    refine ⟨(List.range len0).map f, ?_, hll, hl, hm, fun t ht => ?_⟩
    · by_cases hz : len0 = 0
      · subst hz; exact .inl ⟨_, _, rfl, rfl⟩
      · obtain ⟨b, off, spot⟩ := a
        have hcell : ∀ i, i < len0 → ∀ r, r < 3 → W.cell? ((⟨b, off, spot⟩ : Addr).add (i * 3 + r)) = (dabAC (f i))[r]? := fun i hlt r hr => by
          obtain ⟨_, _, hat⟩ := World.cells?_some (hfc i hlt).1
          rw [← Go.Deep.add_add]; exact hat r hr
        have h0 := hcell 0 (by omega) 0 (by omega)
        have hspot : spot = none := by simpa [Addr.add] using World.cell?_spot (h0.trans rfl)
        subst hspot
        refine .inr ⟨b, off, cap0, by rw [hll], by rw [hll]; omega, block_lt_of_cell (h0.trans rfl), fun j u hj => ?_⟩
        have hjl : j < len0 * 3 := by rw [← hll, ← dabAsC_len]; exact (List.getElem?_eq_some_iff.1 hj).1
        have hc := hcell (j / 3) (by omega) (j % 3) (Nat.mod_lt _ (by decide))
        have hti : ((List.range len0).map f)[j / 3]? = some (f (j / 3)) := by
          rw [List.getElem?_map, List.getElem?_range (by omega)]; rfl
        have h5 := dabAsC_at _ _ (j % 3) _ hti (Nat.mod_lt _ (by decide))
        rw [show j / 3 * 3 + j % 3 = j by omega] at hc h5
        rw [← h5, hj] at hc
        rw [← hc]
        refine congrArg W.cell? ?_
        unfold Addr.add
        split
        · rename_i e; rw [e]; rfl
        · rfl
    · obtain ⟨i, hir, hit⟩ := List.mem_map.1 ht
      have hil := List.mem_range.1 hir
      have hd : d = .slice ((List.range len0).map D) ((List.range (m - len0)).map fun j => D (len0 + j)) := (Prod.mk.inj hx).1
      have hmem : dabAD t ∈ (List.range len0).map D := List.mem_map.2 ⟨i, hir, by rw [(hfc i hil).2.1, hit]⟩
      have := hw t.s.size (by
        rw [hd, DataW.weights, Try.underlying22]
        exact List.mem_cons_of_mem _ (List.mem_append_left _ (dabA_weight _ t hmem)))
      unfold reachBytes at this
      have hq := (hfc i hil).2.2
      rw [hit] at hq
      exact ⟨hq, by omega⟩
end Go.Proofs.Ytjnbnkaocoamlaa
