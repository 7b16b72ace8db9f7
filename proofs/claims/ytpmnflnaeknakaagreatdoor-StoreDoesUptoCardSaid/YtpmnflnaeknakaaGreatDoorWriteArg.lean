/-
  An api.Write that comes in: what the row's own reading and reach say of it.
-/
import Derived.Test.YtpmnflnaeknakaaGreatDoorProg
import Derived.KernelRfl
import Derived.Deep.Slices
import Derived.Deep.Fields
import Derived.ChangeSame
import Derived.SizedLaws
import Derived.Below
import Derived.ProofKit
import Derived.OpenShut
namespace Go.Proofs.YtpmnflnaeknakaaGreatDoor
open Go.ChangeShapes Go.WideShapes Go.ChangeAt Go.RowKit

theorem laidOutW : laidOutB Tryz.prog = true := by kernel_rfl

/-- A write: its time, its replica, its kind, its key, its value, its number. -/
structure Wr where
  time : Int
  rep : Int
  kind : Int
  key : ByteArray
  value : ByteArray
  n : Int
def wrC (x : Wr) : List Value := [.int .i64 x.time, .int .i64 x.rep, .int .i64 x.kind, .string x.key, .string x.value, .int .i64 x.n]
def wrV (x : Wr) : Value := .agg (wrC x).toArray
def WrOk (x : Wr) : Prop := -9223372036854775808 ≤ x.n ∧ x.n ≤ 9223372036854775807 ∧ x.key.size ≤ 140737488351232 ∧ x.value.size ≤ 140737488351232

/-- A struct of two fields, each of one cell, read. -/
theorem pair_fields {H : Type} {enc : TypeId × Value → H} {P : Program} {W : World} {spare : Nat → Bool} {held : Bool} {n : Nat} {t : TypeId} {cs : List Value} {x : DataW H × List MemPlace} {p q : Field}
    (ht : P.underlying t = some (.struct #[p, q])) (h1 : Go.Deep.oneCellFields P #[p, q] = true) (h3 : P.cellsOf t = 2)
    (h : DataW.trod enc P W 0 spare held n t cs = some x) :
    ∃ (a b : Value) (u v : DataW H × List MemPlace) (m : Nat), cs = [a, b] ∧ x.1 = .agg [u.1, v.1] ∧
      DataW.trod enc P W 0 spare held m p.type [a] = some u ∧ DataW.trod enc P W 0 spare held m q.type [b] = some v := by
  obtain ⟨xs, m, _, hx, hl, hxl, hf⟩ := DataW.trod_struct ht h
  rw [h3] at hl
  have hxl' : xs.length = 2 := hxl
  match cs, hl with
  | [a, b], _ =>
    match xs, hxl' with
    | [u, v], _ =>
      have one := Go.Deep.hone_of h1
      have g0 := hf 0 p rfl
      have g1 := hf 1 q rfl
      rw [(one 0 p rfl).1, (one 0 p rfl).2] at g0
      rw [(one 1 q rfl).1, (one 1 q rfl).2] at g1
      exact ⟨a, b, u, v, m, rfl, by rw [hx]; rfl, g0, g1⟩

/-- How a write reads. -/
def wrD {H : Type} (x : Wr) : DataW H := .agg [.agg [.lit (.int .i64 x.time), .lit (.int .i64 x.rep)], .lit (.int .i64 x.kind), .lit (.string x.key.data.toList), .lit (.string x.value.data.toList), .lit (.int .i64 x.n)]

set_option maxRecDepth 100000 in
theorem wr_elem {H : Type} {enc : TypeId × Value → H} {W : World} {spare : Nat → Bool} {held : Bool} {n : Nat} {cs : List Value} {x : DataW H × List MemPlace}
    (h : DataW.trod enc Tryz.prog W 0 spare held n 32 cs = some x) : ∃ t : Wr, cs = wrC t ∧ x.1 = wrD t ∧ -9223372036854775808 ≤ t.n ∧ t.n ≤ 9223372036854775807 := by
  obtain ⟨xs, m, _, hx, hl, hxl, hf⟩ := DataW.trod_struct Tryz.underlying32 h
  have c6 : Tryz.prog.cellsOf 32 = 6 := by kernel_rfl
  have c2 : Tryz.prog.cellsOf 30 = 2 := by kernel_rfl
  have cI : Tryz.prog.cellsOf 3 = 1 := by kernel_rfl
  have cS : Tryz.prog.cellsOf 9 = 1 := by kernel_rfl
  rw [c6] at hl
  have hxl' : xs.length = 5 := hxl
  match cs, hl with
  | [a, b, c, d, e, f], _ =>
    match xs, hxl' with
    | [u0, u1, u2, u3, u4], _ =>
      have g0 := hf 0 _ rfl
      have g1 := hf 1 _ rfl
      have g2 := hf 2 _ rfl
      have g3 := hf 3 _ rfl
      have g4 := hf 4 _ rfl
      simp [c2, cI, cS] at g0 g1 g2 g3 g4
      obtain ⟨a', b', y0, y1, m', hab, hy, t0, t1⟩ := pair_fields Tryz.underlying30 (by kernel_rfl) (by kernel_rfl) g0
      simp at hab
      obtain ⟨rfl, rfl⟩ := hab
      obtain ⟨T, e0, f0, _⟩ := DataW.trod_int Tryz.underlying3 t0
      obtain ⟨R, e1, f1, _⟩ := DataW.trod_int Tryz.underlying3 t1
      obtain ⟨K, e2, f2, _⟩ := DataW.trod_int Tryz.underlying3 g1
      obtain ⟨key, e3, f3, _⟩ := DataW.trod_string Tryz.underlying9 g2
      obtain ⟨val, e4, f4, _⟩ := DataW.trod_string Tryz.underlying9 g3
      obtain ⟨N, e5, f5, w5⟩ := DataW.trod_int Tryz.underlying3 g4
      obtain rfl := List.head_eq_of_cons_eq e0
      obtain rfl := List.head_eq_of_cons_eq e1
      obtain rfl := List.head_eq_of_cons_eq e2
      obtain rfl := List.head_eq_of_cons_eq e3
      obtain rfl := List.head_eq_of_cons_eq e4
      obtain rfl := List.head_eq_of_cons_eq e5
      have b5 := bounds_i64 w5
      refine ⟨⟨T, R, K, key, val, N⟩, rfl, ?_, b5.1, b5.2⟩
      rw [hx]
      simp only [List.map_cons, List.map_nil, hy, f0, f1, f2, f3, f4, f5]
      rfl

set_option maxRecDepth 100000 in
theorem writeArg {H : Type} {enc : TypeId × Value → H} {W : World} {spare : Nat → Bool} {held : Bool} {v : Value} {d : DataW H} {p : List MemPlace} {base : Nat}
    (hv : Value.okWide Tryz.prog W .any base 32 v) (h : DataW.Trod enc Tryz.prog W 0 spare held 32 v d p)
    (hw : ∀ x ∈ DataW.weights Tryz.prog 32 d, x ≤ reachBytes) : ∃ x : Wr, v = wrV x ∧ WrOk x := by
  obtain ⟨cs, rfl, hsz⟩ := okWide_struct Tryz.underlying32 hv
  obtain ⟨fuel, hf⟩ := h
  obtain ⟨x, hx, hd, h1, h2⟩ := wr_elem hf
  obtain rfl : d = wrD x := hd
  refine ⟨x, ?_, h1, h2, ?_, ?_⟩
  · unfold wrV; rw [← hx]; simp [Value.cells]
  · have := hw x.key.size (by
      unfold wrD
      rw [DataW.weights, Tryz.underlying32]
      simp [DataW.weightsEach, DataW.weights, Tryz.underlying30])
    unfold reachBytes at this; omega
  · have := hw x.value.size (by
      unfold wrD
      rw [DataW.weights, Tryz.underlying32]
      simp [DataW.weightsEach, DataW.weights, Tryz.underlying30])
    unfold reachBytes at this; omega
end Go.Proofs.YtpmnflnaeknakaaGreatDoor
