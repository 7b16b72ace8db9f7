/-
  An api.Chunk that comes in: what the row's own reading and reach say of it.
-/
import Derived.Test.YtjnbnkaocoamlabDoorChkM
import Derived.Test.YtjnbnkaocoamlabDoorProg
import Derived.KernelRfl
import Derived.Deep.Slices
import Derived.Deep.Fields
import Derived.ChangeSame
import Derived.SizedLaws
import Derived.Below
import Derived.ProofKit
import Derived.OpenShut
namespace Go.Proofs.YtjnbnkaocoamlabDoor
open Go.ChangeShapes Go.WideShapes Go.ChangeAt Go.RowKit

theorem laidOutP : laidOutB Tryd.prog = true := by kernel_rfl
/-- A piece as a value. -/
def chkV (c : Chk) : Value := .agg #[.int .u32 c.nm, .int .i64 c.tot, .int .i64 c.pos, .string c.dat]
structure ChkOk (c : Chk) : Prop where
  nm : c.nm < 4294967296
  t0 : -9223372036854775808 ≤ c.tot
  t1 : c.tot ≤ 9223372036854775807
  p0 : -9223372036854775808 ≤ c.pos
  p1 : c.pos ≤ 9223372036854775807
  dat : c.dat.size ≤ 140737488351232
/-- How a piece reads. -/
def chkD {H : Type} (c : Chk) : DataW H := .agg [.lit (.int .u32 c.nm), .lit (.int .i64 c.tot), .lit (.int .i64 c.pos), .lit (.string c.dat.data.toList)]

set_option maxRecDepth 100000 in
theorem chk_elem {H : Type} {enc : TypeId × Value → H} {W : World} {spare : Nat → Bool} {held : Bool} {n : Nat} {cs : List Value} {x : DataW H × List MemPlace}
    (h : DataW.trod enc Tryd.prog W 0 spare held n 34 cs = some x) : ∃ c : Chk, cs = [.int .u32 c.nm, .int .i64 c.tot, .int .i64 c.pos, .string c.dat] ∧ x.1 = chkD c ∧ c.nm < 4294967296 ∧ -9223372036854775808 ≤ c.tot ∧ c.tot ≤ 9223372036854775807 ∧ -9223372036854775808 ≤ c.pos ∧ c.pos ≤ 9223372036854775807 := by
  obtain ⟨xs, m, _, hx, hl, hxl, hf⟩ := DataW.trod_struct Tryd.underlying34 h
  have c4 : Tryd.prog.cellsOf 34 = 4 := by kernel_rfl
  have cU : Tryd.prog.cellsOf 32 = 1 := by kernel_rfl
  have cI : Tryd.prog.cellsOf 3 = 1 := by kernel_rfl
  have cS : Tryd.prog.cellsOf 9 = 1 := by kernel_rfl
  rw [c4] at hl
  have hxl' : xs.length = 4 := hxl
  match cs, hl with
  | [a, b, c, d], _ =>
    match xs, hxl' with
    | [u0, u1, u2, u3], _ =>
      have g0 := hf 0 _ rfl
      have g1 := hf 1 _ rfl
      have g2 := hf 2 _ rfl
      have g3 := hf 3 _ rfl
      simp [cU, cI, cS] at g0 g1 g2 g3
      obtain ⟨N, e0, f0, w0⟩ := DataW.trod_int Tryd.underlying32 g0
      obtain ⟨T, e1, f1, w1⟩ := DataW.trod_int Tryd.underlying3 g1
      obtain ⟨P, e2, f2, w2⟩ := DataW.trod_int Tryd.underlying3 g2
      obtain ⟨D, e3, f3, _⟩ := DataW.trod_string Tryd.underlying9 g3
      obtain rfl := List.head_eq_of_cons_eq e0
      obtain rfl := List.head_eq_of_cons_eq e1
      obtain rfl := List.head_eq_of_cons_eq e2
      obtain rfl := List.head_eq_of_cons_eq e3
      have b0 := bounds_u32 w0
      have b1 := bounds_i64 w1
      have b2 := bounds_i64 w2
      obtain ⟨N, rfl⟩ := Int.eq_ofNat_of_zero_le b0.1
      refine ⟨⟨N, T, P, D⟩, rfl, ?_, ?_, b1.1, b1.2, b2.1, b2.2⟩
      · rw [hx]
        simp only [List.map_cons, List.map_nil, f0, f1, f2, f3]
        rfl
      · have := b0.2
        show N < 4294967296
        omega

set_option maxRecDepth 100000 in
theorem chkArg {H : Type} {enc : TypeId × Value → H} {W : World} {spare : Nat → Bool} {held : Bool} {v : Value} {d : DataW H} {p : List MemPlace} {base : Nat}
    (hv : Value.okWide Tryd.prog W .any base 34 v) (h : DataW.Trod enc Tryd.prog W 0 spare held 34 v d p)
    (hw : ∀ x ∈ DataW.weights Tryd.prog 34 d, x ≤ reachBytes) : ∃ c : Chk, v = chkV c ∧ ChkOk c := by
  obtain ⟨cs, rfl, hsz⟩ := okWide_struct Tryd.underlying34 hv
  obtain ⟨fuel, hf⟩ := h
  obtain ⟨c, hx, hd, h0, h1, h2, h3, h4⟩ := chk_elem hf
  obtain rfl : d = chkD c := hd
  refine ⟨c, ?_, h0, h1, h2, h3, h4, ?_⟩
  · unfold chkV
    have : cs.toList = [.int .u32 c.nm, .int .i64 c.tot, .int .i64 c.pos, .string c.dat] := by rw [← hx]; simp [Value.cells]
    congr 1
    apply Array.toList_inj.1
    exact this
  · have := hw c.dat.size (by
      unfold chkD
      rw [DataW.weights, Tryd.underlying34]
      simp [DataW.weightsEach, DataW.weights])
    unfold reachBytes at this; omega
end Go.Proofs.YtjnbnkaocoamlabDoor
