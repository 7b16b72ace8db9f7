/-
  An *api.At in memory, or no error; worlds that draw.
-/
import Derived.Test.YtiipnifnejnhlaaDoorProg
import Derived.Test.YtiipnifnejnhlaaDoorPlace
import Derived.WalkKit
import Derived.Handy
import Derived.KernelRfl
import Derived.Below
import Derived.Lib.Hide
namespace Go.Proofs.YtiipnifnejnhlaaDoor
open Go.RowKit

/-- No error, or an *api.At in memory: its number, its place. -/
def atIs (w : World) (v : Value) (r : Nat × Int) : Prop :=
  (r = (0, -1) ∧ v = .nilIface) ∨ (r.1 ≠ 0 ∧ ∃ b, v = .iface 55 (.pointer (some ⟨b, 0, none⟩)) ∧ b < w.heap.size ∧ w.cell? ⟨b, 0, none⟩ = some (.int .i64 (r.1 : Nat)) ∧ w.cell? ⟨b, 1, none⟩ = some (.int .i64 r.2))
theorem atIs.below {w w' : World} {v : Value} {r : Nat × Int} (h : atIs w v r) (hb : Below w.heap.size w w') : atIs w' v r := by
  rcases h with h | ⟨h0, b, h1, h2, h3, h4⟩
  · exact .inl h
  · exact .inr ⟨h0, b, h1, Nat.lt_of_lt_of_le h2 hb.size, (hb.cell (p := ⟨b, 0, none⟩) h2).trans h3, (hb.cell (p := ⟨b, 1, none⟩) h2).trans h4⟩
theorem atIs.new (w : World) (e : Nat) (pl : Int) (he : e ≠ 0) : atIs (w.alloc (.cells #[.int .i64 e, .int .i64 pl] 57)) (.iface 55 (.pointer (some ⟨w.heap.size, 0, none⟩))) (e, pl) :=
  .inr ⟨he, _, rfl, by simp, by simp, by simp⟩
def RightIs (w : World) (r : Nat × Int) (e : Ending) (w' : World) : Prop :=
  ∃ v, e = .returned v ∧ atIs w' v r ∧ Below w.heap.size w w'
theorem atIs.place {w : World} {v : Value} {e : Nat} {pl : Int} (h : atIs w v (e, pl)) : placeIs w v e pl := by
  rcases h with ⟨h1, h2⟩ | ⟨_, b, h1, _, h3, h4⟩
  · simp only [Prod.mk.injEq] at h1
    exact .inl ⟨h2, by omega, h1.2⟩
  · exact .inr (.inr ⟨b, 0, h1, h3, h4⟩)
theorem atIs.isErr {w : World} {v : Value} {r : Nat × Int} (h : atIs w v r) (h0 : r.1 ≠ 0) : isErr w v (r.1 : Nat) := by
  rcases h with ⟨h1, h2⟩ | ⟨_, b, h1, _, h3, h4⟩
  · exact absurd (by rw [h1]) h0
  · exact .inr ⟨b, 0, _, h1, h3, h4⟩

/-- No error, an Errno alone, or an *api.At in memory: an error's number and place. -/
def anyErr (w : World) (v : Value) (r : Nat × Int) : Prop := atIs w v r ∨ (r.1 ≠ 0 ∧ r.2 = -1 ∧ v = .iface 31 (.int .i64 (r.1 : Nat)))
theorem anyErr.below {w w' : World} {v : Value} {r : Nat × Int} (h : anyErr w v r) (hb : Below w.heap.size w w') : anyErr w' v r := by
  rcases h with h | h
  · exact .inl (h.below hb)
  · exact .inr h
theorem anyErr.nil {w : World} {v : Value} {r : Nat × Int} (h : anyErr w v r) (h0 : r.1 = 0) : v = .nilIface := by
  rcases h with (⟨_, h⟩ | ⟨h, _⟩) | ⟨h, _⟩
  · exact h
  · exact absurd h0 h
  · exact absurd h0 h
theorem anyErr.iface {w : World} {v : Value} {r : Nat × Int} (h : anyErr w v r) (h0 : r.1 ≠ 0) : ∃ t u, v = .iface t u := by
  rcases h with (⟨h, _⟩ | ⟨_, b, h, _⟩) | ⟨_, _, h⟩
  · exact absurd (by rw [h]) h0
  · exact ⟨_, _, h⟩
  · exact ⟨_, _, h⟩
theorem anyErr.place {w : World} {v : Value} {e : Nat} {pl : Int} (h : anyErr w v (e, pl)) : placeIs w v e pl := by
  rcases h with h | ⟨_, h1, h2⟩
  · exact h.place
  · exact .inr (.inl ⟨h2, h1⟩)
theorem anyErr.isErr {w : World} {v : Value} {r : Nat × Int} (h : anyErr w v r) (h0 : r.1 ≠ 0) : isErr w v (r.1 : Nat) := by
  rcases h with h | ⟨_, h1, h2⟩
  · exact h.isErr h0
  · exact .inl h2
def VRightIs (w : World) (r : Nat × Int) (e : Ending) (w' : World) : Prop :=
  ∃ v, e = .returned v ∧ anyErr w' v r ∧ Below w.heap.size w w'

theorem undrew3 {w w' : World} (h : Below w.drew.heap.size w.drew w') : Below w.heap.size w w' := ((Below.refl _ _).drew).trans h
theorem below_drewq {w w' : World} {B : Nat} (h : Below B w w') (q : Nat) : Below B w (w'.drewN q) := by
  induction q with
  | zero => exact h
  | succ q ih => exact ih.drew
end Go.Proofs.YtiipnifnejnhlaaDoor
