/-
  An *api.At in memory, or no error; worlds that draw.
-/
import Derived.Test.YtpmnflnaeknakaaGreatDoorAtIsM
import Derived.Test.YtpmnflnaeknakaaGreatDoorProg
import Derived.Test.YtpmnflnaeknakaaGreatDoorPlace
import Derived.WalkKit
import Derived.Handy
import Derived.KernelRfl
import Derived.Below
import Derived.Lib.Hide
namespace Go.Proofs.YtpmnflnaeknakaaGreatDoor
open Go.RowKit

theorem atIs.place {w : World} {v : Value} {e : Nat} {pl : Int} (h : atIs w v (e, pl)) : placeIs w v e pl := by
  rcases h with ⟨h1, h2⟩ | ⟨_, b, h1, _, h3, h4⟩
  · simp only [Prod.mk.injEq] at h1
    exact .inl ⟨h2, by omega, h1.2⟩
  · exact .inr (.inr ⟨b, 0, h1, h3, h4⟩)
theorem atIs.isErr {w : World} {v : Value} {r : Nat × Int} (h : atIs w v r) (h0 : r.1 ≠ 0) : isErr w v (r.1 : Nat) := by
  rcases h with ⟨h1, h2⟩ | ⟨_, b, h1, _, h3, h4⟩
  · exact absurd (by rw [h1]) h0
  · exact .inr ⟨b, 0, _, h1, h3, h4⟩

/-- No error, an Errno alone, or an *api.At in memory: an error's number and place. -/
def anyErr (w : World) (v : Value) (r : Nat × Int) : Prop := atIs w v r ∨ (r.1 ≠ 0 ∧ r.2 = -1 ∧ v = .iface 33 (.int .i64 (r.1 : Nat)))
theorem anyErr.below {w w' : World} {v : Value} {r : Nat × Int} (h : anyErr w v r) (hb : Below w.heap.size w w') : anyErr w' v r := by
  rcases h with h | h
  · exact .inl (h.below hb)
  · exact .inr h
theorem anyErr.nil {w : World} {v : Value} {r : Nat × Int} (h : anyErr w v r) (h0 : r.1 = 0) : v = .nilIface := by
  rcases h with (⟨_, h⟩ | ⟨h, _⟩) | ⟨h, _⟩
  · exact h
  · exact absurd h0 h
  · exact absurd h0 h
theorem anyErr.iface {w : World} {v : Value} {r : Nat × Int} (h : anyErr w v r) (h0 : r.1 ≠ 0) : ∃ t u, v = .iface t u := by
  rcases h with (⟨h, _⟩ | ⟨_, b, h, _⟩) | ⟨_, _, h⟩
  · exact absurd (by rw [h]) h0
  · exact ⟨_, _, h⟩
  · exact ⟨_, _, h⟩
theorem anyErr.place {w : World} {v : Value} {e : Nat} {pl : Int} (h : anyErr w v (e, pl)) : placeIs w v e pl := by
  rcases h with h | ⟨_, h1, h2⟩
  · exact h.place
  · exact .inr (.inl ⟨h2, h1⟩)
theorem anyErr.isErr {w : World} {v : Value} {r : Nat × Int} (h : anyErr w v r) (h0 : r.1 ≠ 0) : isErr w v (r.1 : Nat) := by
  rcases h with h | ⟨_, h1, h2⟩
  · exact h.isErr h0
  · exact .inl h2
def VRightIs (w : World) (r : Nat × Int) (e : Ending) (w' : World) : Prop :=
  ∃ v, e = .returned v ∧ anyErr w' v r ∧ Below w.heap.size w w'

theorem undrew3 {w w' : World} (h : Below w.drew.heap.size w.drew w') : Below w.heap.size w w' := ((Below.refl _ _).drew).trans h
theorem below_drewq {w w' : World} {B : Nat} (h : Below B w w') (q : Nat) : Below B w (w'.drewN q) := by
  induction q with
  | zero => exact h
  | succ q ih => exact ih.drew
end Go.Proofs.YtpmnflnaeknakaaGreatDoor
