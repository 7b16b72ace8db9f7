/-
  An *api.At in memory, or no error.
-/
import Derived.Test.YtpmnflnaeknakaaGreatDoorProg
import Derived.WalkKit
import Derived.Handy
import Derived.KernelRfl
import Derived.Below
import Derived.Lib.Hide
namespace Go.Proofs.YtpmnflnaeknakaaGreatDoor
open Go.RowKit

/-- No error, or an *api.At in memory: its number, its place. -/
def atIs (w : World) (v : Value) (r : Nat × Int) : Prop :=
  (r = (0, -1) ∧ v = .nilIface) ∨ (r.1 ≠ 0 ∧ ∃ b, v = .iface 64 (.pointer (some ⟨b, 0, none⟩)) ∧ b < w.heap.size ∧ w.cell? ⟨b, 0, none⟩ = some (.int .i64 (r.1 : Nat)) ∧ w.cell? ⟨b, 1, none⟩ = some (.int .i64 r.2))
theorem atIs.below {w w' : World} {v : Value} {r : Nat × Int} (h : atIs w v r) (hb : Below w.heap.size w w') : atIs w' v r := by
  rcases h with h | ⟨h0, b, h1, h2, h3, h4⟩
  · exact .inl h
  · exact .inr ⟨h0, b, h1, Nat.lt_of_lt_of_le h2 hb.size, (hb.cell (p := ⟨b, 0, none⟩) h2).trans h3, (hb.cell (p := ⟨b, 1, none⟩) h2).trans h4⟩
theorem atIs.new (w : World) (e : Nat) (pl : Int) (he : e ≠ 0) : atIs (w.alloc (.cells #[.int .i64 e, .int .i64 pl] 67)) (.iface 64 (.pointer (some ⟨w.heap.size, 0, none⟩))) (e, pl) :=
  .inr ⟨he, _, rfl, by simp, by simp, by simp⟩
def RightIs (w : World) (r : Nat × Int) (e : Ending) (w' : World) : Prop :=
  ∃ v, e = .returned v ∧ atIs w' v r ∧ Below w.heap.size w w'
end Go.Proofs.YtpmnflnaeknakaaGreatDoor
