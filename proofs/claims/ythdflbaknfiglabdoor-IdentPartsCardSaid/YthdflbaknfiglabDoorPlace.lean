/-
  plain.Place: the Errno in an error, and its place (-1: none). The laws' own 'bare' and 'placed' besides.
-/
import Derived.Test.YthdflbaknfiglabDoorTell
import Derived.BigQuiet
import Derived.Deep.QuietTactic
import Derived.WalkSmall
namespace Go.Proofs.YthdflbaknfiglabDoor
open Go.RowKit

/-- An error with a place, or none: nil, an Errno, an *api.At in memory. -/
def placeIs (w : World) (v : Value) (e pl : Int) : Prop :=
  (v = .nilIface ∧ e = 0 ∧ pl = -1) ∨ (v = .iface 46 (.int .i64 e) ∧ pl = -1) ∨ ∃ b off, v = .iface 60 (.pointer (some ⟨b, off, none⟩)) ∧ w.cell? ⟨b, off, none⟩ = some (.int .i64 e) ∧ w.cell? ⟨b, off + 1, none⟩ = some (.int .i64 pl)

theorem placeIs.alloc {w : World} {v : Value} {e pl : Int} (h : placeIs w v e pl) (o : Obj) : placeIs (w.alloc o) v e pl := by
  rcases h with h | h | ⟨b, off, h1, h2, h3⟩
  · exact .inl h
  · exact .inr (.inl h)
  · exact .inr (.inr ⟨b, off, h1, by rw [World.cell?_alloc_lt _ _ _ (lt_of_cell h2)]; exact h2, by rw [World.cell?_alloc_lt _ _ _ (lt_of_cell h3)]; exact h3⟩)
theorem placeIs.below {w w' : World} {v : Value} {e pl : Int} (h : placeIs w v e pl) (hb : Below w.heap.size w w') : placeIs w' v e pl := by
  rcases h with h | h | ⟨b, off, h1, h2, h3⟩
  · exact .inl h
  · exact .inr (.inl h)
  · exact .inr (.inr ⟨b, off, h1, by rw [hb.cell (lt_of_cell h2)]; exact h2, by rw [hb.cell (lt_of_cell h3)]; exact h3⟩)






end Go.Proofs.YthdflbaknfiglabDoor
