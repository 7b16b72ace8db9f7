/-
  A []string of the call's own: its form.
-/
import Derived.Test.YtpmnflnaeknakaaGreatDoorStrs
import Derived.Test.YtpmnflnaeknakaaGreatDoorTexts
namespace Go.Proofs.YtpmnflnaeknakaaGreatDoor
open Go.RowKit

theorem ownsS.slice {w : World} {base : Nat} {v : Value} {l : List ByteArray} (h : ownsS w base v l) : ∃ a c, v = .slice a l.length c := by
  rcases h.forms with ⟨rfl, rfl⟩ | ⟨g, cap, rfl, _⟩
  · exact ⟨none, 0, rfl⟩
  · exact ⟨_, cap, rfl⟩
theorem ownsS.at {w : World} {base n c : Nat} {a : Option Addr} {l : List ByteArray} (h : ownsS w base (.slice a n c) l) (h0 : 0 < l.length) : ∃ g, a = some ⟨g, 0, none⟩ ∧ base ≤ g := by
  rcases h.forms with ⟨_, rfl⟩ | ⟨g, cap, e, hb, _⟩
  · exact absurd h0 (by simp)
  · obtain ⟨e1, _⟩ := Value.slice.inj e
    exact ⟨g, e1, hb⟩
theorem ownsS.setC {w : World} {base B i : Nat} {v : Value} {l : List ByteArray} (h : ownsS w base v l) (z : Value) (hne : v.ownBlock ≠ some B) : ownsS (w.setCell ⟨B, i, none⟩ z) base v l :=
  World.ownsRow.kept h (row := some B) ⟨rfl, rfl, rfl, by rw [show (w.setCell ⟨B, i, none⟩ z).heap.size = w.heap.size from by simp]; exact Nat.le_refl _, fun k _ hk => heap_setCell_other _ _ _ _ (fun e => hk (by rw [e]))⟩ (.inr hne)
theorem below_gr {w W : World} (h : w.grownBy W none) : Below w.heap.size w W := ⟨h.os, h.tape, h.output, h.size, fun k hk => h.block k hk (by simp)⟩
end Go.Proofs.YtpmnflnaeknakaaGreatDoor
