/-
  A []int that the call itself makes: what append of one number does to it. For this seat's types of []int and int.
-/
import Derived.Test.YtpmnflnaeknakaaDoorProg
import Derived.WalkKit
import Derived.Handy
import Derived.KernelRfl
import Derived.Deep.AppendLies
import Derived.Laws.OwnMore
namespace Go.Proofs.YtpmnflnaeknakaaDoor
open Go.RowKit

theorem info_int : (Tryd.prog.info? 3).map (fun i => (i.zero, i.size, i.bytes)) = some (some (.int .i64 0), 1, 8) := by kernel_rfl

def natV (n : Nat) : Value := .int .i64 (n : Int)
/-- The slice v owns the numbers l, in blocks from base on. -/
def ownsN (w : World) (base : Nat) (v : Value) (l : List Nat) : Prop := w.ownsRow base 3 1 v l.length (l.map natV)

theorem ownsN_nil (w : World) (base : Nat) : ownsN w base (.slice none 0 0) [] := World.ownsRow_nil _ _ _ _
theorem ownsN.alloc {w : World} {base : Nat} {v : Value} {l : List Nat} (h : ownsN w base v l) (o : Obj) : ownsN (w.alloc o) base v l := World.ownsRow.alloc h o
theorem ownsN.drew {w : World} {base : Nat} {v : Value} {l : List Nat} (h : ownsN w base v l) : ownsN w.drew base v l := World.ownsRow.drew h
theorem ownsN.lt {w : World} {base : Nat} {v : Value} {l : List Nat} (h : ownsN w base v l) : ∀ k, v.ownBlock = some k → base ≤ k ∧ k < w.heap.size := World.ownsRow.lt h
/-- Kept by whatever leaves old memory as it was. -/
theorem ownsN.below {w w' : World} {base : Nat} {v : Value} {l : List Nat} (h : ownsN w base v l) (hb : Below w.heap.size w w') : ownsN w' base v l := by
  refine World.ownsRow.kept h (row := none) ⟨hb.os, hb.tape, hb.output, hb.size, fun k hk _ => hb.block k hk⟩ ?_
  cases hv : v.ownBlock with
  | none => exact .inl rfl
  | some g => exact .inr (by simp)
/-- What it looks like: nil and nothing, or a row of cells. -/
theorem ownsN.forms {w : World} {base : Nat} {v : Value} {l : List Nat} (h : ownsN w base v l) :
    (v = .slice none 0 0 ∧ l = []) ∨ ∃ g cap, v = .slice (some ⟨g, 0, none⟩) l.length cap ∧ base ≤ g ∧ g < w.heap.size ∧ ∀ j, j < l.length → w.cell? ⟨g, j, none⟩ = some (.int .i64 ((l.getD j 0 : Nat) : Int)) := by
  have hall := h
  obtain ⟨h0, h1⟩ := h
  rcases h1 with ⟨rfl, hn⟩ | ⟨g, cap, cur, rfl, hb, hh, hc, hm, hs, ht⟩
  · exact .inl ⟨rfl, List.length_eq_zero_iff.1 hn⟩
  · refine .inr ⟨g, cap, rfl, hb, (World.ownsRow.lt hall g rfl).2, fun j hj => ?_⟩
    rw [World.ownsRow.cellAt hall j (by omega)]
    simp [List.getElem?_eq_getElem hj, natV]

end Go.Proofs.YtpmnflnaeknakaaDoor
