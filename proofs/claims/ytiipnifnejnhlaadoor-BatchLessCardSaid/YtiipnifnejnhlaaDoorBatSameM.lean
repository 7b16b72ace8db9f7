/-
  Plain: whether two batches are one; the cells of two batches.
-/
import Derived.Test.YtiipnifnejnhlaaDoorWrEq
import Derived.Test.YtiipnifnejnhlaaDoorBatArg
import Derived.WalkKit
import Derived.BigQuiet
import Derived.Deep.QuietTactic
import Derived.WalkSmall
namespace Go.Proofs.YtiipnifnejnhlaaDoor
open Go.RowKit

def sameV (f h : List Ent) (l : List Wr) (f2 h2 : List Ent) (l2 : List Wr) : Bool := decide (f = f2) && decide (h = h2) && decide (l = l2)
theorem sameV_self (f h : List Ent) (l : List Wr) : sameV f h l f h l = true := by simp [sameV]
theorem sameV_comm (f h : List Ent) (l : List Wr) (f2 h2 : List Ent) (l2 : List Wr) : sameV f2 h2 l2 f h l = sameV f h l f2 h2 l2 := by
  unfold sameV
  rw [decide_eq_decide.2 (eq_comm (a := f2)), decide_eq_decide.2 (eq_comm (a := h2)), decide_eq_decide.2 (eq_comm (a := l2))]
theorem sameV_eq {f h : List Ent} {l : List Wr} {f2 h2 : List Ent} {l2 : List Wr} (hs : sameV f h l f2 h2 l2 = true) : f = f2 ∧ h = h2 ∧ l = l2 := by
  simp [sameV] at hs; exact ⟨hs.1.1, hs.1.2, hs.2⟩
def bat2 (w : World) (B : Nat) (a b c d e g : Value) : Prop :=
  w.cell? ⟨B, 0, none⟩ = some a ∧ w.cell? ⟨B, 1, none⟩ = some b ∧ w.cell? ⟨B, 2, none⟩ = some c ∧ w.cell? ⟨B + 1, 0, none⟩ = some d ∧ w.cell? ⟨B + 1, 1, none⟩ = some e ∧ w.cell? ⟨B + 1, 2, none⟩ = some g
theorem bat2_new (w : World) (a b c d e g : Value) (t u : TypeId) : bat2 ((w.alloc (.cells #[a, b, c] t)).alloc (.cells #[d, e, g] u)) w.heap.size a b c d e g := by
  unfold bat2; simp
theorem bat2.drewN {w : World} {B : Nat} {a b c d e g : Value} (h : bat2 w B a b c d e g) (n : Nat) : bat2 (w.drewN n) B a b c d e g := h
theorem bat2.below {w w' : World} {B : Nat} {a b c d e g : Value} {m : Nat} (h : bat2 w B a b c d e g) (hb : Below m w w') (hm : B + 1 < m) : bat2 w' B a b c d e g :=
  ⟨(hb.cell (Nat.lt_of_succ_lt hm)).trans h.1, (hb.cell (Nat.lt_of_succ_lt hm)).trans h.2.1, (hb.cell (Nat.lt_of_succ_lt hm)).trans h.2.2.1, (hb.cell hm).trans h.2.2.2.1, (hb.cell hm).trans h.2.2.2.2.1, (hb.cell hm).trans h.2.2.2.2.2⟩
end Go.Proofs.YtiipnifnejnhlaaDoor
