/-
  Batches, plain: what is wrong with one.
-/
import Derived.Test.YtiipnifnejnhlaaDoorWrtM
import Derived.Test.YtiipnifnejnhlaaDoorWriteArg
import Derived.Test.YtiipnifnejnhlaaDoorIdCmpM
namespace Go.Proofs.YtiipnifnejnhlaaDoor
open Go.RowKit

/-- What is wrong with a write. -/
def wE (x : Wr) : Nat := wriE x.time x.rep x.kind x.key x.value x.n
/-- Its id. -/
def wid (x : Wr) : Int × Int := (x.time, x.rep)
/-- The second one is later. -/
def late (q x : Wr) : Prop := cI (wid x) (wid q) = 1
instance (q x : Wr) : Decidable (late q x) := by unfold late; infer_instance
def lateO : Option Wr → Wr → Prop
  | none, _ => True
  | some q, x => late q x
instance (p : Option Wr) (x : Wr) : Decidable (lateO p x) := by cases p <;> (unfold lateO; infer_instance)
/-- What is wrong with a write of a batch, behind another one. -/
def bwE (f h : List Ent) (p : Option Wr) (x : Wr) : Nat := if wE x ≠ 0 then wE x else if ¬ lateO p x then 10 else if wiF (wid x) f h = false then 6 else 0
def bwr (f h : List Ent) : List Wr → Nat → Option Wr → Nat × Int
  | [], _, _ => (0, -1)
  | x :: r, i, p => if bwE f h p x ≠ 0 then (bwE f h p x, (i : Int)) else bwr f h r (i + 1) (some x)
/-- What is wrong with how far it goes. -/
def bbE (f h : List Ent) : Nat := if (vrightF f).1 ≠ 0 then (vrightF f).1 else if (vrightF h).1 ≠ 0 then (vrightF h).1 else if covB h f = false then 13 else 0
/-- What is wrong with a batch: an error's number, where. -/
def batF (f h : List Ent) (ws : List Wr) : Nat × Int := if bbE f h ≠ 0 then (bbE f h, -1) else if 60 < ws.length then (4, -1) else bwr f h ws 0 none

theorem bwr_bad {f h : List Ent} {x : Wr} {r : List Wr} {i : Nat} {p : Option Wr} {e : Nat} (hx : bwE f h p x = e) (he : e ≠ 0) : bwr f h (x :: r) i p = (e, (i : Int)) := by subst hx; rw [bwr, if_pos he]
theorem bwr_good {f h : List Ent} {x : Wr} {r : List Wr} {i : Nat} {p : Option Wr} (hx : bwE f h p x = 0) : bwr f h (x :: r) i p = bwr f h r (i + 1) (some x) := by rw [bwr, if_neg (by rw [hx]; simp)]
theorem batF_bb {f h : List Ent} {ws : List Wr} {e : Nat} (hx : bbE f h = e) (he : e ≠ 0) : batF f h ws = (e, -1) := by subst hx; unfold batF; rw [if_pos he]
theorem batF_many {f h : List Ent} {ws : List Wr} (hx : bbE f h = 0) (hl : 60 < ws.length) : batF f h ws = (4, -1) := by unfold batF; rw [if_neg (by rw [hx]; simp), if_pos hl]
theorem batF_rest {f h : List Ent} {ws : List Wr} (hx : bbE f h = 0) (hl : ¬ 60 < ws.length) : batF f h ws = bwr f h ws 0 none := by unfold batF; rw [if_neg (by rw [hx]; simp), if_neg hl]

theorem bwE_w {f h : List Ent} {p : Option Wr} {x : Wr} {e : Nat} (hx : wE x = e) (he : e ≠ 0) : bwE f h p x = e := by subst hx; unfold bwE; rw [if_pos he]
theorem bwE_order {f h : List Ent} {p : Option Wr} {x : Wr} (hx : wE x = 0) (hl : ¬ lateO p x) : bwE f h p x = 10 := by unfold bwE; rw [if_neg (by rw [hx]; simp), if_pos hl]
theorem bwE_state {f h : List Ent} {p : Option Wr} {x : Wr} (hx : wE x = 0) (hl : lateO p x) (hw : wiF (wid x) f h = false) : bwE f h p x = 6 := by unfold bwE; rw [if_neg (by rw [hx]; simp), if_neg (by simpa using hl), if_pos hw]
theorem bwE_fine {f h : List Ent} {p : Option Wr} {x : Wr} (hx : wE x = 0) (hl : lateO p x) (hw : wiF (wid x) f h = true) : bwE f h p x = 0 := by unfold bwE; rw [if_neg (by rw [hx]; simp), if_neg (by simpa using hl), if_neg (by rw [hw]; decide)]
theorem bwE_ok {f h : List Ent} {p : Option Wr} {x : Wr} : bwE f h p x = 0 ↔ wE x = 0 ∧ lateO p x ∧ wiF (wid x) f h = true := by
  constructor
  · intro h0
    unfold bwE at h0
    split at h0
    · rename_i h1; exact absurd h0 h1
    · rename_i h1
      split at h0
      · simp at h0
      · rename_i h2
        split at h0
        · simp at h0
        · rename_i h3
          exact ⟨by simpa using h1, by simpa using h2, by simpa using h3⟩
  · rintro ⟨h1, h2, h3⟩; exact bwE_fine h1 h2 h3

/-- All writes are right, each behind the one ahead. -/
def okW (f h : List Ent) : Option Wr → List Wr → Prop
  | _, [] => True
  | p, x :: r => bwE f h p x = 0 ∧ okW f h (some x) r
theorem bwr_ok {f h : List Ent} (l : List Wr) : ∀ i p, (bwr f h l i p).1 = 0 ↔ okW f h p l := by
  induction l with
  | nil => intro i p; simp [bwr, okW]
  | cons x r ih =>
    intro i p
    by_cases h0 : bwE f h p x = 0
    · rw [bwr_good h0, ih]; exact ⟨fun h1 => ⟨h0, h1⟩, fun h1 => h1.2⟩
    · rw [bwr_bad rfl h0]; exact ⟨fun h1 => absurd h1 h0, fun h1 => absurd h1.1 h0⟩
theorem bwr_place {f h : List Ent} (l : List Wr) : ∀ i p, (bwr f h l i p).1 = 0 → bwr f h l i p = (0, -1) := by
  induction l with
  | nil => intro i p _; rfl
  | cons x r ih =>
    intro i p h1
    by_cases h0 : bwE f h p x = 0
    · rw [bwr_good h0] at h1 ⊢; exact ih _ _ h1
    · rw [bwr_bad rfl h0] at h1; exact absurd h1 h0
theorem bbE_ok {f h : List Ent} : bbE f h = 0 ↔ rightV f ∧ rightV h ∧ covB h f = true := by
  rw [← vright_ok, ← vright_ok]
  unfold bbE
  constructor
  · intro h0
    split at h0
    · rename_i h1; exact absurd h0 h1
    · rename_i h1
      split at h0
      · rename_i h2; exact absurd h0 h2
      · rename_i h2
        split at h0
        · simp at h0
        · rename_i h3; exact ⟨by simpa using h1, by simpa using h2, by simpa using h3⟩
  · rintro ⟨h1, h2, h3⟩
    rw [if_neg (by simpa using h1), if_neg (by simpa using h2), if_neg (by rw [h3]; decide)]
theorem batF_ok {f h : List Ent} {ws : List Wr} : (batF f h ws).1 = 0 ↔ (rightV f ∧ rightV h ∧ covB h f = true) ∧ ws.length ≤ 60 ∧ okW f h none ws := by
  rw [← bbE_ok]
  by_cases h1 : bbE f h = 0
  · by_cases h2 : 60 < ws.length
    · rw [batF_many h1 h2]
      constructor
      · intro h; cases h
      · intro h; omega
    · rw [batF_rest h1 h2, bwr_ok]
      exact ⟨fun h => ⟨h1, by omega, h⟩, fun h => h.2.2⟩
  · rw [batF_bb rfl h1]
    exact ⟨fun h => absurd h h1, fun h => absurd h.1 h1⟩
theorem batF_place {f h : List Ent} {ws : List Wr} (h0 : (batF f h ws).1 = 0) : batF f h ws = (0, -1) := by
  unfold batF at h0 ⊢
  split
  · rename_i h1; rw [if_pos h1] at h0; exact absurd h0 h1
  · rename_i h1
    rw [if_neg h1] at h0
    split
    · rename_i h2; rw [if_pos h2] at h0; cases h0
    · rename_i h2; rw [if_neg h2] at h0; exact bwr_place _ _ _ h0

theorem late_iff {q x : Wr} : late q x ↔ cI (wid q) (wid x) = -1 := by
  unfold late wid
  have := cI_neg x.time x.rep q.time q.rep
  omega
theorem late_trans {a b c : Wr} (h1 : late a b) (h2 : late b c) : late a c := by
  rw [late_iff] at h1 h2 ⊢
  exact cI_trans h1 h2
theorem late_self (x : Wr) : ¬ late x x := by
  intro h
  have h2 := late_iff.1 h
  unfold late at h
  omega
/-- As a set of writes, and their order. -/
theorem okW_iff {f h : List Ent} (l : List Wr) : ∀ p, okW f h p l ↔ (∀ x ∈ l, wE x = 0 ∧ lateO p x ∧ wiF (wid x) f h = true) ∧ l.Pairwise late := by
  induction l with
  | nil => intro p; simp [okW]
  | cons x r ih =>
    intro p
    show bwE f h p x = 0 ∧ okW f h (some x) r ↔ _
    rw [ih (some x), bwE_ok, List.pairwise_cons]
    constructor
    · rintro ⟨h1, h2, h3⟩
      refine ⟨fun y hy => ?_, fun y hy => (h2 y hy).2.1, h3⟩
      rcases List.mem_cons.1 hy with rfl | hy
      · exact h1
      · obtain ⟨g1, g2, g3⟩ := h2 y hy
        refine ⟨g1, ?_, g3⟩
        cases p with
        | none => trivial
        | some q => exact late_trans h1.2.1 g2
    · rintro ⟨h1, h2, h3⟩
      exact ⟨h1 x List.mem_cons_self, fun y hy => ⟨(h1 y (List.mem_cons_of_mem _ hy)).1, h2 y hy, (h1 y (List.mem_cons_of_mem _ hy)).2.2⟩, h3⟩
theorem okW_none {f h : List Ent} {l : List Wr} : okW f h none l ↔ (∀ x ∈ l, wE x = 0 ∧ wiF (wid x) f h = true) ∧ l.Pairwise late := by
  rw [okW_iff]
  exact ⟨fun ⟨h1, h2⟩ => ⟨fun x hx => ⟨(h1 x hx).1, (h1 x hx).2.2⟩, h2⟩, fun ⟨h1, h2⟩ => ⟨fun x hx => ⟨(h1 x hx).1, trivial, (h1 x hx).2⟩, h2⟩⟩
/-- A batch that is right. -/
def rightB (f h : List Ent) (ws : List Wr) : Prop := (batF f h ws).1 = 0
theorem rightB_iff {f h : List Ent} {ws : List Wr} : rightB f h ws ↔ (rightV f ∧ rightV h ∧ covB h f = true) ∧ ws.length ≤ 60 ∧ (∀ x ∈ ws, wE x = 0 ∧ wiF (wid x) f h = true) ∧ ws.Pairwise late := by
  unfold rightB
  rw [batF_ok, okW_none]
/-- Some of its writes alone. -/
theorem rightB_sub {f h : List Ent} {ws l : List Wr} (hr : rightB f h ws) (hs : l.Sublist ws) : rightB f h l := by
  rw [rightB_iff] at hr ⊢
  obtain ⟨h1, h2, h3, h4⟩ := hr
  exact ⟨h1, Nat.le_trans hs.length_le h2, fun x hx => h3 x (hs.subset hx), h4.sublist hs⟩
/-- The same write once more, right behind itself. -/
theorem bwr_dup {f h : List Ent} {x : Wr} {r : List Wr} (l : List Wr) : ∀ (i : Nat) (p : Option Wr), okW f h p (l ++ [x]) → bwr f h (l ++ x :: x :: r) i p = (10, ((i + l.length + 1 : Nat) : Int)) := by
  induction l with
  | nil =>
    intro i p ho
    obtain ⟨h1, _⟩ := ho
    rw [List.nil_append, bwr_good h1, bwr_bad (bwE_order (p := some x) (bwE_ok.1 h1).1 (late_self x)) (by decide)]
    rfl
  | cons y l ih =>
    intro i p ho
    obtain ⟨h1, h2⟩ := ho
    rw [List.cons_append, bwr_good h1, ih _ _ h2]
    congr 1
    simp only [List.length_cons]
    omega
theorem batF_dup {f h : List Ent} {ws l r : List Wr} {x : Wr} (hr : rightB f h ws) (hw : ws = l ++ x :: r) : (batF f h (l ++ x :: x :: r)).1 = if ws.length = 60 then 4 else 10 := by
  have h0 := batF_ok.1 hr
  have hl : (l ++ x :: x :: r).length = ws.length + 1 := by rw [hw]; simp; omega
  by_cases h6 : ws.length = 60
  · rw [if_pos h6, batF_many (bbE_ok.2 h0.1) (by omega)]
  · rw [if_neg h6, batF_rest (bbE_ok.2 h0.1) (by omega)]
    have ho : okW f h none (l ++ [x]) := by
      have h2 := okW_none.1 h0.2.2
      rw [okW_none]
      have hs : (l ++ [x]).Sublist ws := by rw [hw]; exact List.Sublist.append_left (List.cons_sublist_cons.2 (List.nil_sublist r)) l
      exact ⟨fun y hy => h2.1 y (hs.subset hy), h2.2.sublist hs⟩
    rw [bwr_dup l 0 none ho]
end Go.Proofs.YtiipnifnejnhlaaDoor
