import Derived.WalkKit
import Derived.Test.YtkafhlpnhgipeaaGreatDoorProg
import Derived.Handy
import Derived.KernelRfl
import Derived.Below
import Derived.Deep.AppendLies
import Derived.Laws.OwnMore
import Derived.Deep.Draws
import Derived.Lib.Hide
import Derived.BigQuiet
import Derived.Deep.QuietTactic
import Derived.WalkSmall
import Derived.Outline
import Derived.Deep.RegionHeld3
import Derived.StillTailTactics
import Derived.Test.YtkafhlpnhgipeaaGreatDoorPk03
/-
  Chapter 6, plain: vectors on lists of entries: what is wrong, how far a replica is known, both together.
-/
namespace Go.Proofs.YtkafhlpnhgipeaaGreatDoor

/-- An entry of a vector: a replica, a time. -/
structure Ent where
  rep : Int
  time : Int
deriving DecidableEq

/-- What is wrong with one, the replica ahead being so. -/
def wrE (e : Ent) (last : Int) : Nat := if e.rep < 0 ∨ 200 < e.rep ∨ e.time < 1 ∨ 1099511627776 < e.time then 2 else if e.rep ≤ last then 10 else 0
def vr : List Ent → Nat → Int → Nat × Int
  | [], _, _ => (0, -1)
  | e :: r, i, last => if wrE e last ≠ 0 then (wrE e last, i) else vr r (i + 1) e.rep
/-- What is wrong with a vector: an error's number, where. -/
def vrightF (l : List Ent) : Nat × Int := if 16 < l.length then (4, -1) else vr l 0 (-1)

theorem wrE_range {e : Ent} {last : Int} (h : e.rep < 0 ∨ 200 < e.rep ∨ e.time < 1 ∨ 1099511627776 < e.time) : wrE e last = 2 := by unfold wrE; rw [if_pos h]
theorem wrE_order {e : Ent} {last : Int} (h : ¬ (e.rep < 0 ∨ 200 < e.rep ∨ e.time < 1 ∨ 1099511627776 < e.time)) (h2 : e.rep ≤ last) : wrE e last = 10 := by unfold wrE; rw [if_neg h, if_pos h2]
theorem wrE_fine {e : Ent} {last : Int} (h : ¬ (e.rep < 0 ∨ 200 < e.rep ∨ e.time < 1 ∨ 1099511627776 < e.time)) (h2 : ¬ e.rep ≤ last) : wrE e last = 0 := by unfold wrE; rw [if_neg h, if_neg h2]
theorem wrE_ok {e : Ent} {last : Int} : wrE e last = 0 ↔ 0 ≤ e.rep ∧ e.rep ≤ 200 ∧ 1 ≤ e.time ∧ e.time ≤ 1099511627776 ∧ last < e.rep := by
  unfold wrE; split
  · constructor
    · intro h; omega
    · intro h; omega
  · split
    · constructor
      · intro h; omega
      · intro h; omega
    · constructor
      · intro _; omega
      · intro _; rfl
theorem vr_bad {e : Ent} {r : List Ent} {i : Nat} {last : Int} (h : wrE e last ≠ 0) : vr (e :: r) i last = (wrE e last, (i : Int)) := by rw [vr, if_pos h]
theorem vr_good {e : Ent} {r : List Ent} {i : Nat} {last : Int} (h : wrE e last = 0) : vr (e :: r) i last = vr r (i + 1) e.rep := by rw [vr, if_neg (by simpa using h)]

/-- Rising, from above so much on, and within bounds. -/
def okV : Int → List Ent → Prop
  | _, [] => True
  | last, e :: r => wrE e last = 0 ∧ okV e.rep r
def rightV (l : List Ent) : Prop := l.length ≤ 16 ∧ okV (-1) l
theorem vr_ok (l : List Ent) : ∀ i last, (vr l i last).1 = 0 ↔ okV last l := by
  induction l with
  | nil => intro i last; simp [vr, okV]
  | cons e r ih =>
    intro i last
    by_cases h : wrE e last = 0
    · rw [vr_good h, ih]; exact ⟨fun h2 => ⟨h, h2⟩, fun h2 => h2.2⟩
    · rw [vr_bad h]; exact ⟨fun h2 => absurd h2 h, fun h2 => absurd h2.1 h⟩
theorem vright_ok (l : List Ent) : (vrightF l).1 = 0 ↔ rightV l := by
  unfold vrightF rightV
  split
  · constructor
    · intro h; cases h
    · intro h; omega
  · rw [vr_ok]; exact ⟨fun h => ⟨by omega, h⟩, fun h => h.2⟩
theorem vr_good_place (l : List Ent) : ∀ i last, (vr l i last).1 = 0 → vr l i last = (0, -1) := by
  induction l with
  | nil => intro i last _; rfl
  | cons e r ih =>
    intro i last h
    by_cases hw : wrE e last = 0
    · rw [vr_good hw] at h ⊢; exact ih _ _ h
    · rw [vr_bad hw] at h; exact absurd h hw
theorem vright_good {l : List Ent} (h : (vrightF l).1 = 0) : vrightF l = (0, -1) := by
  unfold vrightF at h ⊢
  split
  · rename_i h2; rw [if_pos h2] at h; cases h
  · rename_i h2; rw [if_neg h2] at h; exact vr_good_place _ _ _ h
theorem vright_of {l : List Ent} (h : rightV l) : vrightF l = (0, -1) := vright_good ((vright_ok l).2 h)

theorem okV_le {a b : Int} {l : List Ent} (h : okV b l) (hab : a ≤ b) : okV a l := by
  cases l with
  | nil => trivial
  | cons e r =>
    obtain ⟨h1, h2⟩ := h
    refine ⟨?_, h2⟩
    rw [wrE_ok] at h1 ⊢; omega
/-- Each entry of a right one. -/
theorem okV_mem {l : List Ent} : ∀ {last : Int}, okV last l → ∀ e ∈ l, 0 ≤ e.rep ∧ e.rep ≤ 200 ∧ 1 ≤ e.time ∧ e.time ≤ 1099511627776 ∧ last < e.rep := by
  induction l with
  | nil => intro last _ e h; cases h
  | cons d r ih =>
    intro last h e he
    obtain ⟨h1, h2⟩ := h
    rw [wrE_ok] at h1
    rcases List.mem_cons.1 he with rfl | he
    · exact h1
    · have := ih h2 e he; omega
theorem okV_snoc {l : List Ent} {e : Ent} : ∀ {last : Int}, okV last l → (∀ d ∈ l, d.rep < e.rep) → wrE e last = 0 → okV last (l ++ [e]) := by
  induction l with
  | nil => intro last _ _ h; exact ⟨h, trivial⟩
  | cons d r ih =>
    intro last h hd he
    refine ⟨h.1, ih h.2 (fun x hx => hd x (List.mem_cons_of_mem _ hx)) ?_⟩
    have := hd d List.mem_cons_self
    rw [wrE_ok] at he ⊢; omega

/-- How far a replica is known. -/
def ofF : List Ent → Int → Int
  | [], _ => 0
  | e :: r, x => if e.rep = x then e.time else ofF r x
theorem ofF_at {e : Ent} {r : List Ent} {x : Int} (h : e.rep = x) : ofF (e :: r) x = e.time := by rw [ofF, if_pos h]
theorem ofF_on {e : Ent} {r : List Ent} {x : Int} (h : e.rep ≠ x) : ofF (e :: r) x = ofF r x := by rw [ofF, if_neg h]
theorem ofF_none {l : List Ent} {x : Int} (h : ∀ e ∈ l, e.rep ≠ x) : ofF l x = 0 := by
  induction l with
  | nil => rfl
  | cons e r ih => rw [ofF_on (h e List.mem_cons_self)]; exact ih fun d hd => h d (List.mem_cons_of_mem _ hd)
theorem ofF_snoc {l : List Ent} {e : Ent} {x : Int} (h : ∀ d ∈ l, d.rep ≠ e.rep) : ofF (l ++ [e]) x = if e.rep = x then e.time else ofF l x := by
  induction l with
  | nil => simp [ofF]
  | cons d r ih =>
    have h1 := h d List.mem_cons_self
    have ih' := ih fun y hy => h y (List.mem_cons_of_mem _ hy)
    rw [List.cons_append]
    by_cases hd : d.rep = x
    · rw [ofF_at hd, if_neg (by omega), ofF_at hd]
    · rw [ofF_on hd, ih', ofF_on hd]
theorem ofF_bd {l : List Ent} {last : Int} (h : okV last l) (x : Int) : 0 ≤ ofF l x ∧ ofF l x ≤ 1099511627776 := by
  induction l generalizing last with
  | nil => exact ⟨Int.le_refl _, by show (0 : Int) ≤ _; decide⟩
  | cons e r ih =>
    have hm := okV_mem h e List.mem_cons_self
    by_cases hx : e.rep = x
    · rw [ofF_at hx]; omega
    · rw [ofF_on hx]; exact ih h.2
theorem ofF_low {l : List Ent} {last : Int} (h : okV last l) {x : Int} (hx : x ≤ last) : ofF l x = 0 := ofF_none fun e he => by have := okV_mem h e he; omega
theorem ofF_out {l : List Ent} {last : Int} (h : okV last l) {x : Int} (hx : x < 0 ∨ 200 < x) : ofF l x = 0 := ofF_none fun e he => by have := okV_mem h e he; omega
theorem ofF_mem {l : List Ent} {last : Int} (h : okV last l) {e : Ent} (he : e ∈ l) : ofF l e.rep = e.time := by
  induction l generalizing last with
  | nil => cases he
  | cons d r ih =>
    rcases List.mem_cons.1 he with rfl | he
    · rw [ofF_at rfl]
    · have := okV_mem h.2 e he
      rw [ofF_on (by omega)]; exact ih h.2 he
theorem ofF_has {l : List Ent} {x : Int} (h : ofF l x ≠ 0) : ∃ e ∈ l, e.rep = x ∧ e.time = ofF l x := by
  induction l with
  | nil => exact absurd rfl h
  | cons d r ih =>
    by_cases hd : d.rep = x
    · exact ⟨d, List.mem_cons_self, hd, by rw [ofF_at hd]⟩
    · rw [ofF_on hd] at h ⊢
      obtain ⟨e, he, h1, h2⟩ := ih h
      exact ⟨e, List.mem_cons_of_mem _ he, h1, h2⟩
/-- Who is known as far is the same. -/
theorem ok_ext {l m : List Ent} {a b : Int} (hl : okV a l) (hm : okV b m) (h : ∀ x, ofF l x = ofF m x) : l = m := by
  induction l generalizing m a b with
  | nil =>
    cases m with
    | nil => rfl
    | cons e r =>
      have := okV_mem hm e List.mem_cons_self
      have h1 := h e.rep
      rw [ofF_at rfl] at h1
      have h2 : ofF [] e.rep = 0 := rfl
      omega
  | cons d r ih =>
    have hd := okV_mem hl d List.mem_cons_self
    cases m with
    | nil =>
      have h1 := h d.rep
      rw [ofF_at rfl] at h1
      have h2 : ofF [] d.rep = 0 := rfl
      omega
    | cons e s =>
      have he := okV_mem hm e List.mem_cons_self
      have hde : d.rep = e.rep := by
        rcases Int.lt_trichotomy d.rep e.rep with hlt | heq | hgt
        · have h1 := h d.rep
          rw [ofF_at rfl, ofF_on (by omega), ofF_low hm.2 (by omega)] at h1
          omega
        · exact heq
        · have h1 := h e.rep
          rw [ofF_at (e := e) rfl, ofF_on (by omega), ofF_low hl.2 (by omega)] at h1
          omega
      have hdt : d = e := by
        have h1 := h d.rep
        rw [ofF_at rfl, ofF_at hde.symm] at h1
        cases d; cases e; simp_all
      subst hdt
      congr 1
      refine ih hl.2 hm.2 fun x => ?_
      by_cases hx : d.rep = x
      · subst hx
        rw [ofF_low hl.2 (Int.le_refl _), ofF_low hm.2 (Int.le_refl _)]
      · have h1 := h x
        rw [ofF_on hx, ofF_on hx] at h1
        exact h1

/-- The vector of what each of so many replicas is known as far as. -/
def tab (f : Nat → Int) : Nat → List Ent
  | 0 => []
  | n + 1 => if 0 < f n then tab f n ++ [⟨n, f n⟩] else tab f n
theorem tab_yes {f : Nat → Int} {n : Nat} (h : 0 < f n) : tab f (n + 1) = tab f n ++ [⟨n, f n⟩] := by rw [tab, if_pos h]
theorem tab_no {f : Nat → Int} {n : Nat} (h : ¬ 0 < f n) : tab f (n + 1) = tab f n := by rw [tab, if_neg h]
theorem tab_congr {f g : Nat → Int} {n : Nat} (h : ∀ r, r < n → f r = g r) : tab f n = tab g n := by
  induction n with
  | zero => rfl
  | succ n ih => rw [tab, tab, ih fun r hr => h r (by omega), h n (by omega)]
theorem tab_len (f : Nat → Int) (n : Nat) : (tab f n).length ≤ n := by
  induction n with
  | zero => exact Nat.le_refl _
  | succ n ih =>
    by_cases h : 0 < f n
    · rw [tab_yes h, List.length_append]; simp; omega
    · rw [tab_no h]; omega
theorem tab_lt (f : Nat → Int) (n : Nat) : ∀ e ∈ tab f n, 0 ≤ e.rep ∧ e.rep < (n : Int) := by
  induction n with
  | zero => intro e h; cases h
  | succ n ih =>
    intro e he
    by_cases h : 0 < f n
    · rw [tab_yes h] at he
      rcases List.mem_append.1 he with he | he
      · have := ih e he; omega
      · rw [List.mem_singleton.1 he]; simp only; omega
    · rw [tab_no h] at he
      have := ih e he; omega
theorem tab_okV {f : Nat → Int} (hf : ∀ r, f r ≤ 1099511627776) {n : Nat} (hn : n ≤ 201) : okV (-1) (tab f n) := by
  induction n with
  | zero => trivial
  | succ n ih =>
    by_cases h : 0 < f n
    · rw [tab_yes h]
      refine okV_snoc (ih (by omega)) (fun d hd => ?_) ?_
      · have := tab_lt f n d hd; simp only; omega
      · rw [wrE_ok]; have := hf n; simp only; omega
    · rw [tab_no h]; exact ih (by omega)
theorem ofF_tab (f : Nat → Int) (n : Nat) (x : Int) : ofF (tab f n) x = if 0 ≤ x ∧ x < n ∧ 0 < f x.toNat then f x.toNat else 0 := by
  induction n with
  | zero => rw [if_neg (by omega)]; rfl
  | succ n ih =>
    by_cases h : 0 < f n
    · rw [tab_yes h, ofF_snoc (fun d hd => by have := tab_lt f n d hd; simp only; omega), ih]
      simp only
      by_cases hx : (n : Int) = x
      · subst hx
        rw [if_pos rfl, Int.toNat_natCast, if_pos ⟨by omega, by omega, h⟩]
      · rw [if_neg hx]
        by_cases h2 : 0 ≤ x ∧ x < n ∧ 0 < f x.toNat
        · rw [if_pos h2, if_pos ⟨h2.1, by omega, h2.2.2⟩]
        · rw [if_neg h2, if_neg (by omega)]
    · rw [tab_no h, ih]
      by_cases h2 : 0 ≤ x ∧ x < n ∧ 0 < f x.toNat
      · rw [if_pos h2, if_pos ⟨h2.1, by omega, h2.2.2⟩]
      · rw [if_neg h2, if_neg]
        rintro ⟨h3, h4, h5⟩
        by_cases hx : x = (n : Int)
        · subst hx; rw [Int.toNat_natCast] at h5; exact h h5
        · exact h2 ⟨h3, by omega, h5⟩
/-- A right one is the vector of what it knows. -/
theorem tab_self {l : List Ent} {last : Int} (h : okV last l) : tab (fun r => ofF l (r : Int)) 201 = l := by
  refine ok_ext (a := -1) (b := last) (tab_okV (fun r => (ofF_bd h _).2) (Nat.le_refl _)) h fun x => ?_
  rw [ofF_tab]
  by_cases h2 : 0 ≤ x ∧ x < ((201 : Nat) : Int) ∧ 0 < ofF l (x.toNat : Int)
  · rw [if_pos h2]; congr 1; omega
  · rw [if_neg h2]
    have hb := ofF_bd h x
    by_cases hx : 0 ≤ x ∧ x ≤ 200
    · have e : (x.toNat : Int) = x := by omega
      rw [e] at h2
      omega
    · rw [ofF_out h (by omega)]

/-- How far both know. -/
def jF (a b : List Ent) (r : Nat) : Int := max (ofF a r) (ofF b r)
def joinL (a b : List Ent) : List Ent := tab (jF a b) 201
theorem jF_bd {a b : List Ent} {x y : Int} (ha : okV x a) (hb : okV y b) (r : Nat) : 0 ≤ jF a b r ∧ jF a b r ≤ 1099511627776 := by
  have := ofF_bd ha r; have := ofF_bd hb r; unfold jF; omega
theorem join_okV {a b : List Ent} {x y : Int} (ha : okV x a) (hb : okV y b) : okV (-1) (joinL a b) := tab_okV (fun r => (jF_bd ha hb r).2) (Nat.le_refl _)
theorem join_of {a b : List Ent} {x y : Int} (ha : okV x a) (hb : okV y b) (z : Int) : ofF (joinL a b) z = max (ofF a z) (ofF b z) := by
  unfold joinL
  rw [ofF_tab]
  have h1 := ofF_bd ha z
  have h2 := ofF_bd hb z
  by_cases hz : 0 ≤ z ∧ z ≤ 200
  · have e : (z.toNat : Int) = z := by omega
    unfold jF
    rw [e]
    split
    · rfl
    · omega
  · rw [if_neg (by omega), ofF_out ha (by omega), ofF_out hb (by omega)]; rfl
theorem join_comm (a b : List Ent) : joinL a b = joinL b a := tab_congr fun r _ => by unfold jF; exact Int.max_comm _ _
theorem join_self {a : List Ent} {x : Int} (ha : okV x a) : joinL a a = a := by
  rw [show joinL a a = tab (fun r => ofF a (r : Int)) 201 from tab_congr fun r _ => by unfold jF; omega]
  exact tab_self ha
theorem join_assoc {a b c : List Ent} {x y z : Int} (ha : okV x a) (hb : okV y b) (hc : okV z c) : joinL (joinL a b) c = joinL a (joinL b c) :=
  tab_congr fun r _ => by unfold jF; rw [join_of ha hb, join_of hb hc]; omega

/-- Join's answer: an error's number, or the vector. -/
def joinR (a b : List Ent) : Nat × List Ent :=
  if (vrightF a).1 ≠ 0 then ((vrightF a).1, []) else if (vrightF b).1 ≠ 0 then ((vrightF b).1, []) else if 16 < (joinL a b).length then (4, []) else (0, joinL a b)
theorem joinR_a {a b : List Ent} (h : (vrightF a).1 ≠ 0) : joinR a b = ((vrightF a).1, []) := by unfold joinR; rw [if_pos h]
theorem joinR_b {a b : List Ent} (h : (vrightF a).1 = 0) (h2 : (vrightF b).1 ≠ 0) : joinR a b = ((vrightF b).1, []) := by unfold joinR; rw [if_neg (by simpa using h), if_pos h2]
theorem joinR_many {a b : List Ent} (h : (vrightF a).1 = 0) (h2 : (vrightF b).1 = 0) (h3 : 16 < (joinL a b).length) : joinR a b = (4, []) := by unfold joinR; rw [if_neg (by simpa using h), if_neg (by simpa using h2), if_pos h3]
theorem joinR_ok {a b : List Ent} (h : (vrightF a).1 = 0) (h2 : (vrightF b).1 = 0) (h3 : ¬ 16 < (joinL a b).length) : joinR a b = (0, joinL a b) := by unfold joinR; rw [if_neg (by simpa using h), if_neg (by simpa using h2), if_neg h3]

/-- Who covers whom. -/
def covA (a b : List Ent) : Bool := b.all fun e => decide (e.time ≤ ofF a e.rep)
def covB (a b : List Ent) : Bool := decide ((vrightF a).1 = 0) && decide ((vrightF b).1 = 0) && covA a b
theorem covA_iff {a b : List Ent} {x y : Int} (ha : okV x a) (hb : okV y b) : covA a b = true ↔ ∀ z, ofF b z ≤ ofF a z := by
  unfold covA
  rw [List.all_eq_true]
  constructor
  · intro h z
    have h1 := ofF_bd ha z
    have h2 := ofF_bd hb z
    by_cases h0 : ofF b z = 0
    · omega
    · obtain ⟨e, he, rfl, h4⟩ := ofF_has h0
      have := h e he
      simp only [decide_eq_true_eq] at this
      omega
  · intro h e he
    have := h e.rep
    rw [ofF_mem hb he] at this
    simpa using this
theorem covB_iff {a b : List Ent} (ha : rightV a) (hb : rightV b) : covB a b = true ↔ ∀ z, ofF b z ≤ ofF a z := by
  unfold covB
  rw [vright_of ha, vright_of hb, ← covA_iff ha.2 hb.2]; simp

/-- How many there are together. -/
theorem join_count (f g : Nat → Int) (hf : ∀ r, 0 ≤ f r) (hg : ∀ r, 0 ≤ g r) (n : Nat) :
    (tab (fun r => max (f r) (g r)) n).length = (tab f n).length + ((tab g n).filter fun e => decide (f e.rep.toNat = 0)).length := by
  induction n with
  | zero => rfl
  | succ n ih =>
    have h1 := hf n
    have h2 := hg n
    by_cases hF : 0 < f n
    · by_cases hG : 0 < g n
      · rw [tab_yes (f := f) hF, tab_yes (f := g) hG, tab_yes (f := fun r => max (f r) (g r)) (by omega)]
        simp only [List.length_append, List.filter_append, ih]
        have : (List.filter (fun e : Ent => decide (f e.rep.toNat = 0)) [⟨(n : Int), g n⟩]) = [] := by simp; omega
        rw [this]; simp; omega
      · rw [tab_yes (f := f) hF, tab_no (f := g) hG, tab_yes (f := fun r => max (f r) (g r)) (by omega)]
        simp only [List.length_append, ih]; simp; omega
    · have h0 : f n = 0 := by omega
      by_cases hG : 0 < g n
      · rw [tab_no (f := f) hF, tab_yes (f := g) hG, tab_yes (f := fun r => max (f r) (g r)) (by omega)]
        simp only [List.length_append, List.filter_append, ih]
        have : (List.filter (fun e : Ent => decide (f e.rep.toNat = 0)) [⟨(n : Int), g n⟩]) = [⟨(n : Int), g n⟩] := by simp [h0]
        rw [this]; simp; omega
      · rw [tab_no (f := f) hF, tab_no (f := g) hG, tab_no (f := fun r => max (f r) (g r)) (by omega)]
        exact ih
theorem join_len {a b : List Ent} {x y : Int} (ha : okV x a) (hb : okV y b) : (joinL a b).length = a.length + (b.filter fun e => decide (ofF a e.rep = 0)).length := by
  have h := join_count (fun r => ofF a (r : Int)) (fun r => ofF b (r : Int)) (fun r => (ofF_bd ha r).1) (fun r => (ofF_bd hb r).1) 201
  rw [tab_self ha, tab_self hb] at h
  show (tab (jF a b) 201).length = _
  rw [show tab (jF a b) 201 = tab (fun r => max (ofF a (r : Int)) (ofF b (r : Int))) 201 from rfl, h]
  congr 2
  refine List.filter_congr fun e he => ?_
  have := okV_mem hb e he
  rw [show ((e.rep.toNat : Nat) : Int) = e.rep by omega]
end Go.Proofs.YtkafhlpnhgipeaaGreatDoor
/-
  A []api.Entry that the call itself makes, or that comes in: its cells; what append of one entry does to it. For this seat's types.
-/
namespace Go.Proofs.YtkafhlpnhgipeaaGreatDoor
open Go.RowKit

theorem info_ent : (Tryz.prog.info? 60).map (fun i => (i.zero, i.size, i.bytes)) = some (some (.agg #[.int .i64 0, .int .i64 0]), 2, 16) := by kernel_rfl

/-- An entry's cells. -/
def entC (t : Ent) : List Value := [.int .i64 t.rep, .int .i64 t.time]
def entsC (l : List Ent) : List Value := l.flatMap entC
theorem entsC_len (l : List Ent) : (entsC l).length = l.length * 2 := by
  induction l with
  | nil => rfl
  | cons t r ih => simp only [entsC, List.flatMap_cons, List.length_append, List.length_cons] at ih ⊢; rw [ih]; simp [entC]; omega
theorem entsC_app (a b : List Ent) : entsC (a ++ b) = entsC a ++ entsC b := by simp [entsC]
theorem entsC_at (l : List Ent) (i j : Nat) (t : Ent) (h : l[i]? = some t) (hj : j < 2) : (entsC l)[i * 2 + j]? = (entC t)[j]? := by
  induction l generalizing i with
  | nil => simp at h
  | cons u r ih =>
    have hc : entsC (u :: r) = entC u ++ entsC r := by simp [entsC]
    have h3 : (entC u).length = 2 := rfl
    rw [hc]
    cases i with
    | zero =>
      obtain rfl : u = t := by simpa using h
      rw [List.getElem?_append_left (by omega)]
      congr 1; omega
    | succ i =>
      rw [List.getElem?_append_right (by omega), h3, show (i + 1) * 2 + j - 2 = i * 2 + j by omega]
      exact ih i (by simpa using h)
theorem entsC_int (l : List Ent) : ∀ u ∈ entsC l, ∃ n, u = .int .i64 n := by
  intro u hu
  obtain ⟨t, _, ht⟩ := List.mem_flatMap.1 hu
  simp [entC] at ht
  rcases ht with rfl | rfl
  · exact ⟨_, rfl⟩
  · exact ⟨_, rfl⟩

/-- The slice v owns the entries l, in blocks from base on. -/
def ownsE (w : World) (base : Nat) (v : Value) (l : List Ent) : Prop := w.ownsRow base 60 2 v l.length (entsC l)

theorem ownsE_nil (w : World) (base : Nat) : ownsE w base (.slice none 0 0) [] := World.ownsRow_nil _ _ _ _
theorem ownsE.alloc {w : World} {base : Nat} {v : Value} {l : List Ent} (h : ownsE w base v l) (o : Obj) : ownsE (w.alloc o) base v l := World.ownsRow.alloc h o
theorem ownsE.drew {w : World} {base : Nat} {v : Value} {l : List Ent} (h : ownsE w base v l) : ownsE w.drew base v l := World.ownsRow.drew h
theorem ownsE.drewN {w : World} {base : Nat} {v : Value} {l : List Ent} (h : ownsE w base v l) (n : Nat) : ownsE (w.drewN n) base v l := h
theorem ownsE.lt {w : World} {base : Nat} {v : Value} {l : List Ent} (h : ownsE w base v l) : ∀ k, v.ownBlock = some k → base ≤ k ∧ k < w.heap.size := World.ownsRow.lt h
theorem ownsE.mono {w : World} {base base' : Nat} {v : Value} {l : List Ent} (h : ownsE w base v l) (hb : base' ≤ base) : ownsE w base' v l := by
  obtain ⟨h0, h1⟩ := h
  refine ⟨h0, ?_⟩
  rcases h1 with h1 | ⟨g, cap, cur, hv, hg, r⟩
  · exact .inl h1
  · exact .inr ⟨g, cap, cur, hv, Nat.le_trans hb hg, r⟩
/-- Kept by whatever leaves old memory as it was. -/
theorem ownsE.below {w w' : World} {base : Nat} {v : Value} {l : List Ent} (h : ownsE w base v l) (hb : Below w.heap.size w w') : ownsE w' base v l := by
  refine World.ownsRow.kept h (row := none) ⟨hb.os, hb.tape, hb.output, hb.size, fun k hk _ => hb.block k hk⟩ ?_
  cases hv : v.ownBlock with
  | none => exact .inl rfl
  | some g => exact .inr (by simp)

/-- A slice that reads as the entries l, all its cells in blocks below the heap's end. -/
def IsEnts (w : World) (v : Value) (l : List Ent) : Prop :=
  (∃ a c, v = .slice a 0 c ∧ l = []) ∨ ∃ b off c, v = .slice (some ⟨b, off, none⟩) l.length c ∧ (0 < l.length ∧ l.length ≤ c) ∧ b < w.heap.size ∧ ∀ j u, (entsC l)[j]? = some u → w.cell? ⟨b, off + j, none⟩ = some u
theorem ownsE.is {w : World} {base : Nat} {v : Value} {l : List Ent} (h : ownsE w base v l) : IsEnts w v l := by
  have hall := h
  have hlt := h.lt
  obtain ⟨h0, h1⟩ := h
  rcases h1 with ⟨rfl, hn⟩ | ⟨g, cap, cur, rfl, hb, hh, hc, hm, hs, ht⟩
  · exact .inl ⟨_, _, rfl, List.length_eq_zero_iff.1 hn⟩
  · by_cases hz : l.length = 0
    · exact .inl ⟨_, _, by rw [hz], List.length_eq_zero_iff.1 hz⟩
    · refine .inr ⟨g, 0, cap, rfl, ⟨by omega, hc⟩, (hlt g rfl).2, fun j u hj => ?_⟩
      have hjl : j < l.length * 2 := by rw [← entsC_len]; exact (List.getElem?_eq_some_iff.1 hj).1
      rw [Nat.zero_add, World.ownsRow.cellAt hall j hjl]
      exact hj
theorem IsEnts.nil (w : World) : IsEnts w (.slice none 0 0) [] := .inl ⟨_, _, rfl, rfl⟩
theorem IsEnts.below {w w' : World} {v : Value} {l : List Ent} (h : IsEnts w v l) (hb : Below w.heap.size w w') : IsEnts w' v l := by
  rcases h with ⟨a, c, h1, h2⟩ | ⟨b, off, c, h1, h0, h2, h3⟩
  · exact .inl ⟨a, c, h1, h2⟩
  · exact .inr ⟨b, off, c, h1, h0, Nat.lt_of_lt_of_le h2 hb.size, fun j u hj => (hb.cell (p := ⟨b, off + j, none⟩) h2).trans (h3 j u hj)⟩
theorem IsEnts.alloc {w : World} {v : Value} {l : List Ent} (h : IsEnts w v l) (o : Obj) : IsEnts (w.alloc o) v l := h.below ((Below.refl _ _).alloc (Nat.le_refl _) o)
theorem IsEnts.drewN {w : World} {v : Value} {l : List Ent} (h : IsEnts w v l) (n : Nat) : IsEnts (w.drewN n) v l := h
/-- Its length; the two cells of each. -/
theorem IsEnts.form {w : World} {v : Value} {l : List Ent} (h : IsEnts w v l) : ∃ a c, v = .slice a l.length c ∧ ∀ i t, l[i]? = some t → ∃ b off, a = some ⟨b, off, none⟩ ∧ b < w.heap.size ∧
    w.cell? ⟨b, off + i * 2, none⟩ = some (.int .i64 t.rep) ∧ w.cell? ⟨b, off + i * 2 + 1, none⟩ = some (.int .i64 t.time) := by
  rcases h with ⟨a, c, rfl, rfl⟩ | ⟨b, off, c, rfl, h0, h2, h3⟩
  · exact ⟨a, c, rfl, fun i t h => by simp at h⟩
  · refine ⟨_, _, rfl, fun i t h => ⟨b, off, rfl, h2, ?_, ?_⟩⟩
    · exact h3 _ _ ((entsC_at l i 0 t h (by omega)).trans rfl)
    · exact h3 _ _ ((entsC_at l i 1 t h (by omega)).trans rfl)
/-- One that is not empty lies somewhere, and has room enough. -/
theorem IsEnts.lies {w : World} {v : Value} {l : List Ent} (h : IsEnts w v l) (h0 : 0 < l.length) : ∃ b off c, v = .slice (some ⟨b, off, none⟩) l.length c ∧ l.length ≤ c ∧ b < w.heap.size ∧ ∀ j u, (entsC l)[j]? = some u → w.cell? ⟨b, off + j, none⟩ = some u := by
  rcases h with ⟨a, c, rfl, rfl⟩ | ⟨b, off, c, rfl, h1, h2, h3⟩
  · exact absurd h0 (Nat.lt_irrefl _)
  · exact ⟨b, off, c, rfl, h1.2, h2, h3⟩
/-- A slice of one of a cut's reads as the cut. -/
theorem IsEnts.part {w : World} {b off n c : Nat} {l : List Ent} (h : ∀ j u, (entsC l)[j]? = some u → w.cell? ⟨b, off + j, none⟩ = some u) (hb : b < w.heap.size) (i j : Nat) (hj : j ≤ l.length) (hij : i < j) (hn : n = j - i) (hc : n ≤ c) :
    IsEnts w (.slice (some ⟨b, off + i * 2, none⟩) n c) ((l.take j).drop i) := by
  have hl : ((l.take j).drop i).length = n := by rw [List.length_drop, List.length_take]; omega
  refine .inr ⟨b, off + i * 2, c, by rw [hl], ⟨by omega, by omega⟩, hb, fun k u hk => ?_⟩
  rw [Nat.add_assoc]
  refine h _ _ ?_
  have hkl : k < n * 2 := by rw [← hl, ← entsC_len]; exact (List.getElem?_eq_some_iff.1 hk).1
  have ht : ((l.take j).drop i)[k / 2]? = some (((l.take j).drop i)[k / 2]'(by omega)) := List.getElem?_eq_getElem _
  have h1 := entsC_at _ (k / 2) (k % 2) _ ht (Nat.mod_lt _ (by decide))
  rw [show k / 2 * 2 + k % 2 = k by omega] at h1
  have ht2 : l[i + k / 2]? = some (((l.take j).drop i)[k / 2]'(by omega)) := by
    rw [← ht, List.getElem?_drop, List.getElem?_take_of_lt (by omega)]
  have h2 := entsC_at _ (i + k / 2) (k % 2) _ ht2 (Nat.mod_lt _ (by decide))
  rw [show (i + k / 2) * 2 + k % 2 = i * 2 + k by omega] at h2
  rw [h2, ← h1, hk]

/-- A block that is one entry. -/
def entBlk (w : World) (B : Nat) (t : Ent) : Prop := w.heap[B]? = some (.cells #[.int .i64 t.rep, .int .i64 t.time] 60 (0, 0))
theorem entBlk_new (w : World) (a b : Int) : entBlk (w.alloc (.cells #[.int .i64 a, .int .i64 b] 60)) w.heap.size ⟨a, b⟩ := heap_alloc_new _ _

theorem wpList_append_ent {w : World} {ops : Array Oper} {rest : List Oper} {o : Oper} {a : Act} {Q : Exit → Act → World → Prop} (hgd : o.guard = none) (s x : Operand)
    (ho : o.op = .call { callee := .builtin .append, args := #[s, x], argTypes := #[22, 22] })
    (base : Nat) (v : Value) (l : List Ent) (hs : a.eval s = v) (hown : ownsE w base v l)
    (B c : Nat) (hx : a.eval x = .slice (some ⟨B, 0, none⟩) 1 c) (t : Ent) (hcell : entBlk w B t)
    (hlen : l.length + 1 ≤ 1000000) (hbase : base ≤ w.heap.size)
    (h : ∀ g cap w', ownsE w' base (.slice (some ⟨g, 0, none⟩) (l.length + 1) cap) (l ++ [t]) → w.grownBy w' v.ownBlock → wpList Tryz.prog ops Q rest (a.put o.dst (.slice (some ⟨g, 0, none⟩) (l.length + 1) cap)) w') : wpList Tryz.prog ops Q (o :: rest) a w := by
  obtain ⟨i0, hi, hz0, hz1, hz2⟩ := info_parts info_ent
  refine wpList_append_lies w hgd s x 22 ho base 60 i0 (.agg #[.int .i64 0, .int .i64 0]) 2 16 Tryz.underlying22 hi hz0 hz1 hz2 rfl (by decide) v l.length (entsC l) hs hown ⟨B, 0, none⟩ 1 c (entC t) hx rfl ?_ ?_ (by decide) (by unfold maxLen; omega) (by omega) hbase _ rfl ?_
  · intro j u hj
    have hadd : (⟨B, 0, none⟩ : Addr).add j = ⟨B, j, none⟩ := by unfold Addr.add; split <;> simp_all
    rw [hadd, cell_of_row _ _ _ _ _ _ hcell, ← hj]
    unfold entC; simp
  · intro u hu; simp [entC] at hu; rcases hu with rfl | rfl <;> rfl
  · intro g cap w' h1 h2 _ _
    refine h g cap w' ?_ h2
    unfold ownsE
    rw [List.length_append, entsC_app]
    simpa [entsC] using h1

/-- append of another row of entries, behind one of the call's own. -/
theorem wpList_append_ents {w : World} {ops : Array Oper} {rest : List Oper} {o : Oper} {a : Act} {Q : Exit → Act → World → Prop} (hgd : o.guard = none) (s x : Operand)
    (ho : o.op = .call { callee := .builtin .append, args := #[s, x], argTypes := #[22, 22] })
    (base : Nat) (v : Value) (l : List Ent) (hs : a.eval s = v) (hown : ownsE w base v l)
    (B off c n : Nat) (hx : a.eval x = .slice (some ⟨B, off, none⟩) n c) (m : List Ent) (hn : n = m.length) (hcell : ∀ j u, (entsC m)[j]? = some u → w.cell? ⟨B, off + j, none⟩ = some u)
    (hm : 0 < m.length) (hlen : l.length + m.length ≤ 1000000) (hbase : base ≤ w.heap.size)
    (h : ∀ g cap w', ownsE w' base (.slice (some ⟨g, 0, none⟩) (l.length + m.length) cap) (l ++ m) → w.grownBy w' v.ownBlock → wpList Tryz.prog ops Q rest (a.put o.dst (.slice (some ⟨g, 0, none⟩) (l.length + m.length) cap)) w') : wpList Tryz.prog ops Q (o :: rest) a w := by
  subst hn
  obtain ⟨i0, hi, hz0, hz1, hz2⟩ := info_parts info_ent
  refine wpList_append_lies w hgd s x 22 ho base 60 i0 (.agg #[.int .i64 0, .int .i64 0]) 2 16 Tryz.underlying22 hi hz0 hz1 hz2 rfl (by decide) v l.length (entsC l) hs hown ⟨B, off, none⟩ m.length c (entsC m) hx (entsC_len m) ?_ ?_ hm (by unfold maxLen; omega) (by omega) hbase _ rfl ?_
  · intro j u hj
    have hadd : (⟨B, off, none⟩ : Addr).add j = ⟨B, off + j, none⟩ := by unfold Addr.add; split <;> simp_all
    rw [hadd]; exact hcell j u hj
  · intro u hu; obtain ⟨n, rfl⟩ := entsC_int _ _ hu; rfl
  · intro g cap w' h1 h2 _ _
    refine h g cap w' ?_ h2
    unfold ownsE
    rw [List.length_append, entsC_app]
    exact h1
theorem ownsE.form {w : World} {base : Nat} {v : Value} {l : List Ent} (h : ownsE w base v l) : (v = .slice none 0 0 ∧ l = []) ∨ ∃ g cap, v = .slice (some ⟨g, 0, none⟩) l.length cap ∧ base ≤ g ∧ g < w.heap.size ∧ ∀ j u, (entsC l)[j]? = some u → w.cell? ⟨g, j, none⟩ = some u := by
  have hall := h
  have hlt := h.lt
  obtain ⟨h0, h1⟩ := h
  rcases h1 with ⟨rfl, hn⟩ | ⟨g, cap, cur, rfl, hb, hh, hc, hm, hs, ht⟩
  · exact .inl ⟨rfl, List.length_eq_zero_iff.1 hn⟩
  · refine .inr ⟨g, cap, rfl, hb, (hlt g rfl).2, fun j u hj => ?_⟩
    have hjl : j < l.length * 2 := by rw [← entsC_len]; exact (List.getElem?_eq_some_iff.1 hj).1
    rw [World.ownsRow.cellAt hall j hjl]
    exact hj
end Go.Proofs.YtkafhlpnhgipeaaGreatDoor
/-
  The contracts of vector.Of and of the document's VectorOf, as ids ask them.
-/
namespace Go.Proofs.YtkafhlpnhgipeaaGreatDoor
open Go.RowKit

theorem ofF_dropI {l : List Ent} {k : Nat} {t : Ent} (h : l[k]? = some t) (x : Int) : ofF (l.drop k) x = if t.rep = x then t.time else ofF (l.drop (k + 1)) x := by
  obtain ⟨hk, ht⟩ := List.getElem?_eq_some_iff.1 h
  rw [List.drop_eq_getElem_cons hk, ht]; rfl

set_option maxRecDepth 100000 in
set_option maxHeartbeats 2000000 in
theorem vofI_any (v : Value) (l : List Ent) (x : Int) (w : World) (hv : IsEnts w v l) (hl : l.length ≤ 9223372036854775807) :
    Calls Tryz.prog 131 #[v, .int .i64 x] w fun r w' => r = .returned (.int .i64 (ofF l x)) ∧ Below w.heap.size w w' := by
  obtain ⟨a1, c1, rfl, f1⟩ := hv.form
  have F1 := Lib.hid f1
  obtain ⟨n, hn⟩ : ∃ n, n = l.length := ⟨_, rfl⟩
  rw [← hn] at hl ⊢
  have HN := Lib.hid hn
  clear hv f1 hn
  go_enter Tryz.func131, Tryz.ntmps131
  go_wp2
  go_loopw [9] (fun i wr => ∃ k : Nat, k ≤ n ∧ i = .int .i64 k ∧ ofF l x = ofF (l.drop k) x ∧ Below w.heap.size w wr) (fun i _ => n - (intOf i).toNat)
  case atStart => exact ⟨0, by omega, rfl, rfl, Below.refl _ _⟩
  case round =>
    obtain ⟨k, hk, rfl, heq, hbel⟩ := hrel
    have HEQ := Lib.hid heq
    have HB := Lib.hid hbel
    have hzr := hbel.size
    clear heq hbel
    by_cases hlt : k < n
    · obtain ⟨t, ht⟩ : ∃ t, l[k]? = some t := ⟨l[k]'(by have := HN.out; omega), List.getElem?_eq_getElem _⟩
      obtain ⟨b1, o1, rfl, hb1, p0, p1⟩ := F1.out k t ht
      have hd := ofF_dropI ht x
      obtain ⟨rep, time⟩ := t
      simp only at p0 p1 hd
      have q0 := (HB.out.cell (p := ⟨b1, o1 + k * 2, none⟩) hb1).trans p0
      have q1 := (HB.out.cell (p := ⟨b1, o1 + k * 2 + 1, none⟩) hb1).trans p1
      by_cases hx : rep = x
      · have HW : Hid (ofF l x = time) := Lib.hid (show ofF l x = time by rw [HEQ.out, hd, if_pos hx])
        clear p0 p1 ht hd
        subst hx
        go_wp2
        go_ret
        exact ⟨by rw [HW.out]; rfl, HB.out.alloc hzr _⟩
      · have HW : Hid (ofF l x = ofF (l.drop (k + 1)) x) := Lib.hid (show ofF l x = ofF (l.drop (k + 1)) x by rw [HEQ.out, hd, if_neg hx])
        have bx : (rep == x) = false := by simpa using hx
        clear p0 p1 ht hd
        go_wp2
        go_roundw
        case rel => exact ⟨k + 1, by omega, by go_num, HW.out, HB.out.alloc hzr _⟩
        case measure => simp [intOf]; omega
    · have HW : Hid (ofF l x = 0) := Lib.hid (show ofF l x = 0 by rw [HEQ.out, List.drop_eq_nil_of_le (by have := HN.out; omega)]; rfl)
      go_wp2
      go_ret
      exact ⟨by rw [HW.out]; rfl, HB.out⟩

set_option maxRecDepth 100000 in
set_option maxHeartbeats 2000000 in
theorem rofI_any (v : Value) (l : List Ent) (x : Int) (w : World) (hv : IsEnts w v l) (hl : l.length ≤ 9223372036854775807) :
    Calls Tryz.prog 77 #[v, .int .i64 x] w fun r w' => r = .returned (.int .i64 (ofF l x)) ∧ w = w' := by
  obtain ⟨a1, c1, rfl, f1⟩ := hv.form
  have F1 := Lib.hid f1
  obtain ⟨n, hn⟩ : ∃ n, n = l.length := ⟨_, rfl⟩
  rw [← hn] at hl ⊢
  have HN := Lib.hid hn
  clear hv f1 hn
  go_enter Tryz.func77, Tryz.ntmps77
  go_wp2
  go_loop [8] (fun i => ∃ k : Nat, k ≤ n ∧ i = .int .i64 k ∧ ofF l x = ofF (l.drop k) x) (fun i => n - (intOf i).toNat)
  case atStart => exact ⟨0, by omega, rfl, rfl⟩
  case round =>
    obtain ⟨k, hk, rfl, heq⟩ := hrel
    have HEQ := Lib.hid heq
    clear heq
    by_cases hlt : k < n
    · obtain ⟨t, ht⟩ : ∃ t, l[k]? = some t := ⟨l[k]'(by have := HN.out; omega), List.getElem?_eq_getElem _⟩
      obtain ⟨b1, o1, rfl, hb1, p0, p1⟩ := F1.out k t ht
      have hd := ofF_dropI ht x
      obtain ⟨rep, time⟩ := t
      simp only at p0 p1 hd
      by_cases hx : rep = x
      · have HW : Hid (ofF l x = time) := Lib.hid (show ofF l x = time by rw [HEQ.out, hd, if_pos hx])
        clear ht hd
        subst hx
        go_wp2
        go_ret
        exact ⟨by rw [HW.out]; rfl, rfl⟩
      · have HW : Hid (ofF l x = ofF (l.drop (k + 1)) x) := Lib.hid (show ofF l x = ofF (l.drop (k + 1)) x by rw [HEQ.out, hd, if_neg hx])
        have bx : (rep == x) = false := by simpa using hx
        clear ht hd
        go_wp2
        go_round
        case rel => exact ⟨k + 1, by omega, by go_num, HW.out⟩
        case measure => simp [intOf]; omega
    · have HW : Hid (ofF l x = 0) := Lib.hid (show ofF l x = 0 by rw [HEQ.out, List.drop_eq_nil_of_le (by have := HN.out; omega)]; rfl)
      go_wp2
      go_ret
      exact ⟨by rw [HW.out]; rfl, rfl⟩

theorem vofI_as (v : Value) (l : List Ent) (x y : Int) (w : World) (hv : IsEnts w v l) (hl : l.length ≤ 9223372036854775807) (h : ofF l x = y) :
    Calls Tryz.prog 131 #[v, .int .i64 x] w fun r w' => r = .returned (.int .i64 y) ∧ Below w.heap.size w w' := by
  subst h; exact vofI_any v l x w hv hl
theorem rofI_q (v : Value) (l : List Ent) (x y : Int) (w : World) (n : Nat) (hv : IsEnts w v l) (hl : l.length ≤ 9223372036854775807) (h : ofF l x = y) :
    Calls Tryz.prog 77 #[v, .int .i64 x] (w.drewN n) fun r w' => r = .returned (.int .i64 y) ∧ ∃ m, w' = w.drewN m :=
  (rofI_any v l x (w.drewN n) (hv.drewN n) hl).mono fun _ _ ⟨h1, h2⟩ => ⟨by rw [h1, h], n, h2.symm⟩
end Go.Proofs.YtkafhlpnhgipeaaGreatDoor
/-
  The contract of the document's within.
-/
namespace Go.Proofs.YtkafhlpnhgipeaaGreatDoor
open Go.RowKit

theorem within_yes (n lo hi : Int) (w : World) (h1 : lo ≤ n) (h2 : n ≤ hi) :
    Calls Tryz.prog 33 #[.int .i64 n, .int .i64 lo, .int .i64 hi] w fun e w' => e = .returned (.bool true) ∧ w = w' := by
  go_enter Tryz.func33, Tryz.ntmps33
  go_wp2
  go_ret
  exact ⟨rfl, rfl⟩
theorem within_low (n lo hi : Int) (w : World) (h1 : n < lo) :
    Calls Tryz.prog 33 #[.int .i64 n, .int .i64 lo, .int .i64 hi] w fun e w' => e = .returned (.bool false) ∧ w = w' := by
  go_enter Tryz.func33, Tryz.ntmps33
  go_wp2
  go_ret
  exact ⟨rfl, rfl⟩
theorem within_high (n lo hi : Int) (w : World) (h1 : lo ≤ n) (h2 : hi < n) :
    Calls Tryz.prog 33 #[.int .i64 n, .int .i64 lo, .int .i64 hi] w fun e w' => e = .returned (.bool false) ∧ w = w' := by
  have h3 : decide (n ≤ hi) = false := by simp; omega
  go_enter Tryz.func33, Tryz.ntmps33
  go_wp2
  go_ret
  exact ⟨rfl, rfl⟩
end Go.Proofs.YtkafhlpnhgipeaaGreatDoor
/-
  The contracts of ident's functions, and of the document's.
-/
namespace Go.Proofs.YtkafhlpnhgipeaaGreatDoor
open Go.RowKit

/-- Which of two numbers is less. -/
def cmpF (x y : Int) : Int := if x < y then -1 else if y < x then 1 else 0
def orF (p q : Int) : Int := if p = 0 then q else p
/-- Which of two ids is earlier. -/
def cI (a b : Int × Int) : Int := orF (cmpF a.1 b.1) (cmpF a.2 b.2)
/-- Whether one is within. -/
def wiF (x : Int × Int) (from_ have_ : List Ent) : Bool := decide (ofF from_ x.2 < x.1) && decide (x.1 ≤ ofF have_ x.2)

set_option maxRecDepth 100000 in
theorem cmp_any (x y : Int) (w : World) : Calls Tryz.prog 133 #[.int .i64 x, .int .i64 y] w fun e w' => e = .returned (.int .i64 (cmpF x y)) ∧ w = w' := by
  have hn : ∀ (z : Int) (w : World), Calls Tryz.prog 146 #[.int .i64 z] w fun e w' => e = .returned (.bool false) ∧ w = w' := fun z w => by
    go_enter Tryz.func146, Tryz.ntmps146
    go_wp2
    go_ret
    exact ⟨by first | rfl | simp, rfl⟩
  by_cases h1 : x < y
  · have HW : Hid (cmpF x y = -1) := Lib.hid (by unfold cmpF; rw [if_pos h1])
    rw [HW.out]
    go_enter Tryz.func133, Tryz.ntmps133
    go_wp2_with (first | (go_at_call 146; refine (hn _ _).mono ?_; rintro e w' ⟨rfl, rfl⟩))
    go_ret
    exact ⟨rfl, rfl⟩
  · by_cases h2 : y < x
    · have HW : Hid (cmpF x y = 1) := Lib.hid (by unfold cmpF; rw [if_neg h1, if_pos h2])
      rw [HW.out]
      go_enter Tryz.func133, Tryz.ntmps133
      go_wp2_with (first | (go_at_call 146; refine (hn _ _).mono ?_; rintro e w' ⟨rfl, rfl⟩))
      go_ret
      exact ⟨rfl, rfl⟩
    · obtain rfl : x = y := by omega
      have HW : Hid (cmpF x x = 0) := Lib.hid (by unfold cmpF; rw [if_neg h1, if_neg h1])
      rw [HW.out]
      clear h1 h2
      go_enter Tryz.func133, Tryz.ntmps133
      go_wp2_with (first | (go_at_call 146; refine (hn _ _).mono ?_; rintro e w' ⟨rfl, rfl⟩))
      go_ret
      exact ⟨rfl, rfl⟩
theorem cmp_as (x y c : Int) (w : World) (h : cmpF x y = c) : Calls Tryz.prog 133 #[.int .i64 x, .int .i64 y] w fun e w' => e = .returned (.int .i64 c) ∧ w = w' := by
  subst h; exact cmp_any x y w

set_option maxRecDepth 100000 in
theorem or_any (p q c : Int) (B : Nat) (w : World) (h0 : w.cell? ⟨B, 0, none⟩ = some (.int .i64 p)) (h1 : w.cell? ⟨B, 1, none⟩ = some (.int .i64 q)) (h : orF p q = c) :
    Calls Tryz.prog 132 #[.slice (some ⟨B, 0, none⟩) 2 2] w fun e w' => e = .returned (.int .i64 c) ∧ w = w' := by
  subst h
  by_cases hp : p = 0
  · have HW : Hid (orF p q = q) := Lib.hid (by unfold orF; rw [if_pos hp])
    rw [HW.out]
    subst hp
    by_cases hq : q = 0
    · subst hq
      go_enter Tryz.func132, Tryz.ntmps132
      go_wp2
      refine wp_loop_rounds 3 ?_
      rw [rounds_succ]
      go_wp2
      rw [rounds_succ]
      go_wp2
      rw [rounds_succ]
      go_wp2
      go_ret
      exact ⟨rfl, rfl⟩
    · have bq : (q == 0) = false := by simpa using hq
      have bq2 : (q != 0) = true := by simpa using hq
      go_enter Tryz.func132, Tryz.ntmps132
      go_wp2
      refine wp_loop_rounds 2 ?_
      rw [rounds_succ]
      go_wp2
      rw [rounds_succ]
      go_wp2
      go_ret
      exact ⟨rfl, rfl⟩
  · have HW : Hid (orF p q = p) := Lib.hid (by unfold orF; rw [if_neg hp])
    rw [HW.out]
    have bq : (p == 0) = false := by simpa using hp
    have bq2 : (p != 0) = true := by simpa using hp
    go_enter Tryz.func132, Tryz.ntmps132
    go_wp2
    refine wp_loop_rounds 1 ?_
    rw [rounds_succ]
    go_wp2
    go_ret
    exact ⟨rfl, rfl⟩

theorem three_new (w : World) (o1 o2 : Obj) (a b : Value) (t : TypeId) : (((w.alloc o1).alloc o2).alloc (.cells #[a, b] t)).cell? ⟨w.heap.size + 1 + 1, 0, none⟩ = some a ∧ (((w.alloc o1).alloc o2).alloc (.cells #[a, b] t)).cell? ⟨w.heap.size + 1 + 1, 1, none⟩ = some b := by
  have h := heap_alloc_new ((w.alloc o1).alloc o2) (.cells #[a, b] t)
  rw [World.size_alloc, World.size_alloc] at h
  exact ⟨cell_of_row _ _ 0 _ _ (0, 0) h, cell_of_row _ _ 1 _ _ (0, 0) h⟩
set_option maxRecDepth 100000 in
set_option maxHeartbeats 2000000 in
theorem idcmp_any (a b : Int × Int) (w : World) : Calls Tryz.prog 113 #[.agg #[.int .i64 a.1, .int .i64 a.2], .agg #[.int .i64 b.1, .int .i64 b.2]] w fun e w' => e = .returned (.int .i64 (cI a b)) ∧ Below w.heap.size w w' := by
  obtain ⟨x1, x2⟩ := a
  obtain ⟨y1, y2⟩ := b
  simp only
  obtain ⟨c1, hc1⟩ : ∃ c, cmpF x1 y1 = c := ⟨_, rfl⟩
  obtain ⟨c2, hc2⟩ : ∃ c, cmpF x2 y2 = c := ⟨_, rfl⟩
  obtain ⟨c, hc⟩ : ∃ c, orF c1 c2 = c := ⟨_, rfl⟩
  have HW : Hid (cI (x1, x2) (y1, y2) = c) := Lib.hid (show cI (x1, x2) (y1, y2) = c by unfold cI; simp only; rw [hc1, hc2, hc])
  have H1 := Lib.hid hc1
  have H2 := Lib.hid hc2
  have H3 := Lib.hid hc
  clear hc1 hc2 hc
  rw [HW.out]
  go_enter Tryz.func113, Tryz.ntmps113
  go_wp2
  have k0 : ((w.alloc (.cells #[.int .i64 x1, .int .i64 x2] 44)).alloc (.cells #[.int .i64 y1, .int .i64 y2] 44)).cell? ⟨w.heap.size, 0, none⟩ = some (.int .i64 x1) ∧ ((w.alloc (.cells #[.int .i64 x1, .int .i64 x2] 44)).alloc (.cells #[.int .i64 y1, .int .i64 y2] 44)).cell? ⟨w.heap.size, 1, none⟩ = some (.int .i64 x2) ∧ ((w.alloc (.cells #[.int .i64 x1, .int .i64 x2] 44)).alloc (.cells #[.int .i64 y1, .int .i64 y2] 44)).cell? ⟨w.heap.size + 1, 0, none⟩ = some (.int .i64 y1) ∧ ((w.alloc (.cells #[.int .i64 x1, .int .i64 x2] 44)).alloc (.cells #[.int .i64 y1, .int .i64 y2] 44)).cell? ⟨w.heap.size + 1, 1, none⟩ = some (.int .i64 y2) := by simp
  go_region_held3 (fun w' => w'.cell? ⟨w.heap.size, 0, none⟩ = some (.int .i64 x1) ∧ w'.cell? ⟨w.heap.size, 1, none⟩ = some (.int .i64 x2) ∧ w'.cell? ⟨w.heap.size + 1, 0, none⟩ = some (.int .i64 y1) ∧ w'.cell? ⟨w.heap.size + 1, 1, none⟩ = some (.int .i64 y2)) (first | exact k0 | go_keep) (first | (go_at_call 133; ((with_reducible refine (cmp_as x1 y1 c1 _ H1.out).mono ?_); rintro r w' ⟨rfl, rfl⟩)) | (go_at_call 133; ((with_reducible refine (cmp_as x2 y2 c2 _ H2.out).mono ?_); rintro r w' ⟨rfl, rfl⟩)) | (go_at_call 132; ((refine (or_any c1 c2 c _ _ (by simp; exact (three_new _ _ _ _ _ _).1) (by simp; exact (three_new _ _ _ _ _ _).2) H3.out).mono ?_); rintro r w' ⟨rfl, rfl⟩)))
  go_wp2
  go_ret
  refine ⟨rfl, ?_⟩
  first
    | exact (((Below.refl _ _).alloc (Nat.le_refl _) _).alloc (by simp) _).drew.alloc (by simp; omega) _
    | exact ((((Below.refl _ _).alloc (Nat.le_refl _) _).alloc (by simp) _).alloc (by simp; omega) _).drew
theorem idcmp_as (x1 x2 y1 y2 c : Int) (w : World) (h : cI (x1, x2) (y1, y2) = c) : Calls Tryz.prog 113 #[.agg #[.int .i64 x1, .int .i64 x2], .agg #[.int .i64 y1, .int .i64 y2]] w fun e w' => e = .returned (.int .i64 c) ∧ Below w.heap.size w w' := by
  subst h; exact idcmp_any (x1, x2) (y1, y2) w

/-- Right, as a Bool. -/
def idR (x : Int × Int) : Bool := decide (1 ≤ x.1 ∧ x.1 ≤ 1099511627776 ∧ 0 ≤ x.2 ∧ x.2 ≤ 200)

set_option maxRecDepth 100000 in
theorem idright_any (x1 x2 : Int) (b : Bool) (w : World) (hb : idR (x1, x2) = b) :
    Calls Tryz.prog 118 #[.agg #[.int .i64 x1, .int .i64 x2]] w fun e w' => e = .returned (.bool b) ∧ Below w.heap.size w w' := by
  subst hb
  unfold idR
  by_cases h1 : 1 ≤ x1
  · by_cases h2 : x1 ≤ 1099511627776
    · by_cases h3 : 0 ≤ x2
      · by_cases h4 : x2 ≤ 200
        · rw [decide_eq_true (show 1 ≤ (x1, x2).1 ∧ (x1, x2).1 ≤ 1099511627776 ∧ 0 ≤ (x1, x2).2 ∧ (x1, x2).2 ≤ 200 from ⟨h1, h2, h3, h4⟩)]
          go_enter Tryz.func118, Tryz.ntmps118
          go_wp2
          go_ret
          exact ⟨rfl, (Below.refl _ _).alloc (Nat.le_refl _) _⟩
        · rw [decide_eq_false (show ¬ (1 ≤ (x1, x2).1 ∧ (x1, x2).1 ≤ 1099511627776 ∧ 0 ≤ (x1, x2).2 ∧ (x1, x2).2 ≤ 200) from fun h => h4 h.2.2.2)]
          have d : decide (x2 ≤ 200) = false := decide_eq_false h4
          go_enter Tryz.func118, Tryz.ntmps118
          go_wp2
          go_ret
          exact ⟨by first | rfl | (show Ending.returned (Value.bool (decide _)) = _; rw [d]), (Below.refl _ _).alloc (Nat.le_refl _) _⟩
      · rw [decide_eq_false (show ¬ (1 ≤ (x1, x2).1 ∧ (x1, x2).1 ≤ 1099511627776 ∧ 0 ≤ (x1, x2).2 ∧ (x1, x2).2 ≤ 200) from fun h => h3 h.2.2.1)]
        have d : decide (0 ≤ x2) = false := decide_eq_false h3
        go_enter Tryz.func118, Tryz.ntmps118
        go_wp2
        go_ret
        exact ⟨by first | rfl | simp, (Below.refl _ _).alloc (Nat.le_refl _) _⟩
    · rw [decide_eq_false (show ¬ (1 ≤ (x1, x2).1 ∧ (x1, x2).1 ≤ 1099511627776 ∧ 0 ≤ (x1, x2).2 ∧ (x1, x2).2 ≤ 200) from fun h => h2 h.2.1)]
      have d : decide (x1 ≤ 1099511627776) = false := decide_eq_false h2
      go_enter Tryz.func118, Tryz.ntmps118
      go_wp2
      go_ret
      exact ⟨by first | rfl | simp, (Below.refl _ _).alloc (Nat.le_refl _) _⟩
  · rw [decide_eq_false (show ¬ (1 ≤ (x1, x2).1 ∧ (x1, x2).1 ≤ 1099511627776 ∧ 0 ≤ (x1, x2).2 ∧ (x1, x2).2 ≤ 200) from fun h => h1 h.1)]
    have d : decide (1 ≤ x1) = false := decide_eq_false h1
    go_enter Tryz.func118, Tryz.ntmps118
    go_wp2
    go_ret
    exact ⟨by first | rfl | simp, (Below.refl _ _).alloc (Nat.le_refl _) _⟩
end Go.Proofs.YtkafhlpnhgipeaaGreatDoor
/-
  Plain: which of two ids is earlier.
-/
namespace Go.Proofs.YtkafhlpnhgipeaaGreatDoor

theorem cI_val (x1 x2 y1 y2 : Int) : cI (x1, x2) (y1, y2) = if x1 < y1 ∨ x1 = y1 ∧ x2 < y2 then -1 else if x1 = y1 ∧ x2 = y2 then 0 else 1 := by
  unfold cI orF cmpF
  simp only
  repeat' split
  all_goals omega
theorem cI_neg (x1 x2 y1 y2 : Int) : cI (y1, y2) (x1, x2) = - cI (x1, x2) (y1, y2) := by
  rw [cI_val, cI_val]
  repeat' split
  all_goals omega
theorem cI_three (x1 x2 y1 y2 : Int) : cI (x1, x2) (y1, y2) = -1 ∨ cI (x1, x2) (y1, y2) = 0 ∨ cI (x1, x2) (y1, y2) = 1 := by
  rw [cI_val]
  repeat' split
  all_goals omega
theorem cI_zero {x1 x2 y1 y2 : Int} (h : cI (x1, x2) (y1, y2) = 0) : x1 = y1 ∧ x2 = y2 := by
  rw [cI_val] at h
  split at h
  · omega
  · split at h
    · assumption
    · omega
theorem cI_ne {x1 x2 y1 y2 : Int} (h : cI (x1, x2) (y1, y2) ≠ 0) : ¬ (x1 = y1 ∧ x2 = y2) := by
  rintro ⟨rfl, rfl⟩
  apply h
  rw [cI_val, if_neg (by omega), if_pos ⟨rfl, rfl⟩]
theorem cI_trans {x1 x2 y1 y2 z1 z2 : Int} (h1 : cI (x1, x2) (y1, y2) = -1) (h2 : cI (y1, y2) (z1, z2) = -1) : cI (x1, x2) (z1, z2) = -1 := by
  rw [cI_val] at h1 h2 ⊢
  split at h1
  · split at h2
    · rw [if_pos (by omega)]
    · split at h2 <;> omega
  · split at h1 <;> omega
end Go.Proofs.YtkafhlpnhgipeaaGreatDoor
/-
  Batches, plain: what is wrong with one.
-/
namespace Go.Proofs.YtkafhlpnhgipeaaGreatDoor
open Go.RowKit

/-- What is wrong with a write. -/
def wE (x : Wr) : Nat := wriE x.time x.rep x.kind x.key x.value x.n
/-- Its id. -/
def wid (x : Wr) : Int × Int := (x.time, x.rep)
/-- The second one is later. -/
def late (q x : Wr) : Prop := cI (wid x) (wid q) = 1
instance (q x : Wr) : Decidable (late q x) := by unfold late; infer_instance
def lateO : Option Wr → Wr → Prop
  | none, _ => True
  | some q, x => late q x
instance (p : Option Wr) (x : Wr) : Decidable (lateO p x) := by cases p <;> (unfold lateO; infer_instance)
/-- What is wrong with a write of a batch, behind another one. -/
def bwE (f h : List Ent) (p : Option Wr) (x : Wr) : Nat := if wE x ≠ 0 then wE x else if ¬ lateO p x then 10 else if wiF (wid x) f h = false then 6 else 0
def bwr (f h : List Ent) : List Wr → Nat → Option Wr → Nat × Int
  | [], _, _ => (0, -1)
  | x :: r, i, p => if bwE f h p x ≠ 0 then (bwE f h p x, (i : Int)) else bwr f h r (i + 1) (some x)
/-- What is wrong with how far it goes. -/
def bbE (f h : List Ent) : Nat := if (vrightF f).1 ≠ 0 then (vrightF f).1 else if (vrightF h).1 ≠ 0 then (vrightF h).1 else if covB h f = false then 13 else 0
/-- What is wrong with a batch: an error's number, where. -/
def batF (f h : List Ent) (ws : List Wr) : Nat × Int := if bbE f h ≠ 0 then (bbE f h, -1) else if 60 < ws.length then (4, -1) else bwr f h ws 0 none

theorem bwr_bad {f h : List Ent} {x : Wr} {r : List Wr} {i : Nat} {p : Option Wr} {e : Nat} (hx : bwE f h p x = e) (he : e ≠ 0) : bwr f h (x :: r) i p = (e, (i : Int)) := by subst hx; rw [bwr, if_pos he]
theorem bwr_good {f h : List Ent} {x : Wr} {r : List Wr} {i : Nat} {p : Option Wr} (hx : bwE f h p x = 0) : bwr f h (x :: r) i p = bwr f h r (i + 1) (some x) := by rw [bwr, if_neg (by rw [hx]; simp)]
theorem batF_bb {f h : List Ent} {ws : List Wr} {e : Nat} (hx : bbE f h = e) (he : e ≠ 0) : batF f h ws = (e, -1) := by subst hx; unfold batF; rw [if_pos he]
theorem batF_many {f h : List Ent} {ws : List Wr} (hx : bbE f h = 0) (hl : 60 < ws.length) : batF f h ws = (4, -1) := by unfold batF; rw [if_neg (by rw [hx]; simp), if_pos hl]
theorem batF_rest {f h : List Ent} {ws : List Wr} (hx : bbE f h = 0) (hl : ¬ 60 < ws.length) : batF f h ws = bwr f h ws 0 none := by unfold batF; rw [if_neg (by rw [hx]; simp), if_neg hl]

theorem bwE_w {f h : List Ent} {p : Option Wr} {x : Wr} {e : Nat} (hx : wE x = e) (he : e ≠ 0) : bwE f h p x = e := by subst hx; unfold bwE; rw [if_pos he]
theorem bwE_order {f h : List Ent} {p : Option Wr} {x : Wr} (hx : wE x = 0) (hl : ¬ lateO p x) : bwE f h p x = 10 := by unfold bwE; rw [if_neg (by rw [hx]; simp), if_pos hl]
theorem bwE_state {f h : List Ent} {p : Option Wr} {x : Wr} (hx : wE x = 0) (hl : lateO p x) (hw : wiF (wid x) f h = false) : bwE f h p x = 6 := by unfold bwE; rw [if_neg (by rw [hx]; simp), if_neg (by simpa using hl), if_pos hw]
theorem bwE_fine {f h : List Ent} {p : Option Wr} {x : Wr} (hx : wE x = 0) (hl : lateO p x) (hw : wiF (wid x) f h = true) : bwE f h p x = 0 := by unfold bwE; rw [if_neg (by rw [hx]; simp), if_neg (by simpa using hl), if_neg (by rw [hw]; decide)]
theorem bwE_ok {f h : List Ent} {p : Option Wr} {x : Wr} : bwE f h p x = 0 ↔ wE x = 0 ∧ lateO p x ∧ wiF (wid x) f h = true := by
  constructor
  · intro h0
    unfold bwE at h0
    split at h0
    · rename_i h1; exact absurd h0 h1
    · rename_i h1
      split at h0
      · simp at h0
      · rename_i h2
        split at h0
        · simp at h0
        · rename_i h3
          exact ⟨by simpa using h1, by simpa using h2, by simpa using h3⟩
  · rintro ⟨h1, h2, h3⟩; exact bwE_fine h1 h2 h3

/-- All writes are right, each behind the one ahead. -/
def okW (f h : List Ent) : Option Wr → List Wr → Prop
  | _, [] => True
  | p, x :: r => bwE f h p x = 0 ∧ okW f h (some x) r
theorem bwr_ok {f h : List Ent} (l : List Wr) : ∀ i p, (bwr f h l i p).1 = 0 ↔ okW f h p l := by
  induction l with
  | nil => intro i p; simp [bwr, okW]
  | cons x r ih =>
    intro i p
    by_cases h0 : bwE f h p x = 0
    · rw [bwr_good h0, ih]; exact ⟨fun h1 => ⟨h0, h1⟩, fun h1 => h1.2⟩
    · rw [bwr_bad rfl h0]; exact ⟨fun h1 => absurd h1 h0, fun h1 => absurd h1.1 h0⟩
theorem bwr_place {f h : List Ent} (l : List Wr) : ∀ i p, (bwr f h l i p).1 = 0 → bwr f h l i p = (0, -1) := by
  induction l with
  | nil => intro i p _; rfl
  | cons x r ih =>
    intro i p h1
    by_cases h0 : bwE f h p x = 0
    · rw [bwr_good h0] at h1 ⊢; exact ih _ _ h1
    · rw [bwr_bad rfl h0] at h1; exact absurd h1 h0
theorem bbE_ok {f h : List Ent} : bbE f h = 0 ↔ rightV f ∧ rightV h ∧ covB h f = true := by
  rw [← vright_ok, ← vright_ok]
  unfold bbE
  constructor
  · intro h0
    split at h0
    · rename_i h1; exact absurd h0 h1
    · rename_i h1
      split at h0
      · rename_i h2; exact absurd h0 h2
      · rename_i h2
        split at h0
        · simp at h0
        · rename_i h3; exact ⟨by simpa using h1, by simpa using h2, by simpa using h3⟩
  · rintro ⟨h1, h2, h3⟩
    rw [if_neg (by simpa using h1), if_neg (by simpa using h2), if_neg (by rw [h3]; decide)]
theorem batF_ok {f h : List Ent} {ws : List Wr} : (batF f h ws).1 = 0 ↔ (rightV f ∧ rightV h ∧ covB h f = true) ∧ ws.length ≤ 60 ∧ okW f h none ws := by
  rw [← bbE_ok]
  by_cases h1 : bbE f h = 0
  · by_cases h2 : 60 < ws.length
    · rw [batF_many h1 h2]
      constructor
      · intro h; cases h
      · intro h; omega
    · rw [batF_rest h1 h2, bwr_ok]
      exact ⟨fun h => ⟨h1, by omega, h⟩, fun h => h.2.2⟩
  · rw [batF_bb rfl h1]
    exact ⟨fun h => absurd h h1, fun h => absurd h.1 h1⟩
theorem batF_place {f h : List Ent} {ws : List Wr} (h0 : (batF f h ws).1 = 0) : batF f h ws = (0, -1) := by
  unfold batF at h0 ⊢
  split
  · rename_i h1; rw [if_pos h1] at h0; exact absurd h0 h1
  · rename_i h1
    rw [if_neg h1] at h0
    split
    · rename_i h2; rw [if_pos h2] at h0; cases h0
    · rename_i h2; rw [if_neg h2] at h0; exact bwr_place _ _ _ h0

theorem late_iff {q x : Wr} : late q x ↔ cI (wid q) (wid x) = -1 := by
  unfold late wid
  have := cI_neg x.time x.rep q.time q.rep
  omega
theorem late_trans {a b c : Wr} (h1 : late a b) (h2 : late b c) : late a c := by
  rw [late_iff] at h1 h2 ⊢
  exact cI_trans h1 h2
theorem late_self (x : Wr) : ¬ late x x := by
  intro h
  have h2 := late_iff.1 h
  unfold late at h
  omega
/-- As a set of writes, and their order. -/
theorem okW_iff {f h : List Ent} (l : List Wr) : ∀ p, okW f h p l ↔ (∀ x ∈ l, wE x = 0 ∧ lateO p x ∧ wiF (wid x) f h = true) ∧ l.Pairwise late := by
  induction l with
  | nil => intro p; simp [okW]
  | cons x r ih =>
    intro p
    show bwE f h p x = 0 ∧ okW f h (some x) r ↔ _
    rw [ih (some x), bwE_ok, List.pairwise_cons]
    constructor
    · rintro ⟨h1, h2, h3⟩
      refine ⟨fun y hy => ?_, fun y hy => (h2 y hy).2.1, h3⟩
      rcases List.mem_cons.1 hy with rfl | hy
      · exact h1
      · obtain ⟨g1, g2, g3⟩ := h2 y hy
        refine ⟨g1, ?_, g3⟩
        cases p with
        | none => trivial
        | some q => exact late_trans h1.2.1 g2
    · rintro ⟨h1, h2, h3⟩
      exact ⟨h1 x List.mem_cons_self, fun y hy => ⟨(h1 y (List.mem_cons_of_mem _ hy)).1, h2 y hy, (h1 y (List.mem_cons_of_mem _ hy)).2.2⟩, h3⟩
theorem okW_none {f h : List Ent} {l : List Wr} : okW f h none l ↔ (∀ x ∈ l, wE x = 0 ∧ wiF (wid x) f h = true) ∧ l.Pairwise late := by
  rw [okW_iff]
  exact ⟨fun ⟨h1, h2⟩ => ⟨fun x hx => ⟨(h1 x hx).1, (h1 x hx).2.2⟩, h2⟩, fun ⟨h1, h2⟩ => ⟨fun x hx => ⟨(h1 x hx).1, trivial, (h1 x hx).2⟩, h2⟩⟩
/-- A batch that is right. -/
def rightB (f h : List Ent) (ws : List Wr) : Prop := (batF f h ws).1 = 0
theorem rightB_iff {f h : List Ent} {ws : List Wr} : rightB f h ws ↔ (rightV f ∧ rightV h ∧ covB h f = true) ∧ ws.length ≤ 60 ∧ (∀ x ∈ ws, wE x = 0 ∧ wiF (wid x) f h = true) ∧ ws.Pairwise late := by
  unfold rightB
  rw [batF_ok, okW_none]
/-- Some of its writes alone. -/
theorem rightB_sub {f h : List Ent} {ws l : List Wr} (hr : rightB f h ws) (hs : l.Sublist ws) : rightB f h l := by
  rw [rightB_iff] at hr ⊢
  obtain ⟨h1, h2, h3, h4⟩ := hr
  exact ⟨h1, Nat.le_trans hs.length_le h2, fun x hx => h3 x (hs.subset hx), h4.sublist hs⟩
/-- The same write once more, right behind itself. -/
theorem bwr_dup {f h : List Ent} {x : Wr} {r : List Wr} (l : List Wr) : ∀ (i : Nat) (p : Option Wr), okW f h p (l ++ [x]) → bwr f h (l ++ x :: x :: r) i p = (10, ((i + l.length + 1 : Nat) : Int)) := by
  induction l with
  | nil =>
    intro i p ho
    obtain ⟨h1, _⟩ := ho
    rw [List.nil_append, bwr_good h1, bwr_bad (bwE_order (p := some x) (bwE_ok.1 h1).1 (late_self x)) (by decide)]
    rfl
  | cons y l ih =>
    intro i p ho
    obtain ⟨h1, h2⟩ := ho
    rw [List.cons_append, bwr_good h1, ih _ _ h2]
    congr 1
    simp only [List.length_cons]
    omega
theorem batF_dup {f h : List Ent} {ws l r : List Wr} {x : Wr} (hr : rightB f h ws) (hw : ws = l ++ x :: r) : (batF f h (l ++ x :: x :: r)).1 = if ws.length = 60 then 4 else 10 := by
  have h0 := batF_ok.1 hr
  have hl : (l ++ x :: x :: r).length = ws.length + 1 := by rw [hw]; simp; omega
  by_cases h6 : ws.length = 60
  · rw [if_pos h6, batF_many (bbE_ok.2 h0.1) (by omega)]
  · rw [if_neg h6, batF_rest (bbE_ok.2 h0.1) (by omega)]
    have ho : okW f h none (l ++ [x]) := by
      have h2 := okW_none.1 h0.2.2
      rw [okW_none]
      have hs : (l ++ [x]).Sublist ws := by rw [hw]; exact List.Sublist.append_left (List.cons_sublist_cons.2 (List.nil_sublist r)) l
      exact ⟨fun y hy => h2.1 y (hs.subset hy), h2.2.sublist hs⟩
    rw [bwr_dup l 0 none ho]
end Go.Proofs.YtkafhlpnhgipeaaGreatDoor
