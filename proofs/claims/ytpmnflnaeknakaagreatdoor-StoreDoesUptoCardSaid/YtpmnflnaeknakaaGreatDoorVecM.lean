/-
  Chapter 6, plain: vectors on lists of entries: what is wrong, how far a replica is known, both together.
-/
import Derived.WalkKit
namespace Go.Proofs.YtpmnflnaeknakaaGreatDoor

/-- An entry of a vector: a replica, a time. -/
structure Ent where
  rep : Int
  time : Int
deriving DecidableEq

/-- What is wrong with one, the replica ahead being so. -/
def wrE (e : Ent) (last : Int) : Nat := if e.rep < 0 ∨ 200 < e.rep ∨ e.time < 1 ∨ 1099511627776 < e.time then 2 else if e.rep ≤ last then 10 else 0
def vr : List Ent → Nat → Int → Nat × Int
  | [], _, _ => (0, -1)
  | e :: r, i, last => if wrE e last ≠ 0 then (wrE e last, i) else vr r (i + 1) e.rep
/-- What is wrong with a vector: an error's number, where. -/
def vrightF (l : List Ent) : Nat × Int := if 16 < l.length then (4, -1) else vr l 0 (-1)

theorem wrE_range {e : Ent} {last : Int} (h : e.rep < 0 ∨ 200 < e.rep ∨ e.time < 1 ∨ 1099511627776 < e.time) : wrE e last = 2 := by unfold wrE; rw [if_pos h]
theorem wrE_order {e : Ent} {last : Int} (h : ¬ (e.rep < 0 ∨ 200 < e.rep ∨ e.time < 1 ∨ 1099511627776 < e.time)) (h2 : e.rep ≤ last) : wrE e last = 10 := by unfold wrE; rw [if_neg h, if_pos h2]
theorem wrE_fine {e : Ent} {last : Int} (h : ¬ (e.rep < 0 ∨ 200 < e.rep ∨ e.time < 1 ∨ 1099511627776 < e.time)) (h2 : ¬ e.rep ≤ last) : wrE e last = 0 := by unfold wrE; rw [if_neg h, if_neg h2]
theorem wrE_ok {e : Ent} {last : Int} : wrE e last = 0 ↔ 0 ≤ e.rep ∧ e.rep ≤ 200 ∧ 1 ≤ e.time ∧ e.time ≤ 1099511627776 ∧ last < e.rep := by
  unfold wrE; split
  · constructor
    · intro h; omega
    · intro h; omega
  · split
    · constructor
      · intro h; omega
      · intro h; omega
    · constructor
      · intro _; omega
      · intro _; rfl
theorem vr_bad {e : Ent} {r : List Ent} {i : Nat} {last : Int} (h : wrE e last ≠ 0) : vr (e :: r) i last = (wrE e last, (i : Int)) := by rw [vr, if_pos h]
theorem vr_good {e : Ent} {r : List Ent} {i : Nat} {last : Int} (h : wrE e last = 0) : vr (e :: r) i last = vr r (i + 1) e.rep := by rw [vr, if_neg (by simpa using h)]

/-- Rising, from above so much on, and within bounds. -/
def okV : Int → List Ent → Prop
  | _, [] => True
  | last, e :: r => wrE e last = 0 ∧ okV e.rep r
def rightV (l : List Ent) : Prop := l.length ≤ 16 ∧ okV (-1) l
theorem vr_ok (l : List Ent) : ∀ i last, (vr l i last).1 = 0 ↔ okV last l := by
  induction l with
  | nil => intro i last; simp [vr, okV]
  | cons e r ih =>
    intro i last
    by_cases h : wrE e last = 0
    · rw [vr_good h, ih]; exact ⟨fun h2 => ⟨h, h2⟩, fun h2 => h2.2⟩
    · rw [vr_bad h]; exact ⟨fun h2 => absurd h2 h, fun h2 => absurd h2.1 h⟩
theorem vright_ok (l : List Ent) : (vrightF l).1 = 0 ↔ rightV l := by
  unfold vrightF rightV
  split
  · constructor
    · intro h; cases h
    · intro h; omega
  · rw [vr_ok]; exact ⟨fun h => ⟨by omega, h⟩, fun h => h.2⟩
theorem vr_good_place (l : List Ent) : ∀ i last, (vr l i last).1 = 0 → vr l i last = (0, -1) := by
  induction l with
  | nil => intro i last _; rfl
  | cons e r ih =>
    intro i last h
    by_cases hw : wrE e last = 0
    · rw [vr_good hw] at h ⊢; exact ih _ _ h
    · rw [vr_bad hw] at h; exact absurd h hw
theorem vright_good {l : List Ent} (h : (vrightF l).1 = 0) : vrightF l = (0, -1) := by
  unfold vrightF at h ⊢
  split
  · rename_i h2; rw [if_pos h2] at h; cases h
  · rename_i h2; rw [if_neg h2] at h; exact vr_good_place _ _ _ h
theorem vright_of {l : List Ent} (h : rightV l) : vrightF l = (0, -1) := vright_good ((vright_ok l).2 h)

theorem okV_le {a b : Int} {l : List Ent} (h : okV b l) (hab : a ≤ b) : okV a l := by
  cases l with
  | nil => trivial
  | cons e r =>
    obtain ⟨h1, h2⟩ := h
    refine ⟨?_, h2⟩
    rw [wrE_ok] at h1 ⊢; omega
/-- Each entry of a right one. -/
theorem okV_mem {l : List Ent} : ∀ {last : Int}, okV last l → ∀ e ∈ l, 0 ≤ e.rep ∧ e.rep ≤ 200 ∧ 1 ≤ e.time ∧ e.time ≤ 1099511627776 ∧ last < e.rep := by
  induction l with
  | nil => intro last _ e h; cases h
  | cons d r ih =>
    intro last h e he
    obtain ⟨h1, h2⟩ := h
    rw [wrE_ok] at h1
    rcases List.mem_cons.1 he with rfl | he
    · exact h1
    · have := ih h2 e he; omega
theorem okV_snoc {l : List Ent} {e : Ent} : ∀ {last : Int}, okV last l → (∀ d ∈ l, d.rep < e.rep) → wrE e last = 0 → okV last (l ++ [e]) := by
  induction l with
  | nil => intro last _ _ h; exact ⟨h, trivial⟩
  | cons d r ih =>
    intro last h hd he
    refine ⟨h.1, ih h.2 (fun x hx => hd x (List.mem_cons_of_mem _ hx)) ?_⟩
    have := hd d List.mem_cons_self
    rw [wrE_ok] at he ⊢; omega

/-- How far a replica is known. -/
def ofF : List Ent → Int → Int
  | [], _ => 0
  | e :: r, x => if e.rep = x then e.time else ofF r x
theorem ofF_at {e : Ent} {r : List Ent} {x : Int} (h : e.rep = x) : ofF (e :: r) x = e.time := by rw [ofF, if_pos h]
theorem ofF_on {e : Ent} {r : List Ent} {x : Int} (h : e.rep ≠ x) : ofF (e :: r) x = ofF r x := by rw [ofF, if_neg h]
theorem ofF_none {l : List Ent} {x : Int} (h : ∀ e ∈ l, e.rep ≠ x) : ofF l x = 0 := by
  induction l with
  | nil => rfl
  | cons e r ih => rw [ofF_on (h e List.mem_cons_self)]; exact ih fun d hd => h d (List.mem_cons_of_mem _ hd)
theorem ofF_snoc {l : List Ent} {e : Ent} {x : Int} (h : ∀ d ∈ l, d.rep ≠ e.rep) : ofF (l ++ [e]) x = if e.rep = x then e.time else ofF l x := by
  induction l with
  | nil => simp [ofF]
  | cons d r ih =>
    have h1 := h d List.mem_cons_self
    have ih' := ih fun y hy => h y (List.mem_cons_of_mem _ hy)
    rw [List.cons_append]
    by_cases hd : d.rep = x
    · rw [ofF_at hd, if_neg (by omega), ofF_at hd]
    · rw [ofF_on hd, ih', ofF_on hd]
theorem ofF_bd {l : List Ent} {last : Int} (h : okV last l) (x : Int) : 0 ≤ ofF l x ∧ ofF l x ≤ 1099511627776 := by
  induction l generalizing last with
  | nil => exact ⟨Int.le_refl _, by show (0 : Int) ≤ _; decide⟩
  | cons e r ih =>
    have hm := okV_mem h e List.mem_cons_self
    by_cases hx : e.rep = x
    · rw [ofF_at hx]; omega
    · rw [ofF_on hx]; exact ih h.2
theorem ofF_low {l : List Ent} {last : Int} (h : okV last l) {x : Int} (hx : x ≤ last) : ofF l x = 0 := ofF_none fun e he => by have := okV_mem h e he; omega
theorem ofF_out {l : List Ent} {last : Int} (h : okV last l) {x : Int} (hx : x < 0 ∨ 200 < x) : ofF l x = 0 := ofF_none fun e he => by have := okV_mem h e he; omega
theorem ofF_mem {l : List Ent} {last : Int} (h : okV last l) {e : Ent} (he : e ∈ l) : ofF l e.rep = e.time := by
  induction l generalizing last with
  | nil => cases he
  | cons d r ih =>
    rcases List.mem_cons.1 he with rfl | he
    · rw [ofF_at rfl]
    · have := okV_mem h.2 e he
      rw [ofF_on (by omega)]; exact ih h.2 he
theorem ofF_has {l : List Ent} {x : Int} (h : ofF l x ≠ 0) : ∃ e ∈ l, e.rep = x ∧ e.time = ofF l x := by
  induction l with
  | nil => exact absurd rfl h
  | cons d r ih =>
    by_cases hd : d.rep = x
    · exact ⟨d, List.mem_cons_self, hd, by rw [ofF_at hd]⟩
    · rw [ofF_on hd] at h ⊢
      obtain ⟨e, he, h1, h2⟩ := ih h
      exact ⟨e, List.mem_cons_of_mem _ he, h1, h2⟩
/-- Who is known as far is the same. -/
theorem ok_ext {l m : List Ent} {a b : Int} (hl : okV a l) (hm : okV b m) (h : ∀ x, ofF l x = ofF m x) : l = m := by
  induction l generalizing m a b with
  | nil =>
    cases m with
    | nil => rfl
    | cons e r =>
      have := okV_mem hm e List.mem_cons_self
      have h1 := h e.rep
      rw [ofF_at rfl] at h1
      have h2 : ofF [] e.rep = 0 := rfl
      omega
  | cons d r ih =>
    have hd := okV_mem hl d List.mem_cons_self
    cases m with
    | nil =>
      have h1 := h d.rep
      rw [ofF_at rfl] at h1
      have h2 : ofF [] d.rep = 0 := rfl
      omega
    | cons e s =>
      have he := okV_mem hm e List.mem_cons_self
      have hde : d.rep = e.rep := by
        rcases Int.lt_trichotomy d.rep e.rep with hlt | heq | hgt
        · have h1 := h d.rep
          rw [ofF_at rfl, ofF_on (by omega), ofF_low hm.2 (by omega)] at h1
          omega
        · exact heq
        · have h1 := h e.rep
          rw [ofF_at (e := e) rfl, ofF_on (by omega), ofF_low hl.2 (by omega)] at h1
          omega
      have hdt : d = e := by
        have h1 := h d.rep
        rw [ofF_at rfl, ofF_at hde.symm] at h1
        cases d; cases e; simp_all
      subst hdt
      congr 1
      refine ih hl.2 hm.2 fun x => ?_
      by_cases hx : d.rep = x
      · subst hx
        rw [ofF_low hl.2 (Int.le_refl _), ofF_low hm.2 (Int.le_refl _)]
      · have h1 := h x
        rw [ofF_on hx, ofF_on hx] at h1
        exact h1

/-- The vector of what each of so many replicas is known as far as. -/
def tab (f : Nat → Int) : Nat → List Ent
  | 0 => []
  | n + 1 => if 0 < f n then tab f n ++ [⟨n, f n⟩] else tab f n
theorem tab_yes {f : Nat → Int} {n : Nat} (h : 0 < f n) : tab f (n + 1) = tab f n ++ [⟨n, f n⟩] := by rw [tab, if_pos h]
theorem tab_no {f : Nat → Int} {n : Nat} (h : ¬ 0 < f n) : tab f (n + 1) = tab f n := by rw [tab, if_neg h]
theorem tab_congr {f g : Nat → Int} {n : Nat} (h : ∀ r, r < n → f r = g r) : tab f n = tab g n := by
  induction n with
  | zero => rfl
  | succ n ih => rw [tab, tab, ih fun r hr => h r (by omega), h n (by omega)]
theorem tab_len (f : Nat → Int) (n : Nat) : (tab f n).length ≤ n := by
  induction n with
  | zero => exact Nat.le_refl _
  | succ n ih =>
    by_cases h : 0 < f n
    · rw [tab_yes h, List.length_append]; simp; omega
    · rw [tab_no h]; omega
theorem tab_lt (f : Nat → Int) (n : Nat) : ∀ e ∈ tab f n, 0 ≤ e.rep ∧ e.rep < (n : Int) := by
  induction n with
  | zero => intro e h; cases h
  | succ n ih =>
    intro e he
    by_cases h : 0 < f n
    · rw [tab_yes h] at he
      rcases List.mem_append.1 he with he | he
      · have := ih e he; omega
      · rw [List.mem_singleton.1 he]; simp only; omega
    · rw [tab_no h] at he
      have := ih e he; omega
theorem tab_okV {f : Nat → Int} (hf : ∀ r, f r ≤ 1099511627776) {n : Nat} (hn : n ≤ 201) : okV (-1) (tab f n) := by
  induction n with
  | zero => trivial
  | succ n ih =>
    by_cases h : 0 < f n
    · rw [tab_yes h]
      refine okV_snoc (ih (by omega)) (fun d hd => ?_) ?_
      · have := tab_lt f n d hd; simp only; omega
      · rw [wrE_ok]; have := hf n; simp only; omega
    · rw [tab_no h]; exact ih (by omega)
theorem ofF_tab (f : Nat → Int) (n : Nat) (x : Int) : ofF (tab f n) x = if 0 ≤ x ∧ x < n ∧ 0 < f x.toNat then f x.toNat else 0 := by
  induction n with
  | zero => rw [if_neg (by omega)]; rfl
  | succ n ih =>
    by_cases h : 0 < f n
    · rw [tab_yes h, ofF_snoc (fun d hd => by have := tab_lt f n d hd; simp only; omega), ih]
      simp only
      by_cases hx : (n : Int) = x
      · subst hx
        rw [if_pos rfl, Int.toNat_natCast, if_pos ⟨by omega, by omega, h⟩]
      · rw [if_neg hx]
        by_cases h2 : 0 ≤ x ∧ x < n ∧ 0 < f x.toNat
        · rw [if_pos h2, if_pos ⟨h2.1, by omega, h2.2.2⟩]
        · rw [if_neg h2, if_neg (by omega)]
    · rw [tab_no h, ih]
      by_cases h2 : 0 ≤ x ∧ x < n ∧ 0 < f x.toNat
      · rw [if_pos h2, if_pos ⟨h2.1, by omega, h2.2.2⟩]
      · rw [if_neg h2, if_neg]
        rintro ⟨h3, h4, h5⟩
        by_cases hx : x = (n : Int)
        · subst hx; rw [Int.toNat_natCast] at h5; exact h h5
        · exact h2 ⟨h3, by omega, h5⟩
/-- A right one is the vector of what it knows. -/
theorem tab_self {l : List Ent} {last : Int} (h : okV last l) : tab (fun r => ofF l (r : Int)) 201 = l := by
  refine ok_ext (a := -1) (b := last) (tab_okV (fun r => (ofF_bd h _).2) (Nat.le_refl _)) h fun x => ?_
  rw [ofF_tab]
  by_cases h2 : 0 ≤ x ∧ x < ((201 : Nat) : Int) ∧ 0 < ofF l (x.toNat : Int)
  · rw [if_pos h2]; congr 1; omega
  · rw [if_neg h2]
    have hb := ofF_bd h x
    by_cases hx : 0 ≤ x ∧ x ≤ 200
    · have e : (x.toNat : Int) = x := by omega
      rw [e] at h2
      omega
    · rw [ofF_out h (by omega)]

/-- How far both know. -/
def jF (a b : List Ent) (r : Nat) : Int := max (ofF a r) (ofF b r)
def joinL (a b : List Ent) : List Ent := tab (jF a b) 201
theorem jF_bd {a b : List Ent} {x y : Int} (ha : okV x a) (hb : okV y b) (r : Nat) : 0 ≤ jF a b r ∧ jF a b r ≤ 1099511627776 := by
  have := ofF_bd ha r; have := ofF_bd hb r; unfold jF; omega
theorem join_okV {a b : List Ent} {x y : Int} (ha : okV x a) (hb : okV y b) : okV (-1) (joinL a b) := tab_okV (fun r => (jF_bd ha hb r).2) (Nat.le_refl _)
theorem join_of {a b : List Ent} {x y : Int} (ha : okV x a) (hb : okV y b) (z : Int) : ofF (joinL a b) z = max (ofF a z) (ofF b z) := by
  unfold joinL
  rw [ofF_tab]
  have h1 := ofF_bd ha z
  have h2 := ofF_bd hb z
  by_cases hz : 0 ≤ z ∧ z ≤ 200
  · have e : (z.toNat : Int) = z := by omega
    unfold jF
    rw [e]
    split
    · rfl
    · omega
  · rw [if_neg (by omega), ofF_out ha (by omega), ofF_out hb (by omega)]; rfl
theorem join_comm (a b : List Ent) : joinL a b = joinL b a := tab_congr fun r _ => by unfold jF; exact Int.max_comm _ _
theorem join_self {a : List Ent} {x : Int} (ha : okV x a) : joinL a a = a := by
  rw [show joinL a a = tab (fun r => ofF a (r : Int)) 201 from tab_congr fun r _ => by unfold jF; omega]
  exact tab_self ha
theorem join_assoc {a b c : List Ent} {x y z : Int} (ha : okV x a) (hb : okV y b) (hc : okV z c) : joinL (joinL a b) c = joinL a (joinL b c) :=
  tab_congr fun r _ => by unfold jF; rw [join_of ha hb, join_of hb hc]; omega

/-- Join's answer: an error's number, or the vector. -/
def joinR (a b : List Ent) : Nat × List Ent :=
  if (vrightF a).1 ≠ 0 then ((vrightF a).1, []) else if (vrightF b).1 ≠ 0 then ((vrightF b).1, []) else if 16 < (joinL a b).length then (4, []) else (0, joinL a b)
theorem joinR_a {a b : List Ent} (h : (vrightF a).1 ≠ 0) : joinR a b = ((vrightF a).1, []) := by unfold joinR; rw [if_pos h]
theorem joinR_b {a b : List Ent} (h : (vrightF a).1 = 0) (h2 : (vrightF b).1 ≠ 0) : joinR a b = ((vrightF b).1, []) := by unfold joinR; rw [if_neg (by simpa using h), if_pos h2]
theorem joinR_many {a b : List Ent} (h : (vrightF a).1 = 0) (h2 : (vrightF b).1 = 0) (h3 : 16 < (joinL a b).length) : joinR a b = (4, []) := by unfold joinR; rw [if_neg (by simpa using h), if_neg (by simpa using h2), if_pos h3]
theorem joinR_ok {a b : List Ent} (h : (vrightF a).1 = 0) (h2 : (vrightF b).1 = 0) (h3 : ¬ 16 < (joinL a b).length) : joinR a b = (0, joinL a b) := by unfold joinR; rw [if_neg (by simpa using h), if_neg (by simpa using h2), if_neg h3]

/-- Who covers whom. -/
def covA (a b : List Ent) : Bool := b.all fun e => decide (e.time ≤ ofF a e.rep)
def covB (a b : List Ent) : Bool := decide ((vrightF a).1 = 0) && decide ((vrightF b).1 = 0) && covA a b
theorem covA_iff {a b : List Ent} {x y : Int} (ha : okV x a) (hb : okV y b) : covA a b = true ↔ ∀ z, ofF b z ≤ ofF a z := by
  unfold covA
  rw [List.all_eq_true]
  constructor
  · intro h z
    have h1 := ofF_bd ha z
    have h2 := ofF_bd hb z
    by_cases h0 : ofF b z = 0
    · omega
    · obtain ⟨e, he, rfl, h4⟩ := ofF_has h0
      have := h e he
      simp only [decide_eq_true_eq] at this
      omega
  · intro h e he
    have := h e.rep
    rw [ofF_mem hb he] at this
    simpa using this
theorem covB_iff {a b : List Ent} (ha : rightV a) (hb : rightV b) : covB a b = true ↔ ∀ z, ofF b z ≤ ofF a z := by
  unfold covB
  rw [vright_of ha, vright_of hb, ← covA_iff ha.2 hb.2]; simp

/-- How many there are together. -/
theorem join_count (f g : Nat → Int) (hf : ∀ r, 0 ≤ f r) (hg : ∀ r, 0 ≤ g r) (n : Nat) :
    (tab (fun r => max (f r) (g r)) n).length = (tab f n).length + ((tab g n).filter fun e => decide (f e.rep.toNat = 0)).length := by
  induction n with
  | zero => rfl
  | succ n ih =>
    have h1 := hf n
    have h2 := hg n
    by_cases hF : 0 < f n
    · by_cases hG : 0 < g n
      · rw [tab_yes (f := f) hF, tab_yes (f := g) hG, tab_yes (f := fun r => max (f r) (g r)) (by omega)]
        simp only [List.length_append, List.filter_append, ih]
        have : (List.filter (fun e : Ent => decide (f e.rep.toNat = 0)) [⟨(n : Int), g n⟩]) = [] := by simp; omega
        rw [this]; simp; omega
      · rw [tab_yes (f := f) hF, tab_no (f := g) hG, tab_yes (f := fun r => max (f r) (g r)) (by omega)]
        simp only [List.length_append, ih]; simp; omega
    · have h0 : f n = 0 := by omega
      by_cases hG : 0 < g n
      · rw [tab_no (f := f) hF, tab_yes (f := g) hG, tab_yes (f := fun r => max (f r) (g r)) (by omega)]
        simp only [List.length_append, List.filter_append, ih]
        have : (List.filter (fun e : Ent => decide (f e.rep.toNat = 0)) [⟨(n : Int), g n⟩]) = [⟨(n : Int), g n⟩] := by simp [h0]
        rw [this]; simp; omega
      · rw [tab_no (f := f) hF, tab_no (f := g) hG, tab_no (f := fun r => max (f r) (g r)) (by omega)]
        exact ih
theorem join_len {a b : List Ent} {x y : Int} (ha : okV x a) (hb : okV y b) : (joinL a b).length = a.length + (b.filter fun e => decide (ofF a e.rep = 0)).length := by
  have h := join_count (fun r => ofF a (r : Int)) (fun r => ofF b (r : Int)) (fun r => (ofF_bd ha r).1) (fun r => (ofF_bd hb r).1) 201
  rw [tab_self ha, tab_self hb] at h
  show (tab (jF a b) 201).length = _
  rw [show tab (jF a b) 201 = tab (fun r => max (ofF a (r : Int)) (ofF b (r : Int))) 201 from rfl, h]
  congr 2
  refine List.filter_congr fun e he => ?_
  have := okV_mem hb e he
  rw [show ((e.rep.toNat : Nat) : Int) = e.rep by omega]
end Go.Proofs.YtpmnflnaeknakaaGreatDoor
