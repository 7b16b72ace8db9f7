/-
  Chapter 6, plain: a vector's runs, as bytes, and back.
-/
import Derived.Test.YtiipnifnejnhlaaDoorVecM
import Derived.Test.YtiipnifnejnhlaaDoorNum
namespace Go.Proofs.YtiipnifnejnhlaaDoor

/-- Replicas beside each other, from so much on. -/
def consec : Int → List Ent → Prop
  | _, [] => True
  | r, e :: t => e.rep = r ∧ consec (r + 1) t
theorem consec_snoc {l : List Ent} {e : Ent} : ∀ {r : Int}, consec r l → e.rep = r + l.length → consec r (l ++ [e]) := by
  induction l with
  | nil => intro r _ h; exact ⟨by simpa using h, trivial⟩
  | cons d t ih => intro r h he; exact ⟨h.1, ih h.2 (by rw [he, List.length_cons]; omega)⟩
theorem consec_head {l : List Ent} {r : Int} (h : consec r l) (h0 : l ≠ []) : (l.headD ⟨0, 0⟩).rep = r := by
  cases l with
  | nil => exact absurd rfl h0
  | cons e t => exact h.1
theorem consec_last {l : List Ent} : ∀ {r : Int}, consec r l → l ≠ [] → (l.getLastD ⟨0, 0⟩).rep = r + l.length - 1 := by
  induction l with
  | nil => intro r _ h0; exact absurd rfl h0
  | cons e t ih =>
    intro r h _
    cases t with
    | nil => have := h.1; simp; omega
    | cons d u =>
      have h3 := ih h.2 (by simp)
      rw [List.getLastD_cons] at h3 ⊢
      rw [List.getLastD_cons]
      simp only [List.length_cons] at h3 ⊢
      omega
theorem consec_one {l m : List Ent} : ∀ {r : Int}, consec r l → consec r m → l.map Ent.time = m.map Ent.time → l = m := by
  induction l generalizing m with
  | nil => intro r _ _ h; cases m with
    | nil => rfl
    | cons e t => cases h
  | cons e t ih =>
    intro r h1 h2 h
    cases m with
    | nil => cases h
    | cons d u =>
      simp only [List.map_cons, List.cons.injEq] at h
      have e1 := h1.1
      have e2 := h2.1
      have := ih h1.2 h2.2 h.2
      subst this
      congr 1
      cases e; cases d; simp_all

/-- So many runs, the first one's first replica being so much at least. -/
def isRuns : Int → List (List Ent) → Prop
  | _, [] => True
  | least, run :: rs => run ≠ [] ∧ least ≤ (run.headD ⟨0, 0⟩).rep ∧ consec (run.headD ⟨0, 0⟩).rep run ∧ isRuns ((run.getLastD ⟨0, 0⟩).rep + 2) rs

/-- The runs of a vector, those of the one at hand ahead. -/
def cutA : List Ent → List Ent → List (List Ent)
  | _, [] => []
  | cur, [e] => [cur ++ [e]]
  | cur, e :: d :: r => if e.rep + 1 < d.rep then (cur ++ [e]) :: cutA [] (d :: r) else cutA (cur ++ [e]) (d :: r)
def runsL (l : List Ent) : List (List Ent) := cutA [] l
theorem cutA_one (cur : List Ent) (e : Ent) : cutA cur [e] = [cur ++ [e]] := rfl
theorem cutA_cut {cur r : List Ent} {e d : Ent} (h : e.rep + 1 < d.rep) : cutA cur (e :: d :: r) = (cur ++ [e]) :: cutA [] (d :: r) := by rw [cutA, if_pos h]
theorem cutA_on {cur r : List Ent} {e d : Ent} (h : ¬ e.rep + 1 < d.rep) : cutA cur (e :: d :: r) = cutA (cur ++ [e]) (d :: r) := by rw [cutA, if_neg h]

theorem headD_app {l : List Ent} (m : List Ent) (h : l ≠ []) (d : Ent) : (l ++ m).headD d = l.headD d := by
  cases l with
  | nil => exact absurd rfl h
  | cons e t => rfl
theorem getLastD_snoc (l : List Ent) (e d : Ent) : (l ++ [e]).getLastD d = e := by
  simp
/-- What is cut is runs, and all. -/
theorem cutA_is (r : List Ent) : ∀ (cur : List Ent) (e : Ent) (least last : Int), okV last (e :: r) → (cur = [] → least ≤ e.rep) → (cur ≠ [] → least ≤ (cur.headD ⟨0, 0⟩).rep ∧ consec (cur.headD ⟨0, 0⟩).rep cur ∧ e.rep = (cur.headD ⟨0, 0⟩).rep + cur.length) →
    isRuns least (cutA cur (e :: r)) ∧ (cutA cur (e :: r)).flatten = cur ++ e :: r := by
  induction r with
  | nil =>
    intro cur e least last h h0 h1
    rw [cutA_one]
    refine ⟨⟨by simp, ?_, ?_, trivial⟩, by simp⟩
    · by_cases hc : cur = []
      · subst hc; exact h0 rfl
      · rw [headD_app _ hc]; exact (h1 hc).1
    · by_cases hc : cur = []
      · subst hc; exact ⟨rfl, trivial⟩
      · rw [headD_app _ hc]; exact consec_snoc (h1 hc).2.1 (h1 hc).2.2
  | cons d r ih =>
    intro cur e least last h h0 h1
    have hd := h.2.1
    rw [wrE_ok] at hd
    have hcons : consec ((cur ++ [e]).headD ⟨0, 0⟩).rep (cur ++ [e]) := by
      by_cases hc : cur = []
      · subst hc; exact ⟨rfl, trivial⟩
      · rw [headD_app _ hc]; exact consec_snoc (h1 hc).2.1 (h1 hc).2.2
    have hlow : least ≤ ((cur ++ [e]).headD ⟨0, 0⟩).rep := by
      by_cases hc : cur = []
      · subst hc; exact h0 rfl
      · rw [headD_app _ hc]; exact (h1 hc).1
    by_cases hg : e.rep + 1 < d.rep
    · rw [cutA_cut hg]
      obtain ⟨i1, i2⟩ := ih [] d (e.rep + 2) e.rep h.2 (fun _ => by omega) (fun hn => absurd rfl hn)
      refine ⟨⟨by simp, hlow, hcons, ?_⟩, ?_⟩
      · rw [getLastD_snoc]; exact i1
      · rw [List.flatten_cons, i2]; simp
    · rw [cutA_on hg]
      obtain ⟨i1, i2⟩ := ih (cur ++ [e]) d least e.rep h.2 (fun hn => absurd hn (by simp)) (fun _ => ⟨hlow, hcons, by
        have := consec_last hcons (by simp)
        rw [getLastD_snoc] at this
        omega⟩)
      exact ⟨i1, by rw [i2]; simp⟩
theorem runs_is {l : List Ent} (h : okV (-1) l) : isRuns 0 (runsL l) ∧ (runsL l).flatten = l := by
  cases l with
  | nil => exact ⟨trivial, rfl⟩
  | cons e r =>
    have := h.1
    rw [wrE_ok] at this
    have h2 := cutA_is r [] e 0 (-1) h (fun _ => by omega) (fun hn => absurd rfl hn)
    exact h2
/-- Runs are cut as they are. -/
theorem cutA_run (run : List Ent) : ∀ (cur : List Ent) (r : Int) (rest : List Ent), consec r run → run ≠ [] → (∀ e t, rest = e :: t → (run.getLastD ⟨0, 0⟩).rep + 1 < e.rep) →
    cutA cur (run ++ rest) = (cur ++ run) :: cutA [] rest := by
  induction run with
  | nil => intro _ _ _ _ h; exact absurd rfl h
  | cons e t ih =>
    intro cur r rest h _ hr
    cases t with
    | nil =>
      cases rest with
      | nil => rfl
      | cons d u =>
        have := hr d u rfl
        exact cutA_cut (by simpa using this)
    | cons d u =>
      have e1 := h.1
      have e2 := h.2.1
      show cutA cur (e :: d :: (u ++ rest)) = _
      rw [cutA_on (by omega)]
      have := ih (cur ++ [e]) (r + 1) rest h.2 (by simp) (fun x y hx => by
        have := hr x y hx
        rw [List.getLastD_cons, List.getLastD_cons] at this
        rw [List.getLastD_cons]
        exact this)
      rw [show d :: (u ++ rest) = (d :: u) ++ rest from rfl, this]
      simp
theorem runs_of {R : List (List Ent)} : ∀ {least : Int}, isRuns least R → runsL R.flatten = R := by
  induction R with
  | nil => intro _ _; rfl
  | cons run rs ih =>
    intro least h
    obtain ⟨h1, h2, h3, h4⟩ := h
    unfold runsL
    rw [List.flatten_cons, cutA_run run [] _ _ h3 h1]
    · have := ih h4
      unfold runsL at this
      rw [this]; rfl
    · intro e t he
      cases rs with
      | nil => cases he
      | cons run2 rs2 =>
        obtain ⟨g1, g2, g3, _⟩ := h4
        rw [List.flatten_cons] at he
        cases run2 with
        | nil => exact absurd rfl g1
        | cons d u =>
          simp only [List.cons_append, List.cons.injEq] at he
          obtain ⟨rfl, _⟩ := he
          simp only [List.headD_cons] at g2
          omega

/-- As bytes. -/
def timesB (l : List Ent) : List UInt8 := l.flatMap fun e => putL e.time.toNat
def runB (least : Int) (run : List Ent) : List UInt8 := putL ((run.headD ⟨0, 0⟩).rep - least).toNat ++ putL (run.length - 1) ++ timesB run
def runsB : Int → List (List Ent) → List UInt8
  | _, [] => []
  | least, run :: rs => runB least run ++ runsB ((run.getLastD ⟨0, 0⟩).rep + 2) rs
def vwriteL (l : List Ent) : List UInt8 := putL (runsL l).length ++ runsB 0 (runsL l)
def vwriteF (l : List Ent) : List UInt8 := if (vrightF l).1 = 0 then vwriteL l else []
theorem timesB_cons (e : Ent) (l : List Ent) : timesB (e :: l) = putL e.time.toNat ++ timesB l := by simp [timesB]
theorem timesB_app (a b : List Ent) : timesB (a ++ b) = timesB a ++ timesB b := by simp [timesB]





end Go.Proofs.YtiipnifnejnhlaaDoor
