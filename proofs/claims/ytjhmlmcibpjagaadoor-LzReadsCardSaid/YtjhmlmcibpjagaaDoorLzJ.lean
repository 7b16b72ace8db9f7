/-
  Chapter 5, plain: tokens one behind the other; how many bytes they are.
-/
import Derived.Test.YtjhmlmcibpjagaaDoorLzM
namespace Go.Proofs.YtjhmlmcibpjagaaDoor

/-- How many bytes tokens make. -/
def sumT : List Tok → Nat
  | [] => 0
  | t :: r => lenT t + sumT r
theorem textL_sum (l : List Tok) (b : List UInt8) : (textL b l).length = b.length + sumT l := by
  induction l generalizing b with
  | nil => rfl
  | cons t r ih => show (textL (stepT b t) r).length = _; rw [ih, stepT_len, sumT]; omega
theorem wrongN_shift {t : Tok} {a c : Nat} (h : wrongN t a = 0) (hl : a + c + lenT t ≤ 20000) : wrongN t (a + c) = 0 := by
  unfold lenT at hl
  rcases wrongN_ok h with ⟨h1, h2, h3, h4⟩ | ⟨h1, h2, h3, h4, h5, h6, h7⟩
  · unfold wrongN; rw [if_neg h1, if_neg (by omega), if_neg (by omega)]
  · unfold wrongN; rw [if_pos h1, if_neg (by omega), if_neg (by omega), if_neg (by omega), if_neg (by omega)]
theorem right_shift {l : List Tok} {i j a c : Nat} (h : (rightF l i a).1 = 0) (hl : a + c + sumT l ≤ 20000) : (rightF l j (a + c)).1 = 0 := by
  induction l generalizing i j a with
  | nil => rfl
  | cons t r ih =>
    rw [sumT] at hl
    obtain ⟨h1, h2⟩ := rightF_head h
    rw [rightF_ok (wrongN_shift h1 (by omega)), show a + c + lenT t = a + lenT t + c by omega]
    exact ih h2 (by omega)
theorem right_app {l m : List Tok} {i j a : Nat} (h : (rightF l i a).1 = 0) (hm : (rightF m j (a + sumT l)).1 = 0) : (rightF (l ++ m) i a).1 = 0 := by
  induction l generalizing i a with
  | nil => exact rightF_place hm
  | cons t r ih =>
    obtain ⟨h1, h2⟩ := rightF_head h
    rw [List.cons_append, rightF_ok h1]
    exact ih h2 (by rw [sumT] at hm; rw [show a + lenT t + sumT r = a + (lenT t + sumT r) by omega]; exact hm)
theorem repL_shift (c : List UInt8) (k n : Nat) : ∀ b : List UInt8, 1 ≤ k → k ≤ b.length → repL (c ++ b) k n = c ++ repL b k n := by
  induction n with
  | zero => intro b _ _; rfl
  | succ n ih =>
    intro b h1 h2
    rw [repL, repL]
    have e : (c ++ b).getD ((c ++ b).length - k) 0 = b.getD (b.length - k) 0 := by
      rw [List.length_append, List.getD_eq_getElem?_getD, List.getD_eq_getElem?_getD, List.getElem?_append_right (by omega)]
      congr 2; omega
    rw [e, List.append_assoc]
    exact ih _ h1 (by simp; omega)
theorem text_shift {l : List Tok} {i : Nat} (c : List UInt8) : ∀ b : List UInt8, (rightF l i b.length).1 = 0 → textL (c ++ b) l = c ++ textL b l := by
  induction l generalizing i with
  | nil => intro b _; rfl
  | cons t r ih =>
    intro b h
    obtain ⟨h1, h2⟩ := rightF_head h
    show textL (stepT (c ++ b) t) r = c ++ textL (stepT b t) r
    have e : stepT (c ++ b) t = c ++ stepT b t := by
      unfold stepT
      rcases wrongN_ok h1 with ⟨k1, k2, k3, k4⟩ | ⟨k1, k2, k3, k4, k5, k6, k7⟩
      · rw [k2]; simp [repL]
      · rw [List.append_assoc]
        exact repL_shift c _ _ _ (by omega) (by rw [List.length_append]; omega)
    rw [e]
    exact ih _ (by rw [stepT_len]; exact h2)
theorem toks_sum (s : List UInt8) (h : s.length ≤ 20000) : sumT (toks s) = s.length := by
  have h1 := textL_sum (toks s) []
  rw [(toks_text s h).2] at h1
  simpa using h1.symm
/-- Tokens of two texts, one behind the other. -/
theorem toks_join (a b : List UInt8) (h : a.length + b.length ≤ 20000) : rightF (toks a ++ toks b) 0 0 = (0, -1) ∧ textL [] (toks a ++ toks b) = a ++ b := by
  have ha := toks_text a (by omega)
  have hb := toks_text b (by omega)
  have sa := toks_sum a (by omega)
  have sb := toks_sum b (by omega)
  have r1 : (rightF (toks a) 0 0).1 = 0 := by rw [ha.1]
  have r2 : (rightF (toks b) 0 0).1 = 0 := by rw [hb.1]
  refine ⟨rightF_any (right_app r1 (j := 0) ?_), ?_⟩
  · rw [sa, Nat.zero_add]
    have := right_shift (j := 0) (c := a.length) r2 (by omega)
    rwa [Nat.zero_add] at this
  · rw [textL_cat, ha.2]
    have := text_shift (i := 0) a [] r2
    rw [List.append_nil] at this
    rw [this, hb.2]

/-- What tokens cost. -/
def cost (l : List Tok) : Nat := (writeL l).length
theorem cost_nil : cost [] = 0 := rfl
theorem cost_cons (t : Tok) (r : List Tok) : cost (t :: r) = (putT t).length + cost r := by unfold cost; rw [writeL_cons, List.length_append]
theorem cost_app (l m : List Tok) : cost (l ++ m) = cost l + cost m := by unfold cost; rw [writeL_app, List.length_append]
def headRep : List Tok → Prop
  | [] => True
  | t :: _ => t.own.size = 0
theorem rep_cost {t : Tok} (h : fine t) (h0 : t.own.size = 0) : 1 ≤ (putT t).length ∧ (putT t).length ≤ 3 ∧ 4 ≤ lenT t := by
  rcases h with ⟨h1, _, _⟩ | ⟨_, h1, h2, h3, h4⟩
  · exact absurd h0 h1
  · refine ⟨putT_pos t, ?_, by unfold lenT; omega⟩
    rw [putT_rep h0, List.length_append]
    have e1 := putL_len 1 (2 * (t.size.toNat - 4) + 1) (by omega) (by omega)
    have e2 := putL_len 2 (t.back.toNat - 1) (by omega) (by omega)
    omega
theorem own_cost {t : Tok} (_h : fine t) (h0 : t.own.size ≠ 0) (hs : t.own.size ≤ 8191) : (putT t).length ≤ lenT t + 2 := by
  rw [putT_own h0, List.length_append, ← size_data]
  have e2 := putL_len 2 (2 * t.own.size) (by omega) (by omega)
  unfold lenT; omega
def reps : List Tok → Nat
  | [] => 0
  | t :: r => (if t.own.size = 0 then 1 else 0) + reps r
theorem cost_alt (l : List Tok) : adj l → (∀ t ∈ l, fine t ∧ t.own.size ≤ 8191) → cost l ≤ sumT l + reps l + 2 ∧ (headRep l → cost l ≤ sumT l + reps l) ∧ 4 * reps l ≤ sumT l := by
  induction l with
  | nil => intro _ _; exact ⟨by rw [cost_nil]; omega, fun _ => by rw [cost_nil]; omega, by unfold reps; omega⟩
  | cons t r ih =>
    intro ha hf
    have hr : adj r := by cases r with
                          | nil => trivial
                          | cons u r => exact ha.2
    obtain ⟨i1, i2, i3⟩ := ih hr (fun u hu => hf u (List.mem_cons_of_mem _ hu))
    obtain ⟨f1, f2⟩ := hf t (List.mem_cons_self ..)
    rw [cost_cons, sumT, reps]
    by_cases h0 : t.own.size = 0
    · obtain ⟨_, c1, c2⟩ := rep_cost f1 h0
      rw [if_pos h0]
      exact ⟨by omega, fun _ => by omega, by omega⟩
    · have c1 := own_cost f1 h0 f2
      rw [if_neg h0]
      have hh : headRep r := by
        cases r with
        | nil => trivial
        | cons u r => exact (ha.1.resolve_left h0)
      have := i2 hh
      exact ⟨by omega, fun h => absurd h h0, by omega⟩
theorem toks_fine (s : List UInt8) (h : s.length ≤ 8191) : ∀ t ∈ toks s, fine t ∧ t.own.size ≤ 8191 := fun t ht => by
  have hr : (rightF (toks s) 0 0).1 = 0 := by rw [(toks_text s (by omega)).1]
  refine ⟨(right_fine hr t ht).1, ?_⟩
  have := tks_own s _ _ _ t ht
  omega
/-- Not much more than it was. -/
theorem small_one (s : List UInt8) (h : s.length ≤ 8191) : cost (toks s) ≤ s.length + 2 + s.length / 4 := by
  obtain ⟨h1, _, h3⟩ := cost_alt (toks s) (tks_adj s _ _ _) (toks_fine s h)
  rw [toks_sum s (by omega)] at h1 h3
  omega

/-- What is not written yet costs. -/
theorem putL_mono {a b : Nat} (h : a ≤ b) : (putL a).length ≤ (putL b).length := by rw [putL_sevens, putL_sevens]; exact sevens_mono b a h
theorem ownT_cost (s : List UInt8) (h : s ≠ []) : cost (ownT s) = (putL (2 * s.length)).length + s.length := by
  have hz : s.length ≠ 0 := fun e => h (List.length_eq_zero_iff.1 e)
  rw [ownT_cons h, cost_cons, cost_nil, putT_own (by simp only [bs_size]; exact hz)]
  simp only [bs_size, List.length_append]
  rfl
theorem ownT_more (s t : List UInt8) (h : s.length < t.length) : cost (ownT s) + 1 ≤ cost (ownT t) := by
  have ht : t ≠ [] := fun e => by rw [e] at h; simp at h
  rw [ownT_cost t ht]
  by_cases hs : s = []
  · rw [hs, ownT_nil, cost_nil]; omega
  · rw [ownT_cost s hs]
    have := putL_mono (a := 2 * s.length) (b := 2 * t.length) (by omega)
    omega
theorem pend_len (s : List UInt8) (fr a : Nat) (h : a ≤ s.length) : ((s.take a).drop fr).length = a - fr := by rw [List.length_drop, List.length_take]; omega
theorem tks_cost (s : List UInt8) : ∀ f fr a, fr ≤ a → a < s.length → s.length ≤ a + f → cost (ownT ((s.take a).drop fr)) + 1 ≤ cost (tks s f fr a) := by
  intro f
  induction f with
  | zero => intro fr a _ h1 h2; omega
  | succ f ih =>
    intro fr a hfr hlt hf
    have hm : cost (ownT ((s.take a).drop fr)) + 1 ≤ cost (ownT ((s.take (a + 1)).drop fr)) := ownT_more _ _ (by rw [pend_len s fr a (by omega), pend_len s fr (a + 1) (by omega)]; omega)
    rcases find_cases s a with ⟨hz, _⟩ | ⟨b, n, hfn, _, hb1, hb2, hb3, hn1, hn2, hn3, hsm, _⟩
    · rw [tks_step hlt (by rw [hz])]
      by_cases h1 : a + 1 < s.length
      · have := ih fr (a + 1) (by omega) h1 (by omega); omega
      · rw [tks_end h1]; exact hm
    · rw [tks_rep hlt hfn (by omega), cost_app, cost_cons]
      have := putT_pos (repT b n)
      omega

/-- A beginning of a text, and the text: what is the same at a place. -/
theorem sm_pre (s r : List UInt8) (a k m m' : Nat) (h : a + m ≤ s.length) (hm : m ≤ m') : sm s a k m = min m (sm (s ++ r) a k m') := by
  have hg : ∀ i, i < s.length → (s ++ r).getD i 0 = s.getD i 0 := fun i hi => by
    rw [List.getD_eq_getElem?_getD, List.getD_eq_getElem?_getD, List.getElem?_append_left hi]
  obtain ⟨c1, c2, c3⟩ := sm_is (s ++ r) a k m'
  refine sm_eq ⟨Nat.min_le_left _ _, fun j hj => ?_, fun hlt => ?_⟩
  · have := c2 j (by omega)
    rwa [hg _ (by omega), hg _ (by omega)] at this
  · have e : min m (sm (s ++ r) a k m') = sm (s ++ r) a k m' := by omega
    rw [e] at hlt ⊢
    have := c3 (by omega)
    rwa [hg _ (by omega), hg _ (by omega)] at this
theorem tks_flush {l : List UInt8} {f fr a b n : Nat} (h : a < l.length) (hf : find l a = (b, n)) (hn : n ≠ 0) : tks l (f + 1) fr a = ownT ((l.take a).drop fr) ++ tks l (f + 1) a a := by
  rw [tks_rep h hf hn, tks_rep h hf hn]
  have : (l.take a).drop a = [] := by apply List.drop_eq_nil_of_le; simp; omega
  rw [this, ownT_nil, List.nil_append]
/-- Twice the same: at whatever place of the second one all that is left was there, so far back as it is long. -/
theorem twice_sm (s : List UInt8) (a m : Nat) (h : s.length ≤ a) (hm : a + m ≤ 2 * s.length) : sm (s ++ s) a s.length m = m := by
  refine sm_eq ⟨Nat.le_refl _, fun j hj => ?_, fun hlt => absurd hlt (Nat.lt_irrefl _)⟩
  rw [List.getD_eq_getElem?_getD, List.getD_eq_getElem?_getD, List.getElem?_append_right (by omega), List.getElem?_append_left (by omega)]
theorem twice_find (s : List UInt8) (a : Nat) (h4 : s.length ≤ 1024) (h : s.length ≤ a) (h0 : 0 < s.length) (hm : a + 4 ≤ 2 * s.length) : ∃ b, find (s ++ s) a = (b, min 67 (2 * s.length - a)) ∧ 1 ≤ b ∧ b ≤ 1024 := by
  have hl : (s ++ s).length = 2 * s.length := by rw [List.length_append]; omega
  have hs := twice_sm s a (min 67 (2 * s.length - a)) h (by omega)
  rcases find_cases (s ++ s) a with ⟨hz, hall⟩ | ⟨b, n, hfn, _, hb1, hb2, hb3, hn1, hn2, hn3, hsm, hall, _⟩
  · have := hall (by omega) s.length (by omega) (by omega)
    rw [hl, hs] at this; omega
  · have := hall s.length (by omega) (by omega)
    rw [hl, hs] at this
    rw [hl] at hn3
    exact ⟨b, by rw [hfn]; congr 1; omega, hb1, hb2⟩
theorem tks_last (l : List UInt8) : ∀ f fr a, fr ≤ a → a ≤ l.length → l.length < a + 4 → l.length ≤ a + f → tks l f fr a = ownT (l.drop fr) := by
  intro f
  have hend : ∀ fr a, a ≤ l.length → l.length ≤ a → ownT ((l.take a).drop fr) = ownT (l.drop fr) := fun fr a h1 h2 => by rw [List.take_of_length_le h2]
  induction f with
  | zero => intro fr a _ h1 _ h3; exact hend fr a h1 (by omega)
  | succ f ih =>
    intro fr a h0 h1 h2 h3
    by_cases hlt : a < l.length
    · rcases find_cases l a with ⟨hz, _⟩ | ⟨b, n, hfn, _, hb1, hb2, hb3, hn1, hn2, hn3, hsm, _⟩
      · rw [tks_step hlt (by rw [hz])]
        exact ih fr (a + 1) (by omega) (by omega) (by omega) (by omega)
      · omega
    · rw [tks_end hlt]
      exact hend fr a h1 (by omega)
theorem twice_tail (s : List UInt8) (h4 : s.length ≤ 1024) : ∀ m f a, m = 2 * s.length - a → s.length ≤ a → a ≤ 2 * s.length → 2 * s.length ≤ a + f → cost (tks (s ++ s) f a a) ≤ 3 * (m / 67) + 4 := by
  have hl : (s ++ s).length = 2 * s.length := by rw [List.length_append]; omega
  intro m
  induction m using Nat.strongRecOn with
  | ind m ih =>
    intro f a hm h1 h2 h3
    by_cases h4m : m < 4
    · rw [tks_last (s ++ s) f a a (Nat.le_refl _) (by omega) (by omega) (by omega)]
      by_cases hz : (s ++ s).drop a = []
      · rw [hz, ownT_nil, cost_nil]; omega
      · rw [ownT_cost _ hz, List.length_drop, hl, ← hm]
        have := putL_len 1 (2 * m) (by omega) (by omega)
        omega
    · obtain ⟨b, hfn, hb1, hb2⟩ := twice_find s a h4 h1 (by omega) (by omega)
      cases f with
      | zero => omega
      | succ f =>
        rw [tks_rep (by omega) hfn (by omega), cost_app, cost_cons]
        have hz : ((s ++ s).take a).drop a = [] := by apply List.drop_eq_nil_of_le; simp; omega
        rw [hz, ownT_nil, cost_nil]
        have hc := (rep_cost (t := repT b (min 67 (2 * s.length - a))) (.inr ⟨rfl, by unfold repT; simp only; omega, by unfold repT; simp only; omega, by unfold repT; simp only; omega, by unfold repT; simp only; omega⟩) rfl).2.1
        by_cases hb : 67 ≤ m
        · have e : min 67 (2 * s.length - a) = 67 := by omega
          rw [e] at hc ⊢
          have := ih (m - 67) (by omega) f (a + 67) (by omega) (by omega) (by omega) (by omega)
          omega
        · have e : a + min 67 (2 * s.length - a) = 2 * s.length := by omega
          rw [e, tks_end (by omega)]
          have hz2 : ((s ++ s).take (2 * s.length)).drop (2 * s.length) = [] := by apply List.drop_eq_nil_of_le; simp; omega
          rw [hz2, ownT_nil, cost_nil]
          omega
theorem twice_cost (s : List UInt8) (h4 : s.length ≤ 1024) (h8 : 8 ≤ s.length) : ∀ f g fr a, fr ≤ a → a ≤ s.length → s.length ≤ a + f → 2 * s.length ≤ a + g → cost (tks (s ++ s) g fr a) ≤ cost (tks s f fr a) + 6 + 3 * (s.length / 67) := by
  have hl : (s ++ s).length = 2 * s.length := by rw [List.length_append]; omega
  have hp : ∀ fr a, a ≤ s.length → ((s ++ s).take a).drop fr = (s.take a).drop fr := fun fr a h => by rw [List.take_append_of_le_length h]
  intro f
  induction f with
  | zero =>
    intro g fr a hfr ha hf hg
    obtain rfl : a = s.length := by omega
    obtain ⟨b, hfn, hb1, hb2⟩ := twice_find s s.length h4 (Nat.le_refl _) (by omega) (by omega)
    cases g with
    | zero => omega
    | succ g =>
      rw [tks_flush (by omega) hfn (by omega), cost_app, hp _ _ (Nat.le_refl _), tks_end (l := s) (Nat.lt_irrefl _)]
      have := twice_tail s h4 (2 * s.length - s.length) (g + 1) s.length rfl (Nat.le_refl _) (by omega) (by omega)
      rw [show 2 * s.length - s.length = s.length by omega] at this
      omega
  | succ f ih =>
    intro g fr a hfr ha hf hg
    by_cases hlt : a < s.length
    · cases g with
      | zero => omega
      | succ g =>
        have hpre : ∀ k, sm s a k (min 67 (s.length - a)) = min (min 67 (s.length - a)) (sm (s ++ s) a k (min 67 ((s ++ s).length - a))) := fun k => sm_pre s s a k _ _ (by omega) (by omega)
        rcases find_cases (s ++ s) a with ⟨hz, hall⟩ | ⟨b, n, hfn, _, hb1, hb2, hb3, hn1, hn2, hn3, hsm, hall, hnear⟩
        · have hz2 : find s a = (0, 0) := by
            rw [find_in hlt]
            refine best_eq (.inl ⟨rfl, rfl, fun k k1 k2 => ?_⟩)
            have := hall (by omega) k k1 k2
            rw [hpre k]; omega
          rw [tks_step (by omega) (by rw [hz]), tks_step hlt (by rw [hz2])]
          exact ih g fr (a + 1) (by omega) (by omega) (by omega) (by omega)
        · have hn : n = sm (s ++ s) a b (min 67 ((s ++ s).length - a)) := (sm_eq hsm).symm
          rw [tks_rep (by omega) hfn (by omega), cost_app, cost_cons, hp _ _ (by omega)]
          have hc := (rep_cost (t := repT b n) (.inr ⟨rfl, by unfold repT; simp only; omega, by unfold repT; simp only; omega, by unfold repT; simp only; omega, by unfold repT; simp only; omega⟩) rfl).2.1
          by_cases hcr : a + n ≤ s.length
          · have hs : find s a = (b, n) := by
              rw [find_in hlt]
              refine best_eq (.inr ⟨hb1, by omega, hn1, ?_, fun k k1 k2 => ?_, fun k k1 k2 => ?_⟩)
              · rw [hpre b, ← hn]; omega
              · have := hall k k1 k2; rw [hpre k]; omega
              · have := hnear k k1 k2; rw [hpre k]; omega
            rw [tks_rep hlt hs (by omega), cost_app, cost_cons]
            have := ih g (a + n) (a + n) (Nat.le_refl _) hcr (by omega) (by omega)
            omega
          · have h1 := tks_cost s (f + 1) fr a hfr hlt hf
            have h2 := twice_tail s h4 (2 * s.length - (a + n)) g (a + n) rfl (by omega) (by omega) (by omega)
            have h3 : (2 * s.length - (a + n)) / 67 ≤ s.length / 67 := Nat.div_le_div_right (by omega)
            omega
    · obtain rfl : a = s.length := by omega
      obtain ⟨b, hfn, hb1, hb2⟩ := twice_find s s.length h4 (Nat.le_refl _) (by omega) (by omega)
      cases g with
      | zero => omega
      | succ g =>
        rw [tks_flush (by omega) hfn (by omega), cost_app, hp _ _ (Nat.le_refl _), tks_end (l := s) (Nat.lt_irrefl _)]
        have := twice_tail s h4 (2 * s.length - s.length) (g + 1) s.length rfl (Nat.le_refl _) (by omega) (by omega)
        rw [show 2 * s.length - s.length = s.length by omega] at this
        omega
/-- What is there twice has hardly more than once. -/
theorem small_two (s : List UInt8) (h4 : s.length ≤ 1024) (h8 : 8 ≤ s.length) : cost (toks (s ++ s)) ≤ cost (toks s) + 3 + 3 * (s.length / 67 + 1) := by
  have := twice_cost s h4 h8 s.length (s ++ s).length 0 0 (Nat.le_refl _) (Nat.zero_le _) (by omega) (by rw [List.length_append]; omega)
  unfold toks; omega
end Go.Proofs.YtjhmlmcibpjagaaDoor
