/-
  Chapter 4, plain: repetitions and the best one, on lists of bytes.
-/
import Derived.WalkKit
namespace Go.Proofs.YtjhmlmcibpjagaaDoor

/-- How many of so many bytes from a place on are those so far ahead of them. -/
def smC (l : List UInt8) (a b m n : Nat) : Prop :=
  n ≤ m ∧ (∀ j, j < n → l.getD (a + j) 0 = l.getD (a + j - b) 0) ∧ (n < m → l.getD (a + n) 0 ≠ l.getD (a + n - b) 0)
def sm (l : List UInt8) (a b : Nat) : Nat → Nat
  | 0 => 0
  | m + 1 => if sm l a b m < m then sm l a b m else if l.getD (a + m) 0 = l.getD (a + m - b) 0 then m + 1 else m
theorem sm_is (l : List UInt8) (a b m : Nat) : smC l a b m (sm l a b m) := by
  induction m with
  | zero => exact ⟨Nat.le_refl _, fun j h => by simp [sm] at h, fun h => by simp [sm] at h⟩
  | succ m ih =>
    obtain ⟨h1, h2, h3⟩ := ih
    rw [sm]
    by_cases h : sm l a b m < m
    · rw [if_pos h]
      exact ⟨by omega, h2, fun _ => h3 h⟩
    · rw [if_neg h]
      have e : sm l a b m = m := by omega
      rw [e] at h2
      by_cases hq : l.getD (a + m) 0 = l.getD (a + m - b) 0
      · rw [if_pos hq]
        refine ⟨Nat.le_refl _, fun j hj => ?_, fun hj => absurd hj (Nat.lt_irrefl _)⟩
        by_cases hjm : j = m
        · subst hjm; exact hq
        · exact h2 j (by omega)
      · rw [if_neg hq]
        exact ⟨by omega, h2, fun _ => hq⟩
theorem smC_one {l : List UInt8} {a b m n n' : Nat} (h : smC l a b m n) (h' : smC l a b m n') : n = n' := by
  obtain ⟨h1, h2, h3⟩ := h
  obtain ⟨k1, k2, k3⟩ := h'
  rcases Nat.lt_trichotomy n n' with hl | hl | hl
  · exact absurd (k2 n hl) (h3 (by omega))
  · exact hl
  · exact absurd (h2 n' hl) (k3 (by omega))
theorem sm_eq {l : List UInt8} {a b m n : Nat} (h : smC l a b m n) : sm l a b m = n := smC_one (sm_is l a b m) h
theorem sm_le (l : List UInt8) (a b m : Nat) : sm l a b m ≤ m := (sm_is l a b m).1

/-- The best of the repetitions from so far back to so far back. -/
def bestC (l : List UInt8) (a m lo hi b n : Nat) : Prop :=
  (b = 0 ∧ n = 0 ∧ ∀ k, lo ≤ k → k ≤ hi → sm l a k m < 4) ∨
  (lo ≤ b ∧ b ≤ hi ∧ 4 ≤ n ∧ n = sm l a b m ∧ (∀ k, lo ≤ k → k ≤ hi → sm l a k m ≤ n) ∧ ∀ k, lo ≤ k → k < b → sm l a k m < n)
theorem bestC_one {l : List UInt8} {a m lo hi b n b' n' : Nat} (h : bestC l a m lo hi b n) (h' : bestC l a m lo hi b' n') : b = b' ∧ n = n' := by
  rcases h with ⟨h1, h2, h3⟩ | ⟨h1, h2, h3, h4, h5, h6⟩
  · rcases h' with ⟨k1, k2, k3⟩ | ⟨k1, k2, k3, k4, k5, k6⟩
    · exact ⟨by omega, by omega⟩
    · have := h3 b' k1 k2; omega
  · rcases h' with ⟨k1, k2, k3⟩ | ⟨k1, k2, k3, k4, k5, k6⟩
    · have := k3 b h1 h2; omega
    · have e1 := h5 b' k1 k2
      have e2 := k5 b h1 h2
      refine ⟨?_, by omega⟩
      rcases Nat.lt_trichotomy b b' with hl | hl | hl
      · have := k6 b h1 hl; omega
      · exact hl
      · have := h6 b' k1 hl; omega
/-- One farther back that is longer. -/
theorem bestC_far {l : List UInt8} {a m lo hi b n : Nat} (h : bestC l a m lo hi b n) (hlo : lo ≤ hi + 1) (h4 : 4 ≤ sm l a (hi + 1) m) (hn : n < sm l a (hi + 1) m) : bestC l a m lo (hi + 1) (hi + 1) (sm l a (hi + 1) m) := by
  have hall : ∀ k, lo ≤ k → k < hi + 1 → sm l a k m < sm l a (hi + 1) m := fun k h1 h2 => by
    rcases h with ⟨i1, i2, i3⟩ | ⟨i1, i2, i3, i4, i5, i6⟩
    · have := i3 k h1 (by omega); omega
    · have := i5 k h1 (by omega); omega
  refine .inr ⟨hlo, Nat.le_refl _, h4, rfl, fun k h1 h2 => ?_, fun k h1 h2 => hall k h1 h2⟩
  by_cases e : k = hi + 1
  · subst e; exact Nat.le_refl _
  · exact Nat.le_of_lt (hall k h1 (by omega))
/-- One farther back that is not. -/
theorem bestC_farnot {l : List UInt8} {a m lo hi b n : Nat} (h : bestC l a m lo hi b n) (hn : ¬ (4 ≤ sm l a (hi + 1) m ∧ n < sm l a (hi + 1) m)) : bestC l a m lo (hi + 1) b n := by
  rcases h with ⟨i1, i2, i3⟩ | ⟨i1, i2, i3, i4, i5, i6⟩
  · refine .inl ⟨i1, i2, fun k h1 h2 => ?_⟩
    by_cases e : k = hi + 1
    · subst e; omega
    · exact i3 k h1 (by omega)
  · refine .inr ⟨i1, by omega, i3, i4, fun k h1 h2 => ?_, i6⟩
    by_cases e : k = hi + 1
    · subst e; omega
    · exact i5 k h1 (by omega)
/-- One as long as may be: nothing farther back is better. -/
theorem bestC_full {l : List UInt8} {a m lo hi b n hi' : Nat} (h : bestC l a m lo hi b n) (hn : n = m) (hm : 0 < m) (hh : hi ≤ hi') : bestC l a m lo hi' b n := by
  rcases h with ⟨i1, i2, i3⟩ | ⟨i1, i2, i3, i4, i5, i6⟩
  · omega
  · exact .inr ⟨i1, by omega, i3, i4, fun k h1 h2 => by rw [hn]; exact sm_le _ _ _ _, i6⟩
/-- One nearer that is as long. -/
theorem bestC_near {l : List UInt8} {a m lo hi b n : Nat} (h : bestC l a m (lo + 1) hi b n) (hlo : lo ≤ hi) (h4 : 4 ≤ sm l a lo m) (hn : n ≤ sm l a lo m) : bestC l a m lo hi lo (sm l a lo m) := by
  refine .inr ⟨Nat.le_refl _, hlo, h4, rfl, fun k h1 h2 => ?_, fun k h1 h2 => by omega⟩
  by_cases e : k = lo
  · subst e; exact Nat.le_refl _
  · rcases h with ⟨i1, i2, i3⟩ | ⟨i1, i2, i3, i4, i5, i6⟩
    · have := i3 k (by omega) h2; omega
    · have := i5 k (by omega) h2; omega
theorem bestC_nearnot {l : List UInt8} {a m lo hi b n : Nat} (h : bestC l a m (lo + 1) hi b n) (hn : ¬ (n ≤ sm l a lo m ∧ 4 ≤ sm l a lo m)) : bestC l a m lo hi b n := by
  rcases h with ⟨i1, i2, i3⟩ | ⟨i1, i2, i3, i4, i5, i6⟩
  · refine .inl ⟨i1, i2, fun k h1 h2 => ?_⟩
    by_cases e : k = lo
    · subst e; omega
    · exact i3 k (by omega) h2
  · refine .inr ⟨by omega, i2, i3, i4, fun k h1 h2 => ?_, fun k h1 h2 => ?_⟩
    · by_cases e : k = lo
      · subst e; omega
      · exact i5 k (by omega) h2
    · by_cases e : k = lo
      · subst e; omega
      · exact i6 k (by omega) h2

/-- From the nearest on. -/
def best (l : List UInt8) (a m : Nat) : Nat → Nat × Nat
  | 0 => (0, 0)
  | k + 1 => if 4 ≤ sm l a (k + 1) m ∧ (best l a m k).2 < sm l a (k + 1) m then (k + 1, sm l a (k + 1) m) else best l a m k
theorem best_is (l : List UInt8) (a m k : Nat) : bestC l a m 1 k (best l a m k).1 (best l a m k).2 := by
  induction k with
  | zero => exact .inl ⟨rfl, rfl, fun k h1 h2 => by omega⟩
  | succ k ih =>
    rw [best]
    by_cases h : 4 ≤ sm l a (k + 1) m ∧ (best l a m k).2 < sm l a (k + 1) m
    · rw [if_pos h]
      exact bestC_far ih (by omega) h.1 h.2
    · rw [if_neg h]
      exact bestC_farnot ih h
theorem best_eq {l : List UInt8} {a m k b n : Nat} (h : bestC l a m 1 k b n) : best l a m k = (b, n) := by
  obtain ⟨h1, h2⟩ := bestC_one (best_is l a m k) h
  exact Prod.ext h1 h2

/-- What Find answers at a place of a text. -/
def find (l : List UInt8) (a : Nat) : Nat × Nat := if a < l.length then best l a (min 67 (l.length - a)) (min 1024 a) else (0, 0)
theorem find_in {l : List UInt8} {a : Nat} (h : a < l.length) : find l a = best l a (min 67 (l.length - a)) (min 1024 a) := by unfold find; rw [if_pos h]
theorem find_out {l : List UInt8} {a : Nat} (h : ¬ a < l.length) : find l a = (0, 0) := by unfold find; rw [if_neg h]
theorem find_cases (l : List UInt8) (a : Nat) : (find l a = (0, 0) ∧ (a < l.length → ∀ k, 1 ≤ k → k ≤ min 1024 a → sm l a k (min 67 (l.length - a)) < 4)) ∨
    ∃ b n, find l a = (b, n) ∧ a < l.length ∧ 1 ≤ b ∧ b ≤ 1024 ∧ b ≤ a ∧ 4 ≤ n ∧ n ≤ 67 ∧ a + n ≤ l.length ∧ smC l a b (min 67 (l.length - a)) n ∧
      (∀ k, 1 ≤ k → k ≤ min 1024 a → sm l a k (min 67 (l.length - a)) ≤ n) ∧ ∀ k, 1 ≤ k → k < b → sm l a k (min 67 (l.length - a)) < n := by
  by_cases h : a < l.length
  · rw [find_in h]
    obtain ⟨b, n, e⟩ : ∃ b n, best l a (min 67 (l.length - a)) (min 1024 a) = (b, n) := ⟨_, _, rfl⟩
    have hb := best_is l a (min 67 (l.length - a)) (min 1024 a)
    rw [e] at hb
    rw [e]
    rcases hb with ⟨h1, h2, h3⟩ | ⟨h1, h2, h3, h4, h5, h6⟩
    · simp only at h1 h2
      subst h1 h2
      exact .inl ⟨rfl, fun _ => h3⟩
    · simp only at h1 h2 h3 h4 h5 h6
      have hi := sm_is l a b (min 67 (l.length - a))
      rw [← h4] at hi
      have := hi.1
      exact .inr ⟨b, n, rfl, h, h1, by omega, by omega, h3, by omega, by omega, hi, h5, h6⟩
  · exact .inl ⟨find_out h, fun h' => absurd h' h⟩

/-- A token: a text of its own, how far back, how many bytes. -/
structure Tok where
  own : ByteArray
  back : Int
  size : Int
deriving DecidableEq

def ownT (s : List UInt8) : List Tok := if s = [] then [] else [⟨⟨s.toArray⟩, 0, 0⟩]
def repT (b n : Nat) : Tok := ⟨⟨#[]⟩, b, n⟩
theorem ownT_nil : ownT [] = [] := rfl
theorem ownT_cons {s : List UInt8} (h : s ≠ []) : ownT s = [⟨⟨s.toArray⟩, 0, 0⟩] := by unfold ownT; rw [if_neg h]

/-- The tokens from a place on; from another one on bytes that are not written yet. -/
def tks (l : List UInt8) : Nat → Nat → Nat → List Tok
  | 0, fr, a => ownT ((l.take a).drop fr)
  | f + 1, fr, a =>
    if a < l.length then
      if (find l a).2 = 0 then tks l f fr (a + 1)
      else ownT ((l.take a).drop fr) ++ repT (find l a).1 (find l a).2 :: tks l f (a + (find l a).2) (a + (find l a).2)
    else ownT ((l.take a).drop fr)
/-- A text's tokens. -/
def toks (l : List UInt8) : List Tok := tks l l.length 0 0
theorem tks_end {l : List UInt8} {f fr a : Nat} (h : ¬ a < l.length) : tks l f fr a = ownT ((l.take a).drop fr) := by
  cases f with
  | zero => rfl
  | succ f => rw [tks, if_neg h]
theorem tks_step {l : List UInt8} {f fr a : Nat} (h : a < l.length) (hf : (find l a).2 = 0) : tks l (f + 1) fr a = tks l f fr (a + 1) := by
  rw [tks, if_pos h, if_pos hf]
theorem tks_rep {l : List UInt8} {f fr a b n : Nat} (h : a < l.length) (hf : find l a = (b, n)) (hn : n ≠ 0) : tks l (f + 1) fr a = ownT ((l.take a).drop fr) ++ repT b n :: tks l f (a + n) (a + n) := by
  rw [tks, if_pos h, hf, if_neg hn]
end Go.Proofs.YtjhmlmcibpjagaaDoor
