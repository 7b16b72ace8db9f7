/-
  Chapter 4, plain: the tokens of a byte so often.
-/
import Derived.Test.YtoimmdkfgepdeaaMatchM
import Derived.Test.YtoimmdkfgepdeaaStr
import Derived.Lib.Repeat
namespace Go.Proofs.Ytoimmdkfgepdeaa

theorem rep_getD (c : UInt8) (n j : Nat) (h : j < n) : (List.replicate n c).getD j 0 = c := by simp [h]
theorem rep_sm (c : UInt8) (n a k m : Nat) (hk : 1 ≤ k) (hka : k ≤ a) (hm : a + m ≤ n) : sm (List.replicate n c) a k m = m :=
  sm_eq ⟨Nat.le_refl _, fun j hj => by rw [rep_getD _ _ _ (by omega), rep_getD _ _ _ (by omega)], fun h => absurd h (Nat.lt_irrefl _)⟩
theorem rep_few (c : UInt8) (n a : Nat) (h : n < a + 4 ∨ a = 0) : find (List.replicate n c) a = (0, 0) := by
  rcases find_cases (List.replicate n c) a with ⟨h1, _⟩ | ⟨b, z, _, _, h1, _, h2, h3, _, h4, _⟩
  · exact h1
  · rw [List.length_replicate] at h4; omega
theorem rep_find (c : UInt8) (n a : Nat) (ha : 1 ≤ a) (h : a + 4 ≤ n) : find (List.replicate n c) a = (1, min 67 (n - a)) := by
  have hs := rep_sm c n a 1 (min 67 (n - a)) (by omega) ha (by omega)
  rcases find_cases (List.replicate n c) a with ⟨_, h2⟩ | ⟨b, z, h1, _, hb, _, hba, hz, _, _, hsm, _, hlt⟩
  · have := h2 (by rw [List.length_replicate]; omega) 1 (Nat.le_refl _) (by omega)
    rw [List.length_replicate, hs] at this; omega
  · rw [List.length_replicate] at hsm hlt
    have e : z = min 67 (n - a) := by rw [← sm_eq hsm]; exact rep_sm c n a b _ hb hba (by omega)
    have e1 : b = 1 := by
      rcases Nat.lt_or_ge 1 b with h3 | h3
      · have := hlt 1 (Nat.le_refl _) h3
        rw [hs] at this; omega
      · omega
    rw [h1, e, e1]
/-- Few bytes that are left are of its own. -/
theorem rep_rest (c : UInt8) (n : Nat) : ∀ f fr a, n < a + 4 ∨ (a = 0 ∧ n < 5) → a ≤ n → n ≤ a + f → tks (List.replicate n c) f fr a = ownT ((List.replicate n c).drop fr) := by
  intro f
  have hend : ∀ fr a, a = n → ownT (((List.replicate n c).take a).drop fr) = ownT ((List.replicate n c).drop fr) := fun fr a h => by
    rw [h, List.take_of_length_le (by simp)]
  induction f with
  | zero => intro fr a h1 h2 h3; exact hend _ _ (by omega)
  | succ f ih =>
    intro fr a h1 h2 h3
    by_cases hlt : a < n
    · rw [tks_step (by simpa using hlt) (by rw [rep_few c n a (by omega)])]
      exact ih fr (a + 1) (by omega) (by omega) (by omega)
    · rw [tks_end (by simpa using hlt)]
      exact hend _ _ (by omega)
/-- How many tokens the bytes that are left make. -/
theorem rep_tail (c : UInt8) (n : Nat) : ∀ f a, 1 ≤ a → a ≤ n → n ≤ a + f → (tks (List.replicate n c) f a a).length = (n - a) / 67 + (if (n - a) % 67 = 0 then 0 else 1) := by
  intro f
  induction f with
  | zero =>
    intro a h1 h2 h3
    have e : n - a = 0 := by omega
    have e2 : n = a := by omega
    subst e2
    rw [e]
    show (ownT (((List.replicate n c).take n).drop n)).length = _
    rw [List.take_of_length_le (by simp), List.drop_of_length_le (by simp)]
    rfl
  | succ f ih =>
    intro a h1 h2 h3
    by_cases h4 : n < a + 4
    · rw [rep_rest c n (f + 1) a a (.inl h4) h2 h3]
      by_cases h0 : n = a
      · subst h0
        rw [List.drop_of_length_le (by simp), Nat.sub_self]; rfl
      · have hne : (List.replicate n c).drop a ≠ [] := by
          intro e
          have := congrArg List.length e
          rw [List.length_drop, List.length_replicate] at this
          simp at this; omega
        rw [ownT_cons hne, if_neg (by omega), show (n - a) / 67 = 0 by omega]; rfl
    · have hfn := rep_find c n a h1 (by omega)
      rw [tks_rep (by rw [List.length_replicate]; omega) hfn (by omega)]
      have he : ((List.replicate n c).take a).drop a = [] := by apply List.drop_eq_nil_of_le; rw [List.length_take]; omega
      rw [he, ownT_nil, List.nil_append, List.length_cons, ih _ (by omega) (by omega) (by omega)]
      by_cases h67 : 67 ≤ n - a
      · rw [Nat.min_eq_left h67, show n - (a + 67) = n - a - 67 by omega]
        have e1 : (n - a) / 67 = (n - a - 67) / 67 + 1 := by omega
        have e2 : (n - a) % 67 = (n - a - 67) % 67 := by omega
        rw [e1, e2]; omega
      · rw [Nat.min_eq_right (by omega), show n - (a + (n - a)) = 0 by omega, if_pos (show 0 % 67 = 0 from rfl), if_neg (show ¬ (n - a) % 67 = 0 by omega), show (n - a) / 67 = 0 by omega]
/-- One of its own, and as few repetitions as may be. -/
theorem rep_toks (c : UInt8) (n : Nat) (h : 5 ≤ n) : (toks (List.replicate n c)).length = 1 + (n - 1) / 67 + (if (n - 1) % 67 = 0 then 0 else 1) ∧ (toks (List.replicate n c))[0]? = some ⟨⟨#[c]⟩, 0, 0⟩ := by
  unfold toks
  rw [List.length_replicate]
  obtain ⟨f, rfl⟩ : ∃ f, n = f + 2 := ⟨n - 2, by omega⟩
  have hs : tks (List.replicate (f + 2) c) (f + 2) 0 0 = tks (List.replicate (f + 2) c) (f + 1) 0 1 := tks_step (by simp) (by rw [rep_few c _ 0 (.inr rfl)])
  have hfn := rep_find c (f + 2) 1 (Nat.le_refl _) (by omega)
  rw [hs, tks_rep (by rw [List.length_replicate]; omega) hfn (by omega)]
  have he : ((List.replicate (f + 2) c).take 1).drop 0 = [c] := by rw [List.drop_zero]; rfl
  rw [he]
  refine ⟨?_, rfl⟩
  rw [List.length_append, List.length_cons, rep_tail c (f + 2) f _ (by omega) (by omega) (by omega)]
  show 1 + _ = _
  have e : f + 2 - 1 = f + 1 := rfl
  rw [e]
  by_cases h67 : 67 ≤ f + 1
  · rw [Nat.min_eq_left h67, show f + 2 - (1 + 67) = f + 1 - 67 by omega]
    have e1 : (f + 1) / 67 = (f + 1 - 67) / 67 + 1 := by omega
    have e2 : (f + 1) % 67 = (f + 1 - 67) % 67 := by omega
    rw [e1, e2]; omega
  · rw [Nat.min_eq_right (by omega), show f + 2 - (1 + (f + 1)) = 0 by omega, if_pos (show 0 % 67 = 0 from rfl), if_neg (show ¬ (f + 1) % 67 = 0 by omega), show (f + 1) / 67 = 0 by omega]
theorem rep_toks_few (c : UInt8) (n : Nat) (h0 : 0 < n) (h : n < 5) : toks (List.replicate n c) = [⟨⟨(List.replicate n c).toArray⟩, 0, 0⟩] := by
  unfold toks
  rw [List.length_replicate, rep_rest c n n 0 0 (.inr ⟨rfl, h⟩) (by omega) (by omega), List.drop_zero, ownT_cons (by intro e; have := congrArg List.length e; simp at this; omega)]
theorem repeat_one (c : UInt8) (n : Nat) : Lib.repeatL [c] n = List.replicate n c := by
  have h := Lib.repeatL_replicate c 1 n
  rw [Nat.mul_one] at h
  exact h
end Go.Proofs.Ytoimmdkfgepdeaa
