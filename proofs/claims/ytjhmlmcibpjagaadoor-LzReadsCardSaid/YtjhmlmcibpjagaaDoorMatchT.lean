/-
  Chapter 4, plain: what is wrong with tokens, and the text that they make.
-/
import Derived.Test.YtjhmlmcibpjagaaDoorMatchM
import Derived.Test.YtjhmlmcibpjagaaDoorStr
namespace Go.Proofs.YtjhmlmcibpjagaaDoor

/-- What is wrong with a token behind so many bytes: the error's number. -/
def wrongN (t : Tok) (a : Nat) : Nat :=
  if t.own.size = 0 then
    if t.size = 0 ∧ t.back = 0 then 1
    else if t.size < 4 ∨ 67 < t.size ∨ t.back < 1 ∨ 1024 < t.back then 2
    else if (a : Int) < t.back then 7
    else if 20000 < (a : Int) + t.size then 4 else 0
  else if t.size ≠ 0 ∨ t.back ≠ 0 then 1
  else if 20000 < a + t.own.size then 4 else 0
/-- How many bytes it makes. -/
def lenT (t : Tok) : Nat := t.own.size + t.size.toNat
/-- What is wrong with tokens, and with which of them. -/
def rightF : List Tok → Nat → Nat → Nat × Int
  | [], _, _ => (0, -1)
  | t :: r, i, a => if wrongN t a = 0 then rightF r (i + 1) (a + lenT t) else (wrongN t a, (i : Int))
/-- So many bytes more, each the one so far back. -/
def repL (b : List UInt8) (back : Nat) : Nat → List UInt8
  | 0 => b
  | n + 1 => repL (b ++ [b.getD (b.length - back) 0]) back n
def stepT (b : List UInt8) (t : Tok) : List UInt8 := repL (b ++ t.own.data.toList) t.back.toNat t.size.toNat
def textL (b : List UInt8) (l : List Tok) : List UInt8 := l.foldl stepT b

theorem repL_len (b : List UInt8) (k n : Nat) : (repL b k n).length = b.length + n := by
  induction n generalizing b with
  | zero => rfl
  | succ n ih => rw [repL, ih]; simp; omega
theorem stepT_len (b : List UInt8) (t : Tok) : (stepT b t).length = b.length + lenT t := by
  unfold stepT lenT
  rw [repL_len, List.length_append, ← size_data]; omega
theorem repL_app (b : List UInt8) (k n : Nat) : ∃ c, repL b k n = b ++ c := by
  induction n generalizing b with
  | zero => exact ⟨[], by simp [repL]⟩
  | succ n ih =>
    obtain ⟨c, hc⟩ := ih (b ++ [b.getD (b.length - k) 0])
    exact ⟨_, by rw [repL, hc, List.append_assoc]⟩
theorem stepT_app (b : List UInt8) (t : Tok) : ∃ c, stepT b t = b ++ c := by
  obtain ⟨c, hc⟩ := repL_app (b ++ t.own.data.toList) t.back.toNat t.size.toNat
  exact ⟨_, by unfold stepT; rw [hc, List.append_assoc]⟩
theorem textL_app (l : List Tok) (b : List UInt8) : ∃ c, textL b l = b ++ c := by
  induction l generalizing b with
  | nil => exact ⟨[], by simp [textL]⟩
  | cons t r ih =>
    obtain ⟨c, hc⟩ := stepT_app b t
    obtain ⟨d, hd⟩ := ih (stepT b t)
    exact ⟨c ++ d, by show textL (stepT b t) r = _; rw [hd, hc, List.append_assoc]⟩
theorem textL_cat (l m : List Tok) (b : List UInt8) : textL b (l ++ m) = textL (textL b l) m := by simp [textL]

/-- Of tokens that are right each one is, behind what those ahead of it make; there are never too many bytes. -/
theorem wrongN_ok {t : Tok} {a : Nat} (h : wrongN t a = 0) :
    (t.own.size ≠ 0 ∧ t.size = 0 ∧ t.back = 0 ∧ a + t.own.size ≤ 20000) ∨
    (t.own.size = 0 ∧ 4 ≤ t.size ∧ t.size ≤ 67 ∧ 1 ≤ t.back ∧ t.back ≤ 1024 ∧ t.back ≤ (a : Int) ∧ (a : Int) + t.size ≤ 20000) := by
  unfold wrongN at h
  by_cases h0 : t.own.size = 0
  · rw [if_pos h0] at h
    by_cases h1 : t.size = 0 ∧ t.back = 0
    · rw [if_pos h1] at h; omega
    · rw [if_neg h1] at h
      by_cases h2 : t.size < 4 ∨ 67 < t.size ∨ t.back < 1 ∨ 1024 < t.back
      · rw [if_pos h2] at h; omega
      · rw [if_neg h2] at h
        by_cases h3 : (a : Int) < t.back
        · rw [if_pos h3] at h; omega
        · rw [if_neg h3] at h
          by_cases h4 : 20000 < (a : Int) + t.size
          · rw [if_pos h4] at h; omega
          · exact .inr ⟨h0, by omega, by omega, by omega, by omega, by omega, by omega⟩
  · rw [if_neg h0] at h
    by_cases h1 : t.size ≠ 0 ∨ t.back ≠ 0
    · rw [if_pos h1] at h; omega
    · rw [if_neg h1] at h
      by_cases h4 : 20000 < a + t.own.size
      · rw [if_pos h4] at h; omega
      · exact .inl ⟨h0, by omega, by omega, by omega⟩
theorem wrongN_le {t : Tok} {a : Nat} (h : wrongN t a = 0) : a + lenT t ≤ 20000 := by
  unfold lenT
  rcases wrongN_ok h with ⟨_, h1, _, h2⟩ | ⟨h0, h1, _, _, _, _, h2⟩ <;> omega
theorem rightF_ok {t : Tok} {r : List Tok} {i a : Nat} (h : wrongN t a = 0) : rightF (t :: r) i a = rightF r (i + 1) (a + lenT t) := by rw [rightF, if_pos h]
theorem rightF_bad {t : Tok} {r : List Tok} {i a : Nat} (h : wrongN t a ≠ 0) : rightF (t :: r) i a = (wrongN t a, (i : Int)) := by rw [rightF, if_neg h]
theorem rightF_head {t : Tok} {r : List Tok} {i a : Nat} (h : (rightF (t :: r) i a).1 = 0) : wrongN t a = 0 ∧ (rightF r (i + 1) (a + lenT t)).1 = 0 := by
  by_cases hw : wrongN t a = 0
  · rw [rightF_ok hw] at h; exact ⟨hw, h⟩
  · rw [rightF_bad hw] at h; exact absurd h hw
theorem rightF_any {l : List Tok} {i a : Nat} (h : (rightF l i a).1 = 0) : rightF l i a = (0, -1) := by
  induction l generalizing i a with
  | nil => rfl
  | cons t r ih =>
    obtain ⟨h1, h2⟩ := rightF_head h
    rw [rightF_ok h1]; exact ih h2
/-- The place does not matter where nothing is wrong. -/
theorem rightF_place {l : List Tok} {i j a : Nat} (h : (rightF l i a).1 = 0) : (rightF l j a).1 = 0 := by
  induction l generalizing i j a with
  | nil => rfl
  | cons t r ih =>
    obtain ⟨h1, h2⟩ := rightF_head h
    rw [rightF_ok h1]; exact ih h2
/-- Tokens one by one: a beginning of right ones is right. -/
theorem rightF_take {l : List Tok} {i a : Nat} (h : (rightF l i a).1 = 0) (n : Nat) : (rightF (l.take n) i a).1 = 0 := by
  induction l generalizing i a n with
  | nil => simp [rightF]
  | cons t r ih =>
    cases n with
    | zero => rfl
    | succ n =>
      obtain ⟨h1, h2⟩ := rightF_head h
      rw [List.take_succ_cons, rightF_ok h1]; exact ih h2 n
theorem textL_len {l : List Tok} {i a : Nat} {b : List UInt8} (h : (rightF l i a).1 = 0) (hb : b.length = a) (ha : a ≤ 20000) : (textL b l).length ≤ 20000 := by
  induction l generalizing i a b with
  | nil => show b.length ≤ _; omega
  | cons t r ih =>
    obtain ⟨h1, h2⟩ := rightF_head h
    exact ih (b := stepT b t) h2 (by rw [stepT_len, hb]) (wrongN_le h1)
end Go.Proofs.YtjhmlmcibpjagaaDoor
