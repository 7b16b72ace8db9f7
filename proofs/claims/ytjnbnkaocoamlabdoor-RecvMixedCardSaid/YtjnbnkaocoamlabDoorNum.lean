/-
  Plain mathematics of chapter 1: how a number is written in sevens of bits ('putL'), and what a text begins with ('getL'). No Go text is named here.
-/
import Derived.WalkKit
namespace Go.Proofs.YtjnbnkaocoamlabDoor

/-- A number's bytes: seven bits each, the lowest first. -/
def putL (n : Nat) : List UInt8 := if n < 128 then [UInt8.ofNat n] else UInt8.ofNat (n % 128 + 128) :: putL (n / 128)
termination_by n
decreasing_by omega

/-- What bytes come to. -/
def valL : List UInt8 → Nat
  | [] => 0
  | c :: r => c.toNat % 128 + 128 * valL r

/-- Where a number's bytes end, from place i on: an error's number, or how many bytes there are. -/
def scan : Nat → List UInt8 → Nat ⊕ Nat
  | _, [] => .inl 7
  | i, c :: r => if i = 9 ∧ 1 < c.toNat then .inl 4 else if 0 < i ∧ c.toNat = 0 then .inl 3 else if c.toNat < 128 then .inr (i + 1) else scan (i + 1) r

/-- What a text begins with: a number, how many bytes it has, an error's number (0: none). -/
def getL (l : List UInt8) : Nat × Nat × Nat := match scan 0 l with
  | .inl e => (0, 0, e)
  | .inr k => (valL (l.take k), k, 0)

theorem putL_small {n : Nat} (h : n < 128) : putL n = [UInt8.ofNat n] := by rw [putL, if_pos h]
theorem putL_big {n : Nat} (h : ¬ n < 128) : putL n = UInt8.ofNat (n % 128 + 128) :: putL (n / 128) := by rw [putL, if_neg h]
theorem putL_pos (n : Nat) : 0 < (putL n).length := by
  by_cases h : n < 128
  · rw [putL_small h]; simp
  · rw [putL_big h]; simp

theorem toNat_ofNat_lt {n : Nat} (h : n < 256) : (UInt8.ofNat n).toNat = n := by simp; omega
theorem ofNat_toNat (c : UInt8) : UInt8.ofNat c.toNat = c := by simp

theorem valL_putL (n : Nat) : valL (putL n) = n := by
  induction n using Nat.strongRecOn with
  | ind n ih =>
    by_cases h : n < 128
    · rw [putL_small h, valL, valL, toNat_ofNat_lt (by omega)]; omega
    · rw [putL_big h, valL, toNat_ofNat_lt (by omega), ih (n / 128) (by omega)]; omega

theorem putL_len (j : Nat) : ∀ n, n < 128 ^ j → 0 < j → (putL n).length ≤ j := by
  induction j with
  | zero => intro n _ h; omega
  | succ j ih =>
    intro n hn _
    by_cases h : n < 128
    · rw [putL_small h]; simp
    · rw [putL_big h, List.length_cons]
      have hj : 0 < j := by
        rcases Nat.eq_zero_or_pos j with rfl | h'
        · simp at hn; omega
        · exact h'
      have h2 : n / 128 < 128 ^ j := by
        rw [Nat.pow_succ] at hn
        exact Nat.div_lt_of_lt_mul (by rw [Nat.mul_comm]; exact hn)
      have := ih (n / 128) h2 hj
      omega

theorem putL_le10 {n : Nat} (h : n < 18446744073709551616) : (putL n).length ≤ 10 :=
  putL_len 10 n (Nat.lt_of_lt_of_le h (by decide)) (by decide)

theorem pow9 : 128 ^ 9 = 9223372036854775808 := by decide

/-- What is written is read. -/
theorem scan_put (more : List UInt8) (m : Nat) : ∀ i, m * 128 ^ i < 18446744073709551616 → (0 < i → 0 < m) → i ≤ 9 → scan i (putL m ++ more) = .inr (i + (putL m).length) := by
  induction m using Nat.strongRecOn with
  | ind m ih =>
    intro i hm hi h9
    by_cases h : m < 128
    · rw [putL_small h, List.cons_append, List.nil_append, scan, toNat_ofNat_lt (by omega)]
      have n1 : ¬ (i = 9 ∧ 1 < m) := by
        rintro ⟨rfl, h1⟩
        rw [pow9] at hm; omega
      rw [if_neg n1, if_neg (by omega), if_pos h]; rfl
    · rw [putL_big h, List.cons_append, scan, toNat_ofNat_lt (by omega)]
      have n9 : i ≠ 9 := by rintro rfl; rw [pow9] at hm; omega
      rw [if_neg (by omega), if_neg (by omega), if_neg (by omega)]
      have hm2 : m / 128 * 128 ^ (i + 1) < 18446744073709551616 := by
        rw [Nat.pow_succ, Nat.mul_comm (128 ^ i), ← Nat.mul_assoc]
        exact Nat.lt_of_le_of_lt (Nat.mul_le_mul_right _ (Nat.div_mul_le_self m 128)) hm
      rw [ih (m / 128) (by omega) (i + 1) hm2 (by omega) (by omega), List.length_cons]
      congr 1; omega

theorem getL_put (m : Nat) (more : List UInt8) (hm : m < 18446744073709551616) : getL (putL m ++ more) = (m, (putL m).length, 0) := by
  unfold getL
  rw [scan_put more m 0 (by simpa using hm) (by omega) (by omega)]
  simp [valL_putL]

/-- No beginning is one. -/
theorem scan_cut (m : Nat) : ∀ i j, m * 128 ^ i < 18446744073709551616 → (0 < i → 0 < m) → i ≤ 9 → j < (putL m).length → scan i ((putL m).take j) = .inl 7 := by
  induction m using Nat.strongRecOn with
  | ind m ih =>
    intro i j hm hi h9 hj
    cases j with
    | zero => simp [scan]
    | succ j =>
      by_cases h : m < 128
      · rw [putL_small h] at hj; simp at hj
      · rw [putL_big h] at hj ⊢
        rw [List.take_succ_cons, scan, toNat_ofNat_lt (by omega)]
        have n9 : i ≠ 9 := by rintro rfl; rw [pow9] at hm; omega
        rw [if_neg (by omega), if_neg (by omega), if_neg (by omega)]
        have hm2 : m / 128 * 128 ^ (i + 1) < 18446744073709551616 := by
          rw [Nat.pow_succ, Nat.mul_comm (128 ^ i), ← Nat.mul_assoc]
          exact Nat.lt_of_le_of_lt (Nat.mul_le_mul_right _ (Nat.div_mul_le_self m 128)) hm
        exact ih (m / 128) (by omega) (i + 1) j hm2 (by omega) (by omega) (by simpa using hj)

theorem getL_cut (m j : Nat) (hm : m < 18446744073709551616) (hj : j < (putL m).length) : getL ((putL m).take j) = (0, 0, 7) := by
  unfold getL
  rw [scan_cut m 0 j (by simpa using hm) (by omega) (by omega) hj]

/-- Just one way: what is read is written so. -/
theorem scan_only (l : List UInt8) : ∀ i k, scan i l = .inr k → ∃ j, k = i + j ∧ 1 ≤ j ∧ j ≤ l.length ∧ putL (valL (l.take j)) = l.take j ∧ (0 < i → 0 < valL (l.take j)) := by
  induction l with
  | nil => intro i k h; simp [scan] at h
  | cons c r ih =>
    intro i k h
    have hc := c.toNat_lt
    rw [scan] at h
    by_cases h1 : i = 9 ∧ 1 < c.toNat
    · rw [if_pos h1] at h; cases h
    · rw [if_neg h1] at h
      by_cases h2 : 0 < i ∧ c.toNat = 0
      · rw [if_pos h2] at h; cases h
      · rw [if_neg h2] at h
        by_cases h3 : c.toNat < 128
        · rw [if_pos h3] at h
          injection h with h
          have hv : valL [c] = c.toNat := by rw [valL, valL]; omega
          refine ⟨1, h.symm, by omega, by simp, ?_, ?_⟩
          · rw [List.take_succ_cons, List.take_zero, hv, putL_small h3, ofNat_toNat]
          · intro hi; rw [List.take_succ_cons, List.take_zero, hv]; omega
        · rw [if_neg h3] at h
          obtain ⟨j, e1, e2, e3, e4, e5⟩ := ih (i + 1) k h
          have hp := e5 (by omega)
          refine ⟨j + 1, by omega, by omega, by simp; omega, ?_, ?_⟩
          · rw [List.take_succ_cons, valL, putL_big (by omega)]
            rw [show (c.toNat % 128 + 128 * valL (List.take j r)) / 128 = valL (List.take j r) by omega, show (c.toNat % 128 + 128 * valL (List.take j r)) % 128 + 128 = c.toNat by omega, e4, ofNat_toNat]
          · intro _; rw [List.take_succ_cons, valL]; omega

theorem getL_only {l : List UInt8} {n k : Nat} (h : getL l = (n, k, 0)) : 1 ≤ k ∧ k ≤ l.length ∧ putL n = l.take k := by
  unfold getL at h
  split at h
  · rename_i e he
    simp only [Prod.mk.injEq] at h
    obtain ⟨_, _, rfl⟩ := h
    exfalso
    have : ∀ (l : List UInt8) (i : Nat), scan i l ≠ .inl 0 := by
      intro l
      induction l with
      | nil => intro i h; simp [scan] at h
      | cons c r ih =>
        intro i h
        rw [scan] at h
        split at h
        · cases h
        · split at h
          · cases h
          · split at h
            · cases h
            · exact ih _ h
    exact this _ _ he
  · rename_i k' hk
    simp only [Prod.mk.injEq] at h
    obtain ⟨rfl, rfl, _⟩ := h
    obtain ⟨j, e1, e2, e3, e4, _⟩ := scan_only l 0 k' hk
    obtain rfl : k' = j := by omega
    exact ⟨e2, e3, e4⟩

theorem scan_err (l : List UInt8) : ∀ (i e : Nat), scan i l = .inl e → e = 7 ∨ e = 4 ∨ e = 3 := by
  induction l with
  | nil => intro i e h; simp [scan] at h; omega
  | cons c r ih =>
    intro i e h
    rw [scan] at h
    split at h
    · injection h with h; omega
    · split at h
      · injection h with h; omega
      · split at h
        · cases h
        · exact ih _ _ h

/-- Whatever is told besides: an error has neither number nor bytes; the errors. -/
theorem getL_bad {l : List UInt8} (h : (getL l).2.2 ≠ 0) : (getL l).1 = 0 ∧ (getL l).2.1 = 0 ∧ ((getL l).2.2 = 7 ∨ (getL l).2.2 = 4 ∨ (getL l).2.2 = 3) := by
  unfold getL at h ⊢
  split
  · rename_i e he; exact ⟨rfl, rfl, scan_err _ _ _ he⟩
  · rename_i k hk; simp [hk] at h

theorem getL_err (l : List UInt8) : (getL l).2.2 = 0 ∨ (getL l).2.2 = 7 ∨ (getL l).2.2 = 4 ∨ (getL l).2.2 = 3 := by
  by_cases h : (getL l).2.2 = 0
  · exact .inl h
  · exact .inr (getL_bad h).2.2

theorem valL_append (a : List UInt8) (c : UInt8) : valL (a ++ [c]) = valL a + c.toNat % 128 * 128 ^ a.length := by
  induction a with
  | nil => simp [valL]
  | cons d r ih =>
    rw [List.cons_append, valL, ih, valL, List.length_cons, Nat.pow_succ, Nat.mul_add, ← Nat.add_assoc]
    congr 1
    rw [Nat.mul_comm, Nat.mul_assoc]

theorem valL_lt (a : List UInt8) : valL a < 128 ^ a.length := by
  induction a with
  | nil => simp [valL]
  | cons d r ih =>
    rw [valL, List.length_cons, Nat.pow_succ]
    have : d.toNat % 128 < 128 := Nat.mod_lt _ (by decide)
    have h2 : 128 * (valL r + 1) ≤ 128 * 128 ^ r.length := Nat.mul_le_mul_left 128 ih
    rw [Nat.mul_comm (128 ^ r.length)]
    omega

theorem valL_take_succ (l : List UInt8) (k : Nat) (h : k < l.length) : valL (l.take (k + 1)) = valL (l.take k) + l[k].toNat % 128 * 128 ^ k := by
  rw [List.take_succ_eq_append_getElem h, valL_append]
  congr 3
  simp; omega

theorem scan_drop (l : List UInt8) (i : Nat) (h : i < l.length) : scan i (l.drop i) = if i = 9 ∧ 1 < l[i].toNat then .inl 4 else if 0 < i ∧ l[i].toNat = 0 then .inl 3 else if l[i].toNat < 128 then .inr (i + 1) else scan (i + 1) (l.drop (i + 1)) := by
  rw [List.drop_eq_getElem_cons h, scan]

/-- How many bytes a number has: one more for each seven bits. -/
def sevens (n : Nat) : Nat := if n < 128 then 1 else sevens (n / 128) + 1
termination_by n
decreasing_by omega
theorem sevens_small {n : Nat} (h : n < 128) : sevens n = 1 := by rw [sevens, if_pos h]
theorem sevens_big {n : Nat} (h : ¬ n < 128) : sevens n = sevens (n / 128) + 1 := by rw [sevens, if_neg h]
theorem sevens_pos (n : Nat) : 1 ≤ sevens n := by
  by_cases h : n < 128
  · rw [sevens_small h]; omega
  · rw [sevens_big h]; omega
theorem putL_sevens (n : Nat) : (putL n).length = sevens n := by
  induction n using Nat.strongRecOn with
  | ind n ih =>
    by_cases h : n < 128
    · rw [putL_small h, sevens_small h]; rfl
    · rw [putL_big h, sevens_big h, List.length_cons, ih (n / 128) (by omega)]
theorem sevens_mono : ∀ (b a : Nat), a ≤ b → sevens a ≤ sevens b := by
  intro b
  induction b using Nat.strongRecOn with
  | ind b ih =>
    intro a h
    by_cases h1 : a < 128
    · rw [sevens_small h1]; exact sevens_pos b
    · rw [sevens_big h1, sevens_big (n := b) (by omega)]
      have := ih (b / 128) (by omega) (a / 128) (Nat.div_le_div_right h)
      omega

theorem scan_ten (l : List UInt8) : ∀ (i k : Nat), i ≤ 9 → scan i l = .inr k → k ≤ 10 ∧ i < k ∧ k - i ≤ l.length ∧ (k = 10 → ∀ c, l[9 - i]? = some c → c.toNat ≤ 1) := by
  induction l with
  | nil => intro i k _ h; simp [scan] at h
  | cons c r ih =>
    intro i k hi h
    rw [scan] at h
    by_cases h1 : i = 9 ∧ 1 < c.toNat
    · rw [if_pos h1] at h; cases h
    · rw [if_neg h1] at h
      by_cases h2 : 0 < i ∧ c.toNat = 0
      · rw [if_pos h2] at h; cases h
      · rw [if_neg h2] at h
        by_cases h3 : c.toNat < 128
        · rw [if_pos h3] at h
          injection h with h
          subst h
          refine ⟨by omega, by omega, by simp, ?_⟩
          intro h9 d hd
          obtain rfl : i = 9 := by omega
          simp at hd; subst hd; omega
        · rw [if_neg h3] at h
          obtain ⟨a, b, c', d⟩ := ih (i + 1) k (by omega) h
          refine ⟨a, by omega, by simp; omega, ?_⟩
          intro h9 e he
          rw [show 9 - i = (9 - (i + 1)) + 1 by omega, List.getElem?_cons_succ] at he
          exact d h9 e he

/-- A number's bytes: ten at most; it is below 2^64. -/
theorem scan_lt {l : List UInt8} {k : Nat} (h : scan 0 l = .inr k) : 1 ≤ k ∧ k ≤ 10 ∧ k ≤ l.length ∧ valL (l.take k) < 18446744073709551616 := by
  obtain ⟨a, b, c, d⟩ := scan_ten l 0 k (by omega) h
  refine ⟨by omega, a, by omega, ?_⟩
  by_cases h10 : k = 10
  · subst h10
    have hl : 9 < l.length := by omega
    rw [valL_take_succ l 9 hl]
    have h1 := valL_lt (l.take 9)
    have h2 := d rfl l[9] (by rw [List.getElem?_eq_getElem hl])
    have h3 : (l.take 9).length = 9 := by simp; omega
    rw [h3, pow9] at h1
    rw [pow9]
    have h4 : l[9].toNat % 128 ≤ 1 := by omega
    have := Nat.mul_le_mul_right 9223372036854775808 h4
    omega
  · have h1 := valL_lt (l.take k)
    have h3 : (l.take k).length = k := by simp; omega
    have h4 : 128 ^ k ≤ 128 ^ 9 := Nat.pow_le_pow_right (by decide) (by omega)
    rw [h3] at h1
    rw [pow9] at h4
    omega
end Go.Proofs.YtjnbnkaocoamlabDoor
