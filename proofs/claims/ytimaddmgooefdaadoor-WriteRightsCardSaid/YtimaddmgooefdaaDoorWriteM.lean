/-
  Writes: what is wrong with one, its tail, what a text begins with: as plain functions.
-/
import Derived.Test.YtimaddmgooefdaaDoorVaryZ
import Derived.Test.YtimaddmgooefdaaDoorVaryInt
import Derived.Test.YtimaddmgooefdaaDoorSpan
namespace Go.Proofs.YtimaddmgooefdaaDoor
open Go.RowKit

def hasV (K : Int) : Bool := decide (K = 1) || decide (K = 4)
def hasN (K : Int) : Bool := decide (K = 3) || decide (K = 4)
def idOk (T R : Int) : Bool := decide (1 ≤ T ∧ T ≤ 1099511627776 ∧ 0 ≤ R ∧ R ≤ 200)
def fitsN (K N : Int) : Bool := if K = 3 then decide (-1125899906842624 ≤ N) && decide (N ≤ 1125899906842624) else if K = 4 then decide (0 ≤ N) && decide (N ≤ 1000) else true
/-- What is wrong with a write: an error's number. -/
def wrE (T R K : Int) (key val : ByteArray) (N : Int) : Nat :=
  if K < 1 ∨ 4 < K then 1 else if idOk T R = false then 2 else if 40 < key.size ∨ 300 < val.size then 4 else if (0 < val.size ∧ hasV K = false) ∨ (N ≠ 0 ∧ hasN K = false) then 3 else if fitsN K N = false then 2 else 0

theorem wrE_kind {T R K : Int} {key val : ByteArray} {N : Int} (h : K < 1 ∨ 4 < K) : wrE T R K key val N = 1 := if_pos h
theorem wrE_id {T R K : Int} {key val : ByteArray} {N : Int} (h : ¬ (K < 1 ∨ 4 < K)) (h1 : idOk T R = false) : wrE T R K key val N = 2 := by unfold wrE; rw [if_neg h, if_pos h1]
theorem wrE_size {T R K : Int} {key val : ByteArray} {N : Int} (h : ¬ (K < 1 ∨ 4 < K)) (h1 : idOk T R = true) (h2 : 40 < key.size ∨ 300 < val.size) : wrE T R K key val N = 4 := by
  unfold wrE; rw [if_neg h, if_neg (by rw [h1]; decide), if_pos h2]
theorem wrE_form {T R K : Int} {key val : ByteArray} {N : Int} (h : ¬ (K < 1 ∨ 4 < K)) (h1 : idOk T R = true) (h2 : ¬ (40 < key.size ∨ 300 < val.size)) (h3 : (0 < val.size ∧ hasV K = false) ∨ (N ≠ 0 ∧ hasN K = false)) : wrE T R K key val N = 3 := by
  unfold wrE; rw [if_neg h, if_neg (by rw [h1]; decide), if_neg h2, if_pos h3]
theorem wrE_fits {T R K : Int} {key val : ByteArray} {N : Int} (h : ¬ (K < 1 ∨ 4 < K)) (h1 : idOk T R = true) (h2 : ¬ (40 < key.size ∨ 300 < val.size)) (h3 : ¬ ((0 < val.size ∧ hasV K = false) ∨ (N ≠ 0 ∧ hasN K = false))) :
    wrE T R K key val N = if fitsN K N = false then 2 else 0 := by
  unfold wrE; rw [if_neg h, if_neg (by rw [h1]; decide), if_neg h2, if_neg h3]
theorem wrE_rest {T R K : Int} {key val : ByteArray} {N : Int} (h : ¬ (K < 1 ∨ 4 < K)) (h1 : idOk T R = true) (h2 : ¬ (40 < key.size ∨ 300 < val.size)) :
    wrE T R K key val N = if ((decide (0 < val.size) && !hasV K) || (decide (N ≠ 0) && !hasN K)) = true then 3 else if fitsN K N = true then 0 else 2 := by
  unfold wrE
  rw [if_neg h, if_neg (by rw [h1]; decide), if_neg h2]
  cases hasV K <;> cases hasN K <;> cases fitsN K N <;> simp
theorem empty_of {s : ByteArray} (h : ¬ 0 < s.size) : s = ⟨#[]⟩ := by
  cases s with
  | mk d => have : d.size = 0 := by have h2 : ¬ 0 < d.size := h; omega
            rw [Array.eq_empty_of_size_eq_zero this]
theorem some_of {s : ByteArray} (h : 0 < s.size) : s ≠ ⟨#[]⟩ := by rintro rfl; exact absurd h (by decide)
theorem bne_empty {s : ByteArray} (h : 0 < s.size) : (s.toList != []) = true := by
  rw [ByteArray.toList_eq, bne_iff_ne]
  intro e
  have : s.data.toList.length = 0 := by rw [e]; rfl
  rw [← size_data] at this; omega

/-- A write that is right. -/
theorem wrE_good {T R K : Int} {key val : ByteArray} {N : Int} (h : wrE T R K key val N = 0) :
    ¬ (K < 1 ∨ 4 < K) ∧ idOk T R = true ∧ key.size ≤ 40 ∧ val.size ≤ 300 ∧ ¬ ((0 < val.size ∧ hasV K = false) ∨ (N ≠ 0 ∧ hasN K = false)) ∧ fitsN K N = true := by
  unfold wrE at h
  split at h
  · simp at h
  · split at h
    · simp at h
    · split at h
      · simp at h
      · split at h
        · simp at h
        · split at h
          · simp at h
          · rename_i h1 h2 h3 h4 h5
            exact ⟨h1, by simpa using h2, by omega, by omega, h4, by simpa using h5⟩

/-- What a write's tail is. -/
def numB (K N : Int) : ByteArray := if K = 3 then ⟨(putL (zigN N).toNat).toArray⟩ else if K = 4 then ⟨(putL N.toNat).toArray⟩ else ⟨#[]⟩
def valB (K : Int) (val : ByteArray) : ByteArray := if hasV K = true then spanB val else ⟨#[]⟩
def tailB (K : Int) (val : ByteArray) (N : Int) : ByteArray := numB K N ++ valB K val

/-- The number that a text begins with, as a kind has it: how many bytes it has; an error's number. -/
def getN (K : Int) (l : List UInt8) : Int × Nat × Nat := if K = 3 then (zagN (getL l).1, (getL l).2.1, (getL l).2.2) else if K = 4 then (((intL l 1000).1 : Int), (intL l 1000).2.1, (intL l 1000).2.2) else (0, 0, 0)
/-- The value that a text begins with, as a kind has it. -/
def getV (K : Int) (l : List UInt8) : List UInt8 × Nat × Nat := if hasV K = true then getS l else ([], 0, 0)

theorem getN_le (K : Int) (l : List UInt8) : (getN K l).2.1 ≤ l.length ∧ (getN K l).2.1 ≤ 10 := by
  unfold getN
  rcases getL_cases l with ⟨e, hg, he⟩ | ⟨n, k, hg, hn, hk1, hk2, hk3⟩
  · split
    · rw [hg]; simp
    · split
      · rw [intL_bad hg he]; simp
      · simp
  · split
    · rw [hg]; simp; omega
    · split
      · by_cases hm : (1000 : Int) < 0 ∨ (1000 : Int) < n
        · rw [intL_range hg hm]; simp
        · rw [intL_ok hg hm]; simp; omega
      · simp
/-- The number within an int's bounds. -/
theorem zagN_bounds {n : Nat} (h : n ≤ 18446744073709551615) : -9223372036854775808 ≤ zagN n ∧ zagN n ≤ 9223372036854775807 := by
  unfold zagN; split <;> omega
theorem getN_bounds (K : Int) (l : List UInt8) : -9223372036854775808 ≤ (getN K l).1 ∧ (getN K l).1 ≤ 9223372036854775807 := by
  unfold getN
  rcases getL_cases l with ⟨e, hg, he⟩ | ⟨n, k, hg, hn, hk1, hk2, hk3⟩
  · split
    · rw [hg]; exact zagN_bounds (Nat.zero_le _)
    · split
      · rw [intL_bad hg he]; simp
      · simp
  · split
    · rw [hg]; exact zagN_bounds hn
    · split
      · by_cases hm : (1000 : Int) < 0 ∨ (1000 : Int) < n
        · rw [intL_range hg hm]; simp
        · rw [intL_ok hg hm]; simp; omega
      · simp
end Go.Proofs.YtimaddmgooefdaaDoor
