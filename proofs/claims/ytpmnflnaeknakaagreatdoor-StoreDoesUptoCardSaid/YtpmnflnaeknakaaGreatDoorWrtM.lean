/-
  Writes, plain: what is wrong with one.
-/
import Derived.WalkKit
import Derived.Deep.Slices
namespace Go.Proofs.YtpmnflnaeknakaaGreatDoor
open Go.RowKit

def errV (e : Nat) : Value := if e = 0 then .nilIface else .iface 33 (.int .i64 e)

def hasV (K : Int) : Bool := decide (K = 1) || decide (K = 4)
def hasN (K : Int) : Bool := decide (K = 3) || decide (K = 4)
def idOk (T R : Int) : Bool := decide (1 ≤ T ∧ T ≤ 1099511627776 ∧ 0 ≤ R ∧ R ≤ 200)
def fitsN (K N : Int) : Bool := if K = 3 then decide (-1125899906842624 ≤ N) && decide (N ≤ 1125899906842624) else if K = 4 then decide (0 ≤ N) && decide (N ≤ 1000) else true
/-- What is wrong with a write: an error's number. -/
def wriE (T R K : Int) (key val : ByteArray) (N : Int) : Nat :=
  if K < 1 ∨ 4 < K then 1 else if idOk T R = false then 2 else if 40 < key.size ∨ 300 < val.size then 4 else if (0 < val.size ∧ hasV K = false) ∨ (N ≠ 0 ∧ hasN K = false) then 3 else if fitsN K N = false then 2 else 0

theorem wriE_kind {T R K : Int} {key val : ByteArray} {N : Int} (h : K < 1 ∨ 4 < K) : wriE T R K key val N = 1 := if_pos h
theorem wriE_id {T R K : Int} {key val : ByteArray} {N : Int} (h : ¬ (K < 1 ∨ 4 < K)) (h1 : idOk T R = false) : wriE T R K key val N = 2 := by unfold wriE; rw [if_neg h, if_pos h1]
theorem wriE_size {T R K : Int} {key val : ByteArray} {N : Int} (h : ¬ (K < 1 ∨ 4 < K)) (h1 : idOk T R = true) (h2 : 40 < key.size ∨ 300 < val.size) : wriE T R K key val N = 4 := by
  unfold wriE; rw [if_neg h, if_neg (by rw [h1]; decide), if_pos h2]
theorem wriE_form {T R K : Int} {key val : ByteArray} {N : Int} (h : ¬ (K < 1 ∨ 4 < K)) (h1 : idOk T R = true) (h2 : ¬ (40 < key.size ∨ 300 < val.size)) (h3 : (0 < val.size ∧ hasV K = false) ∨ (N ≠ 0 ∧ hasN K = false)) : wriE T R K key val N = 3 := by
  unfold wriE; rw [if_neg h, if_neg (by rw [h1]; decide), if_neg h2, if_pos h3]
theorem wriE_fits {T R K : Int} {key val : ByteArray} {N : Int} (h : ¬ (K < 1 ∨ 4 < K)) (h1 : idOk T R = true) (h2 : ¬ (40 < key.size ∨ 300 < val.size)) (h3 : ¬ ((0 < val.size ∧ hasV K = false) ∨ (N ≠ 0 ∧ hasN K = false))) :
    wriE T R K key val N = if fitsN K N = false then 2 else 0 := by
  unfold wriE; rw [if_neg h, if_neg (by rw [h1]; decide), if_neg h2, if_neg h3]
theorem wriE_rest {T R K : Int} {key val : ByteArray} {N : Int} (h : ¬ (K < 1 ∨ 4 < K)) (h1 : idOk T R = true) (h2 : ¬ (40 < key.size ∨ 300 < val.size)) :
    wriE T R K key val N = if ((decide (0 < val.size) && !hasV K) || (decide (N ≠ 0) && !hasN K)) = true then 3 else if fitsN K N = true then 0 else 2 := by
  unfold wriE
  rw [if_neg h, if_neg (by rw [h1]; decide), if_neg h2]
  cases hasV K <;> cases hasN K <;> cases fitsN K N <;> simp
theorem empty_of {s : ByteArray} (h : ¬ 0 < s.size) : s = ⟨#[]⟩ := by
  cases s with
  | mk d => have : d.size = 0 := by have h2 : ¬ 0 < d.size := h; omega
            rw [Array.eq_empty_of_size_eq_zero this]
theorem some_of {s : ByteArray} (h : 0 < s.size) : s ≠ ⟨#[]⟩ := by rintro rfl; exact absurd h (by decide)
theorem bne_empty {s : ByteArray} (h : 0 < s.size) : (s.toList != []) = true := by
  rw [ByteArray.toList_eq, bne_iff_ne]
  intro e
  have : s.data.toList.length = 0 := by rw [e]; rfl
  have h2 : s.data.toList.length = s.size := Array.length_toList
  omega

/-- A write that is right. -/
theorem wriE_good {T R K : Int} {key val : ByteArray} {N : Int} (h : wriE T R K key val N = 0) :
    ¬ (K < 1 ∨ 4 < K) ∧ idOk T R = true ∧ key.size ≤ 40 ∧ val.size ≤ 300 ∧ ¬ ((0 < val.size ∧ hasV K = false) ∨ (N ≠ 0 ∧ hasN K = false)) ∧ fitsN K N = true := by
  unfold wriE at h
  split at h
  · simp at h
  · split at h
    · simp at h
    · split at h
      · simp at h
      · split at h
        · simp at h
        · split at h
          · simp at h
          · rename_i h1 h2 h3 h4 h5
            exact ⟨h1, by simpa using h2, by omega, by omega, h4, by simpa using h5⟩

end Go.Proofs.YtpmnflnaeknakaaGreatDoor
