/-
  Chapter 4, plain: bytes one by one, each so far back, are those that are there, again and again.
-/
import Derived.Test.YtjhmlmcibpjagaaDoorMatchT
namespace Go.Proofs.YtjhmlmcibpjagaaDoor

/-- So many bytes of a text again and again. -/
def cyc (p : List UInt8) (n : Nat) : List UInt8 := (List.range n).map fun j => p.getD (j % p.length) 0
theorem cyc_len (p : List UInt8) (n : Nat) : (cyc p n).length = n := by simp [cyc]
theorem cyc_take (p : List UInt8) (m n : Nat) (h : n ≤ m) : (cyc p m).take n = cyc p n := by
  unfold cyc
  rw [← List.map_take, List.take_range, Nat.min_eq_left h]
theorem cyc_succ (p : List UInt8) (n : Nat) : cyc p (n + 1) = cyc p n ++ [p.getD (n % p.length) 0] := by
  unfold cyc
  rw [List.range_succ, List.map_append]; rfl
theorem cyc_self (p : List UInt8) : cyc p p.length = p := by
  apply List.ext_getElem
  · exact cyc_len _ _
  · intro i h1 h2
    simp only [cyc, List.getElem_map, List.getElem_range]
    rw [Nat.mod_eq_of_lt h2]
    simp [h2]
theorem cyc_dbl (p : List UInt8) (q : Nat) : cyc p (p.length * q + p.length * q) = cyc p (p.length * q) ++ cyc p (p.length * q) := by
  unfold cyc
  rw [List.range_add, List.map_append, List.map_map]
  congr 1
  apply List.map_congr_left
  intro j _
  simp only [Function.comp_apply]
  rw [Nat.add_comm, Nat.add_mul_mod_self_left]
theorem cyc_at (p : List UInt8) (n j : Nat) (h : j < n) : (cyc p n).getD j 0 = p.getD (j % p.length) 0 := by
  unfold cyc; simp [h]

theorem repL_snoc (b : List UInt8) (k n : Nat) : repL b k (n + 1) = repL b k n ++ [(repL b k n).getD ((repL b k n).length - k) 0] := by
  induction n generalizing b with
  | zero => rfl
  | succ n ih =>
    have h1 : repL b k (n + 2) = repL (b ++ [b.getD (b.length - k) 0]) k (n + 1) := rfl
    have h2 : repL b k (n + 1) = repL (b ++ [b.getD (b.length - k) 0]) k n := rfl
    rw [h1, ih, h2]
theorem repL_cyc (b : List UInt8) (k n : Nat) (h1 : 1 ≤ k) (h2 : k ≤ b.length) : repL b k n = b ++ cyc (b.drop (b.length - k)) n := by
  have hp : (b.drop (b.length - k)).length = k := by rw [List.length_drop]; omega
  induction n with
  | zero => simp [repL, cyc]
  | succ n ih =>
    rw [repL_snoc, ih, cyc_succ, ← List.append_assoc]
    congr 2
    rw [List.length_append, cyc_len, hp]
    by_cases h : n < k
    · rw [Nat.mod_eq_of_lt h, List.getD_eq_getElem?_getD, List.getElem?_append_left (by omega), List.getD_eq_getElem?_getD, List.getElem?_drop]
      congr 2
      omega
    · rw [List.getD_eq_getElem?_getD, List.getElem?_append_right (by omega), ← List.getD_eq_getElem?_getD, cyc_at _ _ _ (by omega), hp, show b.length + n - k - b.length = n - k by omega]
      congr 1
      exact (Nat.mod_eq_sub_mod (by omega)).symm
end Go.Proofs.YtjhmlmcibpjagaaDoor
