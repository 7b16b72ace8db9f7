/-
  The contract of packtrainkeep's 'turned': a text with bits turned.
-/
import Derived.Test.YtggokgiebdadpaaCrcShr
import Derived.Test.YtggokgiebdadpaaBuf
import Derived.Outline
namespace Go.Proofs.Ytggokgiebdadpaa
open Go.RowKit

/-- A byte of a number. -/
def byteN (E j : Nat) : Nat := E / 2 ^ (8 * j) % 256
theorem byteN_lt (E j : Nat) : byteN E j < 256 := Nat.mod_lt _ (by decide)
theorem byteN_bit (E j i : Nat) : (byteN E j).testBit i = (decide (i < 8) && E.testBit (8 * j + i)) := by
  unfold byteN
  rw [show 256 = 2 ^ 8 by decide, Nat.testBit_mod_two_pow, Nat.testBit_div_two_pow, Nat.add_comm]
theorem byteN_xor (a b j : Nat) : byteN (a ^^^ b) j = byteN a j ^^^ byteN b j := by
  refine Nat.eq_of_testBit_eq fun i => ?_
  rw [Nat.testBit_xor, byteN_bit, byteN_bit, byteN_bit, Nat.testBit_xor]
  cases decide (i < 8) <;> simp
theorem byteN_pow (k j : Nat) : byteN (2 ^ k) j = if k / 8 = j then 2 ^ (k % 8) else 0 := by
  refine Nat.eq_of_testBit_eq fun i => ?_
  rw [byteN_bit, Nat.testBit_two_pow]
  by_cases h : k / 8 = j
  · rw [if_pos h, Nat.testBit_two_pow]
    by_cases hi : i < 8
    · simp only [hi, decide_true, Bool.true_and]
      congr 1
      apply propext
      omega
    · simp [hi]; omega
  · rw [if_neg h]
    by_cases hi : i < 8
    · simp only [hi, decide_true, Bool.true_and, Nat.zero_testBit]
      exact decide_eq_false (by omega)
    · simp [hi]
theorem byteN_mod (y N j : Nat) (h : j < N) : byteN (y % 2 ^ (8 * N)) j = byteN y j := by
  refine Nat.eq_of_testBit_eq fun i => ?_
  rw [byteN_bit, byteN_bit, Nat.testBit_mod_two_pow]
  by_cases hi : i < 8
  · simp [hi, show 8 * j + i < 8 * N by omega]
  · simp [hi]
theorem burst_next_yes (bits f i : Nat) (h : bits / 2 ^ i % 2 = 1) : burst bits f (i + 1) = burst bits f i ^^^ 2 ^ (f + i) := by
  unfold burst
  rw [mod_split bits i h]
  refine Nat.eq_of_testBit_eq fun j => ?_
  rw [Nat.testBit_xor, Nat.mul_comm, Nat.testBit_two_pow_mul, Nat.mul_comm, Nat.testBit_two_pow_mul, Nat.testBit_xor, Nat.testBit_two_pow, Nat.testBit_two_pow]
  by_cases hj : f ≤ j
  · simp only [hj, decide_true, Bool.true_and]
    congr 2
    apply propext
    omega
  · simp only [hj, decide_false, Bool.false_and, Bool.false_xor]
    exact (decide_eq_false (by omega)).symm
theorem burst_next_no (bits f i : Nat) (h : ¬ bits / 2 ^ i % 2 = 1) : burst bits f (i + 1) = burst bits f i := by
  unfold burst
  rw [mod_skip bits i h]

/-- What stands at a place, when i bits have been gone through. -/
def turnN (l : List UInt8) (bits f i j : Nat) : Nat := (l.getD j 0).toNat ^^^ byteN (burst bits f i) j
theorem turnN_lt (l : List UInt8) (bits f i j : Nat) : turnN l bits f i j < 256 := Nat.xor_lt_two_pow (n := 8) (l.getD j 0).toNat_lt (byteN_lt _ _)
theorem turnN_zero (l : List UInt8) (bits f j : Nat) : turnN l bits f 0 j = (l.getD j 0).toNat := by
  unfold turnN burst byteN
  rw [Nat.pow_zero, Nat.mod_one, Nat.zero_mul, Nat.zero_div, Nat.zero_mod, Nat.xor_zero]
theorem turnN_skip (l : List UInt8) (bits f i j : Nat) (h : ¬ bits / 2 ^ i % 2 = 1) : turnN l bits f (i + 1) j = turnN l bits f i j := by
  unfold turnN; rw [burst_next_no _ _ _ h]
theorem turnN_other (l : List UInt8) (bits f i j : Nat) (hj : (f + i) / 8 ≠ j) : turnN l bits f (i + 1) j = turnN l bits f i j := by
  by_cases h : bits / 2 ^ i % 2 = 1
  · unfold turnN; rw [burst_next_yes _ _ _ h, byteN_xor, byteN_pow, if_neg hj, Nat.xor_zero]
  · exact turnN_skip l bits f i j h
theorem turnN_here (l : List UInt8) (bits f i : Nat) (h : bits / 2 ^ i % 2 = 1) : turnN l bits f (i + 1) ((f + i) / 8) = turnN l bits f i ((f + i) / 8) ^^^ 2 ^ ((f + i) % 8) := by
  unfold turnN; rw [burst_next_yes _ _ _ h, byteN_xor, byteN_pow, if_pos rfl, Nat.xor_assoc]

/-- A text with bits turned. -/
def turnL (l : List UInt8) (f bits : Nat) : List UInt8 := (List.range l.length).map fun j => UInt8.ofNat (turnN l bits f 32 j)
theorem turnL_len (l : List UInt8) (f bits : Nat) : (turnL l f bits).length = l.length := by simp [turnL]
theorem turnL_at (l : List UInt8) (f bits j : Nat) (h : j < (turnL l f bits).length) : (turnL l f bits)[j].toNat = turnN l bits f 32 j := by
  have := turnN_lt l bits f 32 j
  simp [turnL]
  omega
theorem turnL_seen (l : List UInt8) (f bits : Nat) (hb : bits < 4294967296) (hf : f ≤ 8 * l.length) (ho : (openL l).2 = 0) : (openL (turnL l f bits)).2 = 0 ↔ turnL l f bits = l := by
  refine burst_seen l (turnL l f bits) bits f hb hf (turnL_len l f bits) ho fun j h h' => ?_
  rw [turnL_at]
  unfold turnN
  rw [List.getD_eq_getElem?_getD, List.getElem?_eq_getElem h']
  show l[j].toNat ^^^ _ = _ ^^^ byteN (burst bits f (8 * l.length - f)) j
  congr 1
  rw [← byteN_mod (burst bits f 32) l.length j h']
  congr 1
  unfold burst
  rw [Nat.mod_eq_of_lt (show bits < 2 ^ 32 from hb)]
  have e : 2 ^ (8 * l.length) = 2 ^ (8 * l.length - f) * 2 ^ f := by rw [← Nat.pow_add]; congr 1; omega
  rw [e, Nat.mul_mod_mul_right]

/-- Bytes as cells, and noughts behind them. -/
def rowC (u : Nat → Nat) (sz n : Nat) : Array Value := ((List.range n).map fun j => Value.int .u8 (if j < sz then ((u j : Nat) : Int) else 0)).toArray
theorem rowC_size (u : Nat → Nat) (sz n : Nat) : (rowC u sz n).size = n := by simp [rowC]
theorem rowC_at (u : Nat → Nat) (sz n j : Nat) (h : j < n) (hs : j < sz) : (rowC u sz n)[j]? = some (.int .u8 ((u j : Nat) : Int)) := by
  unfold rowC
  simp [h, hs]
theorem rowC_past (u : Nat → Nat) (sz n j : Nat) (h : j < n) (hs : ¬ j < sz) : (rowC u sz n)[j]? = some (.int .u8 0) := by
  unfold rowC
  simp [h, hs]
theorem rowC_congr {u v : Nat → Nat} {sz n : Nat} (h : ∀ j, j < sz → u j = v j) : rowC u sz n = rowC v sz n := by
  unfold rowC
  congr 1
  apply List.map_congr_left
  intro j _
  by_cases hj : j < sz
  · rw [if_pos hj, if_pos hj, h j hj]
  · rw [if_neg hj, if_neg hj]
theorem rowC_set (u v : Nat → Nat) (sz n p : Nat) (hp : p < sz) (hn : sz ≤ n) (x : Int) (hx : x = (v p : Nat)) (h : ∀ j, j < sz → p ≠ j → v j = u j) : (rowC u sz n).setIfInBounds p (.int .u8 x) = rowC v sz n := by
  apply Array.ext_getElem?
  intro j
  rw [Array.getElem?_setIfInBounds, rowC_size]
  by_cases hj : j < n
  · by_cases e : p = j
    · subst e; rw [if_pos rfl, if_pos (by omega), rowC_at _ _ _ _ hj hp, hx]
    · rw [if_neg e]
      by_cases hs : j < sz
      · rw [rowC_at _ _ _ _ hj hs, rowC_at _ _ _ _ hj hs, h j hs e]
      · rw [rowC_past _ _ _ _ hj hs, rowC_past _ _ _ _ hj hs]
  · rw [Array.getElem?_eq_none (by rw [rowC_size]; omega), Array.getElem?_eq_none (by rw [rowC_size]; omega), if_neg (by omega)]
theorem bytesRow_rowC (s : ByteArray) (cap : Nat) : bytesRow s cap = rowC (fun j => (s.data.toList.getD j 0).toNat) s.size (s.size + (cap - s.size)) := by
  apply Array.ext_getElem?
  intro j
  unfold bytesRow
  rw [Array.getElem?_append]
  by_cases hs : j < s.size
  · rw [if_pos (by simpa using hs), rowC_at _ _ _ _ (by omega) hs]
    have hs' : j < s.data.size := hs
    rw [Array.getElem?_map, Array.getElem?_eq_getElem hs', List.getD_eq_getElem?_getD, Array.getElem?_toList, Array.getElem?_eq_getElem hs']
    rfl
  · have hz : (s.data.map fun b => Value.int .u8 (b.toNat : Int)).size = s.size := by simp
    rw [if_neg (by rw [hz]; exact hs), hz, Array.getElem?_replicate]
    by_cases hj : j < s.size + (cap - s.size)
    · rw [if_pos (by omega), rowC_past _ _ _ _ hj hs]
    · rw [if_neg (by omega), Array.getElem?_eq_none (by rw [rowC_size]; omega)]
end Go.Proofs.Ytggokgiebdadpaa
