/-
  The contracts of vary.Int and of the document's Int: both answer what 'intL' gives.
-/
import Derived.Test.YtepfbjfmfnnfdaaCounted
namespace Go.Proofs.Ytepfbjfmfnnfdaa
open Go.RowKit

/-- A number of no more than so much. -/
def intL (l : List UInt8) (most : Int) : Nat × Nat × Nat :=
  if (getL l).2.2 ≠ 0 then (0, 0, (getL l).2.2) else if most < 0 ∨ most < (getL l).1 then (0, 0, 2) else getL l
/-- An int, how many bytes it has, an error. -/
def intV (r : Nat × Nat × Nat) : Value := .tuple #[.int .i64 r.1, .int .i64 r.2.1, errV r.2.2]
def intR (r : Nat × Nat × Nat) : Value := .tuple #[.int .i64 r.1, .int .i64 r.2.1, .int .i64 r.2.2]

theorem intL_bad {l : List UInt8} {most : Int} {e : Nat} (h : getL l = (0, 0, e)) (he : e ≠ 0) : intL l most = (0, 0, e) := by
  unfold intL; rw [h]; rw [if_pos (by exact he)]
theorem intL_range {l : List UInt8} {most : Int} {n k : Nat} (h : getL l = (n, k, 0)) (hm : most < 0 ∨ most < n) : intL l most = (0, 0, 2) := by
  unfold intL; rw [h]; rw [if_neg (by simp), if_pos hm]
theorem intL_ok {l : List UInt8} {most : Int} {n k : Nat} (h : getL l = (n, k, 0)) (hm : ¬ (most < 0 ∨ most < n)) : intL l most = (n, k, 0) := by
  unfold intL; rw [h]; rw [if_neg (by simp), if_neg hm]
theorem getL_cases (l : List UInt8) : (∃ e, getL l = (0, 0, e) ∧ e ≠ 0) ∨ ∃ n k, getL l = (n, k, 0) ∧ n ≤ 18446744073709551615 ∧ 1 ≤ k ∧ k ≤ 10 ∧ k ≤ l.length := by
  unfold getL
  split
  · rename_i e he
    refine .inl ⟨e, rfl, ?_⟩
    have := scan_err _ _ _ he
    omega
  · rename_i k hk
    obtain ⟨a, b, c, d⟩ := scan_lt hk
    exact .inr ⟨_, _, rfl, by omega, a, b, c⟩

end Go.Proofs.Ytepfbjfmfnnfdaa
