/-
  Plain: which of two ids is earlier.
-/
import Derived.Test.YtiipnifnejnhlaaDoorIdent
namespace Go.Proofs.YtiipnifnejnhlaaDoor

theorem cI_val (x1 x2 y1 y2 : Int) : cI (x1, x2) (y1, y2) = if x1 < y1 ∨ x1 = y1 ∧ x2 < y2 then -1 else if x1 = y1 ∧ x2 = y2 then 0 else 1 := by
  unfold cI orF cmpF
  simp only
  repeat' split
  all_goals omega
theorem cI_neg (x1 x2 y1 y2 : Int) : cI (y1, y2) (x1, x2) = - cI (x1, x2) (y1, y2) := by
  rw [cI_val, cI_val]
  repeat' split
  all_goals omega
theorem cI_three (x1 x2 y1 y2 : Int) : cI (x1, x2) (y1, y2) = -1 ∨ cI (x1, x2) (y1, y2) = 0 ∨ cI (x1, x2) (y1, y2) = 1 := by
  rw [cI_val]
  repeat' split
  all_goals omega
theorem cI_zero {x1 x2 y1 y2 : Int} (h : cI (x1, x2) (y1, y2) = 0) : x1 = y1 ∧ x2 = y2 := by
  rw [cI_val] at h
  split at h
  · omega
  · split at h
    · assumption
    · omega
theorem cI_ne {x1 x2 y1 y2 : Int} (h : cI (x1, x2) (y1, y2) ≠ 0) : ¬ (x1 = y1 ∧ x2 = y2) := by
  rintro ⟨rfl, rfl⟩
  apply h
  rw [cI_val, if_neg (by omega), if_pos ⟨rfl, rfl⟩]
theorem cI_trans {x1 x2 y1 y2 z1 z2 : Int} (h1 : cI (x1, x2) (y1, y2) = -1) (h2 : cI (y1, y2) (z1, z2) = -1) : cI (x1, x2) (z1, z2) = -1 := by
  rw [cI_val] at h1 h2 ⊢
  split at h1
  · split at h2
    · rw [if_pos (by omega)]
    · split at h2 <;> omega
  · split at h1 <;> omega
end Go.Proofs.YtiipnifnejnhlaaDoor
