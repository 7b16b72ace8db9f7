/-
  The walk of 'packtrainkeep.CrcMore'.
-/
import Derived.Test.YtgjmelinfkifcaaCrcSummed
import Derived.Below
namespace Go.Proofs.Ytgjmelinfkifcaa
open Go.RowKit

/-- Two texts, one behind the other. -/
theorem app_data (s t : ByteArray) : (s ++ t).data.toList = s.data.toList ++ t.data.toList := by simp
theorem app_size (s t : ByteArray) : (s ++ t).size = s.size + t.size := by simp

set_option maxRecDepth 100000 in
set_option maxHeartbeats 1000000 in
theorem crcMore_walk (s : ByteArray) (hs : s.size ≤ 140737488351232) (t : ByteArray) (ht : t.size ≤ 140737488351232) (w : World) :
    Calls Try.prog 5 #[.string s, .string t] w fun e w' => e = .returned (.bool true) ∧ Below w.heap.size w w' := by
  by_cases h5 : 500 < s.size + t.size
  · go_enter Try.func5, Try.ntmps5
    go_wp2_with (go_at_call 19; refine (summed_any _).mono ?_; rintro e w' ⟨rfl, rfl⟩)
    go_ret
    exact ⟨rfl, Below.refl _ _⟩
  · have l1 := sum_lt s.data.toList
    have hs1 : Hid (s.size ≤ maxLen) := by have h : s.size ≤ maxLen := by unfold maxLen; omega
                                           exact h
    have ht1 : Hid (t.size ≤ maxLen) := by have h : t.size ≤ maxLen := by unfold maxLen; omega
                                           exact h
    have hst : Hid ((s ++ t).size ≤ maxLen) := by have h : (s ++ t).size ≤ maxLen := by rw [app_size]; unfold maxLen; omega
                                                  exact h
    have hm : Hid (sum (s ++ t).data.toList = more (sum s.data.toList) t.data.toList) := by
      have h := sum_append s.data.toList t.data.toList
      rw [← app_data] at h
      exact h
    go_enter Try.func5, Try.ntmps5
    go_wp2_with (first | (go_at_call 19; refine (summed_any _).mono ?_; rintro e w' ⟨rfl, rfl⟩) | (go_at_call 15; refine (more_any _ _ _ (Int.natCast_nonneg _) (by omega) ht1.out).mono ?_; rintro e w' ⟨rfl, rfl⟩; rw [Int.toNat_natCast]) | (go_at_call 13; refine (sum_any s _ hs1.out).mono ?_; rintro e w' ⟨rfl, rfl⟩) | (go_at_call 13; refine (sum_any (s ++ t) _ hst.out).mono ?_; rintro e w' ⟨rfl, rfl⟩; rw [hm.out]))
    go_ret
    exact ⟨rfl, Below.refl _ _⟩
end Go.Proofs.Ytgjmelinfkifcaa
