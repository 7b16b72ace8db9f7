/-
  The walk of 'packtrainkeep.CrcJoin'.
-/
import Derived.Test.YtgjmelinfkifcaaCrcMoreW
import Derived.Test.YtgjmelinfkifcaaCrcJoin
namespace Go.Proofs.Ytgjmelinfkifcaa
open Go.RowKit

set_option maxRecDepth 100000 in
set_option maxHeartbeats 1000000 in
theorem crcJoin_walk (s : ByteArray) (hs : s.size ≤ 140737488351232) (t : ByteArray) (ht : t.size ≤ 140737488351232) (w : World) :
    Calls Try.prog 6 #[.string s, .string t] w fun e w' => e = .returned (.bool true) ∧ Below w.heap.size w w' := by
  by_cases h5 : 500 < s.size + t.size
  · go_enter Try.func6, Try.ntmps6
    go_wp2_with (go_at_call 19; refine (summed_any _).mono ?_; rintro e w' ⟨rfl, rfl⟩)
    go_ret
    exact ⟨rfl, Below.refl _ _⟩
  · have l1 := sum_lt s.data.toList
    have l2 := sum_lt t.data.toList
    have hs1 : Hid (s.size ≤ maxLen) := by have h : s.size ≤ maxLen := by unfold maxLen; omega
                                           exact h
    have ht1 : Hid (t.size ≤ maxLen) := by have h : t.size ≤ maxLen := by unfold maxLen; omega
                                           exact h
    have hst : Hid ((s ++ t).size ≤ maxLen) := by have h : (s ++ t).size ≤ maxLen := by rw [app_size]; unfold maxLen; omega
                                                  exact h
    have hm : Hid (sum (s ++ t).data.toList = join (sum s.data.toList) (sum t.data.toList) t.size) := by
      have h := join_sum s.data.toList t.data.toList
      rw [← app_data] at h
      exact h.symm
    go_enter Try.func6, Try.ntmps6
    go_wp2_with (first | (go_at_call 19; refine (summed_any _).mono ?_; rintro e w' ⟨rfl, rfl⟩) | (go_at_call 13; refine (sum_any s _ hs1.out).mono ?_; rintro e w' ⟨rfl, rfl⟩) | (go_at_call 13; refine (sum_any t _ ht1.out).mono ?_; rintro e w' ⟨rfl, rfl⟩))
    refine (join_nat _ _ _ _ l1 l2 (by omega)).mono ?_
    rintro e w1 ⟨rfl, hb1⟩
    have HB := Lib.hid hb1
    clear hb1
    go_wp2_with (go_at_call 13; refine (sum_any (s ++ t) _ hst.out).mono ?_; rintro e w' ⟨rfl, rfl⟩; rw [hm.out])
    go_ret
    exact ⟨rfl, HB.out⟩
end Go.Proofs.Ytgjmelinfkifcaa
