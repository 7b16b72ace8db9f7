/-
  The walk of 'packtrainkeep.VaryOnly': what is read is written so.
-/
import Derived.Test.YtepfbjfmfnnfdaaDoorCounted
import Derived.Test.YtepfbjfmfnnfdaaDoorStr
import Derived.Test.YtepfbjfmfnnfdaaDoorVaryBoth

import Derived.Deep.RegionHeld3
namespace Go.Proofs.YtepfbjfmfnnfdaaDoor
open Go.RowKit

set_option maxRecDepth 100000 in
set_option maxHeartbeats 1000000 in
theorem varyOnly_walk (s : ByteArray) (hs : s.size ≤ maxLen) (w : World) (hg : errT w) :
    Calls Tryd.prog 6 #[.string s] w fun e w' => e = .returned (.bool true) ∧ Below w.heap.size w w' := by
  have hs2 := hs
  unfold maxLen at hs2
  by_cases h50 : 50 < s.size
  · go_enter Tryd.func6, Tryd.ntmps6
    go_wp2_with fail
    refine (counted_any _ hg).mono ?_
    rintro r w1 ⟨rfl, hb1⟩
    have HB := Lib.hid hb1
    clear hb1
    go_wp2
    go_ret
    exact ⟨rfl, HB.out⟩
  · rcases getL_err s.data.toList with h | h
    · obtain ⟨n, k, he⟩ : ∃ n k, getL s.data.toList = (n, k, 0) := ⟨_, _, by rw [← h]⟩
      obtain ⟨k1, k2, hp⟩ := getL_only he
      have hn : n < 18446744073709551616 := by
        unfold getL at he
        split at he
        · simp only [Prod.mk.injEq] at he; omega
        · rename_i k' hk'
          simp only [Prod.mk.injEq] at he
          obtain ⟨rfl, _, _⟩ := he
          exact (scan_lt hk').2.2.2
      rw [← size_data] at k2
      have hx : s.extract 0 k = ⟨(putL n).toArray⟩ := bs_ext (by rw [ext_data, List.drop_zero, hp])
      have HX := Lib.hid hx
      have HE := Lib.hid he
      have d1 : decide ((1 : Int) ≤ (k : Int)) = true := decide_eq_true (by omega)
      have d2 : decide ((k : Int) ≤ (s.size : Int)) = true := decide_eq_true (by omega)
      have d3 : (0 : Int) ≤ (k : Int) := by omega
      have d4 : (k : Int) ≤ (s.size : Int) := by omega
      have NB : Hid (n ≤ 18446744073709551615) := by have : n ≤ 18446744073709551615 := by omega
                                                     exact this
      clear h he hp hx
      go_enter Tryd.func6, Tryd.ntmps6
      go_wp2_with fail
      refine (counted_any _ hg).mono ?_
      rintro r w1 ⟨rfl, hb1⟩
      go_wp2_with fail
      refine (get_ok _ _ hs n k HE.out).mono ?_
      rintro r w' ⟨rfl, rfl⟩
      have HB := Lib.hid hb1
      clear hb1
      go_wp2_with fail
      clear hs hs2 k1 k2 hn hg h50
      go_region_held3 (fun w' => True) (trivial) (first | (go_at_call 19; refine (put_nat n _ NB.out).mono ?_; rintro r w2 ⟨rfl, hb2⟩))
      rename_i w2 hb2 _
      have HB2 : Hid (Below w.heap.size w w2) := HB.out.drew.trans (hb2.mono HB.out.size)
      clear hb2
      go_wp2
      go_ret
      refine ⟨ret_bool ?_, HB2.out⟩
      rw [HX.out, ByteArray.toList_eq]; exact beq_self_eq_true _
    · obtain ⟨e, he, hne⟩ : ∃ e, getL s.data.toList = (0, 0, e) ∧ e ≠ 0 := by
        have h0 : (getL s.data.toList).2.2 ≠ 0 := by rcases h with h | h | h <;> rw [h] <;> decide
        obtain ⟨g1, g2, _⟩ := getL_bad h0
        exact ⟨_, Prod.ext g1 (Prod.ext g2 rfl), h0⟩
      have HE := Lib.hid he
      clear h he
      go_enter Tryd.func6, Tryd.ntmps6
      go_wp2_with fail
      refine (counted_any _ hg).mono ?_
      rintro r w1 ⟨rfl, hb1⟩
      go_wp2_with fail
      refine (get_bad _ _ hs e HE.out hne).mono ?_
      rintro r w' ⟨rfl, rfl⟩
      have HB := Lib.hid hb1
      clear hb1
      go_wp2
      go_ret
      exact ⟨rfl, HB.out⟩
end Go.Proofs.YtepfbjfmfnnfdaaDoor
