/-
  The walk of 'packtrainkeep.VaryBack': what is written is read, whatever stands behind it.
-/
import Derived.Test.YtepfbjfmfnnfdaaDoorCounted
import Derived.Test.YtepfbjfmfnnfdaaDoorStr
namespace Go.Proofs.YtepfbjfmfnnfdaaDoor
open Go.RowKit

set_option maxRecDepth 100000 in
set_option maxHeartbeats 1000000 in
theorem varyBack_walk (a : Int) (a0 : 0 ≤ a) (a1 : a ≤ 18446744073709551615) (s : ByteArray) (hs : s.size ≤ maxLen) (w : World) (hg : errT w) :
    Calls Tryd.prog 5 #[.int .u64 a, .string s] w fun e w' => e = .returned (.bool true) ∧ Below w.heap.size w w' := by
  unfold maxLen at hs
  obtain ⟨n, rfl⟩ := Int.eq_ofNat_of_zero_le a0
  by_cases h50 : 50 < s.size
  · go_enter Tryd.func5, Tryd.ntmps5
    go_wp2_with fail
    refine (counted_any _ hg).mono ?_
    rintro r w1 ⟨rfl, hb1⟩
    have HB := Lib.hid hb1
    clear hb1
    go_wp2
    go_ret
    exact ⟨rfl, HB.out⟩
  · go_enter Tryd.func5, Tryd.ntmps5
    go_wp2_with fail
    refine (counted_any _ hg).mono ?_
    rintro r w1 ⟨rfl, hb1⟩
    go_wp2_with fail
    refine (put_nat n _ (by omega)).mono ?_
    rintro r w2 ⟨rfl, hb2⟩
    have HB : Hid (Below w.heap.size w w2) := hb1.trans (hb2.mono hb1.size)
    clear hb1 hb2
    have hl := putL_le10 (n := n) (by omega)
    have hl0 := putL_pos n
    have HG : Hid (getL (putL n ++ s.data.toList) = (n, (putL n).length, 0)) := getL_put _ _ (by omega)
    obtain ⟨l, hl'⟩ : ∃ l, l = putL n := ⟨_, rfl⟩
    rw [← hl'] at hl hl0 HG ⊢
    clear hl'
    have hd : decide ((l.length : Int) ≤ 10) = true := decide_eq_true (by omega)
    go_wp2_with fail
    refine (get_ok _ _ (by unfold maxLen; rw [app_size, bs_size]; omega) n l.length (by rw [app_data]; exact HG.out)).mono ?_
    rintro r w' ⟨rfl, rfl⟩
    go_wp2
    go_ret
    exact ⟨rfl, HB.out⟩
end Go.Proofs.YtepfbjfmfnnfdaaDoor
