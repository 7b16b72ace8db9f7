/-
  The walk of 'packtrainkeep.VaryOrder': a number that is less has no more bytes.
-/
import Derived.Test.YtepfbjfmfnnfdaaDoorCounted
namespace Go.Proofs.YtepfbjfmfnnfdaaDoor
open Go.RowKit

theorem len_mono {a b : Int} (h : a ≤ b) : (putL a.toNat).length ≤ (putL b.toNat).length := by
  rw [putL_sevens, putL_sevens]; exact sevens_mono _ _ (by omega)

set_option maxRecDepth 100000 in
set_option maxHeartbeats 1000000 in
theorem varyOrder_walk (a : Int) (a0 : 0 ≤ a) (a1 : a ≤ 18446744073709551615) (b : Int) (b0 : 0 ≤ b) (b1 : b ≤ 18446744073709551615) (w : World) (hg : errT w) :
    Calls Tryd.prog 10 #[.int .u64 a, .int .u64 b] w fun e w' => e = .returned (.bool true) ∧ Below w.heap.size w w' := by
  by_cases hab : b < a
  · go_enter Tryd.func10, Tryd.ntmps10
    go_wp2_with fail
    refine (counted_any _ hg).mono ?_
    rintro r w1 ⟨rfl, hb1⟩
    have HB := Lib.hid hb1
    clear hb1
    go_wp2
    go_ret
    exact ⟨rfl, HB.out⟩
  · have hle := len_mono (show a ≤ b by omega)
    have l1 := putL_le10 (n := a.toNat) (by omega)
    have l2 := putL_le10 (n := b.toNat) (by omega)
    have hab' : a ≤ b := by omega
    go_enter Tryd.func10, Tryd.ntmps10
    go_wp2_with fail
    refine (counted_any _ hg).mono ?_
    rintro r w1 ⟨rfl, hb1⟩
    go_wp2_with fail
    refine (put_any a _ a0 a1).mono ?_
    rintro r w2 ⟨rfl, hb2⟩
    go_wp2_with fail
    refine (put_any b _ b0 b1).mono ?_
    rintro r w3 ⟨rfl, hb3⟩
    have HB : Hid (Below w.heap.size w w3) := hb1.trans ((hb2.mono hb1.size).trans (hb3.mono (Nat.le_trans hb1.size hb2.size)))
    clear hb1 hb2 hb3
    go_wp2
    go_ret
    exact ⟨rfl, HB.out⟩
end Go.Proofs.YtepfbjfmfnnfdaaDoor
