/-
  The walk of 'packtrainkeep.VaryLong': a number has one byte more for each seven bits.
-/
import Derived.Test.YtepfbjfmfnnfdaaDoorCounted
namespace Go.Proofs.YtepfbjfmfnnfdaaDoor
open Go.RowKit

theorem sevens_le10 {n : Nat} (h : n < 18446744073709551616) : sevens n ≤ 10 := by rw [← putL_sevens]; exact putL_le10 h

set_option maxRecDepth 100000 in
set_option maxHeartbeats 1000000 in
theorem varyLong_walk (a : Int) (a0 : 0 ≤ a) (a1 : a ≤ 18446744073709551615) (w : World) (hg : errT w) :
    Calls Tryd.prog 7 #[.int .u64 a] w fun e w' => e = .returned (.bool true) ∧ Below w.heap.size w w' := by
  obtain ⟨n, rfl⟩ := Int.eq_ofNat_of_zero_le a0
  have hs := sevens_le10 (n := n) (by omega)
  go_enter Tryd.func7, Tryd.ntmps7
  go_wp2_with fail
  refine (counted_any _ hg).mono ?_
  rintro r w1 ⟨rfl, hb1⟩
  have HB := Lib.hid hb1
  clear hb1
  go_wp2
  go_loop [3, 4] (fun k m => ∃ (j m' : Nat), k = .int .i64 (j : Int) ∧ m = .int .u64 ((m' : Int) / 128) ∧ m' ≤ n ∧ 1 ≤ j ∧ j + sevens m' = sevens n + 1) (fun _ m => (intOf m).toNat)
  case atStart => exact ⟨1, n, rfl, rfl, Nat.le_refl _, Nat.le_refl _, by omega⟩
  case round =>
    obtain ⟨j, m', rfl, rfl, hm, hj, hsum⟩ := hrel
    have HS := Lib.hid hsum
    have hj2 : j ≤ 10 := by have := sevens_pos m'; omega
    clear hsum
    by_cases hz : m' < 128
    · have hq : (m' : Int) / 128 = 0 := by omega
      have hl : (((putL n).length : Int) == (j : Int)) = true := by
        rw [beq_iff_eq, putL_sevens]
        have := HS.out
        rw [sevens_small hz] at this
        omega
      go_wp2_with fail
      refine (put_any (n : Int) _ a0 a1).mono ?_
      rintro r w2 ⟨rfl, hb2⟩
      rw [Int.toNat_natCast]
      have HB2 : Hid (Below w.heap.size w w2) := HB.out.trans (hb2.mono HB.out.size)
      clear hb2
      go_wp2
      go_ret
      exact ⟨rfl, HB2.out⟩
    · go_wp2
      go_round
      case rel => exact ⟨j + 1, m' / 128, by go_num, by go_num, by omega, by omega, by have := HS.out; rw [sevens_big hz] at this; omega⟩
      case measure => simp [intOf]; omega
end Go.Proofs.YtepfbjfmfnnfdaaDoor
