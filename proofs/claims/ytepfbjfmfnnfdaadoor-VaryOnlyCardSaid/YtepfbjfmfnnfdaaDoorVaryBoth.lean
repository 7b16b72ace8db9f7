/-
  The walk of 'packtrainkeep.VaryBoth': each number comes back from its sign below; near 0 they are small.
-/
import Derived.Test.YtepfbjfmfnnfdaaDoorCounted
import Derived.Laws.BitsAllLaws
namespace Go.Proofs.YtepfbjfmfnnfdaaDoor
open Go.RowKit

theorem zig_bounds {n : Int} (h0 : -9223372036854775808 ≤ n) (h1 : n ≤ 9223372036854775807) : 0 ≤ zigN n ∧ zigN n ≤ 18446744073709551615 := by unfold zigN; split <;> omega
theorem zag_bounds {n : Int} (h0 : 0 ≤ n) (h1 : n ≤ 18446744073709551615) : -9223372036854775808 ≤ zagN n ∧ zagN n ≤ 9223372036854775807 := by unfold zagN; split <;> omega
theorem zag_zig (n : Int) : zagN (zigN n) = n := by unfold zigN zagN; split <;> split <;> omega
theorem zig_zag {n : Int} (h0 : 0 ≤ n) : zigN (zagN n) = n := by unfold zigN zagN; split <;> split <;> omega
theorem and_one {x : Int} (h0 : 0 ≤ x) (h1 : x ≤ 18446744073709551615) : bits .and .u64 x 1 = x % 2 := by
  obtain ⟨m, rfl⟩ := Int.eq_ofNat_of_zero_le h0
  rw [show (1 : Int) = ((1 : Nat) : Int) from rfl, u64_and_nat _ _ (by omega) (by omega), Nat.and_one_is_mod]
  omega

theorem sign_eq {n : Int} (h0 : -9223372036854775808 ≤ n) (h1 : n ≤ 9223372036854775807) : bits .and .u64 (zigN n) 1 = IntKind.u64.wrap n / 9223372036854775808 := by
  obtain ⟨z0, z1⟩ := zig_bounds h0 h1
  rw [and_one z0 z1, IntKind.wrap_u64]
  unfold zigN; split <;> omega
theorem zig_neg_is {n : Int} (h : n < 0) : zigN n = 2 * -(n + 1) + 1 := by unfold zigN; rw [if_pos h]; omega
theorem zig_pos_is {n : Int} (h : 0 ≤ n) : zigN n = 2 * n := by unfold zigN; rw [if_neg (by omega)]
theorem ret_bool {a b : Bool} (h : a = b) : Ending.returned (.bool a) = .returned (.bool b) := by rw [h]

set_option maxRecDepth 100000 in
set_option maxHeartbeats 1000000 in
theorem varyBoth_walk (n : Int) (a0 : -9223372036854775808 ≤ n) (a1 : n ≤ 9223372036854775807) (u : Int) (b0 : 0 ≤ u) (b1 : u ≤ 18446744073709551615) (w : World) (hg : errT w) :
    Calls Tryd.prog 9 #[.int .i64 n, .int .u64 u] w fun e w' => e = .returned (.bool true) ∧ Below w.heap.size w w' := by
  obtain ⟨z0, z1⟩ := zig_bounds a0 a1
  obtain ⟨y0, y1⟩ := zag_bounds b0 b1
  have Z := Lib.hid (zag_zig n)
  have Y := Lib.hid (zig_zag b0)
  have A := Lib.hid (sign_eq a0 a1)
  by_cases hn : n < 0
  · have E := Lib.hid (zig_neg_is hn)
    go_enter Tryd.func9, Tryd.ntmps9
    go_wp2_with fail
    refine (counted_any _ hg).mono ?_
    rintro r w1 ⟨rfl, hb1⟩
    have HB := Lib.hid hb1
    clear hb1
    go_wp2_with fail
    refine (zig_any n _ a0 a1).mono ?_
    rintro r w' ⟨rfl, rfl⟩
    go_wp2_with fail
    refine (zag_any _ _ z0 z1).mono ?_
    rintro r w' ⟨rfl, rfl⟩
    rw [Z.out]
    go_wp2_with fail
    refine (zag_any u _ b0 b1).mono ?_
    rintro r w' ⟨rfl, rfl⟩
    go_wp2_with fail
    refine (zig_any _ _ y0 y1).mono ?_
    rintro r w' ⟨rfl, rfl⟩
    rw [Y.out]
    go_wp2
    · go_ret
      refine ⟨ret_bool ?_, HB.out⟩
      simp [E.out]
    all_goals exact absurd A.out (by assumption)
  · have hn' : 0 ≤ n := by omega
    have A2 : Hid (bits .and .u64 (zigN n) 1 = n / 9223372036854775808) := by have h := A.out; rw [IntWalk.u64_in n ⟨hn', by omega⟩] at h; exact h
    have E := Lib.hid (zig_pos_is hn')
    go_enter Tryd.func9, Tryd.ntmps9
    go_wp2_with fail
    refine (counted_any _ hg).mono ?_
    rintro r w1 ⟨rfl, hb1⟩
    have HB := Lib.hid hb1
    clear hb1
    go_wp2_with fail
    refine (zig_any n _ a0 a1).mono ?_
    rintro r w' ⟨rfl, rfl⟩
    go_wp2_with fail
    refine (zag_any _ _ z0 z1).mono ?_
    rintro r w' ⟨rfl, rfl⟩
    rw [Z.out]
    go_wp2_with fail
    refine (zag_any u _ b0 b1).mono ?_
    rintro r w' ⟨rfl, rfl⟩
    go_wp2_with fail
    refine (zig_any _ _ y0 y1).mono ?_
    rintro r w' ⟨rfl, rfl⟩
    rw [Y.out]
    go_wp2
    · go_ret
      refine ⟨ret_bool ?_, HB.out⟩
      simp [E.out]
    all_goals first | exact absurd (Or.inr E.out) (by assumption) | exact absurd A2.out (by assumption)
end Go.Proofs.YtepfbjfmfnnfdaaDoor
