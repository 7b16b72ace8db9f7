/-
  The walk of 'packtrainlaw.MatchFinds'.
-/
import Derived.Test.YtoimmdkfgepdeaaMatchRefFind
namespace Go.Proofs.Ytoimmdkfgepdeaa
open Go.RowKit

set_option maxRecDepth 100000 in
set_option maxHeartbeats 1000000 in
theorem matchFinds_walk (s : ByteArray) (hs : s.size ≤ maxLen) (a : Int) (_ : -9223372036854775808 ≤ a) (_ : a ≤ 9223372036854775807) (w : World) :
    Calls Try.prog 3 #[.string s, .int .i64 a] w fun e w' => e = .returned (.bool true) ∧ Below w.heap.size w w' := by
  by_cases h3 : 3000 < s.size
  · unfold maxLen at hs
    go_enter Try.func3, Try.ntmps3
    go_wp2
    go_ret
    exact ⟨rfl, Below.refl _ _⟩
  · obtain ⟨b, n, hr⟩ : ∃ b n, (if 0 ≤ a then find s.data.toList a.toNat else (0, 0)) = (b, n) := ⟨_, _, rfl⟩
    have HR : Hid (findV (if 0 ≤ a then find s.data.toList a.toNat else (0, 0)) = .tuple #[.int .i64 b, .int .i64 n]) := by
      have h : findV (if 0 ≤ a then find s.data.toList a.toNat else (0, 0)) = .tuple #[.int .i64 b, .int .i64 n] := by rw [hr]; rfl
      exact h
    clear hr
    go_enter Try.func3, Try.ntmps3
    go_wp2_with fail
    refine (rfind_any s a _ hs).mono ?_
    rintro e w1 ⟨rfl, q1, rfl⟩
    rw [HR.out]
    go_wp2_with fail
    refine (find_any s a _ hs).mono ?_
    rintro e w2 ⟨rfl, q2, rfl⟩
    rw [HR.out]
    go_wp2
    go_ret
    exact ⟨rfl, below_drewN (Below.refl _ _) _⟩
end Go.Proofs.Ytoimmdkfgepdeaa
