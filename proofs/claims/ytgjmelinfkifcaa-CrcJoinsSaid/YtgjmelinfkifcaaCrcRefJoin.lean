/-
  The contract of packtrainref.JoinSums.
-/
import Derived.Test.YtgjmelinfkifcaaCrcRef
import Derived.Test.YtgjmelinfkifcaaShelf
namespace Go.Proofs.Ytgjmelinfkifcaa
open Go.RowKit

theorem repeat_noughts (n : Nat) : Lib.repeatL [0] n = List.replicate n 0 := by
  induction n with
  | zero => rfl
  | succ n ih => rw [Lib.repeatL, ih]; rfl
theorem noughts_size (n : Nat) : (⟨(Lib.repeatL [0] n).toArray⟩ : ByteArray).size = n := by
  rw [repeat_noughts]
  show (List.replicate n (0 : UInt8)).toArray.size = n
  simp
theorem noughts_run (c n : Nat) : run c (⟨(Lib.repeatL [0] n).toArray⟩ : ByteArray).data.toList = stn (8 * n) c := by
  rw [repeat_noughts, ← run_noughts]

set_option maxRecDepth 100000 in
set_option maxHeartbeats 400000 in
theorem refjoin_nat (a b n : Nat) (w : World) (a1 : a < 4294967296) (b1 : b < 4294967296) (n1 : n ≤ 3000) :
    Calls Try.prog 18 #[.int .u32 a, .int .u32 b, .int .i64 n] w fun e w' => e = .returned (.int .u32 (join a b n : Nat)) ∧ Below w.heap.size w w' := by
  have hn0 : ¬ (n : Int) < 0 := by omega
  have hx := u32_xor_nat (stn (8 * n) a) b (stn_lt _ a1) b1
  go_enter Try.func18, Try.ntmps18
  go_wp2_with fail
  refine (Try.strings_Repeat _ _ _ (by omega) (by show 1 * n ≤ _; omega)).mono ?_
  rintro e w1 ⟨rfl, hb1⟩
  have HB := Lib.hid hb1
  clear hb1
  go_wp2_with fail
  refine (refcarry_any _ _ _ (Int.natCast_nonneg _) (by omega) (by rw [noughts_size]; omega)).mono ?_
  rintro e w' ⟨rfl, rfl⟩
  rw [Int.toNat_natCast, noughts_run]
  go_wp2
  go_ret
  exact ⟨rfl, HB.out⟩

set_option maxRecDepth 100000 in
set_option maxHeartbeats 400000 in
theorem refjoin_less (a b : Int) (n : Int) (w : World) (hn : n < 0) :
    Calls Try.prog 18 #[.int .u32 a, .int .u32 b, .int .i64 n] w fun e w' => e = .returned (.int .u32 0) ∧ w = w' := by
  go_enter Try.func18, Try.ntmps18
  go_wp2
  go_ret
  exact ⟨rfl, rfl⟩
end Go.Proofs.Ytgjmelinfkifcaa
