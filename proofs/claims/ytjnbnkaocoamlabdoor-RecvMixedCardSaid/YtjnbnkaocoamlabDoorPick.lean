/-
  The contract of the laws' 'pick': one of n that a number stands for.
-/
import Derived.Test.YtjnbnkaocoamlabDoorProg
import Derived.WalkKit
import Derived.Handy
import Derived.Lib.Hide
namespace Go.Proofs.YtjnbnkaocoamlabDoor
open Go.RowKit

/-- One of n. -/
def pickN (a n : Int) : Int := (a % 18446744073709551616) % n
theorem pickN_pos {a n : Int} (h : 0 < n) : 0 ≤ pickN a n ∧ pickN a n < n := ⟨Int.emod_nonneg _ (by omega), Int.emod_lt_of_pos _ h⟩

set_option maxRecDepth 100000 in
theorem pick_any (a n : Int) (w : World) (h0 : 0 < n) (h1 : n ≤ 9223372036854775807) :
    Calls Tryd.prog 6 #[.int .i64 a, .int .i64 n] w fun e w' => e = .returned (.int .i64 (pickN a n)) ∧ w = w' := by
  obtain ⟨q, hq'⟩ : ∃ q, IntKind.u64.wrap a = q := ⟨_, rfl⟩
  have hq : 0 ≤ q ∧ q ≤ 18446744073709551615 := by rw [← hq', IntKind.wrap_u64]; omega
  have hr := Int.emod_nonneg q (show n ≠ 0 by omega)
  have hr2 := Int.emod_lt_of_pos q h0
  have hw : Hid (wrap64 (q % n) = pickN a n) := by
    rw [IntWalk.wrap64_in _ ⟨by omega, by omega⟩, ← hq', IntKind.wrap_u64]; rfl
  clear hr hr2
  go_enter Tryd.func6, Tryd.ntmps6
  go_wp2
  go_ret
  refine ⟨?_, rfl⟩
  rw [← hw.out]; rfl
end Go.Proofs.YtjnbnkaocoamlabDoor
