/-
  The contracts of vary's functions as their callers meet them; and the fact that the laws ask first ('counted').
-/
import Derived.Test.YtjnbnkaocoamlabDoorVaryGet
import Derived.Test.YtjnbnkaocoamlabDoorVaryPut
import Derived.Test.YtjnbnkaocoamlabDoorTell
namespace Go.Proofs.YtjnbnkaocoamlabDoor
open Go.RowKit

theorem get_ok (s : ByteArray) (w : World) (hs : s.size ≤ maxLen) (n k : Nat) (h : getL s.data.toList = (n, k, 0)) :
    Calls Tryd.prog 46 #[.string s] w fun e w' => e = .returned (.tuple #[.int .u64 n, .int .i64 k, .nilIface]) ∧ w = w' :=
  (get_any s w hs).mono fun e w' ⟨h1, h2⟩ => ⟨h1.trans (by rw [h]; rfl), h2⟩
theorem get_bad (s : ByteArray) (w : World) (hs : s.size ≤ maxLen) (e : Nat) (h : getL s.data.toList = (0, 0, e)) (he : e ≠ 0) :
    Calls Tryd.prog 46 #[.string s] w fun r w' => r = .returned (.tuple #[.int .u64 0, .int .i64 0, .iface 43 (.int .i64 e)]) ∧ w = w' :=
  (get_any s w hs).mono fun r w' ⟨h1, h2⟩ => ⟨h1.trans (by rw [h]; unfold numV errV; rw [if_neg he]; rfl), h2⟩

theorem put_nat (n : Nat) (w : World) (h : n ≤ 18446744073709551615) :
    Calls Tryd.prog 21 #[.int .u64 (n : Int)] w fun e w' => e = .returned (.string ⟨(putL n).toArray⟩) ∧ Below w.heap.size w w' :=
  put_any (n : Int) w (by omega) (by omega)
theorem putL_300 : putL 300 = [172, 2] := by
  rw [putL_big (by decide), putL_small (by decide)]; rfl

end Go.Proofs.YtjnbnkaocoamlabDoor
