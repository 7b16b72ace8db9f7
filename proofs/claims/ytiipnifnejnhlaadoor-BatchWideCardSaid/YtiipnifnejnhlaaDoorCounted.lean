/-
  The contracts of vary's functions as their callers meet them; and the fact that the laws ask first ('counted').
-/
import Derived.Test.YtiipnifnejnhlaaDoorVaryPut
import Derived.Test.YtiipnifnejnhlaaDoorTell
namespace Go.Proofs.YtiipnifnejnhlaaDoor
open Go.RowKit


theorem put_nat (n : Nat) (w : World) (h : n ≤ 18446744073709551615) :
    Calls Tryd.prog 62 #[.int .u64 (n : Int)] w fun e w' => e = .returned (.string ⟨(putL n).toArray⟩) ∧ Below w.heap.size w w' :=
  put_any (n : Int) w (by omega) (by omega)
theorem putL_300 : putL 300 = [172, 2] := by
  rw [putL_big (by decide), putL_small (by decide)]; rfl

end Go.Proofs.YtiipnifnejnhlaaDoor
