/-
  What the rows of writes assume of four variables (errors.errorType, and three tables of the library's): a fact on the first one's one cell; and a world that meets it.
-/
import Derived.Test.YtpmnflnaeknakaaGreatDoorLaid
import Derived.LaidLaws
namespace Go.Proofs.YtpmnflnaeknakaaGreatDoor
open Go.ChangeShapes Go.WideShapes Go.RowKit

/-- The list that these rows bear. -/
def theLaid4 : List (String × DataW Unit) := [("math/bits.deBruijn32tab", Rows.laid_math_bits_deBruijn32tab), ("math/bits.deBruijn64tab", Rows.laid_math_bits_deBruijn64tab), ("internal/strconv.uint64pow10", Rows.laid_internal_strconv_uint64pow10), ("errors.errorType", Rows.laid_errors_errorType)]
def theData : List (String × DataW Unit) := [("math/bits.deBruijn32tab", Rows.laid_math_bits_deBruijn32tab), ("math/bits.deBruijn64tab", Rows.laid_math_bits_deBruijn64tab), ("internal/strconv.uint64pow10", Rows.laid_internal_strconv_uint64pow10)]

theorem errT_of_laid4 {W : World} (h : laidMetH Tryz.prog theLaid4 W) : errT W := by
  have h' : laidMet Tryz.prog theData W ∧ handlesMet Tryz.prog theLaid W := h
  exact errT_of_laid (show laidMetH Tryz.prog theLaid W from ⟨laidMet_nil _ _, h'.2⟩)

/-- A world that meets the condition: the settled one, the variables' cells laid. -/
noncomputable def laidWorld4 (os : Os) : World :=
  let w0 := laidWorld os
  { w0 with heap := ((w0.heap.modify 3 fun
      | .cells _ t frozen => .cells ((#[0, 1, 28, 2, 29, 14, 24, 3, 30, 22, 20, 15, 25, 17, 4, 8, 31, 27, 13, 23, 21, 19, 16, 7, 26, 12, 18, 6, 11, 5, 10, 9] : Array Int).map (Value.int .u8)) t frozen
      | o => o).modify 4 fun
      | .cells _ t frozen => .cells ((#[0, 1, 56, 2, 57, 49, 28, 3, 61, 58, 42, 50, 38, 29, 17, 4, 62, 47, 59, 36, 45, 43, 51, 22, 53, 39, 33, 30, 24, 18, 12, 5, 63, 55, 48, 27, 60, 41, 37, 16, 46, 35, 44, 21, 52, 32, 23, 11, 54, 26, 40, 15, 34, 20, 31, 10, 25, 14, 19, 9, 13, 8, 7, 6] : Array Int).map (Value.int .u8)) t frozen
      | o => o).modify 2 fun
      | .cells _ t frozen => .cells ((#[1, 10, 100, 1000, 10000, 100000, 1000000, 10000000, 100000000, 1000000000, 10000000000, 100000000000, 1000000000000, 10000000000000, 100000000000000, 1000000000000000, 10000000000000000, 100000000000000000, 1000000000000000000, 10000000000000000000] : Array Int).map (Value.int .u64)) t frozen
      | o => o }
theorem laidWorld4_met (os : Os) (args : Array Value) : laidMetH Tryz.prog theLaid4 ((laidWorld4 os).forCall (fun _ _ => 0) ⟨#[], args, []⟩).memory :=
  laidMetH_of_parts (laidMet_of_run' 8 (by kernel_rfl) (by kernel_rfl)) (by kernel_rfl)
end Go.Proofs.YtpmnflnaeknakaaGreatDoor
