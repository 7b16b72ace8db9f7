/-
  The contracts of the document's Zig and Zag.
-/
import Derived.Test.YtimaddmgooefdaaDoorVaryZ
namespace Go.Proofs.YtimaddmgooefdaaDoor
open Go.RowKit

theorem zigr_any (n : Int) (w : World) (h0 : -9223372036854775808 ≤ n) (h1 : n ≤ 9223372036854775807) :
    Calls Tryd.prog 41 #[.int .i64 n] w fun e w' => e = .returned (.int .u64 (zigN n)) ∧ w = w' := by
  by_cases hneg : n < 0
  · go_enter Tryd.func41, Tryd.ntmps41
    go_wp2
    go_ret
    exact ⟨ret_int (by rw [zigN, if_pos hneg]; omega), rfl⟩
  · have h' : 0 ≤ n := by omega
    go_enter Tryd.func41, Tryd.ntmps41
    go_wp2
    go_ret
    exact ⟨ret_int (by rw [zigN, if_neg (by omega)]), rfl⟩
theorem zagr_any (n : Int) (w : World) (h0 : 0 ≤ n) (h1 : n ≤ 18446744073709551615) :
    Calls Tryd.prog 49 #[.int .u64 n] w fun e w' => e = .returned (.int .i64 (zagN n)) ∧ w = w' := by
  by_cases h : n % 2 = 1
  · have hb : (n % 2 == 1) = true := by simpa using h
    have hh := Lib.hid h
    clear h
    go_enter Tryd.func49, Tryd.ntmps49
    go_wp2
    go_ret
    exact ⟨ret_int (by rw [zagN, if_pos hh.out]), rfl⟩
  · have hb : (n % 2 == 1) = false := by simpa using h
    have hh := Lib.hid h
    clear h
    go_enter Tryd.func49, Tryd.ntmps49
    go_wp2
    go_ret
    exact ⟨ret_int (by rw [zagN, if_neg hh.out]), rfl⟩
end Go.Proofs.YtimaddmgooefdaaDoor
