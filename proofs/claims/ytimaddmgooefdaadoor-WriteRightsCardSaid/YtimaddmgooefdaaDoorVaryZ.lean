/-
  The contracts of vary.Zig and vary.Zag.
-/
import Derived.Test.YtimaddmgooefdaaDoorProg
import Derived.WalkKit
import Derived.Handy
import Derived.Lib.Hide
namespace Go.Proofs.YtimaddmgooefdaaDoor
open Go.RowKit

theorem i64_not_any (x : Int) (h0 : -9223372036854775808 ≤ x) (h1 : x ≤ 9223372036854775807) : bits .xor .i64 (-1) x = -x - 1 := by
  show IntKind.i64.wrap ((BitVec.ofInt 64 (-1) ^^^ BitVec.ofInt 64 x).toNat : Int) = _
  have e1 : BitVec.ofInt 64 (-1) = BitVec.allOnes 64 := by decide
  have e2 : (BitVec.ofInt 64 x).toNat = (x % 18446744073709551616).toNat := by rw [BitVec.toNat_ofInt]; rfl
  rw [e1, BitVec.allOnes_xor, BitVec.toNat_not, e2, IntKind.wrap_i64]
  omega

theorem ret_int {k : IntKind} {a b : Int} (h : a = b) : Ending.returned (.int k a) = .returned (.int k b) := by rw [h]

def zigN (n : Int) : Int := if n < 0 then -2 * n - 1 else 2 * n
def zagN (u : Int) : Int := if u % 2 = 1 then -(u / 2) - 1 else u / 2

theorem zig_any (n : Int) (w : World) (h0 : -9223372036854775808 ≤ n) (h1 : n ≤ 9223372036854775807) :
    Calls Tryd.prog 62 #[.int .i64 n] w fun e w' => e = .returned (.int .u64 (zigN n)) ∧ w = w' := by
  by_cases hneg : n < 0
  · have hn : Hid (bits .xor .i64 (-1) n = -n - 1) := Lib.hid (i64_not_any n h0 h1)
    go_enter Tryd.func62, Tryd.ntmps62
    go_wp2
    go_ret
    refine ⟨ret_int ?_, rfl⟩
    rw [hn.out, zigN, if_pos hneg]
    simp only [IntKind.wrap_u64]; omega
  · have h' : 0 ≤ n := by omega
    go_enter Tryd.func62, Tryd.ntmps62
    go_wp2
    go_ret
    exact ⟨ret_int (by rw [zigN, if_neg (by omega)]), rfl⟩

theorem zag_any (n : Int) (w : World) (h0 : 0 ≤ n) (h1 : n ≤ 18446744073709551615) :
    Calls Tryd.prog 64 #[.int .u64 n] w fun e w' => e = .returned (.int .i64 (zagN n)) ∧ w = w' := by
  by_cases h : n % 2 = 1
  · have hb : (n % 2 == 1) = true := by simpa using h
    have hn : Hid (bits .xor .i64 (-1) (n / 2) = -(n / 2) - 1) := Lib.hid (i64_not_any (n / 2) (by omega) (by omega))
    have hh := Lib.hid h
    clear h
    go_enter Tryd.func64, Tryd.ntmps64
    go_wp2
    go_ret
    exact ⟨ret_int (by show bits .xor .i64 (-1) (n / 2) = _; rw [hn.out, zagN, if_pos hh.out]), rfl⟩
  · have hb : (n % 2 == 1) = false := by simpa using h
    have hh := Lib.hid h
    clear h
    go_enter Tryd.func64, Tryd.ntmps64
    go_wp2
    go_ret
    exact ⟨ret_int (by rw [zagN, if_neg hh.out]), rfl⟩

end Go.Proofs.YtimaddmgooefdaaDoor
