/-
  The contracts of vary's functions as their callers meet them; and the fact that the laws ask first ('counted').
-/
import Derived.Test.YtepfbjfmfnnfdaaDoorVaryGet
import Derived.Test.YtepfbjfmfnnfdaaDoorVaryPut
import Derived.Test.YtepfbjfmfnnfdaaDoorVaryZ
import Derived.Test.YtepfbjfmfnnfdaaDoorTell
namespace Go.Proofs.YtepfbjfmfnnfdaaDoor
open Go.RowKit

theorem get_ok (s : ByteArray) (w : World) (hs : s.size ≤ maxLen) (n k : Nat) (h : getL s.data.toList = (n, k, 0)) :
    Calls Tryd.prog 18 #[.string s] w fun e w' => e = .returned (.tuple #[.int .u64 n, .int .i64 k, .nilIface]) ∧ w = w' :=
  (get_any s w hs).mono fun e w' ⟨h1, h2⟩ => ⟨h1.trans (by rw [h]; rfl), h2⟩
theorem get_bad (s : ByteArray) (w : World) (hs : s.size ≤ maxLen) (e : Nat) (h : getL s.data.toList = (0, 0, e)) (he : e ≠ 0) :
    Calls Tryd.prog 18 #[.string s] w fun r w' => r = .returned (.tuple #[.int .u64 0, .int .i64 0, .iface 23 (.int .i64 e)]) ∧ w = w' :=
  (get_any s w hs).mono fun r w' ⟨h1, h2⟩ => ⟨h1.trans (by rw [h]; unfold numV errV; rw [if_neg he]; rfl), h2⟩

theorem put_nat (n : Nat) (w : World) (h : n ≤ 18446744073709551615) :
    Calls Tryd.prog 19 #[.int .u64 (n : Int)] w fun e w' => e = .returned (.string ⟨(putL n).toArray⟩) ∧ Below w.heap.size w w' :=
  put_any (n : Int) w (by omega) (by omega)
theorem putL_300 : putL 300 = [172, 2] := by
  rw [putL_big (by decide), putL_small (by decide)]; rfl

set_option maxRecDepth 100000 in
set_option maxHeartbeats 1000000 in
theorem counted_any (w : World) (hg : errT w) : Calls Tryd.prog 24 #[] w fun r w' => r = .returned (.bool true) ∧ Below w.heap.size w w' := by
  have HG := Lib.hid hg
  clear hg
  go_enter Tryd.func24, Tryd.ntmps24
  go_wp2_with fail
  refine (get_ok ⟨#[172, 2, 120]⟩ _ (by decide) 300 2 (by decide)).mono ?_
  rintro r w' ⟨rfl, rfl⟩
  go_wp2_with fail
  refine (get_bad ⟨#[128, 0]⟩ _ (by decide) 3 (by decide) (by decide)).mono ?_
  rintro r w' ⟨rfl, rfl⟩
  go_wp2_with fail
  refine (tell_err _ 3 _ HG.out (.inl rfl)).mono ?_
  rintro r w1 ⟨rfl, hb1⟩
  go_wp2_with fail
  refine (put_any 300 _ (by decide) (by decide)).mono ?_
  rintro r w2 ⟨rfl, hb2⟩
  rw [show (300 : Int).toNat = 300 from rfl, putL_300]
  go_wp2_with fail
  refine (zig_any (-3) _ (by decide) (by decide)).mono ?_
  rintro r w' ⟨rfl, rfl⟩
  rw [show zigN (-3) = 5 from rfl]
  go_wp2_with fail
  refine (zag_any 6 _ (by decide) (by decide)).mono ?_
  rintro r w' ⟨rfl, rfl⟩
  rw [show zagN 6 = 3 from rfl]
  go_wp2
  go_ret
  exact ⟨rfl, hb1.trans (hb2.mono hb1.size)⟩
end Go.Proofs.YtepfbjfmfnnfdaaDoor
