/-
  The walk of 'packtrainlaw.VectorRights'.
-/
import Derived.Test.YthdflbaknfiglaaDoorVecRefJ
import Derived.Test.YthdflbaknfiglaaDoorVecCov
namespace Go.Proofs.YthdflbaknfiglaaDoor
open Go.RowKit

set_option maxRecDepth 100000 in
set_option maxHeartbeats 4000000 in
theorem vectorRights_walk (w : World) (a : Option Addr) (len cap : Nat) (l : List Ent) (hv : IsEnts w (.slice a len cap) l) (hn : l.length = len) (hc : len ≤ cap) (hm : cap ≤ maxLen) (x : Int) (_ : -9223372036854775808 ≤ x) (_ : x ≤ 9223372036854775807) (hg : errT w) :
    Calls Tryd.prog 3 #[.slice a len cap, .int .i64 x] w fun e w' => e = .returned (.bool true) ∧ Below w.heap.size w w' := by
  unfold maxLen at hm
  have HV := Lib.hid hv
  have HG := Lib.hid hg
  have HLL : Hid (l.length ≤ 9223372036854775807) := Lib.hid (show l.length ≤ 9223372036854775807 by omega)
  obtain ⟨e, pl, hr⟩ : ∃ e pl, vrightF l = (e, pl) := ⟨_, _, rfl⟩
  have HR := Lib.hid hr
  obtain ⟨y, hy⟩ : ∃ y, ofF l x = y := ⟨_, rfl⟩
  have HY := Lib.hid hy
  clear hv hg hr hy hn
  by_cases h100 : len ≤ 100
  · go_enter Tryd.func3, Tryd.ntmps3
    go_wp2_with fail
    refine (vright_any _ l _ HV.out HLL.out).mono ?_
    rintro r w1 ⟨err, rfl, hat, hb1⟩
    rw [HR.out] at hat
    have HAT := Lib.hid hat
    have HB1 := Lib.hid hb1
    clear hat hb1
    go_wp2_with fail
    refine (rvright_as _ l e pl _ (HV.out.below HB1.out) HLL.out HR.out).mono ?_
    rintro r w2 ⟨rfl, hb2⟩
    have HP := Lib.hid (HAT.out.below hb2).place
    have HB2 : Hid (Below w.heap.size w w2) := HB1.out.trans (hb2.mono HB1.out.size)
    clear hb2
    go_wp2_with fail
    refine (placed_ok err e pl _ (HG.out.below HB2.out) HP.out).mono ?_
    rintro r w3 ⟨rfl, hb3⟩
    have HB3 : Hid (Below w.heap.size w w3) := HB2.out.trans (hb3.mono HB2.out.size)
    clear hb3
    go_wp2_with fail
    refine (vof_as _ l x y _ (HV.out.below HB3.out) HLL.out HY.out).mono ?_
    rintro r w4 ⟨rfl, hb4⟩
    have HB4 : Hid (Below w.heap.size w w4) := HB3.out.trans (hb4.mono HB3.out.size)
    clear hb4
    go_wp2_with fail
    refine (rof_as _ l x y _ (HV.out.below HB4.out) HLL.out HY.out).mono ?_
    rintro r w' ⟨rfl, rfl⟩
    go_wp2
    go_ret
    exact ⟨by first | rfl | simp, HB4.out⟩
  · have d1 : 100 < (len : Int) := by omega
    go_enter Tryd.func3, Tryd.ntmps3
    go_wp2
    go_ret
    exact ⟨rfl, Below.refl _ _⟩
end Go.Proofs.YthdflbaknfiglaaDoor
