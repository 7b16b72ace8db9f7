/-
  The walk of 'packtrainlaw.VectorJoins'.
-/
import Derived.Test.YthdflbaknfiglaaDoorVecRefJ
import Derived.Test.YthdflbaknfiglaaDoorVecCov
import Derived.Test.YthdflbaknfiglaaDoorVecJoin
import Derived.Test.YthdflbaknfiglaaDoorEntEq
namespace Go.Proofs.YthdflbaknfiglaaDoor
open Go.RowKit

theorem noV_place (w : World) (e : Nat) : placeIs w (noV e) e (-1) := by
  by_cases h : e = 0
  · subst h; exact .inl ⟨rfl, rfl, rfl⟩
  · rw [noV_e h]; exact .inr (.inl ⟨rfl, rfl⟩)
theorem joinR_few (a b : List Ent) : (joinR a b).2.length ≤ 16 := by
  unfold joinR
  split
  · exact Nat.zero_le _
  · split
    · exact Nat.zero_le _
    · split
      · exact Nat.zero_le _
      · simp only; omega

set_option maxRecDepth 100000 in
set_option maxHeartbeats 4000000 in
theorem vectorJoins_walk (w : World) (a : Option Addr) (len cap : Nat) (l : List Ent) (hv : IsEnts w (.slice a len cap) l) (hn : l.length = len) (hc : len ≤ cap) (hm : cap ≤ maxLen)
    (a' : Option Addr) (len' cap' : Nat) (l' : List Ent) (hv' : IsEnts w (.slice a' len' cap') l') (hn' : l'.length = len') (hc' : len' ≤ cap') (hm' : cap' ≤ maxLen) (hg : errT w) :
    Calls Tryd.prog 4 #[.slice a len cap, .slice a' len' cap'] w fun e w' => e = .returned (.bool true) ∧ Below w.heap.size w w' := by
  unfold maxLen at hm hm'
  have HV := Lib.hid hv
  have HV' := Lib.hid hv'
  have HG := Lib.hid hg
  have HLL : Hid (l.length ≤ 9223372036854775807) := Lib.hid (show l.length ≤ 9223372036854775807 by omega)
  have HLL' : Hid (l'.length ≤ 9223372036854775807) := Lib.hid (show l'.length ≤ 9223372036854775807 by omega)
  obtain ⟨e, j, hj⟩ : ∃ e j, joinR l l' = (e, j) := ⟨_, _, rfl⟩
  have HJ := Lib.hid hj
  have HJL : Hid (j.length ≤ 16) := Lib.hid (show j.length ≤ 16 by have := joinR_few l l'; rw [hj] at this; exact this)
  obtain ⟨cv, hcv⟩ : ∃ c, covB l l' = c := ⟨_, rfl⟩
  have HCV := Lib.hid hcv
  clear hv hv' hg hj hcv hn hn'
  by_cases h100 : 100 < wrap64 ((len : Int) + (len' : Int))
  · go_enter Tryd.func4, Tryd.ntmps4
    go_wp2
    go_ret
    exact ⟨rfl, Below.refl _ _⟩
  · have d1 : wrap64 ((len : Int) + (len' : Int)) ≤ 100 := by omega
    go_enter Tryd.func4, Tryd.ntmps4
    go_wp2_with fail
    refine (rvjoin_any _ _ l l' _ HV.out HV'.out HLL.out HLL'.out).mono ?_
    rintro r w1 ⟨v, rfl, ho, hb1⟩
    rw [HJ.out] at ho ⊢
    simp only
    have HO1 := Lib.hid ho
    have HB1 := Lib.hid hb1
    clear ho hb1
    go_wp2_with fail
    refine (vjoin_any _ _ l l' _ (HV.out.below HB1.out) (HV'.out.below HB1.out) HLL.out HLL'.out (HG.out.below HB1.out)).mono ?_
    rintro r w2 ⟨v2, rfl, ho, hb2⟩
    rw [HJ.out] at ho ⊢
    simp only
    obtain ⟨nv, hnv⟩ : ∃ nv, noV e = nv := ⟨_, rfl⟩
    rw [hnv]
    have HO2 := Lib.hid (show ownsE w2 w1.heap.size v2 j from ho)
    have HI1 := Lib.hid (show IsEnts w2 v j from (show ownsE w1 w.heap.size v j from HO1.out).is.below hb2)
    have HB2 : Hid (Below w.heap.size w w2) := HB1.out.trans (hb2.mono HB1.out.size)
    have HP : Hid (placeIs w2 nv e (-1)) := Lib.hid (by rw [← hnv]; exact noV_place _ _)
    clear ho hb2 hnv
    go_wp2_with fail
    refine (bare_ok nv e _ (HG.out.below HB2.out) HP.out).mono ?_
    rintro r w3 ⟨rfl, hb3⟩
    have HB3 : Hid (Below w.heap.size w w3) := HB2.out.trans (hb3.mono HB2.out.size)
    have HI3 := Lib.hid (HI1.out.below hb3)
    have HO3 := Lib.hid (HO2.out.is.below hb3)
    clear hb3
    go_wp2_with fail
    refine (equal_same v v2 j _ HI3.out HO3.out (by have := HJL.out; omega)).mono ?_
    rintro r w' ⟨rfl, q, rfl⟩
    have HB4 : Hid (Below w.heap.size w (w3.drewN q)) := below_drewq HB3.out q
    obtain ⟨w4, hw4⟩ : ∃ w4, w3.drewN q = w4 := ⟨_, rfl⟩
    rw [hw4] at HB4 ⊢
    clear hw4
    go_wp2_with fail
    refine (vcov_any _ _ l l' _ (HV.out.below HB4.out) (HV'.out.below HB4.out) HLL.out HLL'.out).mono ?_
    rintro r w5 ⟨rfl, hb5⟩
    rw [HCV.out]
    have HB5 : Hid (Below w.heap.size w w5) := HB4.out.trans (hb5.mono HB4.out.size)
    clear hb5
    go_wp2_with fail
    refine (rcov_any _ _ l l' _ (HV.out.below HB5.out) (HV'.out.below HB5.out) HLL.out HLL'.out).mono ?_
    rintro r w6 ⟨rfl, hb6⟩
    rw [HCV.out]
    have HB6 : Hid (Below w.heap.size w w6) := HB5.out.trans (hb6.mono HB5.out.size)
    clear hb6
    go_wp2
    go_ret
    exact ⟨by first | rfl | simp, HB6.out⟩
end Go.Proofs.YthdflbaknfiglaaDoor
