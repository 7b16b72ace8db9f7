/-
  The walk of 'packtrainkeep.VectorTimes'.
-/
import Derived.Test.YthdflbaknfiglaaDoorVecFact
import Derived.Test.YthdflbaknfiglaaDoorVecLaw
namespace Go.Proofs.YthdflbaknfiglaaDoor
open Go.RowKit

set_option maxRecDepth 100000 in
set_option maxHeartbeats 4000000 in
theorem vectorTimes_walk (w : World) (a0 : Option Addr) (len0 cap0 : Nat) (l0 : List Ent) (hv0 : IsEnts w (.slice a0 len0 cap0) l0) (hn0 : l0.length = len0) (hc0 : len0 ≤ cap0) (hm0 : cap0 ≤ maxLen) (a1 : Option Addr) (len1 cap1 : Nat) (l1 : List Ent) (hv1 : IsEnts w (.slice a1 len1 cap1) l1) (hn1 : l1.length = len1) (hc1 : len1 ≤ cap1) (hm1 : cap1 ≤ maxLen) (x : Int) (_ : -9223372036854775808 ≤ x) (_ : x ≤ 9223372036854775807) (hg : errT w) :
    Calls Tryd.prog 12 #[.slice a0 len0 cap0, .slice a1 len1 cap1, .int .i64 x] w fun e w' => e = .returned (.bool true) ∧ Below w.heap.size w w' := by
  have HV0 := Lib.hid hv0
  have HL0 : Hid (l0.length ≤ 9223372036854775807) := Lib.hid (show l0.length ≤ 9223372036854775807 by unfold maxLen at hm0; omega)
  have HV1 := Lib.hid hv1
  have HL1 : Hid (l1.length ≤ 9223372036854775807) := Lib.hid (show l1.length ≤ 9223372036854775807 by unfold maxLen at hm1; omega)
  have HG := Lib.hid hg
  clear hv0 hm0 hv1 hm1 hg
  by_cases hall : allR [l0, l1] = true
  · have HX := Lib.hid hall
    have hr := allR_iff.1 hall
    have HR0 : Hid (rightV l0) := Lib.hid (hr l0 (by simp))
    have HR1 : Hid (rightV l1) := Lib.hid (hr l1 (by simp))
    clear hall hr
    go_enter Tryd.func12, Tryd.ntmps12
    go_wp2_with fail
    refine (known_any _ HG.out).mono ?_
    rintro r w1 ⟨rfl, hb1⟩
    have HB1 := Lib.hid hb1
    clear hb1
    go_wp2_with fail
    refine (few_two _ _ l0 l1 true _ (HV0.out.below HB1.out) (HV1.out.below HB1.out) HL0.out HL1.out HX.out).mono ?_
    rintro r w2 ⟨rfl, hb2⟩
    have HB2 : Hid (Below w.heap.size w w2) := HB1.out.trans (hb2.mono HB1.out.size)
    clear hb2
    rcases join_two HR0.out HR1.out with ⟨hlen, hj⟩ | ⟨hlen, hj, hrj⟩
    · have HJ := Lib.hid hj
      clear hlen hj
      go_wp2_with fail
      refine (vjoin_bad _ _ l0 l1 [] 4 _ (HV0.out.below HB2.out) (HV1.out.below HB2.out) HL0.out HL1.out (HG.out.below HB2.out) HJ.out (by decide)).mono ?_
      rintro r w3 ⟨v, rfl, hi3, hb3⟩
      have HB3 : Hid (Below w.heap.size w w3) := HB2.out.trans (hb3.mono HB2.out.size)
      have HI_v := Lib.hid hi3
      clear hi3
      clear hb3
      go_wp2
      go_ret
      exact ⟨rfl, HB3.out⟩
    · have HJ := Lib.hid hj
      have HO := Lib.hid (join_of HR0.out.2 HR1.out.2 x)
      have HJL : Hid ((joinL l0 l1).length ≤ 9223372036854775807) := Lib.hid (show (joinL l0 l1).length ≤ 9223372036854775807 by omega)
      obtain ⟨y, hy⟩ : ∃ y, ofF l0 x = y := ⟨_, rfl⟩
      obtain ⟨z, hz⟩ : ∃ z, ofF l1 x = z := ⟨_, rfl⟩
      obtain ⟨m, hmx⟩ : ∃ m, max y z = m := ⟨_, rfl⟩
      have hmx2 : (if y < z then z else y) = m := by rw [← hmx]; split <;> omega
      rw [hy, hz, hmx] at HO
      have HY := Lib.hid hy
      have HZ := Lib.hid hz
      clear hlen hj hrj hy hz
      go_wp2_with fail
      refine (vjoin_good _ _ l0 l1 (joinL l0 l1) _ (HV0.out.below HB2.out) (HV1.out.below HB2.out) HL0.out HL1.out (HG.out.below HB2.out) HJ.out).mono ?_
      rintro r w3 ⟨v, rfl, hi3, hb3⟩
      have HB3 : Hid (Below w.heap.size w w3) := HB2.out.trans (hb3.mono HB2.out.size)
      have HI_v := Lib.hid hi3
      clear hi3
      clear hb3
      go_wp2_with fail
      refine (vof_as v (joinL l0 l1) x m _ HI_v.out HJL.out HO.out).mono ?_
      rintro r w4 ⟨rfl, hb4⟩
      have HB4 : Hid (Below w.heap.size w w4) := HB3.out.trans (hb4.mono HB3.out.size)
      clear hb4
      go_wp2_with fail
      refine (vof_as _ l0 x y _ (HV0.out.below HB4.out) HL0.out HY.out).mono ?_
      rintro r w5 ⟨rfl, hb5⟩
      have HB5 : Hid (Below w.heap.size w w5) := HB4.out.trans (hb5.mono HB4.out.size)
      clear hb5
      go_wp2_with fail
      refine (vof_as _ l1 x z _ (HV1.out.below HB5.out) HL1.out HZ.out).mono ?_
      rintro r w6 ⟨rfl, hb6⟩
      have HB6 : Hid (Below w.heap.size w w6) := HB5.out.trans (hb6.mono HB5.out.size)
      clear hb6
      go_wp2
      all_goals
        go_ret
        exact ⟨by first | rfl | simp, HB6.out⟩
  · have HX : Hid (allR [l0, l1] = false) := Lib.hid (by simpa using hall)
    clear hall
    go_enter Tryd.func12, Tryd.ntmps12
    go_wp2_with fail
    refine (known_any _ HG.out).mono ?_
    rintro r w1 ⟨rfl, hb1⟩
    have HB1 := Lib.hid hb1
    clear hb1
    go_wp2_with fail
    refine (few_two _ _ l0 l1 false _ (HV0.out.below HB1.out) (HV1.out.below HB1.out) HL0.out HL1.out HX.out).mono ?_
    rintro r w2 ⟨rfl, hb2⟩
    have HB2 : Hid (Below w.heap.size w w2) := HB1.out.trans (hb2.mono HB1.out.size)
    clear hb2
    go_wp2
    go_ret
    exact ⟨rfl, HB2.out⟩
end Go.Proofs.YthdflbaknfiglaaDoor
