/-
  The walk of 'packtrainkeep.KeysOnly'.
-/
import Derived.Test.YtimaddmgooefdaaDoorKeyTabled
import Derived.Test.YtimaddmgooefdaaDoorPlace
namespace Go.Proofs.YtimaddmgooefdaaDoor
open Go.RowKit

set_option maxRecDepth 100000 in
set_option maxHeartbeats 4000000 in
theorem keysOnly_walk (w : World) (v : Value) (T : List ByteArray) (hv : IsTexts w v T) (hT : T.length ≤ 140737488351232) (hs : ∀ s ∈ T, s.size ≤ 140737488351232) (u : Value) (l : List Int) (hu : IsNums w u l) (hl : l.length ≤ 140737488351232)
    (_hz : ∀ n ∈ l, -9223372036854775808 ≤ n ∧ n ≤ 9223372036854775807) (hg : errT w) :
    Calls Tryd.prog 5 #[v, u] w fun e w' => e = .returned (.bool true) ∧ Below w.heap.size w w' := by
  obtain ⟨a1, c1, rfl⟩ := hv.form
  obtain ⟨a2, c2, rfl⟩ := hu.form
  have HV := Lib.hid hv
  have HU := Lib.hid hu
  have HS := Lib.hid hs
  have HG := Lib.hid hg
  obtain ⟨m, hm⟩ : ∃ m, m = T.length := ⟨_, rfl⟩
  obtain ⟨n, hn⟩ : ∃ n, n = l.length := ⟨_, rfl⟩
  rw [← hm] at hT HV ⊢
  rw [← hn] at hl HU ⊢
  have HM := Lib.hid hm
  have HN := Lib.hid hn
  clear hv hu hs hg hm hn
  go_enter Tryd.func5, Tryd.ntmps5
  go_wp2_with fail
  refine (tabled_any w HG.out).mono ?_
  rintro r w0 ⟨rfl, hb0⟩
  have HB0 := Lib.hid hb0
  have HV0 := Lib.hid (HV.out.below hb0)
  have HU0 := Lib.hid (HU.out.below hb0)
  clear hb0
  by_cases hbig : 100 < m + n
  · have hb : (100 : Int) < (m : Int) + n := by omega
    go_wp2
    go_ret
    exact ⟨rfl, HB0.out⟩
  · have hb : ¬ (100 : Int) < (m : Int) + n := by omega
    have HT6 : Hid (T.length ≤ 1000000) := Lib.hid (by rw [← HM.out]; omega)
    have HL6 : Hid (l.length ≤ 1000000) := Lib.hid (by rw [← HN.out]; omega)
    go_wp2_with fail
    refine (klist_any _ _ T l w0 HV0.out HU0.out HT6.out HL6.out HS.out).mono ?_
    rintro r w1 ⟨v1, err, rfl, ho, he, hb1⟩
    by_cases h0 : (listF T l).2.1 = 0
    · obtain ⟨e1, e2, e3⟩ := listF_ok h0
      obtain rfl := he.nil h0
      rw [e1] at ho
      have HE2 := Lib.hid e2
      have HE3 := Lib.hid e3
      have hol : (outG T l).length ≤ 1000000 := by unfold outG; rw [List.length_map]; exact HL6.out
      have hos : ∀ s ∈ outG T l, s.size ≤ 140737488351232 := by
        intro s hs
        obtain ⟨z, _, rfl⟩ := List.mem_map.1 hs
        rw [List.getD_eq_getElem?_getD]
        by_cases hz : z.toNat < T.length
        · rw [List.getElem?_eq_getElem hz]; exact HS.out _ (List.getElem_mem hz)
        · rw [List.getElem?_eq_none (by omega)]; decide
      have HO1 := Lib.hid ho.isTexts
      have HV1 := Lib.hid (HV0.out.below hb1)
      have HU1 := Lib.hid (HU0.out.below hb1)
      have HB1 := Lib.hid (HB0.out.trans (hb1.mono HB0.out.size))
      have HOL := Lib.hid hol
      have HOS := Lib.hid hos
      clear ho he hb1 h0 e1 e2 e3 hol hos HV0 HU0 HB0
      go_wp2_with fail
      refine (ktab_any _ (outG T l) w1 HO1.out HOL.out HOS.out).mono ?_
      rintro r w2 ⟨v2, v3, rfl, ho1, ho2, hb2⟩
      have ht2 := ho1.isTexts
      have hn2 := ho2.isNums
      rw [HE2.out] at ht2
      rw [HE3.out] at hn2
      have HT2 := Lib.hid ht2
      have HN2 := Lib.hid hn2
      have HV2 := Lib.hid (HV1.out.below hb2)
      have HU2 := Lib.hid (HU1.out.below hb2)
      have HB2 := Lib.hid (HB1.out.trans (hb2.mono HB1.out.size))
      clear ho1 ho2 hb2 ht2 hn2 HO1 HV1 HU1 HB1
      go_wp2_with fail
      refine (teq_same _ _ T w2 HT2.out HV2.out (Nat.le_trans HT6.out (by decide))).mono ?_
      rintro r w4 ⟨rfl, hq4⟩
      have hb4 : Below w2.heap.size w2 w4 := by obtain ⟨q, rfl⟩ := hq4; exact drewN_below _ q
      have HB4 := Lib.hid (HB2.out.trans (hb4.mono HB2.out.size))
      have HN4 := Lib.hid (HN2.out.below hb4)
      have HU4 := Lib.hid (HU2.out.below hb4)
      clear hq4 hb4
      go_wp2_with fail
      refine (neq_same _ _ l w4 HN4.out HU4.out (Nat.le_trans HL6.out (by decide))).mono ?_
      rintro r w5 ⟨rfl, hq5⟩
      have hb5 : Below w4.heap.size w4 w5 := by obtain ⟨q, rfl⟩ := hq5; exact drewN_below _ q
      have HB5 := Lib.hid (HB4.out.trans (hb5.mono HB4.out.size))
      clear hq5 hb5
      go_wp2
      go_ret
      exact ⟨rfl, HB5.out⟩
    · obtain ⟨t, x, rfl⟩ := he.iface h0
      rw [listF_bad h0] at ho
      obtain ⟨a3, c3, rfl⟩ := ho.isTexts.form
      have HB1 := Lib.hid (HB0.out.trans (hb1.mono HB0.out.size))
      clear ho he hb1 h0
      go_wp2
      go_ret
      exact ⟨by simp, HB1.out⟩
end Go.Proofs.YtimaddmgooefdaaDoor
