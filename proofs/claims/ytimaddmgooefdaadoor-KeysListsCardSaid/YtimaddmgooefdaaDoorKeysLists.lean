/-
  The walk of 'packtrainlaw.KeysLists'.
-/
import Derived.Test.YtimaddmgooefdaaDoorKeyRefList
import Derived.Test.YtimaddmgooefdaaDoorKeyTabled
import Derived.Test.YtimaddmgooefdaaDoorPlace
namespace Go.Proofs.YtimaddmgooefdaaDoor
open Go.RowKit

set_option maxRecDepth 100000 in
set_option maxHeartbeats 4000000 in
theorem keysLists_walk (w : World) (v : Value) (T : List ByteArray) (hv : IsTexts w v T) (hT : T.length ≤ 140737488351232) (hs : ∀ s ∈ T, s.size ≤ 140737488351232) (u : Value) (l : List Int) (hu : IsNums w u l) (hl : l.length ≤ 140737488351232)
    (_hz : ∀ n ∈ l, -9223372036854775808 ≤ n ∧ n ≤ 9223372036854775807) (hg : errT w) :
    Calls Tryd.prog 3 #[v, u] w fun e w' => e = .returned (.bool true) ∧ Below w.heap.size w w' := by
  obtain ⟨a1, c1, rfl⟩ := hv.form
  obtain ⟨a2, c2, rfl⟩ := hu.form
  have HV := Lib.hid hv
  have HU := Lib.hid hu
  have HS := Lib.hid hs
  have HG := Lib.hid hg
  obtain ⟨m, hm⟩ : ∃ m, m = T.length := ⟨_, rfl⟩
  obtain ⟨n, hn⟩ : ∃ n, n = l.length := ⟨_, rfl⟩
  rw [← hm] at hT HV ⊢
  rw [← hn] at hl HU ⊢
  have HM := Lib.hid hm
  have HN := Lib.hid hn
  clear hv hu hs hg hm hn
  by_cases hbig : 150 < m + n
  · have hb : (150 : Int) < (m : Int) + n := by omega
    go_enter Tryd.func3, Tryd.ntmps3
    go_wp2
    go_ret
    exact ⟨rfl, Below.refl _ _⟩
  · have hb : ¬ (150 : Int) < (m : Int) + n := by omega
    have HT6 : Hid (T.length ≤ 1000000) := Lib.hid (by rw [← HM.out]; omega)
    have HL6 : Hid (l.length ≤ 1000000) := Lib.hid (by rw [← HN.out]; omega)
    obtain ⟨R, E, P, hF⟩ : ∃ R E P, listF T l = (R, E, P) := ⟨_, _, _, rfl⟩
    have hRl : R.length ≤ 9223372036854775807 := by
      by_cases h0 : (listF T l).2.1 = 0
      · have := (listF_ok h0).1
        rw [hF] at this
        simp only [Prod.mk.injEq] at this
        rw [this.1]; unfold outG; rw [List.length_map]; have := HL6.out; omega
      · have := listF_bad h0
        rw [hF] at this
        simp only at this
        rw [this]; simp
    have HF := Lib.hid hF
    have HRL := Lib.hid hRl
    clear hF hRl
    go_enter Tryd.func3, Tryd.ntmps3
    go_wp2_with fail
    refine (rlist_any _ _ T l w HV.out HU.out HT6.out HL6.out).mono ?_
    rintro r w1 ⟨v1, rfl, ho1, hb1⟩
    rw [HF.out] at ho1 ⊢
    have HO1 := Lib.hid ho1.isTexts
    have HB1 := Lib.hid hb1
    have HV1 := Lib.hid (HV.out.below hb1)
    have HU1 := Lib.hid (HU.out.below hb1)
    have HG1 := Lib.hid (HG.out.below hb1)
    clear ho1 hb1
    go_wp2_with fail
    refine (klist_any _ _ T l _ (HV1.out.alloc _) (HU1.out.alloc _) HT6.out HL6.out HS.out).mono ?_
    rintro r w2 ⟨v2, err, rfl, ho2, he2, hb2⟩
    rw [HF.out] at ho2 he2
    have c0 : w2.cell? ⟨w1.heap.size, 0, none⟩ = some (.int .i64 E) := (hb2.cell (by simp)).trans (by simp)
    have c1' : w2.cell? ⟨w1.heap.size, 1, none⟩ = some (.int .i64 P) := (hb2.cell (by simp)).trans (by simp)
    have hB2 : Below w1.heap.size w1 w2 := below_lit (hb2.mono (by simp))
    have HB2 := Lib.hid (HB1.out.trans (hB2.mono HB1.out.size))
    have HO2 := Lib.hid (HO1.out.below hB2)
    have HQ2 := Lib.hid ho2.isTexts
    have HP2 := Lib.hid he2.place
    have HG2 := Lib.hid (HG1.out.below hB2)
    clear ho2 he2 hb2 hB2 HO1 HB1 HV1 HU1 HG1
    go_wp2_with fail
    refine (placed_ok err E P w2 HG2.out HP2.out).mono ?_
    rintro r w3 ⟨rfl, hb3⟩
    have HB3 := Lib.hid (HB2.out.trans (hb3.mono HB2.out.size))
    have HO3 := Lib.hid (HO2.out.below hb3)
    have HQ3 := Lib.hid (HQ2.out.below hb3)
    clear hb3
    go_wp2_with fail
    refine (teq_same _ _ R w3 HO3.out HQ3.out HRL.out).mono ?_
    rintro r w4 ⟨rfl, hq4⟩
    have hb4 : Below w3.heap.size w3 w4 := by obtain ⟨q, rfl⟩ := hq4; exact drewN_below _ q
    have HB4 := Lib.hid (HB3.out.trans (hb4.mono HB3.out.size))
    clear hq4 hb4
    go_wp2
    go_ret
    exact ⟨rfl, HB4.out⟩
end Go.Proofs.YtimaddmgooefdaaDoor
