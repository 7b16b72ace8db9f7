/-
  The walk of 'packtrainkeep.IdentParts'.
-/
import Derived.Test.YthdflbaknfiglabDoorVecFact
import Derived.Test.YthdflbaknfiglabDoorVecLaw
import Derived.Test.YthdflbaknfiglabDoorIdOrdered
namespace Go.Proofs.YthdflbaknfiglabDoor
open Go.RowKit

/-- Each within just one. -/
theorem wi_parts {a b c : List Ent} (x1 x2 : Int) (ha : rightV a) (hb : rightV b) (hc : rightV c) (h1 : covB b a = true) (h2 : covB c b = true) :
    wiF (x1, x2) a c = (wiF (x1, x2) a b || wiF (x1, x2) b c) ∧ (wiF (x1, x2) a b && wiF (x1, x2) b c) = false := by
  have g1 := (covB_iff hb ha).1 h1 x2
  have g2 := (covB_iff hc hb).1 h2 x2
  unfold wiF
  simp only
  constructor
  · rw [Bool.eq_iff_iff]
    simp only [Bool.and_eq_true, Bool.or_eq_true, decide_eq_true_eq]
    omega
  · rw [Bool.eq_false_iff]
    intro h
    simp only [Bool.and_eq_true, decide_eq_true_eq] at h
    omega

set_option maxRecDepth 100000 in
set_option maxHeartbeats 8000000 in
theorem identParts_walk (w : World) (x1 x2 : Int) (a0 : Option Addr) (len0 cap0 : Nat) (l0 : List Ent) (hv0 : IsEnts w (.slice a0 len0 cap0) l0) (hn0 : l0.length = len0) (hc0 : len0 ≤ cap0) (hm0 : cap0 ≤ maxLen)
    (a1 : Option Addr) (len1 cap1 : Nat) (l1 : List Ent) (hv1 : IsEnts w (.slice a1 len1 cap1) l1) (hn1 : l1.length = len1) (hc1 : len1 ≤ cap1) (hm1 : cap1 ≤ maxLen)
    (a2 : Option Addr) (len2 cap2 : Nat) (l2 : List Ent) (hv2 : IsEnts w (.slice a2 len2 cap2) l2) (hn2 : l2.length = len2) (hc2 : len2 ≤ cap2) (hm2 : cap2 ≤ maxLen) (hg : errT w) :
    Calls Tryd.prog 3 #[.agg #[.int .i64 x1, .int .i64 x2], .slice a0 len0 cap0, .slice a1 len1 cap1, .slice a2 len2 cap2] w fun e w' => e = .returned (.bool true) ∧ Below w.heap.size w w' := by
  have HV0 := Lib.hid (hv0.alloc (.cells #[.int .i64 x1, .int .i64 x2] 23))
  have HV1 := Lib.hid (hv1.alloc (.cells #[.int .i64 x1, .int .i64 x2] 23))
  have HV2 := Lib.hid (hv2.alloc (.cells #[.int .i64 x1, .int .i64 x2] 23))
  have HG := Lib.hid (hg.alloc (.cells #[.int .i64 x1, .int .i64 x2] 23))
  have HL0 : Hid (l0.length ≤ 9223372036854775807) := Lib.hid (show l0.length ≤ 9223372036854775807 by unfold maxLen at hm0; omega)
  have HL1 : Hid (l1.length ≤ 9223372036854775807) := Lib.hid (show l1.length ≤ 9223372036854775807 by unfold maxLen at hm1; omega)
  have HL2 : Hid (l2.length ≤ 9223372036854775807) := Lib.hid (show l2.length ≤ 9223372036854775807 by unfold maxLen at hm2; omega)
  have hk : (w.alloc (.cells #[.int .i64 x1, .int .i64 x2] 23)).cell? ⟨w.heap.size, 0, none⟩ = some (.int .i64 x1) ∧ (w.alloc (.cells #[.int .i64 x1, .int .i64 x2] 23)).cell? ⟨w.heap.size, 1, none⟩ = some (.int .i64 x2) := by simp
  have hz : w.heap.size < (w.alloc (.cells #[.int .i64 x1, .int .i64 x2] 23)).heap.size := by simp
  have HB0 : Hid (Below w.heap.size w (w.alloc (.cells #[.int .i64 x1, .int .i64 x2] 23))) := Lib.hid ((Below.refl _ _).alloc (Nat.le_refl _) _)
  clear hv0 hv1 hv2 hm0 hm1 hm2 hg
  obtain ⟨x, hx⟩ : ∃ x, allR [l0, l1, l2] = x := ⟨_, rfl⟩
  obtain ⟨y, hy⟩ : ∃ y, covB l1 l0 = y := ⟨_, rfl⟩
  obtain ⟨z, hzz⟩ : ∃ z, covB l2 l1 = z := ⟨_, rfl⟩
  have HX := Lib.hid hx
  have HY := Lib.hid hy
  have HZ := Lib.hid hzz
  clear hx hy hzz
  go_enter Tryd.func3, Tryd.ntmps3
  go_wp2_with fail
  have HK := Lib.hid hk
  have HLT := Lib.hid hz
  clear hk hz
  generalize w.alloc (.cells #[.int .i64 x1, .int .i64 x2] 23) = W at HV0 HV1 HV2 HG HK HLT HB0 ⊢
  refine (ordered_any _).mono ?_
  rintro r w1 ⟨rfl, hb1⟩
  have HB1 : Hid (Below W.heap.size W w1) := Lib.hid hb1
  clear hb1
  go_wp2_with fail
  refine (known_any _ (HG.out.below HB1.out)).mono ?_
  rintro r w2 ⟨rfl, hb2⟩
  have HB2 : Hid (Below W.heap.size W w2) := HB1.out.trans (hb2.mono HB1.out.size)
  clear hb2
  go_wp2_with fail
  refine (few_three _ _ _ l0 l1 l2 x _ (HV0.out.below HB2.out) (HV1.out.below HB2.out) (HV2.out.below HB2.out) HL0.out HL1.out HL2.out HX.out).mono ?_
  rintro r w3 ⟨rfl, hb3⟩
  have HB3 : Hid (Below W.heap.size W w3) := HB2.out.trans (hb3.mono HB2.out.size)
  have HE : Hid (∀ w', Below W.heap.size W w' → Below w.heap.size w w') := Lib.hid (show ∀ w', Below W.heap.size W w' → Below w.heap.size w w' from fun w' h => HB0.out.trans (h.mono HB0.out.size))
  clear hb3
  cases x with
  | false =>
    go_wp2
    go_ret
    exact ⟨rfl, HE.out _ HB3.out⟩
  | true =>
    have hr := allR_iff.1 HX.out
    have HR0 := Lib.hid (hr l0 (by simp))
    have HR1 := Lib.hid (hr l1 (by simp))
    have HR2 := Lib.hid (hr l2 (by simp))
    clear hr
    go_wp2_with fail
    refine (vcov_as _ _ l1 l0 y _ (HV1.out.below HB3.out) (HV0.out.below HB3.out) HL1.out HL0.out HY.out).mono ?_
    rintro r w4 ⟨rfl, hb4⟩
    have HB4 : Hid (Below W.heap.size W w4) := HB3.out.trans (hb4.mono HB3.out.size)
    clear hb4
    cases y with
    | false =>
      go_wp2
      go_ret
      exact ⟨rfl, HE.out _ HB4.out⟩
    | true =>
      go_wp2_with fail
      refine (vcov_as _ _ l2 l1 z _ (HV2.out.below HB4.out) (HV1.out.below HB4.out) HL2.out HL1.out HZ.out).mono ?_
      rintro r w5 ⟨rfl, hb5⟩
      have HB5 : Hid (Below W.heap.size W w5) := HB4.out.trans (hb5.mono HB4.out.size)
      clear hb5
      cases z with
      | false =>
        go_wp2
        go_ret
        exact ⟨rfl, HE.out _ HB5.out⟩
      | true =>
        obtain ⟨p1, p2⟩ := wi_parts x1 x2 HR0.out HR1.out HR2.out HY.out HZ.out
        obtain ⟨c1, h1⟩ : ∃ c, wiF (x1, x2) l0 l1 = c := ⟨_, rfl⟩
        obtain ⟨c2, h2⟩ : ∃ c, wiF (x1, x2) l1 l2 = c := ⟨_, rfl⟩
        rw [h1, h2] at p1 p2
        have HW1 := Lib.hid h1
        have HW2 := Lib.hid h2
        have HW3 := Lib.hid p1
        have HW4 := Lib.hid p2
        have k5 : w5.cell? ⟨w.heap.size, 0, none⟩ = some (.int .i64 x1) ∧ w5.cell? ⟨w.heap.size, 1, none⟩ = some (.int .i64 x2) := ⟨(HB5.out.cell HLT.out).trans HK.out.1, (HB5.out.cell HLT.out).trans HK.out.2⟩
        have HB5d : Hid (Below W.heap.size W w5.drew) := Lib.hid HB5.out.drew
        clear h1 h2 p1 p2
        go_wp2
        go_region_held3 (fun w' => w'.cell? ⟨w.heap.size, 0, none⟩ = some (.int .i64 x1) ∧ w'.cell? ⟨w.heap.size, 1, none⟩ = some (.int .i64 x2)) (first | exact k5 | exact k6 | exact k7) (first
          | (go_at_call 8; ((with_reducible refine (within_as x1 x2 (.slice a0 len0 cap0) (.slice a1 len1 cap1) l0 l1 c1 w5.drew (HV0.out.below HB5d.out) (HV1.out.below HB5d.out) HL0.out HL1.out HW1.out).mono ?_); rintro r w6 ⟨rfl, hb6⟩; have HB6 : Hid (Below W.heap.size W w6) := (HB5d.out.trans (hb6.mono HB5d.out.size)); have k6 : w6.cell? ⟨w.heap.size, 0, none⟩ = some (.int .i64 x1) ∧ w6.cell? ⟨w.heap.size, 1, none⟩ = some (.int .i64 x2) := ⟨(HB6.out.cell HLT.out).trans HK.out.1, (HB6.out.cell HLT.out).trans HK.out.2⟩; clear hb6))
          | (go_at_call 8; ((with_reducible refine (within_as x1 x2 (.slice a1 len1 cap1) (.slice a2 len2 cap2) l1 l2 c2 w6 (HV1.out.below HB6.out) (HV2.out.below HB6.out) HL1.out HL2.out HW2.out).mono ?_); rintro r w7 ⟨rfl, hb7⟩; have HB7 : Hid (Below W.heap.size W w7) := (HB6.out.trans (hb7.mono HB6.out.size)); have k7 : w7.cell? ⟨w.heap.size, 0, none⟩ = some (.int .i64 x1) ∧ w7.cell? ⟨w.heap.size, 1, none⟩ = some (.int .i64 x2) := ⟨(HB7.out.cell HLT.out).trans HK.out.1, (HB7.out.cell HLT.out).trans HK.out.2⟩; clear hb7)))
        all_goals
          obtain ⟨e1, e2⟩ := k7
          clear k5 k6
          go_wp2_with fail
          refine (within_as x1 x2 (.slice a0 len0 cap0) (.slice a2 len2 cap2) l0 l2 (c1 || c2) _ (HV0.out.below HB7.out) (HV2.out.below HB7.out) HL0.out HL2.out HW3.out).mono ?_
          rintro r w8 ⟨rfl, hb8⟩
          have HB8 : Hid (Below W.heap.size W w8) := HB7.out.trans (hb8.mono HB7.out.size)
          clear hb8 e1 e2
          cases c1 with
          | false =>
            go_wp2
            go_ret
            exact ⟨by first | rfl | simp, HE.out _ HB8.out⟩
          | true =>
            obtain rfl : c2 = false := by have := HW4.out; simpa using this
            go_wp2
            go_ret
            exact ⟨by first | rfl | simp, HE.out _ HB8.out⟩
end Go.Proofs.YthdflbaknfiglabDoor
