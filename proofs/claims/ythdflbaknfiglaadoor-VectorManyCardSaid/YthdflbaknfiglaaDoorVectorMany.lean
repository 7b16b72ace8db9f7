/-
  The walk of 'packtrainkeep.VectorMany'.
-/
import Derived.Test.YthdflbaknfiglaaDoorVecFact
import Derived.Test.YthdflbaknfiglaaDoorVecLaw
namespace Go.Proofs.YthdflbaknfiglaaDoor
open Go.RowKit

/-- How many of the second one the first one does not know, in a beginning of it. -/
def newN (a b : List Ent) : Nat := (b.filter fun e => decide (ofF a e.rep = 0)).length
theorem newN_snoc (a b : List Ent) (t : Ent) : newN a (b ++ [t]) = newN a b + if ofF a t.rep = 0 then 1 else 0 := by
  unfold newN
  rw [List.filter_append, List.length_append]
  by_cases h : ofF a t.rep = 0
  · rw [if_pos h]; simp [h]
  · rw [if_neg h]; simp [h]
theorem newN_le (a b : List Ent) : newN a b ≤ b.length := List.length_filter_le _ _
theorem take_snocM {l : List Ent} {k : Nat} {t : Ent} (h : l[k]? = some t) : l.take (k + 1) = l.take k ++ [t] := by
  obtain ⟨hk, ht⟩ := List.getElem?_eq_some_iff.1 h
  rw [List.take_succ_eq_append_getElem hk, ht]

set_option maxRecDepth 100000 in
set_option maxHeartbeats 4000000 in
theorem vectorMany_walk (w : World) (a0 : Option Addr) (len0 cap0 : Nat) (l0 : List Ent) (hv0 : IsEnts w (.slice a0 len0 cap0) l0) (hn0 : l0.length = len0) (hc0 : len0 ≤ cap0) (hm0 : cap0 ≤ maxLen) (a1 : Option Addr) (len1 cap1 : Nat) (l1 : List Ent) (hv1 : IsEnts w (.slice a1 len1 cap1) l1) (hn1 : l1.length = len1) (hc1 : len1 ≤ cap1) (hm1 : cap1 ≤ maxLen) (hg : errT w) :
    Calls Tryd.prog 13 #[.slice a0 len0 cap0, .slice a1 len1 cap1] w fun e w' => e = .returned (.bool true) ∧ Below w.heap.size w w' := by
  have HV0 := Lib.hid hv0
  have HL0 : Hid (l0.length ≤ 9223372036854775807) := Lib.hid (show l0.length ≤ 9223372036854775807 by unfold maxLen at hm0; omega)
  have HV1 := Lib.hid hv1
  have HL1 : Hid (l1.length ≤ 9223372036854775807) := Lib.hid (show l1.length ≤ 9223372036854775807 by unfold maxLen at hm1; omega)
  have HG := Lib.hid hg
  clear hv0 hm0 hv1 hm1 hg
  by_cases hall : allR [l0, l1] = true
  · have HX := Lib.hid hall
    have hr := allR_iff.1 hall
    have HR0 : Hid (rightV l0) := Lib.hid (hr l0 (by simp))
    have HR1 : Hid (rightV l1) := Lib.hid (hr l1 (by simp))
    clear hall hr
    go_enter Tryd.func13, Tryd.ntmps13
    go_wp2_with fail
    refine (known_any _ HG.out).mono ?_
    rintro r w1 ⟨rfl, hb1⟩
    have HB1 := Lib.hid hb1
    clear hb1
    go_wp2_with fail
    refine (few_two _ _ l0 l1 true _ (HV0.out.below HB1.out) (HV1.out.below HB1.out) HL0.out HL1.out HX.out).mono ?_
    rintro r w2 ⟨rfl, hb2⟩
    have HB2 : Hid (Below w.heap.size w w2) := HB1.out.trans (hb2.mono HB1.out.size)
    clear hb2
    obtain ⟨a1, c1, hav, f1⟩ := HV1.out.form
    simp only [Value.slice.injEq] at hav
    obtain ⟨rfl, hln, rfl⟩ := hav
    have F1 := Lib.hid f1
    have HN1 := Lib.hid hln
    have h16a : len0 ≤ 16 := by rw [← hn0]; exact HR0.out.1
    have h16b : len1 ≤ 16 := by rw [← hn1]; exact HR1.out.1
    have HN0 := Lib.hid hn0
    clear f1 hln hn0 hn1
    go_wp2
    go_loopw [5, 21] (fun n i wr => ∃ k m : Nat, k ≤ len1 ∧ i = .int .i64 k ∧ n = .int .i64 m ∧ m = len0 + newN l0 (l1.take k) ∧ Below w.heap.size w wr) (fun _ i _ => len1 - (intOf i).toNat)
    case atStart => exact ⟨0, len0, by omega, rfl, rfl, rfl, HB2.out⟩
    case round =>
      obtain ⟨k, m, hk, rfl, rfl, hm, hbel⟩ := hrel
      have HB := Lib.hid hbel
      have hzr := hbel.size
      have HM := Lib.hid hm
      have hml := newN_le l0 (l1.take k)
      have hml2 : (l1.take k).length ≤ k := List.length_take_le _ _
      have hm40 : m ≤ 40 := by omega
      clear hbel hm hml hml2
      by_cases hlt : k < len1
      · obtain ⟨t, ht⟩ : ∃ t, l1[k]? = some t := ⟨l1[k]'(by have := HN1.out; omega), List.getElem?_eq_getElem _⟩
        obtain ⟨b1, o1, rfl, hb1, p0, p1⟩ := F1.out k t ht
        have hsn := newN_snoc l0 (l1.take k) t
        rw [← take_snocM ht] at hsn
        obtain ⟨rep, time⟩ := t
        simp only at p0 p1 hsn
        have q0 := (HB.out.cell (p := ⟨b1, o1 + k * 2, none⟩) hb1).trans p0
        have q1 := (HB.out.cell (p := ⟨b1, o1 + k * 2 + 1, none⟩) hb1).trans p1
        obtain ⟨x, hx⟩ : ∃ x, ofF l0 rep = x := ⟨_, rfl⟩
        rw [hx] at hsn
        have HX := Lib.hid hx
        have HSN := Lib.hid hsn
        clear p0 p1 ht hsn hx
        by_cases h0 : x = 0
        · subst h0
          have HM2 : Hid (m + 1 = len0 + newN l0 (l1.take (k + 1))) := Lib.hid (show m + 1 = len0 + newN l0 (l1.take (k + 1)) by rw [HSN.out, if_pos rfl, HM.out]; omega)
          go_wp2_with fail
          refine (vof_as _ l0 rep 0 _ ((HV0.out.below HB.out).alloc _) HL0.out HX.out).mono ?_
          rintro r w3 ⟨rfl, hb3⟩
          have HB3 : Hid (Below w.heap.size w w3) := (HB.out.alloc hzr _).trans (hb3.mono (by simp; omega))
          clear hb3
          go_wp2
          go_roundw
          case rel => exact ⟨k + 1, m + 1, by omega, by go_num, by go_num, HM2.out, HB3.out⟩
          case measure => simp [intOf]; omega
        · have HM2 : Hid (m = len0 + newN l0 (l1.take (k + 1))) := Lib.hid (show m = len0 + newN l0 (l1.take (k + 1)) by rw [HSN.out, if_neg h0, HM.out]; omega)
          have bx : (x == 0) = false := by simpa using h0
          go_wp2_with fail
          refine (vof_as _ l0 rep x _ ((HV0.out.below HB.out).alloc _) HL0.out HX.out).mono ?_
          rintro r w3 ⟨rfl, hb3⟩
          have HB3 : Hid (Below w.heap.size w w3) := (HB.out.alloc hzr _).trans (hb3.mono (by simp; omega))
          clear hb3
          go_wp2
          go_roundw
          case rel => exact ⟨k + 1, m, by omega, by go_num, rfl, HM2.out, HB3.out⟩
          case measure => simp [intOf]; omega
      · have hkn : k = len1 := by omega
        have HMJ : Hid ((joinL l0 l1).length = m) := Lib.hid (show (joinL l0 l1).length = m by
          have h := HM.out
          rw [hkn, HN1.out, List.take_length] at h
          rw [join_len HR0.out.2 HR1.out.2, h, ← HN0.out]; rfl)
        clear hkn
        rcases join_two HR0.out HR1.out with ⟨hlen, hj⟩ | ⟨hlen, hj, hrj⟩
        · have HJ := Lib.hid hj
          have h17 : 16 < m := by rw [← HMJ.out]; exact hlen
          have h17' : 16 < (m : Int) := by omega
          clear hlen hj
          go_wp2_with fail
          refine (vjoin_bad _ _ l0 l1 [] 4 _ (HV0.out.below HB.out) (HV1.out.below HB.out) HL0.out HL1.out (HG.out.below HB.out) HJ.out (by decide)).mono ?_
          rintro r w3 ⟨v, rfl, hi, hb3⟩
          have HB3 : Hid (Below w.heap.size w w3) := HB.out.trans (hb3.mono hzr)
          obtain ⟨av, cv, rfl⟩ := hi.none
          clear hb3 hi
          go_wp2_with fail
          refine (tell_err _ 4 _ (HG.out.below HB3.out) (.inl rfl)).mono ?_
          rintro r w4 ⟨rfl, hb4⟩
          have HB4 : Hid (Below w.heap.size w w4) := HB3.out.trans (hb4.mono HB3.out.size)
          clear hb4
          go_wp2
          go_ret
          exact ⟨by first | rfl | simp, HB4.out⟩
        · have HJ := Lib.hid hj
          have h17 : m ≤ 16 := by rw [← HMJ.out]; exact hlen
          have h17' : (m : Int) ≤ 16 := by omega
          have HRJ := Lib.hid ((vright_ok _).2 hrj)
          clear hlen hj hrj
          go_wp2_with fail
          refine (vjoin_good _ _ l0 l1 (joinL l0 l1) _ (HV0.out.below HB.out) (HV1.out.below HB.out) HL0.out HL1.out (HG.out.below HB.out) HJ.out).mono ?_
          rintro r w3 ⟨v, rfl, hi, hb3⟩
          have HB3 : Hid (Below w.heap.size w w3) := HB.out.trans (hb3.mono hzr)
          have HI := Lib.hid hi
          obtain ⟨av, cv, rfl, _⟩ := hi.form
          have hjm := HMJ.out
          rw [hjm] at HI ⊢
          clear hb3 hi hjm
          go_wp2_with fail
          refine (vright_any _ (joinL l0 l1) _ HI.out (by have := HMJ.out; omega)).mono ?_
          rintro r w4 ⟨err, rfl, hat, hb4⟩
          obtain rfl := hat.nil HRJ.out
          have HB4 : Hid (Below w.heap.size w w4) := HB3.out.trans (hb4.mono HB3.out.size)
          clear hb4 hat
          go_wp2
          go_ret
          exact ⟨by first | rfl | simp, HB4.out⟩
  · have HX : Hid (allR [l0, l1] = false) := Lib.hid (by simpa using hall)
    clear hall
    go_enter Tryd.func13, Tryd.ntmps13
    go_wp2_with fail
    refine (known_any _ HG.out).mono ?_
    rintro r w1 ⟨rfl, hb1⟩
    have HB1 := Lib.hid hb1
    clear hb1
    go_wp2_with fail
    refine (few_two _ _ l0 l1 false _ (HV0.out.below HB1.out) (HV1.out.below HB1.out) HL0.out HL1.out HX.out).mono ?_
    rintro r w2 ⟨rfl, hb2⟩
    have HB2 : Hid (Below w.heap.size w w2) := HB1.out.trans (hb2.mono HB1.out.size)
    clear hb2
    go_wp2
    go_ret
    exact ⟨rfl, HB2.out⟩
end Go.Proofs.YthdflbaknfiglaaDoor
