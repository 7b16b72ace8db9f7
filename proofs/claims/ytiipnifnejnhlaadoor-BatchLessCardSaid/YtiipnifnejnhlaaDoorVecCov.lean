/-
  The contracts of vector.Covers and of the laws' 'few'.
-/
import Derived.Test.YtiipnifnejnhlaaDoorVecOf
import Derived.Deep.RegionHeld3
namespace Go.Proofs.YtiipnifnejnhlaaDoor
open Go.RowKit

theorem vof_as (v : Value) (l : List Ent) (x y : Int) (w : World) (hv : IsEnts w v l) (hl : l.length ≤ 9223372036854775807) (h : ofF l x = y) :
    Calls Tryd.prog 44 #[v, .int .i64 x] w fun r w' => r = .returned (.int .i64 y) ∧ Below w.heap.size w w' := by
  subst h; exact vof_any v l x w hv hl
theorem covA_drop {a b : List Ent} {k : Nat} {t : Ent} (h : b[k]? = some t) : covA a (b.drop k) = (decide (t.time ≤ ofF a t.rep) && covA a (b.drop (k + 1))) := by
  obtain ⟨hk, ht⟩ := List.getElem?_eq_some_iff.1 h
  rw [List.drop_eq_getElem_cons hk, ht]; rfl

set_option maxRecDepth 100000 in
set_option maxHeartbeats 4000000 in
theorem vcov_any (va vb : Value) (a b : List Ent) (w : World) (ha : IsEnts w va a) (hb : IsEnts w vb b) (hla : a.length ≤ 9223372036854775807) (hlb : b.length ≤ 9223372036854775807) :
    Calls Tryd.prog 21 #[va, vb] w fun r w' => r = .returned (.bool (covB a b)) ∧ Below w.heap.size w w' := by
  have HVA := Lib.hid ha
  have HVB := Lib.hid hb
  have HLA := Lib.hid hla
  have HLB := Lib.hid hlb
  obtain ⟨aa, ca, rfl, _⟩ := ha.form
  obtain ⟨ab, cb, rfl, fb⟩ := hb.form
  have FB := Lib.hid fb
  obtain ⟨na, hna⟩ : ∃ n, n = a.length := ⟨_, rfl⟩
  obtain ⟨nb, hnb⟩ : ∃ n, n = b.length := ⟨_, rfl⟩
  have HNB := Lib.hid hnb
  rw [← hna] at HVA ⊢
  rw [← hnb] at HVB ⊢
  clear ha hb hla hlb fb hna hnb
  by_cases h1 : (vrightF a).1 = 0
  · by_cases h2 : (vrightF b).1 = 0
    · have H1 := Lib.hid h1
      have H2 := Lib.hid h2
      have HC : Hid (covB a b = covA a b) := Lib.hid (show covB a b = covA a b by unfold covB; rw [h1, h2]; simp)
      have h16 : nb ≤ 16 := by rw [HNB.out]; exact ((vright_ok b).1 h2).1
      clear h1 h2
      rw [HC.out]
      go_enter Tryd.func21, Tryd.ntmps21
      go_wp2_with fail
      refine (vright_any _ a _ HVA.out HLA.out).mono ?_
      rintro r w1 ⟨err, rfl, hat, hb1⟩
      obtain rfl := hat.nil H1.out
      have HB1 := Lib.hid hb1
      clear hat hb1
      go_wp2_with fail
      refine (vright_any _ b _ (HVB.out.below HB1.out) HLB.out).mono ?_
      rintro r w2 ⟨err, rfl, hat, hb2⟩
      obtain rfl := hat.nil H2.out
      have HB2 : Hid (Below w.heap.size w w2) := HB1.out.trans (hb2.mono HB1.out.size)
      clear hat hb2
      go_wp2
      go_loopw [17] (fun i wr => ∃ k : Nat, k ≤ nb ∧ i = .int .i64 k ∧ covA a b = covA a (b.drop k) ∧ Below w.heap.size w wr) (fun i _ => nb - (intOf i).toNat)
      case atStart => exact ⟨0, by omega, rfl, rfl, HB2.out⟩
      case round =>
        obtain ⟨k, hk, rfl, heq, hbel⟩ := hrel
        have HEQ := Lib.hid heq
        have HB := Lib.hid hbel
        have hzr := hbel.size
        clear heq hbel
        by_cases hlt : k < nb
        · obtain ⟨t, ht⟩ : ∃ t, b[k]? = some t := ⟨b[k]'(by have := HNB.out; omega), List.getElem?_eq_getElem _⟩
          obtain ⟨b1, o1, rfl, hb1, p0, p1⟩ := FB.out k t ht
          have hd := covA_drop (a := a) ht
          obtain ⟨rep, time⟩ := t
          simp only at p0 p1 hd
          have q0 := (HB.out.cell (p := ⟨b1, o1 + k * 2, none⟩) hb1).trans p0
          have q1 := (HB.out.cell (p := ⟨b1, o1 + k * 2 + 1, none⟩) hb1).trans p1
          obtain ⟨x, hx⟩ : ∃ x, ofF a rep = x := ⟨_, rfl⟩
          rw [hx] at hd
          have HX := Lib.hid hx
          have HV1 : Hid (IsEnts (wr.alloc (.cells #[.int .i64 rep, .int .i64 time] 70)).drew (.slice aa na ca) a) := Lib.hid (((HVA.out.below HB.out).alloc _).drewN 1)
          have c0 : (wr.alloc (.cells #[.int .i64 rep, .int .i64 time] 70)).cell? ⟨wr.heap.size, 0, none⟩ = some (.int .i64 rep) ∧ (wr.alloc (.cells #[.int .i64 rep, .int .i64 time] 70)).cell? ⟨wr.heap.size, 1, none⟩ = some (.int .i64 time) := by simp
          by_cases hlx : x < time
          · have HW : Hid (covA a b = false) := Lib.hid (show covA a b = false by rw [HEQ.out, hd, decide_eq_false (by omega), Bool.false_and])
            clear p0 p1 ht hd hx
            go_wp2
            go_region_held3 (fun w' => w'.cell? ⟨wr.heap.size, 0, none⟩ = some (.int .i64 rep) ∧ w'.cell? ⟨wr.heap.size, 1, none⟩ = some (.int .i64 time)) (first | exact c0 | exact c2) (first | (go_at_call 44; ((with_reducible refine (vof_as _ a rep x _ HV1.out HLA.out HX.out).mono ?_); rintro r w2 ⟨rfl, hb2⟩; have c2 : w2.cell? ⟨wr.heap.size, 0, none⟩ = some (.int .i64 rep) ∧ w2.cell? ⟨wr.heap.size, 1, none⟩ = some (.int .i64 time) := ⟨(hb2.cell (by simp)).trans c0.1, (hb2.cell (by simp)).trans c0.2⟩; have HB2 : Hid (Below w.heap.size w w2) := ((HB.out.alloc hzr _).drew.trans (hb2.mono (by simp; omega))); clear hb2)))
            go_wp2
            go_ret
            exact ⟨by rw [HW.out]; rfl, HB2.out⟩
          · have HW : Hid (covA a b = covA a (b.drop (k + 1))) := Lib.hid (show covA a b = covA a (b.drop (k + 1)) by rw [HEQ.out, hd, decide_eq_true (by omega), Bool.true_and])
            clear p0 p1 ht hd hx
            go_wp2
            go_region_held3 (fun w' => w'.cell? ⟨wr.heap.size, 0, none⟩ = some (.int .i64 rep) ∧ w'.cell? ⟨wr.heap.size, 1, none⟩ = some (.int .i64 time)) (first | exact c0 | exact c2) (first | (go_at_call 44; ((with_reducible refine (vof_as _ a rep x _ HV1.out HLA.out HX.out).mono ?_); rintro r w2 ⟨rfl, hb2⟩; have c2 : w2.cell? ⟨wr.heap.size, 0, none⟩ = some (.int .i64 rep) ∧ w2.cell? ⟨wr.heap.size, 1, none⟩ = some (.int .i64 time) := ⟨(hb2.cell (by simp)).trans c0.1, (hb2.cell (by simp)).trans c0.2⟩; have HB2 : Hid (Below w.heap.size w w2) := ((HB.out.alloc hzr _).drew.trans (hb2.mono (by simp; omega))); clear hb2)))
            go_wp2
            go_roundw
            case rel => exact ⟨k + 1, by omega, by go_num, HW.out, HB2.out⟩
            case measure => simp [intOf]; omega
        · have HW : Hid (covA a b = true) := Lib.hid (show covA a b = true by rw [HEQ.out, List.drop_eq_nil_of_le (by have := HNB.out; omega)]; rfl)
          go_wp2
          go_ret
          exact ⟨by rw [HW.out]; rfl, HB.out⟩
    · have H1 := Lib.hid h1
      have H2 := Lib.hid h2
      have HC : Hid (covB a b = false) := Lib.hid (show covB a b = false by unfold covB; rw [decide_eq_false h2]; simp)
      clear h1 h2
      rw [HC.out]
      go_enter Tryd.func21, Tryd.ntmps21
      go_wp2_with fail
      refine (vright_any _ a _ HVA.out HLA.out).mono ?_
      rintro r w1 ⟨err, rfl, hat, hb1⟩
      obtain rfl := hat.nil H1.out
      have HB1 := Lib.hid hb1
      clear hat hb1
      go_wp2_with fail
      refine (vright_any _ b _ (HVB.out.below HB1.out) HLB.out).mono ?_
      rintro r w2 ⟨err, rfl, hat, hb2⟩
      obtain ⟨t, u, rfl⟩ := hat.iface H2.out
      have HB2 : Hid (Below w.heap.size w w2) := HB1.out.trans (hb2.mono HB1.out.size)
      clear hat hb2
      go_wp2
      go_ret
      exact ⟨rfl, HB2.out⟩
  · have H1 := Lib.hid h1
    have HC : Hid (covB a b = false) := Lib.hid (show covB a b = false by unfold covB; rw [decide_eq_false h1]; simp)
    clear h1
    rw [HC.out]
    go_enter Tryd.func21, Tryd.ntmps21
    go_wp2_with fail
    refine (vright_any _ a _ HVA.out HLA.out).mono ?_
    rintro r w1 ⟨err, rfl, hat, hb1⟩
    obtain ⟨t, u, rfl⟩ := hat.iface H1.out
    have HB1 := Lib.hid hb1
    clear hat hb1
    go_wp2
    go_ret
    exact ⟨rfl, HB1.out⟩
end Go.Proofs.YtiipnifnejnhlaaDoor
