/-
  The contract of the document's Covers.
-/
import Derived.Test.YtiipnifnejnhlaaDoorVecRef
import Derived.Deep.RegionHeld3
import Derived.Deep.QuietTactic
namespace Go.Proofs.YtiipnifnejnhlaaDoor
open Go.RowKit

theorem rof_as (v : Value) (l : List Ent) (x y : Int) (w : World) (hv : IsEnts w v l) (hl : l.length ≤ 9223372036854775807) (h : ofF l x = y) :
    Calls Tryd.prog 50 #[v, .int .i64 x] w fun r w' => r = .returned (.int .i64 y) ∧ w = w' := by
  subst h; exact rof_any v l x w hv hl
theorem rof_q (v : Value) (l : List Ent) (x y : Int) (w : World) (n : Nat) (hv : IsEnts w v l) (hl : l.length ≤ 9223372036854775807) (h : ofF l x = y) :
    Calls Tryd.prog 50 #[v, .int .i64 x] (w.drewN n) fun r w' => r = .returned (.int .i64 y) ∧ ∃ m, w' = w.drewN m :=
  (rof_as v l x y (w.drewN n) (hv.drewN n) hl h).mono fun _ _ ⟨h1, h2⟩ => ⟨h1, n, h2.symm⟩
theorem rvright_as (v : Value) (l : List Ent) (e : Nat) (pl : Int) (w : World) (hv : IsEnts w v l) (hl : l.length ≤ 9223372036854775807) (h : vrightF l = (e, pl)) :
    Calls Tryd.prog 29 #[v] w fun r w' => r = .returned (.agg #[.int .i64 (e : Int), .int .i64 pl]) ∧ Below w.heap.size w w' :=
  (rvright_any v l w hv hl).mono fun r w' ⟨h1, h2⟩ => ⟨by rw [h1, h]; rfl, h2⟩

theorem covA_dropR {a b : List Ent} {k : Nat} {t : Ent} (h : b[k]? = some t) : covA a (b.drop k) = (decide (t.time ≤ ofF a t.rep) && covA a (b.drop (k + 1))) := by
  obtain ⟨hk, ht⟩ := List.getElem?_eq_some_iff.1 h
  rw [List.drop_eq_getElem_cons hk, ht]; rfl

set_option maxRecDepth 100000 in
set_option maxHeartbeats 4000000 in
/-- The loop of it: what stands so far, and what is to come. -/
theorem rcov_any (va vb : Value) (a b : List Ent) (w : World) (ha : IsEnts w va a) (hb : IsEnts w vb b) (hla : a.length ≤ 9223372036854775807) (hlb : b.length ≤ 9223372036854775807) :
    Calls Tryd.prog 32 #[va, vb] w fun r w' => r = .returned (.bool (covB a b)) ∧ Below w.heap.size w w' := by
  have HVA := Lib.hid ha
  have HVB := Lib.hid hb
  have HLA := Lib.hid hla
  have HLB : Hid (b.length ≤ 9223372036854775807) := Lib.hid hlb
  obtain ⟨aa, ca, rfl, _⟩ := ha.form
  obtain ⟨ab, cb, rfl, fb⟩ := hb.form
  have FB := Lib.hid fb
  obtain ⟨na, hna⟩ : ∃ n, n = a.length := ⟨_, rfl⟩
  obtain ⟨nb, hnb⟩ : ∃ n, n = b.length := ⟨_, rfl⟩
  have HNB := Lib.hid hnb
  rw [← hna] at HVA ⊢
  rw [← hnb] at HVB hlb ⊢
  clear ha hb hla fb hna hnb
  obtain ⟨ea, pa, hra⟩ : ∃ e pl, vrightF a = (e, pl) := ⟨_, _, rfl⟩
  obtain ⟨eb, pb, hrb⟩ : ∃ e pl, vrightF b = (e, pl) := ⟨_, _, rfl⟩
  have HRA := Lib.hid hra
  have HRB := Lib.hid hrb
  have HC : Hid (covB a b = (decide (ea = 0) && decide (eb = 0) && covA a b)) := Lib.hid (show covB a b = (decide (ea = 0) && decide (eb = 0) && covA a b) by unfold covB; rw [hra, hrb])
  clear hra hrb
  by_cases h1 : ea = 0
  · have hne : ((ea : Int) == 0) = true := by simp; exact h1
    by_cases h2 : eb = 0
    · have hne2 : ((eb : Int) == 0) = true := by simp; exact h2
      have HC2 : Hid (covB a b = (true && covA a b)) := Lib.hid (show covB a b = (true && covA a b) by rw [HC.out, decide_eq_true h1, decide_eq_true h2]; rfl)
      clear h1 h2 HC
      go_enter Tryd.func32, Tryd.ntmps32
      go_wp2_with fail
      refine (rvright_as _ a ea pa _ HVA.out HLA.out HRA.out).mono ?_
      rintro r w1 ⟨rfl, hb1⟩
      have HB1 := Lib.hid hb1
      clear hb1
      go_wp2_with fail
      refine (is_any ea pa _).mono ?_
      rintro r w2 ⟨rfl, hb2⟩
      rw [hne]
      have HB2 : Hid (Below w.heap.size w w2) := HB1.out.trans (hb2.mono HB1.out.size)
      clear hb2
      go_wp2_with fail
      refine (rvright_as _ b eb pb _ (HVB.out.below HB2.out) HLB.out HRB.out).mono ?_
      rintro r w3 ⟨rfl, hb3⟩
      have HB3 : Hid (Below w.heap.size w w3) := HB2.out.trans (hb3.mono HB2.out.size)
      clear hb3
      go_wp2_with fail
      refine (is_any eb pb _).mono ?_
      rintro r w4 ⟨rfl, hb4⟩
      rw [hne2]
      have HB4 : Hid (Below w.heap.size w w4) := HB3.out.trans (hb4.mono HB3.out.size)
      clear hb4
      go_wp2
      go_loopw [5, 18] (fun o i wr => ∃ (k : Nat) (ok : Bool), k ≤ nb ∧ i = .int .i64 k ∧ o = .bool ok ∧ covB a b = (ok && covA a (b.drop k)) ∧ Below w.heap.size w wr) (fun _ i _ => nb - (intOf i).toNat)
      case atStart => exact ⟨0, true, by omega, rfl, rfl, HC2.out, HB4.out⟩
      case round =>
        obtain ⟨k, ok, hk, rfl, rfl, heq, hbel⟩ := hrel
        have HEQ := Lib.hid heq
        have HB := Lib.hid hbel
        have hzr := hbel.size
        clear heq hbel
        by_cases hlt : k < nb
        · obtain ⟨t, ht⟩ : ∃ t, b[k]? = some t := ⟨b[k]'(by have := HNB.out; omega), List.getElem?_eq_getElem _⟩
          obtain ⟨b1, o1, rfl, hb1, p0, p1⟩ := FB.out k t ht
          have hd := covA_dropR (a := a) ht
          obtain ⟨rep, time⟩ := t
          simp only at p0 p1 hd
          have q0 := (HB.out.cell (p := ⟨b1, o1 + k * 2, none⟩) hb1).trans p0
          have q1 := (HB.out.cell (p := ⟨b1, o1 + k * 2 + 1, none⟩) hb1).trans p1
          cases ok with
          | false =>
            have HW : Hid (covB a b = (false && covA a (b.drop (k + 1)))) := HEQ
            clear p0 p1 ht hd
            go_wp2
            go_quiet (fail)
            go_wp2
            go_roundw
            case rel => exact ⟨k + 1, false, by omega, by go_num, rfl, HW.out, below_drewN (HB.out.alloc hzr _) _⟩
            case measure => simp [intOf]; omega
          | true =>
            obtain ⟨x, hx⟩ : ∃ x, ofF a rep = x := ⟨_, rfl⟩
            rw [hx] at hd
            have HX := Lib.hid hx
            by_cases hlx : time ≤ x
            · have HW : Hid (covB a b = (true && covA a (b.drop (k + 1)))) := Lib.hid (show covB a b = (true && covA a (b.drop (k + 1))) by rw [HEQ.out, hd, decide_eq_true hlx, Bool.true_and])
              clear p0 p1 ht hd hx
              go_wp2
              go_quiet ((go_at_call 50; exact rof_q _ a rep x _ _ ((HVA.out.below HB.out).alloc _) HLA.out HX.out))
              go_wp2
              go_roundw
              case rel => exact ⟨k + 1, true, by omega, by go_num, rfl, HW.out, below_drewN (HB.out.alloc hzr _) _⟩
              case measure => simp [intOf]; omega
            · have HW : Hid (covB a b = (false && covA a (b.drop (k + 1)))) := Lib.hid (show covB a b = (false && covA a (b.drop (k + 1))) by rw [HEQ.out, hd, decide_eq_false hlx]; rfl)
              clear p0 p1 ht hd hx
              go_wp2
              go_quiet ((go_at_call 50; exact rof_q _ a rep x _ _ ((HVA.out.below HB.out).alloc _) HLA.out HX.out))
              go_wp2
              go_roundw
              case rel => exact ⟨k + 1, false, by omega, by go_num, by first | rfl | (congr 1; exact decide_eq_false (by omega)), HW.out, below_drewN (HB.out.alloc hzr _) _⟩
              case measure => simp [intOf]; omega
        · have HW : Hid (covB a b = ok) := Lib.hid (show covB a b = ok by rw [HEQ.out, List.drop_eq_nil_of_le (by have := HNB.out; omega)]; show (ok && true) = ok; simp)
          go_wp2
          go_ret
          exact ⟨by rw [HW.out]; rfl, HB.out⟩
    · have hne2 : ((eb : Int) == 0) = false := by simp; exact h2
      have HC2 : Hid (covB a b = false) := Lib.hid (show covB a b = false by rw [HC.out, decide_eq_false h2]; simp)
      clear h1 h2 HC
      go_enter Tryd.func32, Tryd.ntmps32
      go_wp2_with fail
      refine (rvright_as _ a ea pa _ HVA.out HLA.out HRA.out).mono ?_
      rintro r w1 ⟨rfl, hb1⟩
      have HB1 := Lib.hid hb1
      clear hb1
      go_wp2_with fail
      refine (is_any ea pa _).mono ?_
      rintro r w2 ⟨rfl, hb2⟩
      rw [hne]
      have HB2 : Hid (Below w.heap.size w w2) := HB1.out.trans (hb2.mono HB1.out.size)
      clear hb2
      go_wp2_with fail
      refine (rvright_as _ b eb pb _ (HVB.out.below HB2.out) HLB.out HRB.out).mono ?_
      rintro r w3 ⟨rfl, hb3⟩
      have HB3 : Hid (Below w.heap.size w w3) := HB2.out.trans (hb3.mono HB2.out.size)
      clear hb3
      go_wp2_with fail
      refine (is_any eb pb _).mono ?_
      rintro r w4 ⟨rfl, hb4⟩
      rw [hne2]
      have HB4 : Hid (Below w.heap.size w w4) := HB3.out.trans (hb4.mono HB3.out.size)
      clear hb4
      go_wp2
      go_loopw [5, 18] (fun o i wr => ∃ (k : Nat), k ≤ nb ∧ i = .int .i64 k ∧ o = .bool false ∧ Below w.heap.size w wr) (fun _ i _ => nb - (intOf i).toNat)
      case atStart => exact ⟨0, by omega, rfl, rfl, HB4.out⟩
      case round =>
        obtain ⟨k, hk, rfl, rfl, hbel⟩ := hrel
        have HB := Lib.hid hbel
        have hzr := hbel.size
        clear hbel
        by_cases hlt : k < nb
        · obtain ⟨t, ht⟩ : ∃ t, b[k]? = some t := ⟨b[k]'(by have := HNB.out; omega), List.getElem?_eq_getElem _⟩
          obtain ⟨b1, o1, rfl, hb1, p0, p1⟩ := FB.out k t ht
          obtain ⟨rep, time⟩ := t
          simp only at p0 p1
          have q0 := (HB.out.cell (p := ⟨b1, o1 + k * 2, none⟩) hb1).trans p0
          have q1 := (HB.out.cell (p := ⟨b1, o1 + k * 2 + 1, none⟩) hb1).trans p1
          clear p0 p1 ht
          go_wp2
          go_quiet (fail)
          go_wp2
          go_roundw
          case rel => exact ⟨k + 1, by omega, by go_num, rfl, below_drewN (HB.out.alloc hzr _) _⟩
          case measure => simp [intOf]; omega
        · go_wp2
          go_ret
          exact ⟨by rw [HC2.out]; rfl, HB.out⟩
  · have hne : ((ea : Int) == 0) = false := by simp; exact h1
    have HC2 : Hid (covB a b = false) := Lib.hid (show covB a b = false by rw [HC.out, decide_eq_false h1]; simp)
    clear h1 HC
    go_enter Tryd.func32, Tryd.ntmps32
    go_wp2_with fail
    refine (rvright_as _ a ea pa _ HVA.out HLA.out HRA.out).mono ?_
    rintro r w1 ⟨rfl, hb1⟩
    have HB1 := Lib.hid hb1
    clear hb1
    go_wp2_with fail
    refine (is_any ea pa _).mono ?_
    rintro r w2 ⟨rfl, hb2⟩
    rw [hne]
    have HB4 : Hid (Below w.heap.size w w2) := HB1.out.trans (hb2.mono HB1.out.size)
    clear hb2
    go_wp2
    go_loopw [5, 18] (fun o i wr => ∃ (k : Nat), k ≤ nb ∧ i = .int .i64 k ∧ o = .bool false ∧ Below w.heap.size w wr) (fun _ i _ => nb - (intOf i).toNat)
    case atStart => exact ⟨0, by omega, rfl, rfl, HB4.out⟩
    case round =>
      obtain ⟨k, hk, rfl, rfl, hbel⟩ := hrel
      have HB := Lib.hid hbel
      have hzr := hbel.size
      clear hbel
      by_cases hlt : k < nb
      · obtain ⟨t, ht⟩ : ∃ t, b[k]? = some t := ⟨b[k]'(by have := HNB.out; omega), List.getElem?_eq_getElem _⟩
        obtain ⟨b1, o1, rfl, hb1, p0, p1⟩ := FB.out k t ht
        obtain ⟨rep, time⟩ := t
        simp only at p0 p1
        have q0 := (HB.out.cell (p := ⟨b1, o1 + k * 2, none⟩) hb1).trans p0
        have q1 := (HB.out.cell (p := ⟨b1, o1 + k * 2 + 1, none⟩) hb1).trans p1
        clear p0 p1 ht
        go_wp2
        go_quiet (fail)
        go_wp2
        go_roundw
        case rel => exact ⟨k + 1, by omega, by go_num, rfl, below_drewN (HB.out.alloc hzr _) _⟩
        case measure => simp [intOf]; omega
      · go_wp2
        go_ret
        exact ⟨by rw [HC2.out]; rfl, HB.out⟩
end Go.Proofs.YtiipnifnejnhlaaDoor
