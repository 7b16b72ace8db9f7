import Derived.Test.YtkafhlpnhgipeaaGreatDoorPk07
import Derived.Test.YtkafhlpnhgipeaaGreatDoorPk04
import Derived.Deep.RegionHeld3
import Derived.RegionTactic
import Derived.Deep.QuietTactic
import Derived.Test.YtkafhlpnhgipeaaGreatDoorPk09
import Derived.Test.YtkafhlpnhgipeaaGreatDoorPk06
import Derived.Lib.Hide
import Derived.Test.YtkafhlpnhgipeaaGreatDoorPk01
/-
  The contracts of the document's VectorRight, Bare, Good, Fault.Is.
-/
namespace Go.Proofs.YtkafhlpnhgipeaaGreatDoor
open Go.RowKit

theorem good_any (w : World) : Calls Tryz.prog 22 #[] w fun e w' => e = .returned (.agg #[.int .i64 0, .int .i64 (-1)]) ∧ Below w.heap.size w w' := by
  go_enter Tryz.func22, Tryz.ntmps22
  go_wp2
  refine bodyPost_ret (v := .agg #[.int .i64 0, .int .i64 (-1)]) (by simp [results, Tryz.results22, go_sem]) rfl ?_
  exact ⟨rfl, (Below.refl _ _).alloc (Nat.le_refl _) _⟩
theorem baref_any (n : Int) (w : World) : Calls Tryz.prog 21 #[.int .i64 n] w fun e w' => e = .returned (.agg #[.int .i64 n, .int .i64 (-1)]) ∧ Below w.heap.size w w' := by
  go_enter Tryz.func21, Tryz.ntmps21
  go_wp2
  refine bodyPost_ret (v := .agg #[.int .i64 n, .int .i64 (-1)]) (by simp [results, Tryz.results21, go_sem]) rfl ?_
  exact ⟨rfl, (Below.refl _ _).alloc (Nat.le_refl _) _⟩
theorem is_any (e pl : Int) (w : World) : Calls Tryz.prog 13 #[.agg #[.int .i64 e, .int .i64 pl]] w fun r w' => r = .returned (.bool (e == 0)) ∧ Below w.heap.size w w' := by
  go_enter Tryz.func13, Tryz.ntmps13
  go_wp2
  go_ret
  exact ⟨rfl, (Below.refl _ _).alloc (Nat.le_refl _) _⟩

/-- An error's number and place, as a Fault. -/
def faultV (r : Nat × Int) : Value := .agg #[.int .i64 (r.1 : Nat), .int .i64 r.2]
theorem faultV_is {r : Nat × Int} {e : Nat} {pl : Int} (h : r = (e, pl)) : faultV r = .agg #[.int .i64 (e : Int), .int .i64 pl] := by rw [h]; rfl

set_option maxRecDepth 100000 in
set_option maxHeartbeats 4000000 in
theorem rvright_any (v : Value) (l : List Ent) (w : World) (hv : IsEnts w v l) (hl : l.length ≤ 9223372036854775807) :
    Calls Tryz.prog 41 #[v] w fun e w' => e = .returned (faultV (vrightF l)) ∧ Below w.heap.size w w' := by
  obtain ⟨a1, c1, rfl, f1⟩ := hv.form
  have F1 := Lib.hid f1
  obtain ⟨n, hn⟩ : ∃ n, n = l.length := ⟨_, rfl⟩
  rw [← hn] at hl ⊢
  have HN := Lib.hid hn
  clear hv f1 hn
  by_cases h16 : 16 < n
  · have HW : Hid (faultV (vrightF l) = .agg #[.int .i64 4, .int .i64 (-1)]) := Lib.hid (faultV_is (show vrightF l = (4, -1) by unfold vrightF; rw [if_pos (by rw [← HN.out]; exact h16)]))
    have h2 : 16 < (n : Int) := by omega
    rw [HW.out]
    go_enter Tryz.func41, Tryz.ntmps41
    go_wp2_with fail
    refine (baref_any 4 _).mono ?_
    rintro r w1 ⟨rfl, hb1⟩
    have hz1 := hb1.size
    rw [World.size_alloc] at hz1
    have d0 : w1.cell? ⟨w.heap.size, 0, none⟩ = some (.int .i64 0) := (hb1.cell (by simp)).trans (by simp)
    have d1 : w1.cell? ⟨w.heap.size, 1, none⟩ = some (.int .i64 0) := (hb1.cell (by simp)).trans (by simp)
    have g0 : w1.frozen? ⟨w.heap.size, 0, none⟩ = false := (hb1.frozen (by simp)).trans (by simp)
    have g1 : w1.frozen? ⟨w.heap.size, 1, none⟩ = false := (hb1.frozen (by simp)).trans (by simp)
    have HB1 : Hid (Below w.heap.size w w1) := ((Below.refl _ _).alloc (Nat.le_refl _) _).trans (hb1.mono (by simp))
    clear hb1
    go_wp2
    refine bodyPost_ret (v := .agg #[.int .i64 4, .int .i64 (-1)]) (by simp [results, Tryz.results41, go_sem, d0, d1]) rfl ?_
    exact ⟨rfl, (HB1.out.setCell (Nat.le_refl _) _).setCell (Nat.le_refl _) _⟩
  · have hvr : vrightF l = vr l 0 (-1) := by unfold vrightF; rw [if_neg (by rw [← HN.out]; exact h16)]
    rw [hvr]
    clear hvr
    go_enter Tryz.func41, Tryz.ntmps41
    go_wp2
    go_loopw [3, 12] (fun s i wr => ∃ (k : Nat) (last : Int), k ≤ n ∧ i = .int .i64 k ∧ s = .int .i64 last ∧ vr l 0 (-1) = vr (l.drop k) k last ∧ Below (w.heap.size + 1) (w.alloc (.cells #[.int .i64 0, .int .i64 0] 29)) wr) (fun _ i _ => n - (intOf i).toNat)
    case atStart => exact ⟨0, -1, by omega, rfl, rfl, rfl, Below.refl _ _⟩
    case round =>
      obtain ⟨k, last, hk, rfl, rfl, heq, hbel⟩ := hrel
      have HEQ := Lib.hid heq
      have HB := Lib.hid hbel
      have x0 : wr.cell? ⟨w.heap.size, 0, none⟩ = some (.int .i64 0) := (hbel.cell (by exact Nat.lt_succ_self _)).trans (by simp)
      have x1 : wr.cell? ⟨w.heap.size, 1, none⟩ = some (.int .i64 0) := (hbel.cell (by exact Nat.lt_succ_self _)).trans (by simp)
      have y0 : wr.frozen? ⟨w.heap.size, 0, none⟩ = false := (hbel.frozen (by exact Nat.lt_succ_self _)).trans (by simp)
      have y1 : wr.frozen? ⟨w.heap.size, 1, none⟩ = false := (hbel.frozen (by exact Nat.lt_succ_self _)).trans (by simp)
      have hzr := hbel.size
      rw [World.size_alloc] at hzr
      have HB0 : Hid (Below w.heap.size w wr) := ((Below.refl _ _).alloc (Nat.le_refl _) _).trans (HB.out.mono (Nat.le_succ _))
      clear heq hbel
      by_cases hlt : k < n
      · have hkl : k < l.length := by have := HN.out; omega
        obtain ⟨t, ht⟩ : ∃ t, l[k]? = some t := ⟨l[k], List.getElem?_eq_getElem hkl⟩
        obtain ⟨b1, o1, rfl, hb1, p0, p1⟩ := F1.out k t ht
        have hd : l.drop k = t :: l.drop (k + 1) := by
          rw [List.drop_eq_getElem_cons hkl]; congr 1
          rw [List.getElem?_eq_getElem hkl] at ht; exact Option.some.inj ht
        obtain ⟨rep, time⟩ := t
        simp only at p0 p1
        have q0 := (HB0.out.cell (p := ⟨b1, o1 + k * 2, none⟩) hb1).trans p0
        have q1 := (HB0.out.cell (p := ⟨b1, o1 + k * 2 + 1, none⟩) hb1).trans p1
        have HD := Lib.hid hd
        have hlt0 : w.heap.size < wr.heap.size := by omega
        clear p0 p1 ht hd hkl
        by_cases hr : rep < 0 ∨ 200 < rep ∨ time < 1 ∨ 1099511627776 < time
        · have HW : Hid (faultV (vr l 0 (-1)) = .agg #[.int .i64 2, .int .i64 k]) := Lib.hid (faultV_is (show vr l 0 (-1) = (2, (k : Int)) by
            have hw : wrE ⟨rep, time⟩ last = 2 := wrE_range hr
            rw [HEQ.out, HD.out, vr_bad (by rw [hw]; decide), hw]))
          have HR := Lib.hid hr
          clear hr HEQ
          by_cases h1 : rep < 0 ∨ 200 < rep
          · rcases h1 with h1 | h1
            · go_wp2_with fail
              refine (within_low rep 0 200 _ h1).mono ?_
              rintro r w' ⟨rfl, rfl⟩
              go_wp2
              refine bodyPost_ret (v := .agg #[.int .i64 2, .int .i64 k]) (by simp [results, Tryz.results41, go_sem, x0, x1, hlt0]) rfl ?_
              rw [HW.out]
              exact ⟨rfl, ((HB0.out.setCell (Nat.le_refl _) _).setCell (Nat.le_refl _) _).alloc (by simp; omega) _⟩
            · go_wp2_with fail
              refine (within_high rep 0 200 _ (by omega) h1).mono ?_
              rintro r w' ⟨rfl, rfl⟩
              go_wp2
              refine bodyPost_ret (v := .agg #[.int .i64 2, .int .i64 k]) (by simp [results, Tryz.results41, go_sem, x0, x1, hlt0]) rfl ?_
              rw [HW.out]
              exact ⟨rfl, ((HB0.out.setCell (Nat.le_refl _) _).setCell (Nat.le_refl _) _).alloc (by simp; omega) _⟩
          · by_cases h2 : time < 1
            · go_wp2_with fail
              refine (within_yes rep 0 200 _ (by omega) (by omega)).mono ?_
              rintro r w' ⟨rfl, rfl⟩
              go_wp2_with fail
              refine (within_low time 1 1099511627776 _ h2).mono ?_
              rintro r w' ⟨rfl, rfl⟩
              go_wp2
              refine bodyPost_ret (v := .agg #[.int .i64 2, .int .i64 k]) (by simp [results, Tryz.results41, go_sem, x0, x1, hlt0]) rfl ?_
              rw [HW.out]
              exact ⟨rfl, ((HB0.out.setCell (Nat.le_refl _) _).setCell (Nat.le_refl _) _).alloc (by simp; omega) _⟩
            · have h3 : 1099511627776 < time := by have := HR.out; omega
              go_wp2_with fail
              refine (within_yes rep 0 200 _ (by omega) (by omega)).mono ?_
              rintro r w' ⟨rfl, rfl⟩
              go_wp2_with fail
              refine (within_high time 1 1099511627776 _ (by omega) h3).mono ?_
              rintro r w' ⟨rfl, rfl⟩
              go_wp2
              refine bodyPost_ret (v := .agg #[.int .i64 2, .int .i64 k]) (by simp [results, Tryz.results41, go_sem, x0, x1, hlt0]) rfl ?_
              rw [HW.out]
              exact ⟨rfl, ((HB0.out.setCell (Nat.le_refl _) _).setCell (Nat.le_refl _) _).alloc (by simp; omega) _⟩
        · have g1 : 0 ≤ rep := by omega
          have g2 : rep ≤ 200 := by omega
          have g3 : 1 ≤ time := by omega
          have g4 : time ≤ 1099511627776 := by omega
          by_cases h5 : rep ≤ last
          · have HW : Hid (faultV (vr l 0 (-1)) = .agg #[.int .i64 10, .int .i64 k]) := Lib.hid (faultV_is (show vr l 0 (-1) = (10, (k : Int)) by
              have hw : wrE ⟨rep, time⟩ last = 10 := wrE_order hr h5
              rw [HEQ.out, HD.out, vr_bad (by rw [hw]; decide), hw]))
            clear hr HEQ
            go_wp2_with fail
            refine (within_yes rep 0 200 _ g1 g2).mono ?_
            rintro r w' ⟨rfl, rfl⟩
            go_wp2_with fail
            refine (within_yes time 1 1099511627776 _ g3 g4).mono ?_
            rintro r w' ⟨rfl, rfl⟩
            go_wp2
            refine bodyPost_ret (v := .agg #[.int .i64 10, .int .i64 k]) (by simp [results, Tryz.results41, go_sem, x0, x1, hlt0]) rfl ?_
            rw [HW.out]
            exact ⟨rfl, ((HB0.out.setCell (Nat.le_refl _) _).setCell (Nat.le_refl _) _).alloc (by simp; omega) _⟩
          · have HW : Hid (vr l 0 (-1) = vr (l.drop (k + 1)) (k + 1) rep) := Lib.hid (show vr l 0 (-1) = vr (l.drop (k + 1)) (k + 1) rep by
              rw [HEQ.out, HD.out, vr_good (wrE_fine hr h5)])
            clear hr HEQ
            go_wp2_with fail
            refine (within_yes rep 0 200 _ g1 g2).mono ?_
            rintro r w' ⟨rfl, rfl⟩
            go_wp2_with fail
            refine (within_yes time 1 1099511627776 _ g3 g4).mono ?_
            rintro r w' ⟨rfl, rfl⟩
            go_wp2
            go_roundw
            case rel => exact ⟨k + 1, rep, by omega, by go_num, rfl, HW.out, HB.out.alloc (by omega) _⟩
            case measure => simp [intOf]; omega
      · have HW : Hid (faultV (vr l 0 (-1)) = .agg #[.int .i64 0, .int .i64 (-1)]) := Lib.hid (faultV_is (show vr l 0 (-1) = (0, -1) by rw [HEQ.out, List.drop_eq_nil_of_le (by have := HN.out; omega)]; rfl))
        have hlt0 : w.heap.size < wr.heap.size := by omega
        clear HEQ
        go_wp2_with fail
        refine (good_any _).mono ?_
        rintro r w1 ⟨rfl, hb1⟩
        have d0 : w1.cell? ⟨w.heap.size, 0, none⟩ = some (.int .i64 0) := (hb1.cell hlt0).trans x0
        have d1 : w1.cell? ⟨w.heap.size, 1, none⟩ = some (.int .i64 0) := (hb1.cell hlt0).trans x1
        have g0 : w1.frozen? ⟨w.heap.size, 0, none⟩ = false := (hb1.frozen hlt0).trans y0
        have g1 : w1.frozen? ⟨w.heap.size, 1, none⟩ = false := (hb1.frozen hlt0).trans y1
        have HBW : Hid (Below w.heap.size w w1) := HB0.out.trans (hb1.mono (Nat.le_of_lt hlt0))
        clear hb1 x0 x1 y0 y1
        go_wp2
        refine bodyPost_ret (v := .agg #[.int .i64 0, .int .i64 (-1)]) (by simp [results, Tryz.results41, go_sem, d0, d1]) rfl ?_
        rw [HW.out]
        exact ⟨rfl, (HBW.out.setCell (Nat.le_refl _) _).setCell (Nat.le_refl _) _⟩
end Go.Proofs.YtkafhlpnhgipeaaGreatDoor
/-
  The contract of the document's Covers.
-/
namespace Go.Proofs.YtkafhlpnhgipeaaGreatDoor
open Go.RowKit

theorem rof_as (v : Value) (l : List Ent) (x y : Int) (w : World) (hv : IsEnts w v l) (hl : l.length ≤ 9223372036854775807) (h : ofF l x = y) :
    Calls Tryz.prog 77 #[v, .int .i64 x] w fun r w' => r = .returned (.int .i64 y) ∧ w = w' := by
  subst h; exact rof_any v l x w hv hl
theorem rof_q (v : Value) (l : List Ent) (x y : Int) (w : World) (n : Nat) (hv : IsEnts w v l) (hl : l.length ≤ 9223372036854775807) (h : ofF l x = y) :
    Calls Tryz.prog 77 #[v, .int .i64 x] (w.drewN n) fun r w' => r = .returned (.int .i64 y) ∧ ∃ m, w' = w.drewN m :=
  (rof_as v l x y (w.drewN n) (hv.drewN n) hl h).mono fun _ _ ⟨h1, h2⟩ => ⟨h1, n, h2.symm⟩
theorem rvright_as (v : Value) (l : List Ent) (e : Nat) (pl : Int) (w : World) (hv : IsEnts w v l) (hl : l.length ≤ 9223372036854775807) (h : vrightF l = (e, pl)) :
    Calls Tryz.prog 41 #[v] w fun r w' => r = .returned (.agg #[.int .i64 (e : Int), .int .i64 pl]) ∧ Below w.heap.size w w' :=
  (rvright_any v l w hv hl).mono fun r w' ⟨h1, h2⟩ => ⟨by rw [h1, h]; rfl, h2⟩

theorem covA_dropR {a b : List Ent} {k : Nat} {t : Ent} (h : b[k]? = some t) : covA a (b.drop k) = (decide (t.time ≤ ofF a t.rep) && covA a (b.drop (k + 1))) := by
  obtain ⟨hk, ht⟩ := List.getElem?_eq_some_iff.1 h
  rw [List.drop_eq_getElem_cons hk, ht]; rfl

set_option maxRecDepth 100000 in
set_option maxHeartbeats 4000000 in
/-- The loop of it: what stands so far, and what is to come. -/
theorem rcov_any (va vb : Value) (a b : List Ent) (w : World) (ha : IsEnts w va a) (hb : IsEnts w vb b) (hla : a.length ≤ 9223372036854775807) (hlb : b.length ≤ 9223372036854775807) :
    Calls Tryz.prog 42 #[va, vb] w fun r w' => r = .returned (.bool (covB a b)) ∧ Below w.heap.size w w' := by
  have HVA := Lib.hid ha
  have HVB := Lib.hid hb
  have HLA := Lib.hid hla
  have HLB : Hid (b.length ≤ 9223372036854775807) := Lib.hid hlb
  obtain ⟨aa, ca, rfl, _⟩ := ha.form
  obtain ⟨ab, cb, rfl, fb⟩ := hb.form
  have FB := Lib.hid fb
  obtain ⟨na, hna⟩ : ∃ n, n = a.length := ⟨_, rfl⟩
  obtain ⟨nb, hnb⟩ : ∃ n, n = b.length := ⟨_, rfl⟩
  have HNB := Lib.hid hnb
  rw [← hna] at HVA ⊢
  rw [← hnb] at HVB hlb ⊢
  clear ha hb hla fb hna hnb
  obtain ⟨ea, pa, hra⟩ : ∃ e pl, vrightF a = (e, pl) := ⟨_, _, rfl⟩
  obtain ⟨eb, pb, hrb⟩ : ∃ e pl, vrightF b = (e, pl) := ⟨_, _, rfl⟩
  have HRA := Lib.hid hra
  have HRB := Lib.hid hrb
  have HC : Hid (covB a b = (decide (ea = 0) && decide (eb = 0) && covA a b)) := Lib.hid (show covB a b = (decide (ea = 0) && decide (eb = 0) && covA a b) by unfold covB; rw [hra, hrb])
  clear hra hrb
  by_cases h1 : ea = 0
  · have hne : ((ea : Int) == 0) = true := by simp; exact h1
    by_cases h2 : eb = 0
    · have hne2 : ((eb : Int) == 0) = true := by simp; exact h2
      have HC2 : Hid (covB a b = (true && covA a b)) := Lib.hid (show covB a b = (true && covA a b) by rw [HC.out, decide_eq_true h1, decide_eq_true h2]; rfl)
      clear h1 h2 HC
      go_enter Tryz.func42, Tryz.ntmps42
      go_wp2_with fail
      refine (rvright_as _ a ea pa _ HVA.out HLA.out HRA.out).mono ?_
      rintro r w1 ⟨rfl, hb1⟩
      have HB1 := Lib.hid hb1
      clear hb1
      go_wp2_with fail
      refine (is_any ea pa _).mono ?_
      rintro r w2 ⟨rfl, hb2⟩
      rw [hne]
      have HB2 : Hid (Below w.heap.size w w2) := HB1.out.trans (hb2.mono HB1.out.size)
      clear hb2
      go_wp2_with fail
      refine (rvright_as _ b eb pb _ (HVB.out.below HB2.out) HLB.out HRB.out).mono ?_
      rintro r w3 ⟨rfl, hb3⟩
      have HB3 : Hid (Below w.heap.size w w3) := HB2.out.trans (hb3.mono HB2.out.size)
      clear hb3
      go_wp2_with fail
      refine (is_any eb pb _).mono ?_
      rintro r w4 ⟨rfl, hb4⟩
      rw [hne2]
      have HB4 : Hid (Below w.heap.size w w4) := HB3.out.trans (hb4.mono HB3.out.size)
      clear hb4
      go_wp2
      go_loopw [5, 18] (fun o i wr => ∃ (k : Nat) (ok : Bool), k ≤ nb ∧ i = .int .i64 k ∧ o = .bool ok ∧ covB a b = (ok && covA a (b.drop k)) ∧ Below w.heap.size w wr) (fun _ i _ => nb - (intOf i).toNat)
      case atStart => exact ⟨0, true, by omega, rfl, rfl, HC2.out, HB4.out⟩
      case round =>
        obtain ⟨k, ok, hk, rfl, rfl, heq, hbel⟩ := hrel
        have HEQ := Lib.hid heq
        have HB := Lib.hid hbel
        have hzr := hbel.size
        clear heq hbel
        by_cases hlt : k < nb
        · obtain ⟨t, ht⟩ : ∃ t, b[k]? = some t := ⟨b[k]'(by have := HNB.out; omega), List.getElem?_eq_getElem _⟩
          obtain ⟨b1, o1, rfl, hb1, p0, p1⟩ := FB.out k t ht
          have hd := covA_dropR (a := a) ht
          obtain ⟨rep, time⟩ := t
          simp only at p0 p1 hd
          have q0 := (HB.out.cell (p := ⟨b1, o1 + k * 2, none⟩) hb1).trans p0
          have q1 := (HB.out.cell (p := ⟨b1, o1 + k * 2 + 1, none⟩) hb1).trans p1
          cases ok with
          | false =>
            have HW : Hid (covB a b = (false && covA a (b.drop (k + 1)))) := HEQ
            clear p0 p1 ht hd
            go_wp2
            go_quiet (fail)
            go_wp2
            go_roundw
            case rel => exact ⟨k + 1, false, by omega, by go_num, rfl, HW.out, below_drewN (HB.out.alloc hzr _) _⟩
            case measure => simp [intOf]; omega
          | true =>
            obtain ⟨x, hx⟩ : ∃ x, ofF a rep = x := ⟨_, rfl⟩
            rw [hx] at hd
            have HX := Lib.hid hx
            by_cases hlx : time ≤ x
            · have HW : Hid (covB a b = (true && covA a (b.drop (k + 1)))) := Lib.hid (show covB a b = (true && covA a (b.drop (k + 1))) by rw [HEQ.out, hd, decide_eq_true hlx, Bool.true_and])
              clear p0 p1 ht hd hx
              go_wp2
              go_quiet ((go_at_call 77; exact rof_q _ a rep x _ _ ((HVA.out.below HB.out).alloc _) HLA.out HX.out))
              go_wp2
              go_roundw
              case rel => exact ⟨k + 1, true, by omega, by go_num, rfl, HW.out, below_drewN (HB.out.alloc hzr _) _⟩
              case measure => simp [intOf]; omega
            · have HW : Hid (covB a b = (false && covA a (b.drop (k + 1)))) := Lib.hid (show covB a b = (false && covA a (b.drop (k + 1))) by rw [HEQ.out, hd, decide_eq_false hlx]; rfl)
              clear p0 p1 ht hd hx
              go_wp2
              go_quiet ((go_at_call 77; exact rof_q _ a rep x _ _ ((HVA.out.below HB.out).alloc _) HLA.out HX.out))
              go_wp2
              go_roundw
              case rel => exact ⟨k + 1, false, by omega, by go_num, by first | rfl | (congr 1; exact decide_eq_false (by omega)), HW.out, below_drewN (HB.out.alloc hzr _) _⟩
              case measure => simp [intOf]; omega
        · have HW : Hid (covB a b = ok) := Lib.hid (show covB a b = ok by rw [HEQ.out, List.drop_eq_nil_of_le (by have := HNB.out; omega)]; show (ok && true) = ok; simp)
          go_wp2
          go_ret
          exact ⟨by rw [HW.out]; rfl, HB.out⟩
    · have hne2 : ((eb : Int) == 0) = false := by simp; exact h2
      have HC2 : Hid (covB a b = false) := Lib.hid (show covB a b = false by rw [HC.out, decide_eq_false h2]; simp)
      clear h1 h2 HC
      go_enter Tryz.func42, Tryz.ntmps42
      go_wp2_with fail
      refine (rvright_as _ a ea pa _ HVA.out HLA.out HRA.out).mono ?_
      rintro r w1 ⟨rfl, hb1⟩
      have HB1 := Lib.hid hb1
      clear hb1
      go_wp2_with fail
      refine (is_any ea pa _).mono ?_
      rintro r w2 ⟨rfl, hb2⟩
      rw [hne]
      have HB2 : Hid (Below w.heap.size w w2) := HB1.out.trans (hb2.mono HB1.out.size)
      clear hb2
      go_wp2_with fail
      refine (rvright_as _ b eb pb _ (HVB.out.below HB2.out) HLB.out HRB.out).mono ?_
      rintro r w3 ⟨rfl, hb3⟩
      have HB3 : Hid (Below w.heap.size w w3) := HB2.out.trans (hb3.mono HB2.out.size)
      clear hb3
      go_wp2_with fail
      refine (is_any eb pb _).mono ?_
      rintro r w4 ⟨rfl, hb4⟩
      rw [hne2]
      have HB4 : Hid (Below w.heap.size w w4) := HB3.out.trans (hb4.mono HB3.out.size)
      clear hb4
      go_wp2
      go_loopw [5, 18] (fun o i wr => ∃ (k : Nat), k ≤ nb ∧ i = .int .i64 k ∧ o = .bool false ∧ Below w.heap.size w wr) (fun _ i _ => nb - (intOf i).toNat)
      case atStart => exact ⟨0, by omega, rfl, rfl, HB4.out⟩
      case round =>
        obtain ⟨k, hk, rfl, rfl, hbel⟩ := hrel
        have HB := Lib.hid hbel
        have hzr := hbel.size
        clear hbel
        by_cases hlt : k < nb
        · obtain ⟨t, ht⟩ : ∃ t, b[k]? = some t := ⟨b[k]'(by have := HNB.out; omega), List.getElem?_eq_getElem _⟩
          obtain ⟨b1, o1, rfl, hb1, p0, p1⟩ := FB.out k t ht
          obtain ⟨rep, time⟩ := t
          simp only at p0 p1
          have q0 := (HB.out.cell (p := ⟨b1, o1 + k * 2, none⟩) hb1).trans p0
          have q1 := (HB.out.cell (p := ⟨b1, o1 + k * 2 + 1, none⟩) hb1).trans p1
          clear p0 p1 ht
          go_wp2
          go_quiet (fail)
          go_wp2
          go_roundw
          case rel => exact ⟨k + 1, by omega, by go_num, rfl, below_drewN (HB.out.alloc hzr _) _⟩
          case measure => simp [intOf]; omega
        · go_wp2
          go_ret
          exact ⟨by rw [HC2.out]; rfl, HB.out⟩
  · have hne : ((ea : Int) == 0) = false := by simp; exact h1
    have HC2 : Hid (covB a b = false) := Lib.hid (show covB a b = false by rw [HC.out, decide_eq_false h1]; simp)
    clear h1 HC
    go_enter Tryz.func42, Tryz.ntmps42
    go_wp2_with fail
    refine (rvright_as _ a ea pa _ HVA.out HLA.out HRA.out).mono ?_
    rintro r w1 ⟨rfl, hb1⟩
    have HB1 := Lib.hid hb1
    clear hb1
    go_wp2_with fail
    refine (is_any ea pa _).mono ?_
    rintro r w2 ⟨rfl, hb2⟩
    rw [hne]
    have HB4 : Hid (Below w.heap.size w w2) := HB1.out.trans (hb2.mono HB1.out.size)
    clear hb2
    go_wp2
    go_loopw [5, 18] (fun o i wr => ∃ (k : Nat), k ≤ nb ∧ i = .int .i64 k ∧ o = .bool false ∧ Below w.heap.size w wr) (fun _ i _ => nb - (intOf i).toNat)
    case atStart => exact ⟨0, by omega, rfl, rfl, HB4.out⟩
    case round =>
      obtain ⟨k, hk, rfl, rfl, hbel⟩ := hrel
      have HB := Lib.hid hbel
      have hzr := hbel.size
      clear hbel
      by_cases hlt : k < nb
      · obtain ⟨t, ht⟩ : ∃ t, b[k]? = some t := ⟨b[k]'(by have := HNB.out; omega), List.getElem?_eq_getElem _⟩
        obtain ⟨b1, o1, rfl, hb1, p0, p1⟩ := FB.out k t ht
        obtain ⟨rep, time⟩ := t
        simp only at p0 p1
        have q0 := (HB.out.cell (p := ⟨b1, o1 + k * 2, none⟩) hb1).trans p0
        have q1 := (HB.out.cell (p := ⟨b1, o1 + k * 2 + 1, none⟩) hb1).trans p1
        clear p0 p1 ht
        go_wp2
        go_quiet (fail)
        go_wp2
        go_roundw
        case rel => exact ⟨k + 1, by omega, by go_num, rfl, below_drewN (HB.out.alloc hzr _) _⟩
        case measure => simp [intOf]; omega
      · go_wp2
        go_ret
        exact ⟨by rw [HC2.out]; rfl, HB.out⟩
end Go.Proofs.YtkafhlpnhgipeaaGreatDoor
/-
  The contracts of the document's Compare, IdRight, Within.
-/
namespace Go.Proofs.YtkafhlpnhgipeaaGreatDoor
open Go.RowKit

theorem cI_is (x1 x2 y1 y2 : Int) : cI (x1, x2) (y1, y2) = if x1 < y1 ∨ x1 = y1 ∧ x2 < y2 then -1 else if x1 = y1 ∧ x2 = y2 then 0 else 1 := by
  unfold cI orF cmpF
  simp only
  repeat' split
  all_goals omega

set_option maxRecDepth 100000 in
theorem rcmp_as (x1 x2 y1 y2 c : Int) (w : World) (h : cI (x1, x2) (y1, y2) = c) : Calls Tryz.prog 44 #[.agg #[.int .i64 x1, .int .i64 x2], .agg #[.int .i64 y1, .int .i64 y2]] w fun e w' => e = .returned (.int .i64 c) ∧ Below w.heap.size w w' := by
  subst h
  have hc := cI_is x1 x2 y1 y2
  by_cases h1 : x1 < y1
  · have HW : Hid (cI (x1, x2) (y1, y2) = -1) := Lib.hid (by rw [hc, if_pos (.inl h1)])
    clear hc
    go_enter Tryz.func44, Tryz.ntmps44
    go_wp2
    go_ret
    exact ⟨by rw [HW.out]; rfl, ((Below.refl _ _).alloc (Nat.le_refl _) _).alloc (by simp) _⟩
  · by_cases h2 : x1 = y1
    · subst h2
      by_cases h3 : x2 < y2
      · have HW : Hid (cI (x1, x2) (x1, y2) = -1) := Lib.hid (by rw [hc, if_pos (.inr ⟨rfl, h3⟩)])
        clear hc h1
        go_enter Tryz.func44, Tryz.ntmps44
        go_wp2
        go_ret
        exact ⟨by rw [HW.out]; rfl, ((Below.refl _ _).alloc (Nat.le_refl _) _).alloc (by simp) _⟩
      · by_cases h4 : x2 = y2
        · subst h4
          have HW : Hid (cI (x1, x2) (x1, x2) = 0) := Lib.hid (by rw [hc, if_neg (by omega), if_pos ⟨rfl, rfl⟩])
          clear hc h1 h3
          go_enter Tryz.func44, Tryz.ntmps44
          go_wp2
          go_ret
          exact ⟨by rw [HW.out]; rfl, ((Below.refl _ _).alloc (Nat.le_refl _) _).alloc (by simp) _⟩
        · have HW : Hid (cI (x1, x2) (x1, y2) = 1) := Lib.hid (by rw [hc, if_neg (by omega), if_neg (by omega)])
          have b1 : (x2 == y2) = false := by simpa using h4
          have d3 : y2 < x2 := by omega
          have d4 : decide (x2 < y2) = false := decide_eq_false h3
          clear hc h1 h3
          go_enter Tryz.func44, Tryz.ntmps44
          go_wp2
          go_ret
          exact ⟨by rw [HW.out]; rfl, ((Below.refl _ _).alloc (Nat.le_refl _) _).alloc (by simp) _⟩
    · have HW : Hid (cI (x1, x2) (y1, y2) = 1) := Lib.hid (by rw [hc, if_neg (by omega), if_neg (by omega)])
      have b1 : (x1 == y1) = false := by simpa using h2
      have d4 : decide (x1 < y1) = false := decide_eq_false h1
      clear hc
      go_enter Tryz.func44, Tryz.ntmps44
      go_wp2
      go_ret
      exact ⟨by rw [HW.out]; rfl, ((Below.refl _ _).alloc (Nat.le_refl _) _).alloc (by simp) _⟩

set_option maxRecDepth 100000 in
theorem ridright_as (x1 x2 : Int) (b : Bool) (w : World) (hb : idR (x1, x2) = b) :
    Calls Tryz.prog 78 #[.agg #[.int .i64 x1, .int .i64 x2]] w fun e w' => e = .returned (.bool b) ∧ Below w.heap.size w w' := by
  subst hb
  by_cases h1 : 1 ≤ x1 ∧ x1 ≤ 1099511627776
  · by_cases h2 : 0 ≤ x2 ∧ x2 ≤ 200
    · have HW : Hid (idR (x1, x2) = true) := Lib.hid (by unfold idR; exact decide_eq_true ⟨h1.1, h1.2, h2.1, h2.2⟩)
      go_enter Tryz.func78, Tryz.ntmps78
      go_wp2_with fail
      refine (within_yes x1 1 1099511627776 _ h1.1 h1.2).mono ?_
      rintro r w' ⟨rfl, rfl⟩
      go_wp2_with fail
      refine (within_yes x2 0 200 _ h2.1 h2.2).mono ?_
      rintro r w' ⟨rfl, rfl⟩
      go_wp2
      go_ret
      exact ⟨by rw [HW.out]; rfl, (Below.refl _ _).alloc (Nat.le_refl _) _⟩
    · have HW : Hid (idR (x1, x2) = false) := Lib.hid (by unfold idR; exact decide_eq_false (fun h => h2 h.2.2))
      by_cases h3 : x2 < 0
      · go_enter Tryz.func78, Tryz.ntmps78
        go_wp2_with fail
        refine (within_yes x1 1 1099511627776 _ h1.1 h1.2).mono ?_
        rintro r w' ⟨rfl, rfl⟩
        go_wp2_with fail
        refine (within_low x2 0 200 _ h3).mono ?_
        rintro r w' ⟨rfl, rfl⟩
        go_wp2
        go_ret
        exact ⟨by rw [HW.out]; rfl, (Below.refl _ _).alloc (Nat.le_refl _) _⟩
      · go_enter Tryz.func78, Tryz.ntmps78
        go_wp2_with fail
        refine (within_yes x1 1 1099511627776 _ h1.1 h1.2).mono ?_
        rintro r w' ⟨rfl, rfl⟩
        go_wp2_with fail
        refine (within_high x2 0 200 _ (by omega) (by omega)).mono ?_
        rintro r w' ⟨rfl, rfl⟩
        go_wp2
        go_ret
        exact ⟨by rw [HW.out]; rfl, (Below.refl _ _).alloc (Nat.le_refl _) _⟩
  · have HW : Hid (idR (x1, x2) = false) := Lib.hid (by unfold idR; exact decide_eq_false (fun h => h1 ⟨h.1, h.2.1⟩))
    by_cases h3 : x1 < 1
    · go_enter Tryz.func78, Tryz.ntmps78
      go_wp2_with fail
      refine (within_low x1 1 1099511627776 _ h3).mono ?_
      rintro r w' ⟨rfl, rfl⟩
      go_wp2
      go_ret
      exact ⟨by rw [HW.out]; rfl, (Below.refl _ _).alloc (Nat.le_refl _) _⟩
    · go_enter Tryz.func78, Tryz.ntmps78
      go_wp2_with fail
      refine (within_high x1 1 1099511627776 _ (by omega) (by omega)).mono ?_
      rintro r w' ⟨rfl, rfl⟩
      go_wp2
      go_ret
      exact ⟨by rw [HW.out]; rfl, (Below.refl _ _).alloc (Nat.le_refl _) _⟩

set_option maxRecDepth 100000 in
set_option maxHeartbeats 2000000 in
theorem rwithin_as (x1 x2 : Int) (vf vh : Value) (f h : List Ent) (w : World) (hf : IsEnts w vf f) (hh : IsEnts w vh h) (hlf : f.length ≤ 9223372036854775807) (hlh : h.length ≤ 9223372036854775807) (b : Bool) (hb : wiF (x1, x2) f h = b) :
    Calls Tryz.prog 45 #[.agg #[.int .i64 x1, .int .i64 x2], vf, vh] w fun e w' => e = .returned (.bool b) ∧ Below w.heap.size w w' := by
  subst hb
  obtain ⟨p, hp⟩ : ∃ p, ofF f x2 = p := ⟨_, rfl⟩
  obtain ⟨q, hq⟩ : ∃ q, ofF h x2 = q := ⟨_, rfl⟩
  have HP := Lib.hid hp
  have HQ := Lib.hid hq
  have HLF := Lib.hid hlf
  have HLH := Lib.hid hlh
  have HF : Hid (IsEnts (w.alloc (.cells #[.int .i64 x1, .int .i64 x2] 44)) vf f) := Lib.hid (hf.alloc _)
  have HH : Hid (IsEnts (w.alloc (.cells #[.int .i64 x1, .int .i64 x2] 44)) vh h) := Lib.hid (hh.alloc _)
  have hval : wiF (x1, x2) f h = (decide (p < x1) && decide (x1 ≤ q)) := by unfold wiF; simp only; rw [hp, hq]
  by_cases h1 : p < x1
  · by_cases h2 : x1 ≤ q
    · have HW : Hid (wiF (x1, x2) f h = true) := Lib.hid (by rw [hval, decide_eq_true h1, decide_eq_true h2]; rfl)
      clear hf hh hp hq hlf hlh hval
      rw [HW.out]
      go_enter Tryz.func45, Tryz.ntmps45
      go_wp2
      go_quiet ((first | (go_at_call 77; with_reducible exact rofI_q vf f x2 p _ _ HF.out HLF.out HP.out) | (go_at_call 77; with_reducible exact rofI_q vh h x2 q _ _ HH.out HLH.out HQ.out)))
      go_wp2
      go_ret
      exact ⟨rfl, below_drewN ((Below.refl _ _).alloc (Nat.le_refl _) _) _⟩
    · have HW : Hid (wiF (x1, x2) f h = false) := Lib.hid (by rw [hval, decide_eq_true h1, decide_eq_false h2]; rfl)
      have d7 : decide (x1 ≤ q) = false := decide_eq_false h2
      clear hf hh hp hq hlf hlh hval h2
      rw [HW.out]
      go_enter Tryz.func45, Tryz.ntmps45
      go_wp2
      go_quiet ((first | (go_at_call 77; with_reducible exact rofI_q vf f x2 p _ _ HF.out HLF.out HP.out) | (go_at_call 77; with_reducible exact rofI_q vh h x2 q _ _ HH.out HLH.out HQ.out)))
      go_wp2
      go_ret
      exact ⟨rfl, below_drewN ((Below.refl _ _).alloc (Nat.le_refl _) _) _⟩
  · have HW : Hid (wiF (x1, x2) f h = false) := Lib.hid (by rw [hval, decide_eq_false h1]; rfl)
    have d6 : decide (p < x1) = false := decide_eq_false h1
    clear hf hh hp hq hlf hlh hval h1
    rw [HW.out]
    go_enter Tryz.func45, Tryz.ntmps45
    go_wp2
    go_quiet ((first | (go_at_call 77; with_reducible exact rofI_q vf f x2 p _ _ HF.out HLF.out HP.out)))
    go_wp2
    go_ret
    exact ⟨rfl, below_drewN ((Below.refl _ _).alloc (Nat.le_refl _) _) _⟩
end Go.Proofs.YtkafhlpnhgipeaaGreatDoor
/-
  The contract of the document's IdRight.
-/
namespace Go.Proofs.YtkafhlpnhgipeaaGreatDoor
open Go.RowKit

set_option maxRecDepth 100000 in
theorem ridrightW_as (x1 x2 : Int) (b : Bool) (w : World) (hb : idRW (x1, x2) = b) :
    Calls Tryz.prog 78 #[.agg #[.int .i64 x1, .int .i64 x2]] w fun e w' => e = .returned (.bool b) ∧ Below w.heap.size w w' := by
  subst hb
  by_cases h1 : 1 ≤ x1 ∧ x1 ≤ 1099511627776
  · by_cases h2 : 0 ≤ x2 ∧ x2 ≤ 200
    · have HW : Hid (idRW (x1, x2) = true) := Lib.hid (by unfold idRW; exact decide_eq_true ⟨h1.1, h1.2, h2.1, h2.2⟩)
      go_enter Tryz.func78, Tryz.ntmps78
      go_wp2_with fail
      refine (within_yes x1 1 1099511627776 _ h1.1 h1.2).mono ?_
      rintro r w' ⟨rfl, rfl⟩
      go_wp2_with fail
      refine (within_yes x2 0 200 _ h2.1 h2.2).mono ?_
      rintro r w' ⟨rfl, rfl⟩
      go_wp2
      go_ret
      exact ⟨by rw [HW.out]; rfl, (Below.refl _ _).alloc (Nat.le_refl _) _⟩
    · have HW : Hid (idRW (x1, x2) = false) := Lib.hid (by unfold idRW; exact decide_eq_false (fun h => h2 h.2.2))
      by_cases h3 : x2 < 0
      · go_enter Tryz.func78, Tryz.ntmps78
        go_wp2_with fail
        refine (within_yes x1 1 1099511627776 _ h1.1 h1.2).mono ?_
        rintro r w' ⟨rfl, rfl⟩
        go_wp2_with fail
        refine (within_low x2 0 200 _ h3).mono ?_
        rintro r w' ⟨rfl, rfl⟩
        go_wp2
        go_ret
        exact ⟨by rw [HW.out]; rfl, (Below.refl _ _).alloc (Nat.le_refl _) _⟩
      · go_enter Tryz.func78, Tryz.ntmps78
        go_wp2_with fail
        refine (within_yes x1 1 1099511627776 _ h1.1 h1.2).mono ?_
        rintro r w' ⟨rfl, rfl⟩
        go_wp2_with fail
        refine (within_high x2 0 200 _ (by omega) (by omega)).mono ?_
        rintro r w' ⟨rfl, rfl⟩
        go_wp2
        go_ret
        exact ⟨by rw [HW.out]; rfl, (Below.refl _ _).alloc (Nat.le_refl _) _⟩
  · have HW : Hid (idRW (x1, x2) = false) := Lib.hid (by unfold idRW; exact decide_eq_false (fun h => h1 ⟨h.1, h.2.1⟩))
    by_cases h3 : x1 < 1
    · go_enter Tryz.func78, Tryz.ntmps78
      go_wp2_with fail
      refine (within_low x1 1 1099511627776 _ h3).mono ?_
      rintro r w' ⟨rfl, rfl⟩
      go_wp2
      go_ret
      exact ⟨by rw [HW.out]; rfl, (Below.refl _ _).alloc (Nat.le_refl _) _⟩
    · go_enter Tryz.func78, Tryz.ntmps78
      go_wp2_with fail
      refine (within_high x1 1 1099511627776 _ (by omega) (by omega)).mono ?_
      rintro r w' ⟨rfl, rfl⟩
      go_wp2
      go_ret
      exact ⟨by rw [HW.out]; rfl, (Below.refl _ _).alloc (Nat.le_refl _) _⟩
end Go.Proofs.YtkafhlpnhgipeaaGreatDoor
/-
  The contract of the document's WriteRight.
-/
namespace Go.Proofs.YtkafhlpnhgipeaaGreatDoor
open Go.RowKit

theorem itoa_k (k : Nat) (hk : k < 10) (w : World) : Calls Tryz.prog 80 #[.int .i64 (k : Int)] w fun e w' => e = .returned (.string ⟨(Lib.decDigits k).toArray⟩) ∧ w = w' :=
  (Tryz.strconv_Itoa_small k (by omega) w).mono fun e w' ⟨h1, h2⟩ => ⟨h1, h2.symm⟩
theorem has23 (c : UInt8) (b : Bool) (w : World) (h : decide (0 ≤ Lib.indexByte [50, 51] c) = b) : Calls Tryz.prog 79 #[.string ⟨#[50, 51]⟩, .string ⟨#[c]⟩] w fun e w' => e = .returned (.bool b) ∧ w = w' :=
  (Tryz.strings_Contains_one ⟨#[50, 51]⟩ c w).mono fun e w' ⟨h1, h2⟩ => ⟨by rw [h1]; exact congrArg (fun x => Ending.returned (.bool x)) h, h2.symm⟩
theorem itoa_1 (w : World) : Calls Tryz.prog 80 #[.int .i64 1] w fun e w' => e = .returned (.string ⟨#[49]⟩) ∧ w = w' := (itoa_k 1 (by decide) w).mono fun e w' ⟨h1, h2⟩ => ⟨by rw [h1]; exact congrArg (fun x => Ending.returned (.string ⟨x⟩)) (show (Lib.decDigits 1).toArray = #[49] by decide +kernel), h2⟩
theorem itoa_2 (w : World) : Calls Tryz.prog 80 #[.int .i64 2] w fun e w' => e = .returned (.string ⟨#[50]⟩) ∧ w = w' := (itoa_k 2 (by decide) w).mono fun e w' ⟨h1, h2⟩ => ⟨by rw [h1]; exact congrArg (fun x => Ending.returned (.string ⟨x⟩)) (show (Lib.decDigits 2).toArray = #[50] by decide +kernel), h2⟩
theorem itoa_3 (w : World) : Calls Tryz.prog 80 #[.int .i64 3] w fun e w' => e = .returned (.string ⟨#[51]⟩) ∧ w = w' := (itoa_k 3 (by decide) w).mono fun e w' ⟨h1, h2⟩ => ⟨by rw [h1]; exact congrArg (fun x => Ending.returned (.string ⟨x⟩)) (show (Lib.decDigits 3).toArray = #[51] by decide +kernel), h2⟩
theorem itoa_4 (w : World) : Calls Tryz.prog 80 #[.int .i64 4] w fun e w' => e = .returned (.string ⟨#[52]⟩) ∧ w = w' := (itoa_k 4 (by decide) w).mono fun e w' ⟨h1, h2⟩ => ⟨by rw [h1]; exact congrArg (fun x => Ending.returned (.string ⟨x⟩)) (show (Lib.decDigits 4).toArray = #[52] by decide +kernel), h2⟩

set_option maxRecDepth 100000 in
set_option maxHeartbeats 8000000 in
theorem rwright_any (T R K : Int) (key val : ByteArray) (N : Int) (w : World) (hk : key.size ≤ 140737488351232) (hv : val.size ≤ 140737488351232) :
    Calls Tryz.prog 43 #[.agg #[.int .i64 T, .int .i64 R, .int .i64 K, .string key, .string val, .int .i64 N]] w fun e w' => e = .returned (.int .i64 (wriE T R K key val N : Nat)) ∧ Below w.heap.size w w' := by
  have HN0 := Lib.hid (wrAt_new w T R K key val N 46)
  by_cases hK : K < 1 ∨ 4 < K
  · rw [wriE_kind hK]
    have hw : ∀ w : World, Calls Tryz.prog 33 #[.int .i64 K, .int .i64 1, .int .i64 4] w fun e w' => e = .returned (.bool false) ∧ w = w' := by
      intro w
      by_cases h1 : K < 1
      · exact within_low K 1 4 w h1
      · exact within_high K 1 4 w (by omega) (by omega)
    go_enter Tryz.func43, Tryz.ntmps43
    go_wp2_with fail
    refine (hw _).mono ?_
    rintro r w' ⟨rfl, rfl⟩
    go_wp2
    go_ret
    exact ⟨rfl, (Below.refl _ _).alloc (Nat.le_refl _) _⟩
  · have h1 : 1 ≤ K := by omega
    have h2 : K ≤ 4 := by omega
    cases hid : idOk T R with
    | false =>
      rw [wriE_id hK hid]
      go_enter Tryz.func43, Tryz.ntmps43
      go_wp2_with fail
      refine (within_yes K 1 4 _ h1 h2).mono ?_
      rintro r w' ⟨rfl, rfl⟩
      go_wp2_with fail
      refine (ridrightW_as T R false _ hid).mono ?_
      rintro r w1 ⟨rfl, hb1⟩
      have HB1 := Lib.hid (((Below.refl _ _).alloc (Nat.le_refl _) _).trans (hb1.mono (by simp)))
      clear hb1
      go_wp2
      go_ret
      exact ⟨rfl, HB1.out⟩
    | true =>
      go_enter Tryz.func43, Tryz.ntmps43
      go_wp2_with fail
      refine (within_yes K 1 4 _ h1 h2).mono ?_
      rintro r w' ⟨rfl, rfl⟩
      go_wp2_with fail
      refine (ridrightW_as T R true _ hid).mono ?_
      rintro r w1 ⟨rfl, hb1⟩
      have HA1 := Lib.hid (HN0.out.below hb1 (by simp))
      have HB1 := Lib.hid (((Below.refl _ _).alloc (Nat.le_refl _) _).trans (hb1.mono (by simp)))
      have HID := Lib.hid hid
      clear hb1 hid
      obtain ⟨c0, c1, c2, c3, c4, c5⟩ := HA1.out
      by_cases hs : 40 < key.size ∨ 300 < val.size
      · have HW := Lib.hid (wriE_size (N := N) hK HID.out hs)
        by_cases h3 : 40 < key.size
        · go_wp2
          go_ret
          rw [HW.out]
          exact ⟨rfl, HB1.out⟩
        · have h4 : 300 < val.size := by omega
          go_wp2
          go_ret
          rw [HW.out]
          exact ⟨rfl, HB1.out⟩
      · have h3 : ¬ 40 < key.size := by omega
        have h4 : ¬ 300 < val.size := by omega
        have HW := Lib.hid (wriE_rest (N := N) hK HID.out hs)
        clear hs
        have hcase : K = 1 ∨ K = 2 ∨ K = 3 ∨ K = 4 := by omega
        clear hK h1 h2
        rcases hcase with rfl | rfl | rfl | rfl
        · skip
          by_cases hve : 0 < val.size
          · have b0 : ¬ val.toList = [] := by have := bne_empty hve; simpa using this
            by_cases hn : N = 0
            · subst hn
              have HR : Hid (wriE T R 1 key val 0 = 0) := Lib.hid (by rw [HW.out]; simp [hasV, hasN, fitsN, hve])
              go_wp2_with (first | (go_at_call 80; refine (itoa_1 _).mono ?_; rintro r w2 ⟨rfl, rfl⟩) | (go_at_call 79; refine (has23 49 false _ (by decide +kernel)).mono ?_; rintro r w3 ⟨rfl, rfl⟩))
              go_ret
              rw [HR.out]
              exact ⟨rfl, HB1.out⟩
            · skip
              have HR : Hid (wriE T R 1 key val N = 3) := Lib.hid (by rw [HW.out]; simp [hasV, hasN, hve, hn])
              go_wp2_with (first | (go_at_call 80; refine (itoa_1 _).mono ?_; rintro r w2 ⟨rfl, rfl⟩) | (go_at_call 79; refine (has23 49 false _ (by decide +kernel)).mono ?_; rintro r w3 ⟨rfl, rfl⟩))
              go_ret
              rw [HR.out]
              exact ⟨rfl, HB1.out⟩
          · obtain rfl := empty_of hve
            have z0 : (⟨#[]⟩ : ByteArray).size = 0 := rfl
            by_cases hn : N = 0
            · subst hn
              have HR : Hid (wriE T R 1 key ⟨#[]⟩ 0 = 0) := Lib.hid (by rw [HW.out]; simp [hasV, hasN, fitsN, z0])
              go_wp2
              go_ret
              rw [HR.out]
              exact ⟨rfl, HB1.out⟩
            · skip
              have HR : Hid (wriE T R 1 key ⟨#[]⟩ N = 3) := Lib.hid (by rw [HW.out]; simp [hasV, hasN, z0, hn])
              go_wp2
              go_ret
              rw [HR.out]
              exact ⟨rfl, HB1.out⟩
        · skip
          by_cases hve : 0 < val.size
          · have b0 : ¬ val.toList = [] := by have := bne_empty hve; simpa using this
            have HR : Hid (wriE T R 2 key val N = 3) := Lib.hid (by rw [HW.out]; simp [hasV, hasN, hve])
            go_wp2_with (first | (go_at_call 80; refine (itoa_2 _).mono ?_; rintro r w2 ⟨rfl, rfl⟩) | (go_at_call 79; refine (has23 50 true _ (by decide +kernel)).mono ?_; rintro r w3 ⟨rfl, rfl⟩))
            go_ret
            rw [HR.out]
            exact ⟨rfl, HB1.out⟩
          · obtain rfl := empty_of hve
            have z0 : (⟨#[]⟩ : ByteArray).size = 0 := rfl
            by_cases hn : N = 0
            · subst hn
              have HR : Hid (wriE T R 2 key ⟨#[]⟩ 0 = 0) := Lib.hid (by rw [HW.out]; simp [hasV, hasN, fitsN, z0])
              go_wp2
              go_ret
              rw [HR.out]
              exact ⟨rfl, HB1.out⟩
            · skip
              have HR : Hid (wriE T R 2 key ⟨#[]⟩ N = 3) := Lib.hid (by rw [HW.out]; simp [hasV, hasN, z0, hn])
              go_wp2
              go_ret
              rw [HR.out]
              exact ⟨rfl, HB1.out⟩
        · skip
          by_cases hve : 0 < val.size
          · have b0 : ¬ val.toList = [] := by have := bne_empty hve; simpa using this
            have HR : Hid (wriE T R 3 key val N = 3) := Lib.hid (by rw [HW.out]; simp [hasV, hasN, hve])
            go_wp2_with (first | (go_at_call 80; refine (itoa_3 _).mono ?_; rintro r w2 ⟨rfl, rfl⟩) | (go_at_call 79; refine (has23 51 true _ (by decide +kernel)).mono ?_; rintro r w3 ⟨rfl, rfl⟩))
            go_ret
            rw [HR.out]
            exact ⟨rfl, HB1.out⟩
          · obtain rfl := empty_of hve
            have z0 : (⟨#[]⟩ : ByteArray).size = 0 := rfl
            by_cases hn : N = 0
            · subst hn
              have HR : Hid (wriE T R 3 key ⟨#[]⟩ 0 = 0) := Lib.hid (by rw [HW.out]; simp [hasV, hasN, fitsN, z0])
              go_wp2_with (first | (go_at_call 33; refine (within_yes 0 (-1125899906842624) 1125899906842624 _ (by decide) (by decide)).mono ?_; rintro r w4 ⟨rfl, rfl⟩))
              go_ret
              rw [HR.out]
              exact ⟨rfl, HB1.out⟩
            · skip
              by_cases n0 : (-1125899906842624) ≤ N
              · by_cases n1 : N ≤ 1125899906842624
                · skip
                  have HR : Hid (wriE T R 3 key ⟨#[]⟩ N = 0) := Lib.hid (by rw [HW.out]; simp [hasV, hasN, fitsN, z0, n0, n1])
                  go_wp2_with (first | (go_at_call 33; refine (within_yes N (-1125899906842624) 1125899906842624 _ n0 n1).mono ?_; rintro r w4 ⟨rfl, rfl⟩))
                  go_ret
                  rw [HR.out]
                  exact ⟨rfl, HB1.out⟩
                · skip
                  have HR : Hid (wriE T R 3 key ⟨#[]⟩ N = 2) := Lib.hid (by rw [HW.out]; simp [hasV, hasN, fitsN, z0, n1])
                  go_wp2_with (first | (go_at_call 33; refine (within_high N (-1125899906842624) 1125899906842624 _ n0 (by omega)).mono ?_; rintro r w4 ⟨rfl, rfl⟩))
                  go_ret
                  rw [HR.out]
                  exact ⟨rfl, HB1.out⟩
              · skip
                have HR : Hid (wriE T R 3 key ⟨#[]⟩ N = 2) := Lib.hid (by rw [HW.out]; simp [hasV, hasN, fitsN, z0, n0])
                go_wp2_with (first | (go_at_call 33; refine (within_low N (-1125899906842624) 1125899906842624 _ (by omega)).mono ?_; rintro r w4 ⟨rfl, rfl⟩))
                go_ret
                rw [HR.out]
                exact ⟨rfl, HB1.out⟩
        · skip
          by_cases hve : 0 < val.size
          · have b0 : ¬ val.toList = [] := by have := bne_empty hve; simpa using this
            by_cases hn : N = 0
            · subst hn
              have HR : Hid (wriE T R 4 key val 0 = 0) := Lib.hid (by rw [HW.out]; simp [hasV, hasN, fitsN, hve])
              go_wp2_with (first | (go_at_call 80; refine (itoa_4 _).mono ?_; rintro r w2 ⟨rfl, rfl⟩) | (go_at_call 79; refine (has23 52 false _ (by decide +kernel)).mono ?_; rintro r w3 ⟨rfl, rfl⟩) | (go_at_call 33; refine (within_yes 0 0 1000 _ (by decide) (by decide)).mono ?_; rintro r w4 ⟨rfl, rfl⟩))
              go_ret
              rw [HR.out]
              exact ⟨rfl, HB1.out⟩
            · skip
              by_cases n0 : 0 ≤ N
              · by_cases n1 : N ≤ 1000
                · skip
                  have HR : Hid (wriE T R 4 key val N = 0) := Lib.hid (by rw [HW.out]; simp [hasV, hasN, fitsN, hve, n0, n1])
                  go_wp2_with (first | (go_at_call 80; refine (itoa_4 _).mono ?_; rintro r w2 ⟨rfl, rfl⟩) | (go_at_call 79; refine (has23 52 false _ (by decide +kernel)).mono ?_; rintro r w3 ⟨rfl, rfl⟩) | (go_at_call 33; refine (within_yes N 0 1000 _ n0 n1).mono ?_; rintro r w4 ⟨rfl, rfl⟩))
                  go_ret
                  rw [HR.out]
                  exact ⟨rfl, HB1.out⟩
                · skip
                  have HR : Hid (wriE T R 4 key val N = 2) := Lib.hid (by rw [HW.out]; simp [hasV, hasN, fitsN, hve, n1])
                  go_wp2_with (first | (go_at_call 80; refine (itoa_4 _).mono ?_; rintro r w2 ⟨rfl, rfl⟩) | (go_at_call 79; refine (has23 52 false _ (by decide +kernel)).mono ?_; rintro r w3 ⟨rfl, rfl⟩) | (go_at_call 33; refine (within_high N 0 1000 _ n0 (by omega)).mono ?_; rintro r w4 ⟨rfl, rfl⟩))
                  go_ret
                  rw [HR.out]
                  exact ⟨rfl, HB1.out⟩
              · skip
                have HR : Hid (wriE T R 4 key val N = 2) := Lib.hid (by rw [HW.out]; simp [hasV, hasN, fitsN, hve, n0])
                go_wp2_with (first | (go_at_call 80; refine (itoa_4 _).mono ?_; rintro r w2 ⟨rfl, rfl⟩) | (go_at_call 79; refine (has23 52 false _ (by decide +kernel)).mono ?_; rintro r w3 ⟨rfl, rfl⟩) | (go_at_call 33; refine (within_low N 0 1000 _ (by omega)).mono ?_; rintro r w4 ⟨rfl, rfl⟩))
                go_ret
                rw [HR.out]
                exact ⟨rfl, HB1.out⟩
          · obtain rfl := empty_of hve
            have z0 : (⟨#[]⟩ : ByteArray).size = 0 := rfl
            by_cases hn : N = 0
            · subst hn
              have HR : Hid (wriE T R 4 key ⟨#[]⟩ 0 = 0) := Lib.hid (by rw [HW.out]; simp [hasV, hasN, fitsN, z0])
              go_wp2_with (first | (go_at_call 33; refine (within_yes 0 0 1000 _ (by decide) (by decide)).mono ?_; rintro r w4 ⟨rfl, rfl⟩))
              go_ret
              rw [HR.out]
              exact ⟨rfl, HB1.out⟩
            · skip
              by_cases n0 : 0 ≤ N
              · by_cases n1 : N ≤ 1000
                · skip
                  have HR : Hid (wriE T R 4 key ⟨#[]⟩ N = 0) := Lib.hid (by rw [HW.out]; simp [hasV, hasN, fitsN, z0, n0, n1])
                  go_wp2_with (first | (go_at_call 33; refine (within_yes N 0 1000 _ n0 n1).mono ?_; rintro r w4 ⟨rfl, rfl⟩))
                  go_ret
                  rw [HR.out]
                  exact ⟨rfl, HB1.out⟩
                · skip
                  have HR : Hid (wriE T R 4 key ⟨#[]⟩ N = 2) := Lib.hid (by rw [HW.out]; simp [hasV, hasN, fitsN, z0, n1])
                  go_wp2_with (first | (go_at_call 33; refine (within_high N 0 1000 _ n0 (by omega)).mono ?_; rintro r w4 ⟨rfl, rfl⟩))
                  go_ret
                  rw [HR.out]
                  exact ⟨rfl, HB1.out⟩
              · skip
                have HR : Hid (wriE T R 4 key ⟨#[]⟩ N = 2) := Lib.hid (by rw [HW.out]; simp [hasV, hasN, fitsN, z0, n0])
                go_wp2_with (first | (go_at_call 33; refine (within_low N 0 1000 _ (by omega)).mono ?_; rintro r w4 ⟨rfl, rfl⟩))
                go_ret
                rw [HR.out]
                exact ⟨rfl, HB1.out⟩
end Go.Proofs.YtkafhlpnhgipeaaGreatDoor
