import Derived.Test.YtkafhlpnhgipeaaGreatDoorPk07
import Derived.Test.YtkafhlpnhgipeaaGreatDoorPk02
import Derived.Test.YtkafhlpnhgipeaaGreatDoorPk05
import Derived.Test.YtkafhlpnhgipeaaGreatDoorPk03
import Derived.WalkKit
import Derived.Handy
import Derived.KernelRfl
import Derived.Below
import Derived.Deep.AppendLies
import Derived.Laws.OwnMore
import Derived.Deep.Draws
import Derived.Lib.Hide
import Derived.Test.YtkafhlpnhgipeaaGreatDoorProg
import Derived.BigQuiet
import Derived.Deep.RegionHeld3
import Derived.WalkLawsBesides
/-
  The contract of vector.Write.
-/
namespace Go.Proofs.YtkafhlpnhgipeaaGreatDoor
open Go.RowKit

theorem timesB_len (l : List Ent) (h : ∀ e ∈ l, e.time ≤ 1099511627776) : (timesB l).length ≤ 10 * l.length := by
  induction l with
  | nil => exact Nat.le_refl _
  | cons e t ih =>
    rw [timesB_cons, List.length_append, List.length_cons]
    have h1 := h e List.mem_cons_self
    have h2 := ih fun x hx => h x (List.mem_cons_of_mem _ hx)
    have h3 := putL_le10 (n := e.time.toNat) (by omega)
    omega
theorem runsB_len (R : List (List Ent)) : ∀ least : Int, 0 ≤ least → isRuns least R → (∀ e ∈ R.flatten, e.rep ≤ 200 ∧ e.time ≤ 1099511627776) → R.flatten.length ≤ 1000 → (runsB least R).length ≤ 30 * R.flatten.length := by
  induction R with
  | nil => intro _ _ _ _ _; exact Nat.le_refl _
  | cons run rs ih =>
    intro least h0 h hb hl
    obtain ⟨h1, h2, h3, h4⟩ := h
    have hpos : 0 < run.length := List.length_pos_iff.2 h1
    have hlast := consec_last h3 h1
    rw [List.flatten_cons, List.length_append] at hl ⊢
    rw [List.flatten_cons] at hb
    have h5 := ih _ (by omega) h4 (fun e he => hb e (List.mem_append_right _ he)) (by omega)
    have h6 := timesB_len run (fun e he => (hb e (List.mem_append_left _ he)).2)
    have hh : (run.headD ⟨0, 0⟩).rep ≤ 200 := by
      cases run with
      | nil => exact absurd rfl h1
      | cons e t => exact (hb e (by simp)).1
    have h7 := putL_le10 (n := ((run.headD ⟨0, 0⟩).rep - least).toNat) (by omega)
    have h8 := putL_le10 (n := run.length - 1) (by omega)
    rw [runsB, List.length_append]
    unfold runB
    simp only [List.length_append]
    omega
theorem runs_few (R : List (List Ent)) : ∀ least : Int, isRuns least R → R.length ≤ R.flatten.length := by
  induction R with
  | nil => intro _ _; exact Nat.le_refl _
  | cons run rs ih =>
    intro least hR
    have := ih _ hR.2.2.2
    have h3 : 0 < run.length := List.length_pos_iff.2 hR.1
    rw [List.flatten_cons, List.length_append, List.length_cons]; omega
theorem vwrite_len {l : List Ent} (h : rightV l) : (vwriteL l).length ≤ 500 ∧ (runsL l).length ≤ 16 := by
  obtain ⟨h1, h2⟩ := runs_is h.2
  have h3 := runsB_len (runsL l) 0 (Int.le_refl _) h1 (fun e he => by rw [h2] at he; have := okV_mem h.2 e he; omega) (by rw [h2]; have := h.1; omega)
  have h4 := runs_few _ _ h1
  rw [h2] at h3 h4
  have h5 := putL_le10 (n := (runsL l).length) (by have := h.1; omega)
  have h6 := h.1
  unfold vwriteL
  rw [List.length_append]
  omega

set_option maxRecDepth 100000 in
/-- The closure that writes a number. -/
theorem wput_any (B b n : Nat) (l : List UInt8) (w : World) (h : isBld w B b l) (hn : n ≤ 1099511627776) (hl : l.length ≤ 1000000) (hBw : B ≤ w.heap.size) :
    Calls Tryz.prog 85 #[.int .i64 (n : Int), .pointer (some ⟨b, 0, none⟩)] w fun e w' => e = .returned (.tuple #[]) ∧ isBld w' B b (l ++ putL n) ∧ Below B w w' ∧ NonB b w w' := by
  have H := Lib.hid h
  have hp := putL_le10 (n := n) (by omega)
  have hk : IntKind.u64.wrap (n : Int) = (n : Int) := IntWalk.u64_in _ (by omega)
  clear h
  go_enter Tryz.func85, Tryz.ntmps85
  go_wp2_with fail
  refine (put_nat n _ (by omega)).mono ?_
  rintro r w1 ⟨rfl, hb1⟩
  have H1 := Lib.hid (H.out.below hb1)
  have HB1 := Lib.hid (hb1.mono hBw)
  have HN1 := Lib.hid (NonB.of (b := b) hb1)
  have hz := hb1.size
  clear hb1
  go_wp2_with fail
  refine (bld_write2 B b l _ _ H1.out (by rw [bs_size]; omega) (by omega)).mono ?_
  rintro r w2 ⟨rfl, hbl, hb2, hn2⟩
  have H2 := Lib.hid hbl
  have HB2 := Lib.hid (HB1.out.trans hb2)
  have HN2 := Lib.hid (HN1.out.trans hn2 hz)
  clear hbl hb2 hn2
  go_wp2
  go_end0
  exact ⟨rfl, H2.out, HB2.out, HN2.out⟩

def VWriteIs (w : World) (l : List Ent) (e : Ending) (w' : World) : Prop :=
  ∃ err, e = .returned (.tuple #[.string ⟨(vwriteF l).toArray⟩, err]) ∧ anyErr w' err (vrightF l) ∧ Below w.heap.size w w'

/-- The runs, in the row that was cut; the builder, and what it holds. -/
def WR (w : World) (B b : Nat) (rv : Value) (vs : List Value) (pre : List UInt8) (wr : World) : Prop :=
  isBld wr w.heap.size b pre ∧ ownsR wr B rv vs ∧ b < B ∧ B ≤ wr.heap.size ∧ Below w.heap.size w wr
theorem WR.put {w : World} {B b : Nat} {rv : Value} {vs : List Value} {pre pre' : List UInt8} {wr w' : World} (h : WR w B b rv vs pre wr) (h1 : isBld w' w.heap.size b pre') (h2 : Below w.heap.size wr w') (h3 : NonB b wr w') : WR w B b rv vs pre' w' := by
  obtain ⟨g1, g2, g3, g4, g5⟩ := h
  refine ⟨h1, ?_, g3, Nat.le_trans g4 h2.size, g5.trans h2⟩
  refine NonB.row h3 g2 (by decide) (fun e => ?_)
  have := (g2.lt b e).1
  omega
theorem WR.alloc {w : World} {B b : Nat} {rv : Value} {vs : List Value} {pre : List UInt8} {wr : World} (h : WR w B b rv vs pre wr) (o : Obj) : WR w B b rv vs pre (wr.alloc o) := by
  obtain ⟨g1, g2, g3, g4, g5⟩ := h
  exact ⟨g1.alloc o, g2.alloc o, g3, Nat.le_trans g4 (by simp), g5.alloc g5.size o⟩

set_option maxRecDepth 100000 in
set_option maxHeartbeats 4000000 in
theorem vwrite_any (v : Value) (l : List Ent) (w : World) (hv : IsEnts w v l) (hl : l.length ≤ 9223372036854775807) :
    Calls Tryz.prog 53 #[v] w (VWriteIs w l) := by
  have HV := Lib.hid hv
  have HLL := Lib.hid hl
  obtain ⟨a1, c1, rfl, _⟩ := hv.form
  obtain ⟨n, hn⟩ : ∃ n, n = l.length := ⟨_, rfl⟩
  rw [← hn] at HV ⊢
  clear hv hl hn
  by_cases h0 : (vrightF l).1 = 0
  · have H0 := Lib.hid h0
    have hrt := (vright_ok l).1 h0
    have HW : Hid (vwriteF l = vwriteL l) := Lib.hid (show vwriteF l = vwriteL l by unfold vwriteF; rw [if_pos h0])
    have HVG := Lib.hid (vright_good h0)
    obtain ⟨hr1, hr2⟩ := runs_is hrt.2
    obtain ⟨hwl, hrl⟩ := vwrite_len hrt
    have HIN : Hid (∀ run ∈ runsL l, run.length ≤ 16 ∧ ∀ e ∈ run, 0 ≤ e.rep ∧ e.rep ≤ 200 ∧ 1 ≤ e.time ∧ e.time ≤ 1099511627776) := Lib.hid (show ∀ run ∈ runsL l, run.length ≤ 16 ∧ ∀ e ∈ run, 0 ≤ e.rep ∧ e.rep ≤ 200 ∧ 1 ≤ e.time ∧ e.time ≤ 1099511627776 from fun run hr => by
      refine ⟨Nat.le_trans (List.sublist_flatten_of_mem hr).length_le (by rw [hr2]; exact hrt.1), fun e he => ?_⟩
      have := okV_mem hrt.2 e (by rw [← hr2]; exact List.mem_flatten.2 ⟨run, hr, he⟩)
      omega)
    have HRM : Hid (∀ e ∈ l, 0 ≤ e.rep ∧ e.rep ≤ 1000000) := Lib.hid (show ∀ e ∈ l, 0 ≤ e.rep ∧ e.rep ≤ 1000000 from fun e he => by have := okV_mem hrt.2 e he; omega)
    have HL16 := Lib.hid hrt.1
    have HWL := Lib.hid hwl
    have HVW : Hid (putL (runsL l).length ++ runsB 0 (runsL l) = vwriteL l) := rfl
    obtain ⟨R, hR⟩ : ∃ R, runsL l = R := ⟨_, rfl⟩
    rw [hR] at hr1 hrl HIN HVW
    have HR := Lib.hid hR
    have HR1 := Lib.hid hr1
    have hmf : ∀ (fn : Fn) (first cap : Array Value) (w : World), (Instr.makeFunc fn first cap).run Tryz.prog w = .ok (.func fn first cap) w := fun _ _ _ _ => rfl
    obtain ⟨m, hm⟩ : ∃ m, m = R.length := ⟨_, rfl⟩
    rw [← hm] at hrl HVW
    have HM := Lib.hid hm
    clear h0 hrt hr1 hr2 hwl hR hm
    go_enter Tryz.func53, Tryz.ntmps53
    go_wp2_with fail
    refine (vright_any _ l _ HV.out HLL.out).mono ?_
    rintro r w0 ⟨err, rfl, hat, hb0⟩
    obtain rfl := hat.nil H0.out
    have HB0 := Lib.hid hb0
    have hz0 := hb0.size
    clear hat hb0
    go_wp2_with fail
    refine (cut_any _ l _ ((HV.out.below HB0.out).alloc _) (by have := HL16.out; omega) HRM.out).mono ?_
    rintro r w1 ⟨rv, vs, rfl, hown, hare, hlen, hb1⟩
    rw [HR.out] at hare hlen
    have HA := Lib.hid (hare w HV.out)
    obtain ⟨b, hbe⟩ : ∃ b, b = w0.heap.size := ⟨_, rfl⟩
    have hz1 := hb1.size
    rw [World.size_alloc] at hz1 hown
    have HWR : Hid (WR w (b + 1) b rv vs [] w1) := Lib.hid (show WR w (b + 1) b rv vs [] w1 by
      subst hbe
      exact ⟨(bld_new w0 w.heap.size hz0).below hb1, hown, Nat.lt_succ_self _, hz1, (HB0.out.alloc hz0 _).trans (hb1.mono (by simp; omega))⟩)
    have hrvl : ∃ a c, rv = .slice a m c := by
      rcases hown.forms with ⟨hr, hn⟩ | ⟨g, cap, hr, _⟩
      · refine ⟨none, 0, ?_⟩
        rw [hr, HM.out, ← hlen, hn]; rfl
      · exact ⟨_, cap, by rw [hr, hlen, HM.out]⟩
    obtain ⟨ra, rc, rfl⟩ := hrvl
    have hbz : w.heap.size ≤ b := by omega
    rw [← hbe]
    have HBE := Lib.hid hbe
    clear hown hare hlen hb1 hbe
    go_wp2_with fail
    refine (wput_any w.heap.size b m [] _ HWR.out.1 (by omega) (by simp) (by have := HWR.out.2.2.2.1; omega)).mono ?_
    rintro r w2 ⟨rfl, hbl, hb2, hn2⟩
    rw [List.nil_append] at hbl
    have HWR2 := Lib.hid (HWR.out.put hbl hb2 hn2)
    clear hbl hb2 hn2
    go_wp2
    go_loopw [8, 27] (fun lv i wr => ∃ (k : Nat) (least : Int) (pre : List UInt8), k ≤ m ∧ i = .int .i64 k ∧ lv = .int .i64 least ∧ 0 ≤ least ∧ least ≤ 300 ∧ pre ++ runsB least (R.drop k) = vwriteL l ∧ isRuns least (R.drop k) ∧ WR w (b + 1) b (.slice ra m rc) vs pre wr) (fun _ i _ => m - (intOf i).toNat)
    case atStart => exact ⟨0, 0, putL m, by omega, rfl, rfl, by omega, by omega, HVW.out, HR1.out, HWR2.out⟩
    case round =>
      obtain ⟨k, least, pre, hk, rfl, rfl, hl0, hl3, heq, hrun, hwr⟩ := hrel
      have HWK := Lib.hid hwr
      have HEQ := Lib.hid heq
      have hpre : pre.length ≤ 500 := by have := HWL.out; rw [← heq, List.length_append] at this; omega
      clear hwr
      by_cases hlt : k < m
      · obtain ⟨run, hru⟩ : ∃ run, R[k]? = some run := ⟨R[k]'(by have := HM.out; omega), List.getElem?_eq_getElem _⟩
        have hRd : R.drop k = run :: R.drop (k + 1) := by
          obtain ⟨h1, h2⟩ := List.getElem?_eq_some_iff.1 hru
          rw [List.drop_eq_getElem_cons h1, h2]
        rw [hRd] at hrun heq
        obtain ⟨g1, g2, g3, g4⟩ := hrun
        obtain ⟨hr16, hre⟩ := HIN.out run (List.mem_of_getElem? hru)
        have hpos : 0 < run.length := List.length_pos_iff.2 g1
        obtain ⟨vk, hvk, hiv⟩ := areE_at HA.out hru
        have HIV := Lib.hid hiv
        obtain ⟨bb, off, cc, rfl, hcc, hbb, hcs⟩ := hiv.lies hpos
        have hlast := consec_last g3 g1
        have h0e : run[0]? = some (run.headD ⟨0, 0⟩) := by
          cases run with
          | nil => exact absurd rfl g1
          | cons e t => rfl
        have hhead := hre _ (List.mem_of_getElem? h0e)
        have hlt2 := hre _ (show run.getLastD ⟨0, 0⟩ ∈ run by
          rw [List.getLastD_eq_getLast?, List.getLast?_eq_getElem?, List.getElem?_eq_getElem (show run.length - 1 < run.length by omega)]
          exact List.getElem_mem _)
        have p0 : w.cell? ⟨bb, off, none⟩ = some (.int .i64 (run.headD ⟨0, 0⟩).rep) := by
          have := hcs 0 _ ((entsC_at run 0 0 _ h0e (by omega)).trans rfl)
          simpa using this
        have HCS := Lib.hid hcs
        have HG4 := Lib.hid g4
        have HRE := Lib.hid hre
        have HRN := Lib.hid g1
        obtain ⟨q, hq⟩ : ∃ q, q = run.length := ⟨_, rfl⟩
        have HQ := Lib.hid hq
        have HBN : Hid (pre ++ (putL ((run.headD ⟨0, 0⟩).rep - least).toNat ++ putL (q - 1) ++ timesB run) ++ runsB ((run.getLastD ⟨0, 0⟩).rep + 2) (R.drop (k + 1)) = vwriteL l) := Lib.hid (show pre ++ (putL ((run.headD ⟨0, 0⟩).rep - least).toNat ++ putL (q - 1) ++ timesB run) ++ runsB ((run.getLastD ⟨0, 0⟩).rep + 2) (R.drop (k + 1)) = vwriteL l by
          rw [← heq, runsB, List.append_assoc, hq]; rfl)
        obtain ⟨lr, hlr⟩ : ∃ x, (run.getLastD ⟨0, 0⟩).rep = x := ⟨_, rfl⟩
        obtain ⟨hd, hhd⟩ : ∃ x, (run.headD ⟨0, 0⟩).rep = x := ⟨_, rfl⟩
        rw [hlr] at hlt2 HBN HG4 hlast
        rw [hhd] at hhead p0 g2 HBN hlast
        have HLR := Lib.hid hlr
        rw [← hq] at hr16 hpos hcc hlast HIV hvk
        obtain ⟨gp, hgp⟩ := Int.eq_ofNat_of_zero_le (show 0 ≤ hd - least by omega)
        obtain ⟨q1, hq1⟩ : ∃ q1, q1 = q - 1 := ⟨_, rfl⟩
        have hqq : (q : Int) - 1 = (q1 : Int) := by omega
        have hgp2 : gp ≤ 200 := by omega
        have hq12 : q1 ≤ 16 := by omega
        have HBN2 : Hid (pre ++ (putL gp ++ putL q1 ++ timesB run) ++ runsB (lr + 2) (R.drop (k + 1)) = vwriteL l) := Lib.hid (show pre ++ (putL gp ++ putL q1 ++ timesB run) ++ runsB (lr + 2) (R.drop (k + 1)) = vwriteL l by
          have := HBN.out
          rw [hgp, Int.toNat_natCast, ← hq1] at this; exact this)
        have l1 := putL_le10 (n := gp) (by omega)
        have l2 := putL_le10 (n := q1) (by omega)
        have HSP : Hid ((pre ++ putL gp).length ≤ 520 ∧ (pre ++ putL gp ++ putL q1).length ≤ 540) := Lib.hid (show (pre ++ putL gp).length ≤ 520 ∧ (pre ++ putL gp ++ putL q1).length ≤ 540 by simp only [List.length_append]; omega)
        rcases HWK.out.2.1.forms with ⟨_, hnil⟩ | ⟨g, cap, hrv, hgB, hgl, _, hgc⟩
        · rw [hnil] at hvk; simp at hvk
        · simp only [Value.slice.injEq] at hrv
          obtain ⟨rfl, hmv, rfl⟩ := hrv
          clear hmv
          have hgk := hgc k _ hvk
          have x0 := (HWK.out.2.2.2.2.cell (p := ⟨bb, off, none⟩) hbb).trans p0
          have hz := HWK.out.2.2.2.1
          have hvl : (q : Int) ≤ 16 := by omega
          have hq0 : (0 : Int) < (q : Int) := by omega
          clear hru hRd heq g1 g3 g4 hre hvk hcs h0e p0 HBN hhd hlr hq hq1 hgc hlast HEQ l1 l2
          go_wp2_with fail
          refine (wput_any w.heap.size b gp pre _ HWK.out.1 (by omega) (by omega) (by omega)).mono ?_
          rintro r w3 ⟨rfl, hbl, hb3, hn3⟩
          have HW3 := Lib.hid (HWK.out.put hbl hb3 hn3)
          clear hbl hb3 hn3
          go_wp2_with fail
          refine (wput_any w.heap.size b q1 _ _ HW3.out.1 (by omega) (by have := HSP.out; omega) (by have := HW3.out.2.2.2.1; omega)).mono ?_
          rintro r w4 ⟨rfl, hbl, hb4, hn4⟩
          have HW4 := Lib.hid (HW3.out.put hbl hb4 hn4)
          clear hbl hb4 hn4
          go_wp2
          go_loopw [46] (fun i wr => ∃ j : Nat, j ≤ q ∧ i = .int .i64 j ∧ WR w (b + 1) b (.slice (some ⟨g, 0, none⟩) m rc) vs (pre ++ putL gp ++ putL q1 ++ timesB (run.take j)) wr) (fun i _ => q - (intOf i).toNat)
          case atStart => exact ⟨0, by omega, rfl, by simpa [timesB] using HW4.out⟩
          case round =>
            obtain ⟨j, hj, rfl, hwj⟩ := hrel
            have HWJ := Lib.hid hwj
            clear hwj
            by_cases hjl : j < q
            · obtain ⟨t, ht⟩ : ∃ t, run[j]? = some t := ⟨run[j]'(by have := HQ.out; omega), List.getElem?_eq_getElem _⟩
              have y0 := HCS.out (j * 2) _ ((entsC_at run j 0 t ht (by omega)).trans rfl)
              have y1 := HCS.out (j * 2 + 1) _ ((entsC_at run j 1 t ht (by omega)).trans rfl)
              have htm := HRE.out t (List.mem_of_getElem? ht)
              have htl := timesB_len (run.take j) (fun e he => (HRE.out e (List.mem_of_mem_take he)).2.2.2)
              have htl2 : (run.take j).length ≤ j := List.length_take_le _ _
              have htk : run.take (j + 1) = run.take j ++ [t] := by
                obtain ⟨h1, h2⟩ := List.getElem?_eq_some_iff.1 ht
                rw [List.take_succ_eq_append_getElem h1, h2]
              obtain ⟨rep, time⟩ := t
              simp only at y0 y1 htm
              obtain ⟨tn, rfl⟩ := Int.eq_ofNat_of_zero_le (show 0 ≤ time by omega)
              have HTK : Hid (pre ++ putL gp ++ putL q1 ++ timesB (run.take (j + 1)) = (pre ++ putL gp ++ putL q1 ++ timesB (run.take j)) ++ putL tn) := Lib.hid (show pre ++ putL gp ++ putL q1 ++ timesB (run.take (j + 1)) = (pre ++ putL gp ++ putL q1 ++ timesB (run.take j)) ++ putL tn by
                rw [htk, timesB_app]; simp [timesB])
              have HSJ : Hid ((pre ++ putL gp ++ putL q1 ++ timesB (run.take j)).length ≤ 1000) := Lib.hid (show (pre ++ putL gp ++ putL q1 ++ timesB (run.take j)).length ≤ 1000 by
                have := HSP.out.2; rw [List.length_append]; omega)
              have z0 := (HWJ.out.2.2.2.2.cell (p := ⟨bb, off + j * 2, none⟩) hbb).trans y0
              have z1 : wr.cell? ⟨bb, off + j * 2 + 1, none⟩ = some (.int .i64 (tn : Int)) := (HWJ.out.2.2.2.2.cell (p := ⟨bb, off + j * 2 + 1, none⟩) hbb).trans (by rw [Nat.add_assoc]; exact y1)
              clear y0 y1 ht htk htl htl2
              go_wp2_with fail
              refine (wput_any w.heap.size b tn _ _ (HWJ.out.alloc _).1 (by omega) (by have := HSJ.out; omega) (Nat.le_trans (Nat.le_trans hbz (Nat.le_succ _)) (HWJ.out.alloc _).2.2.2.1)).mono ?_
              rintro r w5 ⟨rfl, hbl, hb5, hn5⟩
              have HW5 := Lib.hid ((HWJ.out.alloc _).put hbl hb5 hn5)
              clear hbl hb5 hn5
              go_wp2
              go_roundw
              case rel => exact ⟨j + 1, by omega, by go_num, by rw [HTK.out]; exact HW5.out⟩
              case measure => simp [intOf]; omega
            · have hjq : j = q := by omega
              have HW6 : Hid (WR w (b + 1) b (.slice (some ⟨g, 0, none⟩) m rc) vs (pre ++ (putL gp ++ putL q1 ++ timesB run)) wr) := Lib.hid (show WR w (b + 1) b (.slice (some ⟨g, 0, none⟩) m rc) vs (pre ++ (putL gp ++ putL q1 ++ timesB run)) wr by
                have h := HWJ.out
                rw [hjq, HQ.out, List.take_length] at h
                simpa [List.append_assoc] using h)
              have HL2 := Lib.hid (show 0 ≤ lr + 2 ∧ lr + 2 ≤ 300 by omega)
              clear hjq
              go_wp2_with fail
              refine (behind_any _ run _ (HIV.out.below HW6.out.2.2.2.2) HRN.out (by have := HQ.out; omega) (fun e he => by have := HRE.out e he; omega)).mono ?_
              rintro r w' ⟨rfl, rfl⟩
              rw [HLR.out]
              go_wp2
              go_roundw
              case rel => exact ⟨k + 1, lr + 2, _, by omega, by go_num, rfl, HL2.out.1, HL2.out.2, HBN2.out, HG4.out, HW6.out⟩
              case measure => simp [intOf]; omega
      · have hkm : k = m := by omega
        have HWE : Hid (isBld wr w.heap.size b (vwriteF l)) := Lib.hid (show isBld wr w.heap.size b (vwriteF l) by
          have h := HWK.out.1
          have h2 := HEQ.out
          rw [hkm, HM.out, List.drop_eq_nil_of_le (Nat.le_refl _)] at h2
          have e : runsB least [] = [] := rfl
          rw [e, List.append_nil] at h2
          rw [HW.out, ← h2]; exact h)
        have hz := HWK.out.2.2.2.2.size
        clear hkm heq hrun
        go_wp2_with fail
        refine (bld_string w.heap.size b _ _ HWE.out hz).mono ?_
        rintro r w3 ⟨rfl, hb3⟩
        have HB3 := Lib.hid (HWK.out.2.2.2.2.trans hb3)
        clear hb3
        go_wp2
        go_ret2
        exact ⟨.nilIface, rfl, .inl (.inl ⟨HVG.out, rfl⟩), HB3.out⟩
  · have HW : Hid (vwriteF l = []) := Lib.hid (show vwriteF l = [] by unfold vwriteF; rw [if_neg h0])
    have H0 := Lib.hid h0
    clear h0
    go_enter Tryz.func53, Tryz.ntmps53
    go_wp2_with fail
    refine (vright_any _ l _ HV.out HLL.out).mono ?_
    rintro r w0 ⟨err, rfl, hat, hb0⟩
    have HAT := Lib.hid hat
    obtain ⟨t, u, rfl⟩ := hat.iface H0.out
    have HB0 := Lib.hid hb0
    clear hat hb0
    go_wp2
    go_ret2
    exact ⟨_, by rw [HW.out]; rfl, HAT.out, HB0.out⟩
end Go.Proofs.YtkafhlpnhgipeaaGreatDoor
/-
  A []api.Write that the call itself makes, or that comes in: its cells; what append of one write does to it. For this seat's types.
-/
namespace Go.Proofs.YtkafhlpnhgipeaaGreatDoor
open Go.RowKit

theorem info_wr : (Tryz.prog.info? 46).map (fun i => (i.zero, i.size, i.bytes)) = some (some (.agg #[.int .i64 0, .int .i64 0, .int .i64 0, .string ⟨#[]⟩, .string ⟨#[]⟩, .int .i64 0]), 6, 64) := by kernel_rfl
instance : Inhabited Wr := ⟨⟨0, 0, 0, ⟨#[]⟩, ⟨#[]⟩, 0⟩⟩

def wrsC (l : List Wr) : List Value := l.flatMap wrC
theorem wrsC_len (l : List Wr) : (wrsC l).length = l.length * 6 := by
  induction l with
  | nil => rfl
  | cons t r ih => simp only [wrsC, List.flatMap_cons, List.length_append, List.length_cons] at ih ⊢; rw [ih]; simp [wrC]; omega
theorem wrsC_app (a b : List Wr) : wrsC (a ++ b) = wrsC a ++ wrsC b := by simp [wrsC]
theorem wrsC_one (a : Wr) : wrsC [a] = wrC a := by simp [wrsC]
theorem wrsC_at (l : List Wr) (i j : Nat) (t : Wr) (h : l[i]? = some t) (hj : j < 6) : (wrsC l)[i * 6 + j]? = (wrC t)[j]? := by
  induction l generalizing i with
  | nil => simp at h
  | cons u r ih =>
    have hc : wrsC (u :: r) = wrC u ++ wrsC r := by simp [wrsC]
    have h3 : (wrC u).length = 6 := rfl
    rw [hc]
    cases i with
    | zero =>
      obtain rfl : u = t := by simpa using h
      rw [List.getElem?_append_left (by omega)]
      congr 1; omega
    | succ i =>
      rw [List.getElem?_append_right (by omega), h3, show (i + 1) * 6 + j - 6 = i * 6 + j by omega]
      exact ih i (by simpa using h)
theorem wrC_cell (t : Wr) : ∀ u ∈ wrC t, u.oneCell' = true := by
  intro u hu
  simp [wrC] at hu
  rcases hu with rfl | rfl | rfl | rfl | rfl | rfl <;> rfl
theorem wrsC_cell (l : List Wr) : ∀ u ∈ wrsC l, u.oneCell' = true := by
  intro u hu
  obtain ⟨t, _, ht⟩ := List.mem_flatMap.1 hu
  exact wrC_cell t u ht
theorem wrsC_take (l : List Wr) (i : Nat) : wrsC (l.take i) = (wrsC l).take (i * 6) := by
  induction l generalizing i with
  | nil => simp [wrsC]
  | cons u r ih =>
    cases i with
    | zero => simp [wrsC]
    | succ i =>
      have hc : wrsC (u :: r) = wrC u ++ wrsC r := by simp [wrsC]
      have h3 : (wrC u).length = 6 := rfl
      rw [List.take_succ_cons, hc, show wrsC (u :: r.take i) = wrC u ++ wrsC (r.take i) by simp [wrsC], ih, List.take_append, h3, List.take_of_length_le (l := wrC u) (by rw [h3]; omega), show (i + 1) * 6 - 6 = i * 6 by omega]
theorem wrsC_drop (l : List Wr) (i : Nat) : wrsC (l.drop i) = (wrsC l).drop (i * 6) := by
  induction l generalizing i with
  | nil => simp [wrsC]
  | cons u r ih =>
    cases i with
    | zero => simp [wrsC]
    | succ i =>
      have hc : wrsC (u :: r) = wrC u ++ wrsC r := by simp [wrsC]
      have h3 : (wrC u).length = 6 := rfl
      rw [List.drop_succ_cons, hc, ih, List.drop_append, h3, show (wrC u).drop ((i + 1) * 6) = [] from List.drop_of_length_le (by rw [h3]; omega), show (i + 1) * 6 - 6 = i * 6 by omega, List.nil_append]

/-- The slice v owns the writes l, in blocks from base on. -/
def ownsW (w : World) (base : Nat) (v : Value) (l : List Wr) : Prop := w.ownsRow base 46 6 v l.length (wrsC l)

theorem ownsW_nil (w : World) (base : Nat) : ownsW w base (.slice none 0 0) [] := World.ownsRow_nil _ _ _ _
theorem ownsW.alloc {w : World} {base : Nat} {v : Value} {l : List Wr} (h : ownsW w base v l) (o : Obj) : ownsW (w.alloc o) base v l := World.ownsRow.alloc h o
theorem ownsW.drew {w : World} {base : Nat} {v : Value} {l : List Wr} (h : ownsW w base v l) : ownsW w.drew base v l := World.ownsRow.drew h
theorem ownsW.drewN {w : World} {base : Nat} {v : Value} {l : List Wr} (h : ownsW w base v l) (n : Nat) : ownsW (w.drewN n) base v l := h
theorem ownsW.lt {w : World} {base : Nat} {v : Value} {l : List Wr} (h : ownsW w base v l) : ∀ k, v.ownBlock = some k → base ≤ k ∧ k < w.heap.size := World.ownsRow.lt h
theorem ownsW.mono {w : World} {base base' : Nat} {v : Value} {l : List Wr} (h : ownsW w base v l) (hb : base' ≤ base) : ownsW w base' v l := by
  obtain ⟨h0, h1⟩ := h
  refine ⟨h0, ?_⟩
  rcases h1 with h1 | ⟨g, cap, cur, hv, hg, r⟩
  · exact .inl h1
  · exact .inr ⟨g, cap, cur, hv, Nat.le_trans hb hg, r⟩
/-- Kept by whatever leaves old memory as it was. -/
theorem ownsW.below {w w' : World} {base : Nat} {v : Value} {l : List Wr} (h : ownsW w base v l) (hb : Below w.heap.size w w') : ownsW w' base v l := by
  refine World.ownsRow.kept h (row := none) ⟨hb.os, hb.tape, hb.output, hb.size, fun k hk _ => hb.block k hk⟩ ?_
  cases hv : v.ownBlock with
  | none => exact .inl rfl
  | some g => exact .inr (by simp)

/-- A slice that reads as the writes l, all its cells in blocks below the heap's end. -/
def IsWrs (w : World) (v : Value) (l : List Wr) : Prop :=
  (∃ a c, v = .slice a 0 c ∧ l = []) ∨ ∃ b off c, v = .slice (some ⟨b, off, none⟩) l.length c ∧ (0 < l.length ∧ l.length ≤ c) ∧ b < w.heap.size ∧ ∀ j u, (wrsC l)[j]? = some u → w.cell? ⟨b, off + j, none⟩ = some u
theorem ownsW.is {w : World} {base : Nat} {v : Value} {l : List Wr} (h : ownsW w base v l) : IsWrs w v l := by
  have hall := h
  have hlt := h.lt
  obtain ⟨h0, h1⟩ := h
  rcases h1 with ⟨rfl, hn⟩ | ⟨g, cap, cur, rfl, hb, hh, hc, hm, hs, ht⟩
  · exact .inl ⟨_, _, rfl, List.length_eq_zero_iff.1 hn⟩
  · by_cases hz : l.length = 0
    · exact .inl ⟨_, _, by rw [hz], List.length_eq_zero_iff.1 hz⟩
    · refine .inr ⟨g, 0, cap, rfl, ⟨by omega, hc⟩, (hlt g rfl).2, fun j u hj => ?_⟩
      have hjl : j < l.length * 6 := by rw [← wrsC_len]; exact (List.getElem?_eq_some_iff.1 hj).1
      rw [Nat.zero_add, World.ownsRow.cellAt hall j hjl]
      exact hj
theorem IsWrs.nil (w : World) : IsWrs w (.slice none 0 0) [] := .inl ⟨_, _, rfl, rfl⟩
theorem IsWrs.below {w w' : World} {v : Value} {l : List Wr} (h : IsWrs w v l) (hb : Below w.heap.size w w') : IsWrs w' v l := by
  rcases h with ⟨a, c, h1, h2⟩ | ⟨b, off, c, h1, h0, h2, h3⟩
  · exact .inl ⟨a, c, h1, h2⟩
  · exact .inr ⟨b, off, c, h1, h0, Nat.lt_of_lt_of_le h2 hb.size, fun j u hj => (hb.cell (p := ⟨b, off + j, none⟩) h2).trans (h3 j u hj)⟩
theorem IsWrs.alloc {w : World} {v : Value} {l : List Wr} (h : IsWrs w v l) (o : Obj) : IsWrs (w.alloc o) v l := h.below ((Below.refl _ _).alloc (Nat.le_refl _) o)
theorem IsWrs.drewN {w : World} {v : Value} {l : List Wr} (h : IsWrs w v l) (n : Nat) : IsWrs (w.drewN n) v l := h
/-- Its length; the six cells of each. -/
theorem IsWrs.form {w : World} {v : Value} {l : List Wr} (h : IsWrs w v l) : ∃ a c, v = .slice a l.length c ∧ ∀ i t, l[i]? = some t → ∃ b off, a = some ⟨b, off, none⟩ ∧ b < w.heap.size ∧
    w.cell? ⟨b, off + i * 6, none⟩ = some (.int .i64 t.time) ∧ w.cell? ⟨b, off + i * 6 + 1, none⟩ = some (.int .i64 t.rep) ∧ w.cell? ⟨b, off + i * 6 + 2, none⟩ = some (.int .i64 t.kind) ∧
    w.cell? ⟨b, off + i * 6 + 3, none⟩ = some (.string t.key) ∧ w.cell? ⟨b, off + i * 6 + 4, none⟩ = some (.string t.value) ∧ w.cell? ⟨b, off + i * 6 + 5, none⟩ = some (.int .i64 t.n) := by
  rcases h with ⟨a, c, rfl, rfl⟩ | ⟨b, off, c, rfl, h0, h2, h3⟩
  · exact ⟨a, c, rfl, fun i t h => by simp at h⟩
  · refine ⟨_, _, rfl, fun i t h => ⟨b, off, rfl, h2, ?_, ?_, ?_, ?_, ?_, ?_⟩⟩
    · exact h3 _ _ ((wrsC_at l i 0 t h (by omega)).trans rfl)
    · exact h3 _ _ ((wrsC_at l i 1 t h (by omega)).trans rfl)
    · exact h3 _ _ ((wrsC_at l i 2 t h (by omega)).trans rfl)
    · exact h3 _ _ ((wrsC_at l i 3 t h (by omega)).trans rfl)
    · exact h3 _ _ ((wrsC_at l i 4 t h (by omega)).trans rfl)
    · exact h3 _ _ ((wrsC_at l i 5 t h (by omega)).trans rfl)
/-- A block of one write. -/
def wrBlk (w : World) (B : Nat) (t : Wr) : Prop := w.heap[B]? = some (.cells (wrC t).toArray 46 (0, 0))
theorem wrBlk_is {w : World} {B : Nat} {t : Wr} (h : wrBlk w B t) : IsWrs w (.slice (some ⟨B, 0, none⟩) 1 1) [t] := by
  refine .inr ⟨B, 0, 1, rfl, ⟨Nat.zero_lt_one, Nat.le_refl 1⟩, (Array.getElem?_eq_some_iff.1 h).1, fun j u hj => ?_⟩
  rw [Nat.zero_add, cell_of_row _ _ j _ _ (0, 0) h]
  rw [wrsC_one] at hj
  simpa using hj

theorem wpList_append_wr {w : World} {ops : Array Oper} {rest : List Oper} {o : Oper} {a : Act} {Q : Exit → Act → World → Prop} (hgd : o.guard = none) (s x : Operand)
    (ho : o.op = .call { callee := .builtin .append, args := #[s, x], argTypes := #[23, 23] })
    (base : Nat) (v : Value) (l : List Wr) (hs : a.eval s = v) (hown : ownsW w base v l)
    (B c : Nat) (hx : a.eval x = .slice (some ⟨B, 0, none⟩) 1 c) (t : Wr) (hcell : wrBlk w B t)
    (hlen : l.length + 1 ≤ 1000000) (hbase : base ≤ w.heap.size)
    (h : ∀ g cap w', ownsW w' base (.slice (some ⟨g, 0, none⟩) (l.length + 1) cap) (l ++ [t]) → w.grownBy w' v.ownBlock → wpList Tryz.prog ops Q rest (a.put o.dst (.slice (some ⟨g, 0, none⟩) (l.length + 1) cap)) w') : wpList Tryz.prog ops Q (o :: rest) a w := by
  obtain ⟨i0, hi, hz0, hz1, hz2⟩ := info_parts info_wr
  refine wpList_append_lies w hgd s x 23 ho base 46 i0 (.agg #[.int .i64 0, .int .i64 0, .int .i64 0, .string ⟨#[]⟩, .string ⟨#[]⟩, .int .i64 0]) 6 64 Tryz.underlying23 hi hz0 hz1 hz2 rfl (by decide) v l.length (wrsC l) hs hown ⟨B, 0, none⟩ 1 c (wrC t) hx rfl ?_ (wrC_cell t) (by decide) (by unfold maxLen; omega) (by omega) hbase _ rfl ?_
  · intro j u hj
    have hadd : (⟨B, 0, none⟩ : Addr).add j = ⟨B, j, none⟩ := by unfold Addr.add; split <;> simp_all
    rw [hadd, cell_of_row _ _ _ _ _ _ hcell, ← hj]
    simp
  · intro g cap w' h1 h2 _ _
    refine h g cap w' ?_ h2
    unfold ownsW
    rw [List.length_append, wrsC_app, wrsC_one]
    exact h1
end Go.Proofs.YtkafhlpnhgipeaaGreatDoor
/-
  A []string that the call itself makes: what append of one text does to it. For this seat's types of []string and string.
-/
namespace Go.Proofs.YtkafhlpnhgipeaaGreatDoor
open Go.RowKit

theorem info_str : (Tryz.prog.info? 9).map (fun i => (i.zero, i.size, i.bytes)) = some (some (.string ⟨#[]⟩), 1, 16) := by kernel_rfl

/-- The slice v owns the texts l, in blocks from base on. -/
def ownsS (w : World) (base : Nat) (v : Value) (l : List ByteArray) : Prop := w.ownsRow base 9 1 v l.length (l.map Value.string)

theorem ownsS_nil (w : World) (base : Nat) : ownsS w base (.slice none 0 0) [] := World.ownsRow_nil _ _ _ _
theorem ownsS.alloc {w : World} {base : Nat} {v : Value} {l : List ByteArray} (h : ownsS w base v l) (o : Obj) : ownsS (w.alloc o) base v l := World.ownsRow.alloc h o
theorem ownsS.drew {w : World} {base : Nat} {v : Value} {l : List ByteArray} (h : ownsS w base v l) : ownsS w.drew base v l := World.ownsRow.drew h
theorem ownsS.lt {w : World} {base : Nat} {v : Value} {l : List ByteArray} (h : ownsS w base v l) : ∀ k, v.ownBlock = some k → base ≤ k ∧ k < w.heap.size := World.ownsRow.lt h
/-- Kept by whatever leaves old memory as it was. -/
theorem ownsS.below {w w' : World} {base : Nat} {v : Value} {l : List ByteArray} (h : ownsS w base v l) (hb : Below w.heap.size w w') : ownsS w' base v l := by
  refine World.ownsRow.kept h (row := none) ⟨hb.os, hb.tape, hb.output, hb.size, fun k hk _ => hb.block k hk⟩ ?_
  cases hv : v.ownBlock with
  | none => exact .inl rfl
  | some g => exact .inr (by simp)
/-- What it looks like: nil and nothing, or a row of cells. -/
theorem ownsS.forms {w : World} {base : Nat} {v : Value} {l : List ByteArray} (h : ownsS w base v l) :
    (v = .slice none 0 0 ∧ l = []) ∨ ∃ g cap, v = .slice (some ⟨g, 0, none⟩) l.length cap ∧ base ≤ g ∧ g < w.heap.size ∧ ∀ j, j < l.length → w.cell? ⟨g, j, none⟩ = some (.string (l.getD j ByteArray.empty)) := by
  have hall := h
  obtain ⟨h0, h1⟩ := h
  rcases h1 with ⟨rfl, hn⟩ | ⟨g, cap, cur, rfl, hb, hh, hc, hm, hs, ht⟩
  · exact .inl ⟨rfl, List.length_eq_zero_iff.1 hn⟩
  · refine .inr ⟨g, cap, rfl, hb, (World.ownsRow.lt hall g rfl).2, fun j hj => ?_⟩
    rw [World.ownsRow.cellAt hall j (by omega)]
    simp [List.getElem?_eq_getElem hj]

theorem wpList_append_str {w : World} {ops : Array Oper} {rest : List Oper} {o : Oper} {a : Act} {Q : Exit → Act → World → Prop} (hgd : o.guard = none) (s x : Operand)
    (ho : o.op = .call { callee := .builtin .append, args := #[s, x], argTypes := #[49, 49] })
    (base : Nat) (v : Value) (l : List ByteArray) (hs : a.eval s = v) (hown : ownsS w base v l)
    (ad : Addr) (c : Nat) (hx : a.eval x = .slice (some ad) 1 c) (d : ByteArray) (hcell : w.cell? (ad.add 0) = some (.string d))
    (hlen : l.length + 1 ≤ 8796093022208) (hbase : base ≤ w.heap.size)
    (h : ∀ g cap w', ownsS w' base (.slice (some ⟨g, 0, none⟩) (l.length + 1) cap) (l ++ [d]) → w.grownBy w' v.ownBlock → wpList Tryz.prog ops Q rest (a.put o.dst (.slice (some ⟨g, 0, none⟩) (l.length + 1) cap)) w') : wpList Tryz.prog ops Q (o :: rest) a w := by
  obtain ⟨i0, hi, hz0, hz1, hz2⟩ := info_parts info_str
  refine wpList_append_lies w hgd s x 49 ho base 9 i0 (.string ⟨#[]⟩) 1 16 Tryz.underlying49 hi hz0 hz1 hz2 rfl (by decide) v l.length (l.map Value.string) hs hown ad 1 c [.string d] hx rfl ?_ ?_ (by decide) (by unfold maxLen; omega) (by omega) hbase _ rfl ?_
  · intro j u hj
    match j, hj with
    | 0, hj => simp at hj; subst hj; exact hcell
  · intro u hu; simp at hu; subst hu; rfl
  · intro g cap w' h1 h2 _ _
    refine h g cap w' ?_ h2
    unfold ownsS
    rw [List.length_append, List.map_append]
    exact h1
end Go.Proofs.YtkafhlpnhgipeaaGreatDoor
/-
  A []int that the call itself makes: what append of one number does to it. For this seat's types of []int and int.
-/
namespace Go.Proofs.YtkafhlpnhgipeaaGreatDoor
open Go.RowKit

theorem info_int : (Tryz.prog.info? 3).map (fun i => (i.zero, i.size, i.bytes)) = some (some (.int .i64 0), 1, 8) := by kernel_rfl

def natV (n : Nat) : Value := .int .i64 (n : Int)
/-- The slice v owns the numbers l, in blocks from base on. -/
def ownsN (w : World) (base : Nat) (v : Value) (l : List Nat) : Prop := w.ownsRow base 3 1 v l.length (l.map natV)

theorem ownsN_nil (w : World) (base : Nat) : ownsN w base (.slice none 0 0) [] := World.ownsRow_nil _ _ _ _
theorem ownsN.alloc {w : World} {base : Nat} {v : Value} {l : List Nat} (h : ownsN w base v l) (o : Obj) : ownsN (w.alloc o) base v l := World.ownsRow.alloc h o
theorem ownsN.drew {w : World} {base : Nat} {v : Value} {l : List Nat} (h : ownsN w base v l) : ownsN w.drew base v l := World.ownsRow.drew h
theorem ownsN.lt {w : World} {base : Nat} {v : Value} {l : List Nat} (h : ownsN w base v l) : ∀ k, v.ownBlock = some k → base ≤ k ∧ k < w.heap.size := World.ownsRow.lt h
/-- Kept by whatever leaves old memory as it was. -/
theorem ownsN.below {w w' : World} {base : Nat} {v : Value} {l : List Nat} (h : ownsN w base v l) (hb : Below w.heap.size w w') : ownsN w' base v l := by
  refine World.ownsRow.kept h (row := none) ⟨hb.os, hb.tape, hb.output, hb.size, fun k hk _ => hb.block k hk⟩ ?_
  cases hv : v.ownBlock with
  | none => exact .inl rfl
  | some g => exact .inr (by simp)
/-- What it looks like: nil and nothing, or a row of cells. -/
theorem ownsN.forms {w : World} {base : Nat} {v : Value} {l : List Nat} (h : ownsN w base v l) :
    (v = .slice none 0 0 ∧ l = []) ∨ ∃ g cap, v = .slice (some ⟨g, 0, none⟩) l.length cap ∧ base ≤ g ∧ g < w.heap.size ∧ ∀ j, j < l.length → w.cell? ⟨g, j, none⟩ = some (.int .i64 ((l.getD j 0 : Nat) : Int)) := by
  have hall := h
  obtain ⟨h0, h1⟩ := h
  rcases h1 with ⟨rfl, hn⟩ | ⟨g, cap, cur, rfl, hb, hh, hc, hm, hs, ht⟩
  · exact .inl ⟨rfl, List.length_eq_zero_iff.1 hn⟩
  · refine .inr ⟨g, cap, rfl, hb, (World.ownsRow.lt hall g rfl).2, fun j hj => ?_⟩
    rw [World.ownsRow.cellAt hall j (by omega)]
    simp [List.getElem?_eq_getElem hj, natV]

theorem wpList_append_int {w : World} {ops : Array Oper} {rest : List Oper} {o : Oper} {a : Act} {Q : Exit → Act → World → Prop} (hgd : o.guard = none) (s x : Operand)
    (ho : o.op = .call { callee := .builtin .append, args := #[s, x], argTypes := #[50, 50] })
    (base : Nat) (v : Value) (l : List Nat) (hs : a.eval s = v) (hown : ownsN w base v l)
    (ad : Addr) (c : Nat) (hx : a.eval x = .slice (some ad) 1 c) (d : Nat) (hcell : w.cell? (ad.add 0) = some (.int .i64 (d : Int)))
    (hlen : l.length + 1 ≤ 8796093022208) (hbase : base ≤ w.heap.size)
    (h : ∀ g cap w', ownsN w' base (.slice (some ⟨g, 0, none⟩) (l.length + 1) cap) (l ++ [d]) → w.grownBy w' v.ownBlock → wpList Tryz.prog ops Q rest (a.put o.dst (.slice (some ⟨g, 0, none⟩) (l.length + 1) cap)) w') : wpList Tryz.prog ops Q (o :: rest) a w := by
  obtain ⟨i0, hi, hz0, hz1, hz2⟩ := info_parts info_int
  refine wpList_append_lies w hgd s x 50 ho base 3 i0 (.int .i64 0) 1 8 Tryz.underlying50 hi hz0 hz1 hz2 rfl (by decide) v l.length (l.map natV) hs hown ad 1 c [natV d] hx rfl ?_ ?_ (by decide) (by unfold maxLen; omega) (by omega) hbase _ rfl ?_
  · intro j u hj
    match j, hj with
    | 0, hj => simp at hj; subst hj; exact hcell
  · intro u hu; simp at hu; subst hu; rfl
  · intro g cap w' h1 h2 _ _
    refine h g cap w' ?_ h2
    unfold ownsN
    rw [List.length_append, List.map_append]
    exact h1
end Go.Proofs.YtkafhlpnhgipeaaGreatDoor
/-
  A []string, a []int that are read, whoever made them: their texts, their numbers.
-/
namespace Go.Proofs.YtkafhlpnhgipeaaGreatDoor
open Go.RowKit

def IsTexts (w : World) (v : Value) (l : List ByteArray) : Prop :=
  ∃ a cap, v = .slice a l.length cap ∧ l.length ≤ cap ∧ ∀ k s, l[k]? = some s → ∃ b off, a = some ⟨b, off, none⟩ ∧ b < w.heap.size ∧ w.cell? ⟨b, off + k, none⟩ = some (.string s)
def IsNums (w : World) (v : Value) (l : List Int) : Prop :=
  ∃ a cap, v = .slice a l.length cap ∧ l.length ≤ cap ∧ ∀ k n, l[k]? = some n → ∃ b off, a = some ⟨b, off, none⟩ ∧ b < w.heap.size ∧ w.cell? ⟨b, off + k, none⟩ = some (.int .i64 n)

theorem IsTexts.below {w w' : World} {v : Value} {l : List ByteArray} (h : IsTexts w v l) (hb : Below w.heap.size w w') : IsTexts w' v l := by
  obtain ⟨a, cap, h1, h2, h3⟩ := h
  exact ⟨a, cap, h1, h2, fun k s hk => by obtain ⟨b, off, e, hlt, hc⟩ := h3 k s hk; exact ⟨b, off, e, Nat.lt_of_lt_of_le hlt hb.size, (hb.cell hlt).trans hc⟩⟩
theorem IsNums.below {w w' : World} {v : Value} {l : List Int} (h : IsNums w v l) (hb : Below w.heap.size w w') : IsNums w' v l := by
  obtain ⟨a, cap, h1, h2, h3⟩ := h
  exact ⟨a, cap, h1, h2, fun k s hk => by obtain ⟨b, off, e, hlt, hc⟩ := h3 k s hk; exact ⟨b, off, e, Nat.lt_of_lt_of_le hlt hb.size, (hb.cell hlt).trans hc⟩⟩
theorem IsTexts.alloc {w : World} {v : Value} {l : List ByteArray} (h : IsTexts w v l) (o : Obj) : IsTexts (w.alloc o) v l := h.below ((Below.refl _ _).alloc (Nat.le_refl _) _)
theorem IsNums.alloc {w : World} {v : Value} {l : List Int} (h : IsNums w v l) (o : Obj) : IsNums (w.alloc o) v l := h.below ((Below.refl _ _).alloc (Nat.le_refl _) _)
theorem IsTexts.drewN {w : World} {v : Value} {l : List ByteArray} (h : IsTexts w v l) (n : Nat) : IsTexts (w.drewN n) v l := h.below ⟨rfl, rfl, rfl, Nat.le_refl _, fun _ _ => rfl⟩
theorem IsNums.drewN {w : World} {v : Value} {l : List Int} (h : IsNums w v l) (n : Nat) : IsNums (w.drewN n) v l := h.below ⟨rfl, rfl, rfl, Nat.le_refl _, fun _ _ => rfl⟩
theorem IsTexts.drew {w : World} {v : Value} {l : List ByteArray} (h : IsTexts w v l) : IsTexts w.drew v l := h.below ((Below.refl _ _).drew)
theorem IsNums.drew {w : World} {v : Value} {l : List Int} (h : IsNums w v l) : IsNums w.drew v l := h.below ((Below.refl _ _).drew)
theorem isTexts_nil (w : World) : IsTexts w (.slice none 0 0) [] := ⟨none, 0, rfl, Nat.le_refl _, fun k s h => by simp at h⟩
theorem isNums_nil (w : World) : IsNums w (.slice none 0 0) [] := ⟨none, 0, rfl, Nat.le_refl _, fun k s h => by simp at h⟩
theorem IsTexts.take {w : World} {a : Option Addr} {cap : Nat} {l : List ByteArray} (h : IsTexts w (.slice a l.length cap) l) (i c : Nat) (hi : i ≤ l.length) (hc : i ≤ c) : IsTexts w (.slice a i c) (l.take i) := by
  obtain ⟨a', cap', h1, h2, h3⟩ := h
  obtain ⟨rfl, _, rfl⟩ := Value.slice.inj h1
  refine ⟨a, c, by rw [List.length_take, Nat.min_eq_left hi], by rw [List.length_take]; omega, fun k s hk => ?_⟩
  have hki : k < i := by have := (List.getElem?_eq_some_iff.1 hk).1; rw [List.length_take] at this; omega
  rw [List.getElem?_take_of_lt hki] at hk
  exact h3 k s hk
theorem ownsS.isTexts {w : World} {base : Nat} {v : Value} {l : List ByteArray} (h : ownsS w base v l) : IsTexts w v l := by
  rcases h.forms with ⟨rfl, rfl⟩ | ⟨g, cap, rfl, hb, hg, hc⟩
  · exact isTexts_nil w
  · have hcap : l.length ≤ cap := by
      rcases h.2 with ⟨e, _⟩ | ⟨_, _, _, e, _, _, hcl, _⟩
      · simp at e
      · obtain ⟨_, _, rfl⟩ := Value.slice.inj e; omega
    refine ⟨_, cap, rfl, hcap, fun k s hk => ⟨g, 0, rfl, hg, ?_⟩⟩
    obtain ⟨hkl, e⟩ := List.getElem?_eq_some_iff.1 hk
    have := hc k hkl
    rw [Nat.zero_add, this]
    simp [List.getD_eq_getElem?_getD, hk]
theorem ownsN.isNums {w : World} {base : Nat} {v : Value} {l : List Nat} (h : ownsN w base v l) : IsNums w v (l.map Int.ofNat) := by
  rcases h.forms with ⟨rfl, rfl⟩ | ⟨g, cap, rfl, hb, hg, hc⟩
  · exact isNums_nil w
  · have hcap : l.length ≤ cap := by
      rcases h.2 with ⟨e, _⟩ | ⟨_, _, _, e, _, _, hcl, _⟩
      · simp at e
      · obtain ⟨_, _, rfl⟩ := Value.slice.inj e; omega
    refine ⟨some ⟨g, 0, none⟩, cap, by rw [List.length_map], by rw [List.length_map]; exact hcap, fun k s hk => ⟨g, 0, rfl, hg, ?_⟩⟩
    rw [List.getElem?_map] at hk
    obtain ⟨n, hn, rfl⟩ := Option.map_eq_some_iff.1 hk
    have hkl := (List.getElem?_eq_some_iff.1 hn).1
    have := hc k hkl
    rw [Nat.zero_add, this]
    simp [List.getD_eq_getElem?_getD, hn]
/-- Two rows of different kinds never share a block. -/
theorem rows_apart {w : World} {base base' : Nat} {e1 e2 : TypeId} {k1 k2 n1 n2 : Nat} {v1 v2 : Value} {x1 x2 : List Value} (h1 : w.ownsRow base e1 k1 v1 n1 x1) (h2 : w.ownsRow base' e2 k2 v2 n2 x2) (hne : e1 ≠ e2) :
    v1.ownBlock = none ∨ v1.ownBlock ≠ v2.ownBlock := by
  rcases h1.2 with ⟨rfl, _⟩ | ⟨g, cap, cur, rfl, _, hh, _⟩
  · exact .inl rfl
  · refine .inr ?_
    rcases h2.2 with ⟨rfl, _⟩ | ⟨g', cap', cur', rfl, _, hh', _⟩
    · simp [Value.ownBlock]
    · intro e
      have : g = g' := by simpa [Value.ownBlock] using e
      subst this
      rw [hh] at hh'
      injection hh' with hh'
      injection hh' with _ ht
      exact hne ht
theorem ownsS.off {w : World} {base b : Nat} {v : Value} {l : List ByteArray} (h : ownsS w base v l) (hb : b < base) : v.ownBlock ≠ some b := fun e => by have := (h.lt b e).1; omega
theorem ownsN.off {w : World} {base b : Nat} {v : Value} {l : List Nat} (h : ownsN w base v l) (hb : b < base) : v.ownBlock ≠ some b := fun e => by have := (h.lt b e).1; omega
theorem ownsS.mono {w : World} {base b : Nat} {v : Value} {l : List ByteArray} (h : ownsS w base v l) (hb : b ≤ base) : ownsS w b v l := by
  refine ⟨h.1, ?_⟩
  rcases h.2 with h1 | ⟨g, cap, cur, e, h2, h3⟩
  · exact .inl h1
  · exact .inr ⟨g, cap, cur, e, Nat.le_trans hb h2, h3⟩
theorem ownsN.mono {w : World} {base b : Nat} {v : Value} {l : List Nat} (h : ownsN w base v l) (hb : b ≤ base) : ownsN w b v l := by
  refine ⟨h.1, ?_⟩
  rcases h.2 with h1 | ⟨g, cap, cur, e, h2, h3⟩
  · exact .inl h1
  · exact .inr ⟨g, cap, cur, e, Nat.le_trans hb h2, h3⟩
end Go.Proofs.YtkafhlpnhgipeaaGreatDoor
/-
  What body.written is made of: throw, a writer's text and number, the keys of all writes, the number of a replica's entry.
-/
namespace Go.Proofs.YtkafhlpnhgipeaaGreatDoor
open Go.RowKit

set_option maxRecDepth 100000 in
theorem bthrow_nil (w : World) : Calls Tryz.prog 50 #[.nilIface] w fun e w' => e = .returned (.tuple #[]) ∧ w = w' := by
  go_enter Tryz.func50, Tryz.ntmps50
  go_wp2
  go_end0
  exact ⟨rfl, rfl⟩
set_option maxRecDepth 100000 in
theorem bthrow_err (t : TypeId) (v : Value) (w : World) : Calls Tryz.prog 50 #[.iface t v] w fun e w' => e = .panicked [{ v := .iface t v, recovered := false }] ∧ w' = w := by
  go_enter Tryz.func50, Tryz.ntmps50
  go_wp2
  exact ⟨rfl, rfl, rfl⟩

set_option maxRecDepth 100000 in
theorem wtext_any (B b : Nat) (l : List UInt8) (s : ByteArray) (w : World) (h : isBldW w B b l) (hl : l.length ≤ 1000000) (hs : s.size ≤ 1000000) (hBw : B ≤ w.heap.size) :
    Calls Tryz.prog 52 #[.pointer (some ⟨b, 0, none⟩), .string s, .nilIface] w fun e w' => e = .returned (.tuple #[]) ∧ isBldW w' B b (l ++ s.data.toList) ∧ Below B w w' ∧ NonB b w w' := by
  have H := Lib.hid h
  clear h
  go_enter Tryz.func52, Tryz.ntmps52
  go_wp2_with fail
  refine (bthrow_nil _).mono ?_
  rintro r w1 ⟨rfl, rfl⟩
  go_wp2_with fail
  refine (wbld_write B b l s _ H.out (by omega) hBw).mono ?_
  rintro r w2 ⟨rfl, hbl, hb2, hn2⟩
  have H2 := Lib.hid hbl
  have HB2 := Lib.hid hb2
  have HN2 := Lib.hid hn2
  clear hbl hb2 hn2
  go_wp2
  go_end0
  exact ⟨rfl, H2.out, HB2.out, HN2.out⟩

set_option maxRecDepth 100000 in
set_option maxHeartbeats 2000000 in
theorem wnum2_any (B b n : Nat) (l : List UInt8) (w : World) (h : isBldW w B b l) (hn : n ≤ 1099511627776) (hl : l.length ≤ 1000000) (hBw : B ≤ w.heap.size) :
    Calls Tryz.prog 56 #[.pointer (some ⟨b, 0, none⟩), .int .i64 (n : Int)] w fun e w' => e = .returned (.tuple #[]) ∧ isBldW w' B b (l ++ putL n) ∧ Below B w w' ∧ NonB b w w' := by
  have H := Lib.hid h
  have hp := putL_le10 (n := n) (by omega)
  have hk : IntKind.u64.wrap (n : Int) = (n : Int) := IntWalk.u64_in _ (by omega)
  obtain ⟨P, hP⟩ : ∃ P : ByteArray, ⟨(putL n).toArray⟩ = P := ⟨_, rfl⟩
  have hPd : putL n = P.data.toList := by rw [← hP]
  have hPs : P.size ≤ 10 := by rw [← hP, bs_size]; exact hp
  have HPD := Lib.hid hPd
  have HP := Lib.hid hP
  rw [hPd]
  clear h hp hP hPd
  go_enter Tryz.func56, Tryz.ntmps56
  go_wp2
  go_region_held3 (fun w' => True) (trivial) (first
    | (go_at_call 86; ((with_reducible refine (put_nat n _ (by omega)).mono ?_); rintro r w1 ⟨rfl, hb1⟩; rw [HP.out]; have HB1 : Hid (Below w.heap.size w w1) := Lib.hid (undrew3 hb1); clear hb1))
    | (go_at_call 83; ((with_reducible refine (wbld_write B b l P w1 (H.out.below HB1.out) (by omega) (by have := HB1.out.size; omega)).mono ?_); rintro r w2 ⟨rfl, hbl, hb2, hn2⟩; have H2 := Lib.hid hbl; have HB2 := Lib.hid ((HB1.out.mono hBw).trans hb2); have HN2 := Lib.hid ((NonB.of (b := b) HB1.out).trans hn2 HB1.out.size); clear hbl hb2 hn2))
    | fail)
  go_wp2
  go_end0
  exact ⟨rfl, H2.out, HB2.out, HN2.out⟩

set_option maxRecDepth 100000 in
set_option maxHeartbeats 4000000 in
theorem keysOf_any (v : Value) (l : List Wr) (w : World) (hv : IsWrs w v l) (hl : l.length ≤ 1000000) :
    Calls Tryz.prog 55 #[v] w fun e w' => ∃ u, e = .returned u ∧ ownsS w' w.heap.size u (keysW l) ∧ Below w.heap.size w w' := by
  obtain ⟨a1, c1, rfl, f1⟩ := hv.form
  have F1 := Lib.hid f1
  obtain ⟨n, hn⟩ : ∃ n, n = l.length := ⟨_, rfl⟩
  rw [← hn] at hl ⊢
  have HN := Lib.hid hn
  clear f1 hn hv
  go_enter Tryz.func55, Tryz.ntmps55
  go_wp2
  go_loopw [3, 8] (fun x i wr => ∃ k : Nat, k ≤ n ∧ i = .int .i64 k ∧ ownsS wr w.heap.size x ((keysW l).take k) ∧ Below w.heap.size w wr) (fun _ i _ => n - (intOf i).toNat)
  case atStart => exact ⟨0, Nat.zero_le _, rfl, ownsS_nil _ _, Below.refl _ _⟩
  case round =>
    obtain ⟨k, hk, rfl, hos, hbel⟩ := hrel
    have HO := Lib.hid hos
    have HB := Lib.hid hbel
    obtain ⟨ad, cp, rfl, hcp, g1⟩ := hos.isTexts
    have hkl : ((keysW l).take k).length = k := by rw [List.length_take]; have := HN.out; unfold keysW; rw [List.length_map]; omega
    have HKL := Lib.hid hkl
    rw [hkl] at HO hcp
    rw [hkl]
    clear hos hbel hkl g1 hcp
    by_cases hlt : k < n
    · obtain ⟨x, hx⟩ : ∃ x, l[k]? = some x := ⟨l[k]'(by have := HN.out; omega), List.getElem?_eq_getElem _⟩
      obtain ⟨b1, o1, rfl, hb1, p0, p1, p2, p3, p4, p5⟩ := F1.out k x hx
      have q0 := (HB.out.cell (p := ⟨b1, o1 + k * 6, none⟩) hb1).trans p0
      have q1 := (HB.out.cell (p := ⟨b1, o1 + k * 6 + 1, none⟩) hb1).trans p1
      have q2 := (HB.out.cell (p := ⟨b1, o1 + k * 6 + 2, none⟩) hb1).trans p2
      have q3 := (HB.out.cell (p := ⟨b1, o1 + k * 6 + 3, none⟩) hb1).trans p3
      have q4 := (HB.out.cell (p := ⟨b1, o1 + k * 6 + 4, none⟩) hb1).trans p4
      have q5 := (HB.out.cell (p := ⟨b1, o1 + k * 6 + 5, none⟩) hb1).trans p5
      have HTK : Hid ((keysW l).take k ++ [x.key] = (keysW l).take (k + 1)) := Lib.hid (show _ = _ by
        have h2 : (keysW l)[k]? = some x.key := by unfold keysW; rw [List.getElem?_map, hx]; rfl
        obtain ⟨hk2, e⟩ := List.getElem?_eq_some_iff.1 h2; rw [← e, List.take_append_getElem hk2])
      obtain ⟨T, R, K, key, val, N⟩ := x
      dsimp only at q0 q1 q2 q3 q4 q5 HTK
      clear p0 p1 p2 p3 p4 p5 hx
      obtain ⟨L, hL⟩ : ∃ L, (keysW l).take k = L := ⟨_, rfl⟩
      rw [hL] at HO HKL HTK
      clear hL
      go_wp2_with (at_builtin; refine wpList_append_str rfl _ _ rfl w.heap.size _ L rfl ((HO.out.alloc _).alloc _) ⟨wr.heap.size + 1, 0, none⟩ 1 rfl key (by simp [Addr.add]) (by have := HKL.out; omega) (by have := HB.out.size; simp; omega) ?_)
      intro g cap w4 ho4 hg4
      rw [HTK.out] at ho4
      have HO4 := Lib.hid ho4
      have HB4 : Hid (Below w.heap.size w w4) := Lib.hid (((HB.out.alloc HB.out.size _).alloc (by have := HB.out.size; simp; omega) _).grown hg4 (by have := HB.out.size; simp; omega) (fun g hg => (HO.out.lt g hg).1))
      have HKL1 : Hid (L.length + 1 = k + 1) := Lib.hid (by rw [HKL.out])
      rw [HKL1.out] at HO4 ⊢
      clear ho4 hg4
      go_wp2
      go_roundw
      case rel => exact ⟨k + 1, by omega, by go_num, HO4.out, HB4.out⟩
      case measure => simp [intOf]; omega
    · have HT : Hid ((keysW l).take k = keysW l) := Lib.hid (List.take_of_length_le (by unfold keysW; rw [List.length_map]; have := HN.out; omega))
      go_wp2
      go_ret
      rw [HT.out] at HO
      exact ⟨_, rfl, HO.out, HB.out⟩
end Go.Proofs.YtkafhlpnhgipeaaGreatDoor
/-
  The number of a replica's entry, as the program finds it.
-/
namespace Go.Proofs.YtkafhlpnhgipeaaGreatDoor
open Go.RowKit

theorem place_hit {h : List Ent} {r : Int} {k : Nat} {e : Ent} (hk : h[k]? = some e) (hle : k ≤ placeF h r) (he : e.rep = r) : placeF h r = k := by
  obtain ⟨hl, hx⟩ := List.getElem?_eq_some_iff.1 hk
  refine Nat.le_antisymm (Nat.not_lt.1 fun hlt => ?_) hle
  have h2 : ¬ (decide ((h[k]'hl).rep = r) = true) := by simpa using List.not_of_lt_findIdx hlt
  exact h2 (by rw [hx]; simpa using he)
theorem place_miss {h : List Ent} {r : Int} {k : Nat} {e : Ent} (hk : h[k]? = some e) (hle : k ≤ placeF h r) (he : e.rep ≠ r) : k + 1 ≤ placeF h r := by
  obtain ⟨hl, hx⟩ := List.getElem?_eq_some_iff.1 hk
  refine Nat.lt_of_le_of_ne hle fun heq => he ?_
  have hlt : h.findIdx (fun e => decide (e.rep = r)) < h.length := by show placeF h r < _; omega
  have h2 := List.findIdx_getElem (w := hlt)
  have h3 : h[h.findIdx (fun e => decide (e.rep = r))]'hlt = h[k]'hl := by congr 1; exact heq.symm
  rw [h3, hx] at h2
  simpa using h2
theorem place_has {h : List Ent} {r : Int} (hlt : placeF h r < h.length) : ∃ e, h[placeF h r]? = some e ∧ e.rep = r := by
  have h2 := List.findIdx_getElem (p := fun e : Ent => decide (e.rep = r)) (w := hlt)
  exact ⟨_, List.getElem?_eq_getElem hlt, by show (h[h.findIdx (fun e => decide (e.rep = r))]'hlt).rep = r; simpa using h2⟩
theorem place_in {h : List Ent} {r : Int} {e : Ent} (he : e ∈ h) (hr : e.rep = r) : placeF h r < h.length := List.findIdx_lt_length_of_exists ⟨e, he, by simpa using hr⟩

set_option maxRecDepth 100000 in
theorem place1_any (x t r : Int) (B : Nat) (w : World) (c : Bool) (hB : B < w.heap.size) (h0 : w.cell? ⟨B, 0, none⟩ = some (.int .i64 r)) (hc : decide (x = r) = c) :
    Calls Tryz.prog 92 #[.agg #[.int .i64 x, .int .i64 t], .pointer (some ⟨B, 0, none⟩)] w fun e w' => e = .returned (.bool c) ∧ Below w.heap.size w w' := by
  have hcc : (x == r) = c := by rw [← hc]; rfl
  have h1 : (w.alloc (.cells #[.int .i64 x, .int .i64 t] 60)).cell? ⟨B, 0, none⟩ = some (.int .i64 r) := (World.cell?_alloc_lt _ _ _ hB).trans h0
  go_enter Tryz.func92, Tryz.ntmps92
  go_wp2
  go_ret
  exact ⟨by first | rfl | (rw [hcc]), (Below.refl _ _).alloc (Nat.le_refl _) _⟩

set_option maxRecDepth 100000 in
set_option maxHeartbeats 2000000 in
theorem idxe_any (v : Value) (h : List Ent) (r : Int) (p B : Nat) (w : World) (hv : IsEnts w v h) (hl : h.length ≤ 1000000) (hB : B < w.heap.size) (h0 : w.cell? ⟨B, 0, none⟩ = some (.int .i64 r)) (hp : placeF h r = p) (hpl : p < h.length) :
    Calls Tryz.prog 91 #[v, .func (.func 92) #[] #[.pointer (some ⟨B, 0, none⟩)]] w fun e w' => e = .returned (.int .i64 (p : Int)) ∧ Below w.heap.size w w' := by
  obtain ⟨a1, c1, rfl, f1⟩ := hv.form
  have F1 := Lib.hid f1
  obtain ⟨n, hn⟩ : ∃ n, n = h.length := ⟨_, rfl⟩
  rw [← hn] at hl hpl ⊢
  have HN := Lib.hid hn
  have HP := Lib.hid hp
  clear f1 hn hv hp
  go_enter Tryz.func91, Tryz.ntmps91
  go_wp2
  go_loopw [8] (fun i wr => ∃ k : Nat, k ≤ p ∧ i = .int .i64 k ∧ Below w.heap.size w wr) (fun i _ => n - (intOf i).toNat)
  case atStart => exact ⟨0, Nat.zero_le _, rfl, Below.refl _ _⟩
  case round =>
    obtain ⟨k, hk, rfl, hbel⟩ := hrel
    have HB := Lib.hid hbel
    clear hbel
    obtain ⟨x, hx⟩ : ∃ x, h[k]? = some x := ⟨h[k]'(by have := HN.out; omega), List.getElem?_eq_getElem _⟩
    obtain ⟨b1, o1, rfl, hb1, p0, p1⟩ := F1.out k x hx
    have hlt : k < n := by omega
    have q0 := (HB.out.cell (p := ⟨b1, o1 + k * 2, none⟩) hb1).trans p0
    have q1 := (HB.out.cell (p := ⟨b1, o1 + k * 2 + 1, none⟩) hb1).trans p1
    have HC : Hid (wr.cell? ⟨B, 0, none⟩ = some (.int .i64 r)) := Lib.hid ((HB.out.cell (p := ⟨B, 0, none⟩) hB).trans h0)
    have HBW : Hid (B < wr.heap.size) := Lib.hid (Nat.lt_of_lt_of_le hB HB.out.size)
    obtain ⟨c, hc⟩ : ∃ c, decide (x.rep = r) = c := ⟨_, rfl⟩
    have HCC := Lib.hid hc
    have HX := Lib.hid hx
    obtain ⟨X, T⟩ := x
    dsimp only at q0 q1 HCC
    clear p0 p1 hx hc
    go_wp2_with fail
    refine (place1_any X T r B wr c HBW.out HC.out HCC.out).mono ?_
    rintro rr w1 ⟨rfl, hb1⟩
    have HB1 : Hid (Below w.heap.size w w1) := HB.out.trans (hb1.mono HB.out.size)
    clear hb1 q0 q1
    cases c with
    | true =>
      have hpk := place_hit HX.out (by rw [HP.out]; exact hk) (of_decide_eq_true HCC.out)
      rw [HP.out] at hpk
      have HPK := Lib.hid hpk
      clear hpk
      go_wp2
      go_ret
      exact ⟨by rw [HPK.out]; rfl, HB1.out⟩
    | false =>
      have hpk := place_miss HX.out (by rw [HP.out]; exact hk) (of_decide_eq_false HCC.out)
      rw [HP.out] at hpk
      go_wp2
      go_roundw
      case rel => exact ⟨k + 1, hpk, by go_num, HB1.out⟩
      case measure => simp [intOf]; omega

set_option maxRecDepth 100000 in
theorem bplace_any (v : Value) (h : List Ent) (r : Int) (p : Nat) (w : World) (hv : IsEnts w v h) (hl : h.length ≤ 1000000) (hp : placeF h r = p) (hpl : p < h.length) :
    Calls Tryz.prog 59 #[v, .int .i64 r] w fun e w' => e = .returned (.int .i64 (p : Int)) ∧ Below w.heap.size w w' := by
  have hmf : ∀ (fn : Fn) (first cap : Array Value) (w : World), (Instr.makeFunc fn first cap).run Tryz.prog w = .ok (.func fn first cap) w := fun _ _ _ _ => rfl
  have HV := Lib.hid (hv.below ((Below.refl _ _).alloc (Nat.le_refl _) (.cells #[.int .i64 r] 3)))
  clear hv
  go_enter Tryz.func59, Tryz.ntmps59
  go_wp2_with fail
  refine (idxe_any v h r p w.heap.size _ HV.out hl (by simp) (by simp) hp hpl).mono ?_
  rintro rr w1 ⟨rfl, hb1⟩
  have HB1 : Hid (Below w.heap.size w w1) := Lib.hid (((Below.refl _ _).alloc (Nat.le_refl _) _).trans (hb1.mono (by simp)))
  clear hb1
  go_wp2
  go_ret
  exact ⟨rfl, HB1.out⟩
end Go.Proofs.YtkafhlpnhgipeaaGreatDoor
