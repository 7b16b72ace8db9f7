import Derived.Test.YtkafhlpnhgipeaaGreatDoorPk09
import Derived.Test.YtkafhlpnhgipeaaGreatDoorPk10
import Derived.Test.YtkafhlpnhgipeaaGreatDoorPk04
import Derived.Deep.Slices
import Derived.Deep.Fields
import Derived.ChangeSame
import Derived.SizedLaws
import Derived.ProofKit
import Derived.Test.YtkafhlpnhgipeaaGreatDoorPk08
import Derived.Maps.OwnSet
import Derived.Maps.OwnOps
import Derived.WalkKit
import Derived.Test.YtkafhlpnhgipeaaGreatDoorProg
import Derived.KernelRfl
import Derived.StringKeys
/-
  The contract of the document's BatchRight.
-/
namespace Go.Proofs.YtkafhlpnhgipeaaGreatDoor
open Go.RowKit

theorem rwright_as (x : Wr) (e : Nat) (w : World) (hk : x.key.size ≤ 140737488351232) (hv : x.value.size ≤ 140737488351232) (he : wE x = e) :
    Calls Tryz.prog 43 #[.agg #[.int .i64 x.time, .int .i64 x.rep, .int .i64 x.kind, .string x.key, .string x.value, .int .i64 x.n]] w fun r w' => r = .returned (.int .i64 (e : Nat)) ∧ Below w.heap.size w w' := by
  subst he; exact rwright_any x.time x.rep x.kind x.key x.value x.n w hk hv
theorem rcov_as (va vb : Value) (a b : List Ent) (x : Bool) (w : World) (ha : IsEnts w va a) (hb : IsEnts w vb b) (hla : a.length ≤ 9223372036854775807) (hlb : b.length ≤ 9223372036854775807) (hx : covB a b = x) :
    Calls Tryz.prog 42 #[va, vb] w fun r w' => r = .returned (.bool x) ∧ Below w.heap.size w w' := by
  subst hx; exact rcov_any va vb a b w ha hb hla hlb
/-- A block of two numbers that may be written. -/
def twoAt (w : World) (B : Nat) (a b : Int) : Prop :=
  w.cell? ⟨B, 0, none⟩ = some (.int .i64 a) ∧ w.cell? ⟨B, 1, none⟩ = some (.int .i64 b) ∧ w.frozen? ⟨B, 0, none⟩ = false ∧ w.frozen? ⟨B, 1, none⟩ = false
theorem twoAt.below {w w' : World} {B : Nat} {a b : Int} {m : Nat} (h : twoAt w B a b) (hb : Below m w w') (hm : B < m) : twoAt w' B a b :=
  ⟨(hb.cell hm).trans h.1, (hb.cell hm).trans h.2.1, (hb.frozen hm).trans h.2.2.1, (hb.frozen hm).trans h.2.2.2⟩
theorem twoAt_new (w : World) (a b : Int) (t : TypeId) : twoAt (w.alloc (.cells #[.int .i64 a, .int .i64 b] t)) w.heap.size a b := by
  unfold twoAt; simp
theorem twoAt.set {w : World} {B : Nat} {a b : Int} (h : twoAt w B a b) (c d : Int) : twoAt ((w.setCell ⟨B, 0, none⟩ (.int .i64 c)).setCell ⟨B, 1, none⟩ (.int .i64 d)) B c d := by
  obtain ⟨h0, h1, h2, h3⟩ := h
  refine ⟨?_, ?_, ?_, ?_⟩
  · rw [World.cell?_setCell_other _ _ _ _ (by simp)]; exact World.cell?_setCell_same _ _ _ h0
  · exact World.cell?_setCell_same _ _ _ ((World.cell?_setCell_other _ _ _ _ (by simp)).trans h1)
  · rw [World.frozen?_setCell, World.frozen?_setCell]; exact h2
  · rw [World.frozen?_setCell, World.frozen?_setCell]; exact h3
/-- The id that stands ahead, as the document keeps it. -/
def lastI (p : Option Wr) : Int × Int := match p with | none => (0, 0) | some q => (q.time, q.rep)

set_option maxRecDepth 100000 in
set_option maxHeartbeats 8000000 in
theorem rbright_any (vf vh vw : Value) (f h : List Ent) (l : List Wr) (w : World) (hf : IsEnts w vf f) (hh : IsEnts w vh h) (hv : IsWrs w vw l) (hlf : f.length ≤ 9223372036854775807) (hlh : h.length ≤ 9223372036854775807) (hok : ∀ t ∈ l, WrOk t) :
    Calls Tryz.prog 12 #[.agg #[vf, vh, vw]] w fun r w' => r = .returned (faultV (batF f h l)) ∧ Below w.heap.size w w' := by
  have HF := Lib.hid hf
  have HH := Lib.hid hh
  have HV := Lib.hid hv
  have HLF := Lib.hid hlf
  have HLH := Lib.hid hlh
  have HOK := Lib.hid hok
  obtain ⟨af, cf, rfl, _⟩ := hf.form
  obtain ⟨ah, ch, rfl, _⟩ := hh.form
  obtain ⟨aw, cw, rfl, fw⟩ := hv.form
  have FW := Lib.hid fw
  obtain ⟨nf, hnf⟩ : ∃ n, n = f.length := ⟨_, rfl⟩
  obtain ⟨nh, hnh⟩ : ∃ n, n = h.length := ⟨_, rfl⟩
  obtain ⟨n, hn⟩ : ∃ n, n = l.length := ⟨_, rfl⟩
  rw [← hnf] at HF ⊢
  rw [← hnh] at HH ⊢
  rw [← hn] at HV ⊢
  have HN := Lib.hid hn
  obtain ⟨ef, pf, hrf⟩ : ∃ e pl, vrightF f = (e, pl) := ⟨_, _, rfl⟩
  obtain ⟨eh, ph, hrh⟩ : ∃ e pl, vrightF h = (e, pl) := ⟨_, _, rfl⟩
  have HRF := Lib.hid hrf
  have HRH := Lib.hid hrh
  have hA0 := ((batAt_new w (.slice af nf cf) (.slice ah nh ch) (.slice aw n cw) 25).below ((Below.refl _ _).alloc (Nat.le_refl _) (.cells #[.int .i64 0, .int .i64 0] 29)) (by simp))
  have hT0 := twoAt_new (w.alloc (.cells #[.slice af nf cf, .slice ah nh ch, .slice aw n cw] 25)) 0 0 29
  rw [World.size_alloc] at hT0
  have HA := Lib.hid hA0
  have HT := Lib.hid hT0
  have HW0 : Hid (Below w.heap.size w ((w.alloc (.cells #[.slice af nf cf, .slice ah nh ch, .slice aw n cw] 25)).alloc (.cells #[.int .i64 0, .int .i64 0] 29))) := Lib.hid (((Below.refl _ _).alloc (Nat.le_refl _) _).alloc (by simp) _)
  have HZ : Hid (((w.alloc (.cells #[.slice af nf cf, .slice ah nh ch, .slice aw n cw] 25)).alloc (.cells #[.int .i64 0, .int .i64 0] 29)).heap.size = w.heap.size + 1 + 1) := Lib.hid (by simp)
  clear hf hh hv hlf hlh hnf hnh hn hok fw hrf hrh hA0 hT0
  go_enter Tryz.func12, Tryz.ntmps12
  go_wp2_with fail
  generalize (w.alloc (.cells #[.slice af nf cf, .slice ah nh ch, .slice aw n cw] 25)).alloc (.cells #[.int .i64 0, .int .i64 0] 29) = W at HA HT HW0 HZ ⊢
  have HE : Hid (∀ w', Below W.heap.size W w' → Below w.heap.size w w') := Lib.hid (fun w' hx => HW0.out.trans (hx.mono HW0.out.size))
  have HZA : Hid (w.heap.size < W.heap.size) := Lib.hid (by rw [HZ.out]; omega)
  have HZB : Hid (w.heap.size + 1 < W.heap.size) := Lib.hid (by rw [HZ.out]; omega)
  refine (rvright_as _ f ef pf _ (HF.out.below HW0.out) HLF.out HRF.out).mono ?_
  rintro r w1 ⟨rfl, hb1⟩
  have HB1 : Hid (Below W.heap.size W w1) := Lib.hid hb1
  clear hb1
  go_wp2_with fail
  refine (is_any ef pf _).mono ?_
  rintro r w2 ⟨rfl, hb2⟩
  have k0 : w2.cell? ⟨w1.heap.size, 0, none⟩ = some (.int .i64 (ef : Int)) := (hb2.cell (by simp)).trans (by simp)
  have HB2 : Hid (Below W.heap.size W w2) := (HB1.out.alloc HB1.out.size _).trans (hb2.mono (by have := HB1.out.size; simp; omega))
  clear hb2
  by_cases h1 : ef = 0
  · subst h1
    clear k0
    obtain ⟨d0, d1, d2⟩ := HA.out.below HB2.out HZA.out
    go_wp2_with fail
    refine (rvright_as _ h eh ph _ (HH.out.below (HE.out _ HB2.out)) HLH.out HRH.out).mono ?_
    rintro r w3 ⟨rfl, hb3⟩
    have HB3 : Hid (Below W.heap.size W w3) := HB2.out.trans (hb3.mono HB2.out.size)
    clear hb3 d0 d1 d2
    go_wp2_with fail
    refine (is_any eh ph _).mono ?_
    rintro r w4 ⟨rfl, hb4⟩
    have k0 : w4.cell? ⟨w3.heap.size, 0, none⟩ = some (.int .i64 (eh : Int)) := (hb4.cell (by simp)).trans (by simp)
    have HB4 : Hid (Below W.heap.size W w4) := (HB3.out.alloc HB3.out.size _).trans (hb4.mono (by have := HB3.out.size; simp; omega))
    clear hb4
    by_cases h2 : eh = 0
    · subst h2
      clear k0
      obtain ⟨c, hc⟩ : ∃ c, covB h f = c := ⟨_, rfl⟩
      have HC := Lib.hid hc
      clear hc
      obtain ⟨d0, d1, d2⟩ := HA.out.below HB4.out HZA.out
      go_wp2_with fail
      refine (rcov_as _ _ h f c _ (HH.out.below (HE.out _ HB4.out)) (HF.out.below (HE.out _ HB4.out)) HLH.out HLF.out HC.out).mono ?_
      rintro r w5 ⟨rfl, hb5⟩
      have HB5 : Hid (Below W.heap.size W w5) := HB4.out.trans (hb5.mono HB4.out.size)
      clear hb5 d0 d1 d2
      cases c with
      | false =>
        have HBE : Hid (bbE f h = 13) := Lib.hid (by unfold bbE; rw [HRF.out, HRH.out, HC.out]; rfl)
        have HR := Lib.hid (faultV_is (batF_bb (ws := l) HBE.out (by decide)))
        go_wp2_with fail
        refine (baref_any 13 _).mono ?_
        rintro r w6 ⟨rfl, hb6⟩
        have HB6 : Hid (Below W.heap.size W w6) := HB5.out.trans (hb6.mono HB5.out.size)
        obtain ⟨x0, x1, y0, y1⟩ := HT.out.below HB6.out HZB.out
        clear hb6
        go_wp2
        refine bodyPost_ret (v := .agg #[.int .i64 13, .int .i64 (-1)]) (by simp [results, Tryz.results12, go_sem, x0, x1]) rfl ?_
        rw [HR.out]
        exact ⟨rfl, ((HE.out _ HB6.out).setCell (Nat.le_succ _) _).setCell (Nat.le_succ _) _⟩
      | true =>
        have HBE : Hid (bbE f h = 0) := Lib.hid (by unfold bbE; rw [HRF.out, HRH.out, HC.out]; rfl)
        obtain ⟨d0, d1, d2⟩ := HA.out.below HB5.out HZA.out
        by_cases h6 : 60 < n
        · have HR := Lib.hid (faultV_is (batF_many HBE.out (show 60 < l.length by rw [← HN.out]; exact h6)))
          have h6' : (60 : Int) < (n : Int) := by omega
          go_wp2_with fail
          refine (baref_any 4 _).mono ?_
          rintro r w6 ⟨rfl, hb6⟩
          have HB6 : Hid (Below W.heap.size W w6) := HB5.out.trans (hb6.mono HB5.out.size)
          obtain ⟨x0, x1, y0, y1⟩ := HT.out.below HB6.out HZB.out
          clear hb6 d0 d1 d2
          go_wp2
          refine bodyPost_ret (v := .agg #[.int .i64 4, .int .i64 (-1)]) (by simp [results, Tryz.results12, go_sem, x0, x1]) rfl ?_
          rw [HR.out]
          exact ⟨rfl, ((HE.out _ HB6.out).setCell (Nat.le_succ _) _).setCell (Nat.le_succ _) _⟩
        · have HR := Lib.hid (batF_rest (ws := l) HBE.out (show ¬ 60 < l.length by rw [← HN.out]; exact h6))
          have h6' : ¬ (60 : Int) < (n : Int) := by omega
          have hn6 : n ≤ 60 := by omega
          clear h6
          have hlt5 : w.heap.size < w5.heap.size := Nat.lt_of_lt_of_le HZA.out HB5.out.size
          have hLB := HB5.out.size
          have HTL := Lib.hid (twoAt_new w5 0 0 44)
          have HB6 : Hid (Below W.heap.size W (w5.alloc (.cells #[.int .i64 0, .int .i64 0] 44))) := Lib.hid (HB5.out.alloc hLB _)
          go_wp2
          clear d0 d1 d2
          obtain ⟨L, hL⟩ : ∃ L, L = w5.heap.size := ⟨_, rfl⟩
          rw [← hL] at hLB HTL ⊢
          have HLB := Lib.hid hLB
          have HL0 : Hid (L < (w5.alloc (.cells #[.int .i64 0, .int .i64 0] 44)).heap.size) := Lib.hid (by rw [hL]; simp)
          clear hL hLB hlt5
          go_loopw [43] (fun i wr => ∃ (k : Nat) (p : Option Wr), k ≤ n ∧ i = .int .i64 k ∧ ((k = 0 ∧ p = none) ∨ ∃ j q, k = j + 1 ∧ l[j]? = some q ∧ p = some q) ∧ bwr f h l 0 none = bwr f h (l.drop k) k p ∧ twoAt wr L (lastI p).1 (lastI p).2 ∧ L < wr.heap.size ∧ Below W.heap.size W wr) (fun i _ => n - (intOf i).toNat)
          case atStart => exact ⟨0, none, by omega, rfl, .inl ⟨rfl, rfl⟩, rfl, HTL.out, HL0.out, HB6.out⟩
          case round =>
            obtain ⟨k, p, hk, rfl, hla, heq, htl, hll, hbel⟩ := hrel
            have HEQ := Lib.hid heq
            have HLA := Lib.hid hla
            have HB := Lib.hid hbel
            have HTW := Lib.hid htl
            have HLL := Lib.hid hll
            clear heq hbel hla htl hll
            by_cases hlt : k < n
            · have hkl : k < l.length := by have := HN.out; omega
              obtain ⟨t, ht⟩ : ∃ t, l[k]? = some t := ⟨l[k], List.getElem?_eq_getElem hkl⟩
              obtain ⟨b1, o1, rfl, hb1, p0, p1, p2, p3, p4, p5⟩ := FW.out k t ht
              have hd : l.drop k = t :: l.drop (k + 1) := by
                rw [List.drop_eq_getElem_cons hkl]; congr 1
                rw [List.getElem?_eq_getElem hkl] at ht; exact Option.some.inj ht
              have HD := Lib.hid hd
              have HTT := Lib.hid ht
              have HO := Lib.hid (HOK.out t (List.mem_of_getElem? ht))
              obtain ⟨ew, hew⟩ : ∃ e, wE t = e := ⟨_, rfl⟩
              have HEW := Lib.hid hew
              have hBw := HE.out _ HB.out
              have q0 := (hBw.cell (p := ⟨b1, o1 + k * 6, none⟩) hb1).trans p0
              have q1 := (hBw.cell (p := ⟨b1, o1 + k * 6 + 1, none⟩) hb1).trans p1
              have q2 := (hBw.cell (p := ⟨b1, o1 + k * 6 + 2, none⟩) hb1).trans p2
              have q3 := (hBw.cell (p := ⟨b1, o1 + k * 6 + 3, none⟩) hb1).trans p3
              have q4 := (hBw.cell (p := ⟨b1, o1 + k * 6 + 4, none⟩) hb1).trans p4
              have q5 := (hBw.cell (p := ⟨b1, o1 + k * 6 + 5, none⟩) hb1).trans p5
              clear ht hkl hd hew p0 p1 p2 p3 p4 p5 hBw
              go_wp2_with fail
              refine (rwright_as t ew _ HO.out.2.2.1 HO.out.2.2.2 HEW.out).mono ?_
              rintro r w7 ⟨rfl, hb7⟩
              have HB7 : Hid (Below W.heap.size W w7) := Lib.hid ((HB.out.alloc HB.out.size _).trans (hb7.mono (by have := HB.out.size; simp; omega)))
              have HC7 : Hid (wrAt w7 wr.heap.size t.time t.rep t.kind t.key t.value t.n) := Lib.hid ((wrAt_new wr t.time t.rep t.kind t.key t.value t.n 46).below hb7 (by simp))
              have HT7 : Hid (twoAt w7 L (lastI p).1 (lastI p).2) := Lib.hid ((HTW.out.below ((Below.refl _ _).alloc (Nat.le_refl _) _) HLL.out).below hb7 (by have := HLL.out; simp; omega))
              have HM7 : Hid (wr.heap.size < w7.heap.size) := Lib.hid (by have := hb7.size; simp at this; exact this)
              have HL7 : Hid (L < w7.heap.size) := Lib.hid (Nat.lt_trans HLL.out HM7.out)
              clear hb7 q0 q1 q2 q3 q4 q5
              by_cases h0 : ew = 0
              · subst h0
                obtain ⟨c0, c1, c2, c3, c4, c5⟩ := HC7.out
                obtain ⟨d0, d1, d2⟩ := HA.out.below HB7.out HZA.out
                rcases HLA.out with ⟨hk0, hp0⟩ | ⟨j, q, hkj, hq, hpq⟩
                · subst hk0 hp0
                  obtain ⟨b, hb⟩ : ∃ b, wiF (t.time, t.rep) f h = b := ⟨_, rfl⟩
                  have HWI := Lib.hid hb
                  have HCE : Hid (bwE f h (none) t = if b = true then 0 else 6) := Lib.hid (by
                    cases b with
                    | true => rw [bwE_fine (p := none) HEW.out trivial hb]; rfl
                    | false => rw [bwE_state (p := none) HEW.out trivial hb]; rfl)
                  clear hb
                  go_wp2_with fail
                  refine (rwithin_as t.time t.rep _ _ f h _ (HF.out.below (HE.out _ HB7.out)) (HH.out.below (HE.out _ HB7.out)) HLF.out HLH.out b HWI.out).mono ?_
                  rintro r w9 ⟨rfl, hb9⟩
                  have HB9 : Hid (Below W.heap.size W w9) := HB7.out.trans (hb9.mono HB7.out.size)
                  have HT9 := Lib.hid (HT7.out.below hb9 HL7.out)
                  have HC9 := Lib.hid (HC7.out.below hb9 HM7.out)
                  have HL9 : Hid (L < w9.heap.size) := Lib.hid (Nat.lt_of_lt_of_le HL7.out hb9.size)
                  clear hb9 c0 c1 c2 c3 c4 c5 d0 d1 d2
                  cases b with
                  | false =>
                    have HQ := Lib.hid (faultV_is (HR.out.trans (HEQ.out.trans ((congrArg (fun z => bwr f h z 0 _) HD.out).trans (bwr_bad HCE.out (by decide))))))
                    obtain ⟨x0, x1, y0, y1⟩ := HT.out.below HB9.out HZB.out
                    go_wp2
                    refine bodyPost_ret (v := .agg #[.int .i64 6, .int .i64 0]) (by simp [results, Tryz.results12, go_sem, x0, x1]) rfl ?_
                    rw [HQ.out]
                    exact ⟨rfl, ((HE.out _ HB9.out).setCell (Nat.le_succ _) _).setCell (Nat.le_succ _) _⟩
                  | true =>
                    have HN2 : Hid (bwr f h l 0 none = bwr f h (l.drop (0 + 1)) (0 + 1) (some t)) := Lib.hid (HEQ.out.trans ((congrArg (fun z => bwr f h z 0 _) HD.out).trans (bwr_good HCE.out)))
                    obtain ⟨c0, c1, c2, c3, c4, c5⟩ := HC9.out
                    obtain ⟨t0, t1, t2, t3⟩ := HT9.out
                    have hlw := HLB.out
                    go_wp2
                    go_roundw
                    case rel => exact ⟨0 + 1, some t, by omega, by go_num, .inr ⟨0, t, rfl, HTT.out, rfl⟩, HN2.out, HT9.out.set t.time t.rep, by simpa using HL9.out, (HB9.out.setCell hlw _).setCell hlw _⟩
                    case measure => simp [intOf]; omega
                · subst hpq
                  obtain ⟨c, hc⟩ : ∃ c, cI (q.time, q.rep) (t.time, t.rep) = c := ⟨_, rfl⟩
                  have HC := Lib.hid hc
                  have hc3 : c = -1 ∨ c = 0 ∨ c = 1 := by rw [← hc]; exact cI_three _ _ _ _
                  have hk0 : (0 : Int) < (k : Int) := by omega
                  have z1 : 0 < k := by omega
                  have z2 : decide (0 < k) = true := by simp; omega
                  have z3 : decide ((0 : Int) < (k : Int)) = true := by simp; omega
                  obtain ⟨t0, t1, t2, t3⟩ : twoAt w7 L q.time q.rep := HT7.out
                  clear hc hkj hq
                  by_cases hcl : c = -1
                  · subst hcl
                    have HLT : Hid (late q t) := Lib.hid (late_iff.2 HC.out)
                    obtain ⟨b, hb⟩ : ∃ b, wiF (t.time, t.rep) f h = b := ⟨_, rfl⟩
                    have HWI := Lib.hid hb
                    have HCE : Hid (bwE f h (some q) t = if b = true then 0 else 6) := Lib.hid (by
                      cases b with
                      | true => rw [bwE_fine (p := some q) HEW.out HLT.out hb]; rfl
                      | false => rw [bwE_state (p := some q) HEW.out HLT.out hb]; rfl)
                    clear hb
                    clear hc3
                    go_wp2_with fail
                    refine (rcmp_as q.time q.rep t.time t.rep (-1) _ HC.out).mono ?_
                    rintro r w8 ⟨rfl, hb8⟩
                    have HB8 : Hid (Below W.heap.size W w8) := HB7.out.trans (hb8.mono HB7.out.size)
                    have HT8 := Lib.hid (HT7.out.below hb8 HL7.out)
                    have HC8 := Lib.hid (HC7.out.below hb8 HM7.out)
                    have HL8 : Hid (L < w8.heap.size) := Lib.hid (Nat.lt_of_lt_of_le HL7.out hb8.size)
                    have HM8 : Hid (wr.heap.size < w8.heap.size) := Lib.hid (Nat.lt_of_lt_of_le HM7.out hb8.size)
                    clear hb8 c0 c1 c2 c3 c4 c5 d0 d1 d2 t0 t1 t2 t3
                    obtain ⟨c0, c1, c2, c3, c4, c5⟩ := HC8.out
                    obtain ⟨d0, d1, d2⟩ := HA.out.below HB8.out HZA.out
                    go_wp2_with fail
                    refine (rwithin_as t.time t.rep _ _ f h _ (HF.out.below (HE.out _ HB8.out)) (HH.out.below (HE.out _ HB8.out)) HLF.out HLH.out b HWI.out).mono ?_
                    rintro r w9 ⟨rfl, hb9⟩
                    have HB9 : Hid (Below W.heap.size W w9) := HB8.out.trans (hb9.mono HB8.out.size)
                    have HT9 := Lib.hid (HT8.out.below hb9 HL8.out)
                    have HC9 := Lib.hid (HC8.out.below hb9 HM8.out)
                    have HL9 : Hid (L < w9.heap.size) := Lib.hid (Nat.lt_of_lt_of_le HL8.out hb9.size)
                    clear hb9 c0 c1 c2 c3 c4 c5 d0 d1 d2
                    cases b with
                    | false =>
                      have HQ := Lib.hid (faultV_is (HR.out.trans (HEQ.out.trans ((congrArg (fun z => bwr f h z k _) HD.out).trans (bwr_bad HCE.out (by decide))))))
                      obtain ⟨x0, x1, y0, y1⟩ := HT.out.below HB9.out HZB.out
                      go_wp2
                      refine bodyPost_ret (v := .agg #[.int .i64 6, .int .i64 k]) (by simp [results, Tryz.results12, go_sem, x0, x1]) rfl ?_
                      rw [HQ.out]
                      exact ⟨rfl, ((HE.out _ HB9.out).setCell (Nat.le_succ _) _).setCell (Nat.le_succ _) _⟩
                    | true =>
                      have HN2 : Hid (bwr f h l 0 none = bwr f h (l.drop (k + 1)) (k + 1) (some t)) := Lib.hid (HEQ.out.trans ((congrArg (fun z => bwr f h z k _) HD.out).trans (bwr_good HCE.out)))
                      obtain ⟨c0, c1, c2, c3, c4, c5⟩ := HC9.out
                      obtain ⟨t0, t1, t2, t3⟩ := HT9.out
                      have hlw := HLB.out
                      go_wp2
                      go_roundw
                      case rel => exact ⟨k + 1, some t, by omega, by go_num, .inr ⟨k, t, rfl, HTT.out, rfl⟩, HN2.out, HT9.out.set t.time t.rep, by simpa using HL9.out, (HB9.out.setCell hlw _).setCell hlw _⟩
                      case measure => simp [intOf]; omega
                  · have HCE : Hid (bwE f h (some q) t = 10) := Lib.hid (bwE_order (p := some q) HEW.out (fun hl => hcl (HC.out.symm.trans (late_iff.1 hl))))
                    have y1 : 0 ≤ c := by omega
                    have y2 : decide (0 ≤ c) = true := by simp; omega
                    have HQ := Lib.hid (faultV_is (HR.out.trans (HEQ.out.trans ((congrArg (fun z => bwr f h z k _) HD.out).trans (bwr_bad HCE.out (by decide))))))
                    clear hc3 hcl
                    go_wp2_with fail
                    refine (rcmp_as q.time q.rep t.time t.rep c _ HC.out).mono ?_
                    rintro r w8 ⟨rfl, hb8⟩
                    have HB8 : Hid (Below W.heap.size W w8) := HB7.out.trans (hb8.mono HB7.out.size)
                    clear hb8 c0 c1 c2 c3 c4 c5 d0 d1 d2 t0 t1 t2 t3
                    obtain ⟨x0, x1, y0, y1⟩ := HT.out.below HB8.out HZB.out
                    go_wp2
                    refine bodyPost_ret (v := .agg #[.int .i64 10, .int .i64 k]) (by simp [results, Tryz.results12, go_sem, x0, x1]) rfl ?_
                    rw [HQ.out]
                    exact ⟨rfl, ((HE.out _ HB8.out).setCell (Nat.le_succ _) _).setCell (Nat.le_succ _) _⟩
              · have HQ := Lib.hid (faultV_is (HR.out.trans (HEQ.out.trans ((congrArg (fun z => bwr f h z k _) HD.out).trans (bwr_bad (bwE_w HEW.out h0) h0)))))
                have hne : ((ew : Int) != 0) = true := by simp; omega
                clear h0
                obtain ⟨x0, x1, y0, y1⟩ := HT.out.below HB7.out HZB.out
                go_wp2
                refine bodyPost_ret (v := .agg #[.int .i64 ew, .int .i64 k]) (by simp [results, Tryz.results12, go_sem, x0, x1]) rfl ?_
                rw [HQ.out]
                exact ⟨rfl, ((HE.out _ HB7.out).setCell (Nat.le_succ _) _).setCell (Nat.le_succ _) _⟩
            · have HQ := Lib.hid (faultV_is (HR.out.trans (show bwr f h l 0 none = (0, -1) by rw [HEQ.out, List.drop_eq_nil_of_le (by have := HN.out; omega)]; rfl)))
              go_wp2_with fail
              refine (good_any _).mono ?_
              rintro r w7 ⟨rfl, hb7⟩
              have HB7 : Hid (Below W.heap.size W w7) := HB.out.trans (hb7.mono HB.out.size)
              clear hb7
              obtain ⟨x0, x1, y0, y1⟩ := HT.out.below HB7.out HZB.out
              go_wp2
              refine bodyPost_ret (v := .agg #[.int .i64 0, .int .i64 (-1)]) (by simp [results, Tryz.results12, go_sem, x0, x1]) rfl ?_
              rw [HQ.out]
              exact ⟨rfl, ((HE.out _ HB7.out).setCell (Nat.le_succ _) _).setCell (Nat.le_succ _) _⟩
    · have HBE : Hid (bbE f h = eh) := Lib.hid (by unfold bbE; rw [HRF.out, HRH.out]; simp; intro h9; exact absurd h9 h2)
      have HQ := Lib.hid (faultV_is (batF_bb (ws := l) HBE.out h2))
      have hne : ((eh : Int) == 0) = false := by simp; exact h2
      clear h2
      rw [hne]
      go_wp2_with fail
      refine (baref_any eh _).mono ?_
      rintro r w7 ⟨rfl, hb7⟩
      have HB7 : Hid (Below W.heap.size W w7) := HB4.out.trans (hb7.mono HB4.out.size)
      clear hb7 k0
      obtain ⟨x0, x1, y0, y1⟩ := HT.out.below HB7.out HZB.out
      go_wp2
      refine bodyPost_ret (v := .agg #[.int .i64 eh, .int .i64 (-1)]) (by simp [results, Tryz.results12, go_sem, x0, x1]) rfl ?_
      rw [HQ.out]
      exact ⟨rfl, ((HE.out _ HB7.out).setCell (Nat.le_succ _) _).setCell (Nat.le_succ _) _⟩
  · have HBE : Hid (bbE f h = ef) := Lib.hid (by unfold bbE; rw [HRF.out]; simp; intro h9; exact absurd h9 h1)
    have HQ := Lib.hid (faultV_is (batF_bb (ws := l) HBE.out h1))
    have hne : ((ef : Int) == 0) = false := by simp; exact h1
    clear h1
    rw [hne]
    go_wp2_with fail
    refine (baref_any ef _).mono ?_
    rintro r w7 ⟨rfl, hb7⟩
    have HB7 : Hid (Below W.heap.size W w7) := HB2.out.trans (hb7.mono HB2.out.size)
    clear hb7 k0
    obtain ⟨x0, x1, y0, y1⟩ := HT.out.below HB7.out HZB.out
    go_wp2
    refine bodyPost_ret (v := .agg #[.int .i64 ef, .int .i64 (-1)]) (by simp [results, Tryz.results12, go_sem, x0, x1]) rfl ?_
    rw [HQ.out]
    exact ⟨rfl, ((HE.out _ HB7.out).setCell (Nat.le_succ _) _).setCell (Nat.le_succ _) _⟩
end Go.Proofs.YtkafhlpnhgipeaaGreatDoor
/-
  A []api.Entry that comes in: what the row's own reading says of it; an id that comes in.
-/
namespace Go.Proofs.YtkafhlpnhgipeaaGreatDoor
open Go.ChangeShapes Go.WideShapes Go.ChangeAt Go.RowKit

theorem laidOutE : laidOutB Tryz.prog = true := by kernel_rfl
instance : Inhabited Ent := ⟨⟨0, 0⟩⟩

/-- A struct of two fields, each of one cell, read. -/
theorem two_fields {H : Type} {enc : TypeId × Value → H} {P : Program} {W : World} {spare : Nat → Bool} {held : Bool} {n : Nat} {t : TypeId} {cs : List Value} {x : DataW H × List MemPlace} {p q : Field}
    (ht : P.underlying t = some (.struct #[p, q])) (h1 : Go.Deep.oneCellFields P #[p, q] = true) (h3 : P.cellsOf t = 2)
    (h : DataW.trod enc P W 0 spare held n t cs = some x) :
    ∃ (a b : Value) (u v : DataW H × List MemPlace) (m : Nat), cs = [a, b] ∧ x.1 = .agg [u.1, v.1] ∧
      DataW.trod enc P W 0 spare held m p.type [a] = some u ∧ DataW.trod enc P W 0 spare held m q.type [b] = some v := by
  obtain ⟨xs, m, _, hx, hl, hxl, hf⟩ := DataW.trod_struct ht h
  rw [h3] at hl
  have hxl' : xs.length = 2 := hxl
  match cs, hl with
  | [a, b], _ =>
    match xs, hxl' with
    | [u, v], _ =>
      have one := Go.Deep.hone_of h1
      have g0 := hf 0 p rfl
      have g1 := hf 1 q rfl
      rw [(one 0 p rfl).1, (one 0 p rfl).2] at g0
      rw [(one 1 q rfl).1, (one 1 q rfl).2] at g1
      exact ⟨a, b, u, v, m, rfl, by rw [hx]; rfl, g0, g1⟩

/-- How an entry reads. -/
def entD {H : Type} (t : Ent) : DataW H := .agg [.lit (.int .i64 t.rep), .lit (.int .i64 t.time)]
/-- One element. -/
theorem ent_elem {H : Type} {enc : TypeId × Value → H} {W : World} {spare : Nat → Bool} {held : Bool} {n : Nat} {cs : List Value} {x : DataW H × List MemPlace}
    (h : DataW.trod enc Tryz.prog W 0 spare held n 60 cs = some x) : ∃ t : Ent, cs = entC t := by
  obtain ⟨a, b, u, v, m, rfl, hx, g0, g1⟩ := two_fields Tryz.underlying60 (by kernel_rfl) (by kernel_rfl) h
  obtain ⟨k, e0, f0, _⟩ := DataW.trod_int Tryz.underlying3 g0
  obtain ⟨z, e1, f1, _⟩ := DataW.trod_int Tryz.underlying3 g1
  have e0' : a = .int .i64 k := List.head_eq_of_cons_eq e0
  have e1' : b = .int .i64 z := List.head_eq_of_cons_eq e1
  exact ⟨⟨k, z⟩, by rw [e0', e1']; rfl⟩

theorem entsArg {H : Type} {enc : TypeId × Value → H} {W : World} {spare : Nat → Bool} {held : Bool} {a0 : Option Addr} {len0 cap0 fuel : Nat} {d : DataW H} {p : List MemPlace}
    (hf : DataW.trod enc Tryz.prog W 0 spare held fuel 22 [.slice a0 len0 cap0] = some (d, p)) :
    ∃ l : List Ent, IsEnts W (.slice a0 len0 cap0) l ∧ l.length = len0 ∧ len0 ≤ cap0 ∧ cap0 ≤ maxLen := by
  rcases Go.Deep.open_slice Tryz.underlying22 hf with ⟨hcs, _⟩ | ⟨a, ln, cp, m, n, D, Pl, hcs, _, hl, hm, hmm, hx, hi⟩
  · simp only [List.cons.injEq, Value.slice.injEq, and_true] at hcs
    obtain ⟨rfl, rfl, rfl⟩ := hcs
    exact ⟨[], .inl ⟨_, _, rfl, rfl⟩, rfl, Nat.le_refl _, by unfold maxLen; omega⟩
  · simp only [List.cons.injEq, Value.slice.injEq, and_true] at hcs
    obtain ⟨rfl, rfl, rfl⟩ := hcs
    have h3 : Tryz.prog.cellsOf 60 = 2 := by kernel_rfl
    rw [h3] at hi
    have hle : len0 ≤ m := by rw [hmm]; split <;> omega
    obtain ⟨f, hfc⟩ := Go.Deep.choose_lt (n := len0) (p := fun i (t : Ent) => W.cells? 0 (a.add (i * 2)) 2 = some (entC t)) (fun i hlt => by
      obtain ⟨cs', hc, ht⟩ := hi i (by omega)
      obtain ⟨t, h1⟩ := ent_elem ht
      exact ⟨t, by rw [hc, h1]⟩)
    have hll : ((List.range len0).map f).length = len0 := by simp
    refine ⟨(List.range len0).map f, ?_, hll, hl, hm⟩
    by_cases hz : len0 = 0
    · subst hz; exact .inl ⟨_, _, rfl, rfl⟩
    · obtain ⟨b, off, spot⟩ := a
      have hcell : ∀ i, i < len0 → ∀ r, r < 2 → W.cell? ((⟨b, off, spot⟩ : Addr).add (i * 2 + r)) = (entC (f i))[r]? := fun i hlt r hr => by
        obtain ⟨_, _, hat⟩ := World.cells?_some (hfc i hlt)
        rw [← Go.Deep.add_add]; exact hat r hr
      have h0 := hcell 0 (by omega) 0 (by omega)
      have hspot : spot = none := by simpa [Addr.add] using World.cell?_spot (h0.trans rfl)
      subst hspot
      refine .inr ⟨b, off, cap0, by rw [hll], ⟨by rw [hll]; omega, by rw [hll]; omega⟩, block_lt_of_cell (h0.trans rfl), fun j u hj => ?_⟩
      have hjl : j < len0 * 2 := by rw [← hll, ← entsC_len]; exact (List.getElem?_eq_some_iff.1 hj).1
      have hc := hcell (j / 2) (by omega) (j % 2) (Nat.mod_lt _ (by decide))
      have hti : ((List.range len0).map f)[j / 2]? = some (f (j / 2)) := by
        rw [List.getElem?_map, List.getElem?_range (by omega)]; rfl
      have h5 := entsC_at _ _ (j % 2) _ hti (Nat.mod_lt _ (by decide))
      rw [show j / 2 * 2 + j % 2 = j by omega] at hc h5
      rw [← h5, hj] at hc
      rw [← hc]
      refine congrArg W.cell? ?_
      unfold Addr.add
      split
      · rename_i e; rw [e]; rfl
      · rfl
end Go.Proofs.YtkafhlpnhgipeaaGreatDoor
/-
  An api.Batch that comes in: what the row's own reading and reach say of it.
-/
namespace Go.Proofs.YtkafhlpnhgipeaaGreatDoor
open Go.ChangeShapes Go.WideShapes Go.ChangeAt Go.RowKit

/-- A struct of three fields, each of one cell, read. -/
theorem three_fieldsB {H : Type} {enc : TypeId × Value → H} {P : Program} {W : World} {spare : Nat → Bool} {held : Bool} {n : Nat} {t : TypeId} {cs : List Value} {x : DataW H × List MemPlace} {p q r : Field}
    (ht : P.underlying t = some (.struct #[p, q, r])) (h1 : Go.Deep.oneCellFields P #[p, q, r] = true) (h3 : P.cellsOf t = 3)
    (h : DataW.trod enc P W 0 spare held n t cs = some x) :
    ∃ (a b c : Value) (u v w : DataW H × List MemPlace) (m : Nat), cs = [a, b, c] ∧ x.1 = .agg [u.1, v.1, w.1] ∧
      DataW.trod enc P W 0 spare held m p.type [a] = some u ∧ DataW.trod enc P W 0 spare held m q.type [b] = some v ∧ DataW.trod enc P W 0 spare held m r.type [c] = some w := by
  obtain ⟨xs, m, _, hx, hl, hxl, hf⟩ := DataW.trod_struct ht h
  rw [h3] at hl
  have hxl' : xs.length = 3 := hxl
  match cs, hl with
  | [a, b, c], _ =>
    match xs, hxl' with
    | [u, v, w], _ =>
      have one := Go.Deep.hone_of h1
      have g0 := hf 0 p rfl
      have g1 := hf 1 q rfl
      have g2 := hf 2 r rfl
      rw [(one 0 p rfl).1, (one 0 p rfl).2] at g0
      rw [(one 1 q rfl).1, (one 1 q rfl).2] at g1
      rw [(one 2 r rfl).1, (one 2 r rfl).2] at g2
      exact ⟨a, b, c, u, v, w, m, rfl, by rw [hx]; rfl, g0, g1, g2⟩
theorem slice_of {H : Type} {enc : TypeId × Value → H} {P : Program} {W : World} {spare : Nat → Bool} {held : Bool} {n : Nat} {t e : TypeId} {v : Value} {x : DataW H × List MemPlace}
    (ht : P.underlying t = some (.slice e)) (h : DataW.trod enc P W 0 spare held n t [v] = some x) : ∃ a n c, v = .slice a n c := by
  rcases Go.Deep.open_slice ht h with ⟨hcs, _⟩ | ⟨a, ln, cp, m, n, D, Pl, hcs, _⟩
  · exact ⟨_, _, _, List.head_eq_of_cons_eq hcs⟩
  · exact ⟨_, _, _, List.head_eq_of_cons_eq hcs⟩

theorem wr_weight {H : Type} (ds : List (DataW H)) (t : Wr) (h : wrD t ∈ ds) : t.key.size ∈ DataW.weightsAll Tryz.prog 46 ds ∧ t.value.size ∈ DataW.weightsAll Tryz.prog 46 ds := by
  induction ds with
  | nil => cases h
  | cons d r ih =>
    rw [DataW.weightsAll]
    rcases List.mem_cons.1 h with h | h
    · have g : t.key.size ∈ DataW.weights Tryz.prog 46 (wrD t : DataW H) ∧ t.value.size ∈ DataW.weights Tryz.prog 46 (wrD t : DataW H) := by
        constructor
        · unfold wrD
          rw [DataW.weights, Tryz.underlying46]
          simp [DataW.weightsEach, DataW.weights, Tryz.underlying44]
        · unfold wrD
          rw [DataW.weights, Tryz.underlying46]
          simp [DataW.weightsEach, DataW.weights, Tryz.underlying44]
      rw [← h]
      exact ⟨List.mem_append_left _ g.1, List.mem_append_left _ g.2⟩
    · exact ⟨List.mem_append_right _ (ih h).1, List.mem_append_right _ (ih h).2⟩

theorem wrsArg {H : Type} {enc : TypeId × Value → H} {W : World} {spare : Nat → Bool} {held : Bool} {a0 : Option Addr} {len0 cap0 fuel : Nat} {d : DataW H} {p : List MemPlace}
    (hf : DataW.trod enc Tryz.prog W 0 spare held fuel 23 [.slice a0 len0 cap0] = some (d, p))
    (hw : ∀ x ∈ DataW.weights Tryz.prog 23 d, x ≤ reachBytes) :
    ∃ l : List Wr, IsWrs W (.slice a0 len0 cap0) l ∧ l.length = len0 ∧ len0 ≤ cap0 ∧ cap0 ≤ maxLen ∧ ∀ t ∈ l, WrOk t := by
  rcases Go.Deep.open_slice Tryz.underlying23 hf with ⟨hcs, _⟩ | ⟨a, ln, cp, m, n, D, Pl, hcs, _, hl, hm, hmm, hx, hi⟩
  · simp only [List.cons.injEq, Value.slice.injEq, and_true] at hcs
    obtain ⟨rfl, rfl, rfl⟩ := hcs
    exact ⟨[], .inl ⟨_, _, rfl, rfl⟩, rfl, Nat.le_refl _, by unfold maxLen; omega, fun t h => by cases h⟩
  · simp only [List.cons.injEq, Value.slice.injEq, and_true] at hcs
    obtain ⟨rfl, rfl, rfl⟩ := hcs
    have h3 : Tryz.prog.cellsOf 46 = 6 := by kernel_rfl
    rw [h3] at hi
    have hle : len0 ≤ m := by rw [hmm]; split <;> omega
    obtain ⟨f, hfc⟩ := Go.Deep.choose_lt (n := len0) (p := fun i (t : Wr) => W.cells? 0 (a.add (i * 6)) 6 = some (wrC t) ∧ D i = wrD t ∧ -9223372036854775808 ≤ t.n ∧ t.n ≤ 9223372036854775807) (fun i hlt => by
      obtain ⟨cs', hc, ht⟩ := hi i (by omega)
      obtain ⟨t, h1, h2, h4⟩ := wr_elem ht
      exact ⟨t, by rw [hc, h1], h2, h4⟩)
    have hll : ((List.range len0).map f).length = len0 := by simp
    refine ⟨(List.range len0).map f, ?_, hll, hl, hm, fun t ht => ?_⟩
    · by_cases hz : len0 = 0
      · subst hz; exact .inl ⟨_, _, rfl, rfl⟩
      · obtain ⟨b, off, spot⟩ := a
        have hcell : ∀ i, i < len0 → ∀ r, r < 6 → W.cell? ((⟨b, off, spot⟩ : Addr).add (i * 6 + r)) = (wrC (f i))[r]? := fun i hlt r hr => by
          obtain ⟨_, _, hat⟩ := World.cells?_some (hfc i hlt).1
          rw [← Go.Deep.add_add]; exact hat r hr
        have h0 := hcell 0 (by omega) 0 (by omega)
        have hspot : spot = none := by simpa [Addr.add] using World.cell?_spot (h0.trans rfl)
        subst hspot
        refine .inr ⟨b, off, cap0, by rw [hll], by rw [hll]; omega, block_lt_of_cell (h0.trans rfl), fun j u hj => ?_⟩
        have hjl : j < len0 * 6 := by rw [← hll, ← wrsC_len]; exact (List.getElem?_eq_some_iff.1 hj).1
        have hc := hcell (j / 6) (by omega) (j % 6) (Nat.mod_lt _ (by decide))
        have hti : ((List.range len0).map f)[j / 6]? = some (f (j / 6)) := by
          rw [List.getElem?_map, List.getElem?_range (by omega)]; rfl
        have h5 := wrsC_at _ _ (j % 6) _ hti (Nat.mod_lt _ (by decide))
        rw [show j / 6 * 6 + j % 6 = j by omega] at hc h5
        rw [← h5, hj] at hc
        rw [← hc]
        refine congrArg W.cell? ?_
        unfold Addr.add
        split
        · rename_i e; rw [e]; rfl
        · rfl
    · obtain ⟨i, hir, hit⟩ := List.mem_map.1 ht
      have hil := List.mem_range.1 hir
      have hd : d = .slice ((List.range len0).map D) ((List.range (m - len0)).map fun j => D (len0 + j)) := (Prod.mk.inj hx).1
      have hmem : wrD t ∈ (List.range len0).map D := List.mem_map.2 ⟨i, hir, by rw [(hfc i hil).2.1, hit]⟩
      have hwt := wr_weight _ t hmem
      have hin : ∀ y ∈ DataW.weightsAll Tryz.prog 46 ((List.range len0).map D), y ≤ reachBytes := fun y hy => hw y (by
        rw [hd, DataW.weights, Tryz.underlying23]
        exact List.mem_cons_of_mem _ (List.mem_append_left _ hy))
      have g1 := hin _ hwt.1
      have g2 := hin _ hwt.2
      unfold reachBytes at g1 g2
      have hn := (hfc i hil).2.2
      rw [hit] at hn
      exact ⟨hn.1, hn.2, by omega, by omega⟩

/-- What is known of a batch that came in. -/
def BatIs (W : World) (vf vh vw : Value) (f h : List Ent) (l : List Wr) : Prop :=
  IsEnts W vf f ∧ IsEnts W vh h ∧ IsWrs W vw l ∧ f.length ≤ 9223372036854775807 ∧ h.length ≤ 9223372036854775807 ∧ l.length ≤ 9223372036854775807 ∧ ∀ t ∈ l, WrOk t
theorem BatIs.below {w w' : World} {vf vh vw : Value} {f h : List Ent} {l : List Wr} (hx : BatIs w vf vh vw f h l) (hb : Below w.heap.size w w') : BatIs w' vf vh vw f h l :=
  ⟨hx.1.below hb, hx.2.1.below hb, hx.2.2.1.below hb, hx.2.2.2⟩
theorem BatIs.alloc {w : World} {vf vh vw : Value} {f h : List Ent} {l : List Wr} (hx : BatIs w vf vh vw f h l) (o : Obj) : BatIs (w.alloc o) vf vh vw f h l :=
  hx.below ((Below.refl _ _).alloc (Nat.le_refl _) o)

set_option maxRecDepth 100000 in
theorem batArg {H : Type} {enc : TypeId × Value → H} {W : World} {spare : Nat → Bool} {held : Bool} {v : Value} {d : DataW H} {p : List MemPlace} {base : Nat}
    (hv : Value.okWide Tryz.prog W .any base 25 v) (h : DataW.Trod enc Tryz.prog W 0 spare held 25 v d p)
    (hw : ∀ x ∈ DataW.weights Tryz.prog 25 d, x ≤ reachBytes) : ∃ vf vh vw f h l, v = .agg #[vf, vh, vw] ∧ BatIs W vf vh vw f h l := by
  obtain ⟨cs, rfl, hsz⟩ := okWide_struct Tryz.underlying25 hv
  obtain ⟨fuel, hf⟩ := h
  obtain ⟨vf, vh, vw, ⟨df, pf⟩, ⟨dh, ph⟩, ⟨dw, pw⟩, m, hcs, hd, g0, g1, g2⟩ := three_fieldsB Tryz.underlying25 (by kernel_rfl) (by kernel_rfl) hf
  obtain ⟨af, nf, cf, rfl⟩ := slice_of Tryz.underlying22 g0
  obtain ⟨ah, nh, ch, rfl⟩ := slice_of Tryz.underlying22 g1
  obtain ⟨aw, nw, cw, rfl⟩ := slice_of Tryz.underlying23 g2
  obtain ⟨f, if_, lf, cf1, mf⟩ := entsArg g0
  obtain ⟨h, ih_, lh, ch1, mh⟩ := entsArg g1
  obtain rfl : d = .agg [df, dh, dw] := hd
  obtain ⟨l, iw, lw, cw1, mw, ow⟩ := wrsArg g2 (fun x hx => hw x (by
    rw [DataW.weights, Tryz.underlying25]
    show x ∈ DataW.weightsEach _ (_ :: _ :: _ :: _) (_ :: _ :: _ :: _)
    rw [DataW.weightsEach, DataW.weightsEach, DataW.weightsEach]
    exact List.mem_append_right _ (List.mem_append_right _ (List.mem_append_left _ hx))))
  unfold maxLen at mf mh mw
  refine ⟨_, _, _, f, h, l, ?_, if_, ih_, iw, by omega, by omega, by omega, ow⟩
  have : cs.toList = [.slice af nf cf, .slice ah nh ch, .slice aw nw cw] := by simpa [Value.cells] using hcs
  rw [← Array.toArray_toList (xs := cs), this]
end Go.Proofs.YtkafhlpnhgipeaaGreatDoor
/-
  The contract of the reference's Body, of a batch that is not right; what its first loop gathers.
-/
namespace Go.Proofs.YtkafhlpnhgipeaaGreatDoor
open Go.RowKit

theorem rbright_at (vf vh vw : Value) (f h : List Ent) (l : List Wr) (e : Nat) (pl : Int) (w : World) (hx : BatIs w vf vh vw f h l) (hb : batF f h l = (e, pl)) :
    Calls Tryz.prog 12 #[.agg #[vf, vh, vw]] w fun r w' => r = .returned (.agg #[.int .i64 (e : Int), .int .i64 pl]) ∧ Below w.heap.size w w' :=
  (rbright_any vf vh vw f h l w hx.1 hx.2.1 hx.2.2.1 hx.2.2.2.1 hx.2.2.2.2.1 hx.2.2.2.2.2.2).mono fun r w' ⟨h1, h2⟩ => ⟨by rw [h1, hb]; rfl, h2⟩

/-- A fault's block, whole. -/
def rowF (w : World) (F : Nat) (e p : Int) : Prop := w.heap[F]? = some (.cells #[.int .i64 e, .int .i64 p] 29 (0, 0))
theorem rowF.at {w : World} {F : Nat} {e p : Int} (h : rowF w F e p) : w.cell? ⟨F, 0, none⟩ = some (.int .i64 e) ∧ w.cell? ⟨F, 1, none⟩ = some (.int .i64 p) :=
  ⟨by rw [cell_of_row _ _ _ _ _ (0, 0) h]; rfl, by rw [cell_of_row _ _ _ _ _ (0, 0) h]; rfl⟩
theorem rowF.frozen {w : World} {F : Nat} {e p : Int} (h : rowF w F e p) (j : Nat) : w.frozen? ⟨F, j, none⟩ = false := frozen_of_row w F j _ _ h
theorem rowF.below {w w' : World} {F m : Nat} {e p : Int} (h : rowF w F e p) (hb : Below m w w') (hm : F < m) : rowF w' F e p := (hb.block F hm).trans h

theorem rowF.put {w : World} {F : Nat} {e p : Int} (h : rowF w F e p) (a b : Int) : rowF ((w.setCell ⟨F, 0, none⟩ (.int .i64 a)).setCell ⟨F, 1, none⟩ (.int .i64 b)) F a b :=
  heap_setCell_same _ F 1 _ _ _ (heap_setCell_same w F 0 _ _ _ h)
theorem below_put {w w' : World} {m F : Nat} (hb : Below m w w') (hF : m ≤ F) (u v : Value) : Below m w ((w'.setCell ⟨F, 0, none⟩ u).setCell ⟨F, 1, none⟩ v) :=
  Below.setCell (p := ⟨F, 1, none⟩) (Below.setCell (p := ⟨F, 0, none⟩) hb hF u) hF v

set_option maxRecDepth 100000 in
set_option maxHeartbeats 8000000 in
theorem rbody_bad (w : World) (vf vh vw : Value) (f h : List Ent) (l : List Wr) (e : Nat) (pl : Int) (hx : BatIs w vf vh vw f h l) (hb : batF f h l = (e, pl)) (he : e ≠ 0) :
    Calls Tryz.prog 6 #[.agg #[vf, vh, vw]] w fun r w' => r = .returned (.tuple #[.string ⟨#[]⟩, .agg #[.int .i64 (e : Int), .int .i64 pl]]) ∧ Below w.heap.size w w' := by
  have HX := Lib.hid hx
  obtain ⟨hf, hh, hv, _⟩ := hx
  obtain ⟨af, cf, rfl, _⟩ := hf.form
  obtain ⟨ah, ch, rfl, _⟩ := hh.form
  obtain ⟨aw, cw, rfl, _⟩ := hv.form
  have HBF := Lib.hid hb
  have hz : ((e : Int) == 0) = false := by simp; omega
  generalize f.length = nf at HX ⊢
  generalize h.length = nh at HX ⊢
  generalize l.length = n at HX ⊢
  clear hf hh hv hb
  go_enter Tryz.func6, Tryz.ntmps6
  go_wp2_with fail
  have HA := Lib.hid ((batAt_new w (.slice af nf cf) (.slice ah nh ch) (.slice aw n cw) 25).below ((Below.refl _ _).alloc (Nat.le_refl _) (.cells #[.int .i64 0, .int .i64 0] 29)) (by simp))
  have HF : Hid (rowF ((w.alloc (.cells #[.slice af nf cf, .slice ah nh ch, .slice aw n cw] 25)).alloc (.cells #[.int .i64 0, .int .i64 0] 29)) (w.heap.size + 1) 0 0) := Lib.hid (heap_alloc2_new w _ _)
  have HW : Hid (Below w.heap.size w ((w.alloc (.cells #[.slice af nf cf, .slice ah nh ch, .slice aw n cw] 25)).alloc (.cells #[.int .i64 0, .int .i64 0] 29))) := Lib.hid (((Below.refl _ _).alloc (Nat.le_refl _) _).alloc (by simp) _)
  have HZ : Hid (w.heap.size + 1 < ((w.alloc (.cells #[.slice af nf cf, .slice ah nh ch, .slice aw n cw] 25)).alloc (.cells #[.int .i64 0, .int .i64 0] 29)).heap.size) := Lib.hid (by simp)
  have HBW : Hid (w.heap.size ≤ w.heap.size + 1) := Lib.hid (Nat.le_succ _)
  generalize (w.alloc (.cells #[.slice af nf cf, .slice ah nh ch, .slice aw n cw] 25)).alloc (.cells #[.int .i64 0, .int .i64 0] 29) = W at HA HF HW HZ ⊢
  generalize w.heap.size + 1 = F at HF HZ HBW ⊢
  refine (rbright_at _ _ _ f h l e pl W (HX.out.below HW.out) HBF.out).mono ?_
  rintro r w1 ⟨rfl, hb1⟩
  have HB1 := Lib.hid hb1
  clear hb1
  have HF1 := Lib.hid (HF.out.below HB1.out HZ.out)
  have HW1 : Hid (Below w.heap.size w w1) := HW.out.trans (HB1.out.mono HW.out.size)
  have HZ1 : Hid (F < w1.heap.size) := Lib.hid (Nat.lt_of_lt_of_le HZ.out HB1.out.size)
  go_wp2_with fail
  refine (is_any (e : Int) pl _).mono ?_
  rintro r w2 ⟨rfl, hb2⟩
  rw [hz]
  have HB2 : Hid (Below w1.heap.size w1 w2) := Lib.hid (((Below.refl _ _).alloc (Nat.le_refl _) _).trans (hb2.mono (by simp)))
  have HF2 := Lib.hid (HF1.out.below HB2.out HZ1.out)
  have HT2 : Hid (rowF w2 w1.heap.size e pl) := Lib.hid (rowF.below (w := w1.alloc (.cells #[.int .i64 e, .int .i64 pl] 29)) (heap_alloc_new w1 _) hb2 (by simp))
  have HW2 : Hid (Below w.heap.size w w2) := HW1.out.trans (HB2.out.mono HW1.out.size)
  clear hb2
  obtain ⟨c0, c1⟩ := HT2.out.at
  obtain ⟨c2, c3⟩ := HF2.out.at
  have g0 := HF2.out.frozen 0
  have g1 := HF2.out.frozen 1
  go_wp2
  go_region
  have HF3 : Hid (rowF ((w2.setCell ⟨F, 0, none⟩ (.int .i64 (e : Int))).setCell ⟨F, 1, none⟩ (.int .i64 pl)).drew F e pl) := Lib.hid (HF2.out.put e pl)
  have HW3 : Hid (Below w.heap.size w ((w2.setCell ⟨F, 0, none⟩ (.int .i64 (e : Int))).setCell ⟨F, 1, none⟩ (.int .i64 pl)).drew) := Lib.hid (below_put HW2.out HBW.out _ _).drew
  generalize ((w2.setCell ⟨F, 0, none⟩ (.int .i64 (e : Int))).setCell ⟨F, 1, none⟩ (.int .i64 pl)).drew = w3 at HF3 HW3 ⊢
  clear c0 c1 c2 c3 g0 g1
  obtain ⟨c0, c1⟩ := HF3.out.at
  go_wp2
  refine bodyPost_ret (v := .tuple #[.string ⟨#[]⟩, .agg #[.int .i64 (e : Int), .int .i64 pl]]) (by simp [results, Tryz.results6, go_sem, c0, c1]) rfl ?_
  exact ⟨rfl, HW3.out⟩
end Go.Proofs.YtkafhlpnhgipeaaGreatDoor
/-
  What the maps of keys read as: texts and their numbers; texts that are there; numbers that were told of.
-/
namespace Go.Proofs.YtkafhlpnhgipeaaGreatDoor
open Go.Maps

def keyL (s : ByteArray) : Lit := .string s.data.toList
theorem keyL_inj {a b : ByteArray} (h : keyL a = keyL b) : a = b := by
  unfold keyL at h
  cases a; cases b
  simpa using h
theorem keyL_key (s : ByteArray) : WideAt.IsKeyLit (keyL s) := trivial
theorem keyN (k : Int) : WideAt.IsKeyLit (.int .i64 k) := trivial

/-- D reads as: of each text of t, no two the same, where it stands. -/
structure NumM (D : DataW Unit) (t : List ByteArray) : Prop where
  isMap : IsMap D
  nodup : t.Nodup
  there : ∀ s, s ∈ t → has D (keyL s) = true
  none : ∀ s, s ∉ t → has D (keyL s) = false
  at' : ∀ s (j : Nat), t[j]? = some s → D.atKey (keyL s) (.lit (.int .i64 0)) = .lit (.int .i64 j)

theorem numM_nil : NumM (.map []) [] := ⟨isMap_empty, List.nodup_nil, fun _ h => (by cases h), fun _ _ => rfl, fun _ _ h => (by simp at h)⟩
theorem NumM.put {D : DataW Unit} {t : List ByteArray} (h : NumM D t) {s : ByteArray} (hs : s ∉ t) : NumM (D.put (keyL s) (.lit (.int .i64 t.length))) (t ++ [s]) := by
  refine ⟨h.isMap.put _ _, ?_, ?_, ?_, ?_⟩
  · rw [List.nodup_append]
    exact ⟨h.nodup, by simp, fun a ha b hb => by simp at hb; subst hb; rintro rfl; exact hs ha⟩
  · intro x hx
    rcases List.mem_append.1 hx with hx | hx
    · rw [has_put_other (fun e => hs (by rw [← keyL_inj e]; exact hx))]; exact h.there x hx
    · simp at hx; subst hx; exact has_put_same h.isMap (keyL_key _) _
  · intro x hx
    have h1 : x ∉ t := fun h => hx (List.mem_append_left _ h)
    have h2 : x ≠ s := fun e => hx (by rw [e]; simp)
    rw [has_put_other (fun e => h2 (keyL_inj e))]; exact h.none x h1
  · intro x j hj
    by_cases hlt : j < t.length
    · rw [List.getElem?_append_left hlt] at hj
      have hx : x ∈ t := List.mem_of_getElem? hj
      rw [atKey_put_other (fun e => hs (by rw [← keyL_inj e]; exact hx))]; exact h.at' x j hj
    · rw [List.getElem?_append_right (by omega)] at hj
      have hj0 : j - t.length = 0 := by have := (List.getElem?_eq_some_iff.1 hj).1; simpa using this
      rw [hj0] at hj
      simp at hj
      subst hj
      rw [atKey_put_same h.isMap (keyL_key _)]
      rw [show j = t.length by omega]

/-- D reads as: these texts are there. -/
structure SetM (D : DataW Unit) (t : List ByteArray) : Prop where
  isMap : IsMap D
  there : ∀ s, s ∈ t → D.atKey (keyL s) (.lit (.bool false)) = .lit (.bool true)
  none : ∀ s, s ∉ t → D.atKey (keyL s) (.lit (.bool false)) = .lit (.bool false)
theorem setM_nil : SetM (.map []) [] := ⟨isMap_empty, fun _ h => (by cases h), fun _ _ => rfl⟩
theorem SetM.put {D : DataW Unit} {t : List ByteArray} (h : SetM D t) (s : ByteArray) : SetM (D.put (keyL s) (.lit (.bool true))) (t ++ [s]) := by
  refine ⟨h.isMap.put _ _, ?_, ?_⟩
  · intro x hx
    by_cases e : x = s
    · subst e; rw [atKey_put_same h.isMap (keyL_key _)]
    · rw [atKey_put_other (fun h => e (keyL_inj h))]
      rcases List.mem_append.1 hx with hx | hx
      · exact h.there x hx
      · simp at hx; exact absurd hx e
  · intro x hx
    have h1 : x ∉ t := fun h => hx (List.mem_append_left _ h)
    have h2 : x ≠ s := fun e => hx (by rw [e]; simp)
    rw [atKey_put_other (fun e => h2 (keyL_inj e))]; exact h.none x h1

/-- D reads as: just the numbers below m are there. -/
structure ToldM (D : DataW Unit) (m : Nat) : Prop where
  tidy : Tidy D
  size : Maps.size D = m
  below : ∀ j : Nat, has D (.int .i64 j) = decide (j < m)
theorem toldM_nil : ToldM (.map []) 0 := ⟨tidy_empty, rfl, fun _ => rfl⟩
theorem ToldM.old {D : DataW Unit} {m j : Nat} (h : ToldM D m) (hj : j < m) : ToldM (D.put (.int .i64 j) (.lit (.bool true))) m := by
  refine ⟨h.tidy.put (keyN _) _, ?_, ?_⟩
  · rw [size_put h.tidy, h.below j, if_pos (by simpa using hj), h.size]
  · intro i
    by_cases e : i = j
    · subst e; rw [has_put_same h.tidy.isMap (keyN _)]; simp [hj]
    · rw [has_put_other (by simp; omega)]; exact h.below i
theorem ToldM.new {D : DataW Unit} {m : Nat} (h : ToldM D m) : ToldM (D.put (.int .i64 m) (.lit (.bool true))) (m + 1) := by
  refine ⟨h.tidy.put (keyN _) _, ?_, ?_⟩
  · rw [size_put h.tidy, h.below m, if_neg (by simp), h.size]
  · intro i
    by_cases e : i = m
    · subst e; rw [has_put_same h.tidy.isMap (keyN _)]; simp
    · rw [has_put_other (by simp; omega), h.below i]
      by_cases h1 : i < m
      · simp [h1]; omega
      · simp [h1]; omega

/-! a look-up of a bool, of a text -/
theorem plainElem_bool_inv {H : Type} {P : Program} {e : TypeId} (he : P.underlying e = some .bool) {v : Value} {z : DataW H × List MemPlace} (h : plainElem P e v = some z) : ∃ x, v = .bool x ∧ z = (.lit (.bool x), []) := by
  unfold plainElem at h
  rw [he] at h
  cases v <;> simp at h
  exact ⟨_, rfl, h.symm⟩
theorem plainElem_str_inv {H : Type} {P : Program} {e : TypeId} (he : P.underlying e = some .string) {v : Value} {z : DataW H × List MemPlace} (h : plainElem P e v = some z) : ∃ s : ByteArray, v = .string s ∧ z = (.lit (.string s.data.toList), []) := by
  unfold plainElem at h
  rw [he] at h
  cases v <;> simp at h
  exact ⟨_, rfl, h.2.symm⟩
/-- 'm[k]', in words: the value that is read, where what it reads as is known. -/
theorem wpList_lookup_own_is {H : Type} {P : Program} (w : World) {ops : Array Oper} {rest : List Oper} {o : Oper} {a : Act} {Q : Exit → Act → World → Prop}
    (hg : o.guard = none) (m x : Operand) (t : TypeId) (hop : o.op = Op.lookup t m x false)
    (k e : TypeId) (K : Keyed P k) (ht : P.underlying t = some (.map k e)) (R : Value → Option (DataW H × List MemPlace)) {z : Value} (hz : (zeroValue e).run P w = .ok z w) (zd : DataW H) (zp : List MemPlace) (hzd : R z = some (zd, zp)) (b n : Nat) (D : DataW H)
    (hm : a.eval m = .map (some b)) (hown : w.ownsMap P k R b n D) (key : Value) (kl : Lit) (hx : a.eval x = key) (hkey : keyOf P k key = some kl) (val : Value) (hval : ∀ v ps, R v = some (D.atKey kl zd, ps) → v = val)
    (hK : wpList P ops Q rest (a.put o.dst val) w) :
    wpList P ops Q (o :: rest) a w := by
  refine wpList_plain hg fun K' hK' => ?_
  obtain ⟨v, ps, hrun, hv⟩ := hown.lookup K ht hz hzd hkey
  unfold Oper.wp
  simp [execOp, hop, hm, hx, hrun, Result.andThen]
  rw [hval v ps hv]
  exact hK' _ _ hK
end Go.Proofs.YtkafhlpnhgipeaaGreatDoor
/-
  Maps of keys that a call makes: texts and their numbers; texts that are there; numbers that were told of. For this seat's types.
-/
namespace Go.Proofs.YtkafhlpnhgipeaaGreatDoor
open Go.RowKit Go.Maps

theorem keyedS : Keyed Tryz.prog 9 := string_keyed Tryz.underlying9
theorem zeroI (w : World) : (zeroValue 3).run Tryz.prog w = .ok (.int .i64 0) w := by kernel_rfl
theorem keyS {s : ByteArray} (h : s.size ≤ maxLen) : keyOf Tryz.prog 9 (.string s) = some (keyL s) := Go.WideMaps.keyOf_string_mk Tryz.underlying9 h

/-- Block b is a map, of at most n entries, of each text of t where it stands. -/
def ownsNum (w : World) (b n : Nat) (t : List ByteArray) : Prop := ∃ D, NumM D t ∧ w.ownsMap Tryz.prog 9 (plainElem Tryz.prog 3) b n D
theorem ownsNum_made (w : World) : ownsNum (w.alloc (.map #[] 0)) w.heap.size 0 [] := ⟨_, numM_nil, World.ownsMap_made _ _ _ _⟩
theorem ownsNum.kept {w w' : World} {b n : Nat} {t : List ByteArray} {row : Option Nat} (h : ownsNum w b n t) (hg : w.grownBy w' row) (hne : some b ≠ row) : ownsNum w' b n t := by
  obtain ⟨D, h1, h2⟩ := h; exact ⟨D, h1, h2.kept hg hne⟩
theorem ownsNum.alloc {w : World} {b n : Nat} {t : List ByteArray} (h : ownsNum w b n t) (o : Obj) : ownsNum (w.alloc o) b n t := by
  obtain ⟨D, h1, h2⟩ := h; exact ⟨D, h1, h2.alloc o⟩
theorem ownsNum.drew {w : World} {b n : Nat} {t : List ByteArray} (h : ownsNum w b n t) : ownsNum w.drew b n t := by
  obtain ⟨D, h1, h2⟩ := h; exact ⟨D, h1, h2.drew⟩
theorem ownsNum.mono {w : World} {b n m : Nat} {t : List ByteArray} (h : ownsNum w b n t) (hm : n ≤ m) : ownsNum w b m t := by
  obtain ⟨D, h1, h2⟩ := h; exact ⟨D, h1, h2.mono hm⟩
theorem ownsNum.lt {w : World} {b n : Nat} {t : List ByteArray} (h : ownsNum w b n t) : b < w.heap.size := by
  obtain ⟨D, h1, h2⟩ := h; exact h2.lt
theorem ownsNum.below {w w' : World} {b n : Nat} {t : List ByteArray} (h : ownsNum w b n t) (hb : Below w.heap.size w w') : ownsNum w' b n t :=
  h.kept (row := none) ⟨hb.os, hb.tape, hb.output, hb.size, fun k hk _ => hb.block k hk⟩ (by simp)
theorem ownsNum.nodup {w : World} {b n : Nat} {t : List ByteArray} (h : ownsNum w b n t) : t.Nodup := by
  obtain ⟨D, h1, h2⟩ := h; exact h1.nodup

section
variable {w : World} {ops : Array Oper} {rest : List Oper} {o : Oper} {a : Act} {Q : Exit → Act → World → Prop}
theorem wpList_num_there (hg : o.guard = none) (m x : Operand) (hop : o.op = Op.lookup 158 m x true) (b n : Nat) (t : List ByteArray)
    (hm : a.eval m = .map (some b)) (hown : ownsNum w b n t) (s : ByteArray) (hx : a.eval x = .string s) (hs : s.size ≤ maxLen) (j : Nat) (hj : t[j]? = some s)
    (hK : wpList Tryz.prog ops Q rest (a.put o.dst (.tuple #[.int .i64 j, .bool true])) w) : wpList Tryz.prog ops Q (o :: rest) a w := by
  obtain ⟨D, h1, h2⟩ := hown
  refine wpList_lookup_own_ok_int w hg m x _ hop 9 3 .i64 keyedS Tryz.underlying158 Tryz.underlying3 (zeroI w) b n D hm h2 _ _ hx (keyS hs) ?_
  intro c hc _
  rw [h1.at' s j hj] at hc
  obtain rfl : (j : Int) = c := by simpa using hc
  rw [h1.there s (List.mem_of_getElem? hj)]
  exact hK
theorem wpList_num_none (hg : o.guard = none) (m x : Operand) (hop : o.op = Op.lookup 158 m x true) (b n : Nat) (t : List ByteArray)
    (hm : a.eval m = .map (some b)) (hown : ownsNum w b n t) (s : ByteArray) (hx : a.eval x = .string s) (hs : s.size ≤ maxLen) (hj : s ∉ t)
    (hK : ∀ c, wpList Tryz.prog ops Q rest (a.put o.dst (.tuple #[.int .i64 c, .bool false])) w) : wpList Tryz.prog ops Q (o :: rest) a w := by
  obtain ⟨D, h1, h2⟩ := hown
  refine wpList_lookup_own_ok_int w hg m x _ hop 9 3 .i64 keyedS Tryz.underlying158 Tryz.underlying3 (zeroI w) b n D hm h2 _ _ hx (keyS hs) ?_
  intro c hc _
  rw [h1.none s hj]
  exact hK c
theorem wpList_num_put (hg : o.guard = none) (m x v : Operand) (hop : o.op = Op.mapUpdate 158 m x v) (b n : Nat) (t : List ByteArray)
    (hm : a.eval m = .map (some b)) (hown : ownsNum w b n t) (hn : n < maxLen) (s : ByteArray) (hx : a.eval x = .string s) (hv : a.eval v = .int .i64 (t.length : Nat)) (hs : s.size ≤ maxLen) (hj : s ∉ t) (ht : t.length ≤ maxLen)
    (hK : ∀ w', ownsNum w' b (n + 1) (t ++ [s]) → w.grownBy w' (some b) → wpList Tryz.prog ops Q rest (a.put o.dst undef) w') : wpList Tryz.prog ops Q (o :: rest) a w := by
  obtain ⟨D, h1, h2⟩ := hown
  refine wpList_mapUpdate_own w hg m x v _ hop 9 3 keyedS Tryz.underlying158 _ b n D hm h2 hn _ _ _ hx hv (keyS hs) (.lit (.int .i64 t.length)) [] (plainElem_int Tryz.underlying3 (WalkArith.wf_i64 (by unfold maxLen at ht; omega))) ?_
  intro w' h3 h4
  exact hK w' ⟨_, h1.put hj, h3⟩ h4
end

end Go.Proofs.YtkafhlpnhgipeaaGreatDoor
