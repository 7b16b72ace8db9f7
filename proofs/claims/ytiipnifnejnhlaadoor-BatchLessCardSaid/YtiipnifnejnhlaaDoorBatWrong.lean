/-
  The contracts of batch.wrong, batch.bounds, batch.Right.
-/
import Derived.Test.YtiipnifnejnhlaaDoorBatM
import Derived.Test.YtiipnifnejnhlaaDoorWrs
import Derived.Test.YtiipnifnejnhlaaDoorWriteRight
import Derived.Test.YtiipnifnejnhlaaDoorIdOrdered
import Derived.Test.YtiipnifnejnhlaaDoorVecCov
namespace Go.Proofs.YtiipnifnejnhlaaDoor
open Go.RowKit

theorem errV_ok : errV 0 = .nilIface := rfl
theorem errV_no {e : Nat} (h : e ≠ 0) : errV e = .iface 31 (.int .i64 e) := by unfold errV; rw [if_neg h]
/-- The three cells of a batch. -/
def batAt (w : World) (B : Nat) (vf vh vw : Value) : Prop :=
  w.cell? ⟨B, 0, none⟩ = some vf ∧ w.cell? ⟨B, 1, none⟩ = some vh ∧ w.cell? ⟨B, 2, none⟩ = some vw
theorem batAt.below {w w' : World} {B : Nat} {vf vh vw : Value} {m : Nat} (h : batAt w B vf vh vw) (hb : Below m w w') (hm : B < m) : batAt w' B vf vh vw :=
  ⟨(hb.cell hm).trans h.1, (hb.cell hm).trans h.2.1, (hb.cell hm).trans h.2.2⟩
theorem batAt_new (w : World) (vf vh vw : Value) (t : TypeId) : batAt (w.alloc (.cells #[vf, vh, vw] t)) w.heap.size vf vh vw := by
  unfold batAt; simp
theorem wright_as (x : Wr) (e : Nat) (w : World) (hk : x.key.size ≤ 140737488351232) (hv : x.value.size ≤ 140737488351232) (he : wE x = e) :
    Calls Tryd.prog 48 #[.agg #[.int .i64 x.time, .int .i64 x.rep, .int .i64 x.kind, .string x.key, .string x.value, .int .i64 x.n]] w fun r w' => r = .returned (errV e) ∧ Below w.heap.size w w' := by
  subst he; exact wright_any x.time x.rep x.kind x.key x.value x.n w hk hv

set_option maxRecDepth 100000 in
set_option maxHeartbeats 4000000 in
theorem bwrong_any (vf vh vw : Value) (f h : List Ent) (l : List Wr) (k : Nat) (x : Wr) (p : Option Wr) (e : Nat) (w : World) (hf : IsEnts w vf f) (hh : IsEnts w vh h) (hv : IsWrs w vw l) (hlf : f.length ≤ 9223372036854775807) (hlh : h.length ≤ 9223372036854775807) (hl : l.length ≤ 60)
    (hx : l[k]? = some x) (hp : (k = 0 ∧ p = none) ∨ ∃ j q, k = j + 1 ∧ l[j]? = some q ∧ p = some q) (hok : ∀ t ∈ l, WrOk t) (hg : errT w) (he : bwE f h p x = e) :
    Calls Tryd.prog 28 #[.agg #[vf, vh, vw], .int .i64 (k : Int)] w fun r w' => r = .returned (.int .i64 (e : Nat)) ∧ Below w.heap.size w w' := by
  have HF := Lib.hid hf
  have HH := Lib.hid hh
  have HG := Lib.hid hg
  have HLF := Lib.hid hlf
  have HLH := Lib.hid hlh
  obtain ⟨aw, cw, rfl, fw⟩ := hv.form
  have FW := Lib.hid fw
  obtain ⟨n, hn⟩ : ∃ n, n = l.length := ⟨_, rfl⟩
  rw [← hn] at hl ⊢
  have hkn : k < n := by rw [hn]; exact (List.getElem?_eq_some_iff.1 hx).1
  obtain ⟨b1, o1, rfl, hb1, p0, p1, p2, p3, p4, p5⟩ := fw k x hx
  have HOK := Lib.hid (hok x (List.mem_of_getElem? hx))
  obtain ⟨ew, hew⟩ : ∃ ew, wE x = ew := ⟨_, rfl⟩
  have HEW := Lib.hid hew
  have HE := Lib.hid he
  have HP := Lib.hid hp
  clear hf hh hg hlf hlh hv fw hn hx hp hok he hew
  go_enter Tryd.func28, Tryd.ntmps28
  go_wp2_with fail
  refine (wright_as x ew _ HOK.out.2.2.1 HOK.out.2.2.2 HEW.out).mono ?_
  rintro r w1 ⟨rfl, hb2⟩
  have hz1 : w.heap.size + 1 < w1.heap.size := by have := hb2.size; simp at this; omega
  have HZ1 := Lib.hid hz1
  have HBA1 : Hid (batAt w1 w.heap.size vf vh (.slice (some ⟨b1, o1, none⟩) n cw)) := Lib.hid (((batAt_new w vf vh (.slice (some ⟨b1, o1, none⟩) n cw) 25).below ((Below.refl _ _).alloc (Nat.le_refl _) _) (by simp)).below hb2 (by simp; omega))
  have HWA1 : Hid (wrAt w1 (w.heap.size + 1) x.time x.rep x.kind x.key x.value x.n) := Lib.hid ((by simpa using wrAt_new (w.alloc (.cells #[vf, vh, .slice (some ⟨b1, o1, none⟩) n cw] 25)) x.time x.rep x.kind x.key x.value x.n 41 : wrAt _ (w.heap.size + 1) x.time x.rep x.kind x.key x.value x.n).below hb2 (by simp))
  have HB1 : Hid (Below w.heap.size w w1) := Lib.hid ((((Below.refl _ _).alloc (Nat.le_refl _) _).alloc (by simp) _).trans (hb2.mono (by simp; omega)))
  clear hb2 p0 p1 p2 p3 p4 p5 hz1
  by_cases h0 : ew = 0
  · subst h0
    rw [errV_ok]
    have hla : lateO p x ∨ ¬ lateO p x := Classical.em _
    rcases HP.out with ⟨hk0, hp0⟩ | ⟨j, q, hkj, hq, hpq⟩
    · subst hk0 hp0
      obtain ⟨b, hb⟩ : ∃ b, wiF (x.time, x.rep) f h = b := ⟨_, rfl⟩
      have HWI := Lib.hid hb
      have HR : Hid (e = if b = true then 0 else 6) := Lib.hid (by
        rw [← HE.out]
        cases b with
        | true => rw [bwE_fine (p := none) HEW.out trivial hb]; rfl
        | false => rw [bwE_state (p := none) HEW.out trivial hb]; rfl)
      clear hb hla
      obtain ⟨c0, c1, c2, c3, c4, c5⟩ := HWA1.out
      obtain ⟨d0, d1, d2⟩ := HBA1.out
      go_wp2
      go_quiet (fail)
      go_wp2_with fail
      refine (within_as x.time x.rep vf vh f h b _ (HF.out.below (below_drewN HB1.out _)) (HH.out.below (below_drewN HB1.out _)) HLF.out HLH.out HWI.out).mono ?_
      rintro r w2 ⟨rfl, hb2⟩
      have HB2 : Hid (Below w.heap.size w w2) := (below_drewN HB1.out _).trans (hb2.mono HB1.out.size)
      clear hb2 c0 c1 c2 c3 c4 c5 d0 d1 d2
      cases b with
      | true =>
        go_wp2
        go_ret
        exact ⟨by rw [HR.out]; rfl, HB2.out⟩
      | false =>
        go_wp2
        go_ret
        exact ⟨by rw [HR.out]; rfl, HB2.out⟩
    · obtain ⟨b2, o2, hbo, _, q0, q1, _⟩ := FW.out j q hq
      simp only [Option.some.injEq, Addr.mk.injEq, and_true] at hbo
      obtain ⟨rfl, rfl⟩ := hbo
      have r0 := (HB1.out.cell (p := ⟨b1, o1 + j * 6, none⟩) hb1).trans q0
      have r1 := (HB1.out.cell (p := ⟨b1, o1 + j * 6 + 1, none⟩) hb1).trans q1
      have HK := Lib.hid hkj
      have hj1 : (k : Int) - 1 = (j : Int) := by omega
      have hj2 : IntKind.i64.wrap ((k : Int) - 1) = (j : Int) := by rw [hj1]; exact IntWalk.i64_in _ (by omega)
      have hj3 : IntKind.i64.wrap (j : Int) = (j : Int) := IntWalk.i64_in _ (by omega)
      have hk0 : (0 : Int) < (k : Int) := by omega
      have z1 : 0 < k := by omega
      have z2 : decide (0 < k) = true := by simp; omega
      have z3 : decide ((0 : Int) < (k : Int)) = true := by simp; omega
      have hjn : (j : Int) < (n : Int) := by omega
      have hjn' : j < n := by omega
      have hj0 : (0 : Int) ≤ (j : Int) := by omega
      obtain ⟨c, hc⟩ : ∃ c, cI (x.time, x.rep) (q.time, q.rep) = c := ⟨_, rfl⟩
      have HC := Lib.hid hc
      have hc3 : c = -1 ∨ c = 0 ∨ c = 1 := by rw [← hc]; exact cI_three _ _ _ _
      obtain ⟨c0, c1, c2, c3, c4, c5⟩ := HWA1.out
      obtain ⟨d0, d1, d2⟩ := HBA1.out
      subst hpq
      clear q0 q1 hq hkj hc hla
      have hb1' : b1 < w1.heap.size := Nat.lt_of_lt_of_le hb1 HB1.out.size
      have k1 : w1.cell? ⟨w.heap.size + 1, 0, none⟩ = some (.int .i64 x.time) ∧ w1.cell? ⟨w.heap.size + 1, 1, none⟩ = some (.int .i64 x.rep) ∧ w1.cell? ⟨w.heap.size, 2, none⟩ = some (.slice (some ⟨b1, o1, none⟩) n cw) ∧ w1.cell? ⟨b1, o1 + j * 6, none⟩ = some (.int .i64 q.time) ∧ w1.cell? ⟨b1, o1 + j * 6 + 1, none⟩ = some (.int .i64 q.rep) := ⟨c0, c1, d2, r0, r1⟩
      by_cases hcl : c = 1
      · subst hcl
        obtain ⟨b, hb⟩ : ∃ b, wiF (x.time, x.rep) f h = b := ⟨_, rfl⟩
        have HWI := Lib.hid hb
        have HR : Hid (e = if b = true then 0 else 6) := Lib.hid (by
          rw [← HE.out]
          cases b with
          | true => rw [bwE_fine (p := some q) HEW.out HC.out hb]; rfl
          | false => rw [bwE_state (p := some q) HEW.out HC.out hb]; rfl)
        clear hb hc3
        go_wp2
        go_region_held3 (fun w' => w'.cell? ⟨w.heap.size + 1, 0, none⟩ = some (.int .i64 x.time) ∧ w'.cell? ⟨w.heap.size + 1, 1, none⟩ = some (.int .i64 x.rep) ∧ w'.cell? ⟨w.heap.size, 2, none⟩ = some (.slice (some ⟨b1, o1, none⟩) n cw) ∧ w'.cell? ⟨b1, o1 + j * 6, none⟩ = some (.int .i64 q.time) ∧ w'.cell? ⟨b1, o1 + j * 6 + 1, none⟩ = some (.int .i64 q.rep)) (first | exact k1 | exact k2 | fail) (first | (go_at_call 47; ((with_reducible refine (idcmp_as x.time x.rep q.time q.rep 1 _ HC.out).mono ?_); rintro r w2 ⟨rfl, hb2⟩; have HB2 : Hid (Below w1.heap.size w1 w2) := Lib.hid (undrew3 hb2); have k2 : w2.cell? ⟨w.heap.size + 1, 0, none⟩ = some (.int .i64 x.time) ∧ w2.cell? ⟨w.heap.size + 1, 1, none⟩ = some (.int .i64 x.rep) ∧ w2.cell? ⟨w.heap.size, 2, none⟩ = some (.slice (some ⟨b1, o1, none⟩) n cw) ∧ w2.cell? ⟨b1, o1 + j * 6, none⟩ = some (.int .i64 q.time) ∧ w2.cell? ⟨b1, o1 + j * 6 + 1, none⟩ = some (.int .i64 q.rep) := ⟨(HB2.out.cell HZ1.out).trans c0, (HB2.out.cell HZ1.out).trans c1, (HB2.out.cell (Nat.lt_of_succ_lt HZ1.out)).trans d2, (HB2.out.cell hb1').trans r0, (HB2.out.cell hb1').trans r1⟩; clear hb2)) | fail)
        obtain ⟨e0, e1, e2, e3, e4⟩ := k2
        have g0 := (HB2.out.cell (p := ⟨w.heap.size, 0, none⟩) (Nat.lt_of_succ_lt HZ1.out)).trans d0
        have g1 := (HB2.out.cell (p := ⟨w.heap.size, 1, none⟩) (Nat.lt_of_succ_lt HZ1.out)).trans d1
        go_wp2_with fail
        have HB3 : Hid (Below w.heap.size w w2) := HB1.out.trans (HB2.out.mono HB1.out.size)
        refine (within_as x.time x.rep vf vh f h b _ (HF.out.below HB3.out) (HH.out.below HB3.out) HLF.out HLH.out HWI.out).mono ?_
        rintro r w3 ⟨rfl, hb3⟩
        have HB4 : Hid (Below w.heap.size w w3) := HB3.out.trans (hb3.mono HB3.out.size)
        clear hb3 k1 e0 e1 e2 e3 e4 g0 g1 c0 c1 c2 c3 c4 c5 d0 d1 d2
        cases b with
        | true =>
          go_wp2
          go_ret
          exact ⟨by rw [HR.out]; rfl, HB4.out⟩
        | false =>
          go_wp2
          go_ret
          exact ⟨by rw [HR.out]; rfl, HB4.out⟩
      · have HR : Hid (e = 10) := Lib.hid (by rw [← HE.out, bwE_order (p := some q) HEW.out (fun hl => hcl (HC.out.symm.trans hl))])
        have y1 : c ≤ 0 := by omega
        have y2 : decide (c ≤ 0) = true := by simp; omega
        clear hc3 hcl
        go_wp2
        go_region_held3 (fun w' => w'.cell? ⟨w.heap.size + 1, 0, none⟩ = some (.int .i64 x.time) ∧ w'.cell? ⟨w.heap.size + 1, 1, none⟩ = some (.int .i64 x.rep) ∧ w'.cell? ⟨w.heap.size, 2, none⟩ = some (.slice (some ⟨b1, o1, none⟩) n cw) ∧ w'.cell? ⟨b1, o1 + j * 6, none⟩ = some (.int .i64 q.time) ∧ w'.cell? ⟨b1, o1 + j * 6 + 1, none⟩ = some (.int .i64 q.rep)) (first | exact k1 | exact k2 | fail) (first | (go_at_call 47; ((with_reducible refine (idcmp_as x.time x.rep q.time q.rep c _ HC.out).mono ?_); rintro r w2 ⟨rfl, hb2⟩; have HB2 : Hid (Below w1.heap.size w1 w2) := Lib.hid (undrew3 hb2); have k2 : w2.cell? ⟨w.heap.size + 1, 0, none⟩ = some (.int .i64 x.time) ∧ w2.cell? ⟨w.heap.size + 1, 1, none⟩ = some (.int .i64 x.rep) ∧ w2.cell? ⟨w.heap.size, 2, none⟩ = some (.slice (some ⟨b1, o1, none⟩) n cw) ∧ w2.cell? ⟨b1, o1 + j * 6, none⟩ = some (.int .i64 q.time) ∧ w2.cell? ⟨b1, o1 + j * 6 + 1, none⟩ = some (.int .i64 q.rep) := ⟨(HB2.out.cell HZ1.out).trans c0, (HB2.out.cell HZ1.out).trans c1, (HB2.out.cell (Nat.lt_of_succ_lt HZ1.out)).trans d2, (HB2.out.cell hb1').trans r0, (HB2.out.cell hb1').trans r1⟩; clear hb2)) | fail)
        go_wp2
        go_ret
        exact ⟨by rw [HR.out]; rfl, HB1.out.trans (HB2.out.mono HB1.out.size)⟩
  · have HR : Hid (e = ew) := Lib.hid (by rw [← HE.out, bwE_w HEW.out h0])
    rw [errV_no h0]
    go_wp2_with fail
    refine (tell_err _ (ew : Int) _ (HG.out.below HB1.out) (.inl rfl)).mono ?_
    rintro r w2 ⟨rfl, hb2⟩
    have HB2 : Hid (Below w.heap.size w w2) := HB1.out.trans (hb2.mono HB1.out.size)
    clear hb2
    go_wp2
    go_ret
    exact ⟨by rw [HR.out]; rfl, HB2.out⟩
end Go.Proofs.YtiipnifnejnhlaaDoor
