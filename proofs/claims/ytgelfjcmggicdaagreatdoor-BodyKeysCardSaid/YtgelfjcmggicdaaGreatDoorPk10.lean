import Derived.Test.YtgelfjcmggicdaaGreatDoorPk04
import Derived.Test.YtgelfjcmggicdaaGreatDoorPk08
import Derived.Test.YtgelfjcmggicdaaGreatDoorPk06
import Derived.Test.YtgelfjcmggicdaaGreatDoorPk09
import Derived.Lib.Hide
import Derived.Outline
import Derived.Maps.OwnSet
import Derived.Maps.OwnOps
import Derived.WalkKit
import Derived.Test.YtgelfjcmggicdaaGreatDoorProg
import Derived.KernelRfl
import Derived.StringKeys
import Derived.Test.YtgelfjcmggicdaaGreatDoorPk05
import Derived.Test.YtgelfjcmggicdaaGreatDoorPk01
import Derived.WalkSmall
/-
  The contracts of batch.wrong, batch.bounds, batch.Right.
-/
namespace Go.Proofs.YtgelfjcmggicdaaGreatDoor
open Go.RowKit

theorem errV_ok : errV 0 = .nilIface := rfl
theorem errV_no {e : Nat} (h : e ≠ 0) : errV e = .iface 27 (.int .i64 e) := by unfold errV; rw [if_neg h]
/-- The three cells of a batch. -/
def batAt (w : World) (B : Nat) (vf vh vw : Value) : Prop :=
  w.cell? ⟨B, 0, none⟩ = some vf ∧ w.cell? ⟨B, 1, none⟩ = some vh ∧ w.cell? ⟨B, 2, none⟩ = some vw
theorem batAt.below {w w' : World} {B : Nat} {vf vh vw : Value} {m : Nat} (h : batAt w B vf vh vw) (hb : Below m w w') (hm : B < m) : batAt w' B vf vh vw :=
  ⟨(hb.cell hm).trans h.1, (hb.cell hm).trans h.2.1, (hb.cell hm).trans h.2.2⟩
theorem batAt_new (w : World) (vf vh vw : Value) (t : TypeId) : batAt (w.alloc (.cells #[vf, vh, vw] t)) w.heap.size vf vh vw := by
  unfold batAt; simp
theorem wright_as (x : Wr) (e : Nat) (w : World) (hk : x.key.size ≤ 140737488351232) (hv : x.value.size ≤ 140737488351232) (he : wE x = e) :
    Calls Tryz.prog 110 #[.agg #[.int .i64 x.time, .int .i64 x.rep, .int .i64 x.kind, .string x.key, .string x.value, .int .i64 x.n]] w fun r w' => r = .returned (errV e) ∧ Below w.heap.size w w' := by
  subst he; exact wright_any x.time x.rep x.kind x.key x.value x.n w hk hv

set_option maxRecDepth 100000 in
set_option maxHeartbeats 4000000 in
theorem bwrong_any (vf vh vw : Value) (f h : List Ent) (l : List Wr) (k : Nat) (x : Wr) (p : Option Wr) (e : Nat) (w : World) (hf : IsEnts w vf f) (hh : IsEnts w vh h) (hv : IsWrs w vw l) (hlf : f.length ≤ 9223372036854775807) (hlh : h.length ≤ 9223372036854775807) (hl : l.length ≤ 60)
    (hx : l[k]? = some x) (hp : (k = 0 ∧ p = none) ∨ ∃ j q, k = j + 1 ∧ l[j]? = some q ∧ p = some q) (hok : ∀ t ∈ l, WrOk t) (hg : errT w) (he : bwE f h p x = e) :
    Calls Tryz.prog 61 #[.agg #[vf, vh, vw], .int .i64 (k : Int)] w fun r w' => r = .returned (.int .i64 (e : Nat)) ∧ Below w.heap.size w w' := by
  have HF := Lib.hid hf
  have HH := Lib.hid hh
  have HG := Lib.hid hg
  have HLF := Lib.hid hlf
  have HLH := Lib.hid hlh
  obtain ⟨aw, cw, rfl, fw⟩ := hv.form
  have FW := Lib.hid fw
  obtain ⟨n, hn⟩ : ∃ n, n = l.length := ⟨_, rfl⟩
  rw [← hn] at hl ⊢
  have hkn : k < n := by rw [hn]; exact (List.getElem?_eq_some_iff.1 hx).1
  obtain ⟨b1, o1, rfl, hb1, p0, p1, p2, p3, p4, p5⟩ := fw k x hx
  have HOK := Lib.hid (hok x (List.mem_of_getElem? hx))
  obtain ⟨ew, hew⟩ : ∃ ew, wE x = ew := ⟨_, rfl⟩
  have HEW := Lib.hid hew
  have HE := Lib.hid he
  have HP := Lib.hid hp
  clear hf hh hg hlf hlh hv fw hn hx hp hok he hew
  go_enter Tryz.func61, Tryz.ntmps61
  go_wp2_with fail
  refine (wright_as x ew _ HOK.out.2.2.1 HOK.out.2.2.2 HEW.out).mono ?_
  rintro r w1 ⟨rfl, hb2⟩
  have hz1 : w.heap.size + 1 < w1.heap.size := by have := hb2.size; simp at this; omega
  have HZ1 := Lib.hid hz1
  have HBA1 : Hid (batAt w1 w.heap.size vf vh (.slice (some ⟨b1, o1, none⟩) n cw)) := Lib.hid (((batAt_new w vf vh (.slice (some ⟨b1, o1, none⟩) n cw) 25).below ((Below.refl _ _).alloc (Nat.le_refl _) _) (by simp)).below hb2 (by simp; omega))
  have HWA1 : Hid (wrAt w1 (w.heap.size + 1) x.time x.rep x.kind x.key x.value x.n) := Lib.hid ((by simpa using wrAt_new (w.alloc (.cells #[vf, vh, .slice (some ⟨b1, o1, none⟩) n cw] 25)) x.time x.rep x.kind x.key x.value x.n 52 : wrAt _ (w.heap.size + 1) x.time x.rep x.kind x.key x.value x.n).below hb2 (by simp))
  have HB1 : Hid (Below w.heap.size w w1) := Lib.hid ((((Below.refl _ _).alloc (Nat.le_refl _) _).alloc (by simp) _).trans (hb2.mono (by simp; omega)))
  clear hb2 p0 p1 p2 p3 p4 p5 hz1
  by_cases h0 : ew = 0
  · subst h0
    rw [errV_ok]
    have hla : lateO p x ∨ ¬ lateO p x := Classical.em _
    rcases HP.out with ⟨hk0, hp0⟩ | ⟨j, q, hkj, hq, hpq⟩
    · subst hk0 hp0
      obtain ⟨b, hb⟩ : ∃ b, wiF (x.time, x.rep) f h = b := ⟨_, rfl⟩
      have HWI := Lib.hid hb
      have HR : Hid (e = if b = true then 0 else 6) := Lib.hid (by
        rw [← HE.out]
        cases b with
        | true => rw [bwE_fine (p := none) HEW.out trivial hb]; rfl
        | false => rw [bwE_state (p := none) HEW.out trivial hb]; rfl)
      clear hb hla
      obtain ⟨c0, c1, c2, c3, c4, c5⟩ := HWA1.out
      obtain ⟨d0, d1, d2⟩ := HBA1.out
      go_wp2
      go_quiet (fail)
      go_wp2_with fail
      refine (within_as x.time x.rep vf vh f h b _ (HF.out.below (below_drewN HB1.out _)) (HH.out.below (below_drewN HB1.out _)) HLF.out HLH.out HWI.out).mono ?_
      rintro r w2 ⟨rfl, hb2⟩
      have HB2 : Hid (Below w.heap.size w w2) := (below_drewN HB1.out _).trans (hb2.mono HB1.out.size)
      clear hb2 c0 c1 c2 c3 c4 c5 d0 d1 d2
      cases b with
      | true =>
        go_wp2
        go_ret
        exact ⟨by rw [HR.out]; rfl, HB2.out⟩
      | false =>
        go_wp2
        go_ret
        exact ⟨by rw [HR.out]; rfl, HB2.out⟩
    · obtain ⟨b2, o2, hbo, _, q0, q1, _⟩ := FW.out j q hq
      simp only [Option.some.injEq, Addr.mk.injEq, and_true] at hbo
      obtain ⟨rfl, rfl⟩ := hbo
      have r0 := (HB1.out.cell (p := ⟨b1, o1 + j * 6, none⟩) hb1).trans q0
      have r1 := (HB1.out.cell (p := ⟨b1, o1 + j * 6 + 1, none⟩) hb1).trans q1
      have HK := Lib.hid hkj
      have hj1 : (k : Int) - 1 = (j : Int) := by omega
      have hj2 : IntKind.i64.wrap ((k : Int) - 1) = (j : Int) := by rw [hj1]; exact IntWalk.i64_in _ (by omega)
      have hj3 : IntKind.i64.wrap (j : Int) = (j : Int) := IntWalk.i64_in _ (by omega)
      have hk0 : (0 : Int) < (k : Int) := by omega
      have z1 : 0 < k := by omega
      have z2 : decide (0 < k) = true := by simp; omega
      have z3 : decide ((0 : Int) < (k : Int)) = true := by simp; omega
      have hjn : (j : Int) < (n : Int) := by omega
      have hjn' : j < n := by omega
      have hj0 : (0 : Int) ≤ (j : Int) := by omega
      obtain ⟨c, hc⟩ : ∃ c, cI (x.time, x.rep) (q.time, q.rep) = c := ⟨_, rfl⟩
      have HC := Lib.hid hc
      have hc3 : c = -1 ∨ c = 0 ∨ c = 1 := by rw [← hc]; exact cI_three _ _ _ _
      obtain ⟨c0, c1, c2, c3, c4, c5⟩ := HWA1.out
      obtain ⟨d0, d1, d2⟩ := HBA1.out
      subst hpq
      clear q0 q1 hq hkj hc hla
      have hb1' : b1 < w1.heap.size := Nat.lt_of_lt_of_le hb1 HB1.out.size
      have k1 : w1.cell? ⟨w.heap.size + 1, 0, none⟩ = some (.int .i64 x.time) ∧ w1.cell? ⟨w.heap.size + 1, 1, none⟩ = some (.int .i64 x.rep) ∧ w1.cell? ⟨w.heap.size, 2, none⟩ = some (.slice (some ⟨b1, o1, none⟩) n cw) ∧ w1.cell? ⟨b1, o1 + j * 6, none⟩ = some (.int .i64 q.time) ∧ w1.cell? ⟨b1, o1 + j * 6 + 1, none⟩ = some (.int .i64 q.rep) := ⟨c0, c1, d2, r0, r1⟩
      by_cases hcl : c = 1
      · subst hcl
        obtain ⟨b, hb⟩ : ∃ b, wiF (x.time, x.rep) f h = b := ⟨_, rfl⟩
        have HWI := Lib.hid hb
        have HR : Hid (e = if b = true then 0 else 6) := Lib.hid (by
          rw [← HE.out]
          cases b with
          | true => rw [bwE_fine (p := some q) HEW.out HC.out hb]; rfl
          | false => rw [bwE_state (p := some q) HEW.out HC.out hb]; rfl)
        clear hb hc3
        go_wp2
        go_region_held3 (fun w' => w'.cell? ⟨w.heap.size + 1, 0, none⟩ = some (.int .i64 x.time) ∧ w'.cell? ⟨w.heap.size + 1, 1, none⟩ = some (.int .i64 x.rep) ∧ w'.cell? ⟨w.heap.size, 2, none⟩ = some (.slice (some ⟨b1, o1, none⟩) n cw) ∧ w'.cell? ⟨b1, o1 + j * 6, none⟩ = some (.int .i64 q.time) ∧ w'.cell? ⟨b1, o1 + j * 6 + 1, none⟩ = some (.int .i64 q.rep)) (first | exact k1 | exact k2 | fail) (first | (go_at_call 111; ((with_reducible refine (idcmp_as x.time x.rep q.time q.rep 1 _ HC.out).mono ?_); rintro r w2 ⟨rfl, hb2⟩; have HB2 : Hid (Below w1.heap.size w1 w2) := Lib.hid (undrew3 hb2); have k2 : w2.cell? ⟨w.heap.size + 1, 0, none⟩ = some (.int .i64 x.time) ∧ w2.cell? ⟨w.heap.size + 1, 1, none⟩ = some (.int .i64 x.rep) ∧ w2.cell? ⟨w.heap.size, 2, none⟩ = some (.slice (some ⟨b1, o1, none⟩) n cw) ∧ w2.cell? ⟨b1, o1 + j * 6, none⟩ = some (.int .i64 q.time) ∧ w2.cell? ⟨b1, o1 + j * 6 + 1, none⟩ = some (.int .i64 q.rep) := ⟨(HB2.out.cell HZ1.out).trans c0, (HB2.out.cell HZ1.out).trans c1, (HB2.out.cell (Nat.lt_of_succ_lt HZ1.out)).trans d2, (HB2.out.cell hb1').trans r0, (HB2.out.cell hb1').trans r1⟩; clear hb2)) | fail)
        obtain ⟨e0, e1, e2, e3, e4⟩ := k2
        have g0 := (HB2.out.cell (p := ⟨w.heap.size, 0, none⟩) (Nat.lt_of_succ_lt HZ1.out)).trans d0
        have g1 := (HB2.out.cell (p := ⟨w.heap.size, 1, none⟩) (Nat.lt_of_succ_lt HZ1.out)).trans d1
        go_wp2_with fail
        have HB3 : Hid (Below w.heap.size w w2) := HB1.out.trans (HB2.out.mono HB1.out.size)
        refine (within_as x.time x.rep vf vh f h b _ (HF.out.below HB3.out) (HH.out.below HB3.out) HLF.out HLH.out HWI.out).mono ?_
        rintro r w3 ⟨rfl, hb3⟩
        have HB4 : Hid (Below w.heap.size w w3) := HB3.out.trans (hb3.mono HB3.out.size)
        clear hb3 k1 e0 e1 e2 e3 e4 g0 g1 c0 c1 c2 c3 c4 c5 d0 d1 d2
        cases b with
        | true =>
          go_wp2
          go_ret
          exact ⟨by rw [HR.out]; rfl, HB4.out⟩
        | false =>
          go_wp2
          go_ret
          exact ⟨by rw [HR.out]; rfl, HB4.out⟩
      · have HR : Hid (e = 10) := Lib.hid (by rw [← HE.out, bwE_order (p := some q) HEW.out (fun hl => hcl (HC.out.symm.trans hl))])
        have y1 : c ≤ 0 := by omega
        have y2 : decide (c ≤ 0) = true := by simp; omega
        clear hc3 hcl
        go_wp2
        go_region_held3 (fun w' => w'.cell? ⟨w.heap.size + 1, 0, none⟩ = some (.int .i64 x.time) ∧ w'.cell? ⟨w.heap.size + 1, 1, none⟩ = some (.int .i64 x.rep) ∧ w'.cell? ⟨w.heap.size, 2, none⟩ = some (.slice (some ⟨b1, o1, none⟩) n cw) ∧ w'.cell? ⟨b1, o1 + j * 6, none⟩ = some (.int .i64 q.time) ∧ w'.cell? ⟨b1, o1 + j * 6 + 1, none⟩ = some (.int .i64 q.rep)) (first | exact k1 | exact k2 | fail) (first | (go_at_call 111; ((with_reducible refine (idcmp_as x.time x.rep q.time q.rep c _ HC.out).mono ?_); rintro r w2 ⟨rfl, hb2⟩; have HB2 : Hid (Below w1.heap.size w1 w2) := Lib.hid (undrew3 hb2); have k2 : w2.cell? ⟨w.heap.size + 1, 0, none⟩ = some (.int .i64 x.time) ∧ w2.cell? ⟨w.heap.size + 1, 1, none⟩ = some (.int .i64 x.rep) ∧ w2.cell? ⟨w.heap.size, 2, none⟩ = some (.slice (some ⟨b1, o1, none⟩) n cw) ∧ w2.cell? ⟨b1, o1 + j * 6, none⟩ = some (.int .i64 q.time) ∧ w2.cell? ⟨b1, o1 + j * 6 + 1, none⟩ = some (.int .i64 q.rep) := ⟨(HB2.out.cell HZ1.out).trans c0, (HB2.out.cell HZ1.out).trans c1, (HB2.out.cell (Nat.lt_of_succ_lt HZ1.out)).trans d2, (HB2.out.cell hb1').trans r0, (HB2.out.cell hb1').trans r1⟩; clear hb2)) | fail)
        go_wp2
        go_ret
        exact ⟨by rw [HR.out]; rfl, HB1.out.trans (HB2.out.mono HB1.out.size)⟩
  · have HR : Hid (e = ew) := Lib.hid (by rw [← HE.out, bwE_w HEW.out h0])
    rw [errV_no h0]
    go_wp2_with fail
    refine (tell_err _ (ew : Int) _ (HG.out.below HB1.out) (.inl rfl)).mono ?_
    rintro r w2 ⟨rfl, hb2⟩
    have HB2 : Hid (Below w.heap.size w w2) := HB1.out.trans (hb2.mono HB1.out.size)
    clear hb2
    go_wp2
    go_ret
    exact ⟨by rw [HR.out]; rfl, HB2.out⟩
end Go.Proofs.YtgelfjcmggicdaaGreatDoor
/-
  The contracts of batch.bounds and batch.Right.
-/
namespace Go.Proofs.YtgelfjcmggicdaaGreatDoor
open Go.RowKit

theorem idxB_0 (x y : Value) (w : World) : (Instr.index 168 (.agg #[x, y]) (.int .i64 0)).run Tryz.prog w = .ok x w := by kernel_rfl
theorem idxB_1 (x y : Value) (w : World) : (Instr.index 168 (.agg #[x, y]) (.int .i64 1)).run Tryz.prog w = .ok y w := by kernel_rfl
theorem bcov_as (va vb : Value) (a b : List Ent) (x : Bool) (w : World) (ha : IsEnts w va a) (hb : IsEnts w vb b) (hla : a.length ≤ 9223372036854775807) (hlb : b.length ≤ 9223372036854775807) (hx : covB a b = x) :
    Calls Tryz.prog 67 #[va, vb] w fun r w' => r = .returned (.bool x) ∧ Below w.heap.size w w' := by
  subst hx; exact vcov_any va vb a b w ha hb hla hlb

set_option maxRecDepth 100000 in
set_option maxHeartbeats 4000000 in
theorem bbounds_any (vf vh vw : Value) (f h : List Ent) (l : List Wr) (w : World) (hf : IsEnts w vf f) (hh : IsEnts w vh h) (hv : IsWrs w vw l) (hlf : f.length ≤ 9223372036854775807) (hlh : h.length ≤ 9223372036854775807) (hg : errT w) :
    Calls Tryz.prog 60 #[.agg #[vf, vh, vw]] w fun r w' => r = .returned (errV (bbE f h)) ∧ Below w.heap.size w w' := by
  have HF := Lib.hid hf
  have HH := Lib.hid hh
  have HG := Lib.hid hg
  have HLF := Lib.hid hlf
  have HLH := Lib.hid hlh
  obtain ⟨af, cf, rfl, _⟩ := hf.form
  obtain ⟨ah, ch, rfl, _⟩ := hh.form
  obtain ⟨aw, cw, rfl, _⟩ := hv.form
  obtain ⟨nf, hnf⟩ : ∃ n, n = f.length := ⟨_, rfl⟩
  obtain ⟨nh, hnh⟩ : ∃ n, n = h.length := ⟨_, rfl⟩
  obtain ⟨n, hn⟩ : ∃ n, n = l.length := ⟨_, rfl⟩
  rw [← hnf] at HF ⊢
  rw [← hnh] at HH ⊢
  rw [← hn]
  have HA := Lib.hid (batAt_new w (.slice af nf cf) (.slice ah nh ch) (.slice aw n cw) 25)
  have HW0 : Hid (Below w.heap.size w (w.alloc (.cells #[.slice af nf cf, .slice ah nh ch, .slice aw n cw] 25))) := Lib.hid ((Below.refl _ _).alloc (Nat.le_refl _) _)
  have HZ : Hid (w.heap.size < (w.alloc (.cells #[.slice af nf cf, .slice ah nh ch, .slice aw n cw] 25)).heap.size) := Lib.hid (by simp)
  have i0 := idxB_0
  have i1 := idxB_1
  clear hf hh hv hg hlf hlh hnf hnh hn
  go_enter Tryz.func60, Tryz.ntmps60
  go_wp2
  generalize w.alloc (.cells #[.slice af nf cf, .slice ah nh ch, .slice aw n cw] 25) = W at HA HW0 HZ ⊢
  have HE : Hid (∀ w', Below W.heap.size W w' → Below w.heap.size w w') := Lib.hid (fun w' hx => HW0.out.trans (hx.mono HW0.out.size))
  go_loopw [11] (fun i wr => ∃ k : Nat, k ≤ 2 ∧ i = .int .i64 k ∧ (k = 0 ∨ (k = 1 ∧ (vrightF f).1 = 0) ∨ (k = 2 ∧ (vrightF f).1 = 0 ∧ (vrightF h).1 = 0)) ∧ Below W.heap.size W wr) (fun i _ => 2 - (intOf i).toNat)
  case atStart => exact ⟨0, by omega, rfl, .inl rfl, Below.refl _ _⟩
  case round =>
    obtain ⟨k, hk, rfl, hj, hbel⟩ := hrel
    have HB := Lib.hid hbel
    clear hbel
    rcases hj with rfl | ⟨rfl, h1⟩ | ⟨rfl, h1, h2⟩
    · by_cases h1 : (vrightF f).1 = 0
      · have H1 := Lib.hid h1
        clear h1
        go_wp2_with fail
        refine (vright_any _ f _ (HF.out.below (HE.out _ HB.out)) HLF.out).mono ?_
        rintro r w1 ⟨err, rfl, hat, hb1⟩
        obtain rfl := hat.nil H1.out
        have HB1 : Hid (Below W.heap.size W w1) := HB.out.trans (hb1.mono HB.out.size)
        clear hat hb1
        go_wp2
        go_roundw
        case rel => exact ⟨1, by omega, by go_num, .inr (.inl ⟨rfl, H1.out⟩), HB1.out⟩
        case measure => simp [intOf]
      · have H1 := Lib.hid h1
        have HR : Hid (bbE f h = (vrightF f).1) := Lib.hid (by unfold bbE; rw [if_pos h1])
        have HQ := Lib.hid (errV_no h1)
        clear h1
        go_wp2_with fail
        refine (vright_any _ f _ (HF.out.below (HE.out _ HB.out)) HLF.out).mono ?_
        rintro r w1 ⟨err, rfl, hat, hb1⟩
        have HER := Lib.hid (hat.isErr H1.out)
        obtain ⟨t, u, rfl⟩ := hat.iface H1.out
        have HB1 : Hid (Below W.heap.size W w1) := HB.out.trans (hb1.mono HB.out.size)
        clear hat hb1
        go_wp2_with fail
        refine (tell_err _ _ _ (HG.out.below (HE.out _ HB1.out)) HER.out).mono ?_
        rintro r w2 ⟨rfl, hb2⟩
        have HB2 : Hid (Below W.heap.size W w2) := HB1.out.trans (hb2.mono HB1.out.size)
        clear hb2
        go_wp2
        go_ret
        exact ⟨by rw [HR.out, HQ.out]; rfl, HE.out _ HB2.out⟩
    · by_cases h2 : (vrightF h).1 = 0
      · have H2 := Lib.hid h2
        have H1 := Lib.hid h1
        clear h2 h1
        go_wp2_with fail
        refine (vright_any _ h _ (HH.out.below (HE.out _ HB.out)) HLH.out).mono ?_
        rintro r w1 ⟨err, rfl, hat, hb1⟩
        obtain rfl := hat.nil H2.out
        have HB1 : Hid (Below W.heap.size W w1) := HB.out.trans (hb1.mono HB.out.size)
        clear hat hb1
        go_wp2
        go_roundw
        case rel => exact ⟨2, by omega, by go_num, .inr (.inr ⟨rfl, H1.out, H2.out⟩), HB1.out⟩
        case measure => simp [intOf]
      · have H2 := Lib.hid h2
        have HR : Hid (bbE f h = (vrightF h).1) := Lib.hid (by unfold bbE; rw [if_neg (by simpa using h1), if_pos h2])
        have HQ := Lib.hid (errV_no h2)
        clear h2 h1
        go_wp2_with fail
        refine (vright_any _ h _ (HH.out.below (HE.out _ HB.out)) HLH.out).mono ?_
        rintro r w1 ⟨err, rfl, hat, hb1⟩
        have HER := Lib.hid (hat.isErr H2.out)
        obtain ⟨t, u, rfl⟩ := hat.iface H2.out
        have HB1 : Hid (Below W.heap.size W w1) := HB.out.trans (hb1.mono HB.out.size)
        clear hat hb1
        go_wp2_with fail
        refine (tell_err _ _ _ (HG.out.below (HE.out _ HB1.out)) HER.out).mono ?_
        rintro r w2 ⟨rfl, hb2⟩
        have HB2 : Hid (Below W.heap.size W w2) := HB1.out.trans (hb2.mono HB1.out.size)
        clear hb2
        go_wp2
        go_ret
        exact ⟨by rw [HR.out, HQ.out]; rfl, HE.out _ HB2.out⟩
    · obtain ⟨c, hc⟩ : ∃ c, covB h f = c := ⟨_, rfl⟩
      have HC := Lib.hid hc
      have HR : Hid (bbE f h = if c = false then 13 else 0) := Lib.hid (by unfold bbE; rw [if_neg (by simpa using h1), if_neg (by simpa using h2), hc])
      obtain ⟨d0, d1, d2⟩ := HA.out.below HB.out HZ.out
      clear h1 h2 hc
      go_wp2_with fail
      refine (bcov_as _ _ h f c _ (HH.out.below (HE.out _ HB.out)) (HF.out.below (HE.out _ HB.out)) HLH.out HLF.out HC.out).mono ?_
      rintro r w1 ⟨rfl, hb1⟩
      have HB1 : Hid (Below W.heap.size W w1) := HB.out.trans (hb1.mono HB.out.size)
      clear hb1 d0 d1 d2
      cases c with
      | true =>
        go_wp2
        go_ret
        exact ⟨by rw [HR.out]; rfl, HE.out _ HB1.out⟩
      | false =>
        go_wp2
        go_ret
        exact ⟨by rw [HR.out]; rfl, HE.out _ HB1.out⟩

theorem bbounds_as (vf vh vw : Value) (f h : List Ent) (l : List Wr) (e : Nat) (w : World) (hf : IsEnts w vf f) (hh : IsEnts w vh h) (hv : IsWrs w vw l) (hlf : f.length ≤ 9223372036854775807) (hlh : h.length ≤ 9223372036854775807) (hg : errT w) (he : bbE f h = e) :
    Calls Tryz.prog 60 #[.agg #[vf, vh, vw]] w fun r w' => r = .returned (errV e) ∧ Below w.heap.size w w' := by
  subst he; exact bbounds_any vf vh vw f h l w hf hh hv hlf hlh hg

set_option maxRecDepth 100000 in
set_option maxHeartbeats 4000000 in
theorem bright_any (vf vh vw : Value) (f h : List Ent) (l : List Wr) (w : World) (hf : IsEnts w vf f) (hh : IsEnts w vh h) (hv : IsWrs w vw l) (hlf : f.length ≤ 9223372036854775807) (hlh : h.length ≤ 9223372036854775807) (hok : ∀ t ∈ l, WrOk t) (hg : errT w) :
    Calls Tryz.prog 20 #[.agg #[vf, vh, vw]] w (VRightIs w (batF f h l)) := by
  have HF := Lib.hid hf
  have HH := Lib.hid hh
  have HV := Lib.hid hv
  have HG := Lib.hid hg
  have HLF := Lib.hid hlf
  have HLH := Lib.hid hlh
  have HOK := Lib.hid hok
  obtain ⟨af, cf, rfl, _⟩ := hf.form
  obtain ⟨ah, ch, rfl, _⟩ := hh.form
  obtain ⟨aw, cw, rfl, _⟩ := hv.form
  obtain ⟨nf, hnf⟩ : ∃ n, n = f.length := ⟨_, rfl⟩
  obtain ⟨nh, hnh⟩ : ∃ n, n = h.length := ⟨_, rfl⟩
  obtain ⟨n, hn⟩ : ∃ n, n = l.length := ⟨_, rfl⟩
  rw [← hnf] at HF ⊢
  rw [← hnh] at HH ⊢
  rw [← hn] at HV ⊢
  have HN := Lib.hid hn
  have HA := Lib.hid (batAt_new w (.slice af nf cf) (.slice ah nh ch) (.slice aw n cw) 25)
  have HW0 : Hid (Below w.heap.size w (w.alloc (.cells #[.slice af nf cf, .slice ah nh ch, .slice aw n cw] 25))) := Lib.hid ((Below.refl _ _).alloc (Nat.le_refl _) _)
  have HZ : Hid (w.heap.size < (w.alloc (.cells #[.slice af nf cf, .slice ah nh ch, .slice aw n cw] 25)).heap.size) := Lib.hid (by simp)
  obtain ⟨eb, heb⟩ : ∃ e, bbE f h = e := ⟨_, rfl⟩
  have HEB := Lib.hid heb
  clear hf hh hv hg hlf hlh hnf hnh hn hok heb
  go_enter Tryz.func20, Tryz.ntmps20
  go_wp2_with fail
  generalize w.alloc (.cells #[.slice af nf cf, .slice ah nh ch, .slice aw n cw] 25) = W at HA HW0 HZ ⊢
  have HE : Hid (∀ w', Below W.heap.size W w' → Below w.heap.size w w') := Lib.hid (fun w' hx => HW0.out.trans (hx.mono HW0.out.size))
  refine (bbounds_as _ _ _ f h l eb _ (HF.out.below HW0.out) (HH.out.below HW0.out) (HV.out.below HW0.out) HLF.out HLH.out (HG.out.below HW0.out) HEB.out).mono ?_
  rintro r w1 ⟨rfl, hb1⟩
  have HB1 : Hid (Below W.heap.size W w1) := Lib.hid hb1
  clear hb1
  by_cases h0 : eb = 0
  · subst h0
    rw [errV_ok]
    obtain ⟨d0, d1, d2⟩ := HA.out.below HB1.out HZ.out
    by_cases h6 : 60 < n
    · have HR := Lib.hid (batF_many HEB.out (show 60 < l.length by rw [← HN.out]; exact h6))
      have h6' : (60 : Int) < (n : Int) := by omega
      go_wp2
      go_ret
      rw [HR.out]
      exact ⟨_, rfl, .inr ⟨by decide, rfl, rfl⟩, HE.out _ HB1.out⟩
    · have HR := Lib.hid (batF_rest (ws := l) HEB.out (show ¬ 60 < l.length by rw [← HN.out]; exact h6))
      have h6' : ¬ (60 : Int) < (n : Int) := by omega
      have hn6 : n ≤ 60 := by omega
      clear h6
      go_wp2
      clear d0 d1 d2
      go_loopw [19] (fun i wr => ∃ (k : Nat) (p : Option Wr), k ≤ n ∧ i = .int .i64 k ∧ ((k = 0 ∧ p = none) ∨ ∃ j q, k = j + 1 ∧ l[j]? = some q ∧ p = some q) ∧ bwr f h l 0 none = bwr f h (l.drop k) k p ∧ Below W.heap.size W wr) (fun i _ => n - (intOf i).toNat)
      case atStart => exact ⟨0, none, by omega, rfl, .inl ⟨rfl, rfl⟩, rfl, HB1.out⟩
      case round =>
        obtain ⟨k, p, hk, rfl, hla, heq, hbel⟩ := hrel
        have HEQ := Lib.hid heq
        have HLA := Lib.hid hla
        have HB := Lib.hid hbel
        clear heq hbel hla
        by_cases hlt : k < n
        · have hkl : k < l.length := by have := HN.out; omega
          obtain ⟨t, ht⟩ : ∃ t, l[k]? = some t := ⟨l[k], List.getElem?_eq_getElem hkl⟩
          have hd : l.drop k = t :: l.drop (k + 1) := by
            rw [List.drop_eq_getElem_cons hkl]; congr 1
            rw [List.getElem?_eq_getElem hkl] at ht; exact Option.some.inj ht
          have HD := Lib.hid hd
          have HT := Lib.hid ht
          obtain ⟨e, he⟩ : ∃ e, bwE f h p t = e := ⟨_, rfl⟩
          have HEE := Lib.hid he
          obtain ⟨d0, d1, d2⟩ := HA.out.below HB.out HZ.out
          clear ht hkl hd he
          go_wp2_with fail
          refine (bwrong_any _ _ _ f h l k t p e _ (HF.out.below (HE.out _ HB.out)) (HH.out.below (HE.out _ HB.out)) (HV.out.below (HE.out _ HB.out)) HLF.out HLH.out (by have := HN.out; omega) HT.out HLA.out HOK.out (HG.out.below (HE.out _ HB.out)) HEE.out).mono ?_
          rintro r w2 ⟨rfl, hb2⟩
          have HB2 : Hid (Below W.heap.size W w2) := HB.out.trans (hb2.mono HB.out.size)
          clear hb2 d0 d1 d2
          by_cases hz : e = 0
          · subst hz
            have HN2 : Hid (bwr f h l 0 none = bwr f h (l.drop (k + 1)) (k + 1) (some t)) := Lib.hid (show bwr f h l 0 none = bwr f h (l.drop (k + 1)) (k + 1) (some t) by rw [HEQ.out, HD.out, bwr_good HEE.out])
            go_wp2
            go_roundw
            case rel => exact ⟨k + 1, some t, by omega, by go_num, .inr ⟨k, t, rfl, HT.out, rfl⟩, HN2.out, HB2.out⟩
            case measure => simp [intOf]; omega
          · have HN2 : Hid (bwr f h l 0 none = (e, (k : Int))) := Lib.hid (show bwr f h l 0 none = (e, (k : Int)) by rw [HEQ.out, HD.out, bwr_bad HEE.out hz])
            have hne : ((e : Int) != 0) = true := by simp; omega
            have H0 := Lib.hid hz
            have hz2 := HB2.out.size
            clear hz
            go_wp2
            go_ret
            rw [HR.out, HN2.out]
            exact ⟨_, rfl, .inl (atIs.new w2 e k H0.out), HE.out _ (HB2.out.alloc hz2 _)⟩
        · have HN2 : Hid (bwr f h l 0 none = (0, -1)) := Lib.hid (show bwr f h l 0 none = (0, -1) by rw [HEQ.out, List.drop_eq_nil_of_le (by have := HN.out; omega)]; rfl)
          go_wp2
          go_ret
          exact ⟨_, rfl, .inl (.inl ⟨HR.out.trans HN2.out, rfl⟩), HE.out _ HB.out⟩
  · have HR := Lib.hid (batF_bb (ws := l) HEB.out h0)
    have H0 := Lib.hid h0
    rw [errV_no h0]
    clear h0
    go_wp2
    go_ret
    rw [HR.out]
    exact ⟨_, rfl, .inr ⟨H0.out, rfl, rfl⟩, HE.out _ HB1.out⟩
end Go.Proofs.YtgelfjcmggicdaaGreatDoor
/-
  The contract of the laws' 'big' (keep) and 'held': it ends, and writes nothing.
-/
namespace Go.Proofs.YtgelfjcmggicdaaGreatDoor
open Go.RowKit

set_option maxRecDepth 100000 in
set_option maxHeartbeats 4000000 in
theorem bigK_any (vf vh vw : Value) (f h : List Ent) (l : List Wr) (w : World) (hx : BatIs w vf vh vw f h l) :
    Calls Tryz.prog 19 #[.agg #[vf, vh, vw]] w fun e w' => e = .returned (.bool (bigV 200 f h l)) ∧ Below w.heap.size w w' := by
  obtain ⟨hf, hh, hv, hlf, hlh, hlw, hok⟩ := hx
  obtain ⟨af, cf, rfl, _⟩ := hf.form
  obtain ⟨ah, ch, rfl, _⟩ := hh.form
  obtain ⟨aw, cw, rfl, fw⟩ := hv.form
  have FW := Lib.hid fw
  obtain ⟨nf, hnf⟩ : ∃ n, n = f.length := ⟨_, rfl⟩
  obtain ⟨nh, hnh⟩ : ∃ n, n = h.length := ⟨_, rfl⟩
  obtain ⟨n, hn⟩ : ∃ n, n = l.length := ⟨_, rfl⟩
  rw [← hnf, ← hnh, ← hn]
  rw [← hn] at hlw
  have HN := Lib.hid hn
  have hbv : bigV 200 f h l = decide (200 < bigS (IntKind.i64.wrap (IntKind.i64.wrap ((nf : Int) + (nh : Int)) + (n : Int))) l) := by rw [hnf, hnh, hn]; rfl
  obtain ⟨s1, hs1⟩ : ∃ s, IntKind.i64.wrap ((nf : Int) + (nh : Int)) = s := ⟨_, rfl⟩
  obtain ⟨s2, hs2⟩ : ∃ s, IntKind.i64.wrap (s1 + (n : Int)) = s := ⟨_, rfl⟩
  rw [hs1, hs2] at hbv
  have HBV := Lib.hid hbv
  clear hf hh hv hlf hlh hnf hnh hn fw hok hbv
  go_enter Tryz.func19, Tryz.ntmps19
  go_wp2
  clear hs1 hs2
  go_loopw [3, 20] (fun s i wr => ∃ (x : Int) (k : Nat), s = .int .i64 x ∧ k ≤ n ∧ i = .int .i64 k ∧ bigS s2 l = bigS x (l.drop k) ∧ Below w.heap.size w wr) (fun _ i _ => n - (intOf i).toNat)
  case atStart => exact ⟨_, 0, rfl, by omega, rfl, rfl, (Below.refl _ _).alloc (Nat.le_refl _) _⟩
  case round =>
    obtain ⟨x, k, rfl, hk, rfl, heq, hbel⟩ := hrel
    have HEQ := Lib.hid heq
    clear heq
    have HB := Lib.hid hbel
    have hzr := hbel.size
    clear hbel
    by_cases hlt : k < n
    · obtain ⟨t, ht⟩ : ∃ t, l[k]? = some t := ⟨l[k]'(by have := HN.out; omega), List.getElem?_eq_getElem _⟩
      obtain ⟨b1, o1, rfl, hb1, p0, p1, p2, p3, p4, p5⟩ := FW.out k t ht
      have q0 := (HB.out.cell (p := ⟨b1, o1 + k * 6, none⟩) hb1).trans p0
      have q1 := (HB.out.cell (p := ⟨b1, o1 + k * 6 + 1, none⟩) hb1).trans p1
      have q2 := (HB.out.cell (p := ⟨b1, o1 + k * 6 + 2, none⟩) hb1).trans p2
      have q3 := (HB.out.cell (p := ⟨b1, o1 + k * 6 + 3, none⟩) hb1).trans p3
      have q4 := (HB.out.cell (p := ⟨b1, o1 + k * 6 + 4, none⟩) hb1).trans p4
      have q5 := (HB.out.cell (p := ⟨b1, o1 + k * 6 + 5, none⟩) hb1).trans p5
      have hd := bigS_drop x ht
      obtain ⟨T, R, K, key, val, N⟩ := t
      simp only at q0 q1 q2 q3 q4 q5 hd
      obtain ⟨u, hu⟩ : ∃ u, IntKind.i64.wrap ((key.size : Int) + (val.size : Int)) = u := ⟨_, rfl⟩
      obtain ⟨y, hy⟩ : ∃ y, IntKind.i64.wrap (u.tdiv 8) = y := ⟨_, rfl⟩
      obtain ⟨z, hz⟩ : ∃ z, IntKind.i64.wrap (x + y) = z := ⟨_, rfl⟩
      rw [hu, hy, hz] at hd
      have HD : Hid (bigS s2 l = bigS z (l.drop (k + 1))) := Lib.hid (HEQ.out.trans hd)
      clear hd
      clear p0 p1 p2 p3 p4 p5 ht
      go_wp2
      go_roundw
      case rel => exact ⟨_, k + 1, rfl, by omega, by go_num, HD.out, HB.out.alloc hzr _⟩
      case measure => simp [intOf]; omega
    · have HD : Hid (bigV 200 f h l = decide (200 < x)) := Lib.hid (by rw [HBV.out, HEQ.out, List.drop_eq_nil_of_le (by have := HN.out; omega)]; rfl)
      go_wp2
      go_ret
      exact ⟨by rw [HD.out]; rfl, HB.out⟩

theorem bigK_as (vf vh vw : Value) (f h : List Ent) (l : List Wr) (c : Bool) (w : World) (hx : BatIs w vf vh vw f h l) (hc : bigV 200 f h l = c) :
    Calls Tryz.prog 19 #[.agg #[vf, vh, vw]] w fun e w' => e = .returned (.bool c) ∧ Below w.heap.size w w' := by
  subst hc; exact bigK_any vf vh vw f h l w hx
theorem brightB (vf vh vw : Value) (f h : List Ent) (l : List Wr) (w : World) (hx : BatIs w vf vh vw f h l) (hg : errT w) :
    Calls Tryz.prog 20 #[.agg #[vf, vh, vw]] w (VRightIs w (batF f h l)) :=
  bright_any vf vh vw f h l w hx.1 hx.2.1 hx.2.2.1 hx.2.2.2.1 hx.2.2.2.2.1 hx.2.2.2.2.2.2 hg

set_option maxRecDepth 100000 in
set_option maxHeartbeats 4000000 in
theorem held_any (vf vh vw : Value) (f h : List Ent) (l : List Wr) (w : World) (hx : BatIs w vf vh vw f h l) (hg : errT w) :
    Calls Tryz.prog 24 #[.agg #[vf, vh, vw]] w fun e w' => ∃ c, e = .returned (.bool c) ∧ (c = true → rightB f h l) ∧ Below w.heap.size w w' := by
  have HX := Lib.hid hx
  have HG := Lib.hid hg
  obtain ⟨hf, hh, hv, _⟩ := hx
  obtain ⟨af, cf, rfl, _⟩ := hf.form
  obtain ⟨ah, ch, rfl, _⟩ := hh.form
  obtain ⟨aw, cw, rfl, _⟩ := hv.form
  have HA := Lib.hid (batAt_new w (.slice af f.length cf) (.slice ah h.length ch) (.slice aw l.length cw) 25)
  have HW0 : Hid (Below w.heap.size w (w.alloc (.cells #[.slice af f.length cf, .slice ah h.length ch, .slice aw l.length cw] 25))) := Lib.hid ((Below.refl _ _).alloc (Nat.le_refl _) _)
  have HZ : Hid (w.heap.size < (w.alloc (.cells #[.slice af f.length cf, .slice ah h.length ch, .slice aw l.length cw] 25)).heap.size) := Lib.hid (by simp)
  generalize f.length = nf at HX HA HW0 HZ ⊢
  generalize h.length = nh at HX HA HW0 HZ ⊢
  generalize l.length = n at HX HA HW0 HZ ⊢
  clear hf hh hv hg
  go_enter Tryz.func24, Tryz.ntmps24
  go_wp2_with fail
  generalize w.alloc (.cells #[.slice af nf cf, .slice ah nh ch, .slice aw n cw] 25) = W at HA HW0 HZ ⊢
  obtain ⟨c, hc⟩ : ∃ c, bigV 200 f h l = c := ⟨_, rfl⟩
  refine (bigK_as _ _ _ f h l c _ (HX.out.below HW0.out) hc).mono ?_
  clear hc
  rintro r w1 ⟨rfl, hb1⟩
  have HB1 : Hid (Below w.heap.size w w1) := Lib.hid (HW0.out.trans (hb1.mono HW0.out.size))
  obtain ⟨d0, d1, d2⟩ := HA.out.below hb1 HZ.out
  clear hb1
  cases c with
  | true =>
    go_wp2
    go_ret
    exact ⟨_, rfl, (fun hq => by cases hq), HB1.out⟩
  | false =>
    go_wp2_with fail
    refine (brightB _ _ _ f h l _ (HX.out.below HB1.out) (HG.out.below HB1.out)).mono ?_
    rintro r w2 ⟨err, rfl, hat, hb2⟩
    have HB2 : Hid (Below w.heap.size w w2) := HB1.out.trans (hb2.mono HB1.out.size)
    clear hb2 d0 d1 d2
    by_cases h0 : (batF f h l).1 = 0
    · have H0 := Lib.hid h0
      obtain rfl := hat.nil h0
      clear hat h0
      go_wp2
      go_ret
      exact ⟨_, rfl, fun _ => H0.out, HB2.out⟩
    · obtain ⟨t, u, rfl⟩ := hat.iface h0
      clear hat h0
      go_wp2
      go_ret
      exact ⟨_, rfl, (fun hq => by simp at hq), HB2.out⟩
end Go.Proofs.YtgelfjcmggicdaaGreatDoor
/-
  What the maps of keys read as: texts and their numbers; texts that are there; numbers that were told of.
-/
namespace Go.Proofs.YtgelfjcmggicdaaGreatDoor
open Go.Maps

def keyL (s : ByteArray) : Lit := .string s.data.toList
theorem keyL_inj {a b : ByteArray} (h : keyL a = keyL b) : a = b := by
  unfold keyL at h
  cases a; cases b
  simpa using h
theorem keyL_key (s : ByteArray) : WideAt.IsKeyLit (keyL s) := trivial
theorem keyN (k : Int) : WideAt.IsKeyLit (.int .i64 k) := trivial

/-- D reads as: of each text of t, no two the same, where it stands. -/
structure NumM (D : DataW Unit) (t : List ByteArray) : Prop where
  isMap : IsMap D
  nodup : t.Nodup
  there : ∀ s, s ∈ t → has D (keyL s) = true
  none : ∀ s, s ∉ t → has D (keyL s) = false
  at' : ∀ s (j : Nat), t[j]? = some s → D.atKey (keyL s) (.lit (.int .i64 0)) = .lit (.int .i64 j)

theorem numM_nil : NumM (.map []) [] := ⟨isMap_empty, List.nodup_nil, fun _ h => (by cases h), fun _ _ => rfl, fun _ _ h => (by simp at h)⟩
theorem NumM.put {D : DataW Unit} {t : List ByteArray} (h : NumM D t) {s : ByteArray} (hs : s ∉ t) : NumM (D.put (keyL s) (.lit (.int .i64 t.length))) (t ++ [s]) := by
  refine ⟨h.isMap.put _ _, ?_, ?_, ?_, ?_⟩
  · rw [List.nodup_append]
    exact ⟨h.nodup, by simp, fun a ha b hb => by simp at hb; subst hb; rintro rfl; exact hs ha⟩
  · intro x hx
    rcases List.mem_append.1 hx with hx | hx
    · rw [has_put_other (fun e => hs (by rw [← keyL_inj e]; exact hx))]; exact h.there x hx
    · simp at hx; subst hx; exact has_put_same h.isMap (keyL_key _) _
  · intro x hx
    have h1 : x ∉ t := fun h => hx (List.mem_append_left _ h)
    have h2 : x ≠ s := fun e => hx (by rw [e]; simp)
    rw [has_put_other (fun e => h2 (keyL_inj e))]; exact h.none x h1
  · intro x j hj
    by_cases hlt : j < t.length
    · rw [List.getElem?_append_left hlt] at hj
      have hx : x ∈ t := List.mem_of_getElem? hj
      rw [atKey_put_other (fun e => hs (by rw [← keyL_inj e]; exact hx))]; exact h.at' x j hj
    · rw [List.getElem?_append_right (by omega)] at hj
      have hj0 : j - t.length = 0 := by have := (List.getElem?_eq_some_iff.1 hj).1; simpa using this
      rw [hj0] at hj
      simp at hj
      subst hj
      rw [atKey_put_same h.isMap (keyL_key _)]
      rw [show j = t.length by omega]

/-- D reads as: these texts are there. -/
structure SetM (D : DataW Unit) (t : List ByteArray) : Prop where
  isMap : IsMap D
  there : ∀ s, s ∈ t → D.atKey (keyL s) (.lit (.bool false)) = .lit (.bool true)
  none : ∀ s, s ∉ t → D.atKey (keyL s) (.lit (.bool false)) = .lit (.bool false)
theorem setM_nil : SetM (.map []) [] := ⟨isMap_empty, fun _ h => (by cases h), fun _ _ => rfl⟩
theorem SetM.put {D : DataW Unit} {t : List ByteArray} (h : SetM D t) (s : ByteArray) : SetM (D.put (keyL s) (.lit (.bool true))) (t ++ [s]) := by
  refine ⟨h.isMap.put _ _, ?_, ?_⟩
  · intro x hx
    by_cases e : x = s
    · subst e; rw [atKey_put_same h.isMap (keyL_key _)]
    · rw [atKey_put_other (fun h => e (keyL_inj h))]
      rcases List.mem_append.1 hx with hx | hx
      · exact h.there x hx
      · simp at hx; exact absurd hx e
  · intro x hx
    have h1 : x ∉ t := fun h => hx (List.mem_append_left _ h)
    have h2 : x ≠ s := fun e => hx (by rw [e]; simp)
    rw [atKey_put_other (fun e => h2 (keyL_inj e))]; exact h.none x h1

/-- D reads as: just the numbers below m are there. -/
structure ToldM (D : DataW Unit) (m : Nat) : Prop where
  tidy : Tidy D
  size : Maps.size D = m
  below : ∀ j : Nat, has D (.int .i64 j) = decide (j < m)
theorem toldM_nil : ToldM (.map []) 0 := ⟨tidy_empty, rfl, fun _ => rfl⟩
theorem ToldM.old {D : DataW Unit} {m j : Nat} (h : ToldM D m) (hj : j < m) : ToldM (D.put (.int .i64 j) (.lit (.bool true))) m := by
  refine ⟨h.tidy.put (keyN _) _, ?_, ?_⟩
  · rw [size_put h.tidy, h.below j, if_pos (by simpa using hj), h.size]
  · intro i
    by_cases e : i = j
    · subst e; rw [has_put_same h.tidy.isMap (keyN _)]; simp [hj]
    · rw [has_put_other (by simp; omega)]; exact h.below i
theorem ToldM.new {D : DataW Unit} {m : Nat} (h : ToldM D m) : ToldM (D.put (.int .i64 m) (.lit (.bool true))) (m + 1) := by
  refine ⟨h.tidy.put (keyN _) _, ?_, ?_⟩
  · rw [size_put h.tidy, h.below m, if_neg (by simp), h.size]
  · intro i
    by_cases e : i = m
    · subst e; rw [has_put_same h.tidy.isMap (keyN _)]; simp
    · rw [has_put_other (by simp; omega), h.below i]
      by_cases h1 : i < m
      · simp [h1]; omega
      · simp [h1]; omega

/-! a look-up of a bool, of a text -/
theorem plainElem_bool_inv {H : Type} {P : Program} {e : TypeId} (he : P.underlying e = some .bool) {v : Value} {z : DataW H × List MemPlace} (h : plainElem P e v = some z) : ∃ x, v = .bool x ∧ z = (.lit (.bool x), []) := by
  unfold plainElem at h
  rw [he] at h
  cases v <;> simp at h
  exact ⟨_, rfl, h.symm⟩
theorem plainElem_str_inv {H : Type} {P : Program} {e : TypeId} (he : P.underlying e = some .string) {v : Value} {z : DataW H × List MemPlace} (h : plainElem P e v = some z) : ∃ s : ByteArray, v = .string s ∧ z = (.lit (.string s.data.toList), []) := by
  unfold plainElem at h
  rw [he] at h
  cases v <;> simp at h
  exact ⟨_, rfl, h.2.symm⟩
/-- 'm[k]', in words: the value that is read, where what it reads as is known. -/
theorem wpList_lookup_own_is {H : Type} {P : Program} (w : World) {ops : Array Oper} {rest : List Oper} {o : Oper} {a : Act} {Q : Exit → Act → World → Prop}
    (hg : o.guard = none) (m x : Operand) (t : TypeId) (hop : o.op = Op.lookup t m x false)
    (k e : TypeId) (K : Keyed P k) (ht : P.underlying t = some (.map k e)) (R : Value → Option (DataW H × List MemPlace)) {z : Value} (hz : (zeroValue e).run P w = .ok z w) (zd : DataW H) (zp : List MemPlace) (hzd : R z = some (zd, zp)) (b n : Nat) (D : DataW H)
    (hm : a.eval m = .map (some b)) (hown : w.ownsMap P k R b n D) (key : Value) (kl : Lit) (hx : a.eval x = key) (hkey : keyOf P k key = some kl) (val : Value) (hval : ∀ v ps, R v = some (D.atKey kl zd, ps) → v = val)
    (hK : wpList P ops Q rest (a.put o.dst val) w) :
    wpList P ops Q (o :: rest) a w := by
  refine wpList_plain hg fun K' hK' => ?_
  obtain ⟨v, ps, hrun, hv⟩ := hown.lookup K ht hz hzd hkey
  unfold Oper.wp
  simp [execOp, hop, hm, hx, hrun, Result.andThen]
  rw [hval v ps hv]
  exact hK' _ _ hK
end Go.Proofs.YtgelfjcmggicdaaGreatDoor
/-
  Maps of keys that a call makes: texts and their numbers; texts that are there; numbers that were told of. For this seat's types.
-/
namespace Go.Proofs.YtgelfjcmggicdaaGreatDoor
open Go.RowKit Go.Maps

theorem keyedS : Keyed Tryz.prog 9 := string_keyed Tryz.underlying9
theorem zeroI (w : World) : (zeroValue 3).run Tryz.prog w = .ok (.int .i64 0) w := by kernel_rfl
theorem keyS {s : ByteArray} (h : s.size ≤ maxLen) : keyOf Tryz.prog 9 (.string s) = some (keyL s) := Go.WideMaps.keyOf_string_mk Tryz.underlying9 h

/-- Block b is a map, of at most n entries, of each text of t where it stands. -/
def ownsNum (w : World) (b n : Nat) (t : List ByteArray) : Prop := ∃ D, NumM D t ∧ w.ownsMap Tryz.prog 9 (plainElem Tryz.prog 3) b n D
theorem ownsNum_made (w : World) : ownsNum (w.alloc (.map #[] 0)) w.heap.size 0 [] := ⟨_, numM_nil, World.ownsMap_made _ _ _ _⟩
theorem ownsNum.kept {w w' : World} {b n : Nat} {t : List ByteArray} {row : Option Nat} (h : ownsNum w b n t) (hg : w.grownBy w' row) (hne : some b ≠ row) : ownsNum w' b n t := by
  obtain ⟨D, h1, h2⟩ := h; exact ⟨D, h1, h2.kept hg hne⟩
theorem ownsNum.alloc {w : World} {b n : Nat} {t : List ByteArray} (h : ownsNum w b n t) (o : Obj) : ownsNum (w.alloc o) b n t := by
  obtain ⟨D, h1, h2⟩ := h; exact ⟨D, h1, h2.alloc o⟩
theorem ownsNum.drew {w : World} {b n : Nat} {t : List ByteArray} (h : ownsNum w b n t) : ownsNum w.drew b n t := by
  obtain ⟨D, h1, h2⟩ := h; exact ⟨D, h1, h2.drew⟩
theorem ownsNum.mono {w : World} {b n m : Nat} {t : List ByteArray} (h : ownsNum w b n t) (hm : n ≤ m) : ownsNum w b m t := by
  obtain ⟨D, h1, h2⟩ := h; exact ⟨D, h1, h2.mono hm⟩
theorem ownsNum.lt {w : World} {b n : Nat} {t : List ByteArray} (h : ownsNum w b n t) : b < w.heap.size := by
  obtain ⟨D, h1, h2⟩ := h; exact h2.lt
theorem ownsNum.below {w w' : World} {b n : Nat} {t : List ByteArray} (h : ownsNum w b n t) (hb : Below w.heap.size w w') : ownsNum w' b n t :=
  h.kept (row := none) ⟨hb.os, hb.tape, hb.output, hb.size, fun k hk _ => hb.block k hk⟩ (by simp)
theorem ownsNum.nodup {w : World} {b n : Nat} {t : List ByteArray} (h : ownsNum w b n t) : t.Nodup := by
  obtain ⟨D, h1, h2⟩ := h; exact h1.nodup

section
variable {w : World} {ops : Array Oper} {rest : List Oper} {o : Oper} {a : Act} {Q : Exit → Act → World → Prop}
theorem wpList_num_there (hg : o.guard = none) (m x : Operand) (hop : o.op = Op.lookup 193 m x true) (b n : Nat) (t : List ByteArray)
    (hm : a.eval m = .map (some b)) (hown : ownsNum w b n t) (s : ByteArray) (hx : a.eval x = .string s) (hs : s.size ≤ maxLen) (j : Nat) (hj : t[j]? = some s)
    (hK : wpList Tryz.prog ops Q rest (a.put o.dst (.tuple #[.int .i64 j, .bool true])) w) : wpList Tryz.prog ops Q (o :: rest) a w := by
  obtain ⟨D, h1, h2⟩ := hown
  refine wpList_lookup_own_ok_int w hg m x _ hop 9 3 .i64 keyedS Tryz.underlying193 Tryz.underlying3 (zeroI w) b n D hm h2 _ _ hx (keyS hs) ?_
  intro c hc _
  rw [h1.at' s j hj] at hc
  obtain rfl : (j : Int) = c := by simpa using hc
  rw [h1.there s (List.mem_of_getElem? hj)]
  exact hK
theorem wpList_num_none (hg : o.guard = none) (m x : Operand) (hop : o.op = Op.lookup 193 m x true) (b n : Nat) (t : List ByteArray)
    (hm : a.eval m = .map (some b)) (hown : ownsNum w b n t) (s : ByteArray) (hx : a.eval x = .string s) (hs : s.size ≤ maxLen) (hj : s ∉ t)
    (hK : ∀ c, wpList Tryz.prog ops Q rest (a.put o.dst (.tuple #[.int .i64 c, .bool false])) w) : wpList Tryz.prog ops Q (o :: rest) a w := by
  obtain ⟨D, h1, h2⟩ := hown
  refine wpList_lookup_own_ok_int w hg m x _ hop 9 3 .i64 keyedS Tryz.underlying193 Tryz.underlying3 (zeroI w) b n D hm h2 _ _ hx (keyS hs) ?_
  intro c hc _
  rw [h1.none s hj]
  exact hK c
theorem wpList_num_put (hg : o.guard = none) (m x v : Operand) (hop : o.op = Op.mapUpdate 193 m x v) (b n : Nat) (t : List ByteArray)
    (hm : a.eval m = .map (some b)) (hown : ownsNum w b n t) (hn : n < maxLen) (s : ByteArray) (hx : a.eval x = .string s) (hv : a.eval v = .int .i64 (t.length : Nat)) (hs : s.size ≤ maxLen) (hj : s ∉ t) (ht : t.length ≤ maxLen)
    (hK : ∀ w', ownsNum w' b (n + 1) (t ++ [s]) → w.grownBy w' (some b) → wpList Tryz.prog ops Q rest (a.put o.dst undef) w') : wpList Tryz.prog ops Q (o :: rest) a w := by
  obtain ⟨D, h1, h2⟩ := hown
  refine wpList_mapUpdate_own w hg m x v _ hop 9 3 keyedS Tryz.underlying193 _ b n D hm h2 hn _ _ _ hx hv (keyS hs) (.lit (.int .i64 t.length)) [] (plainElem_int Tryz.underlying3 (WalkArith.wf_i64 (by unfold maxLen at ht; omega))) ?_
  intro w' h3 h4
  exact hK w' ⟨_, h1.put hj, h3⟩ h4
end

end Go.Proofs.YtgelfjcmggicdaaGreatDoor
/-
  The contract of keys.Table.
-/
namespace Go.Proofs.YtgelfjcmggicdaaGreatDoor
open Go.RowKit

theorem kclone_any (s : ByteArray) (w : World) (hs : s.size ≤ 281474976710656) :
    Calls Tryz.prog 127 #[.string s] w fun e w' => e = .returned (.string s) ∧ Below w.heap.size w w' := by
  go_enter Tryz.func127, Tryz.ntmps127
  go_wp2_with fail
  refine (Tryz.stringslite_Clone s _ hs).mono ?_
  rintro r w1 ⟨rfl, hb1⟩
  go_wp2
  go_ret
  exact ⟨rfl, hb1⟩

/-- What Table answers. -/
def TabIs (w : World) (l : List ByteArray) (e : Ending) (w' : World) : Prop :=
  ∃ v1 v2, e = .returned (.tuple #[v1, v2]) ∧ ownsS w' w.heap.size v1 (tabK [] l) ∧ ownsN w' w.heap.size v2 (atK [] l) ∧ Below w.heap.size w w'

set_option maxRecDepth 100000 in
set_option maxHeartbeats 4000000 in
theorem ktab_any (v : Value) (l : List ByteArray) (w : World) (hv : IsTexts w v l) (hl : l.length ≤ 1000000) (hs : ∀ s ∈ l, s.size ≤ 140737488351232) :
    Calls Tryz.prog 90 #[v] w (TabIs w l) := by
  obtain ⟨a1, c1, rfl, _, f1⟩ := hv
  have F1 := Lib.hid f1
  have HS := Lib.hid hs
  obtain ⟨n, hn⟩ : ∃ n, n = l.length := ⟨_, rfl⟩
  rw [← hn] at hl ⊢
  have HN := Lib.hid hn
  clear f1 hs hn
  have hmm := @run_makeMap Tryz.prog
  go_enter Tryz.func90, Tryz.ntmps90
  go_wp2
  go_loopw [2, 3, 12] (fun t a i wr => ∃ (k : Nat) (T : List ByteArray) (N : List Nat), k ≤ n ∧ i = .int .i64 k ∧ T.length ≤ k ∧ N.length = k ∧ tabK [] l = tabK T (l.drop k) ∧ atK [] l = N ++ atK T (l.drop k) ∧
      ownsNum wr w.heap.size k T ∧ ownsS wr (w.heap.size + 1) t T ∧ ownsN wr (w.heap.size + 1) a N ∧ w.heap.size + 1 ≤ wr.heap.size ∧ Below w.heap.size w wr) (fun _ _ i _ => n - (intOf i).toNat)
  case atStart => exact ⟨0, [], [], Nat.zero_le _, rfl, Nat.le_refl _, rfl, rfl, rfl, ownsNum_made _, ownsS_nil _ _, ownsN_nil _ _, by simp, (Below.refl _ _).alloc (Nat.le_refl _) _⟩
  case round =>
    obtain ⟨k, T, N, hk, rfl, hT, hN, ht, ha, hmap, hos, hon, hz, hbel⟩ := hrel
    have HT := Lib.hid ht
    have HA := Lib.hid ha
    have HM := Lib.hid hmap
    have HO := Lib.hid hos
    have HQ := Lib.hid hon
    have HB := Lib.hid hbel
    have HZ := Lib.hid hz
    have HNL := Lib.hid hN
    have HTL := Lib.hid hT
    obtain ⟨ad, cp, rfl, _, _⟩ := hos.isTexts
    clear ht ha hmap hos hon hbel hN hT hz
    by_cases hlt : k < n
    · obtain ⟨s, hs⟩ : ∃ s, l[k]? = some s := ⟨l[k]'(by have := HN.out; omega), List.getElem?_eq_getElem _⟩
      obtain ⟨b1, o1, rfl, hb1, p0⟩ := F1.out k s hs
      have q0 := (HB.out.cell (p := ⟨b1, o1 + k, none⟩) hb1).trans p0
      have HSZ : Hid (s.size ≤ 140737488351232) := Lib.hid (HS.out s (List.mem_of_getElem? hs))
      have hsz : s.size ≤ maxLen := by have := HSZ.out; unfold maxLen; omega
      by_cases hin : s ∈ T
      · have HJ := Lib.hid (idxB_get hin)
        have HT2 := Lib.hid (HT.out.trans (tabK_in hs hin))
        have HA2 := Lib.hid (HA.out.trans (congrArg (N ++ ·) (atK_in hs hin)))
        obtain ⟨j, hj⟩ : ∃ j, idxB T s = j := ⟨_, rfl⟩
        rw [hj] at HJ HA2
        clear p0 hs hj
        go_wp2_with (first
          | (at_lookup; refine wpList_num_there rfl _ _ rfl w.heap.size k T rfl HM.out s rfl hsz j HJ.out ?_)
          | (at_builtin; refine wpList_append_int rfl _ _ rfl (w.heap.size + 1) _ N rfl (HQ.out.alloc _) ⟨wr.heap.size, 0, none⟩ 1 rfl j ?c1 ?c2 ?c3 ?_))
        case c1 => simp [Addr.add]
        case c2 => have := HNL.out; omega
        case c3 => have := HZ.out; simp; omega
        intro g cap w1 ho1 hg1
        have hbel1 : Below w.heap.size w w1 := (HB.out.alloc HB.out.size _).grown hg1 (by have := HB.out.size; simp; omega) (fun g hg => by have := (HQ.out.lt g hg).1; omega)
        have hm1 : ownsNum w1 w.heap.size (k + 1) T := ((HM.out.mono (Nat.le_succ k)).alloc _).kept hg1 (by intro e; exact HQ.out.off (Nat.lt_succ_self _) e.symm)
        have hs1 : ownsS w1 (w.heap.size + 1) _ T := World.ownsRow.kept (HO.out.alloc _) hg1 (rows_apart HO.out HQ.out (show 9 ≠ 3 by decide))
        have hz1 : w.heap.size + 1 ≤ w1.heap.size := by have := HZ.out; have := hg1.size; simp at this; omega
        have ha1 : atK [] l = (N ++ [j]) ++ atK T (l.drop (k + 1)) := by rw [HA2.out]; simp
        have hn1 : (N ++ [j]).length = k + 1 := by have := HNL.out; simp; omega
        have HNL1 : Hid (N.length + 1 = (N ++ [j]).length) := Lib.hid (show N.length + 1 = (N ++ [j]).length by simp)
        rw [HNL1.out] at ho1
        have HX := Lib.hid (And.intro hbel1 (And.intro hm1 (And.intro hs1 (And.intro hz1 (And.intro ha1 (And.intro hn1 ho1))))))
        clear hbel1 hm1 hs1 hz1 ha1 hn1 ho1 hg1
        go_wp2
        go_roundw
        case rel => exact ⟨k + 1, T, N ++ [j], by omega, by go_num, by have := HTL.out; omega, HX.out.2.2.2.2.2.1, HT2.out, HX.out.2.2.2.2.1, HX.out.2.1, HX.out.2.2.1, by simpa using HX.out.2.2.2.2.2.2, HX.out.2.2.2.1, HX.out.1⟩
        case measure => simp [intOf]; omega
      · have HT2 := Lib.hid (HT.out.trans (tabK_new hs hin))
        have HA2 := Lib.hid (HA.out.trans (congrArg (N ++ ·) (atK_new hs hin)))
        have HTM : Hid (T.length ≤ maxLen) := Lib.hid (by show T.length ≤ maxLen; have := HTL.out; unfold maxLen; omega)
        clear p0 hs
        go_wp2_with (first
          | (at_lookup; refine wpList_num_none rfl _ _ rfl w.heap.size k T rfl HM.out s rfl hsz hin ?_; intro c)
          | (at_mapUpdate; refine wpList_num_put rfl _ _ _ rfl w.heap.size k T rfl HM.out (by unfold maxLen; omega) s rfl rfl hsz hin HTM.out ?_; intro w1 hm1 hg1))
        have hbel1 : Below w.heap.size w w1 := HB.out.grown hg1 HB.out.size (fun g hg => by cases hg; exact Nat.le_refl _)
        have hs1 : ownsS w1 (w.heap.size + 1) _ T := World.ownsRow.kept HO.out hg1 (.inr (HO.out.off (Nat.lt_succ_self _)))
        have hn1 : ownsN w1 (w.heap.size + 1) _ N := World.ownsRow.kept HQ.out hg1 (.inr (HQ.out.off (Nat.lt_succ_self _)))
        have hz1 : w.heap.size + 1 ≤ w1.heap.size := Nat.le_trans HZ.out hg1.size
        have HX := Lib.hid (And.intro hbel1 (And.intro hm1 (And.intro hs1 (And.intro hn1 hz1))))
        clear hbel1 hm1 hs1 hn1 hz1 hg1
        refine (kclone_any s w1 (by have := HSZ.out; omega)).mono ?_
        rintro r w2 ⟨rfl, hb2⟩
        have HB2 := Lib.hid (HX.out.1.trans (hb2.mono HX.out.1.size))
        have HM2 := Lib.hid (HX.out.2.1.below hb2)
        have HS2 := Lib.hid (HX.out.2.2.1.below hb2)
        have HN2 := Lib.hid (HX.out.2.2.2.1.below hb2)
        have HZ2 := Lib.hid (Nat.le_trans HX.out.2.2.2.2 hb2.size)
        clear hb2 HX HM HO HQ HB HZ
        go_wp2_with (at_builtin; refine wpList_append_str rfl _ _ rfl (w.heap.size + 1) _ T rfl (HS2.out.alloc _) ⟨w2.heap.size, 0, none⟩ 1 rfl s ?c1 ?c2 ?c3 ?_)
        case c1 => simp [Addr.add]
        case c2 => have := HTL.out; omega
        case c3 => have := HZ2.out; simp; omega
        intro g cap w3 ho3 hg3
        have HB3 : Hid (Below w.heap.size w w3) := (HB2.out.alloc HB2.out.size _).grown hg3 (by have := HB2.out.size; simp; omega) (fun g hg => by have := (HS2.out.lt g hg).1; omega)
        have HM3 := Lib.hid ((HM2.out.alloc _).kept hg3 (by intro e; exact HS2.out.off (Nat.lt_succ_self _) e.symm))
        have HN3 := Lib.hid (show ownsN w3 (w.heap.size + 1) _ N from World.ownsRow.kept (HN2.out.alloc _) hg3 (rows_apart HN2.out HS2.out (show 3 ≠ 9 by decide)))
        have HZ3 : Hid (w.heap.size + 1 ≤ w3.heap.size) := Lib.hid (by show _ ≤ _; have := HZ2.out; have := hg3.size; simp at this; omega)
        have HS3 := Lib.hid ho3
        clear ho3 hg3 HB2 HM2 HS2 HN2 HZ2
        go_wp2_with (at_builtin; refine wpList_append_int rfl _ _ rfl (w.heap.size + 1) _ N rfl (HN3.out.alloc _) ⟨w3.heap.size, 0, none⟩ 1 rfl T.length ?d1 ?d2 ?d3 ?_)
        case d1 => simp [Addr.add]
        case d2 => have := HNL.out; omega
        case d3 => have := HZ3.out; simp; omega
        intro g' cap' w4 ho4 hg4
        have HB4 : Hid (Below w.heap.size w w4) := (HB3.out.alloc HB3.out.size _).grown hg4 (by have := HB3.out.size; simp; omega) (fun g hg => by have := (HN3.out.lt g hg).1; omega)
        have HM4 := Lib.hid ((HM3.out.alloc _).kept hg4 (by intro e; exact HN3.out.off (Nat.lt_succ_self _) e.symm))
        have HS4 := Lib.hid (show ownsS w4 (w.heap.size + 1) _ (T ++ [s]) from World.ownsRow.kept (HS3.out.alloc _) hg4 (rows_apart HS3.out HN3.out (show 9 ≠ 3 by decide)))
        have HZ4 : Hid (w.heap.size + 1 ≤ w4.heap.size) := Lib.hid (by show _ ≤ _; have := HZ3.out; have := hg4.size; simp at this; omega)
        have HN4 := Lib.hid ho4
        have HA4 : Hid (atK [] l = (N ++ [T.length]) ++ atK (T ++ [s]) (l.drop (k + 1))) := Lib.hid (show _ = _ by rw [HA2.out]; simp)
        have HL4 : Hid ((N ++ [T.length]).length = k + 1 ∧ (T ++ [s]).length ≤ k + 1) := Lib.hid (show _ ∧ _ by have := HNL.out; have := HTL.out; simp; omega)
        clear ho4 hg4 HB3 HM3 HS3 HN3 HZ3 HA2
        go_wp2
        go_roundw
        case rel => exact ⟨k + 1, T ++ [s], N ++ [T.length], by omega, by go_num, HL4.out.2, HL4.out.1, HT2.out, HA4.out, HM4.out, HS4.out, HN4.out, HZ4.out, HB4.out⟩
        case measure => simp [intOf]; omega
    · have HT2 : Hid (tabK [] l = T) := Lib.hid (show _ = _ by rw [HT.out, List.drop_eq_nil_of_le (by have := HN.out; omega)]; rfl)
      have HA2 : Hid (atK [] l = N) := Lib.hid (show _ = _ by rw [HA.out, List.drop_eq_nil_of_le (by have := HN.out; omega)]; simp [atK])
      go_wp2
      go_ret2
      refine ⟨_, _, rfl, ?_, ?_, HB.out⟩
      · rw [HT2.out]; exact HO.out.mono (Nat.le_succ _)
      · rw [HA2.out]; exact HQ.out.mono (Nat.le_succ _)
end Go.Proofs.YtgelfjcmggicdaaGreatDoor
