/-
  The walk of 'packtrainkeep.ChunkBack'.
-/
import Derived.Test.YtggokgiebdadpaaChkPieced
namespace Go.Proofs.Ytggokgiebdadpaa
open Go.RowKit

theorem errV_ne {e : Nat} (h : e ≠ 0) : errV e = .iface 48 (.int .i64 e) := by unfold errV; rw [if_neg h]
theorem errV_zero : errV 0 = .nilIface := rfl
/-- Right, of cells that are a piece. -/
theorem cright_l (n : Nat) (t a : Int) (D : ByteArray) (e : Nat) (w : World) (hc : ChkOk ⟨n, t, a, D⟩) (h : crE t a D.size = e) :
    Calls Try.prog 9 #[.agg #[.int .u32 n, .int .i64 t, .int .i64 a, .string D]] w fun r w' => r = .returned (errV e) ∧ Below w.heap.size w w' := by
  have h1 := cright_any ⟨n, t, a, D⟩ w hc
  rw [h] at h1
  exact h1
theorem cread_ok {c : Chk} {s : ByteArray} (_ : s.size ≤ 1000000) (h : creadF s.data.toList = (c, 0)) : ChkOk c ∧ crE c.tot c.pos c.dat.size = 0 ∧ cwrL c = s.data.toList := by
  obtain ⟨h1, h2, h3⟩ := cread_only h
  have hr := crE_ok.1 h2
  exact ⟨⟨h1, by omega, by omega, by omega, by omega, by omega⟩, h2, h3⟩

set_option maxRecDepth 100000 in
set_option maxHeartbeats 4000000 in
theorem chunkBack_walk (w : World) (c : Chk) (hc : ChkOk c) (s : ByteArray) (hs : s.size ≤ 140737488351232) :
    Calls Try.prog 3 #[chkV c, .string s] w fun e w' => e = .returned (.bool true) ∧ Below w.heap.size w w' := by
  obtain ⟨n, t, a, D⟩ := c
  have HOK := Lib.hid hc
  have hd : D.size ≤ 140737488351232 := hc.dat
  show Calls Try.prog 3 #[.agg #[.int .u32 n, .int .i64 t, .int .i64 a, .string D], .string s] w fun e w' => _
  have HW0 : Hid (Below w.heap.size w (w.alloc (.cells #[.int .u32 n, .int .i64 t, .int .i64 a, .string D] 24))) := Lib.hid ((Below.refl _ _).alloc (Nat.le_refl _) _)
  have HZ : Hid (w.heap.size < (w.alloc (.cells #[.int .u32 n, .int .i64 t, .int .i64 a, .string D] 24)).heap.size) := Lib.hid (by simp)
  have HA : Hid (chkAt (w.alloc (.cells #[.int .u32 n, .int .i64 t, .int .i64 a, .string D] 24)) w.heap.size ⟨n, t, a, D⟩) := Lib.hid (chkAt_new w ⟨n, t, a, D⟩)
  have kw : IntKind.i64.wrap ((D.size : Int) + (s.size : Int)) = (D.size : Int) + (s.size : Int) := IntWalk.i64_in _ (by omega)
  clear hc
  go_enter Try.func3, Try.ntmps3
  go_wp2_with fail
  generalize w.alloc (.cells #[.int .u32 (n : Int), .int .i64 t, .int .i64 a, .string D] 24) = W at HA HW0 HZ ⊢
  refine (pieced_any W).mono ?_
  rintro r w1 ⟨rfl, hb⟩
  have HB1 : Hid (Below W.heap.size W w1) := Lib.hid hb
  have HE : Hid (∀ w', Below W.heap.size W w' → Below w.heap.size w w') := Lib.hid (fun w' hb => HW0.out.trans (hb.mono HW0.out.size))
  clear hb HW0
  obtain ⟨c0, c1, c2, c3⟩ := HA.out.below HB1.out HZ.out
  simp only at c0 c1 c2 c3
  by_cases h9 : 900 < D.size + s.size
  · have h9' : (900 : Int) < (D.size : Int) + (s.size : Int) := by omega
    go_wp2
    go_ret
    exact ⟨rfl, HE.out _ HB1.out⟩
  · have h9' : (D.size : Int) + (s.size : Int) ≤ 900 := by omega
    have HS : Hid (s.size ≤ 1000000) := Lib.hid (by omega)
    -- the second half: any bytes
    obtain ⟨⟨n2, t2, a2, D2⟩, e2, hrd⟩ : ∃ c e, creadF s.data.toList = (c, e) := ⟨_, _, rfl⟩
    have HRD := Lib.hid (fun w' => cread_l s _ e2 w' HS.out hrd)
    have HR2 := Lib.hid hrd
    unfold chkV at HRD
    simp only at HRD
    clear hrd
    by_cases hr : crE t a D.size = 0
    · obtain ⟨T, hT, _, hT3, _⟩ := cwr_facts ⟨n, t, a, D⟩ hr
      have HWR := Lib.hid (fun w' => cwrite_ok ⟨n, t, a, D⟩ T w' HOK.out hr hT)
      have HRT := Lib.hid (fun w' => cright_l n t a D 0 w' HOK.out hr)
      have HR1 := Lib.hid (fun w' => cread_l T ⟨n, t, a, D⟩ 0 w' (by omega) (by rw [← hT]; exact cread_write _ HOK.out.nm hr))
      unfold chkV at HWR HR1
      simp only at HWR HR1
      clear hT hT3 hr h9 hd hs
      go_wp2_with fail
      refine (HWR.out w1).mono ?_
      rintro r w2 ⟨rfl, hb⟩
      have HB2 : Hid (Below W.heap.size W w2) := HB1.out.trans (hb.mono HB1.out.size)
      clear hb c0 c1 c2 c3
      obtain ⟨c0, c1, c2, c3⟩ := HA.out.below HB2.out HZ.out
      simp only at c0 c1 c2 c3
      go_wp2_with fail
      refine (HRT.out w2).mono ?_
      rintro r w3 ⟨rfl, hb⟩
      have HB3 : Hid (Below W.heap.size W w3) := HB2.out.trans (hb.mono HB2.out.size)
      clear hb c0 c1 c2 c3
      rw [errV_zero]
      go_wp2_with fail
      refine (HR1.out w3).mono ?_
      rintro r w4 ⟨rfl, hb⟩
      have HB4 : Hid (Below W.heap.size W (w4.alloc (.cells #[.int .u32 n, .int .i64 t, .int .i64 a, .string D] 24))) := Lib.hid ((HB3.out.trans (hb.mono HB3.out.size)).alloc (HB3.out.trans (hb.mono HB3.out.size)).size _)
      clear hb
      rw [errV_zero]
      obtain ⟨c0, c1, c2, c3⟩ := HA.out.below HB4.out HZ.out
      simp only at c0 c1 c2 c3
      go_wp2_with fail
      refine (HRD.out _).mono ?_
      rintro r w5 ⟨rfl, hb⟩
      have HB5 : Hid (Below W.heap.size W w5) := HB4.out.trans (hb.mono HB4.out.size)
      have HB6 : Hid (Below W.heap.size W (w5.alloc (.cells #[.int .u32 n2, .int .i64 t2, .int .i64 a2, .string D2] 24))) := Lib.hid (HB5.out.alloc HB5.out.size _)
      clear hb c0 c1 c2 c3
      by_cases he : e2 = 0
      · subst he
        obtain ⟨hk, hr2, hT2⟩ := cread_ok HS.out HR2.out
        have HWR2 := Lib.hid (fun w' => cwrite_ok ⟨n2, t2, a2, D2⟩ s w' hk hr2 hT2)
        unfold chkV at HWR2
        simp only at HWR2
        clear hk hr2 hT2
        rw [errV_zero]
        obtain ⟨d0, d1, d2, d3⟩ := chkAt_new w5 ⟨n2, t2, a2, D2⟩
        simp only at d0 d1 d2 d3
        go_wp2_with fail
        refine (HWR2.out _).mono ?_
        rintro r w7 ⟨rfl, hb⟩
        have HB7 : Hid (Below W.heap.size W w7) := HB6.out.trans (hb.mono HB6.out.size)
        clear hb d0 d1 d2 d3
        go_wp2
        go_ret
        exact ⟨rfl, HE.out _ HB7.out⟩
      · have hz := cread_bad HR2.out he
        injection hz with hz1 hz2 hz3 hz4
        subst hz1 hz2 hz3 hz4
        rw [errV_ne he]
        obtain ⟨d0, d1, d2, d3⟩ := chkAt_new w5 chk0
        clear he
        unfold chk0 at d0 d1 d2 d3
        simp only at d0 d1 d2 d3
        go_wp2
        go_ret
        exact ⟨rfl, HE.out _ HB6.out⟩
    · obtain ⟨e, he⟩ : ∃ e, crE t a D.size = e := ⟨_, rfl⟩
      have h0 : e ≠ 0 := fun h => hr (he.trans h)
      have HWR := Lib.hid (fun w' => cwrite_bad ⟨n, t, a, D⟩ e w' HOK.out he h0)
      have HRT := Lib.hid (fun w' => cright_l n t a D e w' HOK.out he)
      have HE0 := Lib.hid (errV_ne h0)
      unfold chkV at HWR
      simp only at HWR
      clear he h0 hr h9 hd hs
      go_wp2_with fail
      refine (HWR.out w1).mono ?_
      rintro r w2 ⟨rfl, hb⟩
      have HB2 : Hid (Below W.heap.size W w2) := HB1.out.trans (hb.mono HB1.out.size)
      clear hb c0 c1 c2 c3
      obtain ⟨c0, c1, c2, c3⟩ := HA.out.below HB2.out HZ.out
      simp only at c0 c1 c2 c3
      go_wp2_with fail
      refine (HRT.out w2).mono ?_
      rintro r w4 ⟨rfl, hb⟩
      have HB4 : Hid (Below W.heap.size W w4) := HB2.out.trans (hb.mono HB2.out.size)
      clear hb c0 c1 c2 c3
      rw [HE0.out]
      go_wp2_with fail
      refine (HRD.out _).mono ?_
      rintro r w5 ⟨rfl, hb⟩
      have HB5 : Hid (Below W.heap.size W w5) := HB4.out.trans (hb.mono HB4.out.size)
      have HB6 : Hid (Below W.heap.size W (w5.alloc (.cells #[.int .u32 n2, .int .i64 t2, .int .i64 a2, .string D2] 24))) := Lib.hid (HB5.out.alloc HB5.out.size _)
      clear hb 
      by_cases he : e2 = 0
      · subst he
        obtain ⟨hk, hr2, hT2⟩ := cread_ok HS.out HR2.out
        have HWR2 := Lib.hid (fun w' => cwrite_ok ⟨n2, t2, a2, D2⟩ s w' hk hr2 hT2)
        unfold chkV at HWR2
        simp only at HWR2
        clear hk hr2 hT2
        rw [errV_zero]
        obtain ⟨d0, d1, d2, d3⟩ := chkAt_new w5 ⟨n2, t2, a2, D2⟩
        simp only at d0 d1 d2 d3
        go_wp2_with fail
        refine (HWR2.out _).mono ?_
        rintro r w7 ⟨rfl, hb⟩
        have HB7 : Hid (Below W.heap.size W w7) := HB6.out.trans (hb.mono HB6.out.size)
        clear hb d0 d1 d2 d3
        go_wp2
        go_ret
        exact ⟨rfl, HE.out _ HB7.out⟩
      · have hz := cread_bad HR2.out he
        injection hz with hz1 hz2 hz3 hz4
        subst hz1 hz2 hz3 hz4
        rw [errV_ne he]
        obtain ⟨d0, d1, d2, d3⟩ := chkAt_new w5 chk0
        clear he
        unfold chk0 at d0 d1 d2 d3
        simp only at d0 d1 d2 d3
        go_wp2
        go_ret
        exact ⟨rfl, HE.out _ HB6.out⟩
end Go.Proofs.Ytggokgiebdadpaa
