/-
  The walk of 'packtrainlaw.ChunkTurns': any piece as bytes, and the piece that any bytes are, is the document's.
-/
import Derived.Test.YtggokgiebdadpaaDoorChkRefRead
import Derived.Test.YtggokgiebdadpaaDoorPlace
namespace Go.Proofs.YtggokgiebdadpaaDoor
open Go.RowKit

theorem placeIs_errK (w : World) (e : Nat) : placeIs w (errV e) e (-1) := by
  unfold placeIs errV
  by_cases h : e = 0
  · rw [if_pos h]; exact .inl ⟨rfl, by omega, rfl⟩
  · rw [if_neg h]; exact .inr (.inl ⟨rfl, rfl⟩)

set_option maxRecDepth 100000 in
set_option maxHeartbeats 4000000 in
theorem chunkTurns_walk (w : World) (c : Chk) (hc : ChkOk c) (s : ByteArray) (hs : s.size ≤ 140737488351232) (hg : errT w) :
    Calls Tryd.prog 4 #[chkV c, .string s] w fun e w' => e = .returned (.bool true) ∧ Below w.heap.size w w' := by
  obtain ⟨n, t, a, D⟩ := c
  have HOK := Lib.hid hc
  have hd : D.size ≤ 140737488351232 := hc.dat
  show Calls Tryd.prog 4 #[.agg #[.int .u32 n, .int .i64 t, .int .i64 a, .string D], .string s] w fun e w' => _
  have HW0 : Hid (Below w.heap.size w (w.alloc (.cells #[.int .u32 n, .int .i64 t, .int .i64 a, .string D] 34))) := Lib.hid ((Below.refl _ _).alloc (Nat.le_refl _) _)
  have HZ : Hid (w.heap.size < (w.alloc (.cells #[.int .u32 n, .int .i64 t, .int .i64 a, .string D] 34)).heap.size) := Lib.hid (by simp)
  have HA : Hid (chkAt (w.alloc (.cells #[.int .u32 n, .int .i64 t, .int .i64 a, .string D] 34)) w.heap.size ⟨n, t, a, D⟩) := Lib.hid (chkAt_new w ⟨n, t, a, D⟩)
  have HG := Lib.hid hg
  have kw : IntKind.i64.wrap ((D.size : Int) + (s.size : Int)) = (D.size : Int) + (s.size : Int) := IntWalk.i64_in _ (by omega)
  clear hc hg
  by_cases h15 : 1500 < D.size + s.size
  · have h15' : (1500 : Int) < (D.size : Int) + (s.size : Int) := by omega
    obtain ⟨c0, c1, c2, c3⟩ := HA.out
    simp only at c0 c1 c2 c3
    go_enter Tryd.func4, Tryd.ntmps4
    go_wp2
    go_ret
    exact ⟨rfl, HW0.out⟩
  · have h15' : (D.size : Int) + (s.size : Int) ≤ 1500 := by omega
    obtain ⟨e, he⟩ : ∃ e, crE t a D.size = e := ⟨_, rfl⟩
    obtain ⟨err, herr⟩ : ∃ v, errV e = v := ⟨_, rfl⟩
    have HP1 : Hid (∀ w', placeIs w' err (e : Int) (-1)) := Lib.hid (fun w' => by rw [← herr]; exact placeIs_errK w' e)
    obtain ⟨T, hT1, hT2⟩ : ∃ T : ByteArray, (∀ w', Calls Tryd.prog 9 #[.agg #[.int .u32 n, .int .i64 t, .int .i64 a, .string D]] w' fun r w2 => r = .returned (.tuple #[.string T, .int .i64 e]) ∧ Below w'.heap.size w' w2) ∧
        (∀ w', Calls Tryd.prog 10 #[.agg #[.int .u32 n, .int .i64 t, .int .i64 a, .string D]] w' fun r w2 => r = .returned (.tuple #[.string T, err]) ∧ Below w'.heap.size w' w2) := by
      by_cases h0 : e = 0
      · subst h0
        rw [← herr]
        exact ⟨⟨(cwrL ⟨n, t, a, D⟩).toArray⟩, fun w' => rcwrite_ok ⟨n, t, a, D⟩ _ w' HOK.out he (by simp), fun w' => cwrite_ok ⟨n, t, a, D⟩ _ w' HOK.out he (by simp)⟩
      · have h : errV e = .iface 23 (.int .i64 e) := by unfold errV; rw [if_neg h0]
        rw [← herr, h]
        exact ⟨⟨#[]⟩, fun w' => rcwrite_bad ⟨n, t, a, D⟩ e w' HOK.out he h0, fun w' => cwrite_bad ⟨n, t, a, D⟩ e w' HOK.out he h0⟩
    have HT1 := Lib.hid hT1
    have HT2 := Lib.hid hT2
    have HRT : Hid (∀ w', Calls Tryd.prog 13 #[.agg #[.int .u32 n, .int .i64 t, .int .i64 a, .string D]] w' fun r w2 => r = .returned err ∧ Below w'.heap.size w' w2) := Lib.hid (fun w' => by
      have h := cright_any ⟨n, t, a, D⟩ w' HOK.out
      rw [he, herr] at h
      exact h)
    obtain ⟨⟨n2, t2, a2, D2⟩, e2, hrd⟩ : ∃ c e, creadF s.data.toList = (c, e) := ⟨_, _, rfl⟩
    obtain ⟨bad, hbad⟩ : ∃ v, errV e2 = v := ⟨_, rfl⟩
    have HP2 : Hid (∀ w', placeIs w' bad (e2 : Int) (-1)) := Lib.hid (fun w' => by rw [← hbad]; exact placeIs_errK w' e2)
    have HR1 : Hid (∀ w', Calls Tryd.prog 11 #[.string s] w' fun r w2 => r = .returned (.tuple #[.agg #[.int .u32 n2, .int .i64 t2, .int .i64 a2, .string D2], .int .i64 e2]) ∧ Below w'.heap.size w' w2) := Lib.hid (fun w' => by
      have h := rcread_any s w' (by omega)
      rw [hrd] at h
      exact h)
    have HR2 : Hid (∀ w', Calls Tryd.prog 12 #[.string s] w' fun r w2 => r = .returned (.tuple #[.agg #[.int .u32 n2, .int .i64 t2, .int .i64 a2, .string D2], bad]) ∧ Below w'.heap.size w' w2) := Lib.hid (fun w' => by
      have h := cread_any s w' (by omega)
      rw [hrd, hbad] at h
      exact h)
    clear hT1 hT2 hrd hbad herr he h15 hd hs
    obtain ⟨c0, c1, c2, c3⟩ := HA.out
    simp only at c0 c1 c2 c3
    go_enter Tryd.func4, Tryd.ntmps4
    go_wp2_with fail
    generalize w.alloc (.cells #[.int .u32 (n : Int), .int .i64 t, .int .i64 a, .string D] 34) = W at HA HW0 HZ c0 c1 c2 c3 ⊢
    have HE : Hid (∀ w', Below W.heap.size W w' → Below w.heap.size w w') := Lib.hid (fun w' hb => HW0.out.trans (hb.mono HW0.out.size))
    refine (HT1.out W).mono ?_
    rintro r w1 ⟨rfl, hb⟩
    have HB1 : Hid (Below W.heap.size W w1) := Lib.hid hb
    clear hb c0 c1 c2 c3
    obtain ⟨c0, c1, c2, c3⟩ := HA.out.below HB1.out HZ.out
    simp only at c0 c1 c2 c3
    go_wp2_with fail
    refine (HT2.out w1).mono ?_
    rintro r w2 ⟨rfl, hb⟩
    have HB2 : Hid (Below W.heap.size W w2) := HB1.out.trans (hb.mono HB1.out.size)
    clear hb c0 c1 c2 c3
    go_wp2_with fail
    refine (HR1.out w2).mono ?_
    rintro r w3 ⟨rfl, hb⟩
    have HB3 : Hid (Below W.heap.size W w3) := HB2.out.trans (hb.mono HB2.out.size)
    have HX := Lib.hid (chkAt_new w3 ⟨n2, t2, a2, D2⟩)
    simp only at HX
    have HB4 : Hid (Below W.heap.size W (w3.alloc (.cells #[.int .u32 n2, .int .i64 t2, .int .i64 a2, .string D2] 34))) := Lib.hid (HB3.out.alloc HB3.out.size _)
    have HXZ : Hid (w3.heap.size < (w3.alloc (.cells #[.int .u32 n2, .int .i64 t2, .int .i64 a2, .string D2] 34)).heap.size) := Lib.hid (by simp)
    clear hb
    go_wp2_with fail
    generalize w3.alloc (.cells #[.int .u32 (n2 : Int), .int .i64 t2, .int .i64 a2, .string D2] 34) = w4 at HX HB4 HXZ ⊢
    generalize w3.heap.size = B at HX HXZ ⊢
    refine (HR2.out w4).mono ?_
    rintro r w5 ⟨rfl, hb⟩
    have HB5 : Hid (Below W.heap.size W w5) := HB4.out.trans (hb.mono HB4.out.size)
    have HX5 := Lib.hid (HX.out.below hb HXZ.out)
    have HXZ5 : Hid (B < w5.heap.size) := Lib.hid (Nat.lt_of_lt_of_le HXZ.out hb.size)
    have HY := Lib.hid (chkAt_new w5 ⟨n2, t2, a2, D2⟩)
    simp only at HY
    have HX6 : Hid (chkAt (w5.alloc (.cells #[.int .u32 n2, .int .i64 t2, .int .i64 a2, .string D2] 34)) B ⟨n2, t2, a2, D2⟩) := Lib.hid (HX5.out.below ((Below.refl _ _).alloc (Nat.le_refl _) _) HXZ5.out)
    have HB6 : Hid (Below W.heap.size W (w5.alloc (.cells #[.int .u32 n2, .int .i64 t2, .int .i64 a2, .string D2] 34))) := Lib.hid (HB5.out.alloc HB5.out.size _)
    have HYZ : Hid (w5.heap.size < (w5.alloc (.cells #[.int .u32 n2, .int .i64 t2, .int .i64 a2, .string D2] 34)).heap.size) := Lib.hid (by simp)
    have HXZ6 : Hid (B < (w5.alloc (.cells #[.int .u32 n2, .int .i64 t2, .int .i64 a2, .string D2] 34)).heap.size) := Lib.hid (by have := HXZ5.out; simp; omega)
    clear hb HX HX5 HXZ
    go_wp2_with fail
    generalize w5.alloc (.cells #[.int .u32 (n2 : Int), .int .i64 t2, .int .i64 a2, .string D2] 34) = w6 at HX6 HY HB6 HYZ HXZ6 ⊢
    generalize w5.heap.size = C at HY HYZ ⊢
    refine (bare_ok err e w6 (HG.out.below (HE.out _ HB6.out)) (HP1.out _)).mono ?_
    rintro r w7 ⟨rfl, hb⟩
    have HB7 : Hid (Below W.heap.size W w7) := HB6.out.trans (hb.mono HB6.out.size)
    have HQ7 : Hid (Below w6.heap.size w6 w7) := Lib.hid hb
    clear hb
    obtain ⟨c0, c1, c2, c3⟩ := HA.out.below HB7.out HZ.out
    simp only at c0 c1 c2 c3
    go_wp2_with fail
    refine (HRT.out w7).mono ?_
    rintro r w8 ⟨rfl, hb⟩
    have HB8 : Hid (Below W.heap.size W w8) := HB7.out.trans (hb.mono HB7.out.size)
    have HQ8 : Hid (Below w6.heap.size w6 w8) := HQ7.out.trans (hb.mono HQ7.out.size)
    clear hb c0 c1 c2 c3
    go_wp2_with fail
    refine (bare_ok err e w8 (HG.out.below (HE.out _ HB8.out)) (HP1.out _)).mono ?_
    rintro r w9 ⟨rfl, hb⟩
    have HB9 : Hid (Below W.heap.size W w9) := HB8.out.trans (hb.mono HB8.out.size)
    have HQ9 : Hid (Below w6.heap.size w6 w9) := HQ8.out.trans (hb.mono HQ8.out.size)
    clear hb
    go_wp2_with fail
    refine (bare_ok bad e2 w9 (HG.out.below (HE.out _ HB9.out)) (HP2.out _)).mono ?_
    rintro r w10 ⟨rfl, hb⟩
    have HB10 : Hid (Below W.heap.size W w10) := HB9.out.trans (hb.mono HB9.out.size)
    have HQ10 : Hid (Below w6.heap.size w6 w10) := HQ9.out.trans (hb.mono HQ9.out.size)
    clear hb
    obtain ⟨x0, x1, x2, x3⟩ := HX6.out.below HQ10.out HXZ6.out
    obtain ⟨y0, y1, y2, y3⟩ := HY.out.below HQ10.out HYZ.out
    simp only at x0 x1 x2 x3 y0 y1 y2 y3
    go_wp2
    go_ret
    exact ⟨rfl, HE.out _ HB10.out⟩
end Go.Proofs.YtggokgiebdadpaaDoor
