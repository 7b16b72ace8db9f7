/-
  The walk of 'packtrainlaw.FrameReads'.
-/
import Derived.Test.YtgfinhehgfbdgaaGreatDoorRa50
import Derived.Test.YtgfinhehgfbdgaaGreatDoorRa11
import Derived.Test.YtgfinhehgfbdgaaGreatDoorRa16
namespace Go.Proofs.YtgfinhehgfbdgaaGreatDoor
open Go.RowKit

set_option maxRecDepth 100000 in
set_option maxHeartbeats 4000000 in
theorem frameReads_walk (s : ByteArray) (hs0 : s.size ≤ 140737488351232) (w : World) (hg : errT w) :
    Calls Tryz.prog 4 #[.string s] w fun e w' => e = .returned (.bool true) ∧ Below w.heap.size w w' := by
  have HG := Lib.hid hg
  clear hg
  by_cases h2000 : 2000 < s.size
  · have d1 : 2000 < (s.size : Int) := by omega
    go_enter Tryz.func4, Tryz.ntmps4
    go_wp2
    go_ret
    exact ⟨rfl, Below.refl _ _⟩
  have d1 : (s.size : Int) ≤ 2000 := by omega
  obtain ⟨x, pl, f, h, l, hr⟩ := frOut_any s.data.toList
  have HR := Lib.hid hr
  obtain ⟨v, i, e, ho⟩ : ∃ v i e, opnF s.data.toList = (v, i, e) := ⟨_, _, _, rfl⟩
  obtain ⟨J, hJ⟩ : ∃ J : ByteArray, i = J.data.toList := ⟨⟨i.toArray⟩, by simp⟩
  subst hJ
  have hwant := opn_want ho
  have HRV := Lib.hid (fun w' => rversion_as s J v e w' (by omega) ho)
  have HFV := Lib.hid (fun w' => version_as s J v e w' (by omega) ho)
  have HFI := Lib.hid (fun w' => inside_as s J v e w' (by omega) ho)
  have HP := Lib.hid (fun w' => errC_place w' e)
  clear hr ho
  obtain ⟨nf, hnf⟩ : ∃ nf, nf = f.length := ⟨_, rfl⟩
  obtain ⟨nh, hnh⟩ : ∃ nh, nh = h.length := ⟨_, rfl⟩
  obtain ⟨n, hn⟩ : ∃ n, n = l.length := ⟨_, rfl⟩
  have HU : Hid (∀ w, Calls Tryz.prog 14 #[.string s] w fun r w' => ∃ a1 c1 a2 c2 a3 c3, r = .returned (.tuple #[.agg #[.slice a1 nf c1, .slice a2 nh c2, .slice a3 n c3], .agg #[.int .i64 (x : Int), .int .i64 pl]]) ∧ BatIs w' (.slice a1 nf c1) (.slice a2 nh c2) (.slice a3 n c3) f h l ∧ Below w.heap.size w w') := Lib.hid (fun w => by rw [hnf, hnh, hn]; exact runframe_as s x pl f h l w (by omega) HR.out)
  have HRD : Hid (∀ w, errT w → Calls Tryz.prog 15 #[.string s] w fun r w' => ∃ a1 c1 a2 c2 a3 c3 err, r = .returned (.tuple #[.agg #[.slice a1 nf c1, .slice a2 nh c2, .slice a3 n c3], err]) ∧ BatIs w' (.slice a1 nf c1) (.slice a2 nh c2) (.slice a3 n c3) f h l ∧ anyErr w' err (x, pl) ∧ Below w.heap.size w w') := Lib.hid (fun w hg => by rw [hnf, hnh, hn]; exact freadR_as s x pl f h l w (by omega) hg HR.out)
  clear hnf hnh hn hs0
  obtain ⟨q, hq⟩ : ∃ q, errC e = q := ⟨_, rfl⟩
  rw [hq] at HFV HFI HP
  clear hq
  have hcs : (((e : Int) == 0) = false ∧ J = ⟨#[]⟩) ∨ (((e : Int) == 0) = true ∧ ∃ k : Nat, s.size = k + 4 ∧ 3 ≤ k ∧ s.extract 3 k = J) := by
    rcases hwant with ⟨h1, h2⟩ | ⟨h1, h2, h3⟩
    · exact .inl ⟨by simp; omega, bytes_ext h2⟩
    · rw [← size_data] at h2 h3
      refine .inr ⟨by simp; omega, s.size - 4, by omega, by omega, bytes_ext ?_⟩
      rw [h3, ext_list, List.drop_take]
  clear hwant
  go_enter Tryz.func4, Tryz.ntmps4
  go_wp2_with fail
  refine (HU.out _).mono ?_
  rintro r w1 ⟨a1, c1, a2, c2, a3, c3, rfl, hx1, hb1⟩
  have HX1 := Lib.hid ((hx1.alloc (.cells #[.slice a1 nf c1, .slice a2 nh c2, .slice a3 n c3] 25)).alloc (.cells #[.int .i64 (x : Int), .int .i64 pl] 29))
  have HB1 : Hid (Below w.heap.size w ((w1.alloc (.cells #[.slice a1 nf c1, .slice a2 nh c2, .slice a3 n c3] 25)).alloc (.cells #[.int .i64 (x : Int), .int .i64 pl] 29))) := Lib.hid ((hb1.alloc hb1.size _).alloc (by have := hb1.size; simp; omega) _)
  have HA1 := Lib.hid ((batAt_new w1 (.slice a1 nf c1) (.slice a2 nh c2) (.slice a3 n c3) 25).below ((Below.refl _ _).alloc (Nat.le_refl _) (.cells #[.int .i64 (x : Int), .int .i64 pl] 29)) (by simp))
  have HF1 : Hid (rowF ((w1.alloc (.cells #[.slice a1 nf c1, .slice a2 nh c2, .slice a3 n c3] 25)).alloc (.cells #[.int .i64 (x : Int), .int .i64 pl] 29)) (w1.heap.size + 1) (x : Int) pl) := Lib.hid (heap_alloc2_new w1 _ _)
  have HZ1 : Hid (w1.heap.size + 1 < ((w1.alloc (.cells #[.slice a1 nf c1, .slice a2 nh c2, .slice a3 n c3] 25)).alloc (.cells #[.int .i64 (x : Int), .int .i64 pl] 29)).heap.size) := Lib.hid (by simp)
  clear hx1 hb1
  go_wp2_with fail
  refine (HRD.out _ (HG.out.below HB1.out)).mono ?_
  generalize (w1.alloc (.cells #[.slice a1 nf c1, .slice a2 nh c2, .slice a3 n c3] 25)).alloc (.cells #[.int .i64 (x : Int), .int .i64 pl] 29) = W at HX1 HB1 HA1 HF1 HZ1 ⊢
  rintro r w2 ⟨e1, d1', e2, d2', e3, d3', err, rfl, hx2, hat, hb2⟩
  have HX2 := Lib.hid (hx2.alloc (.cells #[.slice e1 nf d1', .slice e2 nh d2', .slice e3 n d3'] 25))
  have HE2 : Hid (Below W.heap.size W (w2.alloc (.cells #[.slice e1 nf d1', .slice e2 nh d2', .slice e3 n d3'] 25))) := Lib.hid (hb2.alloc hb2.size _)
  have HAT := Lib.hid (hat.below (w' := w2.alloc (.cells #[.slice e1 nf d1', .slice e2 nh d2', .slice e3 n d3'] 25)) ((Below.refl _ _).alloc (Nat.le_refl _) _))
  have HA2 := Lib.hid (batAt_new w2 (.slice e1 nf d1') (.slice e2 nh d2') (.slice e3 n d3') 25)
  have HZ2 : Hid (w2.heap.size < (w2.alloc (.cells #[.slice e1 nf d1', .slice e2 nh d2', .slice e3 n d3'] 25)).heap.size) := Lib.hid (by simp)
  have HX1b := Lib.hid (HX1.out.below HE2.out)
  have HA1b := Lib.hid (HA1.out.below HE2.out (by have := HZ1.out; omega))
  have HF1b := Lib.hid (rowF.below HF1.out HE2.out HZ1.out)
  have HB2 : Hid (Below w.heap.size w (w2.alloc (.cells #[.slice e1 nf d1', .slice e2 nh d2', .slice e3 n d3'] 25))) := HB1.out.trans (HE2.out.mono HB1.out.size)
  have HZ1b : Hid (w1.heap.size + 1 < (w2.alloc (.cells #[.slice e1 nf d1', .slice e2 nh d2', .slice e3 n d3'] 25)).heap.size) := Lib.hid (Nat.lt_of_lt_of_le HZ1.out HE2.out.size)
  clear hx2 hat hb2 HX1 HA1 HF1 HB1 HE2
  go_wp2_with fail
  refine (HRV.out _).mono ?_
  generalize w2.alloc (.cells #[.slice e1 nf d1', .slice e2 nh d2', .slice e3 n d3'] 25) = W2 at HX2 HAT HA2 HZ2 HX1b HA1b HF1b HB2 HZ1b ⊢
  generalize hG2 : w2.heap.size = G2 at HA2 HZ2 ⊢
  clear hG2
  rintro r w3 ⟨rfl, hb3⟩
  have HB3 : Hid (Below W2.heap.size W2 w3) := Lib.hid hb3
  clear hb3
  go_wp2_with fail
  refine (HFV.out _).mono ?_
  rintro r w4 ⟨rfl, hb4⟩
  have HB4 : Hid (Below W2.heap.size W2 w4) := HB3.out.trans (hb4.mono HB3.out.size)
  clear hb4
  go_wp2_with fail
  refine (HFI.out _).mono ?_
  rintro r w5 ⟨rfl, hb5⟩
  have HB5 : Hid (Below W2.heap.size W2 w5) := HB4.out.trans (hb5.mono HB4.out.size)
  have HBW : Hid (Below w.heap.size w w5) := HB2.out.trans (HB5.out.mono HB2.out.size)
  clear hb5
  have HX15 := Lib.hid (HX1b.out.below HB5.out)
  have HX25 := Lib.hid (HX2.out.below HB5.out)
  have HA15 := Lib.hid (HA1b.out.below HB5.out (by have := HZ1b.out; omega))
  have HA25 := Lib.hid (HA2.out.below HB5.out HZ2.out)
  have HF15 := Lib.hid (HF1b.out.below HB5.out HZ1b.out)
  have HAT5 := Lib.hid (HAT.out.below HB5.out)
  have HZ5 : Hid (w1.heap.size + 1 < w5.heap.size ∧ G2 < w5.heap.size) := Lib.hid ⟨Nat.lt_of_lt_of_le HZ1b.out HB5.out.size, Nat.lt_of_lt_of_le HZ2.out HB5.out.size⟩
  obtain ⟨g0, g1⟩ := HF15.out.at
  have hvv : ((v : Int) == (v : Int)) = true := beq_self_eq_true _
  have hjj : (J.toList == J.toList) = true := beq_self_eq_true _
  rcases hcs with ⟨hc0, hJ⟩ | ⟨hc0, k, hk1, hk2, hk3⟩
  · subst hJ
    go_wp2_with fail
    refine (placed_ok _ x pl w5 (HG.out.below HBW.out) HAT5.out.place).mono ?_
    rintro r w6 ⟨rfl, hb6⟩
    have HB6 : Hid (Below w5.heap.size w5 w6) := Lib.hid hb6
    clear hb6 g0 g1
    obtain ⟨p0, p1, p2⟩ := HA15.out.below HB6.out (by have := HZ5.out; omega)
    obtain ⟨q0, q1, q2⟩ := HA25.out.below HB6.out HZ5.out.2
    go_wp2_with fail
    refine (rbsame_as _ _ _ _ _ _ f h l f h l true w6 (HX15.out.below HB6.out) (HX25.out.below HB6.out) (sameV_self f h l)).mono ?_
    rintro r w7 ⟨rfl, hb7⟩
    have HB7 : Hid (Below w.heap.size w w7) := HBW.out.trans ((HB6.out.trans (hb7.mono HB6.out.size)).mono HBW.out.size)
    clear hb7 p0 p1 p2 q0 q1 q2
    go_wp2_with fail
    refine (bare_ok q e w7 (HG.out.below HB7.out) (HP.out w7)).mono ?_
    rintro r w8 ⟨rfl, hb8⟩
    have HB8 : Hid (Below w.heap.size w w8) := HB7.out.trans (hb8.mono HB7.out.size)
    clear hb8
    go_wp2_with fail
    refine (bare_ok q e w8 (HG.out.below HB8.out) (HP.out w8)).mono ?_
    rintro r w9 ⟨rfl, hb9⟩
    have HB9 : Hid (Below w.heap.size w w9) := HB8.out.trans (hb9.mono HB8.out.size)
    clear hb9
    go_wp2
    go_ret
    exact ⟨by first | rfl | simp, HB9.out⟩
  · have k1 : (s.size : Int) - 4 = (k : Int) := by omega
    have k2 : (3 : Int) ≤ (k : Int) := by omega
    have k3 : (k : Int) ≤ (s.size : Int) := by omega
    have k4 : k ≤ s.size := by omega
    have k5 : 3 ≤ k := hk2
    clear hk1 hk2
    go_wp2_with fail
    refine (placed_ok _ x pl w5 (HG.out.below HBW.out) HAT5.out.place).mono ?_
    rintro r w6 ⟨rfl, hb6⟩
    have HB6 : Hid (Below w5.heap.size w5 w6) := Lib.hid hb6
    clear hb6 g0 g1
    obtain ⟨p0, p1, p2⟩ := HA15.out.below HB6.out (by have := HZ5.out; omega)
    obtain ⟨q0, q1, q2⟩ := HA25.out.below HB6.out HZ5.out.2
    go_wp2_with fail
    refine (rbsame_as _ _ _ _ _ _ f h l f h l true w6 (HX15.out.below HB6.out) (HX25.out.below HB6.out) (sameV_self f h l)).mono ?_
    rintro r w7 ⟨rfl, hb7⟩
    have HB7 : Hid (Below w.heap.size w w7) := HBW.out.trans ((HB6.out.trans (hb7.mono HB6.out.size)).mono HBW.out.size)
    clear hb7 p0 p1 p2 q0 q1 q2
    go_wp2_with fail
    refine (bare_ok q e w7 (HG.out.below HB7.out) (HP.out w7)).mono ?_
    rintro r w8 ⟨rfl, hb8⟩
    have HB8 : Hid (Below w.heap.size w w8) := HB7.out.trans (hb8.mono HB7.out.size)
    clear hb8
    go_wp2_with fail
    refine (bare_ok q e w8 (HG.out.below HB8.out) (HP.out w8)).mono ?_
    rintro r w9 ⟨rfl, hb9⟩
    have HB9 : Hid (Below w.heap.size w w9) := HB8.out.trans (hb9.mono HB8.out.size)
    clear hb9
    go_wp2
    go_ret
    exact ⟨by first | rfl | simp, HB9.out⟩
end Go.Proofs.YtgfinhehgfbdgaaGreatDoor
