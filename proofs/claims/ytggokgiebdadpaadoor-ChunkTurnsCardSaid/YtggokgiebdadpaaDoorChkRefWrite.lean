/-
  The contract of the document's Chunk.
-/
import Derived.Test.YtggokgiebdadpaaDoorChkRefRight
namespace Go.Proofs.YtggokgiebdadpaaDoor
open Go.RowKit

theorem rvary_l (n : Nat) (P : ByteArray) (w : World) (h : n ≤ 18446744073709551615) (hP : (⟨(putL n).toArray⟩ : ByteArray) = P) :
    Calls Tryd.prog 22 #[.int .u64 (n : Int)] w fun e w' => e = .returned (.string P) ∧ Below w.heap.size w w' := by
  rw [← hP]; exact rvary_any n w h
theorem rseal_l (s T : ByteArray) (w : World) (hs : s.size ≤ 1000000) (hT : sealB s = T) :
    Calls Tryd.prog 20 #[.string s] w fun e w' => e = .returned (.string T) ∧ Below w.heap.size w w' := by
  rw [← hT]; exact refseal_any s w hs

set_option maxRecDepth 100000 in
set_option maxHeartbeats 2000000 in
theorem rcwrite_ok (c : Chk) (T : ByteArray) (w : World) (hc : ChkOk c) (hr : crE c.tot c.pos c.dat.size = 0) (hT : cwrL c = T.data.toList) :
    Calls Tryd.prog 9 #[chkV c] w fun e w' => e = .returned (.tuple #[.string T, .int .i64 0]) ∧ Below w.heap.size w w' := by
  have HR : Hid (∀ w', Calls Tryd.prog 19 #[chkV c] w' fun e w'' => e = .returned (.int .i64 0) ∧ Below w'.heap.size w' w'') := Lib.hid (fun w' => rcright_any c.nm c.tot c.pos c.dat 0 w' hc hr)
  have HA := Lib.hid (chkAt_new w c)
  obtain ⟨n, t, a, D⟩ := c
  obtain ⟨hn, _, _, _, _, hd⟩ := hc
  have hb := crE_ok.1 hr
  simp only at hb hn hd hr HR HA hT
  obtain ⟨t, rfl⟩ := Int.eq_ofNat_of_zero_le (show 0 ≤ t by omega)
  obtain ⟨a, rfl⟩ := Int.eq_ofNat_of_zero_le (show 0 ≤ a by omega)
  obtain ⟨hb1, hb2, hb3, hb4, hb5, hb6, hb7⟩ := hb
  have ht4 : t ≤ 4096 := by omega
  have ha4 : a ≤ 4096 := by omega
  obtain ⟨P, hP⟩ : ∃ P : ByteArray, (⟨(putL t).toArray⟩ : ByteArray) = P := ⟨_, rfl⟩
  obtain ⟨A, hA⟩ : ∃ P : ByteArray, (⟨(putL a).toArray⟩ : ByteArray) = P := ⟨_, rfl⟩
  obtain ⟨N, hN⟩ : ∃ P : ByteArray, (⟨(tail4 n).toArray⟩ : ByteArray) = P := ⟨_, rfl⟩
  obtain ⟨C, hC⟩ : ∃ P : ByteArray, (⟨#[67]⟩ : ByteArray) = P := ⟨_, rfl⟩
  have hPz : P.size ≤ 2 := by rw [← hP, bs_size']; exact put_small ht4
  have hAz : A.size ≤ 2 := by rw [← hA, bs_size']; exact put_small ha4
  have hNz : N.size = 4 := by rw [← hN]; rfl
  have hCz : C.size = 1 := by rw [← hC]; rfl
  have HT : Hid (sealB (C ++ N ++ P ++ A ++ D) = T) := Lib.hid (by
    apply bytes_ext
    rw [sealB_data, ← hT, ← hP, ← hA, ← hN, ← hC]
    unfold cwrL pieceL
    simp)
  have HSZ : Hid ((C ++ N ++ P ++ A ++ D).size ≤ 1000000) := Lib.hid (by simp only [ByteArray.size_append]; omega)
  have HP := Lib.hid (fun w' => rvary_l t P w' (by omega) hP)
  have HA2 := Lib.hid (fun w' => rvary_l a A w' (by omega) hA)
  have HN := Lib.hid (fun w' => four_l n N w' hn hN)
  have HW0 : Hid (Below w.heap.size w (w.alloc (.cells #[.int .u32 n, .int .i64 t, .int .i64 a, .string D] 34))) := Lib.hid ((Below.refl _ _).alloc (Nat.le_refl _) _)
  have HZ : Hid (w.heap.size < (w.alloc (.cells #[.int .u32 n, .int .i64 t, .int .i64 a, .string D] 34)).heap.size) := Lib.hid (by simp)
  have kt : IntKind.u64.wrap (t : Int) = (t : Int) := IntWalk.u64_in _ ⟨by omega, by omega⟩
  have ka : IntKind.u64.wrap (a : Int) = (a : Int) := IntWalk.u64_in _ ⟨by omega, by omega⟩
  have s2 : ¬ (9223372036854775807 < C.size + N.size) := by omega
  have s3 : ¬ (9223372036854775807 < (C ++ N).size + P.size) := by simp only [ByteArray.size_append]; omega
  have s3' : ¬ (9223372036854775807 < C.size + N.size + P.size) := by omega
  have s5 : ¬ (9223372036854775807 < (C ++ N ++ P).size + A.size) := by simp only [ByteArray.size_append]; omega
  have s5' : ¬ (9223372036854775807 < C.size + N.size + P.size + A.size) := by omega
  have s4 : ¬ (9223372036854775807 < (C ++ N ++ P ++ A).size + D.size) := by simp only [ByteArray.size_append]; omega
  have s4' : ¬ (9223372036854775807 < C.size + N.size + P.size + A.size + D.size) := by omega
  unfold chkV at HR ⊢
  simp only at HR ⊢
  clear hPz hAz hNz hCz hP hA hN hT hr hb1 hb2 hb3 hb4 hb5 hb6 hb7 ht4 ha4 hn hd
  go_enter Tryd.func9, Tryd.ntmps9
  rw [hC]
  obtain ⟨c0, c1, c2, c3⟩ := HA.out
  simp only at c0 c1 c2 c3
  go_wp2_with fail
  generalize w.alloc (.cells #[.int .u32 (n : Int), .int .i64 (t : Int), .int .i64 (a : Int), .string D] 34) = W at HA HW0 HZ c0 c1 c2 c3 ⊢
  refine (HR.out _).mono ?_
  rintro r w1 ⟨rfl, hb1⟩
  have HB1 : Hid (Below W.heap.size W w1) := Lib.hid hb1
  have HA1 := Lib.hid (HA.out.below HB1.out HZ.out)
  clear hb1 c0 c1 c2 c3
  have hA0 := HA1.out
  unfold chkAt at hA0
  simp only at hA0
  have HZ1 : Hid (w.heap.size < w1.heap.size) := Lib.hid (Nat.lt_of_lt_of_le HZ.out HB1.out.size)
  go_wp2
  go_region_held3 (fun w' => w'.cell? ⟨w.heap.size, 0, none⟩ = some (.int .u32 (n : Int)) ∧ w'.cell? ⟨w.heap.size, 1, none⟩ = some (.int .i64 (t : Int)) ∧ w'.cell? ⟨w.heap.size, 2, none⟩ = some (.int .i64 (a : Int)) ∧ w'.cell? ⟨w.heap.size, 3, none⟩ = some (.string D)) (first | exact hA0 | exact k1 | exact k2 | exact k3 | exact k4 | fail) (first
    | (go_at_call 21; ((with_reducible refine (HN.out w1.drew).mono ?_); rintro r w2 ⟨rfl, hb2⟩; have HB2 : Hid (Below w1.heap.size w1 w2) := Lib.hid (undrewC hb2); have k1 := HA1.out.below HB2.out HZ1.out; unfold chkAt at k1; simp only at k1; clear hb2))
    | (go_at_call 22; ((with_reducible refine (HP.out w2).mono ?_); rintro r w3 ⟨rfl, hb3⟩; have HB3 : Hid (Below w1.heap.size w1 w3) := HB2.out.trans (hb3.mono HB2.out.size); have k2 := HA1.out.below HB3.out HZ1.out; unfold chkAt at k2; simp only at k2; clear hb3))
    | (go_at_call 22; ((with_reducible refine (HA2.out w3).mono ?_); rintro r w4 ⟨rfl, hb4⟩; have HB4 : Hid (Below w1.heap.size w1 w4) := HB3.out.trans (hb4.mono HB3.out.size); have k3 := HA1.out.below HB4.out HZ1.out; unfold chkAt at k3; simp only at k3; clear hb4))
    | (go_at_call 20; ((with_reducible refine (rseal_l _ T w4 HSZ.out HT.out).mono ?_); rintro r w5 ⟨rfl, hb5⟩; have HB5 : Hid (Below w1.heap.size w1 w5) := HB4.out.trans (hb5.mono HB4.out.size); have k4 := HA1.out.below HB5.out HZ1.out; unfold chkAt at k4; simp only at k4; clear hb5))
    | fail)
  go_wp2
  go_ret2
  exact ⟨rfl, HW0.out.trans ((HB1.out.trans (HB5.out.mono HB1.out.size)).mono HW0.out.size)⟩

set_option maxRecDepth 100000 in
set_option maxHeartbeats 2000000 in
theorem rcwrite_bad (c : Chk) (e : Nat) (w : World) (hc : ChkOk c) (hr : crE c.tot c.pos c.dat.size = e) (he : e ≠ 0) :
    Calls Tryd.prog 9 #[chkV c] w fun r w' => r = .returned (.tuple #[.string ⟨#[]⟩, .int .i64 e]) ∧ Below w.heap.size w w' := by
  have HR : Hid (∀ w', Calls Tryd.prog 19 #[chkV c] w' fun r w'' => r = .returned (.int .i64 e) ∧ Below w'.heap.size w' w'') := Lib.hid (fun w' => rcright_any c.nm c.tot c.pos c.dat e w' hc hr)
  obtain ⟨n, t, a, D⟩ := c
  have HW0 : Hid (Below w.heap.size w (w.alloc (.cells #[.int .u32 n, .int .i64 t, .int .i64 a, .string D] 34))) := Lib.hid ((Below.refl _ _).alloc (Nat.le_refl _) _)
  unfold chkV at HR ⊢
  simp only at HR ⊢
  have hne : ((e : Int) != 0) = true := by simp; omega
  clear hr hc
  go_enter Tryd.func9, Tryd.ntmps9
  go_wp2_with fail
  refine (HR.out _).mono ?_
  rintro r w1 ⟨rfl, hb1⟩
  have HB1 := Lib.hid hb1
  clear hb1
  go_wp2
  go_ret2
  exact ⟨rfl, HW0.out.trans (HB1.out.mono HW0.out.size)⟩
end Go.Proofs.YtggokgiebdadpaaDoor
