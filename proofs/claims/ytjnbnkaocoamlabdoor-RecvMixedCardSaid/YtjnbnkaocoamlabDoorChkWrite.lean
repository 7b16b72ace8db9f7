/-
  The contract of chunk.Write.
-/
import Derived.Test.YtjnbnkaocoamlabDoorChkRight
import Derived.Test.YtjnbnkaocoamlabDoorChkName
import Derived.Test.YtjnbnkaocoamlabDoorCounted
import Derived.Deep.RegionHeld3
namespace Go.Proofs.YtjnbnkaocoamlabDoor
open Go.RowKit

theorem undrewC {w w' : World} (h : Below w.drew.heap.size w.drew w') : Below w.heap.size w w' := ((Below.refl _ _).drew).trans h
/-- A piece in a block. -/
def chkAt (w : World) (B : Nat) (c : Chk) : Prop := w.cell? ⟨B, 0, none⟩ = some (.int .u32 c.nm) ∧ w.cell? ⟨B, 1, none⟩ = some (.int .i64 c.tot) ∧ w.cell? ⟨B, 2, none⟩ = some (.int .i64 c.pos) ∧ w.cell? ⟨B, 3, none⟩ = some (.string c.dat)
theorem chkAt_new (w : World) (c : Chk) : chkAt (w.alloc (.cells #[.int .u32 c.nm, .int .i64 c.tot, .int .i64 c.pos, .string c.dat] 34)) w.heap.size c := by
  have h := heap_alloc_new w (.cells #[.int .u32 c.nm, .int .i64 c.tot, .int .i64 c.pos, .string c.dat] 34)
  exact ⟨cell_of_row _ _ _ _ _ _ h, cell_of_row _ _ _ _ _ _ h, cell_of_row _ _ _ _ _ _ h, cell_of_row _ _ _ _ _ _ h⟩
theorem chkAt.below {w w' : World} {B n : Nat} {c : Chk} (h : chkAt w B c) (hb : Below n w w') (hB : B < n) : chkAt w' B c := by
  obtain ⟨h0, h1, h2, h3⟩ := h
  exact ⟨(hb.cell (p := ⟨B, 0, none⟩) hB).trans h0, (hb.cell (p := ⟨B, 1, none⟩) hB).trans h1, (hb.cell (p := ⟨B, 2, none⟩) hB).trans h2, (hb.cell (p := ⟨B, 3, none⟩) hB).trans h3⟩
theorem put_l (n : Nat) (P : ByteArray) (w : World) (h : n ≤ 18446744073709551615) (hP : (⟨(putL n).toArray⟩ : ByteArray) = P) :
    Calls Tryd.prog 21 #[.int .u64 (n : Int)] w fun e w' => e = .returned (.string P) ∧ Below w.heap.size w w' := by
  rw [← hP]; exact put_nat n w h
theorem pname_l (n : Nat) (N : ByteArray) (w : World) (h : n < 4294967296) (hN : (⟨(tail4 n).toArray⟩ : ByteArray) = N) :
    Calls Tryd.prog 23 #[.int .u32 n] w fun e w' => e = .returned (.string N) ∧ Below w.heap.size w w' := by
  rw [← hN]; exact pname_any n w h
theorem seal_l (s T : ByteArray) (w : World) (hs : s.size ≤ 140737488351232) (hT : sealB s = T) :
    Calls Tryd.prog 22 #[.string s] w fun e w' => e = .returned (.string T) ∧ Below w.heap.size w w' := by
  rw [← hT]; exact seal_any s w hs
theorem bs_size' (l : List UInt8) : (⟨l.toArray⟩ : ByteArray).size = l.length := by show l.toArray.size = _; simp
theorem put_small {n : Nat} (h : n ≤ 4096) : (putL n).length ≤ 2 := putL_len 2 n (by omega) (by decide)

set_option maxRecDepth 100000 in
set_option maxHeartbeats 2000000 in
theorem cwrite_ok (c : Chk) (T : ByteArray) (w : World) (hc : ChkOk c) (hr : crE c.tot c.pos c.dat.size = 0) (hT : cwrL c = T.data.toList) :
    Calls Tryd.prog 10 #[chkV c] w fun e w' => e = .returned (.tuple #[.string T, .nilIface]) ∧ Below w.heap.size w w' := by
  have HR : Hid (∀ w', Calls Tryd.prog 20 #[chkV c] w' fun e w'' => e = .returned .nilIface ∧ Below w'.heap.size w' w'') := Lib.hid (fun w' => (cright_any c w' hc).mono fun e w'' ⟨h1, h2⟩ => ⟨h1.trans (by rw [hr]; rfl), h2⟩)
  have HA := Lib.hid (chkAt_new w c)
  obtain ⟨n, t, a, D⟩ := c
  obtain ⟨hn, _, _, _, _, hd⟩ := hc
  have hb := crE_ok.1 hr
  simp only at hb hn hd hr HR HA hT
  obtain ⟨t, rfl⟩ := Int.eq_ofNat_of_zero_le (show 0 ≤ t by omega)
  obtain ⟨a, rfl⟩ := Int.eq_ofNat_of_zero_le (show 0 ≤ a by omega)
  obtain ⟨hb1, hb2, hb3, hb4, hb5, hb6, hb7⟩ := hb
  have ht4 : t ≤ 4096 := by omega
  have ha4 : a ≤ 4096 := by omega
  obtain ⟨P, hP⟩ : ∃ P : ByteArray, (⟨(putL t).toArray⟩ : ByteArray) = P := ⟨_, rfl⟩
  obtain ⟨A, hA⟩ : ∃ P : ByteArray, (⟨(putL a).toArray⟩ : ByteArray) = P := ⟨_, rfl⟩
  obtain ⟨N, hN⟩ : ∃ P : ByteArray, (⟨(tail4 n).toArray⟩ : ByteArray) = P := ⟨_, rfl⟩
  obtain ⟨C, hC⟩ : ∃ P : ByteArray, (⟨#[67]⟩ : ByteArray) = P := ⟨_, rfl⟩
  have hPz : P.size ≤ 2 := by rw [← hP, bs_size']; exact put_small ht4
  have hAz : A.size ≤ 2 := by rw [← hA, bs_size']; exact put_small ha4
  have hNz : N.size = 4 := by rw [← hN]; rfl
  have hCz : C.size = 1 := by rw [← hC]; rfl
  have HT : Hid (sealB (C ++ N ++ (P ++ A) ++ D) = T) := Lib.hid (by
    apply bytes_ext
    rw [sealB_data, ← hT, ← hP, ← hA, ← hN, ← hC]
    unfold cwrL pieceL
    simp)
  have HSZ : Hid ((C ++ N ++ (P ++ A) ++ D).size ≤ 140737488351232) := Lib.hid (by simp only [ByteArray.size_append]; omega)
  have HP := Lib.hid (fun w' => put_l t P w' (by omega) hP)
  have HA2 := Lib.hid (fun w' => put_l a A w' (by omega) hA)
  have HN := Lib.hid (fun w' => pname_l n N w' hn hN)
  have HW0 : Hid (Below w.heap.size w (w.alloc (.cells #[.int .u32 n, .int .i64 t, .int .i64 a, .string D] 34))) := Lib.hid ((Below.refl _ _).alloc (Nat.le_refl _) _)
  have HZ : Hid (w.heap.size < (w.alloc (.cells #[.int .u32 n, .int .i64 t, .int .i64 a, .string D] 34)).heap.size) := Lib.hid (by simp)
  have kt : IntKind.u64.wrap (t : Int) = (t : Int) := IntWalk.u64_in _ ⟨by omega, by omega⟩
  have ka : IntKind.u64.wrap (a : Int) = (a : Int) := IntWalk.u64_in _ ⟨by omega, by omega⟩
  have s1 : ¬ (9223372036854775807 < P.size + A.size) := by omega
  have s2 : ¬ (9223372036854775807 < C.size + N.size) := by omega
  have s3 : ¬ (9223372036854775807 < (C ++ N).size + (P ++ A).size) := by simp only [ByteArray.size_append]; omega
  have s3' : ¬ (9223372036854775807 < C.size + N.size + (P.size + A.size)) := by omega
  have s4 : ¬ (9223372036854775807 < (C ++ N ++ (P ++ A)).size + D.size) := by simp only [ByteArray.size_append]; omega
  have s4' : ¬ (9223372036854775807 < C.size + N.size + (P.size + A.size) + D.size) := by omega
  unfold chkV at HR ⊢
  simp only at HR ⊢
  clear hPz hAz hNz hCz hP hA hN hT hr hb1 hb2 hb3 hb4 hb5 hb6 hb7 ht4 ha4 hn hd
  go_enter Tryd.func10, Tryd.ntmps10
  rw [hC]
  obtain ⟨c0, c1, c2, c3⟩ := HA.out
  simp only at c0 c1 c2 c3
  go_wp2_with fail
  generalize w.alloc (.cells #[.int .u32 (n : Int), .int .i64 (t : Int), .int .i64 (a : Int), .string D] 34) = W at HA HW0 HZ c0 c1 c2 c3 ⊢
  refine (HR.out _).mono ?_
  rintro r w1 ⟨rfl, hb1⟩
  have HB1 : Hid (Below W.heap.size W w1) := Lib.hid hb1
  have HA1 := Lib.hid (HA.out.below HB1.out HZ.out)
  clear hb1 c0 c1 c2 c3
  have hA0 := HA1.out
  unfold chkAt at hA0
  simp only at hA0
  have HZ1 : Hid (w.heap.size < w1.heap.size) := Lib.hid (Nat.lt_of_lt_of_le HZ.out HB1.out.size)
  go_wp2
  go_region_held3 (fun w' => w'.cell? ⟨w.heap.size, 0, none⟩ = some (.int .u32 (n : Int)) ∧ w'.cell? ⟨w.heap.size, 1, none⟩ = some (.int .i64 (t : Int)) ∧ w'.cell? ⟨w.heap.size, 2, none⟩ = some (.int .i64 (a : Int)) ∧ w'.cell? ⟨w.heap.size, 3, none⟩ = some (.string D)) (first | exact hA0 | exact k1 | exact k2 | fail) (first
    | (go_at_call 21; ((with_reducible refine (HP.out w1.drew).mono ?_); rintro r w2 ⟨rfl, hb2⟩; have HB2 : Hid (Below w1.heap.size w1 w2) := Lib.hid (undrewC hb2); have k1 := HA1.out.below HB2.out HZ1.out; unfold chkAt at k1; simp only at k1; clear hb2))
    | (go_at_call 21; ((with_reducible refine (HA2.out w2).mono ?_); rintro r w3 ⟨rfl, hb3⟩; have HB3 : Hid (Below w1.heap.size w1 w3) := HB2.out.trans (hb3.mono HB2.out.size); have k2 := HA1.out.below HB3.out HZ1.out; unfold chkAt at k2; simp only at k2; clear hb3))
    | fail)
  go_wp2
  have HB3' : Hid (Below w1.heap.size w1 w3.drew) := Lib.hid HB3.out.drew
  clear hA0 k1 k2
  have hA0 := HA1.out.below HB3.out HZ1.out
  unfold chkAt at hA0
  simp only at hA0
  go_region_held3 (fun w' => w'.cell? ⟨w.heap.size, 0, none⟩ = some (.int .u32 (n : Int)) ∧ w'.cell? ⟨w.heap.size, 1, none⟩ = some (.int .i64 (t : Int)) ∧ w'.cell? ⟨w.heap.size, 2, none⟩ = some (.int .i64 (a : Int)) ∧ w'.cell? ⟨w.heap.size, 3, none⟩ = some (.string D)) (first | exact hA0 | exact k3 | exact k4 | fail) (first
    | (go_at_call 23; ((with_reducible refine (HN.out w3.drew).mono ?_); rintro r w4 ⟨rfl, hb4⟩; have HB4 : Hid (Below w1.heap.size w1 w4) := HB3'.out.trans (hb4.mono HB3'.out.size); have k3 := HA1.out.below HB4.out HZ1.out; unfold chkAt at k3; simp only at k3; clear hb4))
    | (go_at_call 22; ((with_reducible refine (seal_l _ T w4 HSZ.out HT.out).mono ?_); rintro r w5 ⟨rfl, hb5⟩; have HB5 : Hid (Below w1.heap.size w1 w5) := HB4.out.trans (hb5.mono HB4.out.size); have k4 := HA1.out.below HB5.out HZ1.out; unfold chkAt at k4; simp only at k4; clear hb5))
    | fail)
  go_wp2
  go_ret2
  exact ⟨rfl, HW0.out.trans ((HB1.out.trans (HB5.out.mono HB1.out.size)).mono HW0.out.size)⟩

set_option maxRecDepth 100000 in
set_option maxHeartbeats 2000000 in
theorem cwrite_bad (c : Chk) (e : Nat) (w : World) (hc : ChkOk c) (hr : crE c.tot c.pos c.dat.size = e) (he : e ≠ 0) :
    Calls Tryd.prog 10 #[chkV c] w fun r w' => r = .returned (.tuple #[.string ⟨#[]⟩, .iface 43 (.int .i64 e)]) ∧ Below w.heap.size w w' := by
  have HR : Hid (∀ w', Calls Tryd.prog 20 #[chkV c] w' fun r w'' => r = .returned (.iface 43 (.int .i64 e)) ∧ Below w'.heap.size w' w'') := Lib.hid (fun w' => (cright_any c w' hc).mono fun r w'' ⟨h1, h2⟩ => ⟨h1.trans (by rw [hr]; unfold errV; rw [if_neg he]), h2⟩)
  obtain ⟨n, t, a, D⟩ := c
  have HW0 : Hid (Below w.heap.size w (w.alloc (.cells #[.int .u32 n, .int .i64 t, .int .i64 a, .string D] 34))) := Lib.hid ((Below.refl _ _).alloc (Nat.le_refl _) _)
  unfold chkV at HR ⊢
  simp only at HR ⊢
  clear hr hc
  go_enter Tryd.func10, Tryd.ntmps10
  go_wp2_with fail
  refine (HR.out _).mono ?_
  rintro r w1 ⟨rfl, hb1⟩
  have HB1 := Lib.hid hb1
  clear hb1
  go_wp2
  go_ret2
  exact ⟨rfl, HW0.out.trans (HB1.out.mono HW0.out.size)⟩
end Go.Proofs.YtjnbnkaocoamlabDoor
