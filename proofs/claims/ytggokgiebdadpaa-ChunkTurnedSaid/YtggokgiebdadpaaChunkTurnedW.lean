/-
  The walk of 'packtrainkeep.ChunkTurned'.
-/
import Derived.Test.YtggokgiebdadpaaChunkBackW
import Derived.Test.YtggokgiebdadpaaCrcTurned
import Derived.Test.YtggokgiebdadpaaPick
namespace Go.Proofs.Ytggokgiebdadpaa
open Go.RowKit

theorem size_turnC (s : ByteArray) (p bits : Nat) : (⟨(turnL s.data.toList p bits).toArray⟩ : ByteArray).size = s.size := by rw [bs_size', turnL_len]; simp
/-- A piece's bytes, with bits turned: they are none, or nothing was turned. -/
theorem turned_piece {T K : ByteArray} {c : Chk} {p bits : Nat} (hT : cwrL c = T.data.toList) (hb : bits < 4294967296) (hp : p ≤ 8 * T.size) (hK : (⟨(turnL T.data.toList p bits).toArray⟩ : ByteArray) = K) :
    K = T ∨ (K ≠ T ∧ ∃ e, e ≠ 0 ∧ creadF K.data.toList = (chk0, e)) := by
  by_cases he : K = T
  · exact .inl he
  · refine .inr ⟨he, (openL K.data.toList).2, ?_, cread_open ?_⟩
    all_goals
      intro h
      have ho : (openL T.data.toList).2 = 0 := by rw [← hT]; unfold cwrL; rw [openL_seal]
      have hk : K.data.toList = turnL T.data.toList p bits := by rw [← hK]
      rw [hk] at h
      have h2 := (turnL_seen T.data.toList p bits hb (by have h3 : T.data.toList.length = T.size := by simp
                                                         omega) ho).1 h
      exact he (bytes_ext (by rw [hk, h2]))

set_option maxRecDepth 100000 in
set_option maxHeartbeats 4000000 in
theorem chunkTurned_walk (w : World) (c : Chk) (hc : ChkOk c) (fi : Int) (_ : -9223372036854775808 ≤ fi) (_ : fi ≤ 9223372036854775807) (b : Int) (b0 : 0 ≤ b) (b1 : b ≤ 4294967295) :
    Calls Try.prog 5 #[chkV c, .int .i64 fi, .int .u32 b] w fun e w' => e = .returned (.bool true) ∧ Below w.heap.size w w' := by
  obtain ⟨bn, rfl⟩ := Int.eq_ofNat_of_zero_le b0
  have HBN : Hid (bn < 4294967296) := Lib.hid (by omega)
  clear b0 b1
  obtain ⟨n, t, a, D⟩ := c
  have HOK := Lib.hid hc
  have hd : D.size ≤ 140737488351232 := hc.dat
  show Calls Try.prog 5 #[.agg #[.int .u32 n, .int .i64 t, .int .i64 a, .string D], .int .i64 fi, .int .u32 bn] w fun e w' => _
  have HW0 : Hid (Below w.heap.size w (w.alloc (.cells #[.int .u32 n, .int .i64 t, .int .i64 a, .string D] 24))) := Lib.hid ((Below.refl _ _).alloc (Nat.le_refl _) _)
  have HZ : Hid (w.heap.size < (w.alloc (.cells #[.int .u32 n, .int .i64 t, .int .i64 a, .string D] 24)).heap.size) := Lib.hid (by simp)
  have HA : Hid (chkAt (w.alloc (.cells #[.int .u32 n, .int .i64 t, .int .i64 a, .string D] 24)) w.heap.size ⟨n, t, a, D⟩) := Lib.hid (chkAt_new w ⟨n, t, a, D⟩)
  clear hc
  go_enter Try.func5, Try.ntmps5
  go_wp2_with fail
  generalize w.alloc (.cells #[.int .u32 (n : Int), .int .i64 t, .int .i64 a, .string D] 24) = W at HA HW0 HZ ⊢
  refine (pieced_any W).mono ?_
  rintro r w1 ⟨rfl, hb⟩
  have HB1 : Hid (Below W.heap.size W w1) := Lib.hid hb
  have HE : Hid (∀ w', Below W.heap.size W w' → Below w.heap.size w w') := Lib.hid (fun w' hb => HW0.out.trans (hb.mono HW0.out.size))
  clear hb HW0
  obtain ⟨c0, c1, c2, c3⟩ := HA.out.below HB1.out HZ.out
  simp only at c0 c1 c2 c3
  by_cases h9 : 300 < D.size
  · go_wp2
    go_ret
    exact ⟨rfl, HE.out _ HB1.out⟩
  · have h9' : (D.size : Int) ≤ 300 := by omega
    obtain ⟨e, he⟩ : ∃ e, crE t a D.size = e := ⟨_, rfl⟩
    have HRT := Lib.hid (fun w' => cright_l n t a D e w' HOK.out he)
    by_cases h0 : e = 0
    · subst h0
      obtain ⟨T, hT, hTz, hT3, _⟩ := cwr_facts ⟨n, t, a, D⟩ he
      have HWR := Lib.hid (fun w' => cwrite_ok ⟨n, t, a, D⟩ T w' HOK.out he hT)
      have HR1 := Lib.hid (fun w' => cread_l T ⟨n, t, a, D⟩ 0 w' (by omega) (by rw [← hT]; exact cread_write _ HOK.out.nm he))
      unfold chkV at HWR HR1
      simp only at HWR HR1
      have hT8 : 9 ≤ T.size := by simp only at hTz; omega
      have hpp := pickN_pos (a := fi) (show (0 : Int) < 8 * (T.size : Int) by omega)
      obtain ⟨p, hp⟩ := Int.eq_ofNat_of_zero_le hpp.1
      have hple : p ≤ 8 * T.size := by omega
      obtain ⟨K, hK⟩ : ∃ K : ByteArray, (⟨(turnL T.data.toList p bn).toArray⟩ : ByteArray) = K := ⟨_, rfl⟩
      have HC := Lib.hid (turned_piece hT HBN.out hple hK)
      have hKz : K.size ≤ 300 := by rw [← hK, size_turnC]; exact hT3
      have HKZ := Lib.hid hKz
      have HTU : Hid (∀ w', Calls Try.prog 15 #[.string T, .int .i64 p, .int .u32 bn] w' fun e w2 => e = .returned (.string K) ∧ Below w'.heap.size w' w2) := Lib.hid (fun w' => by
        have h := turned_any T p bn w' (by omega) (by omega) HBN.out
        rw [hK] at h
        exact h)
      have HP := Lib.hid hp
      have hTe : T.toList.isEmpty = false := by
        rw [toL]
        cases hq : T.data.toList with
        | nil => have h1 : T.data.toList.length = T.size := by simp
                 rw [hq] at h1; simp only [List.length_nil] at h1; omega
        | cons a b => rfl
      have hTe2 : (T.toList == []) = false := by
        rw [toL] at hTe ⊢
        cases hq : T.data.toList with
        | nil => rw [hq] at hTe; simp at hTe
        | cons a b => rfl
      have hmw : IntKind.i64.wrap (8 * (T.size : Int)) = 8 * (T.size : Int) := IntWalk.i64_in _ (by omega)
      have HT0 : Hid (0 < 8 * (T.size : Int)) := Lib.hid (by omega)
      have HT1 : Hid (8 * (T.size : Int) ≤ 9223372036854775807) := Lib.hid (by omega)
      clear hT hTz he hd hpp hp hple hK hKz hT8
      go_wp2_with fail
      refine (HRT.out w1).mono ?_
      rintro r w2 ⟨rfl, hb⟩
      have HB2 : Hid (Below W.heap.size W w2) := HB1.out.trans (hb.mono HB1.out.size)
      clear hb c0 c1 c2 c3
      rw [errV_zero]
      obtain ⟨c0, c1, c2, c3⟩ := HA.out.below HB2.out HZ.out
      simp only at c0 c1 c2 c3
      go_wp2_with fail
      refine (HWR.out w2).mono ?_
      rintro r w3 ⟨rfl, hb⟩
      have HB3 : Hid (Below W.heap.size W w3) := HB2.out.trans (hb.mono HB2.out.size)
      clear hb c0 c1 c2 c3
      go_wp2_with fail
      refine (pick_any fi _ w3 HT0.out HT1.out).mono ?_
      rintro r w' ⟨rfl, rfl⟩
      rw [HP.out]
      go_wp2_with fail
      refine (HTU.out w3).mono ?_
      rintro r w4 ⟨rfl, hb⟩
      have HB4 : Hid (Below W.heap.size W w4) := HB3.out.trans (hb.mono HB3.out.size)
      clear hb
      rcases HC.out with rfl | ⟨hne, e, he, hrd⟩
      · go_wp2_with fail
        refine (HR1.out w4).mono ?_
        rintro r w5 ⟨rfl, hb⟩
        have HB5 : Hid (Below W.heap.size W w5) := HB4.out.trans (hb.mono HB4.out.size)
        have HB6 : Hid (Below W.heap.size W (w5.alloc (.cells #[.int .u32 n, .int .i64 t, .int .i64 a, .string D] 24))) := Lib.hid (HB5.out.alloc HB5.out.size _)
        clear hb
        rw [errV_zero]
        go_wp2
        go_ret
        exact ⟨rfl, HE.out _ HB6.out⟩
      · have HRK := Lib.hid (fun w' => cread_l K chk0 e w' (by have := HKZ.out; omega) hrd)
        unfold chkV chk0 at HRK
        simp only at HRK
        have HEE := Lib.hid (errV_ne he)
        have hbe : (T.toList == K.toList) = false := by
          rw [toL, toL]
          exact beq_eq_false_iff_ne.2 (fun e => hne (bytes_ext e.symm))
        clear hne hrd he
        go_wp2_with fail
        refine (HRK.out w4).mono ?_
        rintro r w5 ⟨rfl, hb⟩
        have HB5 : Hid (Below W.heap.size W w5) := HB4.out.trans (hb.mono HB4.out.size)
        have HB6 : Hid (Below W.heap.size W (w5.alloc (.cells #[.int .u32 0, .int .i64 0, .int .i64 0, .string ⟨#[]⟩] 24))) := Lib.hid (HB5.out.alloc HB5.out.size _)
        obtain ⟨d0, d1, d2, d3⟩ := chkAt_new w5 chk0
        unfold chk0 at d0 d1 d2 d3
        simp only at d0 d1 d2 d3
        clear hb
        rw [HEE.out]
        go_wp2
        go_ret
        exact ⟨rfl, HE.out _ HB6.out⟩
    · have HEE := Lib.hid (errV_ne h0)
      clear he h0 hd
      go_wp2_with fail
      refine (HRT.out w1).mono ?_
      rintro r w2 ⟨rfl, hb⟩
      have HB2 : Hid (Below W.heap.size W w2) := HB1.out.trans (hb.mono HB1.out.size)
      clear hb c0 c1 c2 c3
      rw [HEE.out]
      go_wp2
      go_ret
      exact ⟨rfl, HE.out _ HB2.out⟩
end Go.Proofs.Ytggokgiebdadpaa
