/-
  The walk of 'packtrainkeep.WriteBack'.
-/
import Derived.Test.YtimaddmgooefdaaWritten
namespace Go.Proofs.Ytimaddmgooefdaa
open Go.RowKit

set_option maxRecDepth 100000 in
set_option maxHeartbeats 8000000 in
theorem writeBack_walk (w : World) (x : Wr) (ho : WrOk x) (more : ByteArray) (hm : more.size ≤ 140737488351232) :
    Calls Try.prog 4 #[wrV x, .string more] w fun e w' => e = .returned (.bool true) ∧ Below w.heap.size w w' := by
  obtain ⟨T, R, K, key, val, N⟩ := x
  obtain ⟨_, _, hk, hv⟩ := ho
  simp only at hk hv
  show Calls Try.prog 4 #[.agg #[.int .i64 T, .int .i64 R, .int .i64 K, .string key, .string val, .int .i64 N], .string more] w _
  have HA0 := Lib.hid (wrAt_new w T R K key val N 32)
  go_enter Try.func4, Try.ntmps4
  go_wp2_with fail
  refine (tailed_any _).mono ?_
  rintro r w1 ⟨rfl, hb1⟩
  have HA1 := Lib.hid (HA0.out.below hb1 (by simp))
  have HB1 := Lib.hid (((Below.refl _ _).alloc (Nat.le_refl _) _).trans (hb1.mono (by simp)))
  have HL1 : Hid (w.heap.size < w1.heap.size) := Lib.hid (by have := hb1.size; simp at this; exact this)
  clear hb1
  obtain ⟨c0, c1, c2, c3, c4, c5⟩ := HA1.out
  by_cases hbig : 900 < key.size + val.size + more.size
  · have hb : (900 : Int) < (key.size : Int) + val.size + more.size := by omega
    go_wp2
    go_ret
    exact ⟨rfl, HB1.out⟩
  · have hb : ¬ (900 : Int) < (key.size : Int) + val.size + more.size := by omega
    go_wp2_with fail
    refine (wtail_any T R K key val N w1 hk hv).mono ?_
    rintro r w2 ⟨rfl, hb2⟩
    have HA2 := Lib.hid (HA1.out.below hb2 HL1.out)
    have HB2 := Lib.hid (HB1.out.trans (hb2.mono HB1.out.size))
    have HL2 : Hid (w.heap.size < w2.heap.size) := Lib.hid (Nat.lt_of_lt_of_le HL1.out hb2.size)
    clear hb2 c0 c1 c2 c3 c4 c5
    obtain ⟨c0, c1, c2, c3, c4, c5⟩ := HA2.out
    obtain ⟨E, hE⟩ : ∃ E, wrE T R K key val N = E := ⟨_, rfl⟩
    by_cases h0 : E = 0
    · subst h0
      rw [tailF_ok hE]
      have hts : (tailB K val N).size ≤ 320 := by
        have h1 := numB_size (wrE_good hE).2.2.2.2.2
        have h2 : (valB K val).size ≤ 310 := by
          unfold valB; split
          · exact spanB_le (wrE_good hE).2.2.2.1
          · exact Nat.zero_le _
        rw [back_t]; omega
      have HX : Hid (getN K ((tailB K val N) ++ more).data.toList = (N, (numB K N).size, 0)) := Lib.hid (show _ = _ by
        rw [app_data]; unfold tailB; rw [app_data, List.append_assoc]; exact back_n hE _)
      have HY : Hid (getV K (((tailB K val N) ++ more).data.toList.drop (numB K N).size) = (val.data.toList, (valB K val).size, 0)) := Lib.hid (show _ = _ by
        rw [app_data, back_d]; exact back_v hE _)
      have HSUM : Hid ((numB K N).size + (valB K val).size = (tailB K val N).size) := Lib.hid (back_t K val N).symm
      have HE := Lib.hid hE
      obtain ⟨P, hP⟩ : ∃ P, tailB K val N = P := ⟨_, rfl⟩
      rw [hP] at hts HX HY HSUM ⊢
      clear hP hE
      unfold textV
      rw [show errV (P, 0).2 = Value.nilIface from rfl]
      have hps : P.size + more.size ≤ 2000 := by omega
      go_wp2_with fail
      refine (wright_any T R K key val N w2 hk hv).mono ?_
      rintro r w3 ⟨rfl, hb3⟩
      rw [HE.out, show errV 0 = Value.nilIface from rfl]
      have HA3 := Lib.hid (HA2.out.below hb3 HL2.out)
      have HB3 := Lib.hid (HB2.out.trans (hb3.mono HB2.out.size))
      have HL3 : Hid (w.heap.size < w3.heap.size) := Lib.hid (Nat.lt_of_lt_of_le HL2.out hb3.size)
      clear hb3 c0 c1 c2 c3 c4 c5
      obtain ⟨c0, c1, c2, c3, c4, c5⟩ := HA3.out
      go_wp2_with fail
      refine (wfill_ok (key := key) hk (by rw [app_size]; omega) HX.out HY.out (by rw [bs_of]; exact HE.out)).mono ?_
      rintro r w4 ⟨rfl, hb4⟩
      rw [bs_of, HSUM.out]
      have HA4 := Lib.hid (HA3.out.below (((Below.refl _ _).alloc (Nat.le_refl _) _).trans (hb4.mono (by simp))) HL3.out)
      have HB4 := Lib.hid (HB3.out.trans ((((Below.refl _ _).alloc (Nat.le_refl _) _).trans (hb4.mono (by simp))).mono HB3.out.size))
      have HL4 : Hid (w.heap.size < w4.heap.size) := Lib.hid (by have h1 := hb4.size; have h2 := HL3.out; rw [World.size_alloc] at h1; omega)
      clear hb4 c0 c1 c2 c3 c4 c5
      obtain ⟨c0, c1, c2, c3, c4, c5⟩ := HA4.out.below ((Below.refl w4.heap.size w4).alloc (Nat.le_refl _) (.cells #[.int .i64 T, .int .i64 R, .int .i64 K, .string key, .string val, .int .i64 N] 32)) HL4.out
      go_wp2
      go_ret
      exact ⟨by first | rfl | simp, HB4.out.alloc HB4.out.size _⟩
    · rw [tailF_bad (by rw [hE]; exact h0), hE]
      have HE := Lib.hid hE
      unfold textV
      simp only
      rw [errV_bad h0]
      clear hE
      go_wp2_with fail
      refine (wright_any T R K key val N w2 hk hv).mono ?_
      rintro r w3 ⟨rfl, hb3⟩
      rw [HE.out, errV_bad h0]
      have HB3 := Lib.hid (HB2.out.trans (hb3.mono HB2.out.size))
      clear hb3
      go_wp2
      go_ret
      exact ⟨by first | rfl | simp, HB3.out⟩
end Go.Proofs.Ytimaddmgooefdaa
