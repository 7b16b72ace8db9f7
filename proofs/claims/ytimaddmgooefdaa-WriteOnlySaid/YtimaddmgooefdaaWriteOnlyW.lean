/-
  The walk of 'packtrainkeep.WriteOnly'.
-/
import Derived.Test.YtimaddmgooefdaaWritten
namespace Go.Proofs.Ytimaddmgooefdaa
open Go.RowKit

set_option maxRecDepth 100000 in
set_option maxHeartbeats 8000000 in
theorem writeOnly_walk (w : World) (x : Wr) (ho : WrOk x) (s : ByteArray) (hs : s.size ≤ 140737488351232) :
    Calls Try.prog 5 #[wrV x, .string s] w fun e w' => e = .returned (.bool true) ∧ Below w.heap.size w w' := by
  obtain ⟨T, R, K, key, val, N⟩ := x
  obtain ⟨_, _, hk, hv⟩ := ho
  simp only at hk hv
  show Calls Try.prog 5 #[.agg #[.int .i64 T, .int .i64 R, .int .i64 K, .string key, .string val, .int .i64 N], .string s] w _
  have HA0 := Lib.hid (wrAt_new w T R K key val N 32)
  go_enter Try.func5, Try.ntmps5
  go_wp2_with fail
  refine (tailed_any _).mono ?_
  rintro r w1 ⟨rfl, hb1⟩
  have HA1 := Lib.hid (HA0.out.below hb1 (by simp))
  have HB1 := Lib.hid (((Below.refl _ _).alloc (Nat.le_refl _) _).trans (hb1.mono (by simp)))
  have HL1 : Hid (w.heap.size < w1.heap.size) := Lib.hid (by have := hb1.size; simp at this; exact this)
  clear hb1
  obtain ⟨c0, c1, c2, c3, c4, c5⟩ := HA1.out
  by_cases hbig : 900 < key.size + s.size
  · have hb : (900 : Int) < (key.size : Int) + s.size := by omega
    go_wp2
    go_ret
    exact ⟨rfl, HB1.out⟩
  · have hb : ¬ (900 : Int) < (key.size : Int) + s.size := by omega
    go_wp2_with fail
    refine (wfill_any T R K key val N s w1 hk hs).mono ?_
    rintro r w2 ⟨⟨r2, rfl, hr⟩, hb2⟩
    have HA2 := Lib.hid (HA1.out.below hb2 HL1.out)
    have HB2 := Lib.hid (HB1.out.trans (hb2.mono HB1.out.size))
    have HL2 : Hid (w.heap.size < w2.heap.size) := Lib.hid (Nat.lt_of_lt_of_le HL1.out hb2.size)
    clear hb2 c0 c1 c2 c3 c4 c5
    rcases hr with ⟨h0, rfl⟩ | ⟨h0, rfl⟩
    · obtain ⟨E, hE⟩ : ∃ E, fillE T R K key s.data.toList = E := ⟨_, rfl⟩
      rw [hE] at h0 ⊢
      clear hE
      rw [errV_bad h0]
      unfold zeroW
      go_wp2
      go_ret
      exact ⟨by first | rfl | simp, HB2.out.alloc HB2.out.size _⟩
    · obtain ⟨n, k, e, hn⟩ : ∃ n k e, getN K s.data.toList = (n, k, e) := ⟨_, _, _, rfl⟩
      obtain rfl : e = 0 := by
        by_cases he : e = 0
        · exact he
        · rw [fillE_n hn he] at h0; exact absurd h0 he
      obtain ⟨v, j, e, h2⟩ : ∃ v j e, getV K (s.data.toList.drop k) = (v, j, e) := ⟨_, _, _, rfl⟩
      obtain rfl : e = 0 := by
        by_cases he : e = 0
        · exact he
        · rw [fillE_v hn h2 he] at h0; exact absurd h0 he
      rw [fillE_w hn h2] at h0
      rw [hn]
      simp only
      rw [h2, show errV 0 = Value.nilIface from rfl]
      obtain ⟨t1, t2⟩ := only_t hn h2
      rw [← size_data] at t2
      obtain ⟨q, hq⟩ : ∃ q, k + j = q := ⟨_, rfl⟩
      simp only
      rw [hq] at t1 t2 ⊢
      obtain ⟨V, hV⟩ : ∃ V : ByteArray, V = ⟨v.toArray⟩ := ⟨_, rfl⟩
      rw [← hV] at h0 t1 ⊢
      have HE := Lib.hid h0
      have HVS : Hid (V.size ≤ 140737488351232) := Lib.hid (by show _ ≤ _; have := (wrE_good h0).2.2.2.1; omega)
      have HT : Hid (tailB K V n = s.extract 0 q) := Lib.hid (show _ = _ from bs_ext (by rw [t1, ext_data, List.drop_zero]))
      clear h0 t1 hn h2 hV hq
      obtain ⟨c0, c1, c2, c3, c4, c5⟩ := HA2.out.below ((Below.refl w2.heap.size w2).alloc (Nat.le_refl _) (.cells #[.int .i64 T, .int .i64 R, .int .i64 K, .string key, .string V, .int .i64 n] 32)) HL2.out
      have HN2 := Lib.hid (wrAt_new w2 T R K key V n 32)
      go_wp2_with fail
      refine (wtail_ok (key := key) hk HVS.out HE.out).mono ?_
      rintro r w3 ⟨rfl, hb3⟩
      rw [HT.out]
      have hB3 : Below w2.heap.size w2 w3 := ((Below.refl _ _).alloc (Nat.le_refl _) _).trans (hb3.mono (by simp))
      have HN3 := Lib.hid (HN2.out.below hb3 (by simp))
      have HA3 := Lib.hid (HA2.out.below hB3 HL2.out)
      have HB3 := Lib.hid (HB2.out.trans (hB3.mono HB2.out.size))
      have HL3 : Hid (w2.heap.size < w3.heap.size) := Lib.hid (by have h1 := hb3.size; rw [World.size_alloc] at h1; exact h1)
      clear hb3 hB3 c0 c1 c2 c3 c4 c5
      obtain ⟨d0, d1, d2, d3, d4, d5⟩ := HN3.out
      go_wp2_with fail
      refine (wright_any T R K key V n w3 hk HVS.out).mono ?_
      rintro r w4 ⟨rfl, hb4⟩
      rw [HE.out, show errV 0 = Value.nilIface from rfl]
      obtain ⟨c0, c1, c2, c3, c4, c5⟩ := HA3.out.below hb4 (Nat.lt_trans HL2.out HL3.out)
      have HB4 := Lib.hid (HB3.out.trans (hb4.mono HB3.out.size))
      have hd4 := HN3.out.below hb4 HL3.out
      clear hb4 d0 d1 d2 d3 d4 d5
      obtain ⟨d0, d1, d2, d3, d4, d5⟩ := hd4
      have q0 : (0 : Int) ≤ (q : Int) := by omega
      have q1 : (q : Int) ≤ (s.size : Int) := by omega
      go_wp2
      go_ret
      exact ⟨by first | rfl | simp, HB4.out⟩
end Go.Proofs.Ytimaddmgooefdaa
