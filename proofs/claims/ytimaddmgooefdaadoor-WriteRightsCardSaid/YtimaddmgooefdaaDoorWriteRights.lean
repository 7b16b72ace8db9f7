/-
  The walk of 'packtrainlaw.WriteRights'.
-/
import Derived.Test.YtimaddmgooefdaaDoorWriteRefTail
import Derived.Test.YtimaddmgooefdaaDoorWriteFills
namespace Go.Proofs.YtimaddmgooefdaaDoor
open Go.RowKit

theorem tail_err (T R K : Int) (key val : ByteArray) (N : Int) : (tailF T R K key val N).2 = wrE T R K key val N := by
  by_cases h : wrE T R K key val N = 0
  · rw [tailF_ok h, h]
  · rw [tailF_bad h]

set_option maxRecDepth 100000 in
set_option maxHeartbeats 8000000 in
theorem writeRights_walk (w : World) (x : Wr) (ho : WrOk x) (hg : errT w) :
    Calls Tryd.prog 8 #[wrV x] w fun e w' => e = .returned (.bool true) ∧ Below w.heap.size w w' := by
  obtain ⟨T, R, K, key, val, N⟩ := x
  obtain ⟨n0, n1, hk, hv⟩ := ho
  simp only at hk hv n0 n1
  show Calls Tryd.prog 8 #[.agg #[.int .i64 T, .int .i64 R, .int .i64 K, .string key, .string val, .int .i64 N]] w _
  have HG := Lib.hid hg
  clear hg
  have HA0 := Lib.hid (wrAt_new w T R K key val N 48)
  by_cases hbig : 900 < key.size + val.size
  · have hb : (900 : Int) < (key.size : Int) + val.size := by omega
    go_enter Tryd.func8, Tryd.ntmps8
    go_wp2
    go_ret
    exact ⟨rfl, (Below.refl _ _).alloc (Nat.le_refl _) _⟩
  · have hb : ¬ (900 : Int) < (key.size : Int) + val.size := by omega
    obtain ⟨B, E, hT⟩ : ∃ B E, tailF T R K key val N = (B, E) := ⟨_, _, rfl⟩
    have hE : wrE T R K key val N = E := by rw [← tail_err, hT]
    have HT := Lib.hid hT
    have HE := Lib.hid hE
    clear hT hE
    go_enter Tryd.func8, Tryd.ntmps8
    go_wp2_with fail
    refine (rtail_any T R K key val N _ hk hv n0 n1).mono ?_
    rintro r w1 ⟨rfl, hb1⟩
    rw [HT.out]
    unfold textR
    have HA1 := Lib.hid (HA0.out.below hb1 (by simp))
    have HB1 := Lib.hid (((Below.refl _ _).alloc (Nat.le_refl _) _).trans (hb1.mono (by simp)))
    have HL1 : Hid (w.heap.size < w1.heap.size) := Lib.hid (by have := hb1.size; simp at this; exact this)
    clear hb1
    obtain ⟨c0, c1, c2, c3, c4, c5⟩ := HA1.out
    go_wp2_with fail
    refine (wtail_any T R K key val N _ hk hv).mono ?_
    rintro r w2 ⟨rfl, hb2⟩
    rw [HT.out]
    unfold textV
    have HA2 := Lib.hid (HA1.out.below hb2 HL1.out)
    have HB2 := Lib.hid (HB1.out.trans (hb2.mono HB1.out.size))
    have HL2 : Hid (w.heap.size < w2.heap.size) := Lib.hid (Nat.lt_of_lt_of_le HL1.out hb2.size)
    have HG2 := Lib.hid (HG.out.below HB2.out)
    clear hb2 c0 c1 c2 c3 c4 c5
    go_wp2_with fail
    refine (bare_is E _ HG2.out).mono ?_
    rintro r w3 ⟨rfl, hb3⟩
    have HA3 := Lib.hid (HA2.out.below hb3 HL2.out)
    have HB3 := Lib.hid (HB2.out.trans (hb3.mono HB2.out.size))
    clear hb3
    obtain ⟨c0, c1, c2, c3, c4, c5⟩ := HA3.out
    go_wp2_with fail
    refine (wright_any T R K key val N _ hk hv).mono ?_
    rintro r w4 ⟨rfl, hb4⟩
    rw [HE.out]
    have HB4 := Lib.hid (HB3.out.trans (hb4.mono HB3.out.size))
    have HG4 := Lib.hid (HG.out.below HB4.out)
    clear hb4 c0 c1 c2 c3 c4 c5
    go_wp2_with fail
    refine (bare_is E _ HG4.out).mono ?_
    rintro r w5 ⟨rfl, hb5⟩
    have HB5 := Lib.hid (HB4.out.trans (hb5.mono HB4.out.size))
    clear hb5
    go_wp2
    go_ret
    exact ⟨by first | rfl | simp, HB5.out⟩
end Go.Proofs.YtimaddmgooefdaaDoor
