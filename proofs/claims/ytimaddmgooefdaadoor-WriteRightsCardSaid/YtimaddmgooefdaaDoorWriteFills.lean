/-
  The walk of 'packtrainlaw.WriteFills'.
-/
import Derived.Test.YtimaddmgooefdaaDoorWriteRefFill
import Derived.Test.YtimaddmgooefdaaDoorPlace
namespace Go.Proofs.YtimaddmgooefdaaDoor
open Go.RowKit

theorem errV_place (w : World) (e : Nat) : placeIs w (errV e) (e : Int) (-1) := by
  by_cases h : e = 0
  · subst h; exact .inl ⟨rfl, rfl, rfl⟩
  · rw [errV_bad h]; exact .inr (.inl ⟨rfl, rfl⟩)
theorem bare_is (e : Nat) (w : World) (hg : errT w) : Calls Tryd.prog 23 #[errV e, .int .i64 (e : Int)] w fun r w' => r = .returned (.bool true) ∧ Below w.heap.size w w' := bare_ok _ _ w hg (errV_place w e)

theorem fill_shape (T R K : Int) (key : ByteArray) (l : List UInt8) : ∃ (T' R' K' : Int) (key' val' : ByteArray) (n' sz : Int), ∀ (ev : Nat → Value) (r : Value), FillOut ev T R K key l r →
    r = .tuple #[.agg #[.int .i64 T', .int .i64 R', .int .i64 K', .string key', .string val', .int .i64 n'], .int .i64 sz, ev (fillE T R K key l)] := by
  by_cases h : fillE T R K key l = 0
  · refine ⟨T, R, K, key, ⟨(getV K (l.drop (getN K l).2.1)).1.toArray⟩, (getN K l).1, (((getN K l).2.1 + (getV K (l.drop (getN K l).2.1)).2.1 : Nat) : Int), fun ev r hr => ?_⟩
    rcases hr with ⟨h0, _⟩ | ⟨_, hr⟩
    · exact absurd h h0
    · rw [hr, h]
  · refine ⟨0, 0, 0, ⟨#[]⟩, ⟨#[]⟩, 0, 0, fun ev r hr => ?_⟩
    rcases hr with ⟨_, hr⟩ | ⟨h0, _⟩
    · exact hr
    · exact absurd h0 h

set_option maxRecDepth 100000 in
set_option maxHeartbeats 8000000 in
theorem writeFills_walk (w : World) (x : Wr) (ho : WrOk x) (s : ByteArray) (hs : s.size ≤ 140737488351232) (hg : errT w) :
    Calls Tryd.prog 9 #[wrV x, .string s] w fun e w' => e = .returned (.bool true) ∧ Below w.heap.size w w' := by
  obtain ⟨T, R, K, key, val, N⟩ := x
  obtain ⟨_, _, hk, hv⟩ := ho
  simp only at hk hv
  show Calls Tryd.prog 9 #[.agg #[.int .i64 T, .int .i64 R, .int .i64 K, .string key, .string val, .int .i64 N], .string s] w _
  have HG := Lib.hid hg
  clear hg
  by_cases hbig : 900 < key.size + s.size
  · have hb : (900 : Int) < (key.size : Int) + s.size := by omega
    go_enter Tryd.func9, Tryd.ntmps9
    go_wp2
    go_ret
    exact ⟨rfl, (Below.refl _ _).alloc (Nat.le_refl _) _⟩
  · have hb : ¬ (900 : Int) < (key.size : Int) + s.size := by omega
    have HA0 := Lib.hid (wrAt_new w T R K key val N 48)
    go_enter Tryd.func9, Tryd.ntmps9
    go_wp2_with fail
    refine (rfill_any T R K key val N s _ hk hs).mono ?_
    rintro r w1 ⟨⟨r1, rfl, hr1⟩, hb1⟩
    have HA1 := Lib.hid (HA0.out.below hb1 (by simp))
    have HB1 := Lib.hid (((Below.refl _ _).alloc (Nat.le_refl _) _).trans (hb1.mono (by simp)))
    have HL1 : Hid (w.heap.size < w1.heap.size) := Lib.hid (by have := hb1.size; simp at this; exact this)
    obtain ⟨T', R', K', key', val', n', sz, hsh⟩ := fill_shape T R K key s.data.toList
    obtain rfl := hsh evI r1 hr1
    obtain ⟨E, hE⟩ : ∃ E, fillE T R K key s.data.toList = E := ⟨_, rfl⟩
    rw [hE] at hsh ⊢
    have HSH := Lib.hid hsh
    clear hb1 hr1 hsh hE
    unfold evI
    have HN1 := Lib.hid (wrAt_new w1 T' R' K' key' val' n' 48)
    have HA2 := Lib.hid (HA1.out.below ((Below.refl w1.heap.size w1).alloc (Nat.le_refl _) (.cells #[.int .i64 T', .int .i64 R', .int .i64 K', .string key', .string val', .int .i64 n'] 48)) HL1.out)
    obtain ⟨c0, c1, c2, c3, c4, c5⟩ := HA2.out
    go_wp2_with fail
    refine (wfill_any T R K key val N s _ hk hs).mono ?_
    rintro r w2 ⟨⟨r2, rfl, hr2⟩, hb2⟩
    obtain rfl := HSH.out errV r2 hr2
    have HN2 := Lib.hid (HN1.out.below hb2 (by simp))
    have hB2 : Below w1.heap.size w1 w2 := ((Below.refl _ _).alloc (Nat.le_refl _) _).trans (hb2.mono (by simp))
    have HB2 := Lib.hid (HB1.out.trans (hB2.mono HB1.out.size))
    have HL2 : Hid (w1.heap.size < w2.heap.size) := Lib.hid (by have := hb2.size; simp at this; exact this)
    have HG2 := Lib.hid (HG.out.below HB2.out)
    clear hb2 hr2 hB2 c0 c1 c2 c3 c4 c5 HSH
    go_wp2_with fail
    refine (bare_is E _ (HG2.out.alloc _)).mono ?_
    rintro r w3 ⟨rfl, hb3⟩
    have hN3 := (HN2.out.below ((Below.refl w2.heap.size w2).alloc (Nat.le_refl _) (.cells #[.int .i64 T', .int .i64 R', .int .i64 K', .string key', .string val', .int .i64 n'] 48)) HL2.out).below hb3 (by rw [World.size_alloc]; exact Nat.lt_succ_of_lt HL2.out)
    have hM3 := (wrAt_new w2 T' R' K' key' val' n' 48).below hb3 (by simp)
    have HB3 := Lib.hid (HB2.out.trans ((((Below.refl _ _).alloc (Nat.le_refl _) _).trans (hb3.mono (by simp))).mono HB2.out.size))
    clear hb3
    obtain ⟨c0, c1, c2, c3, c4, c5⟩ := hN3
    obtain ⟨d0, d1, d2, d3, d4, d5⟩ := hM3
    go_wp2
    go_ret
    exact ⟨by first | rfl | simp, HB3.out⟩
end Go.Proofs.YtimaddmgooefdaaDoor
