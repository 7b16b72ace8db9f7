/-
  The walk of 'packtrainlaw.OldWrites'.
-/
import Derived.Test.YtjkbmfpomgcblaaGreatDoorKw26
import Derived.Test.YtjkbmfpomgcblaaGreatDoorKw07
import Derived.Test.YtjkbmfpomgcblaaGreatDoorKw09
namespace Go.Proofs.YtjkbmfpomgcblaaGreatDoor
open Go.RowKit

set_option maxRecDepth 100000 in
set_option maxHeartbeats 4000000 in
theorem oldWrites_walk (w : World) (vf vh vw : Value) (f h : List Ent) (l : List Wr) (hx : BatIs w vf vh vw f h l) (hg : errT w) :
    Calls Tryz.prog 6 #[.agg #[vf, vh, vw]] w fun e w' => e = .returned (.bool true) ∧ Below w.heap.size w w' := by
  have HX := Lib.hid hx
  have HG := Lib.hid hg
  obtain ⟨hf, hh, hv, _⟩ := hx
  obtain ⟨af, cf, rfl, _⟩ := hf.form
  obtain ⟨ah, ch, rfl, _⟩ := hh.form
  obtain ⟨aw, cw, rfl, _⟩ := hv.form
  have HA := Lib.hid (batAt_new w (.slice af f.length cf) (.slice ah h.length ch) (.slice aw l.length cw) 25)
  have HW0 : Hid (Below w.heap.size w (w.alloc (.cells #[.slice af f.length cf, .slice ah h.length ch, .slice aw l.length cw] 25))) := Lib.hid ((Below.refl _ _).alloc (Nat.le_refl _) _)
  have HZ : Hid (w.heap.size < (w.alloc (.cells #[.slice af f.length cf, .slice ah h.length ch, .slice aw l.length cw] 25)).heap.size) := Lib.hid (by simp)
  generalize f.length = nf at HX HA HW0 HZ ⊢
  generalize h.length = nh at HX HA HW0 HZ ⊢
  generalize l.length = n at HX HA HW0 HZ ⊢
  obtain ⟨S, e, pl, hb⟩ : ∃ (S : ByteArray) (e : Nat) (pl : Int), firstF f h l = (S.data.toList, e, pl) := ⟨⟨(firstF f h l).1.toArray⟩, (firstF f h l).2.1, (firstF f h l).2.2, by simp⟩
  obtain ⟨U, x, q, hb2⟩ : ∃ (U : ByteArray) (x : Nat) (q : Int), secondF f h l = (U.data.toList, x, q) := ⟨⟨(secondF f h l).1.toArray⟩, (secondF f h l).2.1, (secondF f h l).2.2, by simp⟩
  have HBF := Lib.hid hb
  have HBS := Lib.hid hb2
  clear hf hh hv hg hb hb2
  go_enter Tryz.func6, Tryz.ntmps6
  go_wp2_with fail
  generalize w.alloc (.cells #[.slice af nf cf, .slice ah nh ch, .slice aw n cw] 25) = W at HA HW0 HZ ⊢
  have HE : Hid (∀ w', Below W.heap.size W w' → Below w.heap.size w w') := Lib.hid (fun w' hx => HW0.out.trans (hx.mono HW0.out.size))
  obtain ⟨c, hc⟩ : ∃ c, bigV 300 f h l = c := ⟨_, rfl⟩
  refine (bigL_as _ _ _ f h l c _ (HX.out.below HW0.out) hc).mono ?_
  clear hc
  rintro r w1 ⟨rfl, hb1⟩
  have HB1 := Lib.hid hb1
  clear hb1
  obtain ⟨d0, d1, d2⟩ := HA.out.below HB1.out HZ.out
  cases c with
  | true =>
    go_wp2
    go_ret
    exact ⟨rfl, HE.out _ HB1.out⟩
  | false =>
    go_wp2_with fail
    refine (rfirst_as _ _ _ f h l S e pl w1 (HX.out.below (HE.out _ HB1.out)) HBF.out).mono ?_
    rintro r w2 ⟨rfl, hb2⟩
    have HB2 : Hid (Below W.heap.size W w2) := HB1.out.trans (hb2.mono HB1.out.size)
    have HB3 : Hid (Below W.heap.size W (w2.alloc (.cells #[.int .i64 (e : Int), .int .i64 pl] 46))) := Lib.hid (HB2.out.alloc HB2.out.size _)
    have HFL : Hid (rowF (w2.alloc (.cells #[.int .i64 (e : Int), .int .i64 pl] 46)) w2.heap.size (e : Int) pl) := Lib.hid (heap_alloc_new w2 _)
    have HZL : Hid (w2.heap.size < (w2.alloc (.cells #[.int .i64 (e : Int), .int .i64 pl] 46)).heap.size) := Lib.hid (by simp)
    clear hb2 d0 d1 d2
    obtain ⟨d0, d1, d2⟩ := HA.out.below HB3.out HZ.out
    go_wp2_with fail
    generalize w2.alloc (.cells #[.int .i64 (e : Int), .int .i64 pl] 46) = w3 at HB3 HFL HZL d0 d1 d2 ⊢
    generalize w2.heap.size = E1 at HFL HZL ⊢
    refine (ofirst_as _ _ _ f h l S e pl _ (HX.out.below (HE.out _ HB3.out)) (HG.out.below (HE.out _ HB3.out)) HBF.out).mono ?_
    rintro r w4 ⟨err, rfl, hat, hb4⟩
    have HB4 : Hid (Below W.heap.size W w4) := HB3.out.trans (hb4.mono HB3.out.size)
    have HF4 : Hid (rowF w4 E1 (e : Int) pl) := Lib.hid (HFL.out.below hb4 HZL.out)
    have HZ4 : Hid (E1 < w4.heap.size) := Lib.hid (Nat.lt_of_lt_of_le HZL.out hb4.size)
    have HAT := Lib.hid hat
    clear hat hb4 d0 d1 d2 HFL HZL
    obtain ⟨d0, d1, d2⟩ := HA.out.below HB4.out HZ.out
    go_wp2_with fail
    refine (rsecond_as _ _ _ f h l U x q w4 (HX.out.below (HE.out _ HB4.out)) HBS.out).mono ?_
    rintro r w5 ⟨rfl, hb5⟩
    have hb6 : Below w4.heap.size w4 (w5.alloc (.cells #[.int .i64 (x : Int), .int .i64 q] 46)) := hb5.alloc hb5.size _
    have HB6 : Hid (Below W.heap.size W (w5.alloc (.cells #[.int .i64 (x : Int), .int .i64 q] 46))) := Lib.hid (HB4.out.trans (hb6.mono HB4.out.size))
    have HF6 : Hid (rowF (w5.alloc (.cells #[.int .i64 (x : Int), .int .i64 q] 46)) E1 (e : Int) pl) := Lib.hid (HF4.out.below hb6 HZ4.out)
    have HAT6 := Lib.hid (HAT.out.below hb6)
    have HG6 : Hid (rowF (w5.alloc (.cells #[.int .i64 (x : Int), .int .i64 q] 46)) w5.heap.size (x : Int) q) := Lib.hid (heap_alloc_new w5 _)
    have HZ6 : Hid (E1 < w5.heap.size ∧ w5.heap.size < (w5.alloc (.cells #[.int .i64 (x : Int), .int .i64 q] 46)).heap.size) := Lib.hid ⟨Nat.lt_of_lt_of_le HZ4.out hb5.size, by simp⟩
    clear hb5 hb6 d0 d1 d2 HAT HF4 HZ4
    obtain ⟨d0, d1, d2⟩ := HA.out.below HB6.out HZ.out
    go_wp2_with fail
    generalize w5.alloc (.cells #[.int .i64 (x : Int), .int .i64 q] 46) = w6 at HB6 HF6 HAT6 HG6 HZ6 d0 d1 d2 ⊢
    generalize w5.heap.size = E2 at HG6 HZ6 ⊢
    refine (osecond_as _ _ _ f h l U x q _ (HX.out.below (HE.out _ HB6.out)) (HG.out.below (HE.out _ HB6.out)) HBS.out).mono ?_
    rintro r w7 ⟨bad, rfl, hat, hb7⟩
    have HB7 : Hid (Below W.heap.size W w7) := HB6.out.trans (hb7.mono HB6.out.size)
    have HF7 := Lib.hid (HF6.out.below hb7 (Nat.lt_trans HZ6.out.1 HZ6.out.2))
    have HG7 := Lib.hid (HG6.out.below hb7 HZ6.out.2)
    have HAT7 := Lib.hid (HAT6.out.below hb7)
    have HBT7 := Lib.hid hat
    have HZ7 : Hid (E2 < w7.heap.size) := Lib.hid (Nat.lt_of_lt_of_le HZ6.out.2 hb7.size)
    clear hat hb7 d0 d1 d2 HAT6 HF6 HG6
    obtain ⟨g0, g1⟩ := HF7.out.at
    go_wp2_with fail
    refine (placed_ok _ e pl w7 (HG.out.below (HE.out _ HB7.out)) HAT7.out.place).mono ?_
    rintro r w8 ⟨rfl, hb8⟩
    have HB8 : Hid (Below W.heap.size W w8) := HB7.out.trans (hb8.mono HB7.out.size)
    have HG8 := Lib.hid (HG7.out.below hb8 HZ7.out)
    have HBT8 := Lib.hid (HBT7.out.below hb8)
    clear hb8 g0 g1
    obtain ⟨g0, g1⟩ := HG8.out.at
    go_wp2_with fail
    refine (placed_ok _ x q w8 (HG.out.below (HE.out _ HB8.out)) HBT8.out.place).mono ?_
    rintro r w9 ⟨rfl, hb9⟩
    have HB9 : Hid (Below W.heap.size W w9) := HB8.out.trans (hb9.mono HB8.out.size)
    clear hb9
    go_wp2
    go_ret
    exact ⟨by simp, HE.out _ HB9.out⟩
end Go.Proofs.YtjkbmfpomgcblaaGreatDoor
