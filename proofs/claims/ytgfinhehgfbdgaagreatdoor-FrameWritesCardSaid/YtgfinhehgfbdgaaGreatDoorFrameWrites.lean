/-
  The walk of 'packtrainlaw.FrameWrites'.
-/
import Derived.Test.YtgfinhehgfbdgaaGreatDoorRa47
import Derived.Test.YtgfinhehgfbdgaaGreatDoorRa38
import Derived.Test.YtgfinhehgfbdgaaGreatDoorRw00
import Derived.Test.YtgfinhehgfbdgaaGreatDoorRa16
namespace Go.Proofs.YtgfinhehgfbdgaaGreatDoor
open Go.RowKit

set_option maxRecDepth 100000 in
set_option maxHeartbeats 4000000 in
theorem frameWrites_walk (w : World) (vf vh vw : Value) (f h : List Ent) (l : List Wr) (hx : BatIs w vf vh vw f h l) (hg : errT w) :
    Calls Tryz.prog 3 #[.agg #[vf, vh, vw]] w fun e w' => e = .returned (.bool true) ∧ Below w.heap.size w w' := by
  have HX := Lib.hid hx
  have HG := Lib.hid hg
  obtain ⟨hf, hh, hv, _⟩ := hx
  obtain ⟨af, cf, rfl, _⟩ := hf.form
  obtain ⟨ah, ch, rfl, _⟩ := hh.form
  obtain ⟨aw, cw, rfl, _⟩ := hv.form
  have HA := Lib.hid (batAt_new w (.slice af f.length cf) (.slice ah h.length ch) (.slice aw l.length cw) 25)
  have HW0 : Hid (Below w.heap.size w (w.alloc (.cells #[.slice af f.length cf, .slice ah h.length ch, .slice aw l.length cw] 25))) := Lib.hid ((Below.refl _ _).alloc (Nat.le_refl _) _)
  have HZ : Hid (w.heap.size < (w.alloc (.cells #[.slice af f.length cf, .slice ah h.length ch, .slice aw l.length cw] 25)).heap.size) := Lib.hid (by simp)
  generalize f.length = nf at HX HA HW0 HZ ⊢
  generalize h.length = nh at HX HA HW0 HZ ⊢
  generalize l.length = n at HX HA HW0 HZ ⊢
  obtain ⟨S, e, pl, hb⟩ : ∃ (S : ByteArray) (e : Nat) (pl : Int), frmF f h l = (S.data.toList, e, pl) := ⟨⟨(frmF f h l).1.toArray⟩, (frmF f h l).2.1, (frmF f h l).2.2, by simp⟩
  have HBF := Lib.hid hb
  clear hf hh hv hg hb
  go_enter Tryz.func3, Tryz.ntmps3
  go_wp2_with fail
  generalize w.alloc (.cells #[.slice af nf cf, .slice ah nh ch, .slice aw n cw] 25) = W at HA HW0 HZ ⊢
  have HE : Hid (∀ w', Below W.heap.size W w' → Below w.heap.size w w') := Lib.hid (fun w' hx => HW0.out.trans (hx.mono HW0.out.size))
  obtain ⟨c, hc⟩ : ∃ c, bigV 300 f h l = c := ⟨_, rfl⟩
  refine (bigL_as _ _ _ f h l c _ (HX.out.below HW0.out) hc).mono ?_
  clear hc
  rintro r w1 ⟨rfl, hb1⟩
  have HB1 := Lib.hid hb1
  clear hb1
  obtain ⟨d0, d1, d2⟩ := HA.out.below HB1.out HZ.out
  cases c with
  | true =>
    go_wp2
    go_ret
    exact ⟨rfl, HE.out _ HB1.out⟩
  | false =>
    go_wp2_with fail
    refine (rframe_as _ _ _ f h l S e pl w1 (HX.out.below (HE.out _ HB1.out)) HBF.out).mono ?_
    rintro r w2 ⟨rfl, hb2⟩
    have HB2 : Hid (Below W.heap.size W w2) := HB1.out.trans (hb2.mono HB1.out.size)
    have HB3 : Hid (Below W.heap.size W (w2.alloc (.cells #[.int .i64 (e : Int), .int .i64 pl] 29))) := Lib.hid (HB2.out.alloc HB2.out.size _)
    have HFL : Hid (rowF (w2.alloc (.cells #[.int .i64 (e : Int), .int .i64 pl] 29)) w2.heap.size (e : Int) pl) := Lib.hid (heap_alloc_new w2 _)
    clear hb2 d0 d1 d2
    obtain ⟨d0, d1, d2⟩ := HA.out.below HB3.out HZ.out
    go_wp2_with fail
    refine (fwrite_as _ _ _ f h l S e pl _ (HX.out.below (HE.out _ HB3.out)) (HG.out.below (HE.out _ HB3.out)) HBF.out).mono ?_
    rintro r w4 ⟨err, rfl, hat, hb4⟩
    have HB4 : Hid (Below W.heap.size W w4) := HB3.out.trans (hb4.mono HB3.out.size)
    have HF4 : Hid (rowF w4 w2.heap.size (e : Int) pl) := Lib.hid (HFL.out.below hb4 (by simp))
    have HAT := Lib.hid hat
    clear hat hb4 d0 d1 d2
    obtain ⟨g0, g1⟩ := HF4.out.at
    go_wp2_with fail
    refine (placed_ok _ e pl w4 (HG.out.below (HE.out _ HB4.out)) HAT.out.place).mono ?_
    rintro r w5 ⟨rfl, hb5⟩
    have HB5 : Hid (Below W.heap.size W w5) := HB4.out.trans (hb5.mono HB4.out.size)
    clear hb5
    go_wp2
    go_ret
    exact ⟨by simp, HE.out _ HB5.out⟩
end Go.Proofs.YtgfinhehgfbdgaaGreatDoor
