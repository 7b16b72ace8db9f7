/-
  The walk of 'packtrainkeep.FrameOnly'.
-/
import Derived.Test.YtgfinhehgfbdgaaGreatDoorKa47
namespace Go.Proofs.YtgfinhehgfbdgaaGreatDoor
open Go.RowKit

theorem fnone_same : sameV [] [] [] [] [] [] = true := sameV_self _ _ _
theorem fnone_bat (w : World) : BatIs w (.slice none 0 0) (.slice none 0 0) (.slice none 0 0) [] [] [] :=
  ⟨IsEnts.nil _, IsEnts.nil _, IsWrs.nil _, by decide, by decide, by decide, fun _ h => by cases h⟩

set_option maxRecDepth 100000 in
set_option maxHeartbeats 4000000 in
theorem frameOnly_walk (s : ByteArray) (_ : s.size ≤ maxLen) (w : World) (hg : errT w) :
    Calls Tryz.prog 5 #[.string s] w fun e w' => e = .returned (.bool true) ∧ Below w.heap.size w w' := by
  have HG := Lib.hid hg
  clear hg
  by_cases h1500 : s.size ≤ 1500
  · have d1 : (s.size : Int) ≤ 1500 := by omega
    have HM : Hid (s.size ≤ 400000) := Lib.hid (by omega)
    match hu : unfF s.data.toList with
    | .inl (x, pl) =>
      have HU := Lib.hid hu
      clear hu
      go_enter Tryz.func5, Tryz.ntmps5
      go_wp2_with fail
      refine (framed_any _ HG.out).mono ?_
      rintro r w1 ⟨rfl, hb1⟩
      have HB1 := Lib.hid hb1
      clear hb1
      go_wp2_with fail
      refine (fread_err s x pl _ HM.out (HG.out.below HB1.out) HU.out).mono ?_
      rintro r w2 ⟨t, u, rfl, hi, hb2⟩
      have HB2 : Hid (Below w.heap.size w w2) := HB1.out.trans (hb2.mono HB1.out.size)
      clear hb2 hi
      have HB3 : Hid (Below w.heap.size w (w2.alloc (.cells #[.slice none 0 0, .slice none 0 0, .slice none 0 0] 25))) := Lib.hid (HB2.out.alloc HB2.out.size _)
      obtain ⟨e0, e1, e2⟩ := batAt_new w2 (.slice none 0 0) (.slice none 0 0) (.slice none 0 0) 25
      go_wp2_with fail
      refine (bsame_as _ _ _ _ _ _ [] [] [] [] [] [] true _ (fnone_bat _) (fnone_bat _) fnone_same).mono ?_
      rintro r w4 ⟨rfl, hb4⟩
      have HB4 : Hid (Below w.heap.size w w4) := HB3.out.trans (hb4.mono HB3.out.size)
      clear hb4 e0 e1 e2
      go_wp2
      go_ret
      exact ⟨rfl, HB4.out⟩
    | .inr (f, h, l) =>
      have HU := Lib.hid hu
      obtain ⟨hf, hr, _, _⟩ := unf_only hu
      have HF := Lib.hid hf
      have HR0 := Lib.hid (batF_place hr)
      clear hu hr hf
      go_enter Tryz.func5, Tryz.ntmps5
      go_wp2_with fail
      refine (framed_any _ HG.out).mono ?_
      rintro r w1 ⟨rfl, hb1⟩
      have HB1 := Lib.hid hb1
      clear hb1
      go_wp2_with fail
      refine (fread_ok s f h l _ HM.out (HG.out.below HB1.out) HU.out).mono ?_
      rintro r w2 ⟨a1, c1, a2, c2, a3, c3, rfl, hx2, hb2⟩
      have HX2 := Lib.hid hx2
      have HB2 : Hid (Below w.heap.size w w2) := HB1.out.trans (hb2.mono HB1.out.size)
      clear hb2 hx2
      generalize f.length = nf at HX2 ⊢
      generalize h.length = nh at HX2 ⊢
      generalize l.length = n at HX2 ⊢
      have HA := Lib.hid (batAt_new w2 (.slice a1 nf c1) (.slice a2 nh c2) (.slice a3 n c3) 25)
      have HX3 := Lib.hid (HX2.out.alloc (.cells #[.slice a1 nf c1, .slice a2 nh c2, .slice a3 n c3] 25))
      have HB3 : Hid (Below w.heap.size w (w2.alloc (.cells #[.slice a1 nf c1, .slice a2 nh c2, .slice a3 n c3] 25))) := Lib.hid (HB2.out.alloc HB2.out.size _)
      have HZ3 : Hid (w2.heap.size < (w2.alloc (.cells #[.slice a1 nf c1, .slice a2 nh c2, .slice a3 n c3] 25)).heap.size) := Lib.hid (by simp)
      obtain ⟨d0, d1, d2⟩ := HA.out
      go_wp2_with fail
      refine (fwrite_ok _ _ _ f h l s _ HX3.out (HG.out.below HB3.out) HF.out).mono ?_
      generalize w2.alloc (.cells #[.slice a1 nf c1, .slice a2 nh c2, .slice a3 n c3] 25) = W at HA HX3 HB3 HZ3 ⊢
      rintro r w4 ⟨rfl, hb4⟩
      have HB4 : Hid (Below W.heap.size W w4) := Lib.hid hb4
      clear hb4 d0 d1 d2
      obtain ⟨d0, d1, d2⟩ := HA.out.below HB4.out HZ3.out
      go_wp2_with fail
      refine (brightB_as _ _ _ f h l 0 (-1) _ (HX3.out.below HB4.out) ((HG.out.below HB3.out).below HB4.out) HR0.out).mono ?_
      rintro r w5 ⟨err, rfl, hat, hb5⟩
      obtain rfl := hat.nil rfl
      have HB5 : Hid (Below W.heap.size W w5) := HB4.out.trans (hb5.mono HB4.out.size)
      clear hb5 hat d0 d1 d2
      go_wp2
      go_ret
      exact ⟨by first | rfl | simp, HB3.out.trans (HB5.out.mono HB3.out.size)⟩
  · have d1 : 1500 < (s.size : Int) := by omega
    go_enter Tryz.func5, Tryz.ntmps5
    go_wp2_with fail
    refine (framed_any _ HG.out).mono ?_
    rintro r w1 ⟨rfl, hb1⟩
    have HB1 := Lib.hid hb1
    clear hb1
    go_wp2
    go_ret
    exact ⟨rfl, HB1.out⟩
end Go.Proofs.YtgfinhehgfbdgaaGreatDoor
