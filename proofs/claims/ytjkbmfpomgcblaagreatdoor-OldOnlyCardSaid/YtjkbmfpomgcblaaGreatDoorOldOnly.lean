/-
  The walk of 'packtrainkeep.OldOnly'.
-/
import Derived.Test.YtjkbmfpomgcblaaGreatDoorKp47
import Derived.Test.YtjkbmfpomgcblaaGreatDoorKp48
namespace Go.Proofs.YtjkbmfpomgcblaaGreatDoor
open Go.RowKit

theorem onone_same : sameV [] [] [] [] [] [] = true := sameV_self _ _ _
theorem onone_bat (w : World) : BatIs w (.slice none 0 0) (.slice none 0 0) (.slice none 0 0) [] [] [] :=
  ⟨IsEnts.nil _, IsEnts.nil _, IsWrs.nil _, by decide, by decide, by decide, fun _ h => by cases h⟩

set_option maxRecDepth 100000 in
set_option maxHeartbeats 4000000 in
theorem oldOnly_walk (s : ByteArray) (_ : s.size ≤ maxLen) (w : World) (hg : errT w) :
    Calls Tryz.prog 10 #[.string s] w fun e w' => e = .returned (.bool true) ∧ Below w.heap.size w w' := by
  have HG := Lib.hid hg
  clear hg
  by_cases h1500 : s.size ≤ 1500
  · have d1 : (s.size : Int) ≤ 1500 := by omega
    have HM : Hid (s.size ≤ 400000) := Lib.hid (by omega)
    have HM2 : Hid (s.size ≤ 140737488351232) := Lib.hid (by omega)
    match hu : oldF s.data.toList with
    | .inl (x, pl) =>
      have HU := Lib.hid hu
      clear hu
      go_enter Tryz.func10, Tryz.ntmps10
      go_wp2_with fail
      refine (framed_any _ HG.out).mono ?_
      rintro r w1 ⟨rfl, hb1⟩
      have HB1 := Lib.hid hb1
      clear hb1
      go_wp2_with fail
      refine (rd_err (oread_any s _ HM.out (HG.out.below HB1.out)) HU.out).mono ?_
      rintro r w2 ⟨t, u, rfl, hi, hb2⟩
      have HB2 : Hid (Below w.heap.size w w2) := HB1.out.trans (hb2.mono HB1.out.size)
      clear hb2 hi
      have HB3 : Hid (Below w.heap.size w (w2.alloc (.cells #[.slice none 0 0, .slice none 0 0, .slice none 0 0] 25))) := Lib.hid (HB2.out.alloc HB2.out.size _)
      obtain ⟨e0, e1, e2⟩ := batAt_new w2 (.slice none 0 0) (.slice none 0 0) (.slice none 0 0) 25
      go_wp2_with fail
      refine (bsame_as _ _ _ _ _ _ [] [] [] [] [] [] true _ (onone_bat _) (onone_bat _) onone_same).mono ?_
      rintro r w4 ⟨rfl, hb4⟩
      have HB4 : Hid (Below w.heap.size w w4) := HB3.out.trans (hb4.mono HB3.out.size)
      clear hb4 e0 e1 e2
      go_wp2
      go_ret
      exact ⟨rfl, HB4.out⟩
    | .inr (f, h, l) =>
      have HU := Lib.hid hu
      obtain ⟨hr, hor⟩ := old_only hu
      rcases hor with ⟨i, ho, hfi⟩ | ⟨i, ho, hse⟩
      · obtain ⟨I, rfl⟩ : ∃ I : ByteArray, i = I.data.toList := of_data i
        have HO := Lib.hid ho
        have HFI := Lib.hid hfi
        clear hr ho hu hfi
        go_enter Tryz.func10, Tryz.ntmps10
        go_wp2_with fail
        refine (framed_any _ HG.out).mono ?_
        rintro r w1 ⟨rfl, hb1⟩
        have HB1 := Lib.hid hb1
        clear hb1
        go_wp2_with fail
        refine (rd_ok (oread_any s _ HM.out (HG.out.below HB1.out)) HU.out).mono ?_
        rintro r w2 ⟨a1, c1, a2, c2, a3, c3, rfl, hx2, hb2⟩
        have HX2 := Lib.hid hx2
        have HB2 : Hid (Below w.heap.size w w2) := HB1.out.trans (hb2.mono HB1.out.size)
        clear hb2 hx2
        generalize f.length = nf at HX2 ⊢
        generalize h.length = nh at HX2 ⊢
        generalize l.length = n at HX2 ⊢
        have HA := Lib.hid (batAt_new w2 (.slice a1 nf c1) (.slice a2 nh c2) (.slice a3 n c3) 25)
        have HX3 := Lib.hid (HX2.out.alloc (.cells #[.slice a1 nf c1, .slice a2 nh c2, .slice a3 n c3] 25))
        have HB3 : Hid (Below w.heap.size w (w2.alloc (.cells #[.slice a1 nf c1, .slice a2 nh c2, .slice a3 n c3] 25))) := Lib.hid (HB2.out.alloc HB2.out.size _)
        have HZ3 : Hid (w2.heap.size < (w2.alloc (.cells #[.slice a1 nf c1, .slice a2 nh c2, .slice a3 n c3] 25)).heap.size) := Lib.hid (by simp)
        obtain ⟨d0, d1, d2⟩ := HA.out
        go_wp2_with fail
        generalize w2.alloc (.cells #[.slice a1 nf c1, .slice a2 nh c2, .slice a3 n c3] 25) = W at HA HX3 HB3 HZ3 ⊢
        refine (version_as s I 1 0 W HM2.out HO.out).mono ?_
        rintro r w4 ⟨rfl, hb4⟩
        rw [errC_zero]
        have HB4 : Hid (Below W.heap.size W w4) := Lib.hid hb4
        clear hb4 d0 d1 d2
        obtain ⟨d0, d1, d2⟩ := HA.out.below HB4.out HZ3.out
        go_wp2_with fail
        refine (ofirst_ok _ _ _ f h l s _ (HX3.out.below HB4.out) ((HG.out.below HB3.out).below HB4.out) HFI.out).mono ?_
        rintro r w5 ⟨rfl, hb5⟩
        have HB5 : Hid (Below W.heap.size W w5) := HB4.out.trans (hb5.mono HB4.out.size)
        clear hb5 d0 d1 d2
        go_wp2
        go_ret
        exact ⟨by first | rfl | simp, HB3.out.trans (HB5.out.mono HB3.out.size)⟩
      · obtain ⟨I, rfl⟩ : ∃ I : ByteArray, i = I.data.toList := of_data i
        have HO := Lib.hid ho
        have HSE := Lib.hid hse
        obtain ⟨U, I1, hfi, _⟩ := first_facts hr
        have HFI := Lib.hid hfi
        clear hfi
        clear hr ho hu hse
        go_enter Tryz.func10, Tryz.ntmps10
        go_wp2_with fail
        refine (framed_any _ HG.out).mono ?_
        rintro r w1 ⟨rfl, hb1⟩
        have HB1 := Lib.hid hb1
        clear hb1
        go_wp2_with fail
        refine (rd_ok (oread_any s _ HM.out (HG.out.below HB1.out)) HU.out).mono ?_
        rintro r w2 ⟨a1, c1, a2, c2, a3, c3, rfl, hx2, hb2⟩
        have HX2 := Lib.hid hx2
        have HB2 : Hid (Below w.heap.size w w2) := HB1.out.trans (hb2.mono HB1.out.size)
        clear hb2 hx2
        generalize f.length = nf at HX2 ⊢
        generalize h.length = nh at HX2 ⊢
        generalize l.length = n at HX2 ⊢
        have HA := Lib.hid (batAt_new w2 (.slice a1 nf c1) (.slice a2 nh c2) (.slice a3 n c3) 25)
        have HX3 := Lib.hid (HX2.out.alloc (.cells #[.slice a1 nf c1, .slice a2 nh c2, .slice a3 n c3] 25))
        have HB3 : Hid (Below w.heap.size w (w2.alloc (.cells #[.slice a1 nf c1, .slice a2 nh c2, .slice a3 n c3] 25))) := Lib.hid (HB2.out.alloc HB2.out.size _)
        have HZ3 : Hid (w2.heap.size < (w2.alloc (.cells #[.slice a1 nf c1, .slice a2 nh c2, .slice a3 n c3] 25)).heap.size) := Lib.hid (by simp)
        obtain ⟨d0, d1, d2⟩ := HA.out
        go_wp2_with fail
        generalize w2.alloc (.cells #[.slice a1 nf c1, .slice a2 nh c2, .slice a3 n c3] 25) = W at HA HX3 HB3 HZ3 ⊢
        refine (version_as s I 2 0 W HM2.out HO.out).mono ?_
        rintro r w4 ⟨rfl, hb4⟩
        rw [errC_zero]
        have HB4 : Hid (Below W.heap.size W w4) := Lib.hid hb4
        clear hb4 d0 d1 d2
        obtain ⟨d0, d1, d2⟩ := HA.out.below HB4.out HZ3.out
        go_wp2_with fail
        refine (ofirst_ok _ _ _ f h l U _ (HX3.out.below HB4.out) ((HG.out.below HB3.out).below HB4.out) HFI.out).mono ?_
        rintro r w5 ⟨rfl, hb5⟩
        have HB5 : Hid (Below W.heap.size W w5) := HB4.out.trans (hb5.mono HB4.out.size)
        clear hb5 d0 d1 d2
        obtain ⟨d0, d1, d2⟩ := HA.out.below HB5.out HZ3.out
        go_wp2_with fail
        refine (osecond_ok _ _ _ f h l s _ (HX3.out.below HB5.out) ((HG.out.below HB3.out).below HB5.out) HSE.out).mono ?_
        rintro r w6 ⟨rfl, hb6⟩
        have HB6 : Hid (Below W.heap.size W w6) := HB5.out.trans (hb6.mono HB5.out.size)
        clear hb6 d0 d1 d2
        go_wp2
        go_ret
        exact ⟨by first | rfl | simp, HB3.out.trans (HB6.out.mono HB3.out.size)⟩
  · have d1 : 1500 < (s.size : Int) := by omega
    go_enter Tryz.func10, Tryz.ntmps10
    go_wp2_with fail
    refine (framed_any _ HG.out).mono ?_
    rintro r w1 ⟨rfl, hb1⟩
    have HB1 := Lib.hid hb1
    clear hb1
    go_wp2
    go_ret
    exact ⟨rfl, HB1.out⟩
end Go.Proofs.YtjkbmfpomgcblaaGreatDoor
