/-
  The walk of 'packtrainkeep.FrameVersions'.
-/
import Derived.Test.YtgfinhehgfbdgaaGreatDoorKa47
import Derived.Test.YtgfinhehgfbdgaaGreatDoorKa09
namespace Go.Proofs.YtgfinhehgfbdgaaGreatDoor
open Go.RowKit

set_option maxRecDepth 100000 in
set_option maxHeartbeats 4000000 in
theorem frameVersions_walk (s : ByteArray) (hs : s.size ≤ maxLen) (v : Int) (h0 : 0 ≤ v) (h1 : v ≤ 255) (w : World) (hg : errT w) :
    Calls Tryz.prog 9 #[.string s, .int .u8 v] w fun e w' => e = .returned (.bool true) ∧ Below w.heap.size w w' := by
  have HG := Lib.hid hg
  clear hg
  unfold maxLen at hs
  rcases (show 300 < s.size ∨ s.size < 1 ∨ (1 ≤ s.size ∧ s.size ≤ 300) by omega) with hc | hc | ⟨hc, hd⟩
  · have i1 : 300 < (s.size : Int) := by omega
    go_enter Tryz.func9, Tryz.ntmps9
    go_wp2_with fail
    refine (framed_any _ HG.out).mono ?_
    rintro r w1 ⟨rfl, hb1⟩
    have HB1 := Lib.hid hb1
    clear hb1
    go_wp2_with (go_at_call 31; refine (summed_any _).mono ?_; rintro e w' ⟨rfl, rfl⟩)
    go_ret
    exact ⟨rfl, HB1.out⟩
  · have i1 : (s.size : Int) ≤ 300 := by omega
    have i2 : (s.size : Int) < 1 := by omega
    go_enter Tryz.func9, Tryz.ntmps9
    go_wp2_with fail
    refine (framed_any _ HG.out).mono ?_
    rintro r w1 ⟨rfl, hb1⟩
    have HB1 := Lib.hid hb1
    clear hb1
    go_wp2_with (go_at_call 31; refine (summed_any _).mono ?_; rintro e w' ⟨rfl, rfl⟩)
    go_ret
    exact ⟨rfl, HB1.out⟩
  · have i1 : (s.size : Int) ≤ 300 := by omega
    have i2 : 1 ≤ (s.size : Int) := by omega
    obtain ⟨K, rfl⟩ : ∃ K : Nat, v = (K : Int) := ⟨v.toNat, by omega⟩
    have hK : K ≤ 255 := by omega
    obtain ⟨B, hB⟩ : ∃ B : ByteArray, B = ⟨#[UInt8.ofNat K]⟩ := ⟨_, rfl⟩
    have hBz : B.size = 1 := by rw [hB]; rfl
    obtain ⟨U, hU⟩ : ∃ U : ByteArray, sealL (80 :: 84 :: UInt8.ofNat K :: s.data.toList) = U.data.toList := ⟨⟨(sealL (80 :: 84 :: UInt8.ofNat K :: s.data.toList)).toArray⟩, by simp⟩
    have hUz : U.size ≤ 400000 := by have hz := size_data s; rw [size_data, ← hU, sealL_len]; simp only [List.length_cons]; omega
    have hKn : (UInt8.ofNat K).toNat = K := toNat_ofNat_lt (by omega)
    have hop := opn_seal (UInt8.ofNat K) s.data.toList (by rw [← size_data]; exact hc)
    rw [hU, hKn] at hop
    have hsd : sealB ((⟨#[80, 84]⟩ : ByteArray) ++ B ++ s) = U := bytes_ext (by rw [sealB_data, ← hU, hB]; simp)
    have HSD := Lib.hid hsd
    have HZZ : Hid (((⟨#[80, 84]⟩ : ByteArray) ++ B ++ s).size ≤ 140737488351232) := Lib.hid (by rw [ByteArray.size_append, ByteArray.size_append]; have : (⟨#[80, 84]⟩ : ByteArray).size = 2 := rfl; omega)
    have HBB := Lib.hid hB
    clear hU hKn hsd hB hs hc hd
    go_enter Tryz.func9, Tryz.ntmps9
    go_wp2_with fail
    refine (framed_any _ HG.out).mono ?_
    rintro r w1 ⟨rfl, hb1⟩
    have HB1 := Lib.hid hb1
    clear hb1
    have hcv := byte_conv K B HBB.out hK (w1.alloc (.cells #[.int .u8 (K : Int)] 5)) w1.heap.size (heap_alloc_new w1 _)
    go_wp2_with (go_at_call 31; refine (summed_any _).mono ?_; rintro e w' ⟨rfl, rfl⟩)
    refine (seal_any _ _ HZZ.out).mono ?_
    rintro r w2 ⟨rfl, hb2⟩
    rw [HSD.out]
    have HB2 : Hid (Below w.heap.size w w2) := Lib.hid (HB1.out.trans ((((Below.refl _ _).alloc (Nat.le_refl _) _).trans (hb2.mono (by simp))).mono HB1.out.size))
    clear hb2 hcv
    by_cases hk : K < 1 ∨ 3 < K
    · rw [if_pos hk] at hop
      have HOP : Hid (opnF U.data.toList = (0, (⟨#[]⟩ : ByteArray).data.toList, 8)) := Lib.hid hop
      have hks : (¬ (1 ≤ (K : Int))) ∨ (1 ≤ (K : Int) ∧ ¬ ((K : Int) ≤ 3)) := by omega
      clear hop hk
      go_wp2_with fail
      refine (version_as U ⟨#[]⟩ 0 8 w2 (by omega) HOP.out).mono ?_
      rintro r w3 ⟨rfl, hb3⟩
      have HB3 : Hid (Below w.heap.size w w3) := HB2.out.trans (hb3.mono HB2.out.size)
      clear hb3
      rw [errC_ne (by decide)]
      rcases hks with k1 | ⟨k1, k2⟩
      · have k3 : decide (1 ≤ (K : Int)) = false := decide_eq_false (by omega)
        have k4 : (K : Int) < 1 := by omega
        go_wp2_with fail
        refine (tell_err _ ((8 : Nat) : Int) w3 (HG.out.below HB3.out) (.inl rfl)).mono ?_
        rintro r w4 ⟨rfl, hb4⟩
        have HB4 : Hid (Below w.heap.size w w4) := HB3.out.trans (hb4.mono HB3.out.size)
        clear hb4
        go_wp2
        go_ret
        exact ⟨by first | rfl | simp, HB4.out⟩
      · have k3 : decide ((K : Int) ≤ 3) = false := decide_eq_false (by omega)
        have k4 : 3 < (K : Int) := by omega
        go_wp2_with fail
        refine (tell_err _ ((8 : Nat) : Int) w3 (HG.out.below HB3.out) (.inl rfl)).mono ?_
        rintro r w4 ⟨rfl, hb4⟩
        have HB4 : Hid (Below w.heap.size w w4) := HB3.out.trans (hb4.mono HB3.out.size)
        clear hb4
        go_wp2
        go_ret
        exact ⟨by first | rfl | simp, HB4.out⟩
    · rw [if_neg hk] at hop
      have HOP := Lib.hid hop
      have k1 : 1 ≤ (K : Int) := by omega
      have k2 : (K : Int) ≤ 3 := by omega
      have k3 : wrap64 (K : Int) = (K : Int) := IntWalk.wrap64_in _ (by omega)
      clear hop hk
      go_wp2_with fail
      refine (version_as U s K 0 w2 (by omega) HOP.out).mono ?_
      rintro r w3 ⟨rfl, hb3⟩
      have HB3 : Hid (Below w.heap.size w w3) := HB2.out.trans (hb3.mono HB2.out.size)
      clear hb3
      rw [errC_zero]
      go_wp2
      go_ret
      exact ⟨by first | rfl | simp, HB3.out⟩
end Go.Proofs.YtgfinhehgfbdgaaGreatDoor
