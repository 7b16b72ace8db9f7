/-
  The walk of 'packtrainkeep.CrcBurst'.
-/
import Derived.Test.YtgjmelinfkifcaaCrcBackW
import Derived.Test.YtgjmelinfkifcaaCrcTurned
import Derived.Test.YtgjmelinfkifcaaPick
namespace Go.Proofs.Ytgjmelinfkifcaa
open Go.RowKit

/-- The two answers: an error is none just if nothing was turned. -/
theorem burst_facts (s : ByteArray) (f bits : Nat) (hb : bits < 4294967296) (hf : f ≤ 8 * (sealB s).size) :
    ((openL (turnL (sealB s).data.toList f bits)).2 = 0 ↔ turnL (sealB s).data.toList f bits = (sealB s).data.toList) := by
  have hl : (sealB s).data.toList.length = (sealB s).size := by simp
  refine turnL_seen _ f bits hb (by rw [hl]; exact hf) ?_
  rw [sealB_data, openL_seal]

set_option maxRecDepth 100000 in
set_option maxHeartbeats 1000000 in
theorem crcBurst_walk (s : ByteArray) (hs : s.size ≤ maxLen) (first : Int) (_ : -9223372036854775808 ≤ first) (_ : first ≤ 9223372036854775807) (b : Int) (b0 : 0 ≤ b) (b1 : b ≤ 4294967295) (w : World) :
    Calls Try.prog 10 #[.string s, .int .i64 first, .int .u32 b] w fun e w' => e = .returned (.bool true) ∧ Below w.heap.size w w' := by
  obtain ⟨b, rfl⟩ := Int.eq_ofNat_of_zero_le b0
  have hb : b < 4294967296 := by omega
  clear b0 b1
  by_cases h3 : 300 < s.size
  · unfold maxLen at hs
    go_enter Try.func10, Try.ntmps10
    go_wp2_with (go_at_call 19; refine (summed_any _).mono ?_; rintro e w' ⟨rfl, rfl⟩)
    go_ret
    exact ⟨rfl, Below.refl _ _⟩
  · have hz := sealB_size s
    have hzl : (sealB s).size ≤ 304 := by omega
    have HS : Hid (s.size ≤ 140737488351232) := by have h : s.size ≤ 140737488351232 := by omega
                                                   exact h
    obtain ⟨t, ht⟩ : ∃ t, t = sealB s := ⟨_, rfl⟩
    have hp := pickN_pos (a := first) (show 0 < 8 * (t.size : Int) by rw [ht, hz]; omega)
    obtain ⟨f, hf⟩ := Int.eq_ofNat_of_zero_le hp.1
    have hf2 : f ≤ 8 * t.size := by have := hp.2; omega
    have HF := Lib.hid hf
    have HQ := Lib.hid (by have h := burst_facts s f b hb (by rw [← ht]; exact hf2); rw [← ht] at h; exact h : (openL (turnL t.data.toList f b)).2 = 0 ↔ turnL t.data.toList f b = t.data.toList)
    have hne : t.toList.isEmpty = false := by
      rw [toL]
      have hl : t.data.toList.length = t.size := by simp
      cases h : t.data.toList with
      | nil => rw [h, ht, hz] at hl; simp at hl
      | cons => rfl
    have hne2 : (!t.toList.isEmpty) = true := by rw [hne]; rfl
    have htz : t.size ≤ 304 := by rw [ht]; exact hzl
    have htp : 0 < t.size := by rw [ht, hz]; omega
    have HT := Lib.hid ht
    clear hp hf ht hz hzl hs
    obtain ⟨v, e, hr⟩ : ∃ v e, openL (turnL t.data.toList f b) = (v, e) := ⟨_, _, rfl⟩
    have HU : Hid ((⟨(turnL t.data.toList f b).toArray⟩ : ByteArray).size ≤ 140737488351232) := by
      have h : (⟨(turnL t.data.toList f b).toArray⟩ : ByteArray).size ≤ 140737488351232 := by
        have h1 : (⟨(turnL t.data.toList f b).toArray⟩ : ByteArray).size = (turnL t.data.toList f b).length := by show (turnL t.data.toList f b).toArray.size = _; simp
        have h2 : t.data.toList.length = t.size := by simp
        rw [h1, turnL_len, h2]; omega
      exact h
    by_cases he : e = 0
    · subst he
      have hX := HQ.out.1 (by rw [hr])
      have hXX : (⟨(turnL t.data.toList f b).toArray⟩ : ByteArray) = t := by rw [hX]
      have HX := Lib.hid hXX
      have HR : Hid (openV (openL t.data.toList) = .tuple #[.string ⟨v.toArray⟩, .nilIface]) := by
        have h := openV_ok hr
        rw [hX] at h
        exact h
      have HU2 : Hid (t.size ≤ 140737488351232) := by have h : t.size ≤ 140737488351232 := by omega
                                                      exact h
      clear hr hX hXX
      go_enter Try.func10, Try.ntmps10
      go_wp2_with (go_at_call 19; refine (summed_any _).mono ?_; rintro e w' ⟨rfl, rfl⟩)
      refine (seal_any s _ HS.out).mono ?_
      rintro r w1 ⟨rfl, hb1⟩
      rw [← HT.out]
      have HB1 := Lib.hid hb1
      clear hb1
      go_wp2_with (go_at_call 20; refine (pick_any first _ _ (by omega) (by omega)).mono ?_; rintro e w' ⟨rfl, rfl⟩; rw [HF.out])
      refine (turned_any t f b _ (by omega) (by omega) hb).mono ?_
      rintro r w2 ⟨rfl, hb2⟩
      have HB2 : Hid (Below w.heap.size w w2) := HB1.out.trans (hb2.mono HB1.out.size)
      clear hb2
      rw [HX.out]
      go_wp2_with fail
      refine (open_any t _ HU2.out).mono ?_
      rintro r w3 ⟨rfl, hb3⟩
      rw [HR.out]
      have HB3 : Hid (Below w.heap.size w w3) := HB2.out.trans (hb3.mono HB2.out.size)
      clear hb3
      go_wp2
      go_ret
      exact ⟨rfl, HB3.out⟩
    · have hX : ¬ turnL t.data.toList f b = t.data.toList := fun h => he (by have := HQ.out.2 h; rw [hr] at this; exact this)
      have hbe : (turnL t.data.toList f b == t.toList) = false := beq_eq_false_iff_ne.2 (by rw [toL]; exact hX)
      have hbe2 : (turnL t.data.toList f b == t.data.toList) = false := beq_eq_false_iff_ne.2 hX
      have HR : Hid (openV (openL (⟨(turnL t.data.toList f b).toArray⟩ : ByteArray).data.toList) = .tuple #[.string ⟨#[]⟩, .iface 49 (.int .i64 e)]) := openV_bad hr he
      clear hr hX he
      go_enter Try.func10, Try.ntmps10
      go_wp2_with (go_at_call 19; refine (summed_any _).mono ?_; rintro e w' ⟨rfl, rfl⟩)
      refine (seal_any s _ HS.out).mono ?_
      rintro r w1 ⟨rfl, hb1⟩
      rw [← HT.out]
      have HB1 := Lib.hid hb1
      clear hb1
      go_wp2_with (go_at_call 20; refine (pick_any first _ _ (by omega) (by omega)).mono ?_; rintro e w' ⟨rfl, rfl⟩; rw [HF.out])
      refine (turned_any t f b _ (by omega) (by omega) hb).mono ?_
      rintro r w2 ⟨rfl, hb2⟩
      have HB2 : Hid (Below w.heap.size w w2) := HB1.out.trans (hb2.mono HB1.out.size)
      clear hb2
      go_wp2_with fail
      refine (open_any _ _ HU.out).mono ?_
      rintro r w3 ⟨rfl, hb3⟩
      rw [HR.out]
      have HB3 : Hid (Below w.heap.size w w3) := HB2.out.trans (hb3.mono HB2.out.size)
      clear hb3
      go_wp2
      go_ret
      exact ⟨rfl, HB3.out⟩
end Go.Proofs.Ytgjmelinfkifcaa
