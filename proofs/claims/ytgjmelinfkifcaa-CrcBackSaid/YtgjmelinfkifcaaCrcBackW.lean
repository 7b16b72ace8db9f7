/-
  The walk of 'packtrainkeep.CrcBack'.
-/
import Derived.Test.YtgjmelinfkifcaaCrcOpen
import Derived.Test.YtgjmelinfkifcaaCrcSummed
namespace Go.Proofs.Ytgjmelinfkifcaa
open Go.RowKit

theorem mk_self (s : ByteArray) : (⟨s.data.toList.toArray⟩ : ByteArray) = s := by apply bytes_ext; simp
theorem openV_ok {l t : List UInt8} (h : openL l = (t, 0)) : openV (openL l) = .tuple #[.string ⟨t.toArray⟩, .nilIface] := by rw [h]; rfl
theorem openV_bad {l t : List UInt8} {e : Nat} (h : openL l = (t, e)) (he : e ≠ 0) : openV (openL l) = .tuple #[.string ⟨#[]⟩, .iface 49 (.int .i64 e)] := by
  have := (openL_bad h he).1
  subst this
  rw [h]
  unfold openV errC
  rw [if_neg he]
theorem openV_seal (s : ByteArray) : openV (openL (sealB s).data.toList) = .tuple #[.string s, .nilIface] := by
  have h : openL (sealB s).data.toList = (s.data.toList, 0) := by rw [sealB_data, openL_seal]
  rw [openV_ok h, mk_self]
theorem seal_mk {l : ByteArray} {t : List UInt8} (h : openL l.data.toList = (t, 0)) : sealB ⟨t.toArray⟩ = l := by
  apply bytes_ext
  rw [sealB_data]
  exact openL_only h

set_option maxRecDepth 100000 in
set_option maxHeartbeats 1000000 in
theorem crcBack_walk (s : ByteArray) (hs : s.size ≤ 140737488351232) (t : ByteArray) (ht : t.size ≤ 140737488351232) (w : World) :
    Calls Try.prog 9 #[.string s, .string t] w fun e w' => e = .returned (.bool true) ∧ Below w.heap.size w w' := by
  by_cases h5 : 500 < s.size + t.size
  · go_enter Try.func9, Try.ntmps9
    go_wp2_with (go_at_call 19; refine (summed_any _).mono ?_; rintro e w' ⟨rfl, rfl⟩)
    go_ret
    exact ⟨rfl, Below.refl _ _⟩
  · have hz := sealB_size s
    have HS := Lib.hid hs
    have HT := Lib.hid ht
    have HZ : Hid ((sealB s).size ≤ 140737488351232) := by have h : (sealB s).size ≤ 140737488351232 := by omega
                                                           exact h
    have HV := Lib.hid (openV_seal s)
    clear hs ht
    obtain ⟨v, e, hr⟩ : ∃ v e, openL t.data.toList = (v, e) := ⟨_, _, rfl⟩
    by_cases he : e = 0
    · subst he
      have HR := Lib.hid (openV_ok hr)
      have HX := Lib.hid (seal_mk hr)
      have HW : Hid ((⟨v.toArray⟩ : ByteArray).size ≤ 140737488351232) := by
        have h : (⟨v.toArray⟩ : ByteArray).size ≤ 140737488351232 := by
          have h1 := sealB_size ⟨v.toArray⟩
          rw [seal_mk hr] at h1
          omega
        exact h
      clear hr
      go_enter Try.func9, Try.ntmps9
      go_wp2_with (go_at_call 19; refine (summed_any _).mono ?_; rintro e w' ⟨rfl, rfl⟩)
      refine (seal_any s _ HS.out).mono ?_
      rintro r w1 ⟨rfl, hb1⟩
      have HB1 := Lib.hid hb1
      clear hb1
      go_wp2_with fail
      refine (open_any (sealB s) _ HZ.out).mono ?_
      rintro r w2 ⟨rfl, hb2⟩
      rw [HV.out]
      have HB2 : Hid (Below w.heap.size w w2) := HB1.out.trans (hb2.mono HB1.out.size)
      clear hb2
      go_wp2_with fail
      refine (open_any t _ HT.out).mono ?_
      rintro r w3 ⟨rfl, hb3⟩
      rw [HR.out]
      have HB3 : Hid (Below w.heap.size w w3) := HB2.out.trans (hb3.mono HB2.out.size)
      clear hb3
      go_wp2_with fail
      refine (seal_any _ _ HW.out).mono ?_
      rintro r w4 ⟨rfl, hb4⟩
      rw [HX.out]
      have HB4 : Hid (Below w.heap.size w w4) := HB3.out.trans (hb4.mono HB3.out.size)
      clear hb4
      go_wp2_with fail
      refine (seal_any s _ HS.out).mono ?_
      rintro r w5 ⟨rfl, hb5⟩
      have HB5 : Hid (Below w.heap.size w w5) := HB4.out.trans (hb5.mono HB4.out.size)
      clear hb5
      go_wp2
      go_ret
      exact ⟨rfl, HB5.out⟩
    · have HR := Lib.hid (openV_bad hr he)
      clear hr he
      go_enter Try.func9, Try.ntmps9
      go_wp2_with (go_at_call 19; refine (summed_any _).mono ?_; rintro e w' ⟨rfl, rfl⟩)
      refine (seal_any s _ HS.out).mono ?_
      rintro r w1 ⟨rfl, hb1⟩
      have HB1 := Lib.hid hb1
      clear hb1
      go_wp2_with fail
      refine (open_any (sealB s) _ HZ.out).mono ?_
      rintro r w2 ⟨rfl, hb2⟩
      rw [HV.out]
      have HB2 : Hid (Below w.heap.size w w2) := HB1.out.trans (hb2.mono HB1.out.size)
      clear hb2
      go_wp2_with fail
      refine (open_any t _ HT.out).mono ?_
      rintro r w3 ⟨rfl, hb3⟩
      rw [HR.out]
      have HB3 : Hid (Below w.heap.size w w3) := HB2.out.trans (hb3.mono HB2.out.size)
      clear hb3
      go_wp2_with fail
      refine (seal_any s _ HS.out).mono ?_
      rintro r w5 ⟨rfl, hb5⟩
      have HB5 : Hid (Below w.heap.size w w5) := HB3.out.trans (hb5.mono HB3.out.size)
      clear hb5
      go_wp2
      go_ret
      exact ⟨rfl, HB5.out⟩
end Go.Proofs.Ytgjmelinfkifcaa
