/-
  The walk of 'packtrainlaw.CrcSeals': any text with its sum behind, and without, is the document's.
-/
import Derived.Test.YtgjmelinfkifcaaDoorCrcRefSeal
import Derived.Test.YtgjmelinfkifcaaDoorPlace
namespace Go.Proofs.YtgjmelinfkifcaaDoor
open Go.RowKit

theorem placeIs_errC (w : World) (e : Nat) : placeIs w (errC e) e (-1) := by
  unfold placeIs errC
  by_cases h : e = 0
  · rw [if_pos h]; exact .inl ⟨rfl, by omega, rfl⟩
  · rw [if_neg h]; exact .inr (.inl ⟨rfl, rfl⟩)

set_option maxRecDepth 100000 in
set_option maxHeartbeats 2000000 in
theorem crcSeals_walk (s : ByteArray) (hs : s.size ≤ maxLen) (w : World) (hg : errT w) :
    Calls Tryd.prog 3 #[.string s] w fun e w' => e = .returned (.bool true) ∧ Below w.heap.size w w' := by
  by_cases h8 : 800 < s.size
  · unfold maxLen at hs
    go_enter Tryd.func3, Tryd.ntmps3
    go_wp2_with fail
    go_ret
    exact ⟨rfl, Below.refl _ _⟩
  · obtain ⟨t, e, hr⟩ : ∃ t e, openL s.data.toList = (t, e) := ⟨_, _, rfl⟩
    have HA : Hid (openV (openL s.data.toList) = .tuple #[.string ⟨t.toArray⟩, errC e]) := by show openV _ = _; rw [hr]; rfl
    have HB : Hid (openR (openL s.data.toList) = .tuple #[.string ⟨t.toArray⟩, .int .i64 e]) := by show openR _ = _; rw [hr]; rfl
    have HP := Lib.hid (fun w => placeIs_errC w e)
    have HG := Lib.hid hg
    have s1 : s.size ≤ 1000000 := by omega
    have s2 : s.size ≤ 140737488351232 := by omega
    clear hr hg hs
    obtain ⟨v, hv⟩ : ∃ v, errC e = v := ⟨_, rfl⟩
    rw [hv] at HA HP
    clear hv
    go_enter Tryd.func3, Tryd.ntmps3
    go_wp2_with fail
    refine (refopen_any s _ s1).mono ?_
    rintro r w1 ⟨rfl, hb1⟩
    rw [HB.out]
    have HX1 := Lib.hid hb1
    clear hb1
    go_wp2_with fail
    refine (open_any s _ s2).mono ?_
    rintro r w2 ⟨rfl, hb2⟩
    rw [HA.out]
    have HX2 : Hid (Below w.heap.size w w2) := HX1.out.trans (hb2.mono HX1.out.size)
    clear hb2
    go_wp2_with fail
    refine (seal_any s _ s2).mono ?_
    rintro r w3 ⟨rfl, hb3⟩
    have HX3 : Hid (Below w.heap.size w w3) := HX2.out.trans (hb3.mono HX2.out.size)
    clear hb3
    go_wp2_with fail
    refine (refseal_any s _ s1).mono ?_
    rintro r w4 ⟨rfl, hb4⟩
    have HX4 : Hid (Below w.heap.size w w4) := HX3.out.trans (hb4.mono HX3.out.size)
    clear hb4
    go_wp2_with fail
    refine (bare_ok v e _ (HG.out.below HX4.out) (HP.out _)).mono ?_
    rintro r w5 ⟨rfl, hb5⟩
    have HX5 : Hid (Below w.heap.size w w5) := HX4.out.trans (hb5.mono HX4.out.size)
    clear hb5
    go_wp2
    go_ret
    exact ⟨rfl, HX5.out⟩
end Go.Proofs.YtgjmelinfkifcaaDoor
