/-
  The walk of 'packtrainlaw.ChunkCuts': any text in pieces is the document's.
-/
import Derived.Test.YtggokgiebdadpaaDoorChkRefCut
import Derived.Test.YtggokgiebdadpaaDoorChksEq
import Derived.Test.YtggokgiebdadpaaDoorPlace
namespace Go.Proofs.YtggokgiebdadpaaDoor
open Go.RowKit

theorem placeIs_chk (w : World) (e : Nat) (_ : e ≠ 0) : placeIs w (.iface 23 (.int .i64 e)) e (-1) := .inr (.inl ⟨rfl, rfl⟩)
theorem placeIs_none (w : World) : placeIs w .nilIface 0 (-1) := .inl ⟨rfl, by omega, rfl⟩
theorem nil_chks (w : World) : IsChks w (.slice none 0 0) [] := .inl ⟨_, _, rfl, rfl⟩

set_option maxRecDepth 100000 in
set_option maxHeartbeats 2000000 in
theorem chunkCuts_walk (s : ByteArray) (hs : s.size ≤ maxLen) (z : Int) (z0 : -9223372036854775808 ≤ z) (z1 : z ≤ 9223372036854775807) (w : World) (hg : errT w) :
    Calls Tryd.prog 3 #[.string s, .int .i64 z] w fun e w' => e = .returned (.bool true) ∧ Below w.heap.size w w' := by
  have HS := Lib.hid hs
  unfold maxLen at hs
  have HG := Lib.hid hg
  clear hg
  by_cases hA : 1500 < s.size ∧ s.size ≤ 4096
  · have h1 : (1500 : Int) < (s.size : Int) := by omega
    have h2 : (s.size : Int) ≤ 4096 := by omega
    clear hA
    go_enter Tryd.func3, Tryd.ntmps3
    go_wp2
    go_ret
    exact ⟨rfl, Below.refl _ _⟩
  · by_cases hB : 4105 < s.size
    · have h1 : (1500 : Int) < (s.size : Int) := by omega
      have h2 : (4096 : Int) < (s.size : Int) := by omega
      have h3 : (4105 : Int) < (s.size : Int) := by omega
      clear hA
      go_enter Tryd.func3, Tryd.ntmps3
      go_wp2
      go_ret
      exact ⟨rfl, Below.refl _ _⟩
    · have h3 : (s.size : Int) ≤ 4105 := by omega
      obtain ⟨b, hb⟩ : ∃ b, decide ((1500 : Int) < (s.size : Int)) = b := ⟨_, rfl⟩
      have hbb : b = true → (4096 : Int) < (s.size : Int) := fun h => by
        subst h
        have := of_decide_eq_true hb
        omega
      obtain ⟨e, he⟩ : ∃ e, cutE s.size z = e := ⟨_, rfl⟩
      by_cases h0 : e = 0
      · subst h0
        have hz : 1 ≤ s.size ∧ s.size ≤ 4096 ∧ 1 ≤ z ∧ z ≤ 256 := by
          unfold cutE at he
          split at he
          · cases he
          · split at he
            · cases he
            · omega
        obtain ⟨z, rfl⟩ := Int.eq_ofNat_of_zero_le (show 0 ≤ z by omega)
        have HR := Lib.hid (fun w' => rcut_ok s z w' hz.1 hz.2.1 (by omega) (by omega))
        have HC := Lib.hid (fun w' => cut_ok s z w' hz.1 hz.2.1 (by omega) (by omega))
        have HN : Hid ((cutK s z (cutN s.size z)).length ≤ 1000000) := Lib.hid (by
          rw [cutK_len]
          have h2 := cutN_le s.size z (by omega)
          omega)
        have h15 : (s.size : Int) ≤ 1500 := by omega
        clear hb hbb hA hB hz he hs
        go_enter Tryd.func3, Tryd.ntmps3
        go_wp2_with fail
        refine (HR.out w).mono ?_
        rintro r w1 ⟨v1, rfl, ho1, hb1⟩
        have HB1 := Lib.hid hb1
        have HI1 := Lib.hid ho1.is
        clear ho1 hb1
        go_wp2_with fail
        refine (HC.out w1).mono ?_
        rintro r w2 ⟨v2, rfl, ho2, hb2⟩
        have HB2 : Hid (Below w.heap.size w w2) := HB1.out.trans (hb2.mono HB1.out.size)
        have HI1b := Lib.hid (HI1.out.below hb2)
        have HI2 := Lib.hid ho2.is
        clear ho2 hb2
        go_wp2_with fail
        refine (bare_ok .nilIface 0 w2 (HG.out.below HB2.out) (placeIs_none _)).mono ?_
        rintro r w3 ⟨rfl, hb3⟩
        have HB3 : Hid (Below w.heap.size w w3) := HB2.out.trans (hb3.mono HB2.out.size)
        have HI3 := Lib.hid (HI1b.out.below hb3)
        have HI4 := Lib.hid (HI2.out.below hb3)
        clear hb3
        go_wp2_with fail
        refine (equal_chks _ _ _ w3 HI3.out HI4.out HN.out).mono ?_
        rintro r w4 ⟨rfl, q, rfl⟩
        go_wp2
        go_ret
        exact ⟨rfl, below_drewN HB3.out _⟩
      · have HR := Lib.hid (fun w' => rcut_bad s z e w' HS.out z0 z1 he h0)
        have HC := Lib.hid (fun w' => cut_bad s z e w' HS.out z0 z1 he h0)
        have HP := Lib.hid (placeIs_chk w e h0)
        have hcase : (s.size : Int) ≤ 1500 ∨ ((1500 : Int) < (s.size : Int) ∧ (4096 : Int) < (s.size : Int)) := by omega
        clear hb hbb hA hB he hs h0
        rcases hcase with h15 | ⟨h15, h40⟩
        all_goals
          go_enter Tryd.func3, Tryd.ntmps3
          go_wp2_with fail
          refine (HR.out w).mono ?_
          rintro r w1 ⟨rfl, rfl⟩
          go_wp2_with fail
          refine (HC.out w).mono ?_
          rintro r w1 ⟨rfl, rfl⟩
          go_wp2_with fail
          refine (bare_ok _ e w HG.out HP.out).mono ?_
          rintro r w3 ⟨rfl, hb3⟩
          have HB3 := Lib.hid hb3
          clear hb3
          go_wp2_with fail
          refine (equal_chks _ _ [] w3 (nil_chks _) (nil_chks _) (by decide)).mono ?_
          rintro r w4 ⟨rfl, q, rfl⟩
          go_wp2
          go_ret
          exact ⟨rfl, below_drewN HB3.out _⟩
end Go.Proofs.YtggokgiebdadpaaDoor
