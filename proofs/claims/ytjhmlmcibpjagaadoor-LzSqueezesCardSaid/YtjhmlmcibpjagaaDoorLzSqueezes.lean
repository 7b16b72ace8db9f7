/-
  The walk of 'packtrainlaw.LzSqueezes'.
-/
import Derived.Test.YtjhmlmcibpjagaaDoorLzSq
import Derived.Test.YtjhmlmcibpjagaaDoorPlace
namespace Go.Proofs.YtjhmlmcibpjagaaDoor
open Go.RowKit

set_option maxRecDepth 100000 in
set_option maxHeartbeats 2000000 in
theorem lzSqueezes_walk (s : ByteArray) (hs : s.size ≤ maxLen) (w : World) (hg : errT w) :
    Calls Tryd.prog 5 #[.string s] w fun e w' => e = .returned (.bool true) ∧ Below w.heap.size w w' := by
  have HM := Lib.hid hs
  have HG := Lib.hid hg
  unfold maxLen at hs
  clear hg
  by_cases h1 : s.size ≤ 1500
  · have d1 : (s.size : Int) ≤ 1500 := by omega
    go_enter Tryd.func5, Tryd.ntmps5
    go_wp2_with fail
    refine (rsq_any s _ (by omega)).mono ?_
    rintro r w1 ⟨rfl, hb1⟩
    have HB1 := Lib.hid hb1
    have HG1 := Lib.hid ((HG.out.below hb1).alloc (.cells #[.int .i64 0, .int .i64 (-1)] 26))
    clear hb1
    go_wp2_with fail
    refine (lzsq_any s _ (by omega)).mono ?_
    rintro r w2 ⟨rfl, hb2⟩
    have hl : w1.heap.size < (w1.alloc (.cells #[.int .i64 0, .int .i64 (-1)] 26)).heap.size := by simp
    have u0 : w2.cell? ⟨w1.heap.size, 0, none⟩ = some (.int .i64 0) := (hb2.cell hl).trans (by simp)
    have u1 : w2.cell? ⟨w1.heap.size, 1, none⟩ = some (.int .i64 (-1)) := (hb2.cell hl).trans (by simp)
    have HB2 : Hid (Below w.heap.size w w2) := (HB1.out.alloc HB1.out.size _).trans (hb2.mono (by simp; have := HB1.out.size; omega))
    have HG2 := Lib.hid (HG1.out.below hb2)
    clear hb2 hl
    obtain ⟨T, hT⟩ : ∃ T : ByteArray, ⟨(sqL s.data.toList).toArray⟩ = T := ⟨_, rfl⟩
    rw [hT]
    clear hT
    go_wp2_with fail
    refine (placed_ok .nilIface 0 (-1) _ HG2.out (.inl ⟨rfl, rfl, rfl⟩)).mono ?_
    rintro r w3 ⟨rfl, hb3⟩
    have HB3 := Lib.hid (HB2.out.trans (hb3.mono HB2.out.size))
    clear hb3
    go_wp2
    go_ret
    exact ⟨by first | rfl | simp, HB3.out⟩
  · by_cases h2 : s.size ≤ 20000
    · have d1 : (s.size : Int) ≤ 20000 := by omega
      have d2 : 1500 < (s.size : Int) := by omega
      go_enter Tryd.func5, Tryd.ntmps5
      go_wp2
      go_ret
      exact ⟨rfl, Below.refl _ _⟩
    · by_cases h3 : s.size ≤ 20009
      · have d1 : (s.size : Int) ≤ 20009 := by omega
        have d2 : 20000 < (s.size : Int) := by omega
        go_enter Tryd.func5, Tryd.ntmps5
        go_wp2_with fail
        refine (rsq_big s _ (by omega) HM.out).mono ?_
        rintro r w1 ⟨rfl, hb1⟩
        have HB1 := Lib.hid hb1
        have HG1 := Lib.hid ((HG.out.below hb1).alloc (.cells #[.int .i64 4, .int .i64 (-1)] 26))
        clear hb1
        go_wp2_with fail
        refine (lzsq_big s _ (by omega) HM.out).mono ?_
        rintro r w2 ⟨rfl, rfl⟩
        go_wp2_with fail
        refine (placed_ok (.iface 24 (.int .i64 4)) 4 (-1) _ HG1.out (.inr (.inl ⟨rfl, rfl⟩))).mono ?_
        rintro r w3 ⟨rfl, hb3⟩
        have HB3 : Hid (Below w.heap.size w w3) := (HB1.out.alloc HB1.out.size _).trans (hb3.mono (by simp; have := HB1.out.size; omega))
        clear hb3
        go_wp2
        go_ret
        exact ⟨by first | rfl | simp, HB3.out⟩
      · have d1 : 20009 < (s.size : Int) := by omega
        go_enter Tryd.func5, Tryd.ntmps5
        go_wp2
        go_ret
        exact ⟨rfl, Below.refl _ _⟩
end Go.Proofs.YtjhmlmcibpjagaaDoor
