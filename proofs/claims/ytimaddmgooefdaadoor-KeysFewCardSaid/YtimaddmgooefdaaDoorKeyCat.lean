/-
  slices.Concat at two slices of texts.
-/
import Derived.Test.YtimaddmgooefdaaDoorKeyFew
namespace Go.Proofs.YtimaddmgooefdaaDoor
open Go.RowKit

theorem kgrow_is (n : Nat) (i : Int) (hi : i = (n : Int)) (w : World) (hn : n ≤ 1000000) :
    Calls Tryd.prog 35 #[.slice none 0 0, .int .i64 i] w fun e w' => ∃ v, e = .returned v ∧ ownsS w' w.heap.size v [] ∧ (∃ ad cap, v = .slice ad 0 cap) ∧ Below w.heap.size w w' := by
  subst hi; exact kgrow_any n w hn

set_option maxRecDepth 100000 in
set_option maxHeartbeats 4000000 in
/-- Two, one behind the other. -/
theorem kcat_any (v1 v2 : Value) (l1 l2 : List ByteArray) (B c : Nat) (w : World) (h1 : IsTexts w v1 l1) (h2 : IsTexts w v2 l2) (hl : l1.length + l2.length ≤ 1000) (hB : B < w.heap.size) (c0 : w.cell? ⟨B, 0, none⟩ = some v1) (c1 : w.cell? ⟨B, 1, none⟩ = some v2) :
    Calls Tryd.prog 17 #[.slice (some ⟨B, 0, none⟩) 2 c] w fun e w' => ∃ v, e = .returned v ∧ ownsS w' w.heap.size v (l1 ++ l2) ∧ Below w.heap.size w w' := by
  obtain ⟨a1, q1, rfl⟩ := h1.form
  obtain ⟨a2, q2, rfl⟩ := h2.form
  have H1 := Lib.hid h1
  have H2 := Lib.hid h2
  obtain ⟨n1, hn1⟩ : ∃ n, n = l1.length := ⟨_, rfl⟩
  obtain ⟨n2, hn2⟩ : ∃ n, n = l2.length := ⟨_, rfl⟩
  rw [← hn1] at hl c0 H1
  rw [← hn2] at hl c1 H2
  have HN1 := Lib.hid hn1
  have HN2 := Lib.hid hn2
  have HB := Lib.hid hB
  clear h1 h2 hn1 hn2
  go_enter Tryd.func17, Tryd.ntmps17
  go_wp2
  refine wp_loop_rounds 3 ?_
  repeat any_goals (rw [rounds_succ]; go_wp2_with fail)
  refine (kgrow_is (n1 + n2) _ (by omega) w (by omega)).mono ?_
  rintro r w1 ⟨v, rfl, ho, ⟨ad, cap, rfl⟩, hb⟩
  have d0 := (hb.cell (p := ⟨B, 0, none⟩) HB.out).trans c0
  have d1 := (hb.cell (p := ⟨B, 1, none⟩) HB.out).trans c1
  have K1 := Lib.hid (H1.out.below hb)
  have K2 := Lib.hid (H2.out.below hb)
  have HO := Lib.hid ho
  have HB1 := Lib.hid hb
  clear ho hb c0 H1
  go_wp2_with fail
  refine wp_loop_rounds 3 ?_
  rw [rounds_succ]
  go_wp2_with (at_builtin; refine wpList_append_texts rfl _ _ rfl w.heap.size _ [] rfl HO.out _ l1 rfl K1.out (by have := HN1.out; simp; omega) (HB1.out.size) ?_)
  intro v2 w2 ho2 hg2
  have hb2 : Below w.heap.size w w2 := HB1.out.grown hg2 HB1.out.size (fun g hg => (HO.out.lt g hg).1)
  have e1 : w2.cell? ⟨B, 1, none⟩ = some (.slice a2 n2 q2) := by
    exact (hb2.cell (p := ⟨B, 1, none⟩) HB.out).trans c1
  have HO2 := Lib.hid ho2
  have HB2 := Lib.hid hb2
  have L2 := Lib.hid (H2.out.below hb2)
  clear ho2 hg2 hb2 d0 d1 K1 K2 HO H2 c1
  go_wp2
  rw [rounds_succ]
  go_wp2_with (at_builtin; refine wpList_append_texts rfl _ _ rfl w.heap.size v2 l1 rfl HO2.out _ l2 rfl L2.out (by have := HN1.out; have := HN2.out; omega) (HB2.out.size) ?_)
  intro v3 w3 ho3 hg3
  have HB3 : Hid (Below w.heap.size w w3) := HB2.out.grown hg3 HB2.out.size (fun g hg => (HO2.out.lt g hg).1)
  have HO3 := Lib.hid ho3
  clear ho3 hg3 HO2 HB2 L2 e1
  go_wp2
  rw [rounds_succ]
  go_wp2
  go_ret
  exact ⟨_, rfl, HO3.out, HB3.out⟩
end Go.Proofs.YtimaddmgooefdaaDoor
