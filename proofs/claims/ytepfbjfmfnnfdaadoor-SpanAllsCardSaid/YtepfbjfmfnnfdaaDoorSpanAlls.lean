/-
  The walk of 'packtrainlaw.SpanAlls': so many texts, one behind the other, are the document's.
-/
import Derived.Test.YtepfbjfmfnnfdaaDoorRefSpans
namespace Go.Proofs.YtepfbjfmfnnfdaaDoor
open Go.RowKit

/-- slices.Equal of two lists of the same texts. -/
theorem equal_owns (v1 v2 : Value) (l : List ByteArray) (b1 b2 : Nat) (w : World) (h1 : ownsS w b1 v1 l) (h2 : ownsS w b2 v2 l) (hl : l.length ≤ 9223372036854775807) :
    Calls Tryd.prog 36 #[v1, v2] w fun e w' => e = .returned (.bool true) ∧ Below w.heap.size w w' := by
  by_cases hz : l.length = 0
  · have hn : l = [] := List.length_eq_zero_iff.1 hz
    subst hn
    obtain ⟨a1, c1, rfl⟩ : ∃ a c, v1 = .slice a 0 c := by
      rcases h1.forms with ⟨h, _⟩ | ⟨g, c, h, _⟩
      · exact ⟨_, _, h⟩
      · exact ⟨_, _, h⟩
    obtain ⟨a2, c2, rfl⟩ : ∃ a c, v2 = .slice a 0 c := by
      rcases h2.forms with ⟨h, _⟩ | ⟨g, c, h, _⟩
      · exact ⟨_, _, h⟩
      · exact ⟨_, _, h⟩
    exact (Tryd.slices_Equal_string_empty a1 a2 c1 0 c2 w (by decide)).mono fun e w' ⟨h, hw⟩ => ⟨h, hw ▸ Below.refl _ _⟩
  · rcases h1.forms with ⟨_, h⟩ | ⟨g1, c1, e1, _, _, hc1⟩
    · exact absurd (by rw [h]; rfl) hz
    · rcases h2.forms with ⟨_, h⟩ | ⟨g2, c2, e2, _, _, hc2⟩
      · exact absurd (by rw [h]; rfl) hz
      · subst e1 e2
        refine (Tryd.slices_Equal_string g1 0 l.length c1 g2 0 l.length c2 l l w (Nat.le_refl _) (Nat.le_refl _) hl hl (fun j hj => by rw [Nat.zero_add]; exact hc1 j hj) (fun j hj => by rw [Nat.zero_add]; exact hc2 j hj)).mono ?_
        rintro e w' ⟨rfl, q, rfl⟩
        exact ⟨by rw [decide_eq_true (rfl : l.take l.length = l.take l.length)], below_drewN (Below.refl _ _) q⟩

theorem allF_len (l : List UInt8) : ∀ (m i p : Nat) (acc : List ByteArray), acc.length ≤ i → (allF l m i p acc).1.length ≤ i + m := by
  intro m
  induction m with
  | zero => intro i p acc h; simpa [allF] using h
  | succ m ih =>
    intro i p acc h
    rw [allF]
    split
    · have := ih (i + 1) (p + (getS (l.drop p)).2.1) (acc ++ [⟨(getS (l.drop p)).1.toArray⟩]) (by simp; omega)
      omega
    · simp

set_option maxRecDepth 100000 in
set_option maxHeartbeats 4000000 in
theorem spanAlls_walk (s : ByteArray) (hs : s.size ≤ maxLen) (n : Int) (n0 : -9223372036854775808 ≤ n) (n1 : n ≤ 9223372036854775807) (w : World) (hg : errT w) :
    Calls Tryd.prog 13 #[.string s, .int .i64 n] w fun e w' => e = .returned (.bool true) ∧ Below w.heap.size w w' := by
  unfold maxLen at hs
  by_cases h15 : 1500 < s.size
  · go_enter Tryd.func13, Tryd.ntmps13
    go_wp2
    go_ret
    exact ⟨rfl, Below.refl _ _⟩
  · by_cases h3 : 3000 < n
    · go_enter Tryd.func13, Tryd.ntmps13
      go_wp2
      go_ret
      exact ⟨rfl, Below.refl _ _⟩
    · obtain ⟨l, q, e, pl, hr⟩ : ∃ l q e pl, allF s.data.toList n.toNat 0 0 [] = (l, q, e, pl) := ⟨_, _, _, _, rfl⟩
      have hln : l.length ≤ 3000 := by
        have := allF_len s.data.toList n.toNat 0 0 [] (Nat.le_refl _)
        rw [hr] at this
        have h2 : l.length ≤ 0 + n.toNat := this
        omega
      have HLN := Lib.hid hln
      have HR := Lib.hid hr
      have NB : Hid (s.size ≤ 1000000) := by have h : s.size ≤ 1000000 := by omega
                                             exact h
      clear hr hln
      go_enter Tryd.func13, Tryd.ntmps13
      go_wp2_with fail
      refine (rspans_any s n _ NB.out n0 n1).mono ?_
      rintro r w1 ⟨v1, rfl, hv1, hb1⟩
      rw [HR.out] at hv1 ⊢
      have HV1 := Lib.hid hv1
      have HB1 := Lib.hid hb1
      clear hv1 hb1
      have HG1 := Lib.hid (((hg.below HB1.out)).alloc (.cells #[.int .i64 e, .int .i64 pl] 59))
      clear hg
      go_wp2_with fail
      refine (sall_any s n _ NB.out n0 n1 HG1.out).mono ?_
      rintro r w2 ⟨v2, err, rfl, hv2, hp, _, hb2⟩
      rw [HR.out] at hv2 hp ⊢
      have hlt : w1.heap.size < (w1.alloc (.cells #[.int .i64 e, .int .i64 pl] 59)).heap.size := by simp
      have c0 : w2.cell? ⟨w1.heap.size, 0, none⟩ = some (.int .i64 e) := (hb2.cell hlt).trans (by simp)
      have c1 : w2.cell? ⟨w1.heap.size, 1, none⟩ = some (.int .i64 pl) := (hb2.cell hlt).trans (by simp)
      have HB2 : Hid (Below w.heap.size w w2) := (HB1.out.alloc HB1.out.size _).trans (hb2.mono (Nat.le_trans HB1.out.size (Nat.le_of_lt hlt)))
      have HV1' := Lib.hid ((HV1.out.alloc (.cells #[.int .i64 e, .int .i64 pl] 59)).below hb2)
      have HV2 := Lib.hid hv2
      have HG2 := Lib.hid (HG1.out.below hb2)
      have HP := Lib.hid hp
      clear hb2 hv2 hp HG1 HB1 HV1 hlt
      go_wp2_with fail
      refine (placed_ok err e pl _ HG2.out HP.out).mono ?_
      rintro r w3 ⟨rfl, hb3⟩
      have HB3 : Hid (Below w.heap.size w w3) := HB2.out.trans (hb3.mono HB2.out.size)
      have HV1'' := Lib.hid (HV1'.out.below hb3)
      have HV2'' := Lib.hid (HV2.out.below hb3)
      clear hb3
      go_wp2_with fail
      refine (equal_owns v1 v2 l _ _ _ HV1''.out HV2''.out (Nat.le_trans HLN.out (by decide))).mono ?_
      rintro r w4 ⟨rfl, hb4⟩
      have HB4 : Hid (Below w.heap.size w w4) := HB3.out.trans (hb4.mono HB3.out.size)
      clear hb4
      go_wp2
      go_ret
      exact ⟨rfl, HB4.out⟩
end Go.Proofs.YtepfbjfmfnnfdaaDoor
