/-
  The walk of 'packtrainlaw.VectorReads'.
-/
import Derived.Test.YthdflbaknfiglaaDoorVecDoor2
import Derived.Test.YthdflbaknfiglaaDoorVecReadAs
import Derived.Test.YthdflbaknfiglaaDoorEntEq
import Derived.Test.YthdflbaknfiglaaDoorVecLaw
namespace Go.Proofs.YthdflbaknfiglaaDoor
open Go.RowKit

theorem rvread_as (s : ByteArray) (x n : Nat) (l : List Ent) (w : World) (hs : s.size ≤ 1000000) (h : vreadF s.data.toList = (x, n, l)) :
    Calls Tryd.prog 28 #[.string s] w fun e w' => ∃ v, e = .returned (.tuple #[v, .int .i64 (n : Int), .agg #[.int .i64 (x : Int), .int .i64 (-1)]]) ∧ IsEnts w' v l ∧ Below w.heap.size w w' :=
  (rvread_any s w hs).mono fun e w' ⟨v, h1, h2, h3⟩ => by
    rw [h] at h1 h2
    exact ⟨v, h1, h2.is, h3⟩
theorem reads_place (w : World) (x : Nat) : placeIs w (noV x) x (-1) := by
  have h : anyErr w (noV x) (x, -1) := by
    by_cases h0 : x = 0
    · subst h0; exact .inl (.inl ⟨rfl, rfl⟩)
    · exact .inr ⟨h0, rfl, noV_e h0⟩
  exact h.place

set_option maxRecDepth 100000 in
set_option maxHeartbeats 4000000 in
theorem vectorReads_walk (s : ByteArray) (hs0 : s.size ≤ 9223372036854775807) (w : World) (hg : errT w) :
    Calls Tryd.prog 6 #[.string s] w fun e w' => e = .returned (.bool true) ∧ Below w.heap.size w w' := by
  have HG := Lib.hid hg
  clear hg
  by_cases h8 : s.size ≤ 800
  · obtain ⟨x, n, l, hv, hl⟩ : ∃ x n l, vreadF s.data.toList = (x, n, l) ∧ l.length ≤ 1000000 := by
      rcases vread_cases s.data.toList with ⟨e, h, _⟩ | ⟨n, l, h⟩
      · exact ⟨e, 0, [], h, by simp⟩
      · exact ⟨0, n, l, h, by have := (vread_only h).1.1; omega⟩
    have HV := Lib.hid hv
    have HL := Lib.hid hl
    obtain ⟨nv, hnv⟩ : ∃ nv, noV x = nv := ⟨_, rfl⟩
    have HP : Hid (∀ w, placeIs w nv x (-1)) := Lib.hid (fun w => by rw [← hnv]; exact reads_place w x)
    have HNV := Lib.hid hnv
    clear hv hl hnv
    go_enter Tryd.func6, Tryd.ntmps6
    go_wp2_with fail
    refine (rvread_as s x n l _ (by omega) HV.out).mono ?_
    rintro r w1 ⟨v, rfl, hi1, hb1⟩
    have HB1 := Lib.hid hb1
    have HI1 := Lib.hid (hi1.alloc (.cells #[.int .i64 x, .int .i64 (-1)] 29))
    have HG1 := Lib.hid ((HG.out.below hb1).alloc (.cells #[.int .i64 x, .int .i64 (-1)] 29))
    obtain ⟨a1, c1, hv1, _⟩ := hi1.form
    subst hv1
    clear hb1 hi1
    go_wp2_with fail
    refine (vread_any s _ (by omega) HG1.out).mono ?_
    rintro r w2 ⟨v2, rfl, ho2, hb2⟩
    rw [HV.out] at ho2 ⊢
    simp only [HNV.out]
    have HO2 := Lib.hid ho2.is
    obtain ⟨a2, c2, hv2, _⟩ := ho2.is.form
    have HI2 := Lib.hid (HI1.out.below hb2)
    have HG2 := Lib.hid (HG1.out.below hb2)
    have hlt : w1.heap.size < (w1.alloc (.cells #[.int .i64 x, .int .i64 (-1)] 29)).heap.size := by simp
    have u0 : w2.cell? ⟨w1.heap.size, 0, none⟩ = some (.int .i64 x) := (hb2.cell hlt).trans (by simp)
    have u1 : w2.cell? ⟨w1.heap.size, 1, none⟩ = some (.int .i64 (-1)) := (hb2.cell hlt).trans (by simp)
    have HB2 : Hid (Below w.heap.size w w2) := Lib.hid ((HB1.out.alloc HB1.out.size _).trans (hb2.mono (by simp; have := HB1.out.size; omega)))
    clear hb2 ho2 hlt
    subst hv2
    go_wp2_with fail
    refine (placed_ok nv x (-1) _ HG2.out (HP.out _)).mono ?_
    rintro r w3 ⟨rfl, hb3⟩
    have HB3 : Hid (Below w.heap.size w w3) := Lib.hid (HB2.out.trans (hb3.mono HB2.out.size))
    have HI3 := Lib.hid (HI2.out.below hb3)
    have HO3 := Lib.hid (HO2.out.below hb3)
    clear hb3
    go_wp2_with fail
    refine (equal_same _ _ l _ HI3.out HO3.out HL.out).mono ?_
    rintro r w' ⟨rfl, q, rfl⟩
    have HB4 : Hid (Below w.heap.size w (w3.drewN q)) := Lib.hid (below_drewN HB3.out q)
    go_wp2
    go_ret
    exact ⟨by first | rfl | simp, HB4.out⟩
  · have d1 : 800 < (s.size : Int) := by omega
    go_enter Tryd.func6, Tryd.ntmps6
    go_wp2
    go_ret
    exact ⟨rfl, Below.refl _ _⟩
end Go.Proofs.YthdflbaknfiglaaDoor
