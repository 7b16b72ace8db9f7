/-
  The walk of 'packtrainkeep.IdentOrder'.
-/
import Derived.Test.YthdflbaknfiglabIdOrdered
import Derived.Test.YthdflbaknfiglabIdCmpM
namespace Go.Proofs.Ythdflbaknfiglab
open Go.RowKit

theorem three_cells (w : World) (a1 a2 b1 b2 c1 c2 : Value) (t : TypeId) :
    (((w.alloc (.cells #[a1, a2] t)).alloc (.cells #[b1, b2] t)).alloc (.cells #[c1, c2] t)).cell? ⟨w.heap.size, 0, none⟩ = some a1 ∧ (((w.alloc (.cells #[a1, a2] t)).alloc (.cells #[b1, b2] t)).alloc (.cells #[c1, c2] t)).cell? ⟨w.heap.size, 1, none⟩ = some a2 ∧
    (((w.alloc (.cells #[a1, a2] t)).alloc (.cells #[b1, b2] t)).alloc (.cells #[c1, c2] t)).cell? ⟨w.heap.size + 1, 0, none⟩ = some b1 ∧ (((w.alloc (.cells #[a1, a2] t)).alloc (.cells #[b1, b2] t)).alloc (.cells #[c1, c2] t)).cell? ⟨w.heap.size + 1, 1, none⟩ = some b2 ∧
    (((w.alloc (.cells #[a1, a2] t)).alloc (.cells #[b1, b2] t)).alloc (.cells #[c1, c2] t)).cell? ⟨w.heap.size + 1 + 1, 0, none⟩ = some c1 ∧ (((w.alloc (.cells #[a1, a2] t)).alloc (.cells #[b1, b2] t)).alloc (.cells #[c1, c2] t)).cell? ⟨w.heap.size + 1 + 1, 1, none⟩ = some c2 := by
  have h2 := three_new w (.cells #[a1, a2] t) (.cells #[b1, b2] t) c1 c2 t
  refine ⟨?_, ?_, ?_, ?_, h2.1, h2.2⟩
  · rw [World.cell?_alloc_lt _ _ _ (by simp; omega), World.cell?_alloc_lt _ _ _ (by simp)]; simp
  · rw [World.cell?_alloc_lt _ _ _ (by simp; omega), World.cell?_alloc_lt _ _ _ (by simp)]; simp
  · rw [World.cell?_alloc_lt _ _ _ (by simp)]; have h := heap_alloc_new (w.alloc (.cells #[a1, a2] t)) (.cells #[b1, b2] t); rw [World.size_alloc] at h; exact cell_of_row _ _ 0 _ _ (0, 0) h
  · rw [World.cell?_alloc_lt _ _ _ (by simp)]; have h := heap_alloc_new (w.alloc (.cells #[a1, a2] t)) (.cells #[b1, b2] t); rw [World.size_alloc] at h; exact cell_of_row _ _ 1 _ _ (0, 0) h

set_option maxRecDepth 100000 in
set_option maxHeartbeats 8000000 in
theorem identOrder_walk (w : World) (x1 x2 y1 y2 z1 z2 : Int) :
    Calls Try.prog 4 #[.agg #[.int .i64 x1, .int .i64 x2], .agg #[.int .i64 y1, .int .i64 y2], .agg #[.int .i64 z1, .int .i64 z2]] w fun e w' => e = .returned (.bool true) ∧ Below w.heap.size w w' := by
  obtain ⟨cx, hx⟩ : ∃ c, cI (x1, x2) (y1, y2) = c := ⟨_, rfl⟩
  obtain ⟨cy, hy⟩ : ∃ c, cI (y1, y2) (z1, z2) = c := ⟨_, rfl⟩
  obtain ⟨cz, hz⟩ : ∃ c, cI (x1, x2) (z1, z2) = c := ⟨_, rfl⟩
  have hn : cI (y1, y2) (x1, x2) = -cx := by rw [cI_neg, hx]
  have t1 := cI_three x1 x2 y1 y2
  have t2 := cI_three y1 y2 z1 z2
  have t3 := cI_three x1 x2 z1 z2
  rw [hx] at t1
  rw [hy] at t2
  rw [hz] at t3
  have HX := Lib.hid hx
  have HY := Lib.hid hy
  have HZ := Lib.hid hz
  have HNG := Lib.hid hn
  clear hx hy hz hn
  go_enter Try.func4, Try.ntmps4
  go_wp2_with fail
  refine (ordered_any _).mono ?_
  rintro r w1 ⟨rfl, hb1⟩
  have hc := three_cells w (.int .i64 x1) (.int .i64 x2) (.int .i64 y1) (.int .i64 y2) (.int .i64 z1) (.int .i64 z2) 23
  have hs : (((w.alloc (.cells #[.int .i64 x1, .int .i64 x2] 23)).alloc (.cells #[.int .i64 y1, .int .i64 y2] 23)).alloc (.cells #[.int .i64 z1, .int .i64 z2] 23)).heap.size = w.heap.size + 1 + 1 + 1 := by simp
  have k00 : w1.cell? ⟨w.heap.size, 0, none⟩ = some (.int .i64 x1) ∧ w1.cell? ⟨w.heap.size, 1, none⟩ = some (.int .i64 x2) ∧ w1.cell? ⟨w.heap.size + 1, 0, none⟩ = some (.int .i64 y1) ∧ w1.cell? ⟨w.heap.size + 1, 1, none⟩ = some (.int .i64 y2) ∧ w1.cell? ⟨w.heap.size + 1 + 1, 0, none⟩ = some (.int .i64 z1) ∧ w1.cell? ⟨w.heap.size + 1 + 1, 1, none⟩ = some (.int .i64 z2) :=
    ⟨(hb1.cell (by rw [hs]; show w.heap.size < _; omega)).trans hc.1, (hb1.cell (by rw [hs]; show w.heap.size < _; omega)).trans hc.2.1, (hb1.cell (by rw [hs]; show w.heap.size + 1 < _; omega)).trans hc.2.2.1, (hb1.cell (by rw [hs]; show w.heap.size + 1 < _; omega)).trans hc.2.2.2.1, (hb1.cell (by rw [hs]; show w.heap.size + 1 + 1 < _; omega)).trans hc.2.2.2.2.1, (hb1.cell (by rw [hs]; show w.heap.size + 1 + 1 < _; omega)).trans hc.2.2.2.2.2⟩
  have HW0 : Hid (Below w.heap.size w w1) := ((((Below.refl _ _).alloc (Nat.le_refl _) _).alloc (by simp) _).alloc (by simp; omega) _).trans (hb1.mono (by rw [hs]; omega))
  have hsz := hb1.size
  rw [hs] at hsz
  have HA0 : Hid (w.heap.size < w1.heap.size ∧ w.heap.size + 1 < w1.heap.size ∧ w.heap.size + 1 + 1 < w1.heap.size) := Lib.hid (by omega)
  clear hb1 hc hs hsz
  go_wp2
  obtain ⟨W0, hW0⟩ : ∃ W0, w1 = W0 := ⟨_, rfl⟩
  rw [hW0] at k00 HW0 HA0 ⊢
  clear hW0
  obtain ⟨D, hDe⟩ : ∃ D, w.heap.size + 1 + 1 = D := ⟨_, rfl⟩
  rw [hDe] at k00 HA0 ⊢
  obtain ⟨B, hBe⟩ : ∃ B, w.heap.size + 1 = B := ⟨_, rfl⟩
  rw [hBe] at k00 HA0 hDe ⊢
  obtain ⟨A, hAe⟩ : ∃ A, w.heap.size = A := ⟨_, rfl⟩
  rw [hAe] at k00 HA0 hBe ⊢
  have HL0 : Hid (w.heap.size ≤ W0.heap.size) := Lib.hid HW0.out.size
  clear hDe hBe hAe
  have HA := Lib.hid HA0.out.1
  have HBB := Lib.hid HA0.out.2.1
  have HD := Lib.hid HA0.out.2.2
  have k0 := k00
  have HB0 : Hid (Below W0.heap.size W0 W0.drew) := Lib.hid ((Below.refl _ _).drew)
  clear k00
  go_region_held3 (fun w' => w'.cell? ⟨A, 0, none⟩ = some (.int .i64 x1) ∧ w'.cell? ⟨A, 1, none⟩ = some (.int .i64 x2) ∧ w'.cell? ⟨B, 0, none⟩ = some (.int .i64 y1) ∧ w'.cell? ⟨B, 1, none⟩ = some (.int .i64 y2) ∧ w'.cell? ⟨D, 0, none⟩ = some (.int .i64 z1) ∧ w'.cell? ⟨D, 1, none⟩ = some (.int .i64 z2)) (first | exact k0 | exact k1 | exact k2 | exact k3) (first
    | (go_at_call 5; ((with_reducible refine (idcmp_as x1 x2 y1 y2 cx W0.drew HX.out).mono ?_); rintro r w1 ⟨rfl, hb1⟩; have HB1 : Hid (Below W0.heap.size W0 w1) := (HB0.out.trans (hb1.mono HB0.out.size)); have k1 : w1.cell? ⟨A, 0, none⟩ = some (.int .i64 x1) ∧ w1.cell? ⟨A, 1, none⟩ = some (.int .i64 x2) ∧ w1.cell? ⟨B, 0, none⟩ = some (.int .i64 y1) ∧ w1.cell? ⟨B, 1, none⟩ = some (.int .i64 y2) ∧ w1.cell? ⟨D, 0, none⟩ = some (.int .i64 z1) ∧ w1.cell? ⟨D, 1, none⟩ = some (.int .i64 z2) := ⟨(HB1.out.cell HA.out).trans k0.1, (HB1.out.cell HA.out).trans k0.2.1, (HB1.out.cell HBB.out).trans k0.2.2.1, (HB1.out.cell HBB.out).trans k0.2.2.2.1, (HB1.out.cell HD.out).trans k0.2.2.2.2.1, (HB1.out.cell HD.out).trans k0.2.2.2.2.2⟩; clear hb1))
    | (go_at_call 5; ((with_reducible refine (idcmp_as y1 y2 z1 z2 cy w1 HY.out).mono ?_); rintro r w2 ⟨rfl, hb2⟩; have HB2 : Hid (Below W0.heap.size W0 w2) := (HB1.out.trans (hb2.mono HB1.out.size)); have k2 : w2.cell? ⟨A, 0, none⟩ = some (.int .i64 x1) ∧ w2.cell? ⟨A, 1, none⟩ = some (.int .i64 x2) ∧ w2.cell? ⟨B, 0, none⟩ = some (.int .i64 y1) ∧ w2.cell? ⟨B, 1, none⟩ = some (.int .i64 y2) ∧ w2.cell? ⟨D, 0, none⟩ = some (.int .i64 z1) ∧ w2.cell? ⟨D, 1, none⟩ = some (.int .i64 z2) := ⟨(HB2.out.cell HA.out).trans k0.1, (HB2.out.cell HA.out).trans k0.2.1, (HB2.out.cell HBB.out).trans k0.2.2.1, (HB2.out.cell HBB.out).trans k0.2.2.2.1, (HB2.out.cell HD.out).trans k0.2.2.2.2.1, (HB2.out.cell HD.out).trans k0.2.2.2.2.2⟩; clear hb2))
    | (go_at_call 5; ((with_reducible refine (idcmp_as x1 x2 z1 z2 cz w2 HZ.out).mono ?_); rintro r w3 ⟨rfl, hb3⟩; have HB3 : Hid (Below W0.heap.size W0 w3) := (HB2.out.trans (hb3.mono HB2.out.size)); have k3 : w3.cell? ⟨A, 0, none⟩ = some (.int .i64 x1) ∧ w3.cell? ⟨A, 1, none⟩ = some (.int .i64 x2) ∧ w3.cell? ⟨B, 0, none⟩ = some (.int .i64 y1) ∧ w3.cell? ⟨B, 1, none⟩ = some (.int .i64 y2) ∧ w3.cell? ⟨D, 0, none⟩ = some (.int .i64 z1) ∧ w3.cell? ⟨D, 1, none⟩ = some (.int .i64 z2) := ⟨(HB3.out.cell HA.out).trans k0.1, (HB3.out.cell HA.out).trans k0.2.1, (HB3.out.cell HBB.out).trans k0.2.2.1, (HB3.out.cell HBB.out).trans k0.2.2.2.1, (HB3.out.cell HD.out).trans k0.2.2.2.2.1, (HB3.out.cell HD.out).trans k0.2.2.2.2.2⟩; clear hb3)))
  all_goals
    obtain ⟨e1, e2, e3, e4, e5, e6⟩ := k3
    clear k1 k2
    rcases t1 with h1 | h1 | h1
    · subst h1
      have hne := cI_ne (show cI (x1, x2) (y1, y2) ≠ 0 by rw [HX.out]; decide)
      by_cases hq : x1 = y1
      · subst hq
        have b2 : (x2 == y2) = false := by simp; intro h; exact hne ⟨rfl, h⟩
        clear hne
        rcases t2 with h2 | h2 | h2
        · subst h2
          obtain rfl : cz = -1 := by rw [← HZ.out]; exact cI_trans HX.out HY.out
          go_wp2_with fail
          refine (idcmp_as x1 y2 x1 x2 (1) _ (by rw [HNG.out] <;> rfl)).mono ?_
          rintro r w4 ⟨rfl, hb4⟩
          have HB4 : Hid (Below W0.heap.size W0 w4) := HB3.out.trans (hb4.mono HB3.out.size)
          have f1 := (HB4.out.cell HA.out).trans k0.1
          have f2 := (HB4.out.cell HA.out).trans k0.2.1
          have f3 := (HB4.out.cell HBB.out).trans k0.2.2.1
          have f4 := (HB4.out.cell HBB.out).trans k0.2.2.2.1
          clear hb4 e1 e2 e3 e4 e5 e6
          go_wp2
          go_ret
          exact ⟨by first | rfl | simp, HW0.out.trans (HB4.out.mono HL0.out)⟩
        · subst h2
          go_wp2_with fail
          refine (idcmp_as x1 y2 x1 x2 (1) _ (by rw [HNG.out] <;> rfl)).mono ?_
          rintro r w4 ⟨rfl, hb4⟩
          have HB4 : Hid (Below W0.heap.size W0 w4) := HB3.out.trans (hb4.mono HB3.out.size)
          have f1 := (HB4.out.cell HA.out).trans k0.1
          have f2 := (HB4.out.cell HA.out).trans k0.2.1
          have f3 := (HB4.out.cell HBB.out).trans k0.2.2.1
          have f4 := (HB4.out.cell HBB.out).trans k0.2.2.2.1
          clear hb4 e1 e2 e3 e4 e5 e6
          go_wp2
          go_ret
          exact ⟨by first | rfl | simp, HW0.out.trans (HB4.out.mono HL0.out)⟩
        · subst h2
          go_wp2_with fail
          refine (idcmp_as x1 y2 x1 x2 (1) _ (by rw [HNG.out] <;> rfl)).mono ?_
          rintro r w4 ⟨rfl, hb4⟩
          have HB4 : Hid (Below W0.heap.size W0 w4) := HB3.out.trans (hb4.mono HB3.out.size)
          have f1 := (HB4.out.cell HA.out).trans k0.1
          have f2 := (HB4.out.cell HA.out).trans k0.2.1
          have f3 := (HB4.out.cell HBB.out).trans k0.2.2.1
          have f4 := (HB4.out.cell HBB.out).trans k0.2.2.2.1
          clear hb4 e1 e2 e3 e4 e5 e6
          go_wp2
          go_ret
          exact ⟨by first | rfl | simp, HW0.out.trans (HB4.out.mono HL0.out)⟩
      · have b1 : (x1 == y1) = false := by simpa using hq
        clear hne
        rcases t2 with h2 | h2 | h2
        · subst h2
          obtain rfl : cz = -1 := by rw [← HZ.out]; exact cI_trans HX.out HY.out
          go_wp2_with fail
          refine (idcmp_as y1 y2 x1 x2 (1) _ (by rw [HNG.out] <;> rfl)).mono ?_
          rintro r w4 ⟨rfl, hb4⟩
          have HB4 : Hid (Below W0.heap.size W0 w4) := HB3.out.trans (hb4.mono HB3.out.size)
          have f1 := (HB4.out.cell HA.out).trans k0.1
          have f2 := (HB4.out.cell HA.out).trans k0.2.1
          have f3 := (HB4.out.cell HBB.out).trans k0.2.2.1
          have f4 := (HB4.out.cell HBB.out).trans k0.2.2.2.1
          clear hb4 e1 e2 e3 e4 e5 e6
          go_wp2
          go_ret
          exact ⟨by first | rfl | simp, HW0.out.trans (HB4.out.mono HL0.out)⟩
        · subst h2
          go_wp2_with fail
          refine (idcmp_as y1 y2 x1 x2 (1) _ (by rw [HNG.out] <;> rfl)).mono ?_
          rintro r w4 ⟨rfl, hb4⟩
          have HB4 : Hid (Below W0.heap.size W0 w4) := HB3.out.trans (hb4.mono HB3.out.size)
          have f1 := (HB4.out.cell HA.out).trans k0.1
          have f2 := (HB4.out.cell HA.out).trans k0.2.1
          have f3 := (HB4.out.cell HBB.out).trans k0.2.2.1
          have f4 := (HB4.out.cell HBB.out).trans k0.2.2.2.1
          clear hb4 e1 e2 e3 e4 e5 e6
          go_wp2
          go_ret
          exact ⟨by first | rfl | simp, HW0.out.trans (HB4.out.mono HL0.out)⟩
        · subst h2
          go_wp2_with fail
          refine (idcmp_as y1 y2 x1 x2 (1) _ (by rw [HNG.out] <;> rfl)).mono ?_
          rintro r w4 ⟨rfl, hb4⟩
          have HB4 : Hid (Below W0.heap.size W0 w4) := HB3.out.trans (hb4.mono HB3.out.size)
          have f1 := (HB4.out.cell HA.out).trans k0.1
          have f2 := (HB4.out.cell HA.out).trans k0.2.1
          have f3 := (HB4.out.cell HBB.out).trans k0.2.2.1
          have f4 := (HB4.out.cell HBB.out).trans k0.2.2.2.1
          clear hb4 e1 e2 e3 e4 e5 e6
          go_wp2
          go_ret
          exact ⟨by first | rfl | simp, HW0.out.trans (HB4.out.mono HL0.out)⟩
    · subst h1
      obtain ⟨rfl, rfl⟩ := cI_zero HX.out
      obtain rfl : cy = cz := by rw [← HY.out, HZ.out]
      go_wp2_with fail
      refine (idcmp_as x1 x2 x1 x2 (0) _ (by rw [HNG.out] <;> rfl)).mono ?_
      rintro r w4 ⟨rfl, hb4⟩
      have HB4 : Hid (Below W0.heap.size W0 w4) := HB3.out.trans (hb4.mono HB3.out.size)
      have f1 := (HB4.out.cell HA.out).trans k0.1
      have f2 := (HB4.out.cell HA.out).trans k0.2.1
      have f3 := (HB4.out.cell HBB.out).trans k0.2.2.1
      have f4 := (HB4.out.cell HBB.out).trans k0.2.2.2.1
      clear hb4 e1 e2 e3 e4 e5 e6
      go_wp2
      go_ret
      exact ⟨by first | rfl | simp, HW0.out.trans (HB4.out.mono HL0.out)⟩
    · subst h1
      have hne := cI_ne (show cI (x1, x2) (y1, y2) ≠ 0 by rw [HX.out]; decide)
      by_cases hq : x1 = y1
      · subst hq
        have b2 : (x2 == y2) = false := by simp; intro h; exact hne ⟨rfl, h⟩
        clear hne
        go_wp2_with fail
        refine (idcmp_as x1 y2 x1 x2 (-1) _ (by rw [HNG.out] <;> rfl)).mono ?_
        rintro r w4 ⟨rfl, hb4⟩
        have HB4 : Hid (Below W0.heap.size W0 w4) := HB3.out.trans (hb4.mono HB3.out.size)
        have f1 := (HB4.out.cell HA.out).trans k0.1
        have f2 := (HB4.out.cell HA.out).trans k0.2.1
        have f3 := (HB4.out.cell HBB.out).trans k0.2.2.1
        have f4 := (HB4.out.cell HBB.out).trans k0.2.2.2.1
        clear hb4 e1 e2 e3 e4 e5 e6
        go_wp2
        go_ret
        exact ⟨by first | rfl | simp, HW0.out.trans (HB4.out.mono HL0.out)⟩
      · have b1 : (x1 == y1) = false := by simpa using hq
        clear hne
        go_wp2_with fail
        refine (idcmp_as y1 y2 x1 x2 (-1) _ (by rw [HNG.out] <;> rfl)).mono ?_
        rintro r w4 ⟨rfl, hb4⟩
        have HB4 : Hid (Below W0.heap.size W0 w4) := HB3.out.trans (hb4.mono HB3.out.size)
        have f1 := (HB4.out.cell HA.out).trans k0.1
        have f2 := (HB4.out.cell HA.out).trans k0.2.1
        have f3 := (HB4.out.cell HBB.out).trans k0.2.2.1
        have f4 := (HB4.out.cell HBB.out).trans k0.2.2.2.1
        clear hb4 e1 e2 e3 e4 e5 e6
        go_wp2
        go_ret
        exact ⟨by first | rfl | simp, HW0.out.trans (HB4.out.mono HL0.out)⟩
end Go.Proofs.Ythdflbaknfiglab
