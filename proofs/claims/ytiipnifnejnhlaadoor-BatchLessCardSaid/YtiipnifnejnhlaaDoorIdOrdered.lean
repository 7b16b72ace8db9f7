/-
  The fact that the laws of ids ask first ('ordered').
-/
import Derived.Test.YtiipnifnejnhlaaDoorIdWithin
namespace Go.Proofs.YtiipnifnejnhlaaDoor
open Go.RowKit

theorem within_as (x1 x2 : Int) (vf vh : Value) (f h : List Ent) (b : Bool) (w : World) (hf : IsEnts w vf f) (hh : IsEnts w vh h) (hlf : f.length ≤ 9223372036854775807) (hlh : h.length ≤ 9223372036854775807) (hb : wiF (x1, x2) f h = b) :
    Calls Tryd.prog 25 #[.agg #[.int .i64 x1, .int .i64 x2], vf, vh] w fun e w' => e = .returned (.bool b) ∧ Below w.heap.size w w' := within_any x1 x2 vf vh f h w hf hh hlf hlh b hb

def okE : List Ent := [⟨1, 2⟩]
theorem okE_is (w : World) : IsEnts (w.alloc (.cells #[.int .i64 1, .int .i64 2] 70)) (.slice (some ⟨w.heap.size, 0, none⟩) 1 1) okE := by
  refine .inr ⟨w.heap.size, 0, 1, rfl, ⟨by decide, by decide⟩, by simp, fun j u hj => ?_⟩
  rw [Nat.zero_add, cell_of_row _ _ j _ _ (0, 0) (heap_alloc_new w _)]
  have e : entsC okE = [.int .i64 1, .int .i64 2] := rfl
  rw [e] at hj
  simpa using hj

set_option maxRecDepth 100000 in
set_option maxHeartbeats 4000000 in
theorem ordered_any (w : World) : Calls Tryd.prog 24 #[] w fun e w' => e = .returned (.bool true) ∧ Below w.heap.size w w' := by
  go_enter Tryd.func24, Tryd.ntmps24
  go_wp2_with fail
  refine (idcmp_as 2 1 1 9 1 _ (by decide)).mono ?_
  rintro r w1 ⟨rfl, hb1⟩
  have k1_0 : w1.cell? ⟨w.heap.size, 0, none⟩ = some (.int .i64 2) := (hb1.cell (by first | (simp; done) | (simp; omega))).trans (by simp)
  have k1_1 : w1.cell? ⟨w.heap.size, 1, none⟩ = some (.int .i64 1) := (hb1.cell (by first | (simp; done) | (simp; omega))).trans (by simp)
  have k1_2 : w1.cell? ⟨w.heap.size + 1, 0, none⟩ = some (.int .i64 1) := (hb1.cell (by first | (simp; done) | (simp; omega))).trans (by simp)
  have k1_3 : w1.cell? ⟨w.heap.size + 1, 1, none⟩ = some (.int .i64 9) := (hb1.cell (by first | (simp; done) | (simp; omega))).trans (by simp)
  have HB1 : Hid (Below w.heap.size w w1) := ((((Below.refl _ _).alloc (Nat.le_refl _) _).alloc (by simp) _).trans (hb1.mono (by simp; omega)))
  have HZ1 : Hid (w.heap.size + 1 < w1.heap.size) := (Nat.lt_of_lt_of_le (by first | (simp; done) | (simp; omega)) hb1.size)
  clear hb1
  go_wp2_with fail
  refine (idcmp_as 1 9 2 1 (-1) _ (by decide)).mono ?_
  rintro r w2 ⟨rfl, hb2⟩
  have k2_0 : w2.cell? ⟨w.heap.size, 0, none⟩ = some (.int .i64 2) := (hb2.cell (by have := HZ1.out; show w.heap.size < _; omega)).trans (k1_0)
  have k2_1 : w2.cell? ⟨w.heap.size, 1, none⟩ = some (.int .i64 1) := (hb2.cell (by have := HZ1.out; show w.heap.size < _; omega)).trans (k1_1)
  have k2_2 : w2.cell? ⟨w.heap.size + 1, 0, none⟩ = some (.int .i64 1) := (hb2.cell (by have := HZ1.out; show w.heap.size + 1 < _; omega)).trans (k1_2)
  have k2_3 : w2.cell? ⟨w.heap.size + 1, 1, none⟩ = some (.int .i64 9) := (hb2.cell (by have := HZ1.out; show w.heap.size + 1 < _; omega)).trans (k1_3)
  have HB2 : Hid (Below w.heap.size w w2) := HB1.out.trans (hb2.mono HB1.out.size)
  have HZ2 : Hid (w.heap.size + 1 < w2.heap.size) := (Nat.lt_of_lt_of_le HZ1.out hb2.size)
  clear hb2 k1_0 k1_1 k1_2 k1_3
  go_wp2_with fail
  refine (idcmp_as 2 1 2 1 0 _ (by decide)).mono ?_
  rintro r w3 ⟨rfl, hb3⟩
  have k3_0 : w3.cell? ⟨w.heap.size, 0, none⟩ = some (.int .i64 2) := (hb3.cell (by have := HZ2.out; show w.heap.size < _; omega)).trans (k2_0)
  have k3_1 : w3.cell? ⟨w.heap.size, 1, none⟩ = some (.int .i64 1) := (hb3.cell (by have := HZ2.out; show w.heap.size < _; omega)).trans (k2_1)
  have k3_2 : w3.cell? ⟨w.heap.size + 1, 0, none⟩ = some (.int .i64 1) := (hb3.cell (by have := HZ2.out; show w.heap.size + 1 < _; omega)).trans (k2_2)
  have k3_3 : w3.cell? ⟨w.heap.size + 1, 1, none⟩ = some (.int .i64 9) := (hb3.cell (by have := HZ2.out; show w.heap.size + 1 < _; omega)).trans (k2_3)
  have HB3 : Hid (Below w.heap.size w w3) := HB2.out.trans (hb3.mono HB2.out.size)
  have HZ3 : Hid (w.heap.size + 1 < w3.heap.size) := (Nat.lt_of_lt_of_le HZ2.out hb3.size)
  clear hb3 k2_0 k2_1 k2_2 k2_3
  go_wp2_with fail
  refine (within_as 2 1 _ _ [] okE true _ (IsEnts.nil _) (okE_is w3) (by decide) (by decide) (by decide)).mono ?_
  rintro r w4 ⟨rfl, hb4⟩
  have k4_0 : w4.cell? ⟨w.heap.size, 0, none⟩ = some (.int .i64 2) := (hb4.cell (by have := HZ3.out; show w.heap.size < _; rw [World.size_alloc]; omega)).trans ((World.cell?_alloc_lt w3 _ (⟨w.heap.size, 0, none⟩ : Addr) (by have := HZ3.out; show w.heap.size < _; omega)).trans k3_0)
  have k4_1 : w4.cell? ⟨w.heap.size, 1, none⟩ = some (.int .i64 1) := (hb4.cell (by have := HZ3.out; show w.heap.size < _; rw [World.size_alloc]; omega)).trans ((World.cell?_alloc_lt w3 _ (⟨w.heap.size, 1, none⟩ : Addr) (by have := HZ3.out; show w.heap.size < _; omega)).trans k3_1)
  have k4_2 : w4.cell? ⟨w.heap.size + 1, 0, none⟩ = some (.int .i64 1) := (hb4.cell (by have := HZ3.out; show w.heap.size + 1 < _; rw [World.size_alloc]; omega)).trans ((World.cell?_alloc_lt w3 _ (⟨w.heap.size + 1, 0, none⟩ : Addr) (by have := HZ3.out; show w.heap.size + 1 < _; omega)).trans k3_2)
  have k4_3 : w4.cell? ⟨w.heap.size + 1, 1, none⟩ = some (.int .i64 9) := (hb4.cell (by have := HZ3.out; show w.heap.size + 1 < _; rw [World.size_alloc]; omega)).trans ((World.cell?_alloc_lt w3 _ (⟨w.heap.size + 1, 1, none⟩ : Addr) (by have := HZ3.out; show w.heap.size + 1 < _; omega)).trans k3_3)
  have HB4 : Hid (Below w.heap.size w w4) := (HB3.out.alloc HB3.out.size _).trans (hb4.mono (by have := HB3.out.size; simp; omega))
  have HZ4 : Hid (w.heap.size + 1 < w4.heap.size) := (Nat.lt_of_lt_of_le (by have := HZ3.out; simp; omega) hb4.size)
  clear hb4 k3_0 k3_1 k3_2 k3_3
  go_wp2_with fail
  refine (within_as 2 1 _ _ okE [] false _ (okE_is w4) (IsEnts.nil _) (by decide) (by decide) (by decide)).mono ?_
  rintro r w5 ⟨rfl, hb5⟩
  have k5_0 : w5.cell? ⟨w.heap.size, 0, none⟩ = some (.int .i64 2) := (hb5.cell (by have := HZ4.out; show w.heap.size < _; rw [World.size_alloc]; omega)).trans ((World.cell?_alloc_lt w4 _ (⟨w.heap.size, 0, none⟩ : Addr) (by have := HZ4.out; show w.heap.size < _; omega)).trans k4_0)
  have k5_1 : w5.cell? ⟨w.heap.size, 1, none⟩ = some (.int .i64 1) := (hb5.cell (by have := HZ4.out; show w.heap.size < _; rw [World.size_alloc]; omega)).trans ((World.cell?_alloc_lt w4 _ (⟨w.heap.size, 1, none⟩ : Addr) (by have := HZ4.out; show w.heap.size < _; omega)).trans k4_1)
  have k5_2 : w5.cell? ⟨w.heap.size + 1, 0, none⟩ = some (.int .i64 1) := (hb5.cell (by have := HZ4.out; show w.heap.size + 1 < _; rw [World.size_alloc]; omega)).trans ((World.cell?_alloc_lt w4 _ (⟨w.heap.size + 1, 0, none⟩ : Addr) (by have := HZ4.out; show w.heap.size + 1 < _; omega)).trans k4_2)
  have k5_3 : w5.cell? ⟨w.heap.size + 1, 1, none⟩ = some (.int .i64 9) := (hb5.cell (by have := HZ4.out; show w.heap.size + 1 < _; rw [World.size_alloc]; omega)).trans ((World.cell?_alloc_lt w4 _ (⟨w.heap.size + 1, 1, none⟩ : Addr) (by have := HZ4.out; show w.heap.size + 1 < _; omega)).trans k4_3)
  have HB5 : Hid (Below w.heap.size w w5) := (HB4.out.alloc HB4.out.size _).trans (hb5.mono (by have := HB4.out.size; simp; omega))
  have HZ5 : Hid (w.heap.size + 1 < w5.heap.size) := (Nat.lt_of_lt_of_le (by have := HZ4.out; simp; omega) hb5.size)
  clear hb5 k4_0 k4_1 k4_2 k4_3
  go_wp2
  go_ret
  exact ⟨by first | rfl | simp, HB5.out⟩
end Go.Proofs.YtiipnifnejnhlaaDoor
