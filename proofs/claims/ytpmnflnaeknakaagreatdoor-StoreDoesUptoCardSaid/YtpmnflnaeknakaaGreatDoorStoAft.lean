/-
  The contracts of store.something and store.after.
-/
import Derived.Test.YtpmnflnaeknakaaGreatDoorStoS
import Derived.Test.YtpmnflnaeknakaaGreatDoorCloneS
import Derived.Test.YtpmnflnaeknakaaGreatDoorStrInsA
import Derived.Laws.Rows
import Derived.WalkLawsBesides
namespace Go.Proofs.YtpmnflnaeknakaaGreatDoor
open Go.RowKit

theorem cell_info : (Tryz.prog.info? 60).map (·.size) = some 5 := by kernel_rfl
theorem cell_sized (a0 a1 a2 a3 a4 : Value) : (Tryz.prog.info? 60).map (·.size) = some (#[a0, a1, a2, a3, a4] : Array Value).size := cell_info

set_option maxRecDepth 100000 in
theorem something_any (k t : ByteArray) (h : Bool) (s : Int) (a : Option Addr) (n c : Nat) (w : World) (hn : n ≤ 9223372036854775807) :
    Calls Tryz.prog 21 #[.agg #[.string k, .bool h, .string t, .int .i64 s, .slice a n c]] w fun e w' => e = .returned (.bool (h || s != 0 || decide (0 < n))) ∧ Below w.heap.size w w' := by
  cases h with
  | true =>
    go_enter Tryz.func21, Tryz.ntmps21
    go_wp2
    go_ret
    exact ⟨by first | rfl | simp, (Below.refl _ _).alloc (Nat.le_refl _) _⟩
  | false =>
    by_cases h1 : s = 0
    · subst h1
      by_cases h2 : 0 < n
      · have b2 : decide ((0 : Int) < (n : Int)) = true := by simpa using h2
        go_enter Tryz.func21, Tryz.ntmps21
        go_wp2
        go_ret
        exact ⟨by rw [decide_eq_true h2]; rfl, (Below.refl _ _).alloc (Nat.le_refl _) _⟩
      · obtain rfl : n = 0 := by omega
        go_enter Tryz.func21, Tryz.ntmps21
        go_wp2
        go_ret
        exact ⟨rfl, (Below.refl _ _).alloc (Nat.le_refl _) _⟩
    · have b1 : (s != 0) = true := by simpa using h1
      go_enter Tryz.func21, Tryz.ntmps21
      go_wp2
      go_ret
      exact ⟨by rw [b1]; rfl, (Below.refl _ _).alloc (Nat.le_refl _) _⟩

/-- A row of five cells that may be written to. -/
theorem row5 {w : World} {B : Nat} {a0 a1 a2 a3 a4 : Value} {T : TypeId} (h : w.heap[B]? = some (.cells #[a0, a1, a2, a3, a4] T (0, 0))) :
    w.cell? ⟨B, 0, none⟩ = some a0 ∧ w.cell? ⟨B, 1, none⟩ = some a1 ∧ w.cell? ⟨B, 2, none⟩ = some a2 ∧ w.cell? ⟨B, 3, none⟩ = some a3 ∧ w.cell? ⟨B, 4, none⟩ = some a4 ∧
    w.frozen? ⟨B, 0, none⟩ = false ∧ w.frozen? ⟨B, 1, none⟩ = false ∧ w.frozen? ⟨B, 2, none⟩ = false ∧ w.frozen? ⟨B, 3, none⟩ = false ∧ w.frozen? ⟨B, 4, none⟩ = false :=
  ⟨cell_of_row _ _ 0 _ _ _ h, cell_of_row _ _ 1 _ _ _ h, cell_of_row _ _ 2 _ _ _ h, cell_of_row _ _ 3 _ _ _ h, cell_of_row _ _ 4 _ _ _ h, by simp [World.frozen?, h], by simp [World.frozen?, h], by simp [World.frozen?, h], by simp [World.frozen?, h], by simp [World.frozen?, h]⟩
theorem heap3 (w : World) (a b c : Obj) : (((w.alloc a).alloc b).alloc c).heap[w.heap.size]? = some a ∧ (((w.alloc a).alloc b).alloc c).heap[w.heap.size + 1]? = some b ∧ (((w.alloc a).alloc b).alloc c).heap[w.heap.size + 1 + 1]? = some c := by
  have old : ∀ (W : World) (o : Obj) (k : Nat), k < W.heap.size → (W.alloc o).heap[k]? = W.heap[k]? := fun W o k hk => (MapKept.heap_alloc W o).2 k hk
  have new : ∀ (W : World) (o : Obj), (W.alloc o).heap[W.heap.size]? = some o := fun W o => (MapKept.heap_alloc W o).1
  have s1 : (w.alloc a).heap.size = w.heap.size + 1 := by simp
  have s2 : ((w.alloc a).alloc b).heap.size = w.heap.size + 1 + 1 := by simp
  refine ⟨?_, ?_, ?_⟩
  · rw [old _ _ _ (by omega), old _ _ _ (by omega)]; exact new _ _
  · rw [old _ _ _ (by omega)]
    have := new (w.alloc a) b
    rwa [s1] at this
  · have := new ((w.alloc a).alloc b) c
    rwa [s2] at this
/-- The three blocks that 'after' makes, behind a call that turns nothing old. -/
structure Aft (w w1 : World) (k t : ByteArray) (h : Bool) (s : Int) (l : Value) (x : Value) : Prop where
  p0 : w1.cell? ⟨w.heap.size, 0, none⟩ = some (.string k)
  p1 : w1.cell? ⟨w.heap.size, 1, none⟩ = some (.bool h)
  p2 : w1.cell? ⟨w.heap.size, 2, none⟩ = some (.string t)
  p3 : w1.cell? ⟨w.heap.size, 3, none⟩ = some (.int .i64 s)
  p4 : w1.cell? ⟨w.heap.size, 4, none⟩ = some l
  q0 : w1.cell? ⟨w.heap.size + 1 + 1, 0, none⟩ = some (.string ⟨#[]⟩)
  q1 : w1.cell? ⟨w.heap.size + 1 + 1, 1, none⟩ = some (.bool false)
  q2 : w1.cell? ⟨w.heap.size + 1 + 1, 2, none⟩ = some (.string ⟨#[]⟩)
  q3 : w1.cell? ⟨w.heap.size + 1 + 1, 3, none⟩ = some (.int .i64 0)
  q4 : w1.cell? ⟨w.heap.size + 1 + 1, 4, none⟩ = some (.slice none 0 0)
  r : w1.heap[w.heap.size + 1 + 1]? = some (.cells #[.string ⟨#[]⟩, .bool false, .string ⟨#[]⟩, .int .i64 0, .slice none 0 0] 60 (0, 0))
  f : ∀ i, w1.frozen? ⟨w.heap.size, i, none⟩ = false
  g : ∀ i, w1.frozen? ⟨w.heap.size + 1 + 1, i, none⟩ = false
theorem aft_of {w w1 : World} {k t : ByteArray} {h : Bool} {s : Int} {l : Value} {b : Obj} {o : Option Nat}
    (hb : (((w.alloc (.cells #[.string k, .bool h, .string t, .int .i64 s, l] 60)).alloc b).alloc (.cells #[.string ⟨#[]⟩, .bool false, .string ⟨#[]⟩, .int .i64 0, .slice none 0 0] 60)).grownBy w1 o) (ho : ∀ g, o = some g → g < w.heap.size) : Aft w w1 k t h s l undef := by
  obtain ⟨h0, _, h2⟩ := heap3 w (.cells #[.string k, .bool h, .string t, .int .i64 s, l] 60) b (.cells #[.string ⟨#[]⟩, .bool false, .string ⟨#[]⟩, .int .i64 0, .slice none 0 0] 60)
  have e0 := (hb.block w.heap.size (by simp; omega) (fun e => by have := ho _ e.symm; omega)).trans h0
  have e2 := (hb.block (w.heap.size + 1 + 1) (by simp) (fun e => by have := ho _ e.symm; omega)).trans h2
  obtain ⟨p0, p1, p2, p3, p4, _⟩ := row5 e0
  obtain ⟨q0, q1, q2, q3, q4, _⟩ := row5 e2
  exact ⟨p0, p1, p2, p3, p4, q0, q1, q2, q3, q4, e2, fun i => by simp [World.frozen?, e0], fun i => by simp [World.frozen?, e2]⟩
theorem grown_of_below {w w' : World} (h : Below w.heap.size w w') : w.grownBy w' none := ⟨h.os, h.tape, h.output, h.size, fun k hk _ => h.block k hk⟩

theorem grown_set {a w : World} {o : Option Nat} (h : a.grownBy w o) {B i : Nat} (v : Value) (hB : a.heap.size ≤ B) : a.grownBy (w.setCell ⟨B, i, none⟩ v) o :=
  ⟨h.os, h.tape, h.output, by rw [show (w.setCell ⟨B, i, none⟩ v).heap.size = w.heap.size from by simp]; exact h.size, fun k hk hne => by
    rw [heap_setCell_other _ _ _ _ (fun e => by have e2 : k = B := e; omega)]; exact h.block k hk hne⟩
theorem grown_alloc {a w : World} {o : Option Nat} (h : a.grownBy w o) (x : Obj) : a.grownBy (w.alloc x) o :=
  ⟨h.os, h.tape, h.output, by simp; have := h.size; omega, fun k hk hne => ((MapKept.heap_alloc w x).2 k (Nat.lt_of_lt_of_le hk h.size)).trans (h.block k hk hne)⟩
theorem grown_refl (a : World) (o : Option Nat) : a.grownBy a o := ⟨rfl, rfl, rfl, Nat.le_refl _, fun _ _ _ => rfl⟩
theorem grown_on {a b c : World} {o : Option Nat} (h : a.grownBy b none) (k : b.grownBy c o) : a.grownBy c o :=
  ⟨k.os.trans h.os, k.tape.trans h.tape, k.output.trans h.output, Nat.le_trans h.size k.size, fun i hi hne => (k.block i (Nat.lt_of_lt_of_le hi h.size) hne).trans (h.block i hi (by simp))⟩
theorem grown3 (w : World) (a b c : Obj) : w.grownBy (((w.alloc a).alloc b).alloc c) none := grown_alloc (grown_alloc (grown_alloc (grown_refl w none) a) b) c

theorem row_set5 {U : World} {B : Nat} {z0 z1 z2 z3 z4 : Value} {T : TypeId} (h : U.heap[B]? = some (.cells #[z0, z1, z2, z3, z4] T (0, 0))) (a0 a1 a2 a3 a4 : Value) :
    (((((U.setCell ⟨B, 0, none⟩ a0).setCell ⟨B, 1, none⟩ a1).setCell ⟨B, 2, none⟩ a2).setCell ⟨B, 3, none⟩ a3).setCell ⟨B, 4, none⟩ a4).heap[B]? = some (.cells #[a0, a1, a2, a3, a4] T (0, 0)) :=
  heap_setCell_same _ _ 4 _ _ a4 (heap_setCell_same _ _ 3 _ _ a3 (heap_setCell_same _ _ 2 _ _ a2 (heap_setCell_same _ _ 1 _ _ a1 (heap_setCell_same _ _ 0 _ _ a0 h))))

set_option maxRecDepth 100000 in
set_option maxHeartbeats 1000000 in
theorem after_put (k t : ByteArray) (h : Bool) (s : Int) (la : Option Addr) (ln lc : Nat) (T R : Int) (key val : ByteArray) (N : Int) (w : World) (hv : val.size ≤ 140737488351232) :
    Calls Tryz.prog 20 #[.agg #[.string k, .bool h, .string t, .int .i64 s, .slice la ln lc], .agg #[.int .i64 T, .int .i64 R, .int .i64 1, .string key, .string val, .int .i64 N]] w fun e w' =>
      e = .returned (.agg #[.string k, .bool true, .string val, .int .i64 s, .slice la ln lc]) ∧ w.grownBy w' none := by
  have hne : ¬ w.heap.size + 1 + 1 = w.heap.size := by omega
  have hne2 : ¬ w.heap.size = w.heap.size + 1 + 1 := by omega
  go_enter Tryz.func20, Tryz.ntmps20
  go_wp2_with (go_at_call 22; refine (clone_s val _ hv).mono ?_; rintro r w1 ⟨rfl, hb1⟩; have HB := Lib.hid (grown_on (grown3 w _ _ _) (grown_of_below hb1)); obtain ⟨p0, p1, p2, p3, p4, q0, q1, q2, q3, q4, r2, pf, qf⟩ := aft_of (grown_of_below hb1) (fun g e => by cases e); have R2 := Lib.hid r2; have f1 := pf 1; have f2 := pf 2; have f3 := pf 3; have f4 := pf 4; have g0 := qf 0; have g1 := qf 1; have g2 := qf 2; have g3 := qf 3; have g4 := qf 4; clear hb1 pf qf r2)
  obtain ⟨U, hU⟩ : ∃ U, U = (w1.setCell ⟨w.heap.size, 1, none⟩ (.bool true)).setCell ⟨w.heap.size, 2, none⟩ (.string val) := ⟨_, rfl⟩
  have hrow : U.heap[w.heap.size + 1 + 1]? = some (.cells #[.string ⟨#[]⟩, .bool false, .string ⟨#[]⟩, .int .i64 0, .slice none 0 0] 60 (0, 0)) := by
    rw [hU, heap_setCell_other _ _ _ _ (by show _ ≠ w.heap.size; omega), heap_setCell_other _ _ _ _ (by show _ ≠ w.heap.size; omega)]; exact R2.out
  have hgU : w.grownBy U none := by rw [hU]; exact grown_set (grown_set HB.out _ (by omega)) _ (by omega)
  rw [← hU]
  have hR := row_set5 hrow (.string k) (.bool true) (.string val) (.int .i64 s) (.slice la ln lc)
  obtain ⟨W, hW⟩ : ∃ W, W = ((((U.setCell ⟨w.heap.size + 1 + 1, 0, none⟩ (.string k)).setCell ⟨w.heap.size + 1 + 1, 1, none⟩ (.bool true)).setCell ⟨w.heap.size + 1 + 1, 2, none⟩ (.string val)).setCell ⟨w.heap.size + 1 + 1, 3, none⟩ (.int .i64 s)).setCell ⟨w.heap.size + 1 + 1, 4, none⟩ (.slice la ln lc) := ⟨_, rfl⟩
  have hgW : w.grownBy W none := by rw [hW]; exact grown_set (grown_set (grown_set (grown_set (grown_set hgU _ (by omega)) _ (by omega)) _ (by omega)) _ (by omega)) _ (by omega)
  rw [← hW] at hR ⊢
  clear hW hgU hrow hU p0 p1 p2 p3 p4 q0 q1 q2 q3 q4 f1 f2 f3 f4 g0 g1 g2 g3 g4
  refine bodyPost_ret (v := .agg #[.string k, .bool true, .string val, .int .i64 s, .slice la ln lc]) (results_cell_row Tryz.results20 _ _ (w.heap.size + 1 + 1) 60 _ _ _ rfl hR Tryz.underlying60 rfl (cell_sized _ _ _ _ _)) rfl ?_
  exact ⟨rfl, hgW⟩
set_option maxRecDepth 100000 in
set_option maxHeartbeats 1000000 in
theorem after_drop (k t : ByteArray) (h : Bool) (s : Int) (la : Option Addr) (ln lc : Nat) (T R : Int) (key val : ByteArray) (N : Int) (w : World) :
    Calls Tryz.prog 20 #[.agg #[.string k, .bool h, .string t, .int .i64 s, .slice la ln lc], .agg #[.int .i64 T, .int .i64 R, .int .i64 2, .string key, .string val, .int .i64 N]] w fun e w' =>
      e = .returned (.agg #[.string ⟨#[]⟩, .bool false, .string ⟨#[]⟩, .int .i64 0, .slice none 0 0]) ∧ w.grownBy w' none := by
  have hne : ¬ w.heap.size + 1 + 1 = w.heap.size := by omega
  have hne2 : ¬ w.heap.size = w.heap.size + 1 + 1 := by omega
  go_enter Tryz.func20, Tryz.ntmps20
  go_wp2
  refine bodyPost_ret (v := .agg #[.string ⟨#[]⟩, .bool false, .string ⟨#[]⟩, .int .i64 0, .slice none 0 0]) (results_cell_row Tryz.results20 _ _ (w.heap.size + 1 + 1) 60 _ _ _ rfl (heap3 w _ _ _).2.2 Tryz.underlying60 rfl (cell_sized _ _ _ _ _)) rfl ?_
  exact ⟨rfl, grown3 w _ _ _⟩
set_option maxRecDepth 100000 in
set_option maxHeartbeats 1000000 in
theorem after_add (k t : ByteArray) (h : Bool) (s : Int) (la : Option Addr) (ln lc : Nat) (T R : Int) (key val : ByteArray) (N : Int) (w : World) :
    Calls Tryz.prog 20 #[.agg #[.string k, .bool h, .string t, .int .i64 s, .slice la ln lc], .agg #[.int .i64 T, .int .i64 R, .int .i64 3, .string key, .string val, .int .i64 N]] w fun e w' =>
      e = .returned (.agg #[.string k, .bool h, .string t, .int .i64 (wrap64 (s + N)), .slice la ln lc]) ∧ w.grownBy w' none := by
  have hne : ¬ w.heap.size + 1 + 1 = w.heap.size := by omega
  have hne2 : ¬ w.heap.size = w.heap.size + 1 + 1 := by omega
  go_enter Tryz.func20, Tryz.ntmps20
  go_wp2
  refine bodyPost_ret (v := .agg #[.string k, .bool h, .string t, .int .i64 (wrap64 (s + N)), .slice la ln lc]) (results_cell_row Tryz.results20 _ _ (w.heap.size + 1 + 1) 60 _ _ _ rfl (heap3 w _ _ _).2.2 Tryz.underlying60 rfl (cell_sized _ _ _ _ _)) rfl ?_
  exact ⟨rfl, grown3 w _ _ _⟩
end Go.Proofs.YtpmnflnaeknakaaGreatDoor
