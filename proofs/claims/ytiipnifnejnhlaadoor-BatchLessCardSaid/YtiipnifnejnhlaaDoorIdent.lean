/-
  The contracts of ident's functions, and of the document's.
-/
import Derived.Test.YtiipnifnejnhlaaDoorIdOf
import Derived.Test.YtiipnifnejnhlaaDoorWithin
import Derived.Deep.RegionHeld3
import Derived.StillTailTactics
namespace Go.Proofs.YtiipnifnejnhlaaDoor
open Go.RowKit

/-- Which of two numbers is less. -/
def cmpF (x y : Int) : Int := if x < y then -1 else if y < x then 1 else 0
def orF (p q : Int) : Int := if p = 0 then q else p
/-- Which of two ids is earlier. -/
def cI (a b : Int × Int) : Int := orF (cmpF a.1 b.1) (cmpF a.2 b.2)
/-- Whether one is within. -/
def wiF (x : Int × Int) (from_ have_ : List Ent) : Bool := decide (ofF from_ x.2 < x.1) && decide (x.1 ≤ ofF have_ x.2)

set_option maxRecDepth 100000 in
theorem cmp_any (x y : Int) (w : World) : Calls Tryd.prog 68 #[.int .i64 x, .int .i64 y] w fun e w' => e = .returned (.int .i64 (cmpF x y)) ∧ w = w' := by
  have hn : ∀ (z : Int) (w : World), Calls Tryd.prog 80 #[.int .i64 z] w fun e w' => e = .returned (.bool false) ∧ w = w' := fun z w => by
    go_enter Tryd.func80, Tryd.ntmps80
    go_wp2
    go_ret
    exact ⟨by first | rfl | simp, rfl⟩
  by_cases h1 : x < y
  · have HW : Hid (cmpF x y = -1) := Lib.hid (by unfold cmpF; rw [if_pos h1])
    rw [HW.out]
    go_enter Tryd.func68, Tryd.ntmps68
    go_wp2_with (first | (go_at_call 80; refine (hn _ _).mono ?_; rintro e w' ⟨rfl, rfl⟩))
    go_ret
    exact ⟨rfl, rfl⟩
  · by_cases h2 : y < x
    · have HW : Hid (cmpF x y = 1) := Lib.hid (by unfold cmpF; rw [if_neg h1, if_pos h2])
      rw [HW.out]
      go_enter Tryd.func68, Tryd.ntmps68
      go_wp2_with (first | (go_at_call 80; refine (hn _ _).mono ?_; rintro e w' ⟨rfl, rfl⟩))
      go_ret
      exact ⟨rfl, rfl⟩
    · obtain rfl : x = y := by omega
      have HW : Hid (cmpF x x = 0) := Lib.hid (by unfold cmpF; rw [if_neg h1, if_neg h1])
      rw [HW.out]
      clear h1 h2
      go_enter Tryd.func68, Tryd.ntmps68
      go_wp2_with (first | (go_at_call 80; refine (hn _ _).mono ?_; rintro e w' ⟨rfl, rfl⟩))
      go_ret
      exact ⟨rfl, rfl⟩
theorem cmp_as (x y c : Int) (w : World) (h : cmpF x y = c) : Calls Tryd.prog 68 #[.int .i64 x, .int .i64 y] w fun e w' => e = .returned (.int .i64 c) ∧ w = w' := by
  subst h; exact cmp_any x y w

set_option maxRecDepth 100000 in
theorem or_any (p q c : Int) (B : Nat) (w : World) (h0 : w.cell? ⟨B, 0, none⟩ = some (.int .i64 p)) (h1 : w.cell? ⟨B, 1, none⟩ = some (.int .i64 q)) (h : orF p q = c) :
    Calls Tryd.prog 67 #[.slice (some ⟨B, 0, none⟩) 2 2] w fun e w' => e = .returned (.int .i64 c) ∧ w = w' := by
  subst h
  by_cases hp : p = 0
  · have HW : Hid (orF p q = q) := Lib.hid (by unfold orF; rw [if_pos hp])
    rw [HW.out]
    subst hp
    by_cases hq : q = 0
    · subst hq
      go_enter Tryd.func67, Tryd.ntmps67
      go_wp2
      refine wp_loop_rounds 3 ?_
      rw [rounds_succ]
      go_wp2
      rw [rounds_succ]
      go_wp2
      rw [rounds_succ]
      go_wp2
      go_ret
      exact ⟨rfl, rfl⟩
    · have bq : (q == 0) = false := by simpa using hq
      have bq2 : (q != 0) = true := by simpa using hq
      go_enter Tryd.func67, Tryd.ntmps67
      go_wp2
      refine wp_loop_rounds 2 ?_
      rw [rounds_succ]
      go_wp2
      rw [rounds_succ]
      go_wp2
      go_ret
      exact ⟨rfl, rfl⟩
  · have HW : Hid (orF p q = p) := Lib.hid (by unfold orF; rw [if_neg hp])
    rw [HW.out]
    have bq : (p == 0) = false := by simpa using hp
    have bq2 : (p != 0) = true := by simpa using hp
    go_enter Tryd.func67, Tryd.ntmps67
    go_wp2
    refine wp_loop_rounds 1 ?_
    rw [rounds_succ]
    go_wp2
    go_ret
    exact ⟨rfl, rfl⟩

theorem three_new (w : World) (o1 o2 : Obj) (a b : Value) (t : TypeId) : (((w.alloc o1).alloc o2).alloc (.cells #[a, b] t)).cell? ⟨w.heap.size + 1 + 1, 0, none⟩ = some a ∧ (((w.alloc o1).alloc o2).alloc (.cells #[a, b] t)).cell? ⟨w.heap.size + 1 + 1, 1, none⟩ = some b := by
  have h := heap_alloc_new ((w.alloc o1).alloc o2) (.cells #[a, b] t)
  rw [World.size_alloc, World.size_alloc] at h
  exact ⟨cell_of_row _ _ 0 _ _ (0, 0) h, cell_of_row _ _ 1 _ _ (0, 0) h⟩
set_option maxRecDepth 100000 in
set_option maxHeartbeats 2000000 in
theorem idcmp_any (a b : Int × Int) (w : World) : Calls Tryd.prog 47 #[.agg #[.int .i64 a.1, .int .i64 a.2], .agg #[.int .i64 b.1, .int .i64 b.2]] w fun e w' => e = .returned (.int .i64 (cI a b)) ∧ Below w.heap.size w w' := by
  obtain ⟨x1, x2⟩ := a
  obtain ⟨y1, y2⟩ := b
  simp only
  obtain ⟨c1, hc1⟩ : ∃ c, cmpF x1 y1 = c := ⟨_, rfl⟩
  obtain ⟨c2, hc2⟩ : ∃ c, cmpF x2 y2 = c := ⟨_, rfl⟩
  obtain ⟨c, hc⟩ : ∃ c, orF c1 c2 = c := ⟨_, rfl⟩
  have HW : Hid (cI (x1, x2) (y1, y2) = c) := Lib.hid (show cI (x1, x2) (y1, y2) = c by unfold cI; simp only; rw [hc1, hc2, hc])
  have H1 := Lib.hid hc1
  have H2 := Lib.hid hc2
  have H3 := Lib.hid hc
  clear hc1 hc2 hc
  rw [HW.out]
  go_enter Tryd.func47, Tryd.ntmps47
  go_wp2
  have k0 : ((w.alloc (.cells #[.int .i64 x1, .int .i64 x2] 39)).alloc (.cells #[.int .i64 y1, .int .i64 y2] 39)).cell? ⟨w.heap.size, 0, none⟩ = some (.int .i64 x1) ∧ ((w.alloc (.cells #[.int .i64 x1, .int .i64 x2] 39)).alloc (.cells #[.int .i64 y1, .int .i64 y2] 39)).cell? ⟨w.heap.size, 1, none⟩ = some (.int .i64 x2) ∧ ((w.alloc (.cells #[.int .i64 x1, .int .i64 x2] 39)).alloc (.cells #[.int .i64 y1, .int .i64 y2] 39)).cell? ⟨w.heap.size + 1, 0, none⟩ = some (.int .i64 y1) ∧ ((w.alloc (.cells #[.int .i64 x1, .int .i64 x2] 39)).alloc (.cells #[.int .i64 y1, .int .i64 y2] 39)).cell? ⟨w.heap.size + 1, 1, none⟩ = some (.int .i64 y2) := by simp
  go_region_held3 (fun w' => w'.cell? ⟨w.heap.size, 0, none⟩ = some (.int .i64 x1) ∧ w'.cell? ⟨w.heap.size, 1, none⟩ = some (.int .i64 x2) ∧ w'.cell? ⟨w.heap.size + 1, 0, none⟩ = some (.int .i64 y1) ∧ w'.cell? ⟨w.heap.size + 1, 1, none⟩ = some (.int .i64 y2)) (first | exact k0 | go_keep) (first | (go_at_call 68; ((with_reducible refine (cmp_as x1 y1 c1 _ H1.out).mono ?_); rintro r w' ⟨rfl, rfl⟩)) | (go_at_call 68; ((with_reducible refine (cmp_as x2 y2 c2 _ H2.out).mono ?_); rintro r w' ⟨rfl, rfl⟩)) | (go_at_call 67; ((refine (or_any c1 c2 c _ _ (by simp; exact (three_new _ _ _ _ _ _).1) (by simp; exact (three_new _ _ _ _ _ _).2) H3.out).mono ?_); rintro r w' ⟨rfl, rfl⟩)))
  go_wp2
  go_ret
  refine ⟨rfl, ?_⟩
  first
    | exact (((Below.refl _ _).alloc (Nat.le_refl _) _).alloc (by simp) _).drew.alloc (by simp; omega) _
    | exact ((((Below.refl _ _).alloc (Nat.le_refl _) _).alloc (by simp) _).alloc (by simp; omega) _).drew
theorem idcmp_as (x1 x2 y1 y2 c : Int) (w : World) (h : cI (x1, x2) (y1, y2) = c) : Calls Tryd.prog 47 #[.agg #[.int .i64 x1, .int .i64 x2], .agg #[.int .i64 y1, .int .i64 y2]] w fun e w' => e = .returned (.int .i64 c) ∧ Below w.heap.size w w' := by
  subst h; exact idcmp_any (x1, x2) (y1, y2) w

/-- Right, as a Bool. -/
def idR (x : Int × Int) : Bool := decide (1 ≤ x.1 ∧ x.1 ≤ 1099511627776 ∧ 0 ≤ x.2 ∧ x.2 ≤ 200)

set_option maxRecDepth 100000 in
theorem idright_any (x1 x2 : Int) (b : Bool) (w : World) (hb : idR (x1, x2) = b) :
    Calls Tryd.prog 69 #[.agg #[.int .i64 x1, .int .i64 x2]] w fun e w' => e = .returned (.bool b) ∧ Below w.heap.size w w' := by
  subst hb
  unfold idR
  by_cases h1 : 1 ≤ x1
  · by_cases h2 : x1 ≤ 1099511627776
    · by_cases h3 : 0 ≤ x2
      · by_cases h4 : x2 ≤ 200
        · rw [decide_eq_true (show 1 ≤ (x1, x2).1 ∧ (x1, x2).1 ≤ 1099511627776 ∧ 0 ≤ (x1, x2).2 ∧ (x1, x2).2 ≤ 200 from ⟨h1, h2, h3, h4⟩)]
          go_enter Tryd.func69, Tryd.ntmps69
          go_wp2
          go_ret
          exact ⟨rfl, (Below.refl _ _).alloc (Nat.le_refl _) _⟩
        · rw [decide_eq_false (show ¬ (1 ≤ (x1, x2).1 ∧ (x1, x2).1 ≤ 1099511627776 ∧ 0 ≤ (x1, x2).2 ∧ (x1, x2).2 ≤ 200) from fun h => h4 h.2.2.2)]
          have d : decide (x2 ≤ 200) = false := decide_eq_false h4
          go_enter Tryd.func69, Tryd.ntmps69
          go_wp2
          go_ret
          exact ⟨by first | rfl | (show Ending.returned (Value.bool (decide _)) = _; rw [d]), (Below.refl _ _).alloc (Nat.le_refl _) _⟩
      · rw [decide_eq_false (show ¬ (1 ≤ (x1, x2).1 ∧ (x1, x2).1 ≤ 1099511627776 ∧ 0 ≤ (x1, x2).2 ∧ (x1, x2).2 ≤ 200) from fun h => h3 h.2.2.1)]
        have d : decide (0 ≤ x2) = false := decide_eq_false h3
        go_enter Tryd.func69, Tryd.ntmps69
        go_wp2
        go_ret
        exact ⟨by first | rfl | simp, (Below.refl _ _).alloc (Nat.le_refl _) _⟩
    · rw [decide_eq_false (show ¬ (1 ≤ (x1, x2).1 ∧ (x1, x2).1 ≤ 1099511627776 ∧ 0 ≤ (x1, x2).2 ∧ (x1, x2).2 ≤ 200) from fun h => h2 h.2.1)]
      have d : decide (x1 ≤ 1099511627776) = false := decide_eq_false h2
      go_enter Tryd.func69, Tryd.ntmps69
      go_wp2
      go_ret
      exact ⟨by first | rfl | simp, (Below.refl _ _).alloc (Nat.le_refl _) _⟩
  · rw [decide_eq_false (show ¬ (1 ≤ (x1, x2).1 ∧ (x1, x2).1 ≤ 1099511627776 ∧ 0 ≤ (x1, x2).2 ∧ (x1, x2).2 ≤ 200) from fun h => h1 h.1)]
    have d : decide (1 ≤ x1) = false := decide_eq_false h1
    go_enter Tryd.func69, Tryd.ntmps69
    go_wp2
    go_ret
    exact ⟨by first | rfl | simp, (Below.refl _ _).alloc (Nat.le_refl _) _⟩
end Go.Proofs.YtiipnifnejnhlaaDoor
