/-
  The times of 201 replicas, as an array's cells.
-/
import Derived.Test.YtiipnifnejnhlaaDoorVecOf
import Derived.Laws.Rows
import Derived.Laws.NewBlocks
import Derived.Laws.CopyOwn
namespace Go.Proofs.YtiipnifnejnhlaaDoor
open Go.RowKit

def arrA (f : Nat → Int) : Array Value := ((List.range 201).map fun i => Value.int .i64 (f i)).toArray
theorem arrA_size (f : Nat → Int) : (arrA f).size = 201 := by simp [arrA]
theorem arrA_at (f : Nat → Int) (i : Nat) (h : i < 201) : (arrA f)[i]? = some (.int .i64 (f i)) := by
  unfold arrA
  simp [h]
theorem arrA_ext {f g : Nat → Int} (h : ∀ i, i < 201 → f i = g i) : arrA f = arrA g := by
  unfold arrA
  congr 1
  exact List.map_congr_left fun i hi => by rw [h i (by simpa using hi)]
/-- One of them another one. -/
def updT (f : Nat → Int) (r : Nat) (x : Int) : Nat → Int := fun i => if i = r then x else f i
theorem arrA_set (f : Nat → Int) (r : Nat) (x : Int) (h : r < 201) : (arrA f).setIfInBounds r (.int .i64 x) = arrA (updT f r x) := by
  apply Array.ext_getElem?
  intro i
  rw [Array.getElem?_setIfInBounds, arrA_size]
  by_cases hi : i < 201
  · by_cases e : r = i
    · subst e; rw [if_pos rfl, if_pos h, arrA_at _ r hi]; unfold updT; rw [if_pos rfl]
    · rw [if_neg e, arrA_at _ i hi, arrA_at _ i hi]; unfold updT; rw [if_neg (by omega)]
  · rw [if_neg (by omega), Array.getElem?_eq_none (by rw [arrA_size]; omega), Array.getElem?_eq_none (by rw [arrA_size]; omega)]
theorem arr_info : (Tryd.prog.info? 100).map (·.size) = some 201 := by kernel_rfl
theorem arr_infoA (f : Nat → Int) : (Tryd.prog.info? 100).map (·.size) = some (arrA f).size := by rw [arrA_size, arr_info]
theorem arrA_one (f : Nat → Int) : (arrA f).all (·.oneCell') = true := by
  rw [Array.all_eq_true_iff_forall_mem]
  intro v hv
  unfold arrA at hv
  simp only [List.mem_toArray, List.mem_map] at hv
  obtain ⟨i, _, rfl⟩ := hv
  rfl
def arr0 : Array Value := Array.replicate 201 (.int .i64 0)
theorem arr0_is : arr0 = arrA fun _ => 0 := by
  apply Array.ext_getElem?
  intro i
  unfold arr0
  rw [Array.getElem?_replicate]
  by_cases hi : i < 201
  · rw [if_pos hi, arrA_at _ i hi]
  · rw [if_neg hi, Array.getElem?_eq_none (by rw [arrA_size]; omega)]

theorem take_snocE {l : List Ent} {k : Nat} {t : Ent} (h : l[k]? = some t) : l.take (k + 1) = l.take k ++ [t] := by
  obtain ⟨hk, ht⟩ := List.getElem?_eq_some_iff.1 h
  rw [List.take_succ_eq_append_getElem hk, ht]
/-- What entries do to them. -/
def foldT (f : Nat → Int) (l : List Ent) : Nat → Int := l.foldl (fun f e => updT f e.rep.toNat (max (f e.rep.toNat) e.time)) f
theorem foldT_nil (f : Nat → Int) : foldT f [] = f := rfl
theorem foldT_snoc (f : Nat → Int) (l : List Ent) (e : Ent) : foldT f (l ++ [e]) = updT (foldT f l) e.rep.toNat (max (foldT f l e.rep.toNat) e.time) := by
  unfold foldT; rw [List.foldl_append]; rfl
theorem foldT_is (l : List Ent) : ∀ (f : Nat → Int) (last : Int) (r : Nat), okV last l → (∀ r, 0 ≤ f r) → foldT f l r = max (f r) (ofF l r) := by
  induction l with
  | nil => intro f last r _ hf; show f r = max (f r) 0; have := hf r; omega
  | cons e t ih =>
    intro f last r h hf
    have hm := okV_mem h e List.mem_cons_self
    show foldT (updT f e.rep.toNat (max (f e.rep.toNat) e.time)) t r = _
    rw [ih _ e.rep r h.2 (fun r => by unfold updT; split <;> first | (have := hf e.rep.toNat; omega) | exact hf r)]
    unfold updT
    by_cases hr : r = e.rep.toNat
    · subst hr
      have e1 : ((e.rep.toNat : Nat) : Int) = e.rep := by omega
      rw [if_pos rfl, e1, ofF_at rfl, ofF_low h.2 (Int.le_refl _)]; omega
    · rw [if_neg hr, ofF_on (by omega)]
/-- Of both, one behind the other. -/
def bothT (a b : List Ent) : Nat → Int := foldT (foldT (fun _ => 0) a) b
theorem bothT_is {a b : List Ent} {x y : Int} (ha : okV x a) (hb : okV y b) (r : Nat) : bothT a b r = jF a b r := by
  unfold bothT jF
  have h1 : ∀ r, foldT (fun _ => 0) a r = max 0 (ofF a r) := fun r => foldT_is a _ x r ha (fun _ => Int.le_refl _)
  rw [foldT_is b _ y r hb (fun r => by rw [h1]; omega), h1]
  have := ofF_bd ha r
  omega
theorem tab_both {a b : List Ent} {x y : Int} (ha : okV x a) (hb : okV y b) (n : Nat) : tab (bothT a b) n = tab (jF a b) n := tab_congr fun r _ => bothT_is ha hb r

/-- The array in the call's first block. -/
def TJ (F : Nat → Int) (w wr : World) : Prop := wr.heap[w.heap.size]? = some (.cells (arrA F) 100 (0, 0)) ∧ Below w.heap.size w wr
theorem TJ.start (w : World) : TJ (fun _ => 0) w (w.alloc (.cells (arrA fun _ => 0) 100)) := ⟨heap_alloc_new _ _, (Below.refl _ _).alloc (Nat.le_refl _) _⟩
theorem TJ.lt {F : Nat → Int} {w wr : World} (h : TJ F w wr) : w.heap.size < wr.heap.size := (Array.getElem?_eq_some_iff.1 h.1).1
theorem TJ.below {F : Nat → Int} {w wr w' : World} (h : TJ F w wr) (hb : Below wr.heap.size wr w') : TJ F w w' :=
  ⟨(hb.block _ h.lt).trans h.1, h.2.trans (hb.mono (Nat.le_of_lt h.lt))⟩
theorem TJ.alloc {F : Nat → Int} {w wr : World} (h : TJ F w wr) (o : Obj) : TJ F w (wr.alloc o) := h.below ((Below.refl _ _).alloc (Nat.le_refl _) o)
theorem TJ.drew {F : Nat → Int} {w wr : World} (h : TJ F w wr) : TJ F w wr.drew := ⟨by rw [heap_drew]; exact h.1, h.2.drew⟩
theorem TJ.set {F : Nat → Int} {w wr : World} (h : TJ F w wr) (r : Nat) (hr : r < 201) (x : Int) : TJ (updT F r x) w (wr.setCell ⟨w.heap.size, r, none⟩ (.int .i64 x)) :=
  ⟨by rw [heap_setCell_same _ _ _ _ _ _ h.1, arrA_set F r x hr], h.2.setCell (Nat.le_refl _) _⟩
theorem TJ.cells {F : Nat → Int} {w wr : World} (h : TJ F w wr) (r : Nat) (hr : r < 201) : wr.cell? ⟨w.heap.size, r, none⟩ = some (.int .i64 (F r)) ∧ wr.frozen? ⟨w.heap.size, r, none⟩ = false :=
  ⟨by rw [cell_of_row _ _ _ _ _ _ h.1, arrA_at _ _ hr], frozen_of_row _ _ _ _ _ h.1⟩
end Go.Proofs.YtiipnifnejnhlaaDoor
