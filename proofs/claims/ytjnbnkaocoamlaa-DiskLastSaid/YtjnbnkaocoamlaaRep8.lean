/-
  slices.Repeat([]string{""}, 8): eight empty texts; a row of eight texts of the call's own.
-/
import Derived.Test.YtjnbnkaocoamlaaSpin
import Derived.Test.YtjnbnkaocoamlaaStrs
import Derived.Laws.CopyRow
import Derived.Laws.MakeOwn
namespace Go.Proofs.Ytjnbnkaocoamlaa
open Go.RowKit

/-- Eight texts, as a row of cells. -/
def row8 (f : Nat → ByteArray) : Array Value := ((List.range 8).map (fun j => Value.string (f j))).toArray
theorem row8_size (f : Nat → ByteArray) : (row8 f).size = 8 := by simp [row8]
theorem row8_at (f : Nat → ByteArray) {j : Nat} (h : j < 8) : (row8 f)[j]? = some (.string (f j)) := by unfold row8; simp [h]
theorem row8_set (f : Nat → ByteArray) {p : Nat} (_ : p < 8) (s : ByteArray) : (row8 f).setIfInBounds p (.string s) = row8 (fun j => if j = p then s else f j) := by
  apply Array.ext_getElem?
  intro i
  rw [Array.getElem?_setIfInBounds, row8_size]
  by_cases hi : i < 8
  · by_cases e : p = i
    · subst e; rw [if_pos rfl, if_pos hi, row8_at _ hi, if_pos rfl]
    · rw [if_neg e, row8_at _ hi, row8_at _ hi, if_neg (fun h => e h.symm)]
  · rw [Array.getElem?_eq_none (by rw [row8_size]; omega), Array.getElem?_eq_none (by rw [row8_size]; omega)]
    by_cases e : p = i
    · rw [if_pos e, if_neg (by omega)]
    · rw [if_neg e]
/-- Block g is a row of eight texts. -/
def At8 (w : World) (g : Nat) (f : Nat → ByteArray) : Prop := w.heap[g]? = some (.cells (row8 f) 9 (0, 0))
theorem At8.cell {w : World} {g : Nat} {f : Nat → ByteArray} (h : At8 w g f) {j : Nat} (hj : j < 8) : w.cell? ⟨g, j, none⟩ = some (.string (f j)) := (cell_of_row _ _ _ _ _ _ h).trans (row8_at f hj)
theorem At8.lt {w : World} {g : Nat} {f : Nat → ByteArray} (h : At8 w g f) : g < w.heap.size := (Array.getElem?_eq_some_iff.1 h).1
theorem At8.below {w w' : World} {g : Nat} {f : Nat → ByteArray} (h : At8 w g f) (hb : Below w.heap.size w w') : At8 w' g f := (hb.block g h.lt).trans h
theorem At8.set {w : World} {g p : Nat} {f : Nat → ByteArray} (h : At8 w g f) (hp : p < 8) (s : ByteArray) : At8 (w.setCell ⟨g, p, none⟩ (.string s)) g (fun j => if j = p then s else f j) := by
  unfold At8
  rw [heap_setCell_same _ _ _ _ _ _ h, row8_set f hp s]
theorem rep_copy (W : World) (G o n dl dc : Nat) (a : Addr) (sc : Nat) (h : At8 W G (fun _ => ⟨#[]⟩)) (hn : n ≤ dl) (ho : o + n ≤ 8) (hs : ∀ j, j < n → W.cell? (a.add j) = some (.string ⟨#[]⟩)) (ty : TypeId) :
    (Builtin.copy_ #[27, 27] ty #[.slice (some ⟨G, o, none⟩) dl dc, .slice (some a) n sc]).run Try.prog W = .ok (.int .i64 n) W := by
  have hl : (List.replicate n (Value.string ⟨#[]⟩)).length = n := List.length_replicate
  have hr := run_copy_row Try.prog W 27 27 ty 9 G o dl dc a n sc (row8 (fun _ => ⟨#[]⟩)) 9 (List.replicate n (Value.string ⟨#[]⟩)) Try.underlying27 (by kernel_rfl) h (by rw [hl]; exact (Nat.min_eq_left hn).symm) (fun j v hj => by
    have hjn : j < n := by have := (List.getElem?_eq_some_iff.1 hj).1; rw [hl] at this; exact this
    rw [hs j hjn, ← hj, List.getElem?_replicate, if_pos hjn]) (by rw [hl, row8_size]; omega) (fun v hv => by rw [List.eq_of_mem_replicate hv]; rfl)
  rw [hl] at hr
  rw [hr]
  have e : ((row8 (fun _ => ⟨#[]⟩)).toList.take o ++ List.replicate n (Value.string ⟨#[]⟩) ++ (row8 (fun _ => ⟨#[]⟩)).toList.drop (o + n)).toArray = row8 (fun _ => ⟨#[]⟩) := by
    have hrow : (row8 (fun _ => ⟨#[]⟩)).toList = List.replicate 8 (Value.string ⟨#[]⟩) := by kernel_rfl
    have el : (row8 (fun _ => ⟨#[]⟩)).toList.take o ++ List.replicate n (Value.string ⟨#[]⟩) ++ (row8 (fun _ => ⟨#[]⟩)).toList.drop (o + n) = (row8 (fun _ => ⟨#[]⟩)).toList := by
      rw [hrow, List.take_replicate, List.drop_replicate, List.replicate_append_replicate, List.replicate_append_replicate, show min o 8 + n + (8 - (o + n)) = 8 by omega]
    rw [el]
  rw [e, setRow_self W G _ _ _ h]
  rfl
theorem run_make_str8 (w : World) :
    (Instr.makeSlice 27 (.int .i64 8) (.int .i64 8)).run Try.prog w = .ok (.slice (some ⟨w.heap.size, 0, none⟩) 8 8) (w.alloc (.cells (row8 (fun _ => ⟨#[]⟩)) 9)) := by
  cases hq : Try.prog.info? 9 with
  | none => have := info_str; rw [hq] at this; cases this
  | some i0 =>
    have h3 := info_str
    rw [hq] at h3
    simp only [Option.map_some, Option.some.injEq, Prod.mk.injEq] at h3
    obtain ⟨hz0, hz1, hz2⟩ := h3
    have h := run_makeSlice (P := Try.prog) w 27 9 i0 (.string ⟨#[]⟩) Try.underlying27 hq hz0 .i64 .i64 8 8 (by omega) (Int.le_refl _) (by rw [hz1]; decide) (by rw [hz2]; decide) (by omega)
    have e : madeCells (Value.string ⟨#[]⟩).cells (Int.toNat 8 * 1) = row8 (fun _ => ⟨#[]⟩) := by kernel_rfl
    rw [h, hz1, e]
    rfl

set_option maxRecDepth 100000 in
set_option maxHeartbeats 2000000 in
theorem repeat_any (w : World) (B c : Nat) (h0 : w.cell? ⟨B, 0, none⟩ = some (.string ⟨#[]⟩)) :
    Calls Try.prog 9 #[.slice (some ⟨B, 0, none⟩) 1 c, .int .i64 8] w fun e w' => ∃ g, e = .returned (.slice (some ⟨g, 0, none⟩) 8 8) ∧ At8 w' g (fun _ => ⟨#[]⟩) ∧ w.heap.size ≤ g ∧ Below w.heap.size w w' := by
  have hB := World.block_lt_of_cell? w _ h0
  have hmk := run_make_str8 w
  have hA : At8 (w.alloc (.cells (row8 (fun _ => ⟨#[]⟩)) 9)) w.heap.size (fun _ => ⟨#[]⟩) := heap_alloc_new w _
  have HA := Lib.hid hA
  have hcp := fun ty => rep_copy (w.alloc (.cells (row8 (fun _ => ⟨#[]⟩)) 9)) w.heap.size 0 1 8 8 ⟨B, 0, none⟩ c hA (by decide) (by decide) (fun j hj => by
    obtain rfl : j = 0 := by omega
    have hadd : (⟨B, 0, none⟩ : Addr).add 0 = ⟨B, 0, none⟩ := by unfold Addr.add; split <;> simp_all
    rw [hadd, World.cell?_alloc_lt _ _ _ hB]; exact h0) ty
  have HBW : Hid (Below w.heap.size w (w.alloc (.cells (row8 (fun _ => ⟨#[]⟩)) 9))) := Lib.hid ((Below.refl _ _).alloc (Nat.le_refl _) _)
  have HMUL := Lib.hid (Try.bits_Mul 1 8 (by decide) (by decide) w)
  clear hA h0 hB
  go_enter Try.func9, Try.ntmps9
  go_wp2_with fail
  refine HMUL.out.mono ?_
  rintro r w' ⟨rfl, rfl⟩
  have HM1 : Hid (((1 * 8 / 18446744073709551616 : Nat) : Int) = 0) := Lib.hid (by decide)
  have HM2 : Hid (((1 * 8 % 18446744073709551616 : Nat) : Int) = 8) := Lib.hid (by decide)
  rw [HM1.out, HM2.out]
  go_wp2_with fail
  have HG : Hid (w'.heap.size ≤ w'.heap.size) := Lib.hid (Nat.le_refl _)
  obtain ⟨G, hG⟩ : ∃ G, G = w'.heap.size := ⟨_, rfl⟩
  rw [← hG] at HA ⊢
  generalize w'.alloc (.cells (row8 (fun _ => ⟨#[]⟩)) 9) = W at HA HBW ⊢
  have HGG := Lib.hid hG
  clear hG hcp hmk
  refine wp_loop_rounds 4 ?_
  have hcp := fun ty => rep_copy W.drew G 1 1 7 7 ⟨G, 0, none⟩ 8 HA.out (by decide) (by decide) (fun j hj => by
    have hadd : (⟨G, 0, none⟩ : Addr).add j = ⟨G, j, none⟩ := by unfold Addr.add; split <;> simp_all
    rw [hadd]; exact HA.out.cell (by omega)) ty
  have HA : Hid (At8 W.drew G (fun _ => ⟨#[]⟩)) := Lib.hid HA.out
  have HBW := Lib.hid HBW.out.drew
  rw [rounds_succ]
  go_wp2_with fail
  go_region
  go_wp2_with fail
  generalize W.drew = W at HA HBW hcp ⊢
  clear hcp
  have hcp := fun ty => rep_copy W.drew G 2 2 6 6 ⟨G, 0, none⟩ 8 HA.out (by decide) (by decide) (fun j hj => by
    have hadd : (⟨G, 0, none⟩ : Addr).add j = ⟨G, j, none⟩ := by unfold Addr.add; split <;> simp_all
    rw [hadd]; exact HA.out.cell (by omega)) ty
  have HA : Hid (At8 W.drew G (fun _ => ⟨#[]⟩)) := Lib.hid HA.out
  have HBW := Lib.hid HBW.out.drew
  rw [rounds_succ]
  go_wp2_with fail
  go_region
  go_wp2_with fail
  generalize W.drew = W at HA HBW hcp ⊢
  clear hcp
  have hcp := fun ty => rep_copy W.drew G 4 4 4 4 ⟨G, 0, none⟩ 8 HA.out (by decide) (by decide) (fun j hj => by
    have hadd : (⟨G, 0, none⟩ : Addr).add j = ⟨G, j, none⟩ := by unfold Addr.add; split <;> simp_all
    rw [hadd]; exact HA.out.cell (by omega)) ty
  have HA : Hid (At8 W.drew G (fun _ => ⟨#[]⟩)) := Lib.hid HA.out
  have HBW := Lib.hid HBW.out.drew
  rw [rounds_succ]
  go_wp2_with fail
  go_region
  go_wp2_with fail
  generalize W.drew = W at HA HBW hcp ⊢
  clear hcp
  rw [rounds_succ]
  go_wp2_with fail
  go_ret
  exact ⟨G, rfl, HA.out, by rw [HGG.out]; exact Nat.le_refl _, HBW.out⟩
end Go.Proofs.Ytjnbnkaocoamlaa
