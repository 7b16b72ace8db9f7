/-
  The walk of 'packtrainkeep.StoreDrops'.
-/
import Derived.Test.YtcoejiehckileaaDoorWrDel
import Derived.Test.YtcoejiehckileaaDoorWrCat
import Derived.Test.YtcoejiehckileaaDoorWriteRight
namespace Go.Proofs.YtcoejiehckileaaDoor
open Go.RowKit

theorem allWrs2d {w : World} {B : Nat} {v1 v2 : Value} {l1 l2 : List Wr} {T : TypeId} (h : w.heap[B]? = some (.cells #[v1, v2] T (0, 0))) (h1 : IsWrs w v1 l1) (h2 : IsWrs w v2 l2) : AllWrs w B [v1, v2] [l1, l2] := by
  refine ⟨rfl, fun j v hj => ?_⟩
  match j, hj with
  | 0, hj => simp at hj; subst hj; exact ⟨l1, rfl, cell_of_row _ _ 0 _ _ _ h, h1⟩
  | 1, hj => simp at hj; subst hj; exact ⟨l2, rfl, cell_of_row _ _ 1 _ _ _ h, h2⟩
theorem allWrs3d {w : World} {B : Nat} {v1 v2 v3 : Value} {l1 l2 l3 : List Wr} {T : TypeId} (h : w.heap[B]? = some (.cells #[v1, v2, v3] T (0, 0))) (h1 : IsWrs w v1 l1) (h2 : IsWrs w v2 l2) (h3 : IsWrs w v3 l3) : AllWrs w B [v1, v2, v3] [l1, l2, l3] := by
  refine ⟨rfl, fun j v hj => ?_⟩
  match j, hj with
  | 0, hj => simp at hj; subst hj; exact ⟨l1, rfl, cell_of_row _ _ 0 _ _ _ h, h1⟩
  | 1, hj => simp at hj; subst hj; exact ⟨l2, rfl, cell_of_row _ _ 1 _ _ _ h, h2⟩
  | 2, hj => simp at hj; subst hj; exact ⟨l3, rfl, cell_of_row _ _ 2 _ _ _ h, h3⟩
/-- The same cells under every key, the same cells. -/
theorem cellsF_congr {l m : List Wr} (h : ∀ k, cellK l k = cellK m k) : cellsF l = cellsF m :=
  (cellsOf_cellsF l).unique (by have e : cellK l = cellK m := funext h; rw [e]; exact cellsOf_cellsF m)
theorem drops_cells (a b : List Wr) (d : Wr) (hk : d.kind = 2) : cellsF (a ++ d :: b) = cellsF (a.filter (fun x => !decide (x.key = d.key)) ++ b) := by
  refine cellsF_congr (fun k => ?_)
  rw [cellK_app, cellK_app, cellK_others]
  by_cases h : k = d.key
  · rw [if_pos h, List.filter_cons_of_pos (by simp [h]), List.foldl_cons]
    have e : stepC (cellK a k) d = cel0 := by simp [stepC, hk]
    rw [e]
  · rw [if_neg h, List.filter_cons_of_neg (by simpa using fun e => h e.symm)]

theorem ownsW_none0 (w : World) : ownsW (w.alloc (.cells #[] 37)) w.heap.size (.slice (some ⟨w.heap.size, 0, none⟩) 0 0) [] :=
  ⟨rfl, .inr ⟨w.heap.size, 0, #[], rfl, Nat.le_refl _, heap_alloc_new w _, Nat.le_refl _, Nat.zero_le _, rfl, rfl⟩⟩

set_option maxRecDepth 100000 in
set_option maxHeartbeats 4000000 in
theorem clone2_any (v : Value) (l : List Wr) (w : World) (hv : IsWrs w v l) (h6 : l.length ≤ 1000000) :
    Calls Tryd.prog 27 #[v] w fun e w' => ∃ v', e = .returned v' ∧ ownsW w' w.heap.size v' l ∧ Below w.heap.size w w' := by
  obtain ⟨a, c, rfl, _⟩ := hv.form
  have HV := Lib.hid hv
  obtain ⟨n, hn⟩ : ∃ n, n = l.length := ⟨_, rfl⟩
  rw [← hn] at HV ⊢
  have HN := Lib.hid hn
  clear hv hn
  cases a with
  | none =>
    have hn0 : n = 0 ∧ l = [] := by
      rcases HV.out with ⟨_, _, e, h⟩ | ⟨b, off, c', e, h, _⟩
      · exact ⟨by rw [HN.out, h]; rfl, h⟩
      · cases e
    obtain ⟨rfl, rfl⟩ := hn0
    have heq : ∀ w : World, (binOp BinOp.eql 22 (.slice none 0 c) (.slice none 0 0)).run Tryd.prog w = .ok (.bool true) w := fun w => Go.Lib.run_eql_slice_nil w _ _ none 0 c 0 0 Tryd.underlying22
    go_enter Tryd.func27, Tryd.ntmps27
    go_wp2
    go_ret
    exact ⟨_, rfl, ownsW_nil _ _, Below.refl _ _⟩
  | some p =>
    have heq : ∀ w : World, (binOp BinOp.eql 22 (.slice (some p) n c) (.slice none 0 0)).run Tryd.prog w = .ok (.bool false) w := fun w => Go.Lib.run_eql_slice_nil w _ _ (some p) n c 0 0 Tryd.underlying22
    go_enter Tryd.func27, Tryd.ntmps27
    go_wp2_with (at_builtin; refine wpList_append_wrsA rfl _ _ rfl w.heap.size _ [] rfl (ownsW_none0 w) _ l rfl (HV.out.below ((Below.refl _ _).alloc (Nat.le_refl _) _)) ?c2 ?c4 ?_)
    case c2 => simpa using h6
    case c4 => simp
    intro v' w' ho hg
    have HO := Lib.hid ho
    have HB : Hid (Below w.heap.size w w') := Lib.hid (below_of_grown ((Below.refl _ _).alloc (Nat.le_refl _) _) hg (by simp) (fun k hk => by
      have e : w.heap.size = k := by simpa [Value.ownBlock] using hk
      omega))
    clear ho hg
    go_wp2
    go_ret
    exact ⟨_, rfl, by simpa using HO.out, HB.out⟩

set_option maxRecDepth 100000 in
set_option maxHeartbeats 8000000 in
theorem storeDrops_walk (W : World) (v1 : Value) (l1 : List Wr) (hi1 : IsWrs W v1 l1) (hl1 : l1.length ≤ 9223372036854775807) (hok1 : ∀ t ∈ l1, WrOk t) (v2 : Value) (l2 : List Wr) (hi2 : IsWrs W v2 l2) (hl2 : l2.length ≤ 9223372036854775807) (hok2 : ∀ t ∈ l2, WrOk t) (key : ByteArray) (hks : key.size ≤ 140737488351232) {Q : Prop} (_ : Q) :
    Calls Tryd.prog 6 #[v1, v2, .string key] W fun e w' => e = .returned (.bool true) ∧ Below W.heap.size W w' := by
  have HI1 := Lib.hid hi1
  have HI2 := Lib.hid hi2
  have HOK1 := Lib.hid hok1
  have HOK2 := Lib.hid hok2
  clear hi1 hi2 hok1 hok2
  go_enter Tryd.func6, Tryd.ntmps6
  go_wp2_with (go_at_call 11; refine (stored_any _).mono ?_; rintro r w1 ⟨rfl, hb1⟩; have HB1 := Lib.hid hb1; clear hb1)
  have HW1 : Hid (Below W.heap.size W w1) := Lib.hid (((Below.refl _ W).alloc (Nat.le_refl _) _).trans (HB1.out.mono (by simp)))
  have HKY : Hid (W.heap.size < w1.heap.size ∧ w1.cell? ⟨W.heap.size, 0, none⟩ = some (.string key)) := Lib.hid ⟨by have := HB1.out.size; simp at this; omega, (HB1.out.cell (p := ⟨W.heap.size, 0, none⟩) (by simp)).trans (cell_of_row _ _ 0 _ _ _ (MapKept.heap_alloc W _).1)⟩
  clear HB1
  refine (right_any v1 l1 _ (HI1.out.below HW1.out) hl1 HOK1.out).mono ?_
  rintro r w2 ⟨u1, rfl, ho2, hb2⟩
  have HO2 := Lib.hid ho2
  have HB2 := Lib.hid hb2
  clear ho2 hb2
  go_wp2_with fail
  refine (right_any v2 l2 _ (HI2.out.below (HW1.out.trans (HB2.out.mono HW1.out.size))) hl2 HOK2.out).mono ?_
  rintro r w3 ⟨u2, rfl, ho3, hb3⟩
  have hra : ∀ x ∈ rightL l1, wrF x = 0 := fun x hx => (rightL_ok hx).1
  have hrb : ∀ x ∈ rightL l2, wrF x = 0 := fun x hx => (rightL_ok hx).1
  have hn1 := rightL_len l1
  have hn2 := rightL_len l2
  have HA : Hid (IsWrs w3 u1 (rightL l1) ∧ IsWrs w3 u2 (rightL l2)) := Lib.hid ⟨(HO2.out.below hb3).is, ho3.is⟩
  have HB3 : Hid (Below w1.heap.size w1 w3) := Lib.hid (HB2.out.trans (hb3.mono HB2.out.size))
  clear ho3 hb3 HO2 HB2
  obtain ⟨x1, m1, y1, rfl⟩ : ∃ a n c, u1 = .slice a n c := by obtain ⟨a, c, e, _⟩ := HA.out.1.form; exact ⟨a, _, c, e⟩
  obtain ⟨x2, m2, y2, rfl⟩ : ∃ a n c, u2 = .slice a n c := by obtain ⟨a, c, e, _⟩ := HA.out.2.form; exact ⟨a, _, c, e⟩
  generalize rightL l1 = La at hra hn1 HA
  generalize rightL l2 = Lb at hrb hn2 HA
  have k3 : w3.cell? ⟨W.heap.size, 0, none⟩ = some (.string key) := (HB3.out.cell (p := ⟨W.heap.size, 0, none⟩) HKY.out.1).trans HKY.out.2
  have hne3 : ¬ w3.heap.size = W.heap.size := by have := HKY.out.1; have := HB3.out.size; omega
  obtain ⟨d, hd⟩ : ∃ d : Wr, d = ⟨1, 0, 2, key, ⟨#[]⟩, 0⟩ := ⟨_, rfl⟩
  by_cases he : wriE 1 0 2 key ⟨#[]⟩ 0 = 0
  · have HE : Hid (errV (wriE 1 0 2 key ⟨#[]⟩ 0) = .nilIface) := Lib.hid (by rw [he]; rfl)
    have HRA := Lib.hid hra
    have HRB := Lib.hid hrb
    have HD0 : Hid (wrF d = 0 ∧ d.kind = 2 ∧ d.key = key) := Lib.hid ⟨by rw [hd]; exact he, by rw [hd], by rw [hd]⟩
    have HDD := Lib.hid hd
    clear he hra hrb hd
    go_wp2_with fail
    refine (wright_any 1 0 2 key ⟨#[]⟩ 0 _ hks (by decide)).mono ?_
    rintro r w5 ⟨rfl, hb5⟩
    rw [HE.out]
    have hrow := (hb5.block w3.heap.size (by simp)).trans (MapKept.heap_alloc w3 (.cells #[.int .i64 1, .int .i64 0, .int .i64 2, .string key, .string ⟨#[]⟩, .int .i64 0] 37)).1
    have HROW5 := Lib.hid hrow
    have HB5 : Hid (Below w1.heap.size w1 w5) := Lib.hid ((HB3.out.alloc HB3.out.size _).trans (hb5.mono (by have := HB3.out.size; simp; omega)))
    have HA5 : Hid (IsWrs w5 (.slice x1 m1 y1) La ∧ IsWrs w5 (.slice x2 m2 y2) Lb) := Lib.hid ⟨(HA.out.1.alloc _).below hb5, (HA.out.2.alloc _).below hb5⟩
    have HS5 : Hid (w3.heap.size < w5.heap.size) := Lib.hid (by have := hb5.size; simp at this; omega)
    clear hrow hb5 k3
    go_wp2_with fail
    refine (clone2_any _ La w5 HA5.out.1 (by omega)).mono ?_
    rintro r w6 ⟨v6, rfl, ho6, hb6⟩
    have HO6 := Lib.hid ho6
    have HB6 := Lib.hid hb6
    clear ho6 hb6
    go_wp2_with fail
    refine (delw_any v6 La key W.heap.size w5.heap.size w6 HO6.out (by omega) (by have := HKY.out.1; have := HB5.out.size; omega) HB6.out.size (((HB5.out.trans (HB6.out.mono HB5.out.size)).cell (p := ⟨W.heap.size, 0, none⟩) HKY.out.1).trans HKY.out.2)).mono ?_
    rintro r w7 ⟨u7, rfl, hu7, hb7⟩
    obtain ⟨x7, m7, y7, rfl⟩ : ∃ a n c, u7 = .slice a n c := by obtain ⟨a, c, e, _⟩ := hu7.form; exact ⟨a, _, c, e⟩
    have HB7 : Hid (Below w5.heap.size w5 w7) := Lib.hid (HB6.out.trans hb7)
    have HU7 := Lib.hid hu7
    have hrow7 := (HB7.out.block w3.heap.size HS5.out).trans HROW5.out
    have p0 := cell_of_row _ _ 0 _ _ _ hrow7
    have p1 := cell_of_row _ _ 1 _ _ _ hrow7
    have p2 := cell_of_row _ _ 2 _ _ _ hrow7
    have p3 := cell_of_row _ _ 3 _ _ _ hrow7
    have p4 := cell_of_row _ _ 4 _ _ _ hrow7
    have p5 := cell_of_row _ _ 5 _ _ _ hrow7
    simp only [List.getElem?_toArray, List.getElem?_cons_zero, List.getElem?_cons_succ] at p0 p1 p2 p3 p4 p5
    clear hu7 hb7 HB6 HO6 hrow7
    have HFL : Hid ([La, [d], Lb].flatten = La ++ d :: Lb) := Lib.hid (by simp)
    have HFL2 : Hid ([La.filter (fun x => !decide (x.key = key)), Lb].flatten = La.filter (fun x => !decide (x.key = key)) ++ Lb) := Lib.hid (by simp)
    have hf1 := List.length_filter_le (fun x : Wr => !decide (x.key = key)) La
    go_wp2_with fail
    refine (wcat_any [_, _, _] [La, [d], Lb] (w7.heap.size + 1) 3 3 _ (allWrs3d (alloc2_row w7 _ _) (((HA5.out.1.below HB7.out).alloc _).alloc _) ((wrBlk_is (B := w7.heap.size) (t := d) (by rw [HDD.out]; exact (MapKept.heap_alloc w7 _).1)).alloc _) (((HA5.out.2.below HB7.out).alloc _).alloc _)) rfl (by omega) (by rw [HFL.out]; simp; omega) (by simp)).mono ?_
    rintro r w8 ⟨u8, rfl, ho8, hb8⟩
    rw [HFL.out] at ho8
    have HO8 := Lib.hid ho8.is
    have HB8 : Hid (Below w7.heap.size w7 w8) := Lib.hid ((((Below.refl _ w7).alloc (Nat.le_refl _) _).alloc (by simp) _).trans (hb8.mono (by simp; omega)))
    clear ho8 hb8 p0 p1 p2 p3 p4 p5
    go_wp2_with fail
    refine (of_good _ (La ++ d :: Lb) _ HO8.out (fun x hx => by
      rcases List.mem_append.1 hx with hx | hx
      · exact HRA.out x hx
      · rcases List.mem_cons.1 hx with rfl | hx
        · exact HD0.out.1
        · exact HRB.out x hx) (by simp; omega)).mono ?_
    rintro r w9 ⟨u9, rfl, hu9, hb9⟩
    have hc9 := drops_cells La Lb d HD0.out.2.1
    rw [HD0.out.2.2] at hc9
    rw [hc9] at hu9
    have HU9 := Lib.hid hu9
    have HB9 : Hid (Below w7.heap.size w7 w9) := Lib.hid (HB8.out.trans (hb9.mono HB8.out.size))
    clear hu9 hb9 hc9
    go_wp2_with fail
    refine (wcat_any [_, _] [La.filter (fun x => !decide (x.key = key)), Lb] w9.heap.size 2 2 _ (allWrs2d (MapKept.heap_alloc w9 _).1 ((HU7.out.below HB9.out).alloc _) ((HA5.out.2.below (HB7.out.trans (HB9.out.mono HB7.out.size))).alloc _)) rfl (by omega) (by rw [HFL2.out]; simp; omega) (by simp)).mono ?_
    rintro r w10 ⟨u10, rfl, ho10, hb10⟩
    rw [HFL2.out] at ho10
    have HO10 := Lib.hid ho10.is
    have HB10 : Hid (Below w9.heap.size w9 w10) := Lib.hid (((Below.refl _ w9).alloc (Nat.le_refl _) _).trans (hb10.mono (by simp)))
    clear ho10 hb10
    go_wp2_with fail
    refine (of_good _ (La.filter (fun x => !decide (x.key = key)) ++ Lb) _ HO10.out (fun x hx => by
      rcases List.mem_append.1 hx with hx | hx
      · exact HRA.out x (List.mem_filter.1 hx).1
      · exact HRB.out x hx) (by simp; omega)).mono ?_
    rintro r w11 ⟨u11, rfl, hu11, hb11⟩
    have HU11 := Lib.hid hu11
    have HB11 : Hid (Below w9.heap.size w9 w11) := Lib.hid (HB10.out.trans (hb11.mono HB10.out.size))
    clear hu11 hb11
    go_wp2_with (go_at_call 19; refine (same_cells _ _ (La.filter (fun x => !decide (x.key = key)) ++ Lb) _ (HU9.out.below HB11.out) HU11.out (by simp; omega)).mono ?_; rintro r w12 ⟨rfl, hb12⟩; have HB12 := Lib.hid hb12; clear hb12)
    go_ret
    have z1 := HB11.out.trans (HB12.out.mono HB11.out.size)
    have z2 := HB9.out.trans (z1.mono HB9.out.size)
    have z3 := HB7.out.trans (z2.mono HB7.out.size)
    have z4 := HB5.out.trans (z3.mono HB5.out.size)
    exact ⟨rfl, HW1.out.trans (z4.mono HW1.out.size)⟩
  · have HE : Hid (errV (wriE 1 0 2 key ⟨#[]⟩ 0) = .iface 66 (.int .i64 ((wriE 1 0 2 key ⟨#[]⟩ 0 : Nat) : Int))) := Lib.hid (by unfold errV; rw [if_neg he])
    clear he
    go_wp2_with fail
    refine (wright_any 1 0 2 key ⟨#[]⟩ 0 _ hks (by decide)).mono ?_
    rintro r w5 ⟨rfl, hb5⟩
    rw [HE.out]
    have HB5 : Hid (Below w1.heap.size w1 w5) := Lib.hid ((HB3.out.alloc HB3.out.size _).trans (hb5.mono (by have := HB3.out.size; simp; omega)))
    clear hb5
    go_wp2
    go_ret
    exact ⟨rfl, HW1.out.trans (HB5.out.mono HW1.out.size)⟩
end Go.Proofs.YtcoejiehckileaaDoor
