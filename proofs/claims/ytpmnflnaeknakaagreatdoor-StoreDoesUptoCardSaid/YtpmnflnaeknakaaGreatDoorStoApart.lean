/-
  The contract of store.apart.
-/
import Derived.Test.YtpmnflnaeknakaaGreatDoorStoAft
import Derived.Deep.RegionHeld3
import Derived.BigQuiet
import Derived.Test.YtpmnflnaeknakaaGreatDoorKeyEq
import Derived.Test.YtpmnflnaeknakaaGreatDoorOwnS
namespace Go.Proofs.YtpmnflnaeknakaaGreatDoor
open Go.RowKit

theorem aclone_any (v : Value) (l : List ByteArray) (w : World) (h : IsTexts w v l) (hl : l.length ≤ 1000000) :
    Calls Tryz.prog 42 #[v] w fun e w' => ∃ u, e = .returned u ∧ ownsS w' w.heap.size u l ∧ Below w.heap.size w w' := by
  obtain ⟨a, c, rfl⟩ := h.form
  rcases h.row.2 with rfl | ⟨b, off, rfl, _, hc⟩
  · cases a with
    | none => exact (Tryz.slices_Clone_string_nil _ _ w).mono fun e w' ⟨h1, h2⟩ => ⟨_, h1, ownsS_nil _ _, by rw [h2]; exact Below.refl _ _⟩
    | some a => exact (Tryz.slices_Clone_string_zero a c w).mono fun e w' ⟨u, h1, h2, _, h4⟩ => ⟨u, h1, h2, h4⟩
  · refine (Tryz.slices_Clone_string b off l.length c l w (Nat.le_refl _) (by omega) hc).mono fun e w' ⟨u, h1, h2, _, h4⟩ => ⟨u, h1, ?_, h4⟩
    rw [List.take_length] at h2
    exact h2
/-- The value that stands there already, stored anew. -/
theorem ownsS.again {w : World} {base g n c j : Nat} {l : List ByteArray} {x : ByteArray} (h : ownsS w base (.slice (some ⟨g, 0, none⟩) n c) l) (hj : l[j]? = some x) :
    ownsS (w.setCell ⟨g, j, none⟩ (.string x)) base (.slice (some ⟨g, 0, none⟩) n c) l ∧ w.cell? ⟨g, j, none⟩ = some (.string x) ∧ w.frozen? ⟨g, j, none⟩ = false ∧ base ≤ g := by
  obtain ⟨h0, h1⟩ := h
  rcases h1 with ⟨e, _⟩ | ⟨g', cap, cur, e, hb, hh, hc, hm, hs, ht⟩
  · cases e
  · obtain ⟨e1, e2, e3⟩ := Value.slice.inj e
    simp only [Option.some.injEq, Addr.mk.injEq, and_true] at e1
    subst e1
    have hjl : j < l.length := (List.getElem?_eq_some_iff.1 hj).1
    have hcur : cur[j]? = some (.string x) := by
      have h2 : (cur.toList.take (l.length * 1))[j]? = (l.map Value.string)[j]? := by rw [ht]
      rw [List.getElem?_take_of_lt (by omega), List.getElem?_map, hj, Array.getElem?_toList] at h2
      exact h2
    refine ⟨⟨h0, .inr ⟨g, cap, _, e, hb, heap_setCell_same _ _ _ _ _ _ hh, hc, hm, by simpa using hs, ?_⟩⟩, ?_, ?_, hb⟩
    · rw [← ht]
      congr 1
      apply List.ext_getElem?
      intro i
      rw [Array.getElem?_toList, Array.getElem?_toList, Array.getElem?_setIfInBounds]
      split
      · rename_i e4
        subst e4
        split
        · rw [hcur]
        · rename_i hn; exact absurd (Array.getElem?_eq_some_iff.1 hcur).1 hn
      · rfl
    · rw [cell_of_row _ _ j _ _ (0, 0) hh]; exact hcur
    · simp [World.frozen?, hh]

/-- 'apart's two blocks. -/
structure ApW (w W : World) (k t : ByteArray) (h : Bool) (s : Int) (l : Value) : Prop where
  rowc : W.heap[w.heap.size]? = some (.cells #[.string k, .bool h, .string t, .int .i64 s, l] 60 (0, 0))
  rowr : W.heap[w.heap.size + 1]? = some (.cells #[.string ⟨#[]⟩, .bool false, .string ⟨#[]⟩, .int .i64 0, .slice none 0 0] 60 (0, 0))
  gr : w.grownBy W none
  sz : w.heap.size + 2 ≤ W.heap.size
theorem ApW.grown {w W W' : World} {k t : ByteArray} {h : Bool} {s : Int} {l : Value} {o : Option Nat} (hi : ApW w W k t h s l) (hg : W.grownBy W' o) (ho : ∀ g, o = some g → w.heap.size + 2 ≤ g) : ApW w W' k t h s l := by
  have sz := hi.sz
  have hb : ∀ B, B < w.heap.size + 2 → W'.heap[B]? = W.heap[B]? := fun B h1 => hg.block B (by omega) (fun e => by have := ho B e.symm; omega)
  refine ⟨(hb _ (by omega)).trans hi.rowc, (hb _ (by omega)).trans hi.rowr, ⟨hg.os.trans hi.gr.os, hg.tape.trans hi.gr.tape, hg.output.trans hi.gr.output, Nat.le_trans hi.gr.size hg.size, fun k hk _ => (hb k (by omega)).trans (hi.gr.block k hk (by simp))⟩, Nat.le_trans sz hg.size⟩
theorem apW0 (w : World) (k t : ByteArray) (h : Bool) (s : Int) (l : Value) :
    ApW w ((w.alloc (.cells #[.string k, .bool h, .string t, .int .i64 s, l] 60)).alloc (.cells #[.string ⟨#[]⟩, .bool false, .string ⟨#[]⟩, .int .i64 0, .slice none 0 0] 60)) k t h s l := by
  have old : ∀ (W : World) (o : Obj) (k : Nat), k < W.heap.size → (W.alloc o).heap[k]? = W.heap[k]? := fun W o k hk => (MapKept.heap_alloc W o).2 k hk
  have new : ∀ (W : World) (o : Obj), (W.alloc o).heap[W.heap.size]? = some o := fun W o => (MapKept.heap_alloc W o).1
  have s1 : (w.alloc (.cells #[.string k, .bool h, .string t, .int .i64 s, l] 60)).heap.size = w.heap.size + 1 := by simp
  refine ⟨?_, ?_, grown_alloc (grown_alloc (grown_refl w none) _) _, by simp⟩
  · rw [old _ _ _ (by omega)]; exact new _ _
  · have := new (w.alloc (.cells #[.string k, .bool h, .string t, .int .i64 s, l] 60)) (.cells #[.string ⟨#[]⟩, .bool false, .string ⟨#[]⟩, .int .i64 0, .slice none 0 0] 60)
    rwa [s1] at this
/-- The cell stored: its row turned. -/
theorem ApW.put {w W : World} {k t k' t' : ByteArray} {h h' : Bool} {s s' : Int} {l l' : Value} {j : Nat} {z : Value} (hi : ApW w W k t h s l) (hz : (#[.string k, .bool h, .string t, .int .i64 s, l] : Array Value).setIfInBounds j z = #[.string k', .bool h', .string t', .int .i64 s', l']) :
    ApW w (W.setCell ⟨w.heap.size, j, none⟩ z) k' t' h' s' l' :=
  ⟨by rw [← hz]; exact heap_setCell_same _ _ j _ _ z hi.rowc, (heap_setCell_other _ _ _ _ (by show _ ≠ w.heap.size; omega)).trans hi.rowr, grown_set hi.gr _ (Nat.le_refl _), by rw [show (W.setCell ⟨w.heap.size, j, none⟩ z).heap.size = W.heap.size from by simp]; exact hi.sz⟩

theorem ap_far {w W : World} {k t : ByteArray} {h : Bool} {s : Int} {l : Value} {g j : Nat} {z : Value} (hi : ApW w W k t h s l) (hg : w.heap.size + 2 ≤ g) : ApW w (W.setCell ⟨g, j, none⟩ z) k t h s l :=
  hi.grown (o := some g) (grown_setCells [z] j W (grown_refl _ _)) (fun b e => by cases e; exact hg)
theorem ap_free {w W : World} {k t : ByteArray} {h : Bool} {s : Int} {l : Value} (hi : ApW w W k t h s l) (i : Nat) : W.frozen? ⟨w.heap.size, i, none⟩ = false := by simp [World.frozen?, hi.rowc]

theorem ap_end {w wr : World} {k t : ByteArray} {h : Bool} {s : Int} {v : Value} {l : List ByteArray} {a : Act} (hi : ApW w wr k t h s v) (ho : ownsS wr w.heap.size v l) (hn : ∀ B, v.ownBlock = some B → w.heap.size + 2 ≤ B)
    (ha : a.tmps.getD 2 undef = .pointer (some ⟨w.heap.size + 1, 0, none⟩)) (hd : a.defers = []) :
    ∀ W, W = ((((wr.setCell ⟨w.heap.size + 1, 0, none⟩ (.string k)).setCell ⟨w.heap.size + 1, 1, none⟩ (.bool h)).setCell ⟨w.heap.size + 1, 2, none⟩ (.string t)).setCell ⟨w.heap.size + 1, 3, none⟩ (.int .i64 s)).setCell ⟨w.heap.size + 1, 4, none⟩ v →
    bodyPost Tryz.prog Tryz.f27 (fun e w' => ∃ u, e = .returned (.agg #[.string k, .bool h, .string t, .int .i64 s, u]) ∧ ownsS w' w.heap.size u l ∧ Below w.heap.size w w') .ret a W := by
  have hne : v.ownBlock ≠ some (w.heap.size + 1) := fun e => by have := hn _ e; omega
  have hR := row_set5 hi.rowr (.string k) (.bool h) (.string t) (.int .i64 s) v
  intro W hW
  have hgW : w.grownBy W none := by rw [hW]; exact grown_set (grown_set (grown_set (grown_set (grown_set hi.gr _ (by omega)) _ (by omega)) _ (by omega)) _ (by omega)) _ (by omega)
  have hoW : ownsS W w.heap.size v l := by
    rw [hW]; exact ((((ho.setC _ hne).setC _ hne).setC _ hne).setC _ hne).setC _ hne
  rw [← hW] at hR
  refine bodyPost_ret (v := .agg #[.string k, .bool h, .string t, .int .i64 s, v]) (results_cell_row Tryz.results27 _ _ (w.heap.size + 1) 60 _ _ _ ha hR Tryz.underlying60 rfl (cell_sized _ _ _ _ _)) hd ?_
  exact ⟨v, rfl, hoW, below_gr hgW⟩

set_option maxRecDepth 100000 in
set_option maxHeartbeats 8000000 in
theorem apart_any (k t : ByteArray) (h : Bool) (s : Int) (la : Option Addr) (n c : Nat) (l : List ByteArray) (w : World) (hk : k.size ≤ 140737488351232) (ht : t.size ≤ 140737488351232) (hl : IsTexts w (.slice la n c) l) (hm : l.length ≤ 1000000) (hs : ∀ x ∈ l, x.size ≤ 140737488351232) :
    Calls Tryz.prog 27 #[.agg #[.string k, .bool h, .string t, .int .i64 s, .slice la n c]] w fun e w' => ∃ u, e = .returned (.agg #[.string k, .bool h, .string t, .int .i64 s, u]) ∧ ownsS w' w.heap.size u l ∧ Below w.heap.size w w' := by
  have hne : ¬ w.heap.size + 1 = w.heap.size := by omega
  have hne2 : ¬ w.heap.size = w.heap.size + 1 := by omega
  have HL := Lib.hid hl
  have HM := Lib.hid hm
  have HS := Lib.hid hs
  have HW0 := Lib.hid (apW0 w k t h s (.slice la n c))
  clear hl hm hs
  go_enter Tryz.func27, Tryz.ntmps27
  go_wp2
  obtain ⟨u, hu⟩ : ∃ u, u = ((w.alloc (.cells #[.string k, .bool h, .string t, .int .i64 s, .slice la n c] 60)).alloc (.cells #[.string ⟨#[]⟩, .bool false, .string ⟨#[]⟩, .int .i64 0, .slice none 0 0] 60)) := ⟨_, rfl⟩
  rw [← hu] at HW0 ⊢
  have HW : Hid (ApW w u.drew k t h s (.slice la n c)) := Lib.hid (HW0.out.grown (grown_drew (grown_refl _ none)) (fun g e => by cases e))
  have k0 : u.drew.cell? ⟨w.heap.size, 0, none⟩ = some (.string k) ∧ u.drew.cell? ⟨w.heap.size, 2, none⟩ = some (.string t) := ⟨cell_of_row _ _ 0 _ _ _ HW.out.rowc, cell_of_row _ _ 2 _ _ _ HW.out.rowc⟩
  clear hu HW0
  go_region_held3 (fun w' => w'.cell? ⟨w.heap.size, 0, none⟩ = some (.string k) ∧ w'.cell? ⟨w.heap.size, 2, none⟩ = some (.string t)) (first | exact k0 | exact k1 | exact k2 | exact k3 | exact k4 | fail) (first
    | (go_at_call 22; ((with_reducible refine (clone_s k u.drew hk).mono ?_); rintro r w1 ⟨rfl, hb1⟩; have HW1 : Hid (ApW w w1 k t h s (.slice la n c)) := Lib.hid (HW.out.grown (grown_of_below hb1) (fun g e => by cases e)); have k1 : w1.cell? ⟨w.heap.size, 0, none⟩ = some (.string k) ∧ w1.cell? ⟨w.heap.size, 2, none⟩ = some (.string t) := ⟨cell_of_row _ _ 0 _ _ _ HW1.out.rowc, cell_of_row _ _ 2 _ _ _ HW1.out.rowc⟩; clear hb1))
    | (go_at_call 22; ((with_reducible refine (clone_s t u.drew ht).mono ?_); rintro r w1 ⟨rfl, hb1⟩; have HW1 : Hid (ApW w w1 k t h s (.slice la n c)) := Lib.hid (HW.out.grown (grown_of_below hb1) (fun g e => by cases e)); have k1 : w1.cell? ⟨w.heap.size, 0, none⟩ = some (.string k) ∧ w1.cell? ⟨w.heap.size, 2, none⟩ = some (.string t) := ⟨cell_of_row _ _ 0 _ _ _ HW1.out.rowc, cell_of_row _ _ 2 _ _ _ HW1.out.rowc⟩; clear hb1))
    | (go_at_call 22; ((with_reducible refine (clone_s k w1 hk).mono ?_); rintro r w2 ⟨rfl, hb2⟩; have HW2 : Hid (ApW w w2 k t h s (.slice la n c)) := Lib.hid (HW1.out.grown (grown_of_below hb2) (fun g e => by cases e)); have k2 : w2.cell? ⟨w.heap.size, 0, none⟩ = some (.string k) ∧ w2.cell? ⟨w.heap.size, 2, none⟩ = some (.string t) := ⟨cell_of_row _ _ 0 _ _ _ HW2.out.rowc, cell_of_row _ _ 2 _ _ _ HW2.out.rowc⟩; have z0 := ap_free HW2.out 0; have z2 := ap_free HW2.out 2; have HW3 : Hid (ApW w (w2.setCell ⟨w.heap.size, 0, none⟩ (.string k)) k t h s (.slice la n c)) := Lib.hid (HW2.out.put rfl); have HW4 : Hid (ApW w ((w2.setCell ⟨w.heap.size, 0, none⟩ (.string k)).setCell ⟨w.heap.size, 2, none⟩ (.string t)) k t h s (.slice la n c)) := Lib.hid (HW3.out.put rfl); have k3 : (w2.setCell ⟨w.heap.size, 0, none⟩ (.string k)).cell? ⟨w.heap.size, 0, none⟩ = some (.string k) ∧ (w2.setCell ⟨w.heap.size, 0, none⟩ (.string k)).cell? ⟨w.heap.size, 2, none⟩ = some (.string t) := ⟨cell_of_row _ _ 0 _ _ _ HW3.out.rowc, cell_of_row _ _ 2 _ _ _ HW3.out.rowc⟩; have k4 : ((w2.setCell ⟨w.heap.size, 0, none⟩ (.string k)).setCell ⟨w.heap.size, 2, none⟩ (.string t)).cell? ⟨w.heap.size, 0, none⟩ = some (.string k) ∧ ((w2.setCell ⟨w.heap.size, 0, none⟩ (.string k)).setCell ⟨w.heap.size, 2, none⟩ (.string t)).cell? ⟨w.heap.size, 2, none⟩ = some (.string t) := ⟨cell_of_row _ _ 0 _ _ _ HW4.out.rowc, cell_of_row _ _ 2 _ _ _ HW4.out.rowc⟩; clear hb2))
    | (go_at_call 22; ((with_reducible refine (clone_s t w1 ht).mono ?_); rintro r w2 ⟨rfl, hb2⟩; have HW2 : Hid (ApW w w2 k t h s (.slice la n c)) := Lib.hid (HW1.out.grown (grown_of_below hb2) (fun g e => by cases e)); have k2 : w2.cell? ⟨w.heap.size, 0, none⟩ = some (.string k) ∧ w2.cell? ⟨w.heap.size, 2, none⟩ = some (.string t) := ⟨cell_of_row _ _ 0 _ _ _ HW2.out.rowc, cell_of_row _ _ 2 _ _ _ HW2.out.rowc⟩; have z0 := ap_free HW2.out 0; have z2 := ap_free HW2.out 2; have HW3 : Hid (ApW w (w2.setCell ⟨w.heap.size, 0, none⟩ (.string k)) k t h s (.slice la n c)) := Lib.hid (HW2.out.put rfl); have HW4 : Hid (ApW w ((w2.setCell ⟨w.heap.size, 0, none⟩ (.string k)).setCell ⟨w.heap.size, 2, none⟩ (.string t)) k t h s (.slice la n c)) := Lib.hid (HW3.out.put rfl); have k3 : (w2.setCell ⟨w.heap.size, 0, none⟩ (.string k)).cell? ⟨w.heap.size, 0, none⟩ = some (.string k) ∧ (w2.setCell ⟨w.heap.size, 0, none⟩ (.string k)).cell? ⟨w.heap.size, 2, none⟩ = some (.string t) := ⟨cell_of_row _ _ 0 _ _ _ HW3.out.rowc, cell_of_row _ _ 2 _ _ _ HW3.out.rowc⟩; have k4 : ((w2.setCell ⟨w.heap.size, 0, none⟩ (.string k)).setCell ⟨w.heap.size, 2, none⟩ (.string t)).cell? ⟨w.heap.size, 0, none⟩ = some (.string k) ∧ ((w2.setCell ⟨w.heap.size, 0, none⟩ (.string k)).setCell ⟨w.heap.size, 2, none⟩ (.string t)).cell? ⟨w.heap.size, 2, none⟩ = some (.string t) := ⟨cell_of_row _ _ 0 _ _ _ HW4.out.rowc, cell_of_row _ _ 2 _ _ _ HW4.out.rowc⟩; clear hb2)))
  all_goals
    obtain ⟨W, hW⟩ : ∃ W, W = (w2.setCell ⟨w.heap.size, 0, none⟩ (.string k)).setCell ⟨w.heap.size, 2, none⟩ (.string t) := ⟨_, rfl⟩
    rw [← hW] at HW4 ⊢
    have d4 : W.cell? ⟨w.heap.size, 4, none⟩ = some (.slice la n c) := cell_of_row _ _ 4 _ _ _ HW4.out.rowc
    clear hW k0 k1 k2 k3 k4 z0 z2 HW3 HW2 HW1 HW
    go_wp2_with (go_at_call 42; refine (aclone_any (.slice la n c) l W (HL.out.below (below_gr HW4.out.gr)) HM.out).mono ?_; rintro r w5 ⟨u5, rfl, ho5, hb5⟩; obtain ⟨a5, c5, rfl⟩ := ho5.slice; have HW5 : Hid (ApW w w5 k t h s (.slice la n c)) := Lib.hid (HW4.out.grown (grown_of_below hb5) (fun g e => by cases e)); have z4 := ap_free HW5.out 4; have d5 : w5.cell? ⟨w.heap.size, 4, none⟩ = some (.slice la n c) := cell_of_row _ _ 4 _ _ _ HW5.out.rowc; have HO5 := Lib.hid (ownsS.mono ho5 HW4.out.sz); clear ho5 hb5)
    have HW6 : Hid (ApW w (w5.setCell ⟨w.heap.size, 4, none⟩ (.slice a5 l.length c5)) k t h s (.slice a5 l.length c5)) := Lib.hid (HW5.out.put rfl)
    have HO6 : Hid (ownsS (w5.setCell ⟨w.heap.size, 4, none⟩ (.slice a5 l.length c5)) (w.heap.size + 2) (.slice a5 l.length c5) l) := Lib.hid (HO5.out.setC _ (fun e => by have := (HO5.out.lt _ e).1; omega))
    obtain ⟨w6, hw6⟩ : ∃ w6, w6 = w5.setCell ⟨w.heap.size, 4, none⟩ (.slice a5 l.length c5) := ⟨_, rfl⟩
    rw [← hw6] at HW6 HO6 ⊢
    clear hw6 HW5 HO5 z4 d5 HW4 d4
    obtain ⟨q, hq⟩ : ∃ q, q = l.length := ⟨_, rfl⟩
    have hq2 : q ≤ 1000000 := by rw [hq]; exact HM.out
    rw [← hq] at HW6 HO6 ⊢
    have HQ := Lib.hid hq
    clear hq
    go_loopw [20] (fun i wr => ∃ j : Nat, j ≤ q ∧ i = .int .i64 j ∧ ApW w wr k t h s (.slice a5 q c5) ∧ ownsS wr (w.heap.size + 2) (.slice a5 q c5) l) (fun i _ => q - (intOf i).toNat)
    case atStart => exact ⟨0, by omega, rfl, HW6.out, HO6.out⟩
    case round =>
      obtain ⟨j, hj, rfl, hwr, hor⟩ := hrel
      have HWR : Hid (ApW w wr.drew k t h s (.slice a5 q c5)) := Lib.hid (hwr.grown (grown_drew (grown_refl _ none)) (fun g e => by cases e))
      have HWE := Lib.hid hwr
      have HOR := Lib.hid hor
      clear hwr hor
      by_cases hlt : j < q
      · have b1 : decide ((j : Int) < (q : Int)) = true := by simpa using hlt
        obtain ⟨x, hx⟩ : ∃ x, l[j]? = some x := ⟨l[j]'(by rw [← HQ.out]; exact hlt), List.getElem?_eq_getElem _⟩
        obtain ⟨g, rfl, hg⟩ := HOR.out.at (by rw [← HQ.out]; omega)
        obtain ⟨_, e1, _, _⟩ := HOR.out.again hx
        have HX := Lib.hid hx
        have hxs : x.size ≤ 140737488351232 := HS.out x (List.mem_of_getElem? hx)
        have k5 : wr.drew.cell? ⟨w.heap.size, 4, none⟩ = some (.slice (some ⟨g, 0, none⟩) q c5) := cell_of_row _ _ 4 _ _ _ HWR.out.rowc
        clear hx
        have HK : Hid (ApW w wr.drew k t h s (.slice (some ⟨g, 0, none⟩) q c5) ∧ ownsS wr.drew (w.heap.size + 2) (.slice (some ⟨g, 0, none⟩) q c5) l) := Lib.hid ⟨HWR.out, HOR.out.drew⟩
        clear HWR
        go_wp2
        go_region_held3 (fun w' => w'.cell? ⟨w.heap.size, 4, none⟩ = some (.slice (some ⟨g, 0, none⟩) q c5)) (first | exact k5 | exact k6 | exact k7 | fail) (first
          | (go_at_call 22; ((with_reducible refine (clone_s x wr.drew hxs).mono ?_); rintro r w7 ⟨rfl, hb7⟩; have HW7 : Hid (ApW w w7 k t h s (.slice (some ⟨g, 0, none⟩) q c5)) := Lib.hid (HK.out.1.grown (grown_of_below hb7) (fun g e => by cases e)); have k6 : w7.cell? ⟨w.heap.size, 4, none⟩ = some (.slice (some ⟨g, 0, none⟩) q c5) := cell_of_row _ _ 4 _ _ _ HW7.out.rowc; obtain ⟨ho7, e7, f7, hg7⟩ := (HK.out.2.below hb7).again HX.out; have HO7 := Lib.hid ho7; have HW8 : Hid (ApW w (w7.setCell ⟨g, j, none⟩ (.string x)) k t h s (.slice (some ⟨g, 0, none⟩) q c5)) := Lib.hid (ap_far HW7.out hg7); have k7 : (w7.setCell ⟨g, j, none⟩ (.string x)).cell? ⟨w.heap.size, 4, none⟩ = some (.slice (some ⟨g, 0, none⟩) q c5) := cell_of_row _ _ 4 _ _ _ HW8.out.rowc; clear hb7 ho7)))
        go_wp2
        go_roundw
        · exact ⟨j + 1, by omega, by simp, HW8.out, HO7.out⟩
        · simp [intOf]; omega
      · have b1 : decide ((j : Int) < (q : Int)) = false := by simp; omega
        obtain rfl : j = q := by omega
        obtain ⟨p0, p1, p2, p3, p4, _⟩ := row5 HWE.out.rowc
        obtain ⟨q0, q1, q2, q3, q4, g0, g1, g2, g3, g4⟩ := row5 HWE.out.rowr
        clear HWR
        go_wp2
        exact ap_end HWE.out (ownsS.mono HOR.out (by omega)) (fun B e => (HOR.out.lt B e).1) rfl rfl _ rfl
end Go.Proofs.YtpmnflnaeknakaaGreatDoor
