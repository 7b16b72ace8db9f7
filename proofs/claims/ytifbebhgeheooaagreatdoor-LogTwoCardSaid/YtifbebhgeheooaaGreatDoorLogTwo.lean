/-
  The walk of 'packtrainkeep.LogTwo'.
-/
import Derived.Test.YtifbebhgeheooaaGreatDoorKl21
import Derived.Test.YtifbebhgeheooaaGreatDoorKl09
import Derived.Test.YtifbebhgeheooaaGreatDoorKl04
namespace Go.Proofs.YtifbebhgeheooaaGreatDoor
open Go.RowKit

/-! ### What comes of it -/
theorem two_right {x : Wr} (hx : wE x = 0) : rightB [] [⟨x.rep, x.time⟩] [x] ∧ rightV [(⟨x.rep, x.time⟩ : Ent)] := by
  obtain ⟨h1, h2, h3, h4⟩ := wE_id hx
  have hv : rightV [(⟨x.rep, x.time⟩ : Ent)] := ⟨by simp, wrE_ok.2 ⟨h3, h4, h1, h2, by show (-1 : Int) < x.rep; omega⟩, trivial⟩
  have h0 : rightV ([] : List Ent) := ⟨by simp, trivial⟩
  refine ⟨rightB_iff.2 ⟨⟨h0, hv, (covB_iff hv h0).2 (fun r => by rw [ofF_one]; show (0 : Int) ≤ _; split <;> omega)⟩, by simp, fun y hy => ?_, List.pairwise_singleton _ _⟩, hv⟩
  rw [List.mem_singleton.1 hy]
  refine ⟨hx, ?_⟩
  unfold wiF wid
  rw [ofF_one, if_pos rfl]
  simp only [Bool.and_eq_true, decide_eq_true_eq]
  exact ⟨by show (0 : Int) < _; omega, Int.le_refl _⟩
theorem two_first {x : Wr} (hx : wE x = 0) : accE ⟨0, [], []⟩ [] [⟨x.rep, x.time⟩] [x] = (0, -1) ∧ accS ⟨0, [], []⟩ [⟨x.rep, x.time⟩] [x] = ⟨0, [⟨x.rep, x.time⟩], [x]⟩ ∧ (freshW ([] : List Wr) [x]).length = 1 := by
  obtain ⟨hb, hv⟩ := two_right hx
  have h0 : rightV ([] : List Ent) := ⟨by simp, trivial⟩
  have hj : joinR [] [(⟨x.rep, x.time⟩ : Ent)] = (0, [⟨x.rep, x.time⟩]) := by
    have h3 : joinL [] [(⟨x.rep, x.time⟩ : Ent)] = [⟨x.rep, x.time⟩] := ok_ext (join_okV h0.2 hv.2) hv.2 (fun r => by
      rw [join_of h0.2 hv.2]
      have := ofF_bd hv.2 r
      show max 0 _ = _
      omega)
    rw [joinR_ok ((vright_ok _).2 h0) ((vright_ok _).2 hv) (by rw [h3]; simp), h3]
  have hf : freshW ([] : List Wr) [x] = [x] := by simp [freshW]
  refine ⟨?_, ?_, by rw [hf]; rfl⟩
  · have hc : covB (⟨0, [], []⟩ : LogS).hv [] = true := (covB_iff h0 h0).2 (fun _ => Int.le_refl _)
    rw [accE_t hb hc (by show (joinR [] _).1 = 0; rw [hj])]
    unfold togE
    rw [(twA_none (ws := ([] : List Wr)) [x] 0).2 (fun y _ ⟨z, hz, _⟩ => by cases hz)]
    show (if 300 < 0 + (freshW ([] : List Wr) [x]).length then _ else _) = _
    rw [hf]; rfl
  · unfold accS
    show (⟨0, (joinR [] [(⟨x.rep, x.time⟩ : Ent)]).2, sortW ([] ++ freshW ([] : List Wr) [x])⟩ : LogS) = _
    rw [hj, hf]
    unfold sortW
    rw [List.nil_append, List.mergeSort_singleton]
theorem two_second {x : Wr} {key : ByteArray} (hk : wE { x with key := key } = 0) (hne : key ≠ x.key) : accE ⟨0, [⟨x.rep, x.time⟩], [x]⟩ [] [⟨x.rep, x.time⟩] [{ x with key := key }] = (9, 0) := by
  obtain ⟨hb, hv⟩ := two_right hk
  have h0 : rightV ([] : List Ent) := ⟨by simp, trivial⟩
  have hj : joinR [(⟨x.rep, x.time⟩ : Ent)] [(⟨x.rep, x.time⟩ : Ent)] = (0, [⟨x.rep, x.time⟩]) := by
    have h3 : joinL [(⟨x.rep, x.time⟩ : Ent)] [(⟨x.rep, x.time⟩ : Ent)] = [⟨x.rep, x.time⟩] := join_self hv.2
    have hv' : rightV [(⟨x.rep, x.time⟩ : Ent)] := hv
    rw [joinR_ok ((vright_ok _).2 hv') ((vright_ok _).2 hv') (by rw [h3]; simp), h3]
  have hv' : rightV [(⟨x.rep, x.time⟩ : Ent)] := hv
  have hc : covB [(⟨x.rep, x.time⟩ : Ent)] [] = true := (covB_iff hv' h0).2 (fun r => by have := ofF_bd hv'.2 r; show (0 : Int) ≤ _; omega)
  rw [accE_t hb hc (by show (joinR [(⟨x.rep, x.time⟩ : Ent)] _).1 = 0; rw [hj])]
  exact togE_twice (k := 0) (x := { x with key := key }) (fun y hy => by simp at hy) rfl ⟨x, by simp, rfl, fun e => hne (by rw [e])⟩
theorem wE_key {T R K N : Int} {k1 k2 val : ByteArray} (h : wriE T R K k1 val N = 0) (hk : k2.size ≤ 40) : wriE T R K k2 val N = 0 := by
  obtain ⟨h1, h2, h3, h4, h5, h6⟩ := wriE_good h
  rw [wriE_fits h1 h2 (by omega) h5, if_neg (by rw [h6]; simp)]

theorem isWrs_key {w : World} {b g cap : Nat} {T R K N : Int} {key val s : ByteArray} (h : ownsW w b (.slice (some ⟨g, 0, none⟩) 1 cap) [⟨T, R, K, key, val, N⟩]) :
    IsWrs (w.setCell ⟨g, 3, none⟩ (.string s)) (.slice (some ⟨g, 0, none⟩) 1 cap) [⟨T, R, K, s, val, N⟩] ∧ w.cell? ⟨g, 3, none⟩ = some (.string key) ∧ w.frozen? ⟨g, 3, none⟩ = false := by
  obtain ⟨g', cap', e, hb, hg, hc, hm, hr, _⟩ := h.rowAt (by simp)
  obtain ⟨e1, _, e3⟩ := Value.slice.inj e
  simp only [Option.some.injEq, Addr.mk.injEq, and_true] at e1
  subst e1 e3
  have hcell : ∀ j u, (wrC ⟨T, R, K, key, val, N⟩)[j]? = some u → w.cell? ⟨g, j, none⟩ = some u := fun j u hj => by
    have := hr.1 j u (by rw [wrsC_one]; exact hj)
    rwa [Nat.zero_add] at this
  have h3 := hcell 3 _ rfl
  refine ⟨.inr ⟨g, 0, cap, rfl, ⟨by simp, hc⟩, by simpa using hg, fun j u hj => ?_⟩, h3, by have := (hr.2 3 (by have : 1 ≤ cap := hc; omega)).2; rwa [Nat.zero_add] at this⟩
  rw [wrsC_one] at hj
  rw [Nat.zero_add]
  by_cases e : j = 3
  · subst e
    obtain rfl : Value.string s = u := Option.some.inj hj
    exact World.cell?_setCell_same _ _ _ h3
  · rw [World.cell?_setCell_other _ _ _ _ (by intro e2; exact e (congrArg Addr.off e2).symm)]
    refine hcell j u ?_
    match j, e, hj with
    | 0, _, hj => exact hj
    | 1, _, hj => exact hj
    | 2, _, hj => exact hj
    | 4, _, hj => exact hj
    | 5, _, hj => exact hj
    | j + 6, _, hj => simp [wrC] at hj

set_option maxRecDepth 100000 in
set_option maxHeartbeats 8000000 in
theorem logTwo_walk (W : World) (x : Wr) (ho : WrOk x) (s : ByteArray) (hs : s.size ≤ 140737488351232) (hg : errT W) :
    Calls Tryz.prog 3 #[wrV x, .string s] W fun e w' => e = .returned (.bool true) ∧ Below W.heap.size W w' := by
  obtain ⟨T, R, K, key, val, N⟩ := x
  obtain ⟨_, _, hk, hv⟩ := ho
  simp only at hk hv
  show Calls Tryz.prog 3 #[.agg #[.int .i64 T, .int .i64 R, .int .i64 K, .string key, .string val, .int .i64 N], .string s] W _
  have HG := Lib.hid hg
  obtain ⟨B, hB⟩ : ∃ B, B = W.alloc (.cells #[.int .i64 T, .int .i64 R, .int .i64 K, .string key, .string val, .int .i64 N] 25) := ⟨_, rfl⟩
  have HWB : Hid (Below W.heap.size W B) := Lib.hid (by rw [hB]; exact (Below.refl _ _).alloc (Nat.le_refl _) _)
  have HRB : Hid (B.heap[W.heap.size]? = some (.cells #[.int .i64 T, .int .i64 R, .int .i64 K, .string key, .string val, .int .i64 N] 25 (0, 0))) := Lib.hid (by rw [hB]; exact heap_alloc_new _ _)
  have HGB : Hid (errT B) := Lib.hid (by rw [hB]; exact hg.alloc _)
  have HBB := Lib.hid hB
  obtain ⟨e, he⟩ : ∃ e, e = wriE T R K key val N := ⟨_, rfl⟩
  have HE := Lib.hid he.symm
  have HUP : Hid (∀ w', Below B.heap.size B w' → (w'.cell? ⟨W.heap.size, 0, none⟩ = some (.int .i64 T) ∧ w'.cell? ⟨W.heap.size, 1, none⟩ = some (.int .i64 R) ∧ w'.cell? ⟨W.heap.size, 2, none⟩ = some (.int .i64 K) ∧ w'.cell? ⟨W.heap.size, 3, none⟩ = some (.string key) ∧ w'.cell? ⟨W.heap.size, 4, none⟩ = some (.string val) ∧ w'.cell? ⟨W.heap.size, 5, none⟩ = some (.int .i64 N))) := Lib.hid (fun w' hb => by
    have h := (hb.block _ (Array.getElem?_eq_some_iff.1 HRB.out).1).trans HRB.out
    exact ⟨cell_of_row _ _ 0 _ _ _ h, cell_of_row _ _ 1 _ _ _ h, cell_of_row _ _ 2 _ _ _ h, cell_of_row _ _ 3 _ _ _ h, cell_of_row _ _ 4 _ _ _ h, cell_of_row _ _ 5 _ _ _ h⟩)
  clear hg hB he
  by_cases h0 : e = 0
  · subst h0
    by_cases h40 : s.size ≤ 40
    · have b40 : decide ((40 : Int) < (s.size : Int)) = false := by simp; omega
      by_cases hne : s = key
      · subst hne
        have hq : (s.toList == s.toList) = true := beq_self_eq_true _
        go_enter Tryz.func3, Tryz.ntmps3
        go_wp2_with fail
        rw [← HBB.out]
        go_wp2_with (first
          | (go_at_call 8; refine (logged_any B HGB.out).mono ?_; rintro r w1 ⟨rfl, hb1⟩; have HB1 := Lib.hid hb1; obtain ⟨c0, c1, c2, c3, c4, c5⟩ := HUP.out w1 hb1; clear hb1)
          | (go_at_call 9; refine (wright_any T R K s val N w1 hk hv).mono ?_; rintro r w2 ⟨rfl, hb2⟩; rw [HE.out, errV_ok]; have HB2 : Hid (Below B.heap.size B w2) := Lib.hid (HB1.out.trans (hb2.mono HB1.out.size)); obtain ⟨d0, d1, d2, d3, d4, d5⟩ := HUP.out w2 HB2.out; clear hb2 c0 c1 c2 c3 c4 c5)
          | fail)
        go_ret
        exact ⟨rfl, HWB.out.trans (HB2.out.mono HWB.out.size)⟩
      · have hq : (s.toList == key.toList) = false := by
          rw [ByteArray.toList_eq, ByteArray.toList_eq, beq_eq_false_iff_ne]
          intro e9
          exact hne (by cases s; cases key; simp_all)
        have HNE := Lib.hid hne
        have H40 := Lib.hid h40
        clear hne h40
        go_enter Tryz.func3, Tryz.ntmps3
        go_wp2_with fail
        rw [← HBB.out]
        go_wp2_with (first
          | (go_at_call 8; refine (logged_any B HGB.out).mono ?_; rintro r w1 ⟨rfl, hb1⟩; have HB1 := Lib.hid hb1; obtain ⟨c0, c1, c2, c3, c4, c5⟩ := HUP.out w1 hb1; clear hb1)
          | (go_at_call 9; refine (wright_any T R K key val N w1 hk hv).mono ?_; rintro r w2 ⟨rfl, hb2⟩; rw [HE.out, errV_ok]; have HB2 : Hid (Below B.heap.size B w2) := Lib.hid (HB1.out.trans (hb2.mono HB1.out.size)); obtain ⟨d0, d1, d2, d3, d4, d5⟩ := HUP.out w2 HB2.out; clear hb2 c0 c1 c2 c3 c4 c5)
          | (go_at_call 10; (with_reducible refine (Gnew (Logs.nil w2) 0 (by omega)).mono ?_); rintro r w3 ⟨rfl, h3, hb3⟩; have HL3 : Hid (Logs w2 w3 (fun _ => False) [(w2.heap.size, ⟨0, [], []⟩)]) := Lib.hid h3; have HB3 : Hid (Below B.heap.size B w3) := Lib.hid (HB2.out.trans (hb3.mono HB2.out.size)); clear d0 d1 d2 d3 d4 d5; obtain ⟨d0, d1, d2, d3, d4, d5⟩ := HUP.out w3 HB3.out; have hlt3 : W.heap.size < w3.heap.size := Nat.lt_of_lt_of_le (Array.getElem?_eq_some_iff.1 HRB.out).1 HB3.out.size; have n1 : ¬ w3.heap.size = W.heap.size := (by omega); have n2 : ¬ W.heap.size = w3.heap.size := (by omega); have n3 : ¬ w3.heap.size + 1 = W.heap.size := (by omega); have n4 : ¬ W.heap.size = w3.heap.size + 1 := (by omega); clear h3 hb3)
          | fail)
        obtain ⟨wA, hA⟩ : ∃ wA, wA = (((w3.alloc (.cells #[.int .i64 R, .int .i64 T] 34)).alloc (.cells #[.int .i64 T, .int .i64 R, .int .i64 K, .string key, .string val, .int .i64 N] 25)).alloc (.cells #[.slice none 0 0, .slice (some ⟨w3.heap.size, 0, none⟩) 1 1, .slice (some ⟨w3.heap.size + 1, 0, none⟩) 1 1] 38)).alloc (.cells #[.slice none 0 0, .slice (some ⟨w3.heap.size, 0, none⟩) 1 1, .slice (some ⟨w3.heap.size + 1, 0, none⟩) 1 1] 38) := ⟨_, rfl⟩
        have HBA : Hid (Below w3.heap.size w3 wA) := Lib.hid (by rw [hA]; exact ((((Below.refl _ _).alloc (Nat.le_refl _) _).alloc (by simp only [World.size_alloc]; omega) _).alloc (by simp only [World.size_alloc]; omega) _).alloc (by simp only [World.size_alloc]; omega) _)
        have HSA : Hid (wA.heap.size = w3.heap.size + 1 + 1 + 1 + 1) := Lib.hid (by rw [hA]; simp)
        have HR0 : Hid (entBlk wA w3.heap.size ⟨R, T⟩) := Lib.hid (by unfold entBlk; rw [hA, Below.heap_alloc _ _ _ (by simp only [World.size_alloc]; omega), Below.heap_alloc _ _ _ (by simp only [World.size_alloc]; omega), Below.heap_alloc _ _ _ (by simp only [World.size_alloc]; omega)]; exact heap_alloc_new _ _)
        have HR1 : Hid (wrBlk wA (w3.heap.size + 1) ⟨T, R, K, key, val, N⟩) := Lib.hid (by
          unfold wrBlk; rw [hA, Below.heap_alloc _ _ _ (by simp only [World.size_alloc]; omega), Below.heap_alloc _ _ _ (by simp only [World.size_alloc]; omega)]
          have := heap_alloc_new (w3.alloc (.cells #[.int .i64 R, .int .i64 T] 34)) (.cells #[.int .i64 T, .int .i64 R, .int .i64 K, .string key, .string val, .int .i64 N] 25)
          rw [World.size_alloc] at this; exact this)
        have HR2 : Hid (wA.heap[w3.heap.size + 1 + 1]? = some (.cells #[.slice none 0 0, .slice (some ⟨w3.heap.size, 0, none⟩) 1 1, .slice (some ⟨w3.heap.size + 1, 0, none⟩) 1 1] 38 (0, 0))) := Lib.hid (by
          rw [hA, Below.heap_alloc _ _ _ (by simp only [World.size_alloc]; omega)]
          have := heap_alloc_new ((w3.alloc (.cells #[.int .i64 R, .int .i64 T] 34)).alloc (.cells #[.int .i64 T, .int .i64 R, .int .i64 K, .string key, .string val, .int .i64 N] 25)) (.cells #[.slice none 0 0, .slice (some ⟨w3.heap.size, 0, none⟩) 1 1, .slice (some ⟨w3.heap.size + 1, 0, none⟩) 1 1] 38)
          rw [World.size_alloc, World.size_alloc] at this; exact this)
        have HR3 : Hid (wA.heap[w3.heap.size + 1 + 1 + 1]? = some (.cells #[.slice none 0 0, .slice (some ⟨w3.heap.size, 0, none⟩) 1 1, .slice (some ⟨w3.heap.size + 1, 0, none⟩) 1 1] 38 (0, 0))) := Lib.hid (by
          have := heap_alloc_new (((w3.alloc (.cells #[.int .i64 R, .int .i64 T] 34)).alloc (.cells #[.int .i64 T, .int .i64 R, .int .i64 K, .string key, .string val, .int .i64 N] 25)).alloc (.cells #[.slice none 0 0, .slice (some ⟨w3.heap.size, 0, none⟩) 1 1, .slice (some ⟨w3.heap.size + 1, 0, none⟩) 1 1] 38)) (.cells #[.slice none 0 0, .slice (some ⟨w3.heap.size, 0, none⟩) 1 1, .slice (some ⟨w3.heap.size + 1, 0, none⟩) 1 1] 38)
          rw [World.size_alloc, World.size_alloc, World.size_alloc] at this; rw [hA]; exact this)
        rw [← hA]
        clear hA d0 d1 d2 d3 d4 d5 n1 n2 n3 n4 hlt3
        refine (clone_wrs _ [⟨T, R, K, key, val, N⟩] wA (wrBlk_is HR1.out) (by simp) (by simp)).mono ?_
        rintro r w4 ⟨v4, rfl, ho4, hb4⟩
        obtain ⟨g, cap, rfl, hg4, hgs, _, _, _, _⟩ := ho4.rowAt (by simp)
        have ho4' : ownsW w4 wA.heap.size (.slice (some ⟨g, 0, none⟩) 1 cap) [⟨T, R, K, key, val, N⟩] := ho4
        show _
        have HO4 := Lib.hid ho4'
        have HB4 := Lib.hid hb4
        have hgQ : w3.heap.size + 1 + 1 + 1 + 1 ≤ g := by rw [← HSA.out]; exact hg4
        have m1 : ¬ g = w3.heap.size + 1 + 1 + 1 := by omega
        have m2 : ¬ w3.heap.size + 1 + 1 + 1 = g := by omega
        have m3 : ¬ g = w3.heap.size + 1 + 1 := by omega
        have m4 : ¬ w3.heap.size + 1 + 1 = g := by omega
        have m5 : ¬ w3.heap.size + 1 + 1 + 1 = w3.heap.size + 1 + 1 := by omega
        have m6 : ¬ w3.heap.size + 1 + 1 = w3.heap.size + 1 + 1 + 1 := by omega
        have hr2 : w4.heap[w3.heap.size + 1 + 1]? = _ := (hb4.block _ (by rw [HSA.out]; omega)).trans HR2.out
        have hr3 : w4.heap[w3.heap.size + 1 + 1 + 1]? = _ := (hb4.block _ (by rw [HSA.out]; omega)).trans HR3.out
        have x0 := cell_of_row _ _ 0 _ _ _ hr2
        have x1 := cell_of_row _ _ 1 _ _ _ hr2
        have x2 := cell_of_row _ _ 2 _ _ _ hr2
        have y2 := cell_of_row _ _ 2 _ _ _ hr3
        have fy := Lib.frozen_of_heap hr3 2
        obtain ⟨_, z3, fz⟩ := isWrs_key (s := s) HO4.out
        simp only [List.getElem?_toArray, List.getElem?_cons_zero, List.getElem?_cons_succ] at x0 x1 x2 y2
        clear ho4 ho4' hb4 hg4 hgs hr2 hr3
        go_wp2_with fail
        obtain ⟨w5, h5⟩ : ∃ w5, w5 = (w4.setCell ⟨w3.heap.size + 1 + 1 + 1, 2, none⟩ (.slice (some ⟨g, 0, none⟩) 1 cap)).setCell ⟨g, 3, none⟩ (.string s) := ⟨_, rfl⟩
        have HB45 : Hid (But (fun k => k = w3.heap.size + 1 + 1 + 1 ∨ k = g) w4 w5) := Lib.hid (by rw [h5]; exact ((But.refl (fun k => k = w3.heap.size + 1 + 1 + 1 ∨ k = g) w4).setCell (.inl (.inl rfl)) _).setCell (.inl (.inr rfl)) _)
        have HB5 : Hid (Below w3.heap.size w3 w5) := Lib.hid ((HBA.out.trans (HB4.out.mono HBA.out.size)).trans (HB45.out.below (Nat.le_trans HBA.out.size HB4.out.size) (fun k hk => by rcases hk with rfl | rfl <;> omega)))
        have HC5 : Hid (IsWrs w5 (.slice (some ⟨g, 0, none⟩) 1 cap) [⟨T, R, K, s, val, N⟩]) := Lib.hid (by
          have h1 : ownsW (w4.setCell ⟨w3.heap.size + 1 + 1 + 1, 2, none⟩ (.slice (some ⟨g, 0, none⟩) 1 cap)) wA.heap.size (.slice (some ⟨g, 0, none⟩) 1 cap) [⟨T, R, K, key, val, N⟩] := ownsRow_but HO4.out ((But.refl (fun k => k = w3.heap.size + 1 + 1 + 1) w4).setCell (.inl (show w3.heap.size + 1 + 1 + 1 = w3.heap.size + 1 + 1 + 1 from rfl)) _) (fun k e e2 => by
            have e3 : g = k := Option.some.inj e
            omega)
          rw [h5]; exact (isWrs_key h1).1)
        have HK5 : Hid (∀ k, k < wA.heap.size → k ≠ w3.heap.size + 1 + 1 + 1 → w5.heap[k]? = wA.heap[k]?) := Lib.hid (fun k hk hne => (HB45.out.block k (Nat.lt_of_lt_of_le hk HB4.out.size) (fun e => by have := HSA.out; rcases e with rfl | rfl <;> omega)).trans (HB4.out.block k hk))
        have HR50 : Hid (entBlk w5 w3.heap.size ⟨R, T⟩) := Lib.hid ((HK5.out _ (by rw [HSA.out]; omega) (by omega)).trans HR0.out)
        have HR51 : Hid (wrBlk w5 (w3.heap.size + 1) ⟨T, R, K, key, val, N⟩) := Lib.hid ((HK5.out _ (by rw [HSA.out]; omega) (by omega)).trans HR1.out)
        have HR52 : Hid (w5.heap[w3.heap.size + 1 + 1]? = some (.cells #[.slice none 0 0, .slice (some ⟨w3.heap.size, 0, none⟩) 1 1, .slice (some ⟨w3.heap.size + 1, 0, none⟩) 1 1] 38 (0, 0))) := Lib.hid ((HK5.out _ (by rw [HSA.out]; omega) (by omega)).trans HR2.out)
        have HR53 : Hid (w5.heap[w3.heap.size + 1 + 1 + 1]? = some (.cells #[.slice none 0 0, .slice (some ⟨w3.heap.size, 0, none⟩) 1 1, .slice (some ⟨g, 0, none⟩) 1 cap] 38 (0, 0))) := Lib.hid (by
          rw [h5]
          refine (heap_setCell_other _ _ _ _ (by show w3.heap.size + 1 + 1 + 1 ≠ g; omega)).trans ?_
          exact heap_setCell_same _ _ 2 _ _ _ ((HB4.out.block _ (by rw [HSA.out]; omega)).trans HR3.out))
        rw [← h5]
        clear h5 x0 x1 x2 y2 fy z3 fz
        have HL5 : Hid (Logs w2 w5 (fun k => w3.heap.size ≤ k ∧ k < w5.heap.size) [(w2.heap.size, ⟨0, [], []⟩)]) := Lib.hid (HL3.out.call HB5.out (fun k hk => .inr hk))
        have hwE : wE ⟨T, R, K, key, val, N⟩ = 0 := HE.out
        have hwE2 : wE ⟨T, R, K, s, val, N⟩ = 0 := wE_key HE.out H40.out
        have h2f := two_first hwE
        have h2s := two_second (x := ⟨T, R, K, key, val, N⟩) (key := s) hwE2 HNE.out
        dsimp only at h2f h2s
        have H2F := Lib.hid h2f
        have H2S := Lib.hid h2s
        have HBX : Hid (∀ w', (∀ k, (w3.heap.size ≤ k ∧ k < w5.heap.size) → w'.heap[k]? = w5.heap[k]?) → w5.heap.size ≤ w'.heap.size → BatIs w' (.slice none 0 0) (.slice (some ⟨w3.heap.size, 0, none⟩) 1 1) (.slice (some ⟨w3.heap.size + 1, 0, none⟩) 1 1) [] [⟨R, T⟩] [⟨T, R, K, key, val, N⟩] ∧ BatIs w' (.slice none 0 0) (.slice (some ⟨w3.heap.size, 0, none⟩) 1 1) (.slice (some ⟨g, 0, none⟩) 1 cap) [] [⟨R, T⟩] [⟨T, R, K, s, val, N⟩]) := Lib.hid (fun w' hd hs5 => by
          have q0 := (Array.getElem?_eq_some_iff.1 HR50.out).1
          have q1 := (Array.getElem?_eq_some_iff.1 HR51.out).1
          have a0 : entBlk w' w3.heap.size ⟨R, T⟩ := (hd _ ⟨Nat.le_refl _, q0⟩).trans HR50.out
          have a1 : wrBlk w' (w3.heap.size + 1) ⟨T, R, K, key, val, N⟩ := (hd _ ⟨by omega, q1⟩).trans HR51.out
          have a2 : IsWrs w' (.slice (some ⟨g, 0, none⟩) 1 cap) [⟨T, R, K, s, val, N⟩] := HC5.out.at hs5 (fun k e => by
            have e3 : g = k := Option.some.inj e
            subst e3
            refine hd _ ⟨by omega, ?_⟩
            rcases HC5.out with ⟨_, _, _, e4⟩ | ⟨b, off, c, e4, _, hlt, _⟩
            · cases e4
            · obtain ⟨e5, _, _⟩ := Value.slice.inj e4
              simp only [Option.some.injEq, Addr.mk.injEq, and_true] at e5
              obtain ⟨rfl, _⟩ := e5
              exact hlt)
          exact ⟨⟨IsEnts.nil _, entBlk_is a0, wrBlk_is a1, by simp, by simp, by simp, fun y hy => by rw [List.mem_singleton.1 hy]; exact wrOk_of hwE⟩, ⟨IsEnts.nil _, entBlk_is a0, a2, by simp, by simp, by simp, fun y hy => by rw [List.mem_singleton.1 hy]; exact wrOk_of hwE2⟩⟩)
        have HG5 : Hid (∀ w', Below w2.heap.size w2 w' → errT w') := Lib.hid (fun w' hb => HGB.out.below (HB2.out.trans (hb.mono HB2.out.size)))
        clear h2f h2s hwE hwE2 HC5 HK5 HB45 HR0 HR1 HR2 HR3 m1 m2 m3 m4 m5 m6
        refine (GacceptT (i := 0) HL5.out rfl _ _ _ [] [⟨R, T⟩] [⟨T, R, K, key, val, N⟩] (HBX.out w5 (fun _ _ => rfl) (Nat.le_refl _)).1 (HG5.out _ HL5.out.bel) (by rw [H2F.out.1]) 1 _ H2F.out.2.2 H2F.out.2.1).mono ?_
        rintro r w6 ⟨rfl, h6, hd6, hs6⟩
        have HL6 : Hid (Logs w2 w6 (fun k => w3.heap.size ≤ k ∧ k < w5.heap.size) [(w2.heap.size, ⟨0, [⟨R, T⟩], [⟨T, R, K, key, val, N⟩]⟩)]) := Lib.hid h6
        have HB6 := Lib.hid (HBX.out w6 hd6 hs6)
        have hr3 := (hd6 _ ⟨by omega, (Array.getElem?_eq_some_iff.1 HR53.out).1⟩).trans HR53.out
        have HR62 := Lib.hid ((hd6 _ ⟨by omega, (Array.getElem?_eq_some_iff.1 HR52.out).1⟩).trans HR52.out)
        have y0 := cell_of_row _ _ 0 _ _ _ hr3
        have y1 := cell_of_row _ _ 1 _ _ _ hr3
        have y2 := cell_of_row _ _ 2 _ _ _ hr3
        simp only [List.getElem?_toArray, List.getElem?_cons_zero, List.getElem?_cons_succ] at y0 y1 y2
        clear h6 hd6 hs6 hr3
        go_wp2_with fail
        refine (GacceptE (i := 0) HL6.out rfl _ _ _ [] [⟨R, T⟩] [⟨T, R, K, s, val, N⟩] HB6.out.2 (HG5.out _ HL6.out.bel) H2S.out (by omega)).mono ?_
        rintro r w7 ⟨t7, u7, rfl, ha7, h7, hb7⟩
        have HL7 := Lib.hid h7
        have HA7 := Lib.hid ha7
        have HR72 : Hid (w7.heap[w3.heap.size + 1 + 1]? = _) := Lib.hid ((hb7.block _ (Array.getElem?_eq_some_iff.1 HR62.out).1).trans HR62.out)
        have HW7 : Hid (IsWrs w7 (.slice (some ⟨w3.heap.size + 1, 0, none⟩) 1 1) [⟨T, R, K, key, val, N⟩]) := Lib.hid (HB6.out.1.2.2.1.below hb7)
        clear h7 ha7 hb7 y0 y1 y2
        go_wp2
        have k0 : w7.drew.cell? ⟨w3.heap.size + 1 + 1, 2, none⟩ = some (.slice (some ⟨w3.heap.size + 1, 0, none⟩) 1 1) := cell_of_row _ _ 2 _ _ _ HR72.out
        have HL7D : Hid (Logs w2 w7.drew (fun k => w3.heap.size ≤ k ∧ k < w5.heap.size) [(w2.heap.size, ⟨0, [⟨R, T⟩], [⟨T, R, K, key, val, N⟩]⟩)]) := Lib.hid (HL7.out.keep (Below.refl _ _).drew)
        have HI7 : Hid (isErr w7.drew (.iface t7 u7) (9 : Nat)) := Lib.hid ((HA7.out.isErr (by simp)).below (Below.refl _ _).drew)
        have HG7 : Hid (errT w7.drew) := Lib.hid (HG5.out _ HL7D.out.bel)
        go_region_held3 (fun w' => w'.cell? ⟨w3.heap.size + 1 + 1, 2, none⟩ = some (.slice (some ⟨w3.heap.size + 1, 0, none⟩) 1 1)) (first | exact k0 | exact k1 | exact k2 | exact k3 | fail) (first
          | (go_at_call 13; ((with_reducible refine (tell_err (.iface t7 u7) (9 : Nat) w7.drew HG7.out HI7.out).mono ?_); rintro r w8 ⟨rfl, hb8⟩; have HL8 := Lib.hid (HL7D.out.keep hb8); have HW8 := Lib.hid (IsWrs.below (HW7.out.drewN 1) hb8); have k1 : w8.cell? ⟨w3.heap.size + 1 + 1, 2, none⟩ = some (.slice (some ⟨w3.heap.size + 1, 0, none⟩) 1 1) := (hb8.cell (lt_of_cell k0)).trans k0; clear hb8))
          | (go_at_call 15; ((with_reducible refine (Gwrites (i := 0) HL8.out rfl).mono ?_); rintro r w9 ⟨a9, c9, rfl, ho9, hb9⟩; have HL9 := Lib.hid (HL8.out.keep hb9); have HO9 : Hid (ownsW w9 w8.heap.size (.slice a9 1 c9) [⟨T, R, K, key, val, N⟩]) := Lib.hid ho9; have HW9 := Lib.hid (HW8.out.below hb9); have k2 : w9.cell? ⟨w3.heap.size + 1 + 1, 2, none⟩ = some (.slice (some ⟨w3.heap.size + 1, 0, none⟩) 1 1) := (hb9.cell (lt_of_cell k1)).trans k1; clear hb9 ho9))
          | (go_at_call 14; ((with_reducible refine (equalw_as _ _ [⟨T, R, K, key, val, N⟩] [⟨T, R, K, key, val, N⟩] true w9 HO9.out.is HW9.out (by simp) (by simp) (by simp)).mono ?_); rintro r w10 ⟨rfl, q10, hq10⟩; have HL10 : Hid (Logs w2 w10 (fun k => w3.heap.size ≤ k ∧ k < w5.heap.size) [(w2.heap.size, ⟨0, [⟨R, T⟩], [⟨T, R, K, key, val, N⟩]⟩)]) := Lib.hid (HL9.out.keep (by rw [hq10]; exact below_drewq (Below.refl _ _) q10)); have k3 : w10.cell? ⟨w3.heap.size + 1 + 1, 2, none⟩ = some (.slice (some ⟨w3.heap.size + 1, 0, none⟩) 1 1) := (by rw [hq10]; exact k2); clear hq10))
          | fail)
        go_wp2
        go_ret
        exact ⟨rfl, HWB.out.trans ((HB2.out.trans (HL10.out.bel.mono HB2.out.size)).mono HWB.out.size)⟩
    · have b40 : decide ((40 : Int) < (s.size : Int)) = true := by simp; omega
      go_enter Tryz.func3, Tryz.ntmps3
      go_wp2_with fail
      rw [← HBB.out]
      go_wp2_with (first
        | (go_at_call 8; refine (logged_any B HGB.out).mono ?_; rintro r w1 ⟨rfl, hb1⟩; have HB1 := Lib.hid hb1; obtain ⟨c0, c1, c2, c3, c4, c5⟩ := HUP.out w1 hb1; clear hb1)
        | (go_at_call 9; refine (wright_any T R K key val N w1 hk hv).mono ?_; rintro r w2 ⟨rfl, hb2⟩; rw [HE.out, errV_ok]; have HB2 : Hid (Below B.heap.size B w2) := Lib.hid (HB1.out.trans (hb2.mono HB1.out.size)); obtain ⟨d0, d1, d2, d3, d4, d5⟩ := HUP.out w2 HB2.out; clear hb2 c0 c1 c2 c3 c4 c5)
        | fail)
      go_ret
      exact ⟨rfl, HWB.out.trans (HB2.out.mono HWB.out.size)⟩
  · have HQ := Lib.hid (errV_no h0)
    clear h0
    go_enter Tryz.func3, Tryz.ntmps3
    go_wp2_with fail
    rw [← HBB.out]
    go_wp2_with (first
      | (go_at_call 8; refine (logged_any B HGB.out).mono ?_; rintro r w1 ⟨rfl, hb1⟩; have HB1 := Lib.hid hb1; obtain ⟨c0, c1, c2, c3, c4, c5⟩ := HUP.out w1 hb1; clear hb1)
      | (go_at_call 9; refine (wright_any T R K key val N w1 hk hv).mono ?_; rintro r w2 ⟨rfl, hb2⟩; rw [HE.out, HQ.out]; have HB2 : Hid (Below B.heap.size B w2) := Lib.hid (HB1.out.trans (hb2.mono HB1.out.size)); obtain ⟨d0, d1, d2, d3, d4, d5⟩ := HUP.out w2 HB2.out; clear hb2 c0 c1 c2 c3 c4 c5)
      | fail)
    go_ret
    exact ⟨rfl, HWB.out.trans (HB2.out.mono HWB.out.size)⟩
end Go.Proofs.YtifbebhgeheooaaGreatDoor
