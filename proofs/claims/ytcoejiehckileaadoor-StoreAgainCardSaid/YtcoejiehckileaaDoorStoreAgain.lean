/-
  The walk of 'packtrainkeep.StoreAgain'.
-/
import Derived.Test.YtcoejiehckileaaDoorStoLaw
import Derived.Test.YtcoejiehckileaaDoorWrIns
import Derived.Test.YtcoejiehckileaaDoorPick
import Derived.Deep.RegionHeld3
namespace Go.Proofs.YtcoejiehckileaaDoor
open Go.RowKit

theorem split_again {l : List Wr} {i : Nat} {x : Wr} (h : l[i]? = some x) : l = l.take i ++ x :: l.drop (i + 1) ∧ l.take i ++ x :: l.drop i = l.take i ++ x :: x :: l.drop (i + 1) := by
  obtain ⟨hi, hx⟩ := List.getElem?_eq_some_iff.1 h
  have hd : l.drop i = x :: l.drop (i + 1) := by rw [List.drop_eq_getElem_cons hi, hx]
  constructor
  · rw [← hd, List.take_append_drop]
  · rw [hd]
theorem again_cells {l : List Wr} {i : Nat} {x : Wr} (h : l[i]? = some x) (hk : x.kind = 1 ∨ x.kind = 2) : cellsF (l.take i ++ x :: l.drop i) = cellsF l := by
  obtain ⟨h1, h2⟩ := split_again h
  rw [h2, cells_again _ _ _ hk, ← h1]

set_option maxRecDepth 100000 in
set_option maxHeartbeats 8000000 in
theorem storeAgain_walk (W : World) (v : Value) (l : List Wr) (hi : IsWrs W v l) (hl : l.length ≤ 9223372036854775807) (hok : ∀ t ∈ l, WrOk t) (at' : Int) (_ : -9223372036854775808 ≤ at') (_ : at' ≤ 9223372036854775807) {Q : Prop} (_ : Q) :
    Calls Tryd.prog 10 #[v, .int .i64 at'] W fun e w' => e = .returned (.bool true) ∧ Below W.heap.size W w' := by
  have HI := Lib.hid hi
  have HOK := Lib.hid hok
  clear hi hok
  go_enter Tryd.func10, Tryd.ntmps10
  go_wp2_with (go_at_call 11; refine (stored_any _).mono ?_; rintro r w1 ⟨rfl, hb1⟩; have HB1 := Lib.hid hb1; clear hb1)
  refine (right_any v l _ (HI.out.below HB1.out) hl HOK.out).mono ?_
  rintro r w2 ⟨u, rfl, ho2, hb2⟩
  have hrt : ∀ x ∈ rightL l, wrF x = 0 := fun x hx => (rightL_ok hx).1
  have hln := rightL_len l
  generalize rightL l = L at ho2 hrt hln
  obtain ⟨au, cu, rfl, hf⟩ := ho2.is.form
  have HB2 : Hid (Below W.heap.size W w2) := Lib.hid (HB1.out.trans (hb2.mono HB1.out.size))
  have HO2 := Lib.hid (ho2.mono HB1.out.size)
  have HRT := Lib.hid hrt
  have HF := Lib.hid hf
  obtain ⟨m, hm⟩ : ∃ m, m = L.length := ⟨_, rfl⟩
  rw [← hm] at hln HO2 ⊢
  have HM := Lib.hid hm
  clear ho2 hb2 hrt hf hm HB1
  by_cases h0 : m = 0
  · subst h0
    go_wp2
    go_ret
    exact ⟨rfl, HB2.out⟩
  · have b0 : ((m : Int) == 0) = false := by simpa using h0
    obtain ⟨i, hi⟩ : ∃ i : Nat, pickN at' m = (i : Int) := ⟨(pickN at' m).toNat, by have := pickN_pos (a := at') (n := m) (by omega); omega⟩
    have him : i < m := by have := pickN_pos (a := at') (n := m) (by omega); omega
    have HIP := Lib.hid hi
    clear hi
    obtain ⟨x, hx⟩ : ∃ x, L[i]? = some x := ⟨L[i]'(by rw [← HM.out]; exact him), List.getElem?_eq_getElem _⟩
    obtain ⟨b, off, rfl, hbl, c0, c1, c2, c3, c4, c5⟩ := HF.out i x hx
    have HX := Lib.hid hx
    have hx0 : Hid (wrF x = 0) := Lib.hid (HRT.out x (List.mem_of_getElem? hx))
    obtain ⟨T, Re, K, key, val, N⟩ := x
    simp only at c0 c1 c2 c3 c4 c5
    have HBL := Lib.hid hbl
    have hii : decide ((i : Int) < (m : Int)) = true := by simpa using him
    clear hx hbl
    by_cases hk : K = 1 ∨ K = 2
    · have hpq : ((K != 1) = false) ∨ ((K != 1) = true ∧ (K != 2) = false) := by rcases hk with rfl | rfl; exact .inl rfl; exact .inr ⟨rfl, rfl⟩
      have HK := Lib.hid hk
      have HIL : Hid (IsWrs w2 (.slice (some ⟨b, off, none⟩) m cu) L) := Lib.hid HO2.out.is
      clear hk
      rcases hpq with hp | ⟨hp, hq⟩
      ·
        go_wp2_with (first
          | (go_at_call 33; refine (pick_any at' m _ (by omega) (by omega)).mono ?_; rintro r w3 ⟨rfl, rfl⟩; rw [HIP.out])
          | (go_at_call 13; refine (of_good _ L _ HIL.out HRT.out (by have := HM.out; omega)).mono ?_; rintro r w3 ⟨ua, rfl, hu3, hb3⟩; have HU3 := Lib.hid hu3; have HB3 := Lib.hid hb3; clear hu3 hb3))
        have HBD : Hid (Below w2.heap.size w2 w3.drew) := Lib.hid HB3.out.drew
        have up : ∀ W' : World, Below w2.heap.size w2 W' → W'.cell? ⟨b, off + i * 6, none⟩ = some (.int .i64 T) ∧ W'.cell? ⟨b, off + i * 6 + 1, none⟩ = some (.int .i64 Re) ∧ W'.cell? ⟨b, off + i * 6 + 2, none⟩ = some (.int .i64 K) ∧ W'.cell? ⟨b, off + i * 6 + 3, none⟩ = some (.string key) ∧ W'.cell? ⟨b, off + i * 6 + 4, none⟩ = some (.string val) ∧ W'.cell? ⟨b, off + i * 6 + 5, none⟩ = some (.int .i64 N) := fun W' hb =>
          ⟨(hb.cell (p := ⟨b, _, none⟩) HBL.out).trans c0, (hb.cell (p := ⟨b, _, none⟩) HBL.out).trans c1, (hb.cell (p := ⟨b, _, none⟩) HBL.out).trans c2, (hb.cell (p := ⟨b, _, none⟩) HBL.out).trans c3, (hb.cell (p := ⟨b, _, none⟩) HBL.out).trans c4, (hb.cell (p := ⟨b, _, none⟩) HBL.out).trans c5⟩
        have UP := Lib.hid up
        have k0 := UP.out _ HBD.out
        have HBA : Hid (Below w2.heap.size w2 (w3.alloc (.cells #[.int .i64 T, .int .i64 Re, .int .i64 K, .string key, .string val, .int .i64 N] 37)).drew) := Lib.hid ((HB3.out.alloc HB3.out.size _).drew)
        have k1 := UP.out _ HBA.out
        have hml : 0 < L.length := by have := HM.out; omega
        have HML := Lib.hid hml
        have HRI : Hid (∀ x ∈ L.take i ++ ⟨T, Re, K, key, val, N⟩ :: L.drop i, wrF x = 0) := Lib.hid (fun x hx => by
          rcases List.mem_append.1 hx with hx | hx
          · exact HRT.out x (List.mem_of_mem_take hx)
          · rcases List.mem_cons.1 hx with rfl | hx
            · exact hx0.out
            · exact HRT.out x (List.mem_of_mem_drop hx))
        have HLI : Hid ((L.take i ++ (⟨T, Re, K, key, val, N⟩ : Wr) :: L.drop i).length ≤ 100000) := Lib.hid (by rw [List.length_append, List.length_take, List.length_cons, List.length_drop, ← HM.out]; omega)
        clear up hml
        refine wp_region_held_drew (S := (fun W' => W'.cell? ⟨b, off + i * 6, none⟩ = some (.int .i64 T) ∧ W'.cell? ⟨b, off + i * 6 + 1, none⟩ = some (.int .i64 Re) ∧ W'.cell? ⟨b, off + i * 6 + 2, none⟩ = some (.int .i64 K) ∧ W'.cell? ⟨b, off + i * 6 + 3, none⟩ = some (.string key) ∧ W'.cell? ⟨b, off + i * 6 + 4, none⟩ = some (.string val) ∧ W'.cell? ⟨b, off + i * 6 + 5, none⟩ = some (.int .i64 N))) (by kernel_rfl) k0 (fun hSS => ?_)
        clear hSS
        try simp only [Act.put, List.getElem_toArray, List.getElem_cons_zero, List.setIfInBounds_toArray, List.set_cons_zero, List.set_cons_succ]
        refine wpAnyH_take (i := 0) (v := ?v1) rfl (by kernel_rfl) (by kernel_rfl) (by kernel_rfl) (fun _ _ _ h => h) (Or.inl ⟨by rfl, ?h1⟩) (by assumption) ?r1
        case h1 => (intro W hSw; (try dsimp only at hSw); go_simp; all_goals (with_reducible rfl))
        try simp only [Act.put, List.getElem_toArray, List.getElem_cons_zero, List.setIfInBounds_toArray, List.set_cons_zero, List.set_cons_succ]
        refine wpAnyH_take (i := 2) (v := ?v2) rfl (by kernel_rfl) (by kernel_rfl) (by kernel_rfl) (fun _ _ _ h => h) (Or.inl ⟨by rfl, ?h2⟩) (by assumption) ?r2
        case h2 => (intro W hSw; (try dsimp only at hSw); go_simp; all_goals (with_reducible rfl))
        try simp only [Act.put, List.getElem_toArray, List.getElem_cons_zero, List.getElem_cons_succ, List.setIfInBounds_toArray, List.set_cons_zero, List.set_cons_succ]
        refine wpAnyH_take (i := 3) (v := ?v3) rfl (by kernel_rfl) (by kernel_rfl) (by kernel_rfl) (fun _ _ _ h => h) (Or.inl ⟨by rfl, ?h3⟩) (by assumption) ?r3
        case h3 => (intro W hSw; (try dsimp only at hSw); go_simp; all_goals (with_reducible rfl))
        try simp only [Act.put, List.getElem_toArray, List.getElem_cons_zero, List.getElem_cons_succ, List.setIfInBounds_toArray, List.set_cons_zero, List.set_cons_succ]
        refine wpAnyH_take (i := 4) (v := ?v4) rfl (by kernel_rfl) (by kernel_rfl) (by kernel_rfl) (fun _ _ _ h => h) (Or.inl ⟨by rfl, ?h4⟩) (by assumption) ?r4
        case h4 => (intro W hSw; (try dsimp only at hSw); go_simp; all_goals (with_reducible rfl))
        try simp only [Act.put, List.getElem_toArray, List.getElem_cons_zero, List.getElem_cons_succ, List.setIfInBounds_toArray, List.set_cons_zero, List.set_cons_succ]
        refine wpAnyH_take (i := 5) (v := ?v5) rfl (by kernel_rfl) (by kernel_rfl) (by kernel_rfl) (fun _ _ _ h => h) (Or.inl ⟨by rfl, ?h5⟩) (by assumption) ?r5
        case h5 => (intro W hSw; (try dsimp only at hSw); go_simp; all_goals (with_reducible rfl))
        try simp only [Act.put, List.getElem_toArray, List.getElem_cons_zero, List.getElem_cons_succ, List.setIfInBounds_toArray, List.set_cons_zero, List.set_cons_succ]
        refine wpAnyH_take (i := 6) (v := ?v6) rfl (by kernel_rfl) (by kernel_rfl) (by kernel_rfl) (fun _ _ _ h => h) (Or.inl ⟨by rfl, ?h6⟩) (by assumption) ?r6
        case h6 => (intro W hSw; (try dsimp only at hSw); go_simp; all_goals (with_reducible rfl))
        try simp only [Act.put, List.getElem_toArray, List.getElem_cons_zero, List.getElem_cons_succ, List.setIfInBounds_toArray, List.set_cons_zero, List.set_cons_succ]
        refine wpAnyH_ready (rs := [1, 7]) (by kernel_rfl) (by simp) ?_
        refine AllReadyH.cons rfl (fun KK hKK => ?_) (AllReadyH.cons rfl (fun KK hKK => ?_) (AllReadyH.nil))
        · go_simp
          refine (clone_wrs _ L w3.drew (HIL.out.below HBD.out) HML.out (by rw [← HM.out]; omega)).mono ?_
          rintro r w4 ⟨v4, rfl, ho4, hb4⟩
          obtain ⟨a4, cc4, rfl, _⟩ := ho4.is.form
          rw [← HM.out] at ho4 ⊢
          have hb24 : Below w3.heap.size w3 w4 := (Below.drew (Below.refl _ w3)).trans hb4
          have k2 := UP.out _ (HB3.out.trans (hb24.mono HB3.out.size))
          have HB4 : Hid (Below w3.heap.size w3 (w4.alloc (.cells #[.int .i64 T, .int .i64 Re, .int .i64 K, .string key, .string val, .int .i64 N] 37))) := Lib.hid (hb24.alloc hb24.size _)
          have k3 := UP.out _ (HB3.out.trans (HB4.out.mono HB3.out.size))
          have HO4 : Hid (ownsW (w4.alloc (.cells #[.int .i64 T, .int .i64 Re, .int .i64 K, .string key, .string val, .int .i64 N] 37)) w3.heap.size (.slice a4 m cc4) L) := Lib.hid (ho4.alloc _)
          have HV4 : Hid (wrBlk (w4.alloc (.cells #[.int .i64 T, .int .i64 Re, .int .i64 K, .string key, .string val, .int .i64 N] 37)) w4.heap.size ⟨T, Re, K, key, val, N⟩) := Lib.hid (MapKept.heap_alloc w4 _).1
          have HNE : Hid (Value.ownBlock (.slice a4 m cc4) ≠ some w4.heap.size) := Lib.hid (fun e => by have := (ho4.lt _ e).2; omega)
          have HS4 : Hid (w3.heap.size ≤ (w4.alloc (.cells #[.int .i64 T, .int .i64 Re, .int .i64 K, .string key, .string val, .int .i64 N] 37)).heap.size) := Lib.hid HB4.out.size
          clear ho4 hb4 hb24
          refine hKK.out _ _ k2 (fun hSS => ?_)
          clear hKK hSS
          try simp only [Act.put, List.getElem_toArray, List.getElem_cons_zero, List.getElem_cons_succ, List.setIfInBounds_toArray, List.set_cons_zero, List.set_cons_succ]
          refine wpAnyH_ready (rs := [7]) (by kernel_rfl) (by simp) ?_
          refine AllReadyH.cons rfl (fun KK hKK => ?_) (AllReadyH.nil)
          go_simp
          refine hKK.out _ _ k3 (fun hSS => ?_)
          clear hKK hSS
          try simp only [Act.put, List.getElem_toArray, List.getElem_cons_zero, List.getElem_cons_succ, List.setIfInBounds_toArray, List.set_cons_zero, List.set_cons_succ]
          refine wpAnyH_ready (rs := [8]) (by kernel_rfl) (by simp) ?_
          refine AllReadyH.cons rfl (fun KK hKK => ?_) (AllReadyH.nil)
          go_simp
          refine (ins_as (.slice a4 m cc4) i m w4.heap.size (m + 1) L ⟨T, Re, K, key, val, N⟩ _ w3.heap.size HO4.out HM.out him (by omega) HV4.out HNE.out HS4.out (by rw [← HM.out])).mono ?_
          rintro r w5 ⟨a5, c5, rfl, hi5, _, hb5⟩
          have HI5 := Lib.hid hi5
          have HB5 : Hid (Below w3.heap.size w3 w5) := Lib.hid (HB4.out.trans hb5)
          have k5 := UP.out _ (HB3.out.trans (HB5.out.mono HB3.out.size))
          clear hi5 hb5
          refine hKK.out _ _ k5 (fun hSS => ?_)
          clear hKK hSS
          try simp only [Act.put, List.getElem_toArray, List.getElem_cons_zero, List.getElem_cons_succ, List.setIfInBounds_toArray, List.set_cons_zero, List.set_cons_succ]
          refine wpAnyH_ready (rs := [9]) (by kernel_rfl) (by simp) ?_
          refine AllReadyH.cons rfl (fun KK hKK => ?_) (AllReadyH.nil)
          go_simp
          refine (of_good _ (L.take i ++ ⟨T, Re, K, key, val, N⟩ :: L.drop i) _ HI5.out HRI.out HLI.out).mono ?_
          rintro r w6 ⟨ub, rfl, hu6, hb6⟩
          rw [again_cells HX.out HK.out] at hu6
          have HU6 := Lib.hid hu6
          have HB6 : Hid (Below w5.heap.size w5 w6) := Lib.hid hb6
          have k6 := UP.out _ ((HB3.out.trans (HB5.out.mono HB3.out.size)).trans (hb6.mono (Nat.le_trans HB3.out.size HB5.out.size)))
          clear hu6 hb6
          refine hKK.out _ _ k6 (fun hSS => ?_)
          clear hKK hSS
          try simp only [Act.put, List.getElem_toArray, List.getElem_cons_zero, List.getElem_cons_succ, List.setIfInBounds_toArray, List.set_cons_zero, List.set_cons_succ]
          refine wpAnyH_take (i := 10) (v := ?v7) rfl (by kernel_rfl) (by kernel_rfl) (by kernel_rfl) (fun _ _ _ h => h) (Or.inl ⟨by rfl, ?h7⟩) (by assumption) ?r7
          case h7 => (intro W hSw; (try dsimp only at hSw); go_simp; all_goals (with_reducible rfl))
          try simp only [Act.put, List.getElem_toArray, List.getElem_cons_zero, List.getElem_cons_succ, List.setIfInBounds_toArray, List.set_cons_zero, List.set_cons_succ]
          refine wpAnyH_take (i := 11) (v := ?v8) rfl (by kernel_rfl) (by kernel_rfl) (by kernel_rfl) (fun _ _ _ h => h) (Or.inl ⟨by rfl, ?h8⟩) (by assumption) ?r8
          case h8 => (intro W hSw; (try dsimp only at hSw); go_simp; all_goals (with_reducible rfl))
          try simp only [Act.put, List.getElem_toArray, List.getElem_cons_zero, List.getElem_cons_succ, List.setIfInBounds_toArray, List.set_cons_zero, List.set_cons_succ]
          refine wpAnyH_take (i := 12) (v := ?v9) rfl (by kernel_rfl) (by kernel_rfl) (by kernel_rfl) (fun _ _ _ h => h) (Or.inl ⟨by rfl, ?h9⟩) (by assumption) ?r9
          case h9 => (intro W hSw; (try dsimp only at hSw); go_simp; all_goals (with_reducible rfl))
          try simp only [Act.put, List.getElem_toArray, List.getElem_cons_zero, List.getElem_cons_succ, List.setIfInBounds_toArray, List.set_cons_zero, List.set_cons_succ]
          refine wpAnyH_take (i := 13) (v := ?v10) rfl (by kernel_rfl) (by kernel_rfl) (by kernel_rfl) (fun _ _ _ h => h) (Or.inl ⟨by rfl, ?h10⟩) (by assumption) ?r10
          case h10 => (intro W hSw; (try dsimp only at hSw); go_simp; all_goals (with_reducible rfl))
          try simp only [Act.put, List.getElem_toArray, List.getElem_cons_zero, List.getElem_cons_succ, List.setIfInBounds_toArray, List.set_cons_zero, List.set_cons_succ]
          refine wpAnyH_take (i := 14) (v := ?v11) rfl (by kernel_rfl) (by kernel_rfl) (by kernel_rfl) (fun _ _ _ h => h) (Or.inl ⟨by rfl, ?h11⟩) (by assumption) ?r11
          case h11 => (intro W hSw; (try dsimp only at hSw); go_simp; all_goals (with_reducible rfl))
          try simp only [Act.put, List.getElem_toArray, List.getElem_cons_zero, List.getElem_cons_succ, List.setIfInBounds_toArray, List.set_cons_zero, List.set_cons_succ]
          refine wpAnyH_done (by kernel_rfl) ?_ _
          clear k0 k1 k2 k3 k5 k6
          go_wp2_with (go_at_call 19; refine (same_cells _ _ L _ (HU3.out.below (HB5.out.trans (HB6.out.mono HB5.out.size))) HU6.out (by rw [← HM.out]; omega)).mono ?_; rintro r w7 ⟨rfl, hb7⟩; have HB7 := Lib.hid hb7; clear hb7)
          go_ret
          exact ⟨rfl, ((HB2.out.trans (HB3.out.mono HB2.out.size)).trans (HB5.out.mono (Nat.le_trans HB2.out.size HB3.out.size))).trans ((HB6.out.trans (HB7.out.mono HB6.out.size)).mono (Nat.le_trans (Nat.le_trans HB2.out.size HB3.out.size) HB5.out.size))⟩
        · go_simp
          refine hKK.out _ _ k1 (fun hSS => ?_)
          clear hKK hSS
          try simp only [Act.put, List.getElem_toArray, List.getElem_cons_zero, List.getElem_cons_succ, List.setIfInBounds_toArray, List.set_cons_zero, List.set_cons_succ]
          refine wpAnyH_ready (rs := [1]) (by kernel_rfl) (by simp) ?_
          refine AllReadyH.cons rfl (fun KK hKK => ?_) (AllReadyH.nil)
          go_simp
          refine (clone_wrs _ L _ (HIL.out.below HBA.out) HML.out (by rw [← HM.out]; omega)).mono ?_
          rintro r w4 ⟨v4, rfl, ho4, hb4⟩
          obtain ⟨a4, cc4, rfl, _⟩ := ho4.is.form
          rw [← HM.out] at ho4 ⊢
          have HB4 : Hid (Below w3.heap.size w3 w4) := Lib.hid ((Below.drew ((Below.refl _ w3).alloc (Nat.le_refl _) _)).trans (hb4.mono (by simp)))
          have k3 := UP.out _ (HB3.out.trans (HB4.out.mono HB3.out.size))
          have k2 := k3
          have HO4 : Hid (ownsW w4 w3.heap.size (.slice a4 m cc4) L) := Lib.hid (ho4.mono (by simp))
          have HV4 : Hid (wrBlk w4 w3.heap.size ⟨T, Re, K, key, val, N⟩) := Lib.hid ((hb4.block w3.heap.size (by simp)).trans (MapKept.heap_alloc w3 _).1)
          have HNE : Hid (Value.ownBlock (.slice a4 m cc4) ≠ some w3.heap.size) := Lib.hid (fun e => by have := (ho4.lt _ e).1; simp at this; omega)
          have HS4 : Hid (w3.heap.size ≤ w4.heap.size) := Lib.hid HB4.out.size
          clear ho4 hb4
          refine hKK.out _ _ k3 (fun hSS => ?_)
          clear hKK hSS
          try simp only [Act.put, List.getElem_toArray, List.getElem_cons_zero, List.getElem_cons_succ, List.setIfInBounds_toArray, List.set_cons_zero, List.set_cons_succ]
          refine wpAnyH_ready (rs := [8]) (by kernel_rfl) (by simp) ?_
          refine AllReadyH.cons rfl (fun KK hKK => ?_) (AllReadyH.nil)
          go_simp
          refine (ins_as (.slice a4 m cc4) i m w3.heap.size (m + 1) L ⟨T, Re, K, key, val, N⟩ _ w3.heap.size HO4.out HM.out him (by omega) HV4.out HNE.out HS4.out (by rw [← HM.out])).mono ?_
          rintro r w5 ⟨a5, c5, rfl, hi5, _, hb5⟩
          have HI5 := Lib.hid hi5
          have HB5 : Hid (Below w3.heap.size w3 w5) := Lib.hid (HB4.out.trans hb5)
          have k5 := UP.out _ (HB3.out.trans (HB5.out.mono HB3.out.size))
          clear hi5 hb5
          refine hKK.out _ _ k5 (fun hSS => ?_)
          clear hKK hSS
          try simp only [Act.put, List.getElem_toArray, List.getElem_cons_zero, List.getElem_cons_succ, List.setIfInBounds_toArray, List.set_cons_zero, List.set_cons_succ]
          refine wpAnyH_ready (rs := [9]) (by kernel_rfl) (by simp) ?_
          refine AllReadyH.cons rfl (fun KK hKK => ?_) (AllReadyH.nil)
          go_simp
          refine (of_good _ (L.take i ++ ⟨T, Re, K, key, val, N⟩ :: L.drop i) _ HI5.out HRI.out HLI.out).mono ?_
          rintro r w6 ⟨ub, rfl, hu6, hb6⟩
          rw [again_cells HX.out HK.out] at hu6
          have HU6 := Lib.hid hu6
          have HB6 : Hid (Below w5.heap.size w5 w6) := Lib.hid hb6
          have k6 := UP.out _ ((HB3.out.trans (HB5.out.mono HB3.out.size)).trans (hb6.mono (Nat.le_trans HB3.out.size HB5.out.size)))
          clear hu6 hb6
          refine hKK.out _ _ k6 (fun hSS => ?_)
          clear hKK hSS
          try simp only [Act.put, List.getElem_toArray, List.getElem_cons_zero, List.getElem_cons_succ, List.setIfInBounds_toArray, List.set_cons_zero, List.set_cons_succ]
          refine wpAnyH_take (i := 10) (v := ?v12) rfl (by kernel_rfl) (by kernel_rfl) (by kernel_rfl) (fun _ _ _ h => h) (Or.inl ⟨by rfl, ?h12⟩) (by assumption) ?r12
          case h12 => (intro W hSw; (try dsimp only at hSw); go_simp; all_goals (with_reducible rfl))
          try simp only [Act.put, List.getElem_toArray, List.getElem_cons_zero, List.getElem_cons_succ, List.setIfInBounds_toArray, List.set_cons_zero, List.set_cons_succ]
          refine wpAnyH_take (i := 11) (v := ?v13) rfl (by kernel_rfl) (by kernel_rfl) (by kernel_rfl) (fun _ _ _ h => h) (Or.inl ⟨by rfl, ?h13⟩) (by assumption) ?r13
          case h13 => (intro W hSw; (try dsimp only at hSw); go_simp; all_goals (with_reducible rfl))
          try simp only [Act.put, List.getElem_toArray, List.getElem_cons_zero, List.getElem_cons_succ, List.setIfInBounds_toArray, List.set_cons_zero, List.set_cons_succ]
          refine wpAnyH_take (i := 12) (v := ?v14) rfl (by kernel_rfl) (by kernel_rfl) (by kernel_rfl) (fun _ _ _ h => h) (Or.inl ⟨by rfl, ?h14⟩) (by assumption) ?r14
          case h14 => (intro W hSw; (try dsimp only at hSw); go_simp; all_goals (with_reducible rfl))
          try simp only [Act.put, List.getElem_toArray, List.getElem_cons_zero, List.getElem_cons_succ, List.setIfInBounds_toArray, List.set_cons_zero, List.set_cons_succ]
          refine wpAnyH_take (i := 13) (v := ?v15) rfl (by kernel_rfl) (by kernel_rfl) (by kernel_rfl) (fun _ _ _ h => h) (Or.inl ⟨by rfl, ?h15⟩) (by assumption) ?r15
          case h15 => (intro W hSw; (try dsimp only at hSw); go_simp; all_goals (with_reducible rfl))
          try simp only [Act.put, List.getElem_toArray, List.getElem_cons_zero, List.getElem_cons_succ, List.setIfInBounds_toArray, List.set_cons_zero, List.set_cons_succ]
          refine wpAnyH_take (i := 14) (v := ?v16) rfl (by kernel_rfl) (by kernel_rfl) (by kernel_rfl) (fun _ _ _ h => h) (Or.inl ⟨by rfl, ?h16⟩) (by assumption) ?r16
          case h16 => (intro W hSw; (try dsimp only at hSw); go_simp; all_goals (with_reducible rfl))
          try simp only [Act.put, List.getElem_toArray, List.getElem_cons_zero, List.getElem_cons_succ, List.setIfInBounds_toArray, List.set_cons_zero, List.set_cons_succ]
          refine wpAnyH_done (by kernel_rfl) ?_ _
          clear k0 k1 k2 k3 k5 k6
          go_wp2_with (go_at_call 19; refine (same_cells _ _ L _ (HU3.out.below (HB5.out.trans (HB6.out.mono HB5.out.size))) HU6.out (by rw [← HM.out]; omega)).mono ?_; rintro r w7 ⟨rfl, hb7⟩; have HB7 := Lib.hid hb7; clear hb7)
          go_ret
          exact ⟨rfl, ((HB2.out.trans (HB3.out.mono HB2.out.size)).trans (HB5.out.mono (Nat.le_trans HB2.out.size HB3.out.size))).trans ((HB6.out.trans (HB7.out.mono HB6.out.size)).mono (Nat.le_trans (Nat.le_trans HB2.out.size HB3.out.size) HB5.out.size))⟩
      ·
        go_wp2_with (first
          | (go_at_call 33; refine (pick_any at' m _ (by omega) (by omega)).mono ?_; rintro r w3 ⟨rfl, rfl⟩; rw [HIP.out])
          | (go_at_call 13; refine (of_good _ L _ HIL.out HRT.out (by have := HM.out; omega)).mono ?_; rintro r w3 ⟨ua, rfl, hu3, hb3⟩; have HU3 := Lib.hid hu3; have HB3 := Lib.hid hb3; clear hu3 hb3))
        have HBD : Hid (Below w2.heap.size w2 w3.drew) := Lib.hid HB3.out.drew
        have up : ∀ W' : World, Below w2.heap.size w2 W' → W'.cell? ⟨b, off + i * 6, none⟩ = some (.int .i64 T) ∧ W'.cell? ⟨b, off + i * 6 + 1, none⟩ = some (.int .i64 Re) ∧ W'.cell? ⟨b, off + i * 6 + 2, none⟩ = some (.int .i64 K) ∧ W'.cell? ⟨b, off + i * 6 + 3, none⟩ = some (.string key) ∧ W'.cell? ⟨b, off + i * 6 + 4, none⟩ = some (.string val) ∧ W'.cell? ⟨b, off + i * 6 + 5, none⟩ = some (.int .i64 N) := fun W' hb =>
          ⟨(hb.cell (p := ⟨b, _, none⟩) HBL.out).trans c0, (hb.cell (p := ⟨b, _, none⟩) HBL.out).trans c1, (hb.cell (p := ⟨b, _, none⟩) HBL.out).trans c2, (hb.cell (p := ⟨b, _, none⟩) HBL.out).trans c3, (hb.cell (p := ⟨b, _, none⟩) HBL.out).trans c4, (hb.cell (p := ⟨b, _, none⟩) HBL.out).trans c5⟩
        have UP := Lib.hid up
        have k0 := UP.out _ HBD.out
        have HBA : Hid (Below w2.heap.size w2 (w3.alloc (.cells #[.int .i64 T, .int .i64 Re, .int .i64 K, .string key, .string val, .int .i64 N] 37)).drew) := Lib.hid ((HB3.out.alloc HB3.out.size _).drew)
        have k1 := UP.out _ HBA.out
        have hml : 0 < L.length := by have := HM.out; omega
        have HML := Lib.hid hml
        have HRI : Hid (∀ x ∈ L.take i ++ ⟨T, Re, K, key, val, N⟩ :: L.drop i, wrF x = 0) := Lib.hid (fun x hx => by
          rcases List.mem_append.1 hx with hx | hx
          · exact HRT.out x (List.mem_of_mem_take hx)
          · rcases List.mem_cons.1 hx with rfl | hx
            · exact hx0.out
            · exact HRT.out x (List.mem_of_mem_drop hx))
        have HLI : Hid ((L.take i ++ (⟨T, Re, K, key, val, N⟩ : Wr) :: L.drop i).length ≤ 100000) := Lib.hid (by rw [List.length_append, List.length_take, List.length_cons, List.length_drop, ← HM.out]; omega)
        clear up hml
        refine wp_region_held_drew (S := (fun W' => W'.cell? ⟨b, off + i * 6, none⟩ = some (.int .i64 T) ∧ W'.cell? ⟨b, off + i * 6 + 1, none⟩ = some (.int .i64 Re) ∧ W'.cell? ⟨b, off + i * 6 + 2, none⟩ = some (.int .i64 K) ∧ W'.cell? ⟨b, off + i * 6 + 3, none⟩ = some (.string key) ∧ W'.cell? ⟨b, off + i * 6 + 4, none⟩ = some (.string val) ∧ W'.cell? ⟨b, off + i * 6 + 5, none⟩ = some (.int .i64 N))) (by kernel_rfl) k0 (fun hSS => ?_)
        clear hSS
        try simp only [Act.put, List.getElem_toArray, List.getElem_cons_zero, List.setIfInBounds_toArray, List.set_cons_zero, List.set_cons_succ]
        refine wpAnyH_take (i := 0) (v := ?v17) rfl (by kernel_rfl) (by kernel_rfl) (by kernel_rfl) (fun _ _ _ h => h) (Or.inl ⟨by rfl, ?h17⟩) (by assumption) ?r17
        case h17 => (intro W hSw; (try dsimp only at hSw); go_simp; all_goals (with_reducible rfl))
        try simp only [Act.put, List.getElem_toArray, List.getElem_cons_zero, List.setIfInBounds_toArray, List.set_cons_zero, List.set_cons_succ]
        refine wpAnyH_take (i := 2) (v := ?v18) rfl (by kernel_rfl) (by kernel_rfl) (by kernel_rfl) (fun _ _ _ h => h) (Or.inl ⟨by rfl, ?h18⟩) (by assumption) ?r18
        case h18 => (intro W hSw; (try dsimp only at hSw); go_simp; all_goals (with_reducible rfl))
        try simp only [Act.put, List.getElem_toArray, List.getElem_cons_zero, List.getElem_cons_succ, List.setIfInBounds_toArray, List.set_cons_zero, List.set_cons_succ]
        refine wpAnyH_take (i := 3) (v := ?v19) rfl (by kernel_rfl) (by kernel_rfl) (by kernel_rfl) (fun _ _ _ h => h) (Or.inl ⟨by rfl, ?h19⟩) (by assumption) ?r19
        case h19 => (intro W hSw; (try dsimp only at hSw); go_simp; all_goals (with_reducible rfl))
        try simp only [Act.put, List.getElem_toArray, List.getElem_cons_zero, List.getElem_cons_succ, List.setIfInBounds_toArray, List.set_cons_zero, List.set_cons_succ]
        refine wpAnyH_take (i := 4) (v := ?v20) rfl (by kernel_rfl) (by kernel_rfl) (by kernel_rfl) (fun _ _ _ h => h) (Or.inl ⟨by rfl, ?h20⟩) (by assumption) ?r20
        case h20 => (intro W hSw; (try dsimp only at hSw); go_simp; all_goals (with_reducible rfl))
        try simp only [Act.put, List.getElem_toArray, List.getElem_cons_zero, List.getElem_cons_succ, List.setIfInBounds_toArray, List.set_cons_zero, List.set_cons_succ]
        refine wpAnyH_take (i := 5) (v := ?v21) rfl (by kernel_rfl) (by kernel_rfl) (by kernel_rfl) (fun _ _ _ h => h) (Or.inl ⟨by rfl, ?h21⟩) (by assumption) ?r21
        case h21 => (intro W hSw; (try dsimp only at hSw); go_simp; all_goals (with_reducible rfl))
        try simp only [Act.put, List.getElem_toArray, List.getElem_cons_zero, List.getElem_cons_succ, List.setIfInBounds_toArray, List.set_cons_zero, List.set_cons_succ]
        refine wpAnyH_take (i := 6) (v := ?v22) rfl (by kernel_rfl) (by kernel_rfl) (by kernel_rfl) (fun _ _ _ h => h) (Or.inl ⟨by rfl, ?h22⟩) (by assumption) ?r22
        case h22 => (intro W hSw; (try dsimp only at hSw); go_simp; all_goals (with_reducible rfl))
        try simp only [Act.put, List.getElem_toArray, List.getElem_cons_zero, List.getElem_cons_succ, List.setIfInBounds_toArray, List.set_cons_zero, List.set_cons_succ]
        refine wpAnyH_ready (rs := [1, 7]) (by kernel_rfl) (by simp) ?_
        refine AllReadyH.cons rfl (fun KK hKK => ?_) (AllReadyH.cons rfl (fun KK hKK => ?_) (AllReadyH.nil))
        · go_simp
          refine (clone_wrs _ L w3.drew (HIL.out.below HBD.out) HML.out (by rw [← HM.out]; omega)).mono ?_
          rintro r w4 ⟨v4, rfl, ho4, hb4⟩
          obtain ⟨a4, cc4, rfl, _⟩ := ho4.is.form
          rw [← HM.out] at ho4 ⊢
          have hb24 : Below w3.heap.size w3 w4 := (Below.drew (Below.refl _ w3)).trans hb4
          have k2 := UP.out _ (HB3.out.trans (hb24.mono HB3.out.size))
          have HB4 : Hid (Below w3.heap.size w3 (w4.alloc (.cells #[.int .i64 T, .int .i64 Re, .int .i64 K, .string key, .string val, .int .i64 N] 37))) := Lib.hid (hb24.alloc hb24.size _)
          have k3 := UP.out _ (HB3.out.trans (HB4.out.mono HB3.out.size))
          have HO4 : Hid (ownsW (w4.alloc (.cells #[.int .i64 T, .int .i64 Re, .int .i64 K, .string key, .string val, .int .i64 N] 37)) w3.heap.size (.slice a4 m cc4) L) := Lib.hid (ho4.alloc _)
          have HV4 : Hid (wrBlk (w4.alloc (.cells #[.int .i64 T, .int .i64 Re, .int .i64 K, .string key, .string val, .int .i64 N] 37)) w4.heap.size ⟨T, Re, K, key, val, N⟩) := Lib.hid (MapKept.heap_alloc w4 _).1
          have HNE : Hid (Value.ownBlock (.slice a4 m cc4) ≠ some w4.heap.size) := Lib.hid (fun e => by have := (ho4.lt _ e).2; omega)
          have HS4 : Hid (w3.heap.size ≤ (w4.alloc (.cells #[.int .i64 T, .int .i64 Re, .int .i64 K, .string key, .string val, .int .i64 N] 37)).heap.size) := Lib.hid HB4.out.size
          clear ho4 hb4 hb24
          refine hKK.out _ _ k2 (fun hSS => ?_)
          clear hKK hSS
          try simp only [Act.put, List.getElem_toArray, List.getElem_cons_zero, List.getElem_cons_succ, List.setIfInBounds_toArray, List.set_cons_zero, List.set_cons_succ]
          refine wpAnyH_ready (rs := [7]) (by kernel_rfl) (by simp) ?_
          refine AllReadyH.cons rfl (fun KK hKK => ?_) (AllReadyH.nil)
          go_simp
          refine hKK.out _ _ k3 (fun hSS => ?_)
          clear hKK hSS
          try simp only [Act.put, List.getElem_toArray, List.getElem_cons_zero, List.getElem_cons_succ, List.setIfInBounds_toArray, List.set_cons_zero, List.set_cons_succ]
          refine wpAnyH_ready (rs := [8]) (by kernel_rfl) (by simp) ?_
          refine AllReadyH.cons rfl (fun KK hKK => ?_) (AllReadyH.nil)
          go_simp
          refine (ins_as (.slice a4 m cc4) i m w4.heap.size (m + 1) L ⟨T, Re, K, key, val, N⟩ _ w3.heap.size HO4.out HM.out him (by omega) HV4.out HNE.out HS4.out (by rw [← HM.out])).mono ?_
          rintro r w5 ⟨a5, c5, rfl, hi5, _, hb5⟩
          have HI5 := Lib.hid hi5
          have HB5 : Hid (Below w3.heap.size w3 w5) := Lib.hid (HB4.out.trans hb5)
          have k5 := UP.out _ (HB3.out.trans (HB5.out.mono HB3.out.size))
          clear hi5 hb5
          refine hKK.out _ _ k5 (fun hSS => ?_)
          clear hKK hSS
          try simp only [Act.put, List.getElem_toArray, List.getElem_cons_zero, List.getElem_cons_succ, List.setIfInBounds_toArray, List.set_cons_zero, List.set_cons_succ]
          refine wpAnyH_ready (rs := [9]) (by kernel_rfl) (by simp) ?_
          refine AllReadyH.cons rfl (fun KK hKK => ?_) (AllReadyH.nil)
          go_simp
          refine (of_good _ (L.take i ++ ⟨T, Re, K, key, val, N⟩ :: L.drop i) _ HI5.out HRI.out HLI.out).mono ?_
          rintro r w6 ⟨ub, rfl, hu6, hb6⟩
          rw [again_cells HX.out HK.out] at hu6
          have HU6 := Lib.hid hu6
          have HB6 : Hid (Below w5.heap.size w5 w6) := Lib.hid hb6
          have k6 := UP.out _ ((HB3.out.trans (HB5.out.mono HB3.out.size)).trans (hb6.mono (Nat.le_trans HB3.out.size HB5.out.size)))
          clear hu6 hb6
          refine hKK.out _ _ k6 (fun hSS => ?_)
          clear hKK hSS
          try simp only [Act.put, List.getElem_toArray, List.getElem_cons_zero, List.getElem_cons_succ, List.setIfInBounds_toArray, List.set_cons_zero, List.set_cons_succ]
          refine wpAnyH_take (i := 10) (v := ?v23) rfl (by kernel_rfl) (by kernel_rfl) (by kernel_rfl) (fun _ _ _ h => h) (Or.inl ⟨by rfl, ?h23⟩) (by assumption) ?r23
          case h23 => (intro W hSw; (try dsimp only at hSw); go_simp; all_goals (with_reducible rfl))
          try simp only [Act.put, List.getElem_toArray, List.getElem_cons_zero, List.getElem_cons_succ, List.setIfInBounds_toArray, List.set_cons_zero, List.set_cons_succ]
          refine wpAnyH_take (i := 11) (v := ?v24) rfl (by kernel_rfl) (by kernel_rfl) (by kernel_rfl) (fun _ _ _ h => h) (Or.inl ⟨by rfl, ?h24⟩) (by assumption) ?r24
          case h24 => (intro W hSw; (try dsimp only at hSw); go_simp; all_goals (with_reducible rfl))
          try simp only [Act.put, List.getElem_toArray, List.getElem_cons_zero, List.getElem_cons_succ, List.setIfInBounds_toArray, List.set_cons_zero, List.set_cons_succ]
          refine wpAnyH_take (i := 12) (v := ?v25) rfl (by kernel_rfl) (by kernel_rfl) (by kernel_rfl) (fun _ _ _ h => h) (Or.inl ⟨by rfl, ?h25⟩) (by assumption) ?r25
          case h25 => (intro W hSw; (try dsimp only at hSw); go_simp; all_goals (with_reducible rfl))
          try simp only [Act.put, List.getElem_toArray, List.getElem_cons_zero, List.getElem_cons_succ, List.setIfInBounds_toArray, List.set_cons_zero, List.set_cons_succ]
          refine wpAnyH_take (i := 13) (v := ?v26) rfl (by kernel_rfl) (by kernel_rfl) (by kernel_rfl) (fun _ _ _ h => h) (Or.inl ⟨by rfl, ?h26⟩) (by assumption) ?r26
          case h26 => (intro W hSw; (try dsimp only at hSw); go_simp; all_goals (with_reducible rfl))
          try simp only [Act.put, List.getElem_toArray, List.getElem_cons_zero, List.getElem_cons_succ, List.setIfInBounds_toArray, List.set_cons_zero, List.set_cons_succ]
          refine wpAnyH_take (i := 14) (v := ?v27) rfl (by kernel_rfl) (by kernel_rfl) (by kernel_rfl) (fun _ _ _ h => h) (Or.inl ⟨by rfl, ?h27⟩) (by assumption) ?r27
          case h27 => (intro W hSw; (try dsimp only at hSw); go_simp; all_goals (with_reducible rfl))
          try simp only [Act.put, List.getElem_toArray, List.getElem_cons_zero, List.getElem_cons_succ, List.setIfInBounds_toArray, List.set_cons_zero, List.set_cons_succ]
          refine wpAnyH_done (by kernel_rfl) ?_ _
          clear k0 k1 k2 k3 k5 k6
          go_wp2_with (go_at_call 19; refine (same_cells _ _ L _ (HU3.out.below (HB5.out.trans (HB6.out.mono HB5.out.size))) HU6.out (by rw [← HM.out]; omega)).mono ?_; rintro r w7 ⟨rfl, hb7⟩; have HB7 := Lib.hid hb7; clear hb7)
          go_ret
          exact ⟨rfl, ((HB2.out.trans (HB3.out.mono HB2.out.size)).trans (HB5.out.mono (Nat.le_trans HB2.out.size HB3.out.size))).trans ((HB6.out.trans (HB7.out.mono HB6.out.size)).mono (Nat.le_trans (Nat.le_trans HB2.out.size HB3.out.size) HB5.out.size))⟩
        · go_simp
          refine hKK.out _ _ k1 (fun hSS => ?_)
          clear hKK hSS
          try simp only [Act.put, List.getElem_toArray, List.getElem_cons_zero, List.getElem_cons_succ, List.setIfInBounds_toArray, List.set_cons_zero, List.set_cons_succ]
          refine wpAnyH_ready (rs := [1]) (by kernel_rfl) (by simp) ?_
          refine AllReadyH.cons rfl (fun KK hKK => ?_) (AllReadyH.nil)
          go_simp
          refine (clone_wrs _ L _ (HIL.out.below HBA.out) HML.out (by rw [← HM.out]; omega)).mono ?_
          rintro r w4 ⟨v4, rfl, ho4, hb4⟩
          obtain ⟨a4, cc4, rfl, _⟩ := ho4.is.form
          rw [← HM.out] at ho4 ⊢
          have HB4 : Hid (Below w3.heap.size w3 w4) := Lib.hid ((Below.drew ((Below.refl _ w3).alloc (Nat.le_refl _) _)).trans (hb4.mono (by simp)))
          have k3 := UP.out _ (HB3.out.trans (HB4.out.mono HB3.out.size))
          have k2 := k3
          have HO4 : Hid (ownsW w4 w3.heap.size (.slice a4 m cc4) L) := Lib.hid (ho4.mono (by simp))
          have HV4 : Hid (wrBlk w4 w3.heap.size ⟨T, Re, K, key, val, N⟩) := Lib.hid ((hb4.block w3.heap.size (by simp)).trans (MapKept.heap_alloc w3 _).1)
          have HNE : Hid (Value.ownBlock (.slice a4 m cc4) ≠ some w3.heap.size) := Lib.hid (fun e => by have := (ho4.lt _ e).1; simp at this; omega)
          have HS4 : Hid (w3.heap.size ≤ w4.heap.size) := Lib.hid HB4.out.size
          clear ho4 hb4
          refine hKK.out _ _ k3 (fun hSS => ?_)
          clear hKK hSS
          try simp only [Act.put, List.getElem_toArray, List.getElem_cons_zero, List.getElem_cons_succ, List.setIfInBounds_toArray, List.set_cons_zero, List.set_cons_succ]
          refine wpAnyH_ready (rs := [8]) (by kernel_rfl) (by simp) ?_
          refine AllReadyH.cons rfl (fun KK hKK => ?_) (AllReadyH.nil)
          go_simp
          refine (ins_as (.slice a4 m cc4) i m w3.heap.size (m + 1) L ⟨T, Re, K, key, val, N⟩ _ w3.heap.size HO4.out HM.out him (by omega) HV4.out HNE.out HS4.out (by rw [← HM.out])).mono ?_
          rintro r w5 ⟨a5, c5, rfl, hi5, _, hb5⟩
          have HI5 := Lib.hid hi5
          have HB5 : Hid (Below w3.heap.size w3 w5) := Lib.hid (HB4.out.trans hb5)
          have k5 := UP.out _ (HB3.out.trans (HB5.out.mono HB3.out.size))
          clear hi5 hb5
          refine hKK.out _ _ k5 (fun hSS => ?_)
          clear hKK hSS
          try simp only [Act.put, List.getElem_toArray, List.getElem_cons_zero, List.getElem_cons_succ, List.setIfInBounds_toArray, List.set_cons_zero, List.set_cons_succ]
          refine wpAnyH_ready (rs := [9]) (by kernel_rfl) (by simp) ?_
          refine AllReadyH.cons rfl (fun KK hKK => ?_) (AllReadyH.nil)
          go_simp
          refine (of_good _ (L.take i ++ ⟨T, Re, K, key, val, N⟩ :: L.drop i) _ HI5.out HRI.out HLI.out).mono ?_
          rintro r w6 ⟨ub, rfl, hu6, hb6⟩
          rw [again_cells HX.out HK.out] at hu6
          have HU6 := Lib.hid hu6
          have HB6 : Hid (Below w5.heap.size w5 w6) := Lib.hid hb6
          have k6 := UP.out _ ((HB3.out.trans (HB5.out.mono HB3.out.size)).trans (hb6.mono (Nat.le_trans HB3.out.size HB5.out.size)))
          clear hu6 hb6
          refine hKK.out _ _ k6 (fun hSS => ?_)
          clear hKK hSS
          try simp only [Act.put, List.getElem_toArray, List.getElem_cons_zero, List.getElem_cons_succ, List.setIfInBounds_toArray, List.set_cons_zero, List.set_cons_succ]
          refine wpAnyH_take (i := 10) (v := ?v28) rfl (by kernel_rfl) (by kernel_rfl) (by kernel_rfl) (fun _ _ _ h => h) (Or.inl ⟨by rfl, ?h28⟩) (by assumption) ?r28
          case h28 => (intro W hSw; (try dsimp only at hSw); go_simp; all_goals (with_reducible rfl))
          try simp only [Act.put, List.getElem_toArray, List.getElem_cons_zero, List.getElem_cons_succ, List.setIfInBounds_toArray, List.set_cons_zero, List.set_cons_succ]
          refine wpAnyH_take (i := 11) (v := ?v29) rfl (by kernel_rfl) (by kernel_rfl) (by kernel_rfl) (fun _ _ _ h => h) (Or.inl ⟨by rfl, ?h29⟩) (by assumption) ?r29
          case h29 => (intro W hSw; (try dsimp only at hSw); go_simp; all_goals (with_reducible rfl))
          try simp only [Act.put, List.getElem_toArray, List.getElem_cons_zero, List.getElem_cons_succ, List.setIfInBounds_toArray, List.set_cons_zero, List.set_cons_succ]
          refine wpAnyH_take (i := 12) (v := ?v30) rfl (by kernel_rfl) (by kernel_rfl) (by kernel_rfl) (fun _ _ _ h => h) (Or.inl ⟨by rfl, ?h30⟩) (by assumption) ?r30
          case h30 => (intro W hSw; (try dsimp only at hSw); go_simp; all_goals (with_reducible rfl))
          try simp only [Act.put, List.getElem_toArray, List.getElem_cons_zero, List.getElem_cons_succ, List.setIfInBounds_toArray, List.set_cons_zero, List.set_cons_succ]
          refine wpAnyH_take (i := 13) (v := ?v31) rfl (by kernel_rfl) (by kernel_rfl) (by kernel_rfl) (fun _ _ _ h => h) (Or.inl ⟨by rfl, ?h31⟩) (by assumption) ?r31
          case h31 => (intro W hSw; (try dsimp only at hSw); go_simp; all_goals (with_reducible rfl))
          try simp only [Act.put, List.getElem_toArray, List.getElem_cons_zero, List.getElem_cons_succ, List.setIfInBounds_toArray, List.set_cons_zero, List.set_cons_succ]
          refine wpAnyH_take (i := 14) (v := ?v32) rfl (by kernel_rfl) (by kernel_rfl) (by kernel_rfl) (fun _ _ _ h => h) (Or.inl ⟨by rfl, ?h32⟩) (by assumption) ?r32
          case h32 => (intro W hSw; (try dsimp only at hSw); go_simp; all_goals (with_reducible rfl))
          try simp only [Act.put, List.getElem_toArray, List.getElem_cons_zero, List.getElem_cons_succ, List.setIfInBounds_toArray, List.set_cons_zero, List.set_cons_succ]
          refine wpAnyH_done (by kernel_rfl) ?_ _
          clear k0 k1 k2 k3 k5 k6
          go_wp2_with (go_at_call 19; refine (same_cells _ _ L _ (HU3.out.below (HB5.out.trans (HB6.out.mono HB5.out.size))) HU6.out (by rw [← HM.out]; omega)).mono ?_; rintro r w7 ⟨rfl, hb7⟩; have HB7 := Lib.hid hb7; clear hb7)
          go_ret
          exact ⟨rfl, ((HB2.out.trans (HB3.out.mono HB2.out.size)).trans (HB5.out.mono (Nat.le_trans HB2.out.size HB3.out.size))).trans ((HB6.out.trans (HB7.out.mono HB6.out.size)).mono (Nat.le_trans (Nat.le_trans HB2.out.size HB3.out.size) HB5.out.size))⟩
    · have hp : (K != 1) = true := by simp only [not_or] at hk; simp [hk.1]
      have hq : (K != 2) = true := by simp only [not_or] at hk; simp [hk.2]
      clear hk
      go_wp2_with (go_at_call 33; refine (pick_any at' m _ (by omega) (by omega)).mono ?_; rintro r w3 ⟨rfl, rfl⟩; rw [HIP.out])
      go_ret
      exact ⟨rfl, HB2.out⟩
end Go.Proofs.YtcoejiehckileaaDoor
