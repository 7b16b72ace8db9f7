/-
  The contracts of the document's VectorRight, Bare, Good, Fault.Is.
-/
import Derived.Test.YtiipnifnejnhlaaDoorVecOf
import Derived.Test.YtiipnifnejnhlaaDoorWithin
import Derived.Deep.RegionHeld3
import Derived.RegionTactic
namespace Go.Proofs.YtiipnifnejnhlaaDoor
open Go.RowKit

theorem good_any (w : World) : Calls Tryd.prog 36 #[] w fun e w' => e = .returned (.agg #[.int .i64 0, .int .i64 (-1)]) ∧ Below w.heap.size w w' := by
  go_enter Tryd.func36, Tryd.ntmps36
  go_wp2
  refine bodyPost_ret (v := .agg #[.int .i64 0, .int .i64 (-1)]) (by simp [results, Tryd.results36, go_sem]) rfl ?_
  exact ⟨rfl, (Below.refl _ _).alloc (Nat.le_refl _) _⟩
theorem baref_any (n : Int) (w : World) : Calls Tryd.prog 31 #[.int .i64 n] w fun e w' => e = .returned (.agg #[.int .i64 n, .int .i64 (-1)]) ∧ Below w.heap.size w w' := by
  go_enter Tryd.func31, Tryd.ntmps31
  go_wp2
  refine bodyPost_ret (v := .agg #[.int .i64 n, .int .i64 (-1)]) (by simp [results, Tryd.results31, go_sem]) rfl ?_
  exact ⟨rfl, (Below.refl _ _).alloc (Nat.le_refl _) _⟩
theorem is_any (e pl : Int) (w : World) : Calls Tryd.prog 30 #[.agg #[.int .i64 e, .int .i64 pl]] w fun r w' => r = .returned (.bool (e == 0)) ∧ Below w.heap.size w w' := by
  go_enter Tryd.func30, Tryd.ntmps30
  go_wp2
  go_ret
  exact ⟨rfl, (Below.refl _ _).alloc (Nat.le_refl _) _⟩

/-- An error's number and place, as a Fault. -/
def faultV (r : Nat × Int) : Value := .agg #[.int .i64 (r.1 : Nat), .int .i64 r.2]
theorem faultV_is {r : Nat × Int} {e : Nat} {pl : Int} (h : r = (e, pl)) : faultV r = .agg #[.int .i64 (e : Int), .int .i64 pl] := by rw [h]; rfl

set_option maxRecDepth 100000 in
set_option maxHeartbeats 4000000 in
theorem rvright_any (v : Value) (l : List Ent) (w : World) (hv : IsEnts w v l) (hl : l.length ≤ 9223372036854775807) :
    Calls Tryd.prog 29 #[v] w fun e w' => e = .returned (faultV (vrightF l)) ∧ Below w.heap.size w w' := by
  obtain ⟨a1, c1, rfl, f1⟩ := hv.form
  have F1 := Lib.hid f1
  obtain ⟨n, hn⟩ : ∃ n, n = l.length := ⟨_, rfl⟩
  rw [← hn] at hl ⊢
  have HN := Lib.hid hn
  clear hv f1 hn
  by_cases h16 : 16 < n
  · have HW : Hid (faultV (vrightF l) = .agg #[.int .i64 4, .int .i64 (-1)]) := Lib.hid (faultV_is (show vrightF l = (4, -1) by unfold vrightF; rw [if_pos (by rw [← HN.out]; exact h16)]))
    have h2 : 16 < (n : Int) := by omega
    rw [HW.out]
    go_enter Tryd.func29, Tryd.ntmps29
    go_wp2_with fail
    refine (baref_any 4 _).mono ?_
    rintro r w1 ⟨rfl, hb1⟩
    have hz1 := hb1.size
    rw [World.size_alloc] at hz1
    have d0 : w1.cell? ⟨w.heap.size, 0, none⟩ = some (.int .i64 0) := (hb1.cell (by simp)).trans (by simp)
    have d1 : w1.cell? ⟨w.heap.size, 1, none⟩ = some (.int .i64 0) := (hb1.cell (by simp)).trans (by simp)
    have g0 : w1.frozen? ⟨w.heap.size, 0, none⟩ = false := (hb1.frozen (by simp)).trans (by simp)
    have g1 : w1.frozen? ⟨w.heap.size, 1, none⟩ = false := (hb1.frozen (by simp)).trans (by simp)
    have HB1 : Hid (Below w.heap.size w w1) := ((Below.refl _ _).alloc (Nat.le_refl _) _).trans (hb1.mono (by simp))
    clear hb1
    go_wp2
    refine bodyPost_ret (v := .agg #[.int .i64 4, .int .i64 (-1)]) (by simp [results, Tryd.results29, go_sem, d0, d1]) rfl ?_
    exact ⟨rfl, (HB1.out.setCell (Nat.le_refl _) _).setCell (Nat.le_refl _) _⟩
  · have hvr : vrightF l = vr l 0 (-1) := by unfold vrightF; rw [if_neg (by rw [← HN.out]; exact h16)]
    rw [hvr]
    clear hvr
    go_enter Tryd.func29, Tryd.ntmps29
    go_wp2
    go_loopw [3, 12] (fun s i wr => ∃ (k : Nat) (last : Int), k ≤ n ∧ i = .int .i64 k ∧ s = .int .i64 last ∧ vr l 0 (-1) = vr (l.drop k) k last ∧ Below (w.heap.size + 1) (w.alloc (.cells #[.int .i64 0, .int .i64 0] 33)) wr) (fun _ i _ => n - (intOf i).toNat)
    case atStart => exact ⟨0, -1, by omega, rfl, rfl, rfl, Below.refl _ _⟩
    case round =>
      obtain ⟨k, last, hk, rfl, rfl, heq, hbel⟩ := hrel
      have HEQ := Lib.hid heq
      have HB := Lib.hid hbel
      have x0 : wr.cell? ⟨w.heap.size, 0, none⟩ = some (.int .i64 0) := (hbel.cell (by exact Nat.lt_succ_self _)).trans (by simp)
      have x1 : wr.cell? ⟨w.heap.size, 1, none⟩ = some (.int .i64 0) := (hbel.cell (by exact Nat.lt_succ_self _)).trans (by simp)
      have y0 : wr.frozen? ⟨w.heap.size, 0, none⟩ = false := (hbel.frozen (by exact Nat.lt_succ_self _)).trans (by simp)
      have y1 : wr.frozen? ⟨w.heap.size, 1, none⟩ = false := (hbel.frozen (by exact Nat.lt_succ_self _)).trans (by simp)
      have hzr := hbel.size
      rw [World.size_alloc] at hzr
      have HB0 : Hid (Below w.heap.size w wr) := ((Below.refl _ _).alloc (Nat.le_refl _) _).trans (HB.out.mono (Nat.le_succ _))
      clear heq hbel
      by_cases hlt : k < n
      · have hkl : k < l.length := by have := HN.out; omega
        obtain ⟨t, ht⟩ : ∃ t, l[k]? = some t := ⟨l[k], List.getElem?_eq_getElem hkl⟩
        obtain ⟨b1, o1, rfl, hb1, p0, p1⟩ := F1.out k t ht
        have hd : l.drop k = t :: l.drop (k + 1) := by
          rw [List.drop_eq_getElem_cons hkl]; congr 1
          rw [List.getElem?_eq_getElem hkl] at ht; exact Option.some.inj ht
        obtain ⟨rep, time⟩ := t
        simp only at p0 p1
        have q0 := (HB0.out.cell (p := ⟨b1, o1 + k * 2, none⟩) hb1).trans p0
        have q1 := (HB0.out.cell (p := ⟨b1, o1 + k * 2 + 1, none⟩) hb1).trans p1
        have HD := Lib.hid hd
        have hlt0 : w.heap.size < wr.heap.size := by omega
        clear p0 p1 ht hd hkl
        by_cases hr : rep < 0 ∨ 200 < rep ∨ time < 1 ∨ 1099511627776 < time
        · have HW : Hid (faultV (vr l 0 (-1)) = .agg #[.int .i64 2, .int .i64 k]) := Lib.hid (faultV_is (show vr l 0 (-1) = (2, (k : Int)) by
            have hw : wrE ⟨rep, time⟩ last = 2 := wrE_range hr
            rw [HEQ.out, HD.out, vr_bad (by rw [hw]; decide), hw]))
          have HR := Lib.hid hr
          clear hr HEQ
          by_cases h1 : rep < 0 ∨ 200 < rep
          · rcases h1 with h1 | h1
            · go_wp2_with fail
              refine (within_low rep 0 200 _ h1).mono ?_
              rintro r w' ⟨rfl, rfl⟩
              go_wp2
              refine bodyPost_ret (v := .agg #[.int .i64 2, .int .i64 k]) (by simp [results, Tryd.results29, go_sem, x0, x1, hlt0]) rfl ?_
              rw [HW.out]
              exact ⟨rfl, ((HB0.out.setCell (Nat.le_refl _) _).setCell (Nat.le_refl _) _).alloc (by simp; omega) _⟩
            · go_wp2_with fail
              refine (within_high rep 0 200 _ (by omega) h1).mono ?_
              rintro r w' ⟨rfl, rfl⟩
              go_wp2
              refine bodyPost_ret (v := .agg #[.int .i64 2, .int .i64 k]) (by simp [results, Tryd.results29, go_sem, x0, x1, hlt0]) rfl ?_
              rw [HW.out]
              exact ⟨rfl, ((HB0.out.setCell (Nat.le_refl _) _).setCell (Nat.le_refl _) _).alloc (by simp; omega) _⟩
          · by_cases h2 : time < 1
            · go_wp2_with fail
              refine (within_yes rep 0 200 _ (by omega) (by omega)).mono ?_
              rintro r w' ⟨rfl, rfl⟩
              go_wp2_with fail
              refine (within_low time 1 1099511627776 _ h2).mono ?_
              rintro r w' ⟨rfl, rfl⟩
              go_wp2
              refine bodyPost_ret (v := .agg #[.int .i64 2, .int .i64 k]) (by simp [results, Tryd.results29, go_sem, x0, x1, hlt0]) rfl ?_
              rw [HW.out]
              exact ⟨rfl, ((HB0.out.setCell (Nat.le_refl _) _).setCell (Nat.le_refl _) _).alloc (by simp; omega) _⟩
            · have h3 : 1099511627776 < time := by have := HR.out; omega
              go_wp2_with fail
              refine (within_yes rep 0 200 _ (by omega) (by omega)).mono ?_
              rintro r w' ⟨rfl, rfl⟩
              go_wp2_with fail
              refine (within_high time 1 1099511627776 _ (by omega) h3).mono ?_
              rintro r w' ⟨rfl, rfl⟩
              go_wp2
              refine bodyPost_ret (v := .agg #[.int .i64 2, .int .i64 k]) (by simp [results, Tryd.results29, go_sem, x0, x1, hlt0]) rfl ?_
              rw [HW.out]
              exact ⟨rfl, ((HB0.out.setCell (Nat.le_refl _) _).setCell (Nat.le_refl _) _).alloc (by simp; omega) _⟩
        · have g1 : 0 ≤ rep := by omega
          have g2 : rep ≤ 200 := by omega
          have g3 : 1 ≤ time := by omega
          have g4 : time ≤ 1099511627776 := by omega
          by_cases h5 : rep ≤ last
          · have HW : Hid (faultV (vr l 0 (-1)) = .agg #[.int .i64 10, .int .i64 k]) := Lib.hid (faultV_is (show vr l 0 (-1) = (10, (k : Int)) by
              have hw : wrE ⟨rep, time⟩ last = 10 := wrE_order hr h5
              rw [HEQ.out, HD.out, vr_bad (by rw [hw]; decide), hw]))
            clear hr HEQ
            go_wp2_with fail
            refine (within_yes rep 0 200 _ g1 g2).mono ?_
            rintro r w' ⟨rfl, rfl⟩
            go_wp2_with fail
            refine (within_yes time 1 1099511627776 _ g3 g4).mono ?_
            rintro r w' ⟨rfl, rfl⟩
            go_wp2
            refine bodyPost_ret (v := .agg #[.int .i64 10, .int .i64 k]) (by simp [results, Tryd.results29, go_sem, x0, x1, hlt0]) rfl ?_
            rw [HW.out]
            exact ⟨rfl, ((HB0.out.setCell (Nat.le_refl _) _).setCell (Nat.le_refl _) _).alloc (by simp; omega) _⟩
          · have HW : Hid (vr l 0 (-1) = vr (l.drop (k + 1)) (k + 1) rep) := Lib.hid (show vr l 0 (-1) = vr (l.drop (k + 1)) (k + 1) rep by
              rw [HEQ.out, HD.out, vr_good (wrE_fine hr h5)])
            clear hr HEQ
            go_wp2_with fail
            refine (within_yes rep 0 200 _ g1 g2).mono ?_
            rintro r w' ⟨rfl, rfl⟩
            go_wp2_with fail
            refine (within_yes time 1 1099511627776 _ g3 g4).mono ?_
            rintro r w' ⟨rfl, rfl⟩
            go_wp2
            go_roundw
            case rel => exact ⟨k + 1, rep, by omega, by go_num, rfl, HW.out, HB.out.alloc (by omega) _⟩
            case measure => simp [intOf]; omega
      · have HW : Hid (faultV (vr l 0 (-1)) = .agg #[.int .i64 0, .int .i64 (-1)]) := Lib.hid (faultV_is (show vr l 0 (-1) = (0, -1) by rw [HEQ.out, List.drop_eq_nil_of_le (by have := HN.out; omega)]; rfl))
        have hlt0 : w.heap.size < wr.heap.size := by omega
        clear HEQ
        go_wp2_with fail
        refine (good_any _).mono ?_
        rintro r w1 ⟨rfl, hb1⟩
        have d0 : w1.cell? ⟨w.heap.size, 0, none⟩ = some (.int .i64 0) := (hb1.cell hlt0).trans x0
        have d1 : w1.cell? ⟨w.heap.size, 1, none⟩ = some (.int .i64 0) := (hb1.cell hlt0).trans x1
        have g0 : w1.frozen? ⟨w.heap.size, 0, none⟩ = false := (hb1.frozen hlt0).trans y0
        have g1 : w1.frozen? ⟨w.heap.size, 1, none⟩ = false := (hb1.frozen hlt0).trans y1
        have HBW : Hid (Below w.heap.size w w1) := HB0.out.trans (hb1.mono (Nat.le_of_lt hlt0))
        clear hb1 x0 x1 y0 y1
        go_wp2
        refine bodyPost_ret (v := .agg #[.int .i64 0, .int .i64 (-1)]) (by simp [results, Tryd.results29, go_sem, d0, d1]) rfl ?_
        rw [HW.out]
        exact ⟨rfl, (HBW.out.setCell (Nat.le_refl _) _).setCell (Nat.le_refl _) _⟩
end Go.Proofs.YtiipnifnejnhlaaDoor
