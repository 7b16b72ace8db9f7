/-
  The contract of ident.Within.
-/
import Derived.Test.YtiipnifnejnhlaaDoorIdent
namespace Go.Proofs.YtiipnifnejnhlaaDoor
open Go.RowKit

set_option maxRecDepth 100000 in
set_option maxHeartbeats 2000000 in
theorem within_any (x1 x2 : Int) (vf vh : Value) (f h : List Ent) (w : World) (hf : IsEnts w vf f) (hh : IsEnts w vh h) (hlf : f.length ≤ 9223372036854775807) (hlh : h.length ≤ 9223372036854775807) (b : Bool) (hb : wiF (x1, x2) f h = b) :
    Calls Tryd.prog 25 #[.agg #[.int .i64 x1, .int .i64 x2], vf, vh] w fun e w' => e = .returned (.bool b) ∧ Below w.heap.size w w' := by
  subst hb
  obtain ⟨p, hp⟩ : ∃ p, ofF f x2 = p := ⟨_, rfl⟩
  obtain ⟨q, hq⟩ : ∃ q, ofF h x2 = q := ⟨_, rfl⟩
  have HP := Lib.hid hp
  have HQ := Lib.hid hq
  have HLF := Lib.hid hlf
  have HLH := Lib.hid hlh
  have HF : Hid (IsEnts (w.alloc (.cells #[.int .i64 x1, .int .i64 x2] 39)).drew vf f) := Lib.hid ((hf.alloc _).drewN 1)
  have HH : Hid (IsEnts (w.alloc (.cells #[.int .i64 x1, .int .i64 x2] 39)).drew vh h) := Lib.hid ((hh.alloc _).drewN 1)
  have c0 : (w.alloc (.cells #[.int .i64 x1, .int .i64 x2] 39)).cell? ⟨w.heap.size, 0, none⟩ = some (.int .i64 x1) ∧ (w.alloc (.cells #[.int .i64 x1, .int .i64 x2] 39)).cell? ⟨w.heap.size, 1, none⟩ = some (.int .i64 x2) := by simp
  have hval : wiF (x1, x2) f h = (decide (p < x1) && decide (x1 ≤ q)) := by unfold wiF; simp only; rw [hp, hq]
  have HB0 : Hid (Below w.heap.size w (w.alloc (.cells #[.int .i64 x1, .int .i64 x2] 39)).drew) := Lib.hid ((Below.refl _ _).alloc (Nat.le_refl _) _).drew
  by_cases h1 : p < x1
  · by_cases h2 : x1 ≤ q
    · have HW : Hid (wiF (x1, x2) f h = true) := Lib.hid (by rw [hval, decide_eq_true h1, decide_eq_true h2]; rfl)
      clear hf hh hp hq hlf hlh hval
      rw [HW.out]
      go_enter Tryd.func25, Tryd.ntmps25
      go_wp2
      go_region_held3 (fun w' => w'.cell? ⟨w.heap.size, 0, none⟩ = some (.int .i64 x1) ∧ w'.cell? ⟨w.heap.size, 1, none⟩ = some (.int .i64 x2)) (first | exact c0 | exact c2 | exact c3) (first
        | (go_at_call 44; ((with_reducible refine (vofI_as vf f x2 p _ HF.out HLF.out HP.out).mono ?_); rintro r w2 ⟨rfl, hb2⟩; have c2 : w2.cell? ⟨w.heap.size, 0, none⟩ = some (.int .i64 x1) ∧ w2.cell? ⟨w.heap.size, 1, none⟩ = some (.int .i64 x2) := ⟨(hb2.cell (by simp)).trans c0.1, (hb2.cell (by simp)).trans c0.2⟩; have HB2 : Hid (Below w.heap.size w w2) := (HB0.out.trans (hb2.mono (by simp))); have HH2 := Lib.hid (HH.out.below hb2); have HZ2 : Hid (w.heap.size < w2.heap.size) := (Nat.lt_of_lt_of_le (by simp) hb2.size); clear hb2))
        | (go_at_call 44; ((with_reducible refine (vofI_as vh h x2 q w2 HH2.out HLH.out HQ.out).mono ?_); rintro r w3 ⟨rfl, hb3⟩; have c3 : w3.cell? ⟨w.heap.size, 0, none⟩ = some (.int .i64 x1) ∧ w3.cell? ⟨w.heap.size, 1, none⟩ = some (.int .i64 x2) := ⟨(hb3.cell HZ2.out).trans c2.1, (hb3.cell HZ2.out).trans c2.2⟩; have HB3 : Hid (Below w.heap.size w w3) := (HB2.out.trans (hb3.mono HB2.out.size)); clear hb3)))
      go_wp2
      go_ret
      exact ⟨rfl, HB3.out⟩
    · have HW : Hid (wiF (x1, x2) f h = false) := Lib.hid (by rw [hval, decide_eq_true h1, decide_eq_false h2]; rfl)
      have d7 : decide (x1 ≤ q) = false := decide_eq_false h2
      clear hf hh hp hq hlf hlh hval h2
      rw [HW.out]
      go_enter Tryd.func25, Tryd.ntmps25
      go_wp2
      go_region_held3 (fun w' => w'.cell? ⟨w.heap.size, 0, none⟩ = some (.int .i64 x1) ∧ w'.cell? ⟨w.heap.size, 1, none⟩ = some (.int .i64 x2)) (first | exact c0 | exact c2 | exact c3) (first
        | (go_at_call 44; ((with_reducible refine (vofI_as vf f x2 p _ HF.out HLF.out HP.out).mono ?_); rintro r w2 ⟨rfl, hb2⟩; have c2 : w2.cell? ⟨w.heap.size, 0, none⟩ = some (.int .i64 x1) ∧ w2.cell? ⟨w.heap.size, 1, none⟩ = some (.int .i64 x2) := ⟨(hb2.cell (by simp)).trans c0.1, (hb2.cell (by simp)).trans c0.2⟩; have HB2 : Hid (Below w.heap.size w w2) := (HB0.out.trans (hb2.mono (by simp))); have HH2 := Lib.hid (HH.out.below hb2); have HZ2 : Hid (w.heap.size < w2.heap.size) := (Nat.lt_of_lt_of_le (by simp) hb2.size); clear hb2))
        | (go_at_call 44; ((with_reducible refine (vofI_as vh h x2 q w2 HH2.out HLH.out HQ.out).mono ?_); rintro r w3 ⟨rfl, hb3⟩; have c3 : w3.cell? ⟨w.heap.size, 0, none⟩ = some (.int .i64 x1) ∧ w3.cell? ⟨w.heap.size, 1, none⟩ = some (.int .i64 x2) := ⟨(hb3.cell HZ2.out).trans c2.1, (hb3.cell HZ2.out).trans c2.2⟩; have HB3 : Hid (Below w.heap.size w w3) := (HB2.out.trans (hb3.mono HB2.out.size)); clear hb3)))
      go_wp2
      go_ret
      exact ⟨rfl, HB3.out⟩
  · have HW : Hid (wiF (x1, x2) f h = false) := Lib.hid (by rw [hval, decide_eq_false h1]; rfl)
    have d6 : decide (p < x1) = false := decide_eq_false h1
    clear hf hh hp hq hlf hlh hval h1
    rw [HW.out]
    go_enter Tryd.func25, Tryd.ntmps25
    go_wp2
    refine wp_region_held_drew (S := fun w' => w'.cell? ⟨w.heap.size, 0, none⟩ = some (.int .i64 x1) ∧ w'.cell? ⟨w.heap.size, 1, none⟩ = some (.int .i64 x2)) (by kernel_rfl) c0 (fun hHeld => ?_)
    refine wpAnyH_take (i := 0) (v := ?v0) rfl (by kernel_rfl) (by kernel_rfl) (by kernel_rfl) (fun _ _ _ h => h) (Or.inl ⟨by rfl, ?h0⟩) (by assumption) ?r0
    case h0 => (intro W hSw; (try dsimp only at hSw); go_simp; all_goals (with_reducible rfl))
    try simp only [Act.put, List.getElem_toArray, List.getElem_cons_zero, List.setIfInBounds_toArray, List.set_cons_zero, List.set_cons_succ]
    refine wpAnyH_take (i := 1) (v := ?v1) rfl (by kernel_rfl) (by kernel_rfl) (by kernel_rfl) (fun _ _ _ h => h) (Or.inl ⟨by rfl, ?h1⟩) (by assumption) ?r1
    case h1 => (intro W hSw; (try dsimp only at hSw); go_simp; all_goals (with_reducible rfl))
    try simp only [Act.put, List.getElem_toArray, List.getElem_cons_zero, List.getElem_cons_succ, List.setIfInBounds_toArray, List.set_cons_zero, List.set_cons_succ]
    refine wpAnyH_take (i := 2) (v := ?v2) rfl (by kernel_rfl) (by kernel_rfl) (by kernel_rfl) (fun _ _ _ h => h) (Or.inl ⟨by rfl, ?h2⟩) (by assumption) ?r2
    case h2 => (intro W hSw; (try dsimp only at hSw); go_simp; all_goals (with_reducible rfl))
    try simp only [Act.put, List.getElem_toArray, List.getElem_cons_zero, List.getElem_cons_succ, List.setIfInBounds_toArray, List.set_cons_zero, List.set_cons_succ]
    refine wpAnyH_take (i := 3) (v := ?v3) rfl (by kernel_rfl) (by kernel_rfl) (by kernel_rfl) (fun _ _ _ h => h) (Or.inl ⟨by rfl, ?h3⟩) (by assumption) ?r3
    case h3 => (intro W hSw; (try dsimp only at hSw); go_simp; all_goals (with_reducible rfl))
    try simp only [Act.put, List.getElem_toArray, List.getElem_cons_zero, List.getElem_cons_succ, List.setIfInBounds_toArray, List.set_cons_zero, List.set_cons_succ]
    refine wpAnyH_take (i := 4) (v := ?v4) rfl (by kernel_rfl) (by kernel_rfl) (by kernel_rfl) (fun _ _ _ h => h) (Or.inl ⟨by rfl, ?h4⟩) (by assumption) ?r4
    case h4 => (intro W hSw; (try dsimp only at hSw); go_simp; all_goals (with_reducible rfl))
    try simp only [Act.put, List.getElem_toArray, List.getElem_cons_zero, List.getElem_cons_succ, List.setIfInBounds_toArray, List.set_cons_zero, List.set_cons_succ]
    refine wpAnyH_ready (rs := [5]) (by kernel_rfl) (by simp) ?_
    refine AllReadyH.cons rfl (fun K hK => ?_) AllReadyH.nil
    go_simp
    refine (vofI_as vf f x2 p _ HF.out HLF.out HP.out).mono ?_
    rintro r w2 ⟨rfl, hb2⟩
    have c2 : w2.cell? ⟨w.heap.size, 0, none⟩ = some (.int .i64 x1) ∧ w2.cell? ⟨w.heap.size, 1, none⟩ = some (.int .i64 x2) := ⟨(hb2.cell (by simp)).trans c0.1, (hb2.cell (by simp)).trans c0.2⟩
    have HB2 : Hid (Below w.heap.size w w2) := HB0.out.trans (hb2.mono (by simp))
    clear hb2
    refine hK.out _ _ c2 (fun hHeld2 => ?_)
    clear hK hHeld
    try simp only [Act.put, List.getElem_toArray, List.getElem_cons_zero, List.getElem_cons_succ, List.setIfInBounds_toArray, List.set_cons_zero, List.set_cons_succ]
    refine wpAnyH_take (i := 6) (v := ?v6) rfl (by kernel_rfl) (by kernel_rfl) (by kernel_rfl) (fun _ _ _ h => h) (Or.inl ⟨by rfl, ?h6⟩) (by assumption) ?r6
    case h6 => (intro W hSw; (try dsimp only at hSw); go_simp; all_goals (with_reducible rfl))
    try simp only [Act.put, List.getElem_toArray, List.getElem_cons_zero, List.getElem_cons_succ, List.setIfInBounds_toArray, List.set_cons_zero, List.set_cons_succ]
    refine wpAnyH_take (i := 7) (v := ?v7) rfl (by kernel_rfl) (by kernel_rfl) (by kernel_rfl) (fun _ _ _ h => h) (Or.inl ⟨by rfl, ?h7⟩) (by assumption) ?r7
    case h7 => (intro W hSw; (try dsimp only at hSw); go_simp; all_goals (with_reducible rfl))
    try simp only [Act.put, List.getElem_toArray, List.getElem_cons_zero, List.getElem_cons_succ, List.setIfInBounds_toArray, List.set_cons_zero, List.set_cons_succ]
    refine wpAnyH_take (i := 8) (v := undef) rfl (by kernel_rfl) (by kernel_rfl) (by kernel_rfl) (fun _ _ _ h => h) (Or.inr ⟨by rfl, rfl⟩) (by assumption) ?_
    try simp only [Act.put, List.getElem_toArray, List.getElem_cons_zero, List.getElem_cons_succ, List.setIfInBounds_toArray, List.set_cons_zero, List.set_cons_succ]
    refine wpAnyH_take (i := 10) (v := undef) rfl (by kernel_rfl) (by kernel_rfl) (by kernel_rfl) (fun _ _ _ h => h) (Or.inr ⟨by rfl, rfl⟩) (by assumption) ?_
    try simp only [Act.put, List.getElem_toArray, List.getElem_cons_zero, List.getElem_cons_succ, List.setIfInBounds_toArray, List.set_cons_zero, List.set_cons_succ]
    refine wpAnyH_take (i := 11) (v := undef) rfl (by kernel_rfl) (by kernel_rfl) (by kernel_rfl) (fun _ _ _ h => h) (Or.inr ⟨by rfl, rfl⟩) (by assumption) ?_
    try simp only [Act.put, List.getElem_toArray, List.getElem_cons_zero, List.getElem_cons_succ, List.setIfInBounds_toArray, List.set_cons_zero, List.set_cons_succ]
    refine wpAnyH_take (i := 9) (v := undef) rfl (by kernel_rfl) (by kernel_rfl) (by kernel_rfl) (fun _ _ _ h => h) (Or.inr ⟨by rfl, rfl⟩) (by assumption) ?_
    try simp only [Act.put, List.getElem_toArray, List.getElem_cons_zero, List.getElem_cons_succ, List.setIfInBounds_toArray, List.set_cons_zero, List.set_cons_succ]
    refine wpAnyH_take (i := 12) (v := undef) rfl (by kernel_rfl) (by kernel_rfl) (by kernel_rfl) (fun _ _ _ h => h) (Or.inr ⟨by rfl, rfl⟩) (by assumption) ?_
    try simp only [Act.put, List.getElem_toArray, List.getElem_cons_zero, List.getElem_cons_succ, List.setIfInBounds_toArray, List.set_cons_zero, List.set_cons_succ]
    refine wpAnyH_take (i := 13) (v := undef) rfl (by kernel_rfl) (by kernel_rfl) (by kernel_rfl) (fun _ _ _ h => h) (Or.inr ⟨by rfl, rfl⟩) (by assumption) ?_
    try simp only [Act.put, List.getElem_toArray, List.getElem_cons_zero, List.getElem_cons_succ, List.setIfInBounds_toArray, List.set_cons_zero, List.set_cons_succ]
    refine wpAnyH_take (i := 14) (v := undef) rfl (by kernel_rfl) (by kernel_rfl) (by kernel_rfl) (fun _ _ _ h => h) (Or.inr ⟨by rfl, rfl⟩) (by assumption) ?_
    try simp only [Act.put, List.getElem_toArray, List.getElem_cons_zero, List.getElem_cons_succ, List.setIfInBounds_toArray, List.set_cons_zero, List.set_cons_succ]
    refine wpAnyH_take (i := 15) (v := ?v15) rfl (by kernel_rfl) (by kernel_rfl) (by kernel_rfl) (fun _ _ _ h => h) (Or.inl ⟨by rfl, ?h15⟩) (by assumption) ?r15
    case h15 => (intro W hSw; (try dsimp only at hSw); go_simp; all_goals (with_reducible rfl))
    try simp only [Act.put, List.getElem_toArray, List.getElem_cons_zero, List.getElem_cons_succ, List.setIfInBounds_toArray, List.set_cons_zero, List.set_cons_succ]
    refine wpAnyH_take (i := 16) (v := ?v16) rfl (by kernel_rfl) (by kernel_rfl) (by kernel_rfl) (fun _ _ _ h => h) (Or.inl ⟨by rfl, ?h16⟩) (by assumption) ?r16
    case h16 => (intro W hSw; (try dsimp only at hSw); go_simp; all_goals (with_reducible rfl))
    try simp only [Act.put, List.getElem_toArray, List.getElem_cons_zero, List.getElem_cons_succ, List.setIfInBounds_toArray, List.set_cons_zero, List.set_cons_succ]
    refine wpAnyH_done (by kernel_rfl) ?_ _
    go_wp2
    go_ret
    exact ⟨rfl, HB2.out⟩
end Go.Proofs.YtiipnifnejnhlaaDoor
