/-
  The contracts of the document's Compare, IdRight, Within.
-/
import Derived.Test.YtiipnifnejnhlaaDoorIdWithin
namespace Go.Proofs.YtiipnifnejnhlaaDoor
open Go.RowKit

theorem cI_is (x1 x2 y1 y2 : Int) : cI (x1, x2) (y1, y2) = if x1 < y1 ∨ x1 = y1 ∧ x2 < y2 then -1 else if x1 = y1 ∧ x2 = y2 then 0 else 1 := by
  unfold cI orF cmpF
  simp only
  repeat' split
  all_goals omega

set_option maxRecDepth 100000 in
theorem rcmp_as (x1 x2 y1 y2 c : Int) (w : World) (h : cI (x1, x2) (y1, y2) = c) : Calls Tryd.prog 34 #[.agg #[.int .i64 x1, .int .i64 x2], .agg #[.int .i64 y1, .int .i64 y2]] w fun e w' => e = .returned (.int .i64 c) ∧ Below w.heap.size w w' := by
  subst h
  have hc := cI_is x1 x2 y1 y2
  by_cases h1 : x1 < y1
  · have HW : Hid (cI (x1, x2) (y1, y2) = -1) := Lib.hid (by rw [hc, if_pos (.inl h1)])
    clear hc
    go_enter Tryd.func34, Tryd.ntmps34
    go_wp2
    go_ret
    exact ⟨by rw [HW.out]; rfl, ((Below.refl _ _).alloc (Nat.le_refl _) _).alloc (by simp) _⟩
  · by_cases h2 : x1 = y1
    · subst h2
      by_cases h3 : x2 < y2
      · have HW : Hid (cI (x1, x2) (x1, y2) = -1) := Lib.hid (by rw [hc, if_pos (.inr ⟨rfl, h3⟩)])
        clear hc h1
        go_enter Tryd.func34, Tryd.ntmps34
        go_wp2
        go_ret
        exact ⟨by rw [HW.out]; rfl, ((Below.refl _ _).alloc (Nat.le_refl _) _).alloc (by simp) _⟩
      · by_cases h4 : x2 = y2
        · subst h4
          have HW : Hid (cI (x1, x2) (x1, x2) = 0) := Lib.hid (by rw [hc, if_neg (by omega), if_pos ⟨rfl, rfl⟩])
          clear hc h1 h3
          go_enter Tryd.func34, Tryd.ntmps34
          go_wp2
          go_ret
          exact ⟨by rw [HW.out]; rfl, ((Below.refl _ _).alloc (Nat.le_refl _) _).alloc (by simp) _⟩
        · have HW : Hid (cI (x1, x2) (x1, y2) = 1) := Lib.hid (by rw [hc, if_neg (by omega), if_neg (by omega)])
          have b1 : (x2 == y2) = false := by simpa using h4
          have d3 : y2 < x2 := by omega
          have d4 : decide (x2 < y2) = false := decide_eq_false h3
          clear hc h1 h3
          go_enter Tryd.func34, Tryd.ntmps34
          go_wp2
          go_ret
          exact ⟨by rw [HW.out]; rfl, ((Below.refl _ _).alloc (Nat.le_refl _) _).alloc (by simp) _⟩
    · have HW : Hid (cI (x1, x2) (y1, y2) = 1) := Lib.hid (by rw [hc, if_neg (by omega), if_neg (by omega)])
      have b1 : (x1 == y1) = false := by simpa using h2
      have d4 : decide (x1 < y1) = false := decide_eq_false h1
      clear hc
      go_enter Tryd.func34, Tryd.ntmps34
      go_wp2
      go_ret
      exact ⟨by rw [HW.out]; rfl, ((Below.refl _ _).alloc (Nat.le_refl _) _).alloc (by simp) _⟩

set_option maxRecDepth 100000 in
theorem ridright_as (x1 x2 : Int) (b : Bool) (w : World) (hb : idR (x1, x2) = b) :
    Calls Tryd.prog 51 #[.agg #[.int .i64 x1, .int .i64 x2]] w fun e w' => e = .returned (.bool b) ∧ Below w.heap.size w w' := by
  subst hb
  by_cases h1 : 1 ≤ x1 ∧ x1 ≤ 1099511627776
  · by_cases h2 : 0 ≤ x2 ∧ x2 ≤ 200
    · have HW : Hid (idR (x1, x2) = true) := Lib.hid (by unfold idR; exact decide_eq_true ⟨h1.1, h1.2, h2.1, h2.2⟩)
      go_enter Tryd.func51, Tryd.ntmps51
      go_wp2_with fail
      refine (within_yes x1 1 1099511627776 _ h1.1 h1.2).mono ?_
      rintro r w' ⟨rfl, rfl⟩
      go_wp2_with fail
      refine (within_yes x2 0 200 _ h2.1 h2.2).mono ?_
      rintro r w' ⟨rfl, rfl⟩
      go_wp2
      go_ret
      exact ⟨by rw [HW.out]; rfl, (Below.refl _ _).alloc (Nat.le_refl _) _⟩
    · have HW : Hid (idR (x1, x2) = false) := Lib.hid (by unfold idR; exact decide_eq_false (fun h => h2 h.2.2))
      by_cases h3 : x2 < 0
      · go_enter Tryd.func51, Tryd.ntmps51
        go_wp2_with fail
        refine (within_yes x1 1 1099511627776 _ h1.1 h1.2).mono ?_
        rintro r w' ⟨rfl, rfl⟩
        go_wp2_with fail
        refine (within_low x2 0 200 _ h3).mono ?_
        rintro r w' ⟨rfl, rfl⟩
        go_wp2
        go_ret
        exact ⟨by rw [HW.out]; rfl, (Below.refl _ _).alloc (Nat.le_refl _) _⟩
      · go_enter Tryd.func51, Tryd.ntmps51
        go_wp2_with fail
        refine (within_yes x1 1 1099511627776 _ h1.1 h1.2).mono ?_
        rintro r w' ⟨rfl, rfl⟩
        go_wp2_with fail
        refine (within_high x2 0 200 _ (by omega) (by omega)).mono ?_
        rintro r w' ⟨rfl, rfl⟩
        go_wp2
        go_ret
        exact ⟨by rw [HW.out]; rfl, (Below.refl _ _).alloc (Nat.le_refl _) _⟩
  · have HW : Hid (idR (x1, x2) = false) := Lib.hid (by unfold idR; exact decide_eq_false (fun h => h1 ⟨h.1, h.2.1⟩))
    by_cases h3 : x1 < 1
    · go_enter Tryd.func51, Tryd.ntmps51
      go_wp2_with fail
      refine (within_low x1 1 1099511627776 _ h3).mono ?_
      rintro r w' ⟨rfl, rfl⟩
      go_wp2
      go_ret
      exact ⟨by rw [HW.out]; rfl, (Below.refl _ _).alloc (Nat.le_refl _) _⟩
    · go_enter Tryd.func51, Tryd.ntmps51
      go_wp2_with fail
      refine (within_high x1 1 1099511627776 _ (by omega) (by omega)).mono ?_
      rintro r w' ⟨rfl, rfl⟩
      go_wp2
      go_ret
      exact ⟨by rw [HW.out]; rfl, (Below.refl _ _).alloc (Nat.le_refl _) _⟩

set_option maxRecDepth 100000 in
set_option maxHeartbeats 2000000 in
theorem rwithin_as (x1 x2 : Int) (vf vh : Value) (f h : List Ent) (w : World) (hf : IsEnts w vf f) (hh : IsEnts w vh h) (hlf : f.length ≤ 9223372036854775807) (hlh : h.length ≤ 9223372036854775807) (b : Bool) (hb : wiF (x1, x2) f h = b) :
    Calls Tryd.prog 35 #[.agg #[.int .i64 x1, .int .i64 x2], vf, vh] w fun e w' => e = .returned (.bool b) ∧ Below w.heap.size w w' := by
  subst hb
  obtain ⟨p, hp⟩ : ∃ p, ofF f x2 = p := ⟨_, rfl⟩
  obtain ⟨q, hq⟩ : ∃ q, ofF h x2 = q := ⟨_, rfl⟩
  have HP := Lib.hid hp
  have HQ := Lib.hid hq
  have HLF := Lib.hid hlf
  have HLH := Lib.hid hlh
  have HF : Hid (IsEnts (w.alloc (.cells #[.int .i64 x1, .int .i64 x2] 39)) vf f) := Lib.hid (hf.alloc _)
  have HH : Hid (IsEnts (w.alloc (.cells #[.int .i64 x1, .int .i64 x2] 39)) vh h) := Lib.hid (hh.alloc _)
  have hval : wiF (x1, x2) f h = (decide (p < x1) && decide (x1 ≤ q)) := by unfold wiF; simp only; rw [hp, hq]
  by_cases h1 : p < x1
  · by_cases h2 : x1 ≤ q
    · have HW : Hid (wiF (x1, x2) f h = true) := Lib.hid (by rw [hval, decide_eq_true h1, decide_eq_true h2]; rfl)
      clear hf hh hp hq hlf hlh hval
      rw [HW.out]
      go_enter Tryd.func35, Tryd.ntmps35
      go_wp2
      go_quiet ((first | (go_at_call 50; with_reducible exact rofI_q vf f x2 p _ _ HF.out HLF.out HP.out) | (go_at_call 50; with_reducible exact rofI_q vh h x2 q _ _ HH.out HLH.out HQ.out)))
      go_wp2
      go_ret
      exact ⟨rfl, below_drewN ((Below.refl _ _).alloc (Nat.le_refl _) _) _⟩
    · have HW : Hid (wiF (x1, x2) f h = false) := Lib.hid (by rw [hval, decide_eq_true h1, decide_eq_false h2]; rfl)
      have d7 : decide (x1 ≤ q) = false := decide_eq_false h2
      clear hf hh hp hq hlf hlh hval h2
      rw [HW.out]
      go_enter Tryd.func35, Tryd.ntmps35
      go_wp2
      go_quiet ((first | (go_at_call 50; with_reducible exact rofI_q vf f x2 p _ _ HF.out HLF.out HP.out) | (go_at_call 50; with_reducible exact rofI_q vh h x2 q _ _ HH.out HLH.out HQ.out)))
      go_wp2
      go_ret
      exact ⟨rfl, below_drewN ((Below.refl _ _).alloc (Nat.le_refl _) _) _⟩
  · have HW : Hid (wiF (x1, x2) f h = false) := Lib.hid (by rw [hval, decide_eq_false h1]; rfl)
    have d6 : decide (p < x1) = false := decide_eq_false h1
    clear hf hh hp hq hlf hlh hval h1
    rw [HW.out]
    go_enter Tryd.func35, Tryd.ntmps35
    go_wp2
    go_quiet ((first | (go_at_call 50; with_reducible exact rofI_q vf f x2 p _ _ HF.out HLF.out HP.out)))
    go_wp2
    go_ret
    exact ⟨rfl, below_drewN ((Below.refl _ _).alloc (Nat.le_refl _) _) _⟩
end Go.Proofs.YtiipnifnejnhlaaDoor
