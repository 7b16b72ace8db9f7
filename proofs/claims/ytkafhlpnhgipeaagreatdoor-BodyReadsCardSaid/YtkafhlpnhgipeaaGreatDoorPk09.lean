import Derived.Test.YtkafhlpnhgipeaaGreatDoorPk08
import Derived.Deep.QuietTactic
import Derived.BigQuiet
import Derived.Test.YtkafhlpnhgipeaaGreatDoorPk04
import Derived.Test.YtkafhlpnhgipeaaGreatDoorPk07
import Derived.Deep.RegionHeld3
import Derived.Test.YtkafhlpnhgipeaaGreatDoorPk06
/-
  The number of a replica's entry, as the reference finds it: sort.Search over a closure.
-/
namespace Go.Proofs.YtkafhlpnhgipeaaGreatDoor
open Go.RowKit

theorem okV_sorted {l : List Ent} : ∀ {last : Int} {i j : Nat} {a b : Ent}, okV last l → i < j → l[i]? = some a → l[j]? = some b → a.rep < b.rep := by
  induction l with
  | nil => intro last i j a b _ _ h _; simp at h
  | cons e r ih =>
    intro last i j a b ho hij hi hj
    cases j with
    | zero => omega
    | succ j =>
      rw [List.getElem?_cons_succ] at hj
      cases i with
      | zero =>
        simp only [List.getElem?_cons_zero, Option.some.injEq] at hi
        subst hi
        exact (okV_mem ho.2 b (List.mem_of_getElem? hj)).2.2.2.2
      | succ i =>
        rw [List.getElem?_cons_succ] at hi
        exact ih ho.2 (by omega) hi hj
/-- Below its place an entry's replica is less; from there on it is not. -/
theorem place_cut {h : List Ent} {last r : Int} {k : Nat} {x : Ent} (ho : okV last h) (hp : placeF h r < h.length) (hk : h[k]? = some x) : decide (x.rep ≥ r) = decide (placeF h r ≤ k) := by
  obtain ⟨e, he, hr⟩ := place_has hp
  rcases Nat.lt_trichotomy k (placeF h r) with h1 | h1 | h1
  · have := okV_sorted ho h1 hk he
    rw [decide_eq_false (by omega), decide_eq_false (by omega)]
  · rw [h1] at hk
    obtain rfl := Option.some.inj (hk.symm.trans he)
    rw [decide_eq_true (by omega), decide_eq_true (by omega)]
  · have := okV_sorted ho h1 he hk
    rw [decide_eq_true (by omega), decide_eq_true (by omega)]

/-- What the closure reads: a batch's entries, a write's replica. -/
def srchAt (w : World) (B X : Nat) (v : Value) (r : Int) : Prop := w.cell? ⟨B, 1, none⟩ = some v ∧ w.cell? ⟨X, 1, none⟩ = some (.int .i64 r)
set_option maxRecDepth 100000 in
theorem body1_any (k B X : Nat) (a : Option Addr) (n c : Nat) (h : List Ent) (r : Int) (q : Bool) (x : Ent) (w : World) (hs : srchAt w B X (.slice a n c) r) (hv : IsEnts w (.slice a n c) h) (hn : n = h.length) (hk : h[k]? = some x) (hq : decide (x.rep ≥ r) = q) :
    Calls Tryz.prog 19 #[.int .i64 k, .pointer (some ⟨B, 0, none⟩), .pointer (some ⟨X, 0, none⟩)] w fun e w' => e = .returned (.bool q) ∧ ∃ m, w' = w.drewN m := by
  obtain ⟨a1, c1, e1, f1⟩ := hv.form
  injection e1 with e1 _ e3
  subst e1 e3
  obtain ⟨b1, o1, rfl, hb1, p0, p1⟩ := f1 k x hk
  obtain ⟨s0, s1⟩ := hs
  have hk1 : (k : Int) < (n : Int) := by have := (List.getElem?_eq_some_iff.1 hk).1; omega
  have hk0 : (0 : Int) ≤ (k : Int) := by omega
  clear f1 hv hk hn
  go_enter Tryz.func19, Tryz.ntmps19
  go_wp2
  go_quiet (fail)
  go_wp2
  go_ret
  exact ⟨by first | rfl | (rw [hq]), _, rfl⟩

set_option maxRecDepth 100000 in
set_option maxHeartbeats 2000000 in
theorem search_any (B X : Nat) (a : Option Addr) (n c : Nat) (h : List Ent) (last r : Int) (p : Nat) (w : World) (hs : srchAt w B X (.slice a n c) r) (hv : IsEnts w (.slice a n c) h) (hn : n = h.length) (hl : n ≤ 1000) (ho : okV last h) (hp : placeF h r = p) (hpl : p < n) :
    Calls Tryz.prog 18 #[.int .i64 n, .func (.func 19) #[] #[.pointer (some ⟨B, 0, none⟩), .pointer (some ⟨X, 0, none⟩)]] w fun e w' => e = .returned (.int .i64 p) ∧ ∃ m, w' = w.drewN m := by
  have HS := Lib.hid hs
  have HV := Lib.hid hv
  have HN := Lib.hid hn
  have HO := Lib.hid ho
  have HP := Lib.hid hp
  clear hs hv hn ho hp
  go_enter Tryz.func18, Tryz.ntmps18
  go_wp2
  go_loopw [5, 6] (fun i j wr => ∃ k e : Nat, i = .int .i64 k ∧ j = .int .i64 e ∧ k ≤ p ∧ p ≤ e ∧ e ≤ n ∧ ∃ m, wr = w.drewN m) (fun i j _ => (intOf j - intOf i).toNat)
  case atStart => exact ⟨0, n, rfl, rfl, by omega, by omega, by omega, 0, rfl⟩
  case round =>
    obtain ⟨k, e, rfl, rfl, h1, h2, h3, m, rfl⟩ := hrel
    by_cases hlt : k < e
    · obtain ⟨d, hd⟩ : ∃ d, d = (k + e) / 2 := ⟨_, rfl⟩
      obtain ⟨x, hx⟩ : ∃ x, h[d]? = some x := ⟨h[d]'(by have := HN.out; omega), List.getElem?_eq_getElem _⟩
      have hc : decide (x.rep ≥ r) = decide (p ≤ d) := by
        rw [← HP.out]
        exact place_cut HO.out (by rw [HP.out, ← HN.out]; omega) hx
      have HX := Lib.hid hx
      have HC := Lib.hid hc
      clear hx hc
      go_wp2_with fail
      rw [show ((k : Int) + (e : Int)) / 2 = (d : Int) by omega]
      have HM : Hid (∀ q, decide (p ≤ d) = q → Calls Tryz.prog 19 #[.int .i64 d, .pointer (some ⟨B, 0, none⟩), .pointer (some ⟨X, 0, none⟩)] (w.drewN m) fun e w' => e = .returned (.bool q) ∧ ∃ m2, w' = (w.drewN m).drewN m2) := Lib.hid (fun q hq => body1_any d B X a n c h r q x _ HS.out (HV.out.drewN m) HN.out HX.out (HC.out.trans hq))
      by_cases hle : p ≤ d
      · refine (HM.out true (decide_eq_true hle)).mono ?_
        rintro rr w2 ⟨rfl, m2, rfl⟩
        rw [World.drewN_drewN]
        go_wp2
        go_roundw
        case rel => exact ⟨k, d, rfl, by go_num, h1, hle, by omega, _, rfl⟩
        case measure => simp [intOf]; omega
      · refine (HM.out false (decide_eq_false hle)).mono ?_
        rintro rr w2 ⟨rfl, m2, rfl⟩
        rw [World.drewN_drewN]
        go_wp2
        go_roundw
        case rel => exact ⟨d + 1, e, by go_num, rfl, by omega, h2, h3, _, rfl⟩
        case measure => simp [intOf]; omega
    · obtain rfl : k = p := by omega
      go_wp2
      go_ret
      exact ⟨rfl, _, rfl⟩
end Go.Proofs.YtkafhlpnhgipeaaGreatDoor
/-
  The contract of ident.Within.
-/
namespace Go.Proofs.YtkafhlpnhgipeaaGreatDoor
open Go.RowKit

set_option maxRecDepth 100000 in
set_option maxHeartbeats 2000000 in
theorem within_any (x1 x2 : Int) (vf vh : Value) (f h : List Ent) (w : World) (hf : IsEnts w vf f) (hh : IsEnts w vh h) (hlf : f.length ≤ 9223372036854775807) (hlh : h.length ≤ 9223372036854775807) (b : Bool) (hb : wiF (x1, x2) f h = b) :
    Calls Tryz.prog 114 #[.agg #[.int .i64 x1, .int .i64 x2], vf, vh] w fun e w' => e = .returned (.bool b) ∧ Below w.heap.size w w' := by
  subst hb
  obtain ⟨p, hp⟩ : ∃ p, ofF f x2 = p := ⟨_, rfl⟩
  obtain ⟨q, hq⟩ : ∃ q, ofF h x2 = q := ⟨_, rfl⟩
  have HP := Lib.hid hp
  have HQ := Lib.hid hq
  have HLF := Lib.hid hlf
  have HLH := Lib.hid hlh
  have HF : Hid (IsEnts (w.alloc (.cells #[.int .i64 x1, .int .i64 x2] 44)).drew vf f) := Lib.hid ((hf.alloc _).drewN 1)
  have HH : Hid (IsEnts (w.alloc (.cells #[.int .i64 x1, .int .i64 x2] 44)).drew vh h) := Lib.hid ((hh.alloc _).drewN 1)
  have c0 : (w.alloc (.cells #[.int .i64 x1, .int .i64 x2] 44)).cell? ⟨w.heap.size, 0, none⟩ = some (.int .i64 x1) ∧ (w.alloc (.cells #[.int .i64 x1, .int .i64 x2] 44)).cell? ⟨w.heap.size, 1, none⟩ = some (.int .i64 x2) := by simp
  have hval : wiF (x1, x2) f h = (decide (p < x1) && decide (x1 ≤ q)) := by unfold wiF; simp only; rw [hp, hq]
  have HB0 : Hid (Below w.heap.size w (w.alloc (.cells #[.int .i64 x1, .int .i64 x2] 44)).drew) := Lib.hid ((Below.refl _ _).alloc (Nat.le_refl _) _).drew
  by_cases h1 : p < x1
  · by_cases h2 : x1 ≤ q
    · have HW : Hid (wiF (x1, x2) f h = true) := Lib.hid (by rw [hval, decide_eq_true h1, decide_eq_true h2]; rfl)
      clear hf hh hp hq hlf hlh hval
      rw [HW.out]
      go_enter Tryz.func114, Tryz.ntmps114
      go_wp2
      go_region_held3 (fun w' => w'.cell? ⟨w.heap.size, 0, none⟩ = some (.int .i64 x1) ∧ w'.cell? ⟨w.heap.size, 1, none⟩ = some (.int .i64 x2)) (first | exact c0 | exact c2 | exact c3) (first
        | (go_at_call 131; ((with_reducible refine (vofI_as vf f x2 p _ HF.out HLF.out HP.out).mono ?_); rintro r w2 ⟨rfl, hb2⟩; have c2 : w2.cell? ⟨w.heap.size, 0, none⟩ = some (.int .i64 x1) ∧ w2.cell? ⟨w.heap.size, 1, none⟩ = some (.int .i64 x2) := ⟨(hb2.cell (by simp)).trans c0.1, (hb2.cell (by simp)).trans c0.2⟩; have HB2 : Hid (Below w.heap.size w w2) := (HB0.out.trans (hb2.mono (by simp))); have HH2 := Lib.hid (HH.out.below hb2); have HZ2 : Hid (w.heap.size < w2.heap.size) := (Nat.lt_of_lt_of_le (by simp) hb2.size); clear hb2))
        | (go_at_call 131; ((with_reducible refine (vofI_as vh h x2 q w2 HH2.out HLH.out HQ.out).mono ?_); rintro r w3 ⟨rfl, hb3⟩; have c3 : w3.cell? ⟨w.heap.size, 0, none⟩ = some (.int .i64 x1) ∧ w3.cell? ⟨w.heap.size, 1, none⟩ = some (.int .i64 x2) := ⟨(hb3.cell HZ2.out).trans c2.1, (hb3.cell HZ2.out).trans c2.2⟩; have HB3 : Hid (Below w.heap.size w w3) := (HB2.out.trans (hb3.mono HB2.out.size)); clear hb3)))
      go_wp2
      go_ret
      exact ⟨rfl, HB3.out⟩
    · have HW : Hid (wiF (x1, x2) f h = false) := Lib.hid (by rw [hval, decide_eq_true h1, decide_eq_false h2]; rfl)
      have d7 : decide (x1 ≤ q) = false := decide_eq_false h2
      clear hf hh hp hq hlf hlh hval h2
      rw [HW.out]
      go_enter Tryz.func114, Tryz.ntmps114
      go_wp2
      go_region_held3 (fun w' => w'.cell? ⟨w.heap.size, 0, none⟩ = some (.int .i64 x1) ∧ w'.cell? ⟨w.heap.size, 1, none⟩ = some (.int .i64 x2)) (first | exact c0 | exact c2 | exact c3) (first
        | (go_at_call 131; ((with_reducible refine (vofI_as vf f x2 p _ HF.out HLF.out HP.out).mono ?_); rintro r w2 ⟨rfl, hb2⟩; have c2 : w2.cell? ⟨w.heap.size, 0, none⟩ = some (.int .i64 x1) ∧ w2.cell? ⟨w.heap.size, 1, none⟩ = some (.int .i64 x2) := ⟨(hb2.cell (by simp)).trans c0.1, (hb2.cell (by simp)).trans c0.2⟩; have HB2 : Hid (Below w.heap.size w w2) := (HB0.out.trans (hb2.mono (by simp))); have HH2 := Lib.hid (HH.out.below hb2); have HZ2 : Hid (w.heap.size < w2.heap.size) := (Nat.lt_of_lt_of_le (by simp) hb2.size); clear hb2))
        | (go_at_call 131; ((with_reducible refine (vofI_as vh h x2 q w2 HH2.out HLH.out HQ.out).mono ?_); rintro r w3 ⟨rfl, hb3⟩; have c3 : w3.cell? ⟨w.heap.size, 0, none⟩ = some (.int .i64 x1) ∧ w3.cell? ⟨w.heap.size, 1, none⟩ = some (.int .i64 x2) := ⟨(hb3.cell HZ2.out).trans c2.1, (hb3.cell HZ2.out).trans c2.2⟩; have HB3 : Hid (Below w.heap.size w w3) := (HB2.out.trans (hb3.mono HB2.out.size)); clear hb3)))
      go_wp2
      go_ret
      exact ⟨rfl, HB3.out⟩
  · have HW : Hid (wiF (x1, x2) f h = false) := Lib.hid (by rw [hval, decide_eq_false h1]; rfl)
    have d6 : decide (p < x1) = false := decide_eq_false h1
    clear hf hh hp hq hlf hlh hval h1
    rw [HW.out]
    go_enter Tryz.func114, Tryz.ntmps114
    go_wp2
    refine wp_region_held_drew (S := fun w' => w'.cell? ⟨w.heap.size, 0, none⟩ = some (.int .i64 x1) ∧ w'.cell? ⟨w.heap.size, 1, none⟩ = some (.int .i64 x2)) (by kernel_rfl) c0 (fun hHeld => ?_)
    refine wpAnyH_take (i := 0) (v := ?v0) rfl (by kernel_rfl) (by kernel_rfl) (by kernel_rfl) (fun _ _ _ h => h) (Or.inl ⟨by rfl, ?h0⟩) (by assumption) ?r0
    case h0 => (intro W hSw; (try dsimp only at hSw); go_simp; all_goals (with_reducible rfl))
    try simp only [Act.put, List.getElem_toArray, List.getElem_cons_zero, List.setIfInBounds_toArray, List.set_cons_zero, List.set_cons_succ]
    refine wpAnyH_take (i := 1) (v := ?v1) rfl (by kernel_rfl) (by kernel_rfl) (by kernel_rfl) (fun _ _ _ h => h) (Or.inl ⟨by rfl, ?h1⟩) (by assumption) ?r1
    case h1 => (intro W hSw; (try dsimp only at hSw); go_simp; all_goals (with_reducible rfl))
    try simp only [Act.put, List.getElem_toArray, List.getElem_cons_zero, List.getElem_cons_succ, List.setIfInBounds_toArray, List.set_cons_zero, List.set_cons_succ]
    refine wpAnyH_take (i := 2) (v := ?v2) rfl (by kernel_rfl) (by kernel_rfl) (by kernel_rfl) (fun _ _ _ h => h) (Or.inl ⟨by rfl, ?h2⟩) (by assumption) ?r2
    case h2 => (intro W hSw; (try dsimp only at hSw); go_simp; all_goals (with_reducible rfl))
    try simp only [Act.put, List.getElem_toArray, List.getElem_cons_zero, List.getElem_cons_succ, List.setIfInBounds_toArray, List.set_cons_zero, List.set_cons_succ]
    refine wpAnyH_take (i := 3) (v := ?v3) rfl (by kernel_rfl) (by kernel_rfl) (by kernel_rfl) (fun _ _ _ h => h) (Or.inl ⟨by rfl, ?h3⟩) (by assumption) ?r3
    case h3 => (intro W hSw; (try dsimp only at hSw); go_simp; all_goals (with_reducible rfl))
    try simp only [Act.put, List.getElem_toArray, List.getElem_cons_zero, List.getElem_cons_succ, List.setIfInBounds_toArray, List.set_cons_zero, List.set_cons_succ]
    refine wpAnyH_take (i := 4) (v := ?v4) rfl (by kernel_rfl) (by kernel_rfl) (by kernel_rfl) (fun _ _ _ h => h) (Or.inl ⟨by rfl, ?h4⟩) (by assumption) ?r4
    case h4 => (intro W hSw; (try dsimp only at hSw); go_simp; all_goals (with_reducible rfl))
    try simp only [Act.put, List.getElem_toArray, List.getElem_cons_zero, List.getElem_cons_succ, List.setIfInBounds_toArray, List.set_cons_zero, List.set_cons_succ]
    refine wpAnyH_ready (rs := [5]) (by kernel_rfl) (by simp) ?_
    refine AllReadyH.cons rfl (fun K hK => ?_) AllReadyH.nil
    go_simp
    refine (vofI_as vf f x2 p _ HF.out HLF.out HP.out).mono ?_
    rintro r w2 ⟨rfl, hb2⟩
    have c2 : w2.cell? ⟨w.heap.size, 0, none⟩ = some (.int .i64 x1) ∧ w2.cell? ⟨w.heap.size, 1, none⟩ = some (.int .i64 x2) := ⟨(hb2.cell (by simp)).trans c0.1, (hb2.cell (by simp)).trans c0.2⟩
    have HB2 : Hid (Below w.heap.size w w2) := HB0.out.trans (hb2.mono (by simp))
    clear hb2
    refine hK.out _ _ c2 (fun hHeld2 => ?_)
    clear hK hHeld
    try simp only [Act.put, List.getElem_toArray, List.getElem_cons_zero, List.getElem_cons_succ, List.setIfInBounds_toArray, List.set_cons_zero, List.set_cons_succ]
    refine wpAnyH_take (i := 6) (v := ?v6) rfl (by kernel_rfl) (by kernel_rfl) (by kernel_rfl) (fun _ _ _ h => h) (Or.inl ⟨by rfl, ?h6⟩) (by assumption) ?r6
    case h6 => (intro W hSw; (try dsimp only at hSw); go_simp; all_goals (with_reducible rfl))
    try simp only [Act.put, List.getElem_toArray, List.getElem_cons_zero, List.getElem_cons_succ, List.setIfInBounds_toArray, List.set_cons_zero, List.set_cons_succ]
    refine wpAnyH_take (i := 7) (v := ?v7) rfl (by kernel_rfl) (by kernel_rfl) (by kernel_rfl) (fun _ _ _ h => h) (Or.inl ⟨by rfl, ?h7⟩) (by assumption) ?r7
    case h7 => (intro W hSw; (try dsimp only at hSw); go_simp; all_goals (with_reducible rfl))
    try simp only [Act.put, List.getElem_toArray, List.getElem_cons_zero, List.getElem_cons_succ, List.setIfInBounds_toArray, List.set_cons_zero, List.set_cons_succ]
    refine wpAnyH_take (i := 8) (v := undef) rfl (by kernel_rfl) (by kernel_rfl) (by kernel_rfl) (fun _ _ _ h => h) (Or.inr ⟨by rfl, rfl⟩) (by assumption) ?_
    try simp only [Act.put, List.getElem_toArray, List.getElem_cons_zero, List.getElem_cons_succ, List.setIfInBounds_toArray, List.set_cons_zero, List.set_cons_succ]
    refine wpAnyH_take (i := 10) (v := undef) rfl (by kernel_rfl) (by kernel_rfl) (by kernel_rfl) (fun _ _ _ h => h) (Or.inr ⟨by rfl, rfl⟩) (by assumption) ?_
    try simp only [Act.put, List.getElem_toArray, List.getElem_cons_zero, List.getElem_cons_succ, List.setIfInBounds_toArray, List.set_cons_zero, List.set_cons_succ]
    refine wpAnyH_take (i := 11) (v := undef) rfl (by kernel_rfl) (by kernel_rfl) (by kernel_rfl) (fun _ _ _ h => h) (Or.inr ⟨by rfl, rfl⟩) (by assumption) ?_
    try simp only [Act.put, List.getElem_toArray, List.getElem_cons_zero, List.getElem_cons_succ, List.setIfInBounds_toArray, List.set_cons_zero, List.set_cons_succ]
    refine wpAnyH_take (i := 9) (v := undef) rfl (by kernel_rfl) (by kernel_rfl) (by kernel_rfl) (fun _ _ _ h => h) (Or.inr ⟨by rfl, rfl⟩) (by assumption) ?_
    try simp only [Act.put, List.getElem_toArray, List.getElem_cons_zero, List.getElem_cons_succ, List.setIfInBounds_toArray, List.set_cons_zero, List.set_cons_succ]
    refine wpAnyH_take (i := 12) (v := undef) rfl (by kernel_rfl) (by kernel_rfl) (by kernel_rfl) (fun _ _ _ h => h) (Or.inr ⟨by rfl, rfl⟩) (by assumption) ?_
    try simp only [Act.put, List.getElem_toArray, List.getElem_cons_zero, List.getElem_cons_succ, List.setIfInBounds_toArray, List.set_cons_zero, List.set_cons_succ]
    refine wpAnyH_take (i := 13) (v := undef) rfl (by kernel_rfl) (by kernel_rfl) (by kernel_rfl) (fun _ _ _ h => h) (Or.inr ⟨by rfl, rfl⟩) (by assumption) ?_
    try simp only [Act.put, List.getElem_toArray, List.getElem_cons_zero, List.getElem_cons_succ, List.setIfInBounds_toArray, List.set_cons_zero, List.set_cons_succ]
    refine wpAnyH_take (i := 14) (v := undef) rfl (by kernel_rfl) (by kernel_rfl) (by kernel_rfl) (fun _ _ _ h => h) (Or.inr ⟨by rfl, rfl⟩) (by assumption) ?_
    try simp only [Act.put, List.getElem_toArray, List.getElem_cons_zero, List.getElem_cons_succ, List.setIfInBounds_toArray, List.set_cons_zero, List.set_cons_succ]
    refine wpAnyH_take (i := 15) (v := ?v15) rfl (by kernel_rfl) (by kernel_rfl) (by kernel_rfl) (fun _ _ _ h => h) (Or.inl ⟨by rfl, ?h15⟩) (by assumption) ?r15
    case h15 => (intro W hSw; (try dsimp only at hSw); go_simp; all_goals (with_reducible rfl))
    try simp only [Act.put, List.getElem_toArray, List.getElem_cons_zero, List.getElem_cons_succ, List.setIfInBounds_toArray, List.set_cons_zero, List.set_cons_succ]
    refine wpAnyH_take (i := 16) (v := ?v16) rfl (by kernel_rfl) (by kernel_rfl) (by kernel_rfl) (fun _ _ _ h => h) (Or.inl ⟨by rfl, ?h16⟩) (by assumption) ?r16
    case h16 => (intro W hSw; (try dsimp only at hSw); go_simp; all_goals (with_reducible rfl))
    try simp only [Act.put, List.getElem_toArray, List.getElem_cons_zero, List.getElem_cons_succ, List.setIfInBounds_toArray, List.set_cons_zero, List.set_cons_succ]
    refine wpAnyH_done (by kernel_rfl) ?_ _
    go_wp2
    go_ret
    exact ⟨rfl, HB2.out⟩
end Go.Proofs.YtkafhlpnhgipeaaGreatDoor
/-
  The fact that the laws of ids ask first ('ordered').
-/
namespace Go.Proofs.YtkafhlpnhgipeaaGreatDoor
open Go.RowKit

theorem within_as (x1 x2 : Int) (vf vh : Value) (f h : List Ent) (b : Bool) (w : World) (hf : IsEnts w vf f) (hh : IsEnts w vh h) (hlf : f.length ≤ 9223372036854775807) (hlh : h.length ≤ 9223372036854775807) (hb : wiF (x1, x2) f h = b) :
    Calls Tryz.prog 114 #[.agg #[.int .i64 x1, .int .i64 x2], vf, vh] w fun e w' => e = .returned (.bool b) ∧ Below w.heap.size w w' := within_any x1 x2 vf vh f h w hf hh hlf hlh b hb

def okE : List Ent := [⟨1, 2⟩]
theorem okE_is (w : World) : IsEnts (w.alloc (.cells #[.int .i64 1, .int .i64 2] 60)) (.slice (some ⟨w.heap.size, 0, none⟩) 1 1) okE := by
  refine .inr ⟨w.heap.size, 0, 1, rfl, ⟨by decide, by decide⟩, by simp, fun j u hj => ?_⟩
  rw [Nat.zero_add, cell_of_row _ _ j _ _ (0, 0) (heap_alloc_new w _)]
  have e : entsC okE = [.int .i64 1, .int .i64 2] := rfl
  rw [e] at hj
  simpa using hj

end Go.Proofs.YtkafhlpnhgipeaaGreatDoor
/-
  The contracts of vector.Covers and of the laws' 'few'.
-/
namespace Go.Proofs.YtkafhlpnhgipeaaGreatDoor
open Go.RowKit

theorem vof_as (v : Value) (l : List Ent) (x y : Int) (w : World) (hv : IsEnts w v l) (hl : l.length ≤ 9223372036854775807) (h : ofF l x = y) :
    Calls Tryz.prog 131 #[v, .int .i64 x] w fun r w' => r = .returned (.int .i64 y) ∧ Below w.heap.size w w' := by
  subst h; exact vof_any v l x w hv hl
theorem covA_drop {a b : List Ent} {k : Nat} {t : Ent} (h : b[k]? = some t) : covA a (b.drop k) = (decide (t.time ≤ ofF a t.rep) && covA a (b.drop (k + 1))) := by
  obtain ⟨hk, ht⟩ := List.getElem?_eq_some_iff.1 h
  rw [List.drop_eq_getElem_cons hk, ht]; rfl

set_option maxRecDepth 100000 in
set_option maxHeartbeats 4000000 in
theorem vcov_any (va vb : Value) (a b : List Ent) (w : World) (ha : IsEnts w va a) (hb : IsEnts w vb b) (hla : a.length ≤ 9223372036854775807) (hlb : b.length ≤ 9223372036854775807) :
    Calls Tryz.prog 112 #[va, vb] w fun r w' => r = .returned (.bool (covB a b)) ∧ Below w.heap.size w w' := by
  have HVA := Lib.hid ha
  have HVB := Lib.hid hb
  have HLA := Lib.hid hla
  have HLB := Lib.hid hlb
  obtain ⟨aa, ca, rfl, _⟩ := ha.form
  obtain ⟨ab, cb, rfl, fb⟩ := hb.form
  have FB := Lib.hid fb
  obtain ⟨na, hna⟩ : ∃ n, n = a.length := ⟨_, rfl⟩
  obtain ⟨nb, hnb⟩ : ∃ n, n = b.length := ⟨_, rfl⟩
  have HNB := Lib.hid hnb
  rw [← hna] at HVA ⊢
  rw [← hnb] at HVB ⊢
  clear ha hb hla hlb fb hna hnb
  by_cases h1 : (vrightF a).1 = 0
  · by_cases h2 : (vrightF b).1 = 0
    · have H1 := Lib.hid h1
      have H2 := Lib.hid h2
      have HC : Hid (covB a b = covA a b) := Lib.hid (show covB a b = covA a b by unfold covB; rw [h1, h2]; simp)
      have h16 : nb ≤ 16 := by rw [HNB.out]; exact ((vright_ok b).1 h2).1
      clear h1 h2
      rw [HC.out]
      go_enter Tryz.func112, Tryz.ntmps112
      go_wp2_with fail
      refine (vright_any _ a _ HVA.out HLA.out).mono ?_
      rintro r w1 ⟨err, rfl, hat, hb1⟩
      obtain rfl := hat.nil H1.out
      have HB1 := Lib.hid hb1
      clear hat hb1
      go_wp2_with fail
      refine (vright_any _ b _ (HVB.out.below HB1.out) HLB.out).mono ?_
      rintro r w2 ⟨err, rfl, hat, hb2⟩
      obtain rfl := hat.nil H2.out
      have HB2 : Hid (Below w.heap.size w w2) := HB1.out.trans (hb2.mono HB1.out.size)
      clear hat hb2
      go_wp2
      go_loopw [17] (fun i wr => ∃ k : Nat, k ≤ nb ∧ i = .int .i64 k ∧ covA a b = covA a (b.drop k) ∧ Below w.heap.size w wr) (fun i _ => nb - (intOf i).toNat)
      case atStart => exact ⟨0, by omega, rfl, rfl, HB2.out⟩
      case round =>
        obtain ⟨k, hk, rfl, heq, hbel⟩ := hrel
        have HEQ := Lib.hid heq
        have HB := Lib.hid hbel
        have hzr := hbel.size
        clear heq hbel
        by_cases hlt : k < nb
        · obtain ⟨t, ht⟩ : ∃ t, b[k]? = some t := ⟨b[k]'(by have := HNB.out; omega), List.getElem?_eq_getElem _⟩
          obtain ⟨b1, o1, rfl, hb1, p0, p1⟩ := FB.out k t ht
          have hd := covA_drop (a := a) ht
          obtain ⟨rep, time⟩ := t
          simp only at p0 p1 hd
          have q0 := (HB.out.cell (p := ⟨b1, o1 + k * 2, none⟩) hb1).trans p0
          have q1 := (HB.out.cell (p := ⟨b1, o1 + k * 2 + 1, none⟩) hb1).trans p1
          obtain ⟨x, hx⟩ : ∃ x, ofF a rep = x := ⟨_, rfl⟩
          rw [hx] at hd
          have HX := Lib.hid hx
          have HV1 : Hid (IsEnts (wr.alloc (.cells #[.int .i64 rep, .int .i64 time] 60)).drew (.slice aa na ca) a) := Lib.hid (((HVA.out.below HB.out).alloc _).drewN 1)
          have c0 : (wr.alloc (.cells #[.int .i64 rep, .int .i64 time] 60)).cell? ⟨wr.heap.size, 0, none⟩ = some (.int .i64 rep) ∧ (wr.alloc (.cells #[.int .i64 rep, .int .i64 time] 60)).cell? ⟨wr.heap.size, 1, none⟩ = some (.int .i64 time) := by simp
          by_cases hlx : x < time
          · have HW : Hid (covA a b = false) := Lib.hid (show covA a b = false by rw [HEQ.out, hd, decide_eq_false (by omega), Bool.false_and])
            clear p0 p1 ht hd hx
            go_wp2
            go_region_held3 (fun w' => w'.cell? ⟨wr.heap.size, 0, none⟩ = some (.int .i64 rep) ∧ w'.cell? ⟨wr.heap.size, 1, none⟩ = some (.int .i64 time)) (first | exact c0 | exact c2) (first | (go_at_call 131; ((with_reducible refine (vof_as _ a rep x _ HV1.out HLA.out HX.out).mono ?_); rintro r w2 ⟨rfl, hb2⟩; have c2 : w2.cell? ⟨wr.heap.size, 0, none⟩ = some (.int .i64 rep) ∧ w2.cell? ⟨wr.heap.size, 1, none⟩ = some (.int .i64 time) := ⟨(hb2.cell (by simp)).trans c0.1, (hb2.cell (by simp)).trans c0.2⟩; have HB2 : Hid (Below w.heap.size w w2) := ((HB.out.alloc hzr _).drew.trans (hb2.mono (by simp; omega))); clear hb2)))
            go_wp2
            go_ret
            exact ⟨by rw [HW.out]; rfl, HB2.out⟩
          · have HW : Hid (covA a b = covA a (b.drop (k + 1))) := Lib.hid (show covA a b = covA a (b.drop (k + 1)) by rw [HEQ.out, hd, decide_eq_true (by omega), Bool.true_and])
            clear p0 p1 ht hd hx
            go_wp2
            go_region_held3 (fun w' => w'.cell? ⟨wr.heap.size, 0, none⟩ = some (.int .i64 rep) ∧ w'.cell? ⟨wr.heap.size, 1, none⟩ = some (.int .i64 time)) (first | exact c0 | exact c2) (first | (go_at_call 131; ((with_reducible refine (vof_as _ a rep x _ HV1.out HLA.out HX.out).mono ?_); rintro r w2 ⟨rfl, hb2⟩; have c2 : w2.cell? ⟨wr.heap.size, 0, none⟩ = some (.int .i64 rep) ∧ w2.cell? ⟨wr.heap.size, 1, none⟩ = some (.int .i64 time) := ⟨(hb2.cell (by simp)).trans c0.1, (hb2.cell (by simp)).trans c0.2⟩; have HB2 : Hid (Below w.heap.size w w2) := ((HB.out.alloc hzr _).drew.trans (hb2.mono (by simp; omega))); clear hb2)))
            go_wp2
            go_roundw
            case rel => exact ⟨k + 1, by omega, by go_num, HW.out, HB2.out⟩
            case measure => simp [intOf]; omega
        · have HW : Hid (covA a b = true) := Lib.hid (show covA a b = true by rw [HEQ.out, List.drop_eq_nil_of_le (by have := HNB.out; omega)]; rfl)
          go_wp2
          go_ret
          exact ⟨by rw [HW.out]; rfl, HB.out⟩
    · have H1 := Lib.hid h1
      have H2 := Lib.hid h2
      have HC : Hid (covB a b = false) := Lib.hid (show covB a b = false by unfold covB; rw [decide_eq_false h2]; simp)
      clear h1 h2
      rw [HC.out]
      go_enter Tryz.func112, Tryz.ntmps112
      go_wp2_with fail
      refine (vright_any _ a _ HVA.out HLA.out).mono ?_
      rintro r w1 ⟨err, rfl, hat, hb1⟩
      obtain rfl := hat.nil H1.out
      have HB1 := Lib.hid hb1
      clear hat hb1
      go_wp2_with fail
      refine (vright_any _ b _ (HVB.out.below HB1.out) HLB.out).mono ?_
      rintro r w2 ⟨err, rfl, hat, hb2⟩
      obtain ⟨t, u, rfl⟩ := hat.iface H2.out
      have HB2 : Hid (Below w.heap.size w w2) := HB1.out.trans (hb2.mono HB1.out.size)
      clear hat hb2
      go_wp2
      go_ret
      exact ⟨rfl, HB2.out⟩
  · have H1 := Lib.hid h1
    have HC : Hid (covB a b = false) := Lib.hid (show covB a b = false by unfold covB; rw [decide_eq_false h1]; simp)
    clear h1
    rw [HC.out]
    go_enter Tryz.func112, Tryz.ntmps112
    go_wp2_with fail
    refine (vright_any _ a _ HVA.out HLA.out).mono ?_
    rintro r w1 ⟨err, rfl, hat, hb1⟩
    obtain ⟨t, u, rfl⟩ := hat.iface H1.out
    have HB1 := Lib.hid hb1
    clear hat hb1
    go_wp2
    go_ret
    exact ⟨rfl, HB1.out⟩
end Go.Proofs.YtkafhlpnhgipeaaGreatDoor
/-
  The contracts of batch.wrong, batch.bounds, batch.Right.
-/
namespace Go.Proofs.YtkafhlpnhgipeaaGreatDoor
open Go.RowKit

theorem errV_ok : errV 0 = .nilIface := rfl
theorem errV_no {e : Nat} (h : e ≠ 0) : errV e = .iface 27 (.int .i64 e) := by unfold errV; rw [if_neg h]
/-- The three cells of a batch. -/
def batAt (w : World) (B : Nat) (vf vh vw : Value) : Prop :=
  w.cell? ⟨B, 0, none⟩ = some vf ∧ w.cell? ⟨B, 1, none⟩ = some vh ∧ w.cell? ⟨B, 2, none⟩ = some vw
theorem batAt.below {w w' : World} {B : Nat} {vf vh vw : Value} {m : Nat} (h : batAt w B vf vh vw) (hb : Below m w w') (hm : B < m) : batAt w' B vf vh vw :=
  ⟨(hb.cell hm).trans h.1, (hb.cell hm).trans h.2.1, (hb.cell hm).trans h.2.2⟩
theorem batAt_new (w : World) (vf vh vw : Value) (t : TypeId) : batAt (w.alloc (.cells #[vf, vh, vw] t)) w.heap.size vf vh vw := by
  unfold batAt; simp
theorem wright_as (x : Wr) (e : Nat) (w : World) (hk : x.key.size ≤ 140737488351232) (hv : x.value.size ≤ 140737488351232) (he : wE x = e) :
    Calls Tryz.prog 93 #[.agg #[.int .i64 x.time, .int .i64 x.rep, .int .i64 x.kind, .string x.key, .string x.value, .int .i64 x.n]] w fun r w' => r = .returned (errV e) ∧ Below w.heap.size w w' := by
  subst he; exact wright_any x.time x.rep x.kind x.key x.value x.n w hk hv

set_option maxRecDepth 100000 in
set_option maxHeartbeats 4000000 in
theorem bwrong_any (vf vh vw : Value) (f h : List Ent) (l : List Wr) (k : Nat) (x : Wr) (p : Option Wr) (e : Nat) (w : World) (hf : IsEnts w vf f) (hh : IsEnts w vh h) (hv : IsWrs w vw l) (hlf : f.length ≤ 9223372036854775807) (hlh : h.length ≤ 9223372036854775807) (hl : l.length ≤ 60)
    (hx : l[k]? = some x) (hp : (k = 0 ∧ p = none) ∨ ∃ j q, k = j + 1 ∧ l[j]? = some q ∧ p = some q) (hok : ∀ t ∈ l, WrOk t) (hg : errT w) (he : bwE f h p x = e) :
    Calls Tryz.prog 82 #[.agg #[vf, vh, vw], .int .i64 (k : Int)] w fun r w' => r = .returned (.int .i64 (e : Nat)) ∧ Below w.heap.size w w' := by
  have HF := Lib.hid hf
  have HH := Lib.hid hh
  have HG := Lib.hid hg
  have HLF := Lib.hid hlf
  have HLH := Lib.hid hlh
  obtain ⟨aw, cw, rfl, fw⟩ := hv.form
  have FW := Lib.hid fw
  obtain ⟨n, hn⟩ : ∃ n, n = l.length := ⟨_, rfl⟩
  rw [← hn] at hl ⊢
  have hkn : k < n := by rw [hn]; exact (List.getElem?_eq_some_iff.1 hx).1
  obtain ⟨b1, o1, rfl, hb1, p0, p1, p2, p3, p4, p5⟩ := fw k x hx
  have HOK := Lib.hid (hok x (List.mem_of_getElem? hx))
  obtain ⟨ew, hew⟩ : ∃ ew, wE x = ew := ⟨_, rfl⟩
  have HEW := Lib.hid hew
  have HE := Lib.hid he
  have HP := Lib.hid hp
  clear hf hh hg hlf hlh hv fw hn hx hp hok he hew
  go_enter Tryz.func82, Tryz.ntmps82
  go_wp2_with fail
  refine (wright_as x ew _ HOK.out.2.2.1 HOK.out.2.2.2 HEW.out).mono ?_
  rintro r w1 ⟨rfl, hb2⟩
  have hz1 : w.heap.size + 1 < w1.heap.size := by have := hb2.size; simp at this; omega
  have HZ1 := Lib.hid hz1
  have HBA1 : Hid (batAt w1 w.heap.size vf vh (.slice (some ⟨b1, o1, none⟩) n cw)) := Lib.hid (((batAt_new w vf vh (.slice (some ⟨b1, o1, none⟩) n cw) 25).below ((Below.refl _ _).alloc (Nat.le_refl _) _) (by simp)).below hb2 (by simp; omega))
  have HWA1 : Hid (wrAt w1 (w.heap.size + 1) x.time x.rep x.kind x.key x.value x.n) := Lib.hid ((by simpa using wrAt_new (w.alloc (.cells #[vf, vh, .slice (some ⟨b1, o1, none⟩) n cw] 25)) x.time x.rep x.kind x.key x.value x.n 46 : wrAt _ (w.heap.size + 1) x.time x.rep x.kind x.key x.value x.n).below hb2 (by simp))
  have HB1 : Hid (Below w.heap.size w w1) := Lib.hid ((((Below.refl _ _).alloc (Nat.le_refl _) _).alloc (by simp) _).trans (hb2.mono (by simp; omega)))
  clear hb2 p0 p1 p2 p3 p4 p5 hz1
  by_cases h0 : ew = 0
  · subst h0
    rw [errV_ok]
    have hla : lateO p x ∨ ¬ lateO p x := Classical.em _
    rcases HP.out with ⟨hk0, hp0⟩ | ⟨j, q, hkj, hq, hpq⟩
    · subst hk0 hp0
      obtain ⟨b, hb⟩ : ∃ b, wiF (x.time, x.rep) f h = b := ⟨_, rfl⟩
      have HWI := Lib.hid hb
      have HR : Hid (e = if b = true then 0 else 6) := Lib.hid (by
        rw [← HE.out]
        cases b with
        | true => rw [bwE_fine (p := none) HEW.out trivial hb]; rfl
        | false => rw [bwE_state (p := none) HEW.out trivial hb]; rfl)
      clear hb hla
      obtain ⟨c0, c1, c2, c3, c4, c5⟩ := HWA1.out
      obtain ⟨d0, d1, d2⟩ := HBA1.out
      go_wp2
      go_quiet (fail)
      go_wp2_with fail
      refine (within_as x.time x.rep vf vh f h b _ (HF.out.below (below_drewN HB1.out _)) (HH.out.below (below_drewN HB1.out _)) HLF.out HLH.out HWI.out).mono ?_
      rintro r w2 ⟨rfl, hb2⟩
      have HB2 : Hid (Below w.heap.size w w2) := (below_drewN HB1.out _).trans (hb2.mono HB1.out.size)
      clear hb2 c0 c1 c2 c3 c4 c5 d0 d1 d2
      cases b with
      | true =>
        go_wp2
        go_ret
        exact ⟨by rw [HR.out]; rfl, HB2.out⟩
      | false =>
        go_wp2
        go_ret
        exact ⟨by rw [HR.out]; rfl, HB2.out⟩
    · obtain ⟨b2, o2, hbo, _, q0, q1, _⟩ := FW.out j q hq
      simp only [Option.some.injEq, Addr.mk.injEq, and_true] at hbo
      obtain ⟨rfl, rfl⟩ := hbo
      have r0 := (HB1.out.cell (p := ⟨b1, o1 + j * 6, none⟩) hb1).trans q0
      have r1 := (HB1.out.cell (p := ⟨b1, o1 + j * 6 + 1, none⟩) hb1).trans q1
      have HK := Lib.hid hkj
      have hj1 : (k : Int) - 1 = (j : Int) := by omega
      have hj2 : IntKind.i64.wrap ((k : Int) - 1) = (j : Int) := by rw [hj1]; exact IntWalk.i64_in _ (by omega)
      have hj3 : IntKind.i64.wrap (j : Int) = (j : Int) := IntWalk.i64_in _ (by omega)
      have hk0 : (0 : Int) < (k : Int) := by omega
      have z1 : 0 < k := by omega
      have z2 : decide (0 < k) = true := by simp; omega
      have z3 : decide ((0 : Int) < (k : Int)) = true := by simp; omega
      have hjn : (j : Int) < (n : Int) := by omega
      have hjn' : j < n := by omega
      have hj0 : (0 : Int) ≤ (j : Int) := by omega
      obtain ⟨c, hc⟩ : ∃ c, cI (x.time, x.rep) (q.time, q.rep) = c := ⟨_, rfl⟩
      have HC := Lib.hid hc
      have hc3 : c = -1 ∨ c = 0 ∨ c = 1 := by rw [← hc]; exact cI_three _ _ _ _
      obtain ⟨c0, c1, c2, c3, c4, c5⟩ := HWA1.out
      obtain ⟨d0, d1, d2⟩ := HBA1.out
      subst hpq
      clear q0 q1 hq hkj hc hla
      have hb1' : b1 < w1.heap.size := Nat.lt_of_lt_of_le hb1 HB1.out.size
      have k1 : w1.cell? ⟨w.heap.size + 1, 0, none⟩ = some (.int .i64 x.time) ∧ w1.cell? ⟨w.heap.size + 1, 1, none⟩ = some (.int .i64 x.rep) ∧ w1.cell? ⟨w.heap.size, 2, none⟩ = some (.slice (some ⟨b1, o1, none⟩) n cw) ∧ w1.cell? ⟨b1, o1 + j * 6, none⟩ = some (.int .i64 q.time) ∧ w1.cell? ⟨b1, o1 + j * 6 + 1, none⟩ = some (.int .i64 q.rep) := ⟨c0, c1, d2, r0, r1⟩
      by_cases hcl : c = 1
      · subst hcl
        obtain ⟨b, hb⟩ : ∃ b, wiF (x.time, x.rep) f h = b := ⟨_, rfl⟩
        have HWI := Lib.hid hb
        have HR : Hid (e = if b = true then 0 else 6) := Lib.hid (by
          rw [← HE.out]
          cases b with
          | true => rw [bwE_fine (p := some q) HEW.out HC.out hb]; rfl
          | false => rw [bwE_state (p := some q) HEW.out HC.out hb]; rfl)
        clear hb hc3
        go_wp2
        go_region_held3 (fun w' => w'.cell? ⟨w.heap.size + 1, 0, none⟩ = some (.int .i64 x.time) ∧ w'.cell? ⟨w.heap.size + 1, 1, none⟩ = some (.int .i64 x.rep) ∧ w'.cell? ⟨w.heap.size, 2, none⟩ = some (.slice (some ⟨b1, o1, none⟩) n cw) ∧ w'.cell? ⟨b1, o1 + j * 6, none⟩ = some (.int .i64 q.time) ∧ w'.cell? ⟨b1, o1 + j * 6 + 1, none⟩ = some (.int .i64 q.rep)) (first | exact k1 | exact k2 | fail) (first | (go_at_call 113; ((with_reducible refine (idcmp_as x.time x.rep q.time q.rep 1 _ HC.out).mono ?_); rintro r w2 ⟨rfl, hb2⟩; have HB2 : Hid (Below w1.heap.size w1 w2) := Lib.hid (undrew3 hb2); have k2 : w2.cell? ⟨w.heap.size + 1, 0, none⟩ = some (.int .i64 x.time) ∧ w2.cell? ⟨w.heap.size + 1, 1, none⟩ = some (.int .i64 x.rep) ∧ w2.cell? ⟨w.heap.size, 2, none⟩ = some (.slice (some ⟨b1, o1, none⟩) n cw) ∧ w2.cell? ⟨b1, o1 + j * 6, none⟩ = some (.int .i64 q.time) ∧ w2.cell? ⟨b1, o1 + j * 6 + 1, none⟩ = some (.int .i64 q.rep) := ⟨(HB2.out.cell HZ1.out).trans c0, (HB2.out.cell HZ1.out).trans c1, (HB2.out.cell (Nat.lt_of_succ_lt HZ1.out)).trans d2, (HB2.out.cell hb1').trans r0, (HB2.out.cell hb1').trans r1⟩; clear hb2)) | fail)
        obtain ⟨e0, e1, e2, e3, e4⟩ := k2
        have g0 := (HB2.out.cell (p := ⟨w.heap.size, 0, none⟩) (Nat.lt_of_succ_lt HZ1.out)).trans d0
        have g1 := (HB2.out.cell (p := ⟨w.heap.size, 1, none⟩) (Nat.lt_of_succ_lt HZ1.out)).trans d1
        go_wp2_with fail
        have HB3 : Hid (Below w.heap.size w w2) := HB1.out.trans (HB2.out.mono HB1.out.size)
        refine (within_as x.time x.rep vf vh f h b _ (HF.out.below HB3.out) (HH.out.below HB3.out) HLF.out HLH.out HWI.out).mono ?_
        rintro r w3 ⟨rfl, hb3⟩
        have HB4 : Hid (Below w.heap.size w w3) := HB3.out.trans (hb3.mono HB3.out.size)
        clear hb3 k1 e0 e1 e2 e3 e4 g0 g1 c0 c1 c2 c3 c4 c5 d0 d1 d2
        cases b with
        | true =>
          go_wp2
          go_ret
          exact ⟨by rw [HR.out]; rfl, HB4.out⟩
        | false =>
          go_wp2
          go_ret
          exact ⟨by rw [HR.out]; rfl, HB4.out⟩
      · have HR : Hid (e = 10) := Lib.hid (by rw [← HE.out, bwE_order (p := some q) HEW.out (fun hl => hcl (HC.out.symm.trans hl))])
        have y1 : c ≤ 0 := by omega
        have y2 : decide (c ≤ 0) = true := by simp; omega
        clear hc3 hcl
        go_wp2
        go_region_held3 (fun w' => w'.cell? ⟨w.heap.size + 1, 0, none⟩ = some (.int .i64 x.time) ∧ w'.cell? ⟨w.heap.size + 1, 1, none⟩ = some (.int .i64 x.rep) ∧ w'.cell? ⟨w.heap.size, 2, none⟩ = some (.slice (some ⟨b1, o1, none⟩) n cw) ∧ w'.cell? ⟨b1, o1 + j * 6, none⟩ = some (.int .i64 q.time) ∧ w'.cell? ⟨b1, o1 + j * 6 + 1, none⟩ = some (.int .i64 q.rep)) (first | exact k1 | exact k2 | fail) (first | (go_at_call 113; ((with_reducible refine (idcmp_as x.time x.rep q.time q.rep c _ HC.out).mono ?_); rintro r w2 ⟨rfl, hb2⟩; have HB2 : Hid (Below w1.heap.size w1 w2) := Lib.hid (undrew3 hb2); have k2 : w2.cell? ⟨w.heap.size + 1, 0, none⟩ = some (.int .i64 x.time) ∧ w2.cell? ⟨w.heap.size + 1, 1, none⟩ = some (.int .i64 x.rep) ∧ w2.cell? ⟨w.heap.size, 2, none⟩ = some (.slice (some ⟨b1, o1, none⟩) n cw) ∧ w2.cell? ⟨b1, o1 + j * 6, none⟩ = some (.int .i64 q.time) ∧ w2.cell? ⟨b1, o1 + j * 6 + 1, none⟩ = some (.int .i64 q.rep) := ⟨(HB2.out.cell HZ1.out).trans c0, (HB2.out.cell HZ1.out).trans c1, (HB2.out.cell (Nat.lt_of_succ_lt HZ1.out)).trans d2, (HB2.out.cell hb1').trans r0, (HB2.out.cell hb1').trans r1⟩; clear hb2)) | fail)
        go_wp2
        go_ret
        exact ⟨by rw [HR.out]; rfl, HB1.out.trans (HB2.out.mono HB1.out.size)⟩
  · have HR : Hid (e = ew) := Lib.hid (by rw [← HE.out, bwE_w HEW.out h0])
    rw [errV_no h0]
    go_wp2_with fail
    refine (tell_err _ (ew : Int) _ (HG.out.below HB1.out) (.inl rfl)).mono ?_
    rintro r w2 ⟨rfl, hb2⟩
    have HB2 : Hid (Below w.heap.size w w2) := HB1.out.trans (hb2.mono HB1.out.size)
    clear hb2
    go_wp2
    go_ret
    exact ⟨by rw [HR.out]; rfl, HB2.out⟩
end Go.Proofs.YtkafhlpnhgipeaaGreatDoor
/-
  The contracts of batch.bounds and batch.Right.
-/
namespace Go.Proofs.YtkafhlpnhgipeaaGreatDoor
open Go.RowKit

theorem idxB_0 (x y : Value) (w : World) : (Instr.index 183 (.agg #[x, y]) (.int .i64 0)).run Tryz.prog w = .ok x w := by kernel_rfl
theorem idxB_1 (x y : Value) (w : World) : (Instr.index 183 (.agg #[x, y]) (.int .i64 1)).run Tryz.prog w = .ok y w := by kernel_rfl
theorem bcov_as (va vb : Value) (a b : List Ent) (x : Bool) (w : World) (ha : IsEnts w va a) (hb : IsEnts w vb b) (hla : a.length ≤ 9223372036854775807) (hlb : b.length ≤ 9223372036854775807) (hx : covB a b = x) :
    Calls Tryz.prog 112 #[va, vb] w fun r w' => r = .returned (.bool x) ∧ Below w.heap.size w w' := by
  subst hx; exact vcov_any va vb a b w ha hb hla hlb

set_option maxRecDepth 100000 in
set_option maxHeartbeats 4000000 in
theorem bbounds_any (vf vh vw : Value) (f h : List Ent) (l : List Wr) (w : World) (hf : IsEnts w vf f) (hh : IsEnts w vh h) (hv : IsWrs w vw l) (hlf : f.length ≤ 9223372036854775807) (hlh : h.length ≤ 9223372036854775807) (hg : errT w) :
    Calls Tryz.prog 81 #[.agg #[vf, vh, vw]] w fun r w' => r = .returned (errV (bbE f h)) ∧ Below w.heap.size w w' := by
  have HF := Lib.hid hf
  have HH := Lib.hid hh
  have HG := Lib.hid hg
  have HLF := Lib.hid hlf
  have HLH := Lib.hid hlh
  obtain ⟨af, cf, rfl, _⟩ := hf.form
  obtain ⟨ah, ch, rfl, _⟩ := hh.form
  obtain ⟨aw, cw, rfl, _⟩ := hv.form
  obtain ⟨nf, hnf⟩ : ∃ n, n = f.length := ⟨_, rfl⟩
  obtain ⟨nh, hnh⟩ : ∃ n, n = h.length := ⟨_, rfl⟩
  obtain ⟨n, hn⟩ : ∃ n, n = l.length := ⟨_, rfl⟩
  rw [← hnf] at HF ⊢
  rw [← hnh] at HH ⊢
  rw [← hn]
  have HA := Lib.hid (batAt_new w (.slice af nf cf) (.slice ah nh ch) (.slice aw n cw) 25)
  have HW0 : Hid (Below w.heap.size w (w.alloc (.cells #[.slice af nf cf, .slice ah nh ch, .slice aw n cw] 25))) := Lib.hid ((Below.refl _ _).alloc (Nat.le_refl _) _)
  have HZ : Hid (w.heap.size < (w.alloc (.cells #[.slice af nf cf, .slice ah nh ch, .slice aw n cw] 25)).heap.size) := Lib.hid (by simp)
  have i0 := idxB_0
  have i1 := idxB_1
  clear hf hh hv hg hlf hlh hnf hnh hn
  go_enter Tryz.func81, Tryz.ntmps81
  go_wp2
  generalize w.alloc (.cells #[.slice af nf cf, .slice ah nh ch, .slice aw n cw] 25) = W at HA HW0 HZ ⊢
  have HE : Hid (∀ w', Below W.heap.size W w' → Below w.heap.size w w') := Lib.hid (fun w' hx => HW0.out.trans (hx.mono HW0.out.size))
  go_loopw [11] (fun i wr => ∃ k : Nat, k ≤ 2 ∧ i = .int .i64 k ∧ (k = 0 ∨ (k = 1 ∧ (vrightF f).1 = 0) ∨ (k = 2 ∧ (vrightF f).1 = 0 ∧ (vrightF h).1 = 0)) ∧ Below W.heap.size W wr) (fun i _ => 2 - (intOf i).toNat)
  case atStart => exact ⟨0, by omega, rfl, .inl rfl, Below.refl _ _⟩
  case round =>
    obtain ⟨k, hk, rfl, hj, hbel⟩ := hrel
    have HB := Lib.hid hbel
    clear hbel
    rcases hj with rfl | ⟨rfl, h1⟩ | ⟨rfl, h1, h2⟩
    · by_cases h1 : (vrightF f).1 = 0
      · have H1 := Lib.hid h1
        clear h1
        go_wp2_with fail
        refine (vright_any _ f _ (HF.out.below (HE.out _ HB.out)) HLF.out).mono ?_
        rintro r w1 ⟨err, rfl, hat, hb1⟩
        obtain rfl := hat.nil H1.out
        have HB1 : Hid (Below W.heap.size W w1) := HB.out.trans (hb1.mono HB.out.size)
        clear hat hb1
        go_wp2
        go_roundw
        case rel => exact ⟨1, by omega, by go_num, .inr (.inl ⟨rfl, H1.out⟩), HB1.out⟩
        case measure => simp [intOf]
      · have H1 := Lib.hid h1
        have HR : Hid (bbE f h = (vrightF f).1) := Lib.hid (by unfold bbE; rw [if_pos h1])
        have HQ := Lib.hid (errV_no h1)
        clear h1
        go_wp2_with fail
        refine (vright_any _ f _ (HF.out.below (HE.out _ HB.out)) HLF.out).mono ?_
        rintro r w1 ⟨err, rfl, hat, hb1⟩
        have HER := Lib.hid (hat.isErr H1.out)
        obtain ⟨t, u, rfl⟩ := hat.iface H1.out
        have HB1 : Hid (Below W.heap.size W w1) := HB.out.trans (hb1.mono HB.out.size)
        clear hat hb1
        go_wp2_with fail
        refine (tell_err _ _ _ (HG.out.below (HE.out _ HB1.out)) HER.out).mono ?_
        rintro r w2 ⟨rfl, hb2⟩
        have HB2 : Hid (Below W.heap.size W w2) := HB1.out.trans (hb2.mono HB1.out.size)
        clear hb2
        go_wp2
        go_ret
        exact ⟨by rw [HR.out, HQ.out]; rfl, HE.out _ HB2.out⟩
    · by_cases h2 : (vrightF h).1 = 0
      · have H2 := Lib.hid h2
        have H1 := Lib.hid h1
        clear h2 h1
        go_wp2_with fail
        refine (vright_any _ h _ (HH.out.below (HE.out _ HB.out)) HLH.out).mono ?_
        rintro r w1 ⟨err, rfl, hat, hb1⟩
        obtain rfl := hat.nil H2.out
        have HB1 : Hid (Below W.heap.size W w1) := HB.out.trans (hb1.mono HB.out.size)
        clear hat hb1
        go_wp2
        go_roundw
        case rel => exact ⟨2, by omega, by go_num, .inr (.inr ⟨rfl, H1.out, H2.out⟩), HB1.out⟩
        case measure => simp [intOf]
      · have H2 := Lib.hid h2
        have HR : Hid (bbE f h = (vrightF h).1) := Lib.hid (by unfold bbE; rw [if_neg (by simpa using h1), if_pos h2])
        have HQ := Lib.hid (errV_no h2)
        clear h2 h1
        go_wp2_with fail
        refine (vright_any _ h _ (HH.out.below (HE.out _ HB.out)) HLH.out).mono ?_
        rintro r w1 ⟨err, rfl, hat, hb1⟩
        have HER := Lib.hid (hat.isErr H2.out)
        obtain ⟨t, u, rfl⟩ := hat.iface H2.out
        have HB1 : Hid (Below W.heap.size W w1) := HB.out.trans (hb1.mono HB.out.size)
        clear hat hb1
        go_wp2_with fail
        refine (tell_err _ _ _ (HG.out.below (HE.out _ HB1.out)) HER.out).mono ?_
        rintro r w2 ⟨rfl, hb2⟩
        have HB2 : Hid (Below W.heap.size W w2) := HB1.out.trans (hb2.mono HB1.out.size)
        clear hb2
        go_wp2
        go_ret
        exact ⟨by rw [HR.out, HQ.out]; rfl, HE.out _ HB2.out⟩
    · obtain ⟨c, hc⟩ : ∃ c, covB h f = c := ⟨_, rfl⟩
      have HC := Lib.hid hc
      have HR : Hid (bbE f h = if c = false then 13 else 0) := Lib.hid (by unfold bbE; rw [if_neg (by simpa using h1), if_neg (by simpa using h2), hc])
      obtain ⟨d0, d1, d2⟩ := HA.out.below HB.out HZ.out
      clear h1 h2 hc
      go_wp2_with fail
      refine (bcov_as _ _ h f c _ (HH.out.below (HE.out _ HB.out)) (HF.out.below (HE.out _ HB.out)) HLH.out HLF.out HC.out).mono ?_
      rintro r w1 ⟨rfl, hb1⟩
      have HB1 : Hid (Below W.heap.size W w1) := HB.out.trans (hb1.mono HB.out.size)
      clear hb1 d0 d1 d2
      cases c with
      | true =>
        go_wp2
        go_ret
        exact ⟨by rw [HR.out]; rfl, HE.out _ HB1.out⟩
      | false =>
        go_wp2
        go_ret
        exact ⟨by rw [HR.out]; rfl, HE.out _ HB1.out⟩

theorem bbounds_as (vf vh vw : Value) (f h : List Ent) (l : List Wr) (e : Nat) (w : World) (hf : IsEnts w vf f) (hh : IsEnts w vh h) (hv : IsWrs w vw l) (hlf : f.length ≤ 9223372036854775807) (hlh : h.length ≤ 9223372036854775807) (hg : errT w) (he : bbE f h = e) :
    Calls Tryz.prog 81 #[.agg #[vf, vh, vw]] w fun r w' => r = .returned (errV e) ∧ Below w.heap.size w w' := by
  subst he; exact bbounds_any vf vh vw f h l w hf hh hv hlf hlh hg

set_option maxRecDepth 100000 in
set_option maxHeartbeats 4000000 in
theorem bright_any (vf vh vw : Value) (f h : List Ent) (l : List Wr) (w : World) (hf : IsEnts w vf f) (hh : IsEnts w vh h) (hv : IsWrs w vw l) (hlf : f.length ≤ 9223372036854775807) (hlh : h.length ≤ 9223372036854775807) (hok : ∀ t ∈ l, WrOk t) (hg : errT w) :
    Calls Tryz.prog 51 #[.agg #[vf, vh, vw]] w (VRightIs w (batF f h l)) := by
  have HF := Lib.hid hf
  have HH := Lib.hid hh
  have HV := Lib.hid hv
  have HG := Lib.hid hg
  have HLF := Lib.hid hlf
  have HLH := Lib.hid hlh
  have HOK := Lib.hid hok
  obtain ⟨af, cf, rfl, _⟩ := hf.form
  obtain ⟨ah, ch, rfl, _⟩ := hh.form
  obtain ⟨aw, cw, rfl, _⟩ := hv.form
  obtain ⟨nf, hnf⟩ : ∃ n, n = f.length := ⟨_, rfl⟩
  obtain ⟨nh, hnh⟩ : ∃ n, n = h.length := ⟨_, rfl⟩
  obtain ⟨n, hn⟩ : ∃ n, n = l.length := ⟨_, rfl⟩
  rw [← hnf] at HF ⊢
  rw [← hnh] at HH ⊢
  rw [← hn] at HV ⊢
  have HN := Lib.hid hn
  have HA := Lib.hid (batAt_new w (.slice af nf cf) (.slice ah nh ch) (.slice aw n cw) 25)
  have HW0 : Hid (Below w.heap.size w (w.alloc (.cells #[.slice af nf cf, .slice ah nh ch, .slice aw n cw] 25))) := Lib.hid ((Below.refl _ _).alloc (Nat.le_refl _) _)
  have HZ : Hid (w.heap.size < (w.alloc (.cells #[.slice af nf cf, .slice ah nh ch, .slice aw n cw] 25)).heap.size) := Lib.hid (by simp)
  obtain ⟨eb, heb⟩ : ∃ e, bbE f h = e := ⟨_, rfl⟩
  have HEB := Lib.hid heb
  clear hf hh hv hg hlf hlh hnf hnh hn hok heb
  go_enter Tryz.func51, Tryz.ntmps51
  go_wp2_with fail
  generalize w.alloc (.cells #[.slice af nf cf, .slice ah nh ch, .slice aw n cw] 25) = W at HA HW0 HZ ⊢
  have HE : Hid (∀ w', Below W.heap.size W w' → Below w.heap.size w w') := Lib.hid (fun w' hx => HW0.out.trans (hx.mono HW0.out.size))
  refine (bbounds_as _ _ _ f h l eb _ (HF.out.below HW0.out) (HH.out.below HW0.out) (HV.out.below HW0.out) HLF.out HLH.out (HG.out.below HW0.out) HEB.out).mono ?_
  rintro r w1 ⟨rfl, hb1⟩
  have HB1 : Hid (Below W.heap.size W w1) := Lib.hid hb1
  clear hb1
  by_cases h0 : eb = 0
  · subst h0
    rw [errV_ok]
    obtain ⟨d0, d1, d2⟩ := HA.out.below HB1.out HZ.out
    by_cases h6 : 60 < n
    · have HR := Lib.hid (batF_many HEB.out (show 60 < l.length by rw [← HN.out]; exact h6))
      have h6' : (60 : Int) < (n : Int) := by omega
      go_wp2
      go_ret
      rw [HR.out]
      exact ⟨_, rfl, .inr ⟨by decide, rfl, rfl⟩, HE.out _ HB1.out⟩
    · have HR := Lib.hid (batF_rest (ws := l) HEB.out (show ¬ 60 < l.length by rw [← HN.out]; exact h6))
      have h6' : ¬ (60 : Int) < (n : Int) := by omega
      have hn6 : n ≤ 60 := by omega
      clear h6
      go_wp2
      clear d0 d1 d2
      go_loopw [19] (fun i wr => ∃ (k : Nat) (p : Option Wr), k ≤ n ∧ i = .int .i64 k ∧ ((k = 0 ∧ p = none) ∨ ∃ j q, k = j + 1 ∧ l[j]? = some q ∧ p = some q) ∧ bwr f h l 0 none = bwr f h (l.drop k) k p ∧ Below W.heap.size W wr) (fun i _ => n - (intOf i).toNat)
      case atStart => exact ⟨0, none, by omega, rfl, .inl ⟨rfl, rfl⟩, rfl, HB1.out⟩
      case round =>
        obtain ⟨k, p, hk, rfl, hla, heq, hbel⟩ := hrel
        have HEQ := Lib.hid heq
        have HLA := Lib.hid hla
        have HB := Lib.hid hbel
        clear heq hbel hla
        by_cases hlt : k < n
        · have hkl : k < l.length := by have := HN.out; omega
          obtain ⟨t, ht⟩ : ∃ t, l[k]? = some t := ⟨l[k], List.getElem?_eq_getElem hkl⟩
          have hd : l.drop k = t :: l.drop (k + 1) := by
            rw [List.drop_eq_getElem_cons hkl]; congr 1
            rw [List.getElem?_eq_getElem hkl] at ht; exact Option.some.inj ht
          have HD := Lib.hid hd
          have HT := Lib.hid ht
          obtain ⟨e, he⟩ : ∃ e, bwE f h p t = e := ⟨_, rfl⟩
          have HEE := Lib.hid he
          obtain ⟨d0, d1, d2⟩ := HA.out.below HB.out HZ.out
          clear ht hkl hd he
          go_wp2_with fail
          refine (bwrong_any _ _ _ f h l k t p e _ (HF.out.below (HE.out _ HB.out)) (HH.out.below (HE.out _ HB.out)) (HV.out.below (HE.out _ HB.out)) HLF.out HLH.out (by have := HN.out; omega) HT.out HLA.out HOK.out (HG.out.below (HE.out _ HB.out)) HEE.out).mono ?_
          rintro r w2 ⟨rfl, hb2⟩
          have HB2 : Hid (Below W.heap.size W w2) := HB.out.trans (hb2.mono HB.out.size)
          clear hb2 d0 d1 d2
          by_cases hz : e = 0
          · subst hz
            have HN2 : Hid (bwr f h l 0 none = bwr f h (l.drop (k + 1)) (k + 1) (some t)) := Lib.hid (show bwr f h l 0 none = bwr f h (l.drop (k + 1)) (k + 1) (some t) by rw [HEQ.out, HD.out, bwr_good HEE.out])
            go_wp2
            go_roundw
            case rel => exact ⟨k + 1, some t, by omega, by go_num, .inr ⟨k, t, rfl, HT.out, rfl⟩, HN2.out, HB2.out⟩
            case measure => simp [intOf]; omega
          · have HN2 : Hid (bwr f h l 0 none = (e, (k : Int))) := Lib.hid (show bwr f h l 0 none = (e, (k : Int)) by rw [HEQ.out, HD.out, bwr_bad HEE.out hz])
            have hne : ((e : Int) != 0) = true := by simp; omega
            have H0 := Lib.hid hz
            have hz2 := HB2.out.size
            clear hz
            go_wp2
            go_ret
            rw [HR.out, HN2.out]
            exact ⟨_, rfl, .inl (atIs.new w2 e k H0.out), HE.out _ (HB2.out.alloc hz2 _)⟩
        · have HN2 : Hid (bwr f h l 0 none = (0, -1)) := Lib.hid (show bwr f h l 0 none = (0, -1) by rw [HEQ.out, List.drop_eq_nil_of_le (by have := HN.out; omega)]; rfl)
          go_wp2
          go_ret
          exact ⟨_, rfl, .inl (.inl ⟨HR.out.trans HN2.out, rfl⟩), HE.out _ HB.out⟩
  · have HR := Lib.hid (batF_bb (ws := l) HEB.out h0)
    have H0 := Lib.hid h0
    rw [errV_no h0]
    clear h0
    go_wp2
    go_ret
    rw [HR.out]
    exact ⟨_, rfl, .inr ⟨H0.out, rfl, rfl⟩, HE.out _ HB1.out⟩
end Go.Proofs.YtkafhlpnhgipeaaGreatDoor
