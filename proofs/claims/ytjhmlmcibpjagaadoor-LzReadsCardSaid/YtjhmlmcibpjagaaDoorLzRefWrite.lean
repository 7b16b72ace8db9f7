/-
  The contract of the document's TokensWrite.
-/
import Derived.Test.YtjhmlmcibpjagaaDoorLzC
import Derived.Test.YtjhmlmcibpjagaaDoorStrs3
import Derived.Test.YtjhmlmcibpjagaaDoorShelf
import Derived.Test.YtjhmlmcibpjagaaDoorRefVary
import Derived.Test.YtjhmlmcibpjagaaDoorMatchRefRight
import Derived.Deep.RegionHeld3
import Derived.RegionTactic
import Derived.Lib.Join
namespace Go.Proofs.YtjhmlmcibpjagaaDoor
open Go.RowKit

theorem rvary_as (n : Nat) (k : Int) (P : ByteArray) (w : World) (h : n ≤ 1000000) (hk : (n : Int) = k) (hP : ⟨(putL n).toArray⟩ = P) :
    Calls Tryd.prog 27 #[.int .u64 k] w fun e w' => e = .returned (.string P) ∧ Below w.heap.size w w' := by
  subst hk hP
  exact rvary_any n w (by omega)
/-- Texts, one behind the other. -/
def flatS (l : List ByteArray) : List UInt8 := (l.map (·.data.toList)).flatten
theorem flatS_two (l : List ByteArray) (a b : ByteArray) : flatS (l ++ [a, b]) = flatS l ++ (a.data.toList ++ b.data.toList) := by simp [flatS]
theorem join_empty (l : List ByteArray) : Lib.join (l.map (·.data.toList)) (⟨#[]⟩ : ByteArray).data.toList = flatS l := by
  show Lib.join _ [] = _
  unfold flatS
  cases l with
  | nil => rfl
  | cons x r =>
    rw [List.map_cons, Lib.join_cons, List.flatten_cons]
    unfold Lib.joinTail
    simp [Function.comp_def]
theorem rjoin_any (v : Value) (base : Nat) (xs : List ByteArray) (w : World) (h : ownsS w base v xs) (hn : xs.length ≤ 1000000) (hlen : (flatS xs).length ≤ 1000000) :
    Calls Tryd.prog 28 #[v, .string ⟨#[]⟩] w fun e w' => e = .returned (.string ⟨(flatS xs).toArray⟩) ∧ Below w.heap.size w w' := by
  have hown := h
  have hlt := h.lt
  obtain ⟨h0, h1⟩ := h
  rcases h1 with ⟨rfl, hz⟩ | ⟨g, cap, cur, rfl, hb, hh, hc, hm, hs, ht⟩
  · obtain rfl := List.length_eq_zero_iff.1 hz
    exact (Tryd.strings_Join_none none 0 ⟨#[]⟩ w).mono fun e w' ⟨he, hw⟩ => ⟨he, hw ▸ Below.refl _ _⟩
  · have hcap : xs.length ≤ cap := by omega
    have := Tryd.strings_Join g 0 cap xs ⟨#[]⟩ w (fun j x hj => by
      have hjl : j < xs.length := (List.getElem?_eq_some_iff.1 hj).1
      rw [Nat.zero_add, World.ownsRow.cellAt hown j (by omega)]
      rw [List.getElem?_map, hj]; rfl) (hlt g rfl).2 (by omega) hcap (by rw [join_empty]; omega)
    rw [join_empty] at this
    exact this

theorem grown_cell {w w' : World} {row : Option Nat} (hg : w.grownBy w' row) {b o : Nat} (hb : b < w.heap.size) (hne : row ≠ some b) : w'.cell? ⟨b, o, none⟩ = w.cell? ⟨b, o, none⟩ := by
  simp [World.cell?, hg.block b hb (fun e => hne e.symm)]
theorem ownsS.ne {w : World} {base : Nat} {v : Value} {l : List ByteArray} (h : ownsS w base v l) {b : Nat} (hb : w.heap.size ≤ b) : v.ownBlock ≠ some b := fun e => by
  have := (h.lt b e).2; omega

set_option maxRecDepth 100000 in
set_option maxHeartbeats 4000000 in
theorem rwrite_any (v : Value) (l : List Tok) (w : World) (hv : IsToks w v l) (hl : l.length ≤ 9223372036854775807) (hz : ∀ t ∈ l, t.own.size ≤ 140737488351232) :
    Calls Tryd.prog 12 #[v] w fun e w' => e = .returned (.tuple #[.string ⟨(writeF l).toArray⟩, faultV (rightF l 0 0)]) ∧ Below w.heap.size w w' := by
  have HLL := Lib.hid hl
  have HZ := Lib.hid hz
  obtain ⟨e, pl, hr⟩ : ∃ e pl, rightF l 0 0 = (e, pl) := ⟨_, _, rfl⟩
  have HR : Hid (faultV (rightF l 0 0) = .agg #[.int .i64 e, .int .i64 pl]) := by
    have h : faultV (rightF l 0 0) = .agg #[.int .i64 e, .int .i64 pl] := by rw [hr]; rfl
    exact h
  have HVA := Lib.hid (hv.alloc (.cells #[.int .i64 0, .int .i64 0] 26))
  by_cases he : e = 0
  · subst he
    have hr0 : (rightF l 0 0).1 = 0 := by rw [hr]
    have hpl : pl = -1 := by have := rightF_any hr0; rw [hr] at this; exact (Prod.mk.inj this).2
    subst hpl
    have HW : Hid (writeF l = writeL l) := by
      have h : writeF l = writeL l := by unfold writeF; rw [if_pos hr0]
      exact h
    have HF := Lib.hid (right_fine hr0)
    obtain ⟨hfew, hcost, _⟩ := right_few hr0
    have HC := Lib.hid hcost
    have HSZ : Hid (∀ t ∈ l, t.own.size ≤ 20000) := by
      have h : ∀ t ∈ l, t.own.size ≤ 20000 := right_own hr0
      exact h
    obtain ⟨a1, c1, rfl, f1⟩ := hv.form
    have F1 := Lib.hid f1
    obtain ⟨n, hn⟩ : ∃ n, n = l.length := ⟨_, rfl⟩
    rw [← hn] at hl hfew ⊢ HVA
    have HN := Lib.hid hn
    clear hv f1 hn hz hr hr0 hcost
    go_enter Tryd.func12, Tryd.ntmps12
    go_wp2_with fail
    refine (rright_any _ l _ HVA.out HLL.out HZ.out).mono ?_
    rintro r w0 ⟨rfl, hb0⟩
    rw [HR.out]
    have HB0 := Lib.hid hb0
    have hz0 := hb0.size
    rw [World.size_alloc] at hz0
    clear hb0
    go_wp2_with fail
    refine (is_any 0 (-1) _).mono ?_
    rintro r w1 ⟨rfl, hb1⟩
    have HB1 : Hid (Below (w.heap.size + 1) (w.alloc (.cells #[.int .i64 0, .int .i64 0] 26)) w1) := (HB0.out.mono (by simp)).alloc (by omega) _ |>.trans (hb1.mono (by simp; omega))
    clear hb1
    go_wp2
    go_loopw [5, 16] (fun o i wr => ∃ (k : Nat) (acc : List ByteArray), k ≤ n ∧ i = .int .i64 k ∧ flatS acc = writeL (l.take k) ∧ acc.length = 2 * k ∧ ownsS wr (w.heap.size + 1) o acc ∧ Below (w.heap.size + 1) (w.alloc (.cells #[.int .i64 0, .int .i64 0] 26)) wr) (fun _ i _ => n - (intOf i).toNat)
    case atStart => exact ⟨0, [], by omega, rfl, rfl, rfl, ownsS_nil _ _, HB1.out⟩
    case round =>
      obtain ⟨k, acc, hk, rfl, hfl, hal, hown, hbel⟩ := hrel
      have HFL := Lib.hid hfl
      have HAL := Lib.hid hal
      have HO := Lib.hid hown
      have HB := Lib.hid hbel
      have hzr := hbel.size
      rw [World.size_alloc] at hzr
      have HBW : Hid (Below w.heap.size w wr) := ((Below.refl _ _).alloc (Nat.le_refl _) _).trans (hbel.mono (Nat.le_succ _))
      have x0 : wr.cell? ⟨w.heap.size, 0, none⟩ = some (.int .i64 0) := (hbel.cell (by exact Nat.lt_succ_self _)).trans (by simp)
      have x1 : wr.cell? ⟨w.heap.size, 1, none⟩ = some (.int .i64 0) := (hbel.cell (by exact Nat.lt_succ_self _)).trans (by simp)
      have y0 : wr.frozen? ⟨w.heap.size, 0, none⟩ = false := (hbel.frozen (by exact Nat.lt_succ_self _)).trans (by simp)
      have y1 : wr.frozen? ⟨w.heap.size, 1, none⟩ = false := (hbel.frozen (by exact Nat.lt_succ_self _)).trans (by simp)
      clear hfl hal hown hbel
      by_cases hlt : k < n
      · obtain ⟨t, ht⟩ : ∃ t, l[k]? = some t := ⟨l[k]'(by have := HN.out; omega), List.getElem?_eq_getElem _⟩
        obtain ⟨b1, o1, rfl, hb1, p0, p1, p2⟩ := F1.out k t ht
        have HSN := Lib.hid (writeL_snoc l k t ht)
        have hfine : fine t := (HF.out t (List.mem_of_getElem? ht)).1
        have hts : t.own.size ≤ 20000 := HSZ.out t (List.mem_of_getElem? ht)
        obtain ⟨own, back, size⟩ := t
        simp only at p0 p1 p2 hts
        have q0 := (HBW.out.cell (p := ⟨b1, o1 + k * 3, none⟩) hb1).trans p0
        have q1 := (HBW.out.cell (p := ⟨b1, o1 + k * 3 + 1, none⟩) hb1).trans p1
        have q2 := (HBW.out.cell (p := ⟨b1, o1 + k * 3 + 2, none⟩) hb1).trans p2
        clear p0 p1 p2 ht x0 x1 y0 y1
        rcases hfine with ⟨h1, h2, h3⟩ | ⟨h1, h2, h3, h4, h5⟩
        · simp only at h1 h2 h3
          subst h2 h3
          obtain ⟨P, hP⟩ : ∃ P : ByteArray, ⟨(putL (2 * own.size)).toArray⟩ = P := ⟨_, rfl⟩
          have HX : Hid (flatS (acc ++ [P, own]) = writeL (l.take (k + 1))) := by
            have h : flatS (acc ++ [P, own]) = writeL (l.take (k + 1)) := by rw [flatS_two, HSN.out, putT_own h1, HFL.out, ← hP]
            exact h
          have HPP := Lib.hid hP
          have k1 : IntKind.i64.wrap (2 * (own.size : Int)) = 2 * own.size := IntWalk.i64_in _ (by omega)
          have k2 : IntKind.u64.wrap (2 * (own.size : Int)) = 2 * own.size := IntWalk.u64_in _ (by omega)
          have HQ : Hid (2 * own.size ≤ 1000000 ∧ ((2 * own.size : Nat) : Int) = 2 * (own.size : Int)) := ⟨by omega, by omega⟩
          have c0 : (wr.alloc (.cells #[.string own, .int .i64 0, .int .i64 0] 42)).cell? ⟨wr.heap.size, 0, none⟩ = some (.string own) := by simp
          have HO0 := Lib.hid (HO.out.alloc (.cells #[.string own, .int .i64 0, .int .i64 0] 42))
          have HB0' : Hid (Below (w.heap.size + 1) (w.alloc (.cells #[.int .i64 0, .int .i64 0] 26)) (wr.alloc (.cells #[.string own, .int .i64 0, .int .i64 0] 42))) := HB.out.alloc (by omega) _
          have HAL2 : Hid (acc.length + 2 ≤ 8796093022208) := Lib.hid (show acc.length + 2 ≤ 8796093022208 by have := HAL.out; omega)
          clear h1 hP
          go_wp2
          go_region_held3 (fun w' => w'.cell? ⟨wr.heap.size, 0, none⟩ = some (.string own)) (first | exact c0 | exact c1' | exact c15 | exact c2) (first | (go_at_call 27; (with_reducible refine (rvary_as (2 * own.size) _ P _ HQ.out.1 HQ.out.2 HPP.out).mono ?_); rintro r w2 ⟨rfl, hb2⟩; have c1' : w2.cell? ⟨wr.heap.size, 0, none⟩ = some (.string own) := (hb2.cell (by simp)).trans c0; have HB2 : Hid (Below (w.heap.size + 1) (w.alloc (.cells #[.int .i64 0, .int .i64 0] 26)) w2) := (HB0'.out.drew.trans (hb2.mono (by simp; omega))); have HO2 : Hid (ownsS w2 (w.heap.size + 1) _ acc) := (HO0.out.drew.below hb2); have hz2 : wr.heap.size < w2.heap.size := (Nat.lt_of_lt_of_le (by simp) hb2.size); have c15 : (w2.alloc (.cells #[.string P, .string own] 9)).cell? ⟨wr.heap.size, 0, none⟩ = some (.string own) := ((((Below.refl _ _).alloc (Nat.le_refl _) _).cell hz2).trans c1'); clear hb2) | (refine step_append_strs _ rfl _ _ rfl (w.heap.size + 1) _ acc rfl (HO2.out.alloc _) ⟨w2.heap.size, 0, none⟩ 2 rfl P own (by simp [Addr.add]) (by simp [Addr.add]) HAL2.out (by simp; omega) ?_; intro g cap w3 hown3 hg3; have c2 : w3.cell? ⟨wr.heap.size, 0, none⟩ = some (.string own) := ((grown_cell hg3 (by simp; omega) (HO.out.ne (Nat.le_refl _))).trans c15); have HB3 : Hid (Below (w.heap.size + 1) (w.alloc (.cells #[.int .i64 0, .int .i64 0] 26)) w3) := ((HB2.out.alloc (by omega) _).grown hg3 (by simp; omega) (fun g hg => (HO.out.lt g hg).1)); have HO3 := Lib.hid hown3; clear hown3 hg3))
          go_wp2
          go_roundw
          case rel => exact ⟨k + 1, acc ++ [P, own], by omega, by go_num, HX.out, by rw [List.length_append, HAL.out]; simp; omega, HO3.out, HB3.out⟩
          case measure => simp [intOf]; omega
        · simp only at h1 h2 h3 h4 h5
          obtain ⟨Z, rfl⟩ := Int.eq_ofNat_of_zero_le (show 0 ≤ size by omega)
          obtain ⟨B, rfl⟩ := Int.eq_ofNat_of_zero_le (show 0 ≤ back by omega)
          obtain ⟨P, hP⟩ : ∃ P : ByteArray, ⟨(putL (2 * (Z - 4) + 1)).toArray⟩ = P := ⟨_, rfl⟩
          obtain ⟨R, hR⟩ : ∃ R : ByteArray, ⟨(putL (B - 1)).toArray⟩ = R := ⟨_, rfl⟩
          have HX : Hid (flatS (acc ++ [P, R]) = writeL (l.take (k + 1))) := by
            have h : flatS (acc ++ [P, R]) = writeL (l.take (k + 1)) := by rw [flatS_two, HSN.out, putT_rep h1, HFL.out, ← hP, ← hR]; rfl
            exact h
          have HPP := Lib.hid hP
          have HRR := Lib.hid hR
          have k0 : ((Z : Int) == 0) = false := by simp; omega
          have k1 : IntKind.i64.wrap ((Z : Int) - 4) = (Z : Int) - 4 := IntWalk.i64_in _ (by omega)
          have k2 : IntKind.i64.wrap (2 * ((Z : Int) - 4)) = 2 * ((Z : Int) - 4) := IntWalk.i64_in _ (by omega)
          have k3 : IntKind.i64.wrap (2 * ((Z : Int) - 4) + 1) = 2 * ((Z : Int) - 4) + 1 := IntWalk.i64_in _ (by omega)
          have k4 : IntKind.u64.wrap (2 * ((Z : Int) - 4) + 1) = 2 * ((Z : Int) - 4) + 1 := IntWalk.u64_in _ (by omega)
          have k5 : IntKind.i64.wrap ((B : Int) - 1) = (B : Int) - 1 := IntWalk.i64_in _ (by omega)
          have k6 : IntKind.u64.wrap ((B : Int) - 1) = (B : Int) - 1 := IntWalk.u64_in _ (by omega)
          have HQ : Hid (2 * (Z - 4) + 1 ≤ 1000000 ∧ ((2 * (Z - 4) + 1 : Nat) : Int) = 2 * ((Z : Int) - 4) + 1) := ⟨by omega, by omega⟩
          have HQ2 : Hid (B - 1 ≤ 1000000 ∧ ((B - 1 : Nat) : Int) = (B : Int) - 1) := ⟨by omega, by omega⟩
          have c0 : (wr.alloc (.cells #[.string own, .int .i64 B, .int .i64 Z] 42)).cell? ⟨wr.heap.size, 1, none⟩ = some (.int .i64 B) ∧ (wr.alloc (.cells #[.string own, .int .i64 B, .int .i64 Z] 42)).cell? ⟨wr.heap.size, 2, none⟩ = some (.int .i64 Z) := by simp
          have HO0 := Lib.hid (HO.out.alloc (.cells #[.string own, .int .i64 B, .int .i64 Z] 42))
          have HB0' : Hid (Below (w.heap.size + 1) (w.alloc (.cells #[.int .i64 0, .int .i64 0] 26)) (wr.alloc (.cells #[.string own, .int .i64 B, .int .i64 Z] 42))) := HB.out.alloc (by omega) _
          have HAL2 : Hid (acc.length + 2 ≤ 8796093022208) := Lib.hid (show acc.length + 2 ≤ 8796093022208 by have := HAL.out; omega)
          clear h1 hP hR
          go_wp2
          go_region_held3 (fun w' => w'.cell? ⟨wr.heap.size, 1, none⟩ = some (.int .i64 B) ∧ w'.cell? ⟨wr.heap.size, 2, none⟩ = some (.int .i64 Z)) (first | exact c0 | exact c1' | exact c12 | exact c15 | exact c2) (first | (go_at_call 27; (with_reducible refine (rvary_as (2 * (Z - 4) + 1) _ P _ HQ.out.1 HQ.out.2 HPP.out).mono ?_); rintro r w2 ⟨rfl, hb2⟩; have c1' : w2.cell? ⟨wr.heap.size, 1, none⟩ = some (.int .i64 B) ∧ w2.cell? ⟨wr.heap.size, 2, none⟩ = some (.int .i64 Z) := ⟨(hb2.cell (by simp)).trans c0.1, (hb2.cell (by simp)).trans c0.2⟩; have HB2 : Hid (Below (w.heap.size + 1) (w.alloc (.cells #[.int .i64 0, .int .i64 0] 26)) w2) := (HB0'.out.drew.trans (hb2.mono (by simp; omega))); have HO2 : Hid (ownsS w2 (w.heap.size + 1) _ acc) := (HO0.out.drew.below hb2); have HZ2 : Hid (wr.heap.size < w2.heap.size) := (Nat.lt_of_lt_of_le (by simp) hb2.size); clear hb2) | (go_at_call 27; (with_reducible refine (rvary_as (B - 1) _ R _ HQ2.out.1 HQ2.out.2 HRR.out).mono ?_); rintro r w2' ⟨rfl, hb2⟩; have c12 : w2'.cell? ⟨wr.heap.size, 1, none⟩ = some (.int .i64 B) ∧ w2'.cell? ⟨wr.heap.size, 2, none⟩ = some (.int .i64 Z) := ⟨(hb2.cell HZ2.out).trans c1'.1, (hb2.cell HZ2.out).trans c1'.2⟩; have HB2' : Hid (Below (w.heap.size + 1) (w.alloc (.cells #[.int .i64 0, .int .i64 0] 26)) w2') := (HB2.out.trans (hb2.mono (by have := HZ2.out; omega))); have HO2' : Hid (ownsS w2' (w.heap.size + 1) _ acc) := (HO2.out.below hb2); have hz2 : wr.heap.size < w2'.heap.size := (Nat.lt_of_lt_of_le HZ2.out hb2.size); have c15 : (w2'.alloc (.cells #[.string P, .string R] 9)).cell? ⟨wr.heap.size, 1, none⟩ = some (.int .i64 B) ∧ (w2'.alloc (.cells #[.string P, .string R] 9)).cell? ⟨wr.heap.size, 2, none⟩ = some (.int .i64 Z) := ⟨((((Below.refl _ _).alloc (Nat.le_refl _) _).cell hz2).trans c12.1), ((((Below.refl _ _).alloc (Nat.le_refl _) _).cell hz2).trans c12.2)⟩; clear hb2) | (refine step_append_strs _ rfl _ _ rfl (w.heap.size + 1) _ acc rfl (HO2'.out.alloc _) ⟨w2'.heap.size, 0, none⟩ 2 rfl P R (by simp [Addr.add]) (by simp [Addr.add]) HAL2.out (by simp; omega) ?_; intro g cap w3 hown3 hg3; have c2 : w3.cell? ⟨wr.heap.size, 1, none⟩ = some (.int .i64 B) ∧ w3.cell? ⟨wr.heap.size, 2, none⟩ = some (.int .i64 Z) := ⟨((grown_cell hg3 (by simp; omega) (HO.out.ne (Nat.le_refl _))).trans c15.1), ((grown_cell hg3 (by simp; omega) (HO.out.ne (Nat.le_refl _))).trans c15.2)⟩; have HB3 : Hid (Below (w.heap.size + 1) (w.alloc (.cells #[.int .i64 0, .int .i64 0] 26)) w3) := ((HB2'.out.alloc (by omega) _).grown hg3 (by simp; omega) (fun g hg => (HO.out.lt g hg).1)); have HO3 := Lib.hid hown3; clear hown3 hg3))
          go_wp2
          go_roundw
          case rel => exact ⟨k + 1, acc ++ [P, R], by omega, by go_num, HX.out, by rw [List.length_append, HAL.out]; simp; omega, HO3.out, HB3.out⟩
          case measure => simp [intOf]; omega
      · have hkn : k = n := by omega
        have HFW : Hid ((⟨(flatS acc).toArray⟩ : ByteArray) = ⟨(writeF l).toArray⟩) := by
          have h : (⟨(flatS acc).toArray⟩ : ByteArray) = ⟨(writeF l).toArray⟩ := by rw [HFL.out, hkn, HN.out, List.take_length, HW.out]
          exact h
        have HFZ : Hid ((flatS acc).length ≤ 1000000) := by
          have h : (flatS acc).length ≤ 1000000 := by
            rw [HFL.out]
            have h1 := cost_take (l := l) k
            have := HC.out; unfold cost at this h1; omega
          exact h
        have hlt0 : w.heap.size < wr.heap.size := by omega
        clear hkn HFL
        go_wp2_with fail
        refine (rjoin_any _ _ acc _ HO.out (by have := HAL.out; omega) HFZ.out).mono ?_
        rintro r w2 ⟨rfl, hb2⟩
        rw [HFW.out]
        have HB2 : Hid (Below w.heap.size w w2) := HBW.out.trans (hb2.mono (Nat.le_of_lt hlt0))
        have HLT2 : Hid (w.heap.size < w2.heap.size) := Nat.lt_of_lt_of_le hlt0 hb2.size
        have x0' := (hb2.cell (p := ⟨w.heap.size, 0, none⟩) hlt0).trans x0
        have x1' := (hb2.cell (p := ⟨w.heap.size, 1, none⟩) hlt0).trans x1
        have y0' := (hb2.frozen (p := ⟨w.heap.size, 0, none⟩) hlt0).trans y0
        have y1' := (hb2.frozen (p := ⟨w.heap.size, 1, none⟩) hlt0).trans y1
        clear hb2 x0 x1 y0 y1
        go_wp2_with fail
        refine (good_any _).mono ?_
        rintro r w3 ⟨rfl, hb3⟩
        have d0 : w3.cell? ⟨w.heap.size, 0, none⟩ = some (.int .i64 0) := (hb3.cell HLT2.out).trans x0'
        have d1 : w3.cell? ⟨w.heap.size, 1, none⟩ = some (.int .i64 0) := (hb3.cell HLT2.out).trans x1'
        have g0 : w3.frozen? ⟨w.heap.size, 0, none⟩ = false := (hb3.frozen HLT2.out).trans y0'
        have g1 : w3.frozen? ⟨w.heap.size, 1, none⟩ = false := (hb3.frozen HLT2.out).trans y1'
        have HB3 : Hid (Below w.heap.size w w3) := HB2.out.trans (hb3.mono (Nat.le_of_lt HLT2.out))
        clear hb3 x0' x1' y0' y1'
        go_wp2
        refine bodyPost_ret (v := .tuple #[.string ⟨(writeF l).toArray⟩, .agg #[.int .i64 0, .int .i64 (-1)]]) (by simp [results, Tryd.results12, go_sem, d0, d1]) rfl ?_
        rw [HR.out]
        exact ⟨rfl, (HB3.out.setCell (Nat.le_refl _) _).setCell (Nat.le_refl _) _⟩
  · have HT : Hid ((⟨(writeF l).toArray⟩ : ByteArray) = ⟨#[]⟩) := by
      have h : (⟨(writeF l).toArray⟩ : ByteArray) = ⟨#[]⟩ := by unfold writeF; rw [if_neg (by rw [hr]; exact he)]
      exact h
    have hbe : ((e : Int) == 0) = false := by simp; omega
    have HBE := Lib.hid hbe
    clear hv hl hz hr he hbe
    go_enter Tryd.func12, Tryd.ntmps12
    go_wp2_with fail
    refine (rright_any _ l _ HVA.out HLL.out HZ.out).mono ?_
    rintro r w0 ⟨rfl, hb0⟩
    rw [HR.out]
    have HB0 := Lib.hid hb0
    have hz0 := hb0.size
    rw [World.size_alloc] at hz0
    clear hb0
    go_wp2_with fail
    refine (is_any e pl _).mono ?_
    rintro r w1 ⟨rfl, hb1⟩
    rw [HBE.out]
    have HB1 := Lib.hid hb1
    have hB1 : Below (w.heap.size + 1) (w.alloc (.cells #[.int .i64 0, .int .i64 0] 26)) w1 := (HB0.out.mono (by simp)).alloc (by omega) _ |>.trans (hb1.mono (by simp; omega))
    have hl0 : w0.heap.size < (w0.alloc (.cells #[.int .i64 e, .int .i64 pl] 26)).heap.size := by simp
    have u0 : w1.cell? ⟨w0.heap.size, 0, none⟩ = some (.int .i64 e) := (hb1.cell hl0).trans (by simp)
    have u1 : w1.cell? ⟨w0.heap.size, 1, none⟩ = some (.int .i64 pl) := (hb1.cell hl0).trans (by simp)
    have x0 : w1.cell? ⟨w.heap.size, 0, none⟩ = some (.int .i64 0) := (hB1.cell (by exact Nat.lt_succ_self _)).trans (by simp)
    have x1 : w1.cell? ⟨w.heap.size, 1, none⟩ = some (.int .i64 0) := (hB1.cell (by exact Nat.lt_succ_self _)).trans (by simp)
    have y0 : w1.frozen? ⟨w.heap.size, 0, none⟩ = false := (hB1.frozen (by exact Nat.lt_succ_self _)).trans (by simp)
    have y1 : w1.frozen? ⟨w.heap.size, 1, none⟩ = false := (hB1.frozen (by exact Nat.lt_succ_self _)).trans (by simp)
    have HBW : Hid (Below w.heap.size w w1) := ((Below.refl _ _).alloc (Nat.le_refl _) _).trans (hB1.mono (Nat.le_succ _))
    clear hb1 hB1
    go_wp2
    go_region
    go_wp2
    refine bodyPost_ret (v := .tuple #[.string ⟨#[]⟩, .agg #[.int .i64 e, .int .i64 pl]]) (by simp [results, Tryd.results12, go_sem, x0, x1]) rfl ?_
    rw [HT.out, HR.out]
    exact ⟨rfl, by first | exact ((HBW.out.drew).setCell (Nat.le_refl _) _).setCell (Nat.le_refl _) _ | exact ((HBW.out.setCell (Nat.le_refl _) _).setCell (Nat.le_refl _) _).drew⟩
end Go.Proofs.YtjhmlmcibpjagaaDoor
