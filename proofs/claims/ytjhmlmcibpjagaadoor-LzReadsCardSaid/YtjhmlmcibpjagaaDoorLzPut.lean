/-
  The contract of lz.put.
-/
import Derived.Test.YtjhmlmcibpjagaaDoorCounted
import Derived.Test.YtjhmlmcibpjagaaDoorLzM
import Derived.Test.YtjhmlmcibpjagaaDoorMatchWrong
import Derived.Deep.RegionHeld3
import Derived.RegionTactic
import Derived.Outline
namespace Go.Proofs.YtjhmlmcibpjagaaDoor
open Go.RowKit

theorem str_app (a b : List UInt8) (s : ByteArray) (h : s.data.toList = b) : (⟨a.toArray⟩ : ByteArray) ++ s = ⟨(a ++ b).toArray⟩ := by
  apply bs_ext; rw [app_data, h]
theorem put_as (n : Nat) (k : Int) (P : ByteArray) (w : World) (h : n ≤ 1000000) (hk : (n : Int) = k) (hP : ⟨(putL n).toArray⟩ = P) :
    Calls Tryd.prog 54 #[.int .u64 k] w fun e w' => e = .returned (.string P) ∧ Below w.heap.size w w' := by
  subst hk hP
  exact put_nat n w (by omega)

set_option maxRecDepth 100000 in
set_option maxHeartbeats 1000000 in
theorem lzput_any (t : Tok) (w : World) (hf : fine t) (hs : t.own.size ≤ 20000) :
    Calls Tryd.prog 31 #[tokV t] w fun e w' => e = .returned (.string ⟨(putT t).toArray⟩) ∧ Below w.heap.size w w' := by
  obtain ⟨s, b, z⟩ := t
  rcases hf with ⟨h1, h2, h3⟩ | ⟨h1, h2, h3, h4, h5⟩
  · simp only at h1 h2 h3 hs
    subst h2 h3
    have e1 := full_b h1
    have HP : Hid ((⟨(putL (2 * s.size)).toArray⟩ : ByteArray) ++ s = ⟨(putT ⟨s, 0, 0⟩).toArray⟩) := by
      have h : (⟨(putL (2 * s.size)).toArray⟩ : ByteArray) ++ s = ⟨(putT ⟨s, 0, 0⟩).toArray⟩ := by
        rw [putT_own h1]; exact str_app _ _ _ rfl
      exact h
    have hl := putL_le10 (n := 2 * s.size) (by omega)
    have hl2 : (⟨(putL (2 * s.size)).toArray⟩ : ByteArray).size ≤ 10 := by rw [bs_size]; exact hl
    obtain ⟨P, hP⟩ : ∃ P : ByteArray, ⟨(putL (2 * s.size)).toArray⟩ = P := ⟨_, rfl⟩
    rw [hP] at HP hl2
    have HPP := Lib.hid hP
    have k1 : IntKind.u64.wrap (s.size : Int) = s.size := IntWalk.u64_in _ (by omega)
    have k2 : IntKind.u64.wrap (2 * (s.size : Int)) = 2 * s.size := IntWalk.u64_in _ (by omega)
    have ksz : ¬ (9223372036854775807 < P.size + s.size) := by omega
    have c0 : (w.alloc (.cells #[.string s, .int .i64 0, .int .i64 0] 42)).cell? ⟨w.heap.size, 0, none⟩ = some (.string s) := by simp
    have HQ : Hid (2 * s.size ≤ 1000000 ∧ ((2 * s.size : Nat) : Int) = 2 * (s.size : Int)) := ⟨by omega, by omega⟩
    clear h1 hl hP
    unfold tokV
    go_enter Tryd.func31, Tryd.ntmps31
    go_wp2
    go_region_held3 (fun w' => w'.cell? ⟨w.heap.size, 0, none⟩ = some (.string s)) (first | exact c0 | exact c1) (first | (go_at_call 54; (with_reducible refine (put_as (2 * s.size) _ P _ HQ.out.1 HQ.out.2 HPP.out).mono ?_); rintro r w1 ⟨rfl, hb1⟩; have c1 : w1.cell? ⟨w.heap.size, 0, none⟩ = some (.string s) := (hb1.cell (by simp)).trans c0; have HB1 : Hid (Below w.heap.size w w1) := ((((Below.refl _ _).alloc (Nat.le_refl _) _).drew).trans (hb1.mono (by simp))); clear hb1))
    go_wp2
    go_ret
    exact ⟨by rw [HP.out]; rfl, HB1.out⟩
  · simp only at h1 h2 h3 h4 h5
    obtain ⟨Z, rfl⟩ := Int.eq_ofNat_of_zero_le (show 0 ≤ z by omega)
    obtain ⟨B, rfl⟩ := Int.eq_ofNat_of_zero_le (show 0 ≤ b by omega)
    have e1 := empty_b h1
    have HP : Hid ((⟨(putL (2 * (Z - 4) + 1)).toArray⟩ : ByteArray) ++ ⟨(putL (B - 1)).toArray⟩ = ⟨(putT ⟨s, B, Z⟩).toArray⟩) := by
      have h : (⟨(putL (2 * (Z - 4) + 1)).toArray⟩ : ByteArray) ++ ⟨(putL (B - 1)).toArray⟩ = ⟨(putT ⟨s, B, Z⟩).toArray⟩ := by
        rw [putT_rep h1]; exact str_app _ _ _ rfl
      exact h
    have hl := putL_le10 (n := 2 * (Z - 4) + 1) (by omega)
    have hl' := putL_le10 (n := B - 1) (by omega)
    have hl2 : (⟨(putL (2 * (Z - 4) + 1)).toArray⟩ : ByteArray).size ≤ 10 := by rw [bs_size]; exact hl
    have hl3 : (⟨(putL (B - 1)).toArray⟩ : ByteArray).size ≤ 10 := by rw [bs_size]; exact hl'
    obtain ⟨P, hP⟩ : ∃ P : ByteArray, ⟨(putL (2 * (Z - 4) + 1)).toArray⟩ = P := ⟨_, rfl⟩
    obtain ⟨R, hR⟩ : ∃ R : ByteArray, ⟨(putL (B - 1)).toArray⟩ = R := ⟨_, rfl⟩
    rw [hP, hR] at HP
    rw [hP] at hl2
    rw [hR] at hl3
    have HPP := Lib.hid hP
    have HRR := Lib.hid hR
    have k1 : IntKind.i64.wrap ((Z : Int) - 4) = (Z : Int) - 4 := IntWalk.i64_in _ (by omega)
    have k2 : IntKind.u64.wrap ((Z : Int) - 4) = (Z : Int) - 4 := IntWalk.u64_in _ (by omega)
    have k3 : IntKind.u64.wrap (2 * ((Z : Int) - 4)) = 2 * ((Z : Int) - 4) := IntWalk.u64_in _ (by omega)
    have k4 : IntKind.u64.wrap (2 * ((Z : Int) - 4) + 1) = 2 * ((Z : Int) - 4) + 1 := IntWalk.u64_in _ (by omega)
    have k5 : IntKind.i64.wrap ((B : Int) - 1) = (B : Int) - 1 := IntWalk.i64_in _ (by omega)
    have k6 : IntKind.u64.wrap ((B : Int) - 1) = (B : Int) - 1 := IntWalk.u64_in _ (by omega)
    have ksz : ¬ (9223372036854775807 < P.size + R.size) := by omega
    have c0 : (w.alloc (.cells #[.string s, .int .i64 B, .int .i64 Z] 42)).cell? ⟨w.heap.size, 1, none⟩ = some (.int .i64 B) ∧ (w.alloc (.cells #[.string s, .int .i64 B, .int .i64 Z] 42)).cell? ⟨w.heap.size, 2, none⟩ = some (.int .i64 Z) := by simp
    have HQ : Hid (2 * (Z - 4) + 1 ≤ 1000000 ∧ ((2 * (Z - 4) + 1 : Nat) : Int) = 2 * ((Z : Int) - 4) + 1) := ⟨by omega, by omega⟩
    have HQ2 : Hid (B - 1 ≤ 1000000 ∧ ((B - 1 : Nat) : Int) = (B : Int) - 1) := ⟨by omega, by omega⟩
    clear h1 hl hl' hP hR
    unfold tokV
    go_enter Tryd.func31, Tryd.ntmps31
    go_wp2
    go_region_held3 (fun w' => w'.cell? ⟨w.heap.size, 1, none⟩ = some (.int .i64 B) ∧ w'.cell? ⟨w.heap.size, 2, none⟩ = some (.int .i64 Z)) (first | exact c0 | exact c1 | exact c2) (first | (go_at_call 54; (with_reducible refine (put_as (2 * (Z - 4) + 1) _ P _ HQ.out.1 HQ.out.2 HPP.out).mono ?_); rintro r w1 ⟨rfl, hb1⟩; have c1 : w1.cell? ⟨w.heap.size, 1, none⟩ = some (.int .i64 B) ∧ w1.cell? ⟨w.heap.size, 2, none⟩ = some (.int .i64 Z) := ⟨(hb1.cell (by simp)).trans c0.1, (hb1.cell (by simp)).trans c0.2⟩; have HB1 : Hid (Below w.heap.size w w1) := ((((Below.refl _ _).alloc (Nat.le_refl _) _).drew).trans (hb1.mono (by simp))); have HZ1 : Hid (w.heap.size < w1.heap.size) := (Nat.lt_of_lt_of_le (by simp) hb1.size); clear hb1) | (go_at_call 54; (with_reducible refine (put_as (B - 1) _ R _ HQ2.out.1 HQ2.out.2 HRR.out).mono ?_); rintro r w2 ⟨rfl, hb2⟩; have c2 : w2.cell? ⟨w.heap.size, 1, none⟩ = some (.int .i64 B) ∧ w2.cell? ⟨w.heap.size, 2, none⟩ = some (.int .i64 Z) := ⟨(hb2.cell HZ1.out).trans c1.1, (hb2.cell HZ1.out).trans c1.2⟩; have HB2 : Hid (Below w.heap.size w w2) := HB1.out.trans (hb2.mono HB1.out.size); clear hb2))
    go_wp2
    go_ret
    exact ⟨by rw [HP.out]; rfl, HB2.out⟩
end Go.Proofs.YtjhmlmcibpjagaaDoor
