/-
  The walk of 'packtrainlaw.IdentCompares'.
-/
import Derived.Test.YthdflbaknfiglabIdRef
namespace Go.Proofs.Ythdflbaknfiglab
open Go.RowKit

set_option maxRecDepth 100000 in
set_option maxHeartbeats 8000000 in
theorem identCompares_walk (w : World) (x1 x2 y1 y2 : Int) (af : Option Addr) (lf cf : Nat) (f : List Ent) (hf : IsEnts w (.slice af lf cf) f) (hnf : f.length = lf) (hcf : lf ≤ cf) (hmf : cf ≤ maxLen)
    (ah : Option Addr) (lh ch : Nat) (h : List Ent) (hh : IsEnts w (.slice ah lh ch) h) (hnh : h.length = lh) (hch : lh ≤ ch) (hmh : ch ≤ maxLen) :
    Calls Try.prog 3 #[.agg #[.int .i64 x1, .int .i64 x2], .agg #[.int .i64 y1, .int .i64 y2], .slice af lf cf, .slice ah lh ch] w fun e w' => e = .returned (.bool true) ∧ Below w.heap.size w w' := by
  unfold maxLen at hmf hmh
  have HLF : Hid (f.length ≤ 9223372036854775807) := Lib.hid (show f.length ≤ 9223372036854775807 by omega)
  have HLH : Hid (h.length ≤ 9223372036854775807) := Lib.hid (show h.length ≤ 9223372036854775807 by omega)
  obtain ⟨c, hc⟩ : ∃ c, cI (x1, x2) (y1, y2) = c := ⟨_, rfl⟩
  obtain ⟨b, hb⟩ : ∃ b, idR (x1, x2) = b := ⟨_, rfl⟩
  obtain ⟨q, hq⟩ : ∃ q, wiF (x1, x2) f h = q := ⟨_, rfl⟩
  have HC := Lib.hid hc
  have HBR := Lib.hid hb
  have HQ := Lib.hid hq
  have HF0 := Lib.hid hf
  have HH0 := Lib.hid hh
  clear hc hb hq hf hh hnf hnh
  by_cases h100 : 100 < wrap64 ((lf : Int) + (lh : Int))
  · go_enter Try.func3, Try.ntmps3
    go_wp2
    go_ret
    exact ⟨rfl, ((Below.refl _ _).alloc (Nat.le_refl _) _).alloc (by simp) _⟩
  · have d1 : wrap64 ((lf : Int) + (lh : Int)) ≤ 100 := by omega
    go_enter Try.func3, Try.ntmps3
    go_wp2
    have k00 : ((w.alloc (.cells #[.int .i64 x1, .int .i64 x2] 23)).alloc (.cells #[.int .i64 y1, .int .i64 y2] 23)).cell? ⟨w.heap.size, 0, none⟩ = some (.int .i64 x1) ∧ ((w.alloc (.cells #[.int .i64 x1, .int .i64 x2] 23)).alloc (.cells #[.int .i64 y1, .int .i64 y2] 23)).cell? ⟨w.heap.size, 1, none⟩ = some (.int .i64 x2) ∧ ((w.alloc (.cells #[.int .i64 x1, .int .i64 x2] 23)).alloc (.cells #[.int .i64 y1, .int .i64 y2] 23)).cell? ⟨w.heap.size + 1, 0, none⟩ = some (.int .i64 y1) ∧ ((w.alloc (.cells #[.int .i64 x1, .int .i64 x2] 23)).alloc (.cells #[.int .i64 y1, .int .i64 y2] 23)).cell? ⟨w.heap.size + 1, 1, none⟩ = some (.int .i64 y2) := by simp
    have HF := Lib.hid ((HF0.out.alloc (.cells #[.int .i64 x1, .int .i64 x2] 23)).alloc (.cells #[.int .i64 y1, .int .i64 y2] 23))
    have HH := Lib.hid ((HH0.out.alloc (.cells #[.int .i64 x1, .int .i64 x2] 23)).alloc (.cells #[.int .i64 y1, .int .i64 y2] 23))
    have HW0 : Hid (Below w.heap.size w ((w.alloc (.cells #[.int .i64 x1, .int .i64 x2] 23)).alloc (.cells #[.int .i64 y1, .int .i64 y2] 23))) := Lib.hid (((Below.refl _ _).alloc (Nat.le_refl _) _).alloc (by simp) _)
    have hA0 : w.heap.size < ((w.alloc (.cells #[.int .i64 x1, .int .i64 x2] 23)).alloc (.cells #[.int .i64 y1, .int .i64 y2] 23)).heap.size := by simp; omega
    have hB0 : w.heap.size + 1 < ((w.alloc (.cells #[.int .i64 x1, .int .i64 x2] 23)).alloc (.cells #[.int .i64 y1, .int .i64 y2] 23)).heap.size := by simp
    generalize (w.alloc (.cells #[.int .i64 x1, .int .i64 x2] 23)).alloc (.cells #[.int .i64 y1, .int .i64 y2] 23) = W0 at k00 HF HH HW0 hA0 hB0 ⊢
    have HL0 : Hid (w.heap.size ≤ W0.heap.size) := Lib.hid HW0.out.size
    obtain ⟨B, hBe⟩ : ∃ B, w.heap.size + 1 = B := ⟨_, rfl⟩
    rw [hBe] at k00 hB0 ⊢
    obtain ⟨A, hAe⟩ : ∃ A, w.heap.size = A := ⟨_, rfl⟩
    rw [hAe] at k00 hA0 ⊢
    clear hBe hAe
    have HA := Lib.hid hA0
    have HBB := Lib.hid hB0
    have k0 := k00
    have HB0 : Hid (Below W0.heap.size W0 W0.drew) := Lib.hid ((Below.refl _ _).drew)
    clear k00 hA0 hB0
    go_region_held3 (fun w' => w'.cell? ⟨A, 0, none⟩ = some (.int .i64 x1) ∧ w'.cell? ⟨A, 1, none⟩ = some (.int .i64 x2) ∧ w'.cell? ⟨B, 0, none⟩ = some (.int .i64 y1) ∧ w'.cell? ⟨B, 1, none⟩ = some (.int .i64 y2)) (first | exact k0 | exact k1 | exact k2 | exact k3 | exact k4 | exact k5 | exact k6) (first
      | (go_at_call 5; ((with_reducible refine (idcmp_as x1 x2 y1 y2 c W0.drew HC.out).mono ?_); rintro r w1 ⟨rfl, hb1⟩; have HB1 : Hid (Below W0.heap.size W0 w1) := (HB0.out.trans (hb1.mono HB0.out.size)); have k1 : w1.cell? ⟨A, 0, none⟩ = some (.int .i64 x1) ∧ w1.cell? ⟨A, 1, none⟩ = some (.int .i64 x2) ∧ w1.cell? ⟨B, 0, none⟩ = some (.int .i64 y1) ∧ w1.cell? ⟨B, 1, none⟩ = some (.int .i64 y2) := ⟨(HB1.out.cell HA.out).trans k0.1, (HB1.out.cell HA.out).trans k0.2.1, (HB1.out.cell HBB.out).trans k0.2.2.1, (HB1.out.cell HBB.out).trans k0.2.2.2⟩; clear hb1))
      | (go_at_call 6; ((with_reducible refine (rcmp_as x1 x2 y1 y2 c w1 HC.out).mono ?_); rintro r w2 ⟨rfl, hb2⟩; have HB2 : Hid (Below W0.heap.size W0 w2) := (HB1.out.trans (hb2.mono HB1.out.size)); have k2 : w2.cell? ⟨A, 0, none⟩ = some (.int .i64 x1) ∧ w2.cell? ⟨A, 1, none⟩ = some (.int .i64 x2) ∧ w2.cell? ⟨B, 0, none⟩ = some (.int .i64 y1) ∧ w2.cell? ⟨B, 1, none⟩ = some (.int .i64 y2) := ⟨(HB2.out.cell HA.out).trans k0.1, (HB2.out.cell HA.out).trans k0.2.1, (HB2.out.cell HBB.out).trans k0.2.2.1, (HB2.out.cell HBB.out).trans k0.2.2.2⟩; clear hb2))
      | (go_at_call 7; ((with_reducible refine (idright_any x1 x2 b w2 HBR.out).mono ?_); rintro r w3 ⟨rfl, hb3⟩; have HB3 : Hid (Below W0.heap.size W0 w3) := (HB2.out.trans (hb3.mono HB2.out.size)); have k3 : w3.cell? ⟨A, 0, none⟩ = some (.int .i64 x1) ∧ w3.cell? ⟨A, 1, none⟩ = some (.int .i64 x2) ∧ w3.cell? ⟨B, 0, none⟩ = some (.int .i64 y1) ∧ w3.cell? ⟨B, 1, none⟩ = some (.int .i64 y2) := ⟨(HB3.out.cell HA.out).trans k0.1, (HB3.out.cell HA.out).trans k0.2.1, (HB3.out.cell HBB.out).trans k0.2.2.1, (HB3.out.cell HBB.out).trans k0.2.2.2⟩; clear hb3))
      | (go_at_call 8; ((with_reducible refine (ridright_as x1 x2 b w3 HBR.out).mono ?_); rintro r w4 ⟨rfl, hb4⟩; have HB4 : Hid (Below W0.heap.size W0 w4) := (HB3.out.trans (hb4.mono HB3.out.size)); have k4 : w4.cell? ⟨A, 0, none⟩ = some (.int .i64 x1) ∧ w4.cell? ⟨A, 1, none⟩ = some (.int .i64 x2) ∧ w4.cell? ⟨B, 0, none⟩ = some (.int .i64 y1) ∧ w4.cell? ⟨B, 1, none⟩ = some (.int .i64 y2) := ⟨(HB4.out.cell HA.out).trans k0.1, (HB4.out.cell HA.out).trans k0.2.1, (HB4.out.cell HBB.out).trans k0.2.2.1, (HB4.out.cell HBB.out).trans k0.2.2.2⟩; clear hb4))
      | (go_at_call 9; ((with_reducible refine (within_any x1 x2 (.slice af lf cf) (.slice ah lh ch) f h w4 (HF.out.below HB4.out) (HH.out.below HB4.out) HLF.out HLH.out q HQ.out).mono ?_); rintro r w5 ⟨rfl, hb5⟩; have HB5 : Hid (Below W0.heap.size W0 w5) := (HB4.out.trans (hb5.mono HB4.out.size)); have k5 : w5.cell? ⟨A, 0, none⟩ = some (.int .i64 x1) ∧ w5.cell? ⟨A, 1, none⟩ = some (.int .i64 x2) ∧ w5.cell? ⟨B, 0, none⟩ = some (.int .i64 y1) ∧ w5.cell? ⟨B, 1, none⟩ = some (.int .i64 y2) := ⟨(HB5.out.cell HA.out).trans k0.1, (HB5.out.cell HA.out).trans k0.2.1, (HB5.out.cell HBB.out).trans k0.2.2.1, (HB5.out.cell HBB.out).trans k0.2.2.2⟩; clear hb5))
      | (go_at_call 10; ((with_reducible refine (rwithin_as x1 x2 (.slice af lf cf) (.slice ah lh ch) f h w5 (HF.out.below HB5.out) (HH.out.below HB5.out) HLF.out HLH.out q HQ.out).mono ?_); rintro r w6 ⟨rfl, hb6⟩; have HB6 : Hid (Below W0.heap.size W0 w6) := (HB5.out.trans (hb6.mono HB5.out.size)); have k6 : w6.cell? ⟨A, 0, none⟩ = some (.int .i64 x1) ∧ w6.cell? ⟨A, 1, none⟩ = some (.int .i64 x2) ∧ w6.cell? ⟨B, 0, none⟩ = some (.int .i64 y1) ∧ w6.cell? ⟨B, 1, none⟩ = some (.int .i64 y2) := ⟨(HB6.out.cell HA.out).trans k0.1, (HB6.out.cell HA.out).trans k0.2.1, (HB6.out.cell HBB.out).trans k0.2.2.1, (HB6.out.cell HBB.out).trans k0.2.2.2⟩; clear hb6)))
    all_goals
      go_wp2
      go_ret
      exact ⟨by first | rfl | simp, HW0.out.trans (HB6.out.mono HL0.out)⟩
end Go.Proofs.Ythdflbaknfiglab
