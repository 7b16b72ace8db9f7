/-
  The walk of 'packtrainkeep.CrcShift'.
-/
import Derived.Test.YtgjmelinfkifcaaCrcShift1
import Derived.WalkLawsBesides
import Derived.Deep.QuietTactic
import Derived.BigQuiet
namespace Go.Proofs.Ytgjmelinfkifcaa
open Go.RowKit

theorem shift_xor (A B : ByteArray) (x y : UInt8) (r : ByteArray) :
    sum (oneB A x r).data.toList ^^^ sum (oneB A y r).data.toList = sum (oneB B x r).data.toList ^^^ sum (oneB B y r).data.toList := by
  rw [oneB_data, oneB_data, oneB_data, oneB_data]
  exact sum_shift _ _ _ x y
theorem shift_same (A : ByteArray) (x y : UInt8) (r : ByteArray) : x = y ↔ sum (oneB A x r).data.toList = sum (oneB A y r).data.toList := by
  rw [oneB_data, oneB_data]
  exact sum_same _ _ x y
theorem cell0 (w : World) (r : ByteArray) (n : Nat) : ((w.alloc (.cells #[.string r] 9)).drewN n).cell? ⟨w.heap.size, 0, none⟩ = some (.string r) := by
  simp
theorem below0 (w : World) (o : Obj) (n : Nat) : Below w.heap.size w ((w.alloc o).drewN n) := by
  have h : Below w.heap.size w (w.alloc o) := (Below.refl _ _).alloc (Nat.le_refl _) _
  exact ⟨h.os, h.tape, h.output, h.size, h.block⟩
theorem keep_cell {w w' : World} {a : Addr} {v : Value} (hb : Below w.heap.size w w') (h : w.cell? a = some v) : w'.cell? a = some v := by
  rw [hb.cell (block_lt_of_cell h), h]

set_option maxRecDepth 100000 in
set_option maxHeartbeats 2000000 in
theorem shift_a (a : ByteArray) (ha : a.size ≤ 140737488351232) (b : ByteArray) (_ : b.size ≤ 140737488351232) (r : ByteArray) (hr : r.size ≤ 140737488351232) (x y : UInt8) (h1 : ¬ b.size < a.size) (w : World) :
    Calls Try.prog 12 #[.string a, .string b, .string r, .int .u8 (x.toNat : Int), .int .u8 (y.toNat : Int)] w fun e w' => e = .returned (.bool true) ∧ Below w.heap.size w w' := by
  have hmf : ∀ (fn : Fn) (first cap : Array Value) (w : World), (Instr.makeFunc fn first cap).run Try.prog w = .ok (.func fn first cap) w := fun _ _ _ _ => rfl
  by_cases h3 : 200 < a.size
  · go_enter Try.func12, Try.ntmps12
    go_wp2_with (go_at_call 19; refine (summed_any _).mono ?_; rintro e w' ⟨rfl, rfl⟩)
    go_ret
    exact ⟨rfl, (Below.refl _ _).alloc (Nat.le_refl _) _⟩
  · by_cases h4 : 200 < r.size
    · go_enter Try.func12, Try.ntmps12
      go_wp2_with (go_at_call 19; refine (summed_any _).mono ?_; rintro e w' ⟨rfl, rfl⟩)
      go_ret
      exact ⟨rfl, (Below.refl _ _).alloc (Nat.le_refl _) _⟩
    · have e0 : (0 : Int) ≤ (a.size : Int) := by omega
      have e1 : (a.size : Int) ≤ (a.size : Int) := by omega
      have e2 : (a.size : Int) ≤ (b.size : Int) := by omega
      have e3 : a.size ≤ a.size := by omega
      have e4 : a.size ≤ b.size := by omega
      have hr2 : r.size ≤ 100000 := by omega
      have sA : (a).size ≤ 100000 := by omega
      have sB : (b.extract 0 a.size).size ≤ 100000 := by simp; omega
      by_cases hxy : x = y
      · obtain rfl : x = y := hxy
        obtain ⟨p, hp⟩ : ∃ p, sum (oneB (a) x r).data.toList = p := ⟨_, rfl⟩
        obtain ⟨q, hq⟩ : ∃ q, sum (oneB (b.extract 0 a.size) x r).data.toList = q := ⟨_, rfl⟩
        have lp : p < 4294967296 := by rw [← hp]; exact sum_lt _
        have lq : q < 4294967296 := by rw [← hq]; exact sum_lt _
        have hx1 : bits .xor .u32 (p : Int) (p : Int) = ((0 : Nat) : Int) := by rw [u32_xor_nat _ _ lp lp, Nat.xor_self]
        have hx2 : bits .xor .u32 (q : Int) (q : Int) = ((0 : Nat) : Int) := by rw [u32_xor_nat _ _ lq lq, Nat.xor_self]
        have HP := Lib.hid hp
        have HQ := Lib.hid hq
        clear hp hq
        go_enter Try.func12, Try.ntmps12
        go_wp2_with (go_at_call 19; refine (summed_any _).mono ?_; rintro e w' ⟨rfl, rfl⟩)
        go_quiet (fail)
        go_wp2_with fail
        have HC0 := Lib.hid (cell0 w r nq)
        have HB0 := Lib.hid (below0 w (.cells #[.string r] 9) nq)
        refine (shift1_any (a) x r w.heap.size _ HC0.out sA hr2).mono ?_
        rintro e w1 ⟨rfl, hb1⟩
        rw [HP.out]
        have HC1 := Lib.hid (keep_cell hb1 HC0.out)
        have HB1 : Hid (Below w.heap.size w w1) := HB0.out.trans (hb1.mono HB0.out.size)
        clear hb1
        go_wp2_with fail
        refine (shift1_any (a) x r w.heap.size _ HC1.out sA hr2).mono ?_
        rintro e w2 ⟨rfl, hb2⟩
        rw [HP.out]
        have HC2 := Lib.hid (keep_cell hb2 HC1.out)
        have HB2 : Hid (Below w.heap.size w w2) := HB1.out.trans (hb2.mono HB1.out.size)
        clear hb2
        go_wp2_with fail
        refine (shift1_any (b.extract 0 a.size) x r w.heap.size _ HC2.out sB hr2).mono ?_
        rintro e w3 ⟨rfl, hb3⟩
        rw [HQ.out]
        have HC3 := Lib.hid (keep_cell hb3 HC2.out)
        have HB3 : Hid (Below w.heap.size w w3) := HB2.out.trans (hb3.mono HB2.out.size)
        clear hb3
        go_wp2_with fail
        refine (shift1_any (b.extract 0 a.size) x r w.heap.size _ HC3.out sB hr2).mono ?_
        rintro e w4 ⟨rfl, hb4⟩
        rw [HQ.out]
        have HC4 := Lib.hid (keep_cell hb4 HC3.out)
        have HB4 : Hid (Below w.heap.size w w4) := HB3.out.trans (hb4.mono HB3.out.size)
        clear hb4
        go_wp2_with fail
        refine (shift1_any (a) x r w.heap.size _ HC4.out sA hr2).mono ?_
        rintro e w5 ⟨rfl, hb5⟩
        rw [HP.out]
        have HC5 := Lib.hid (keep_cell hb5 HC4.out)
        have HB5 : Hid (Below w.heap.size w w5) := HB4.out.trans (hb5.mono HB4.out.size)
        clear hb5
        go_wp2_with fail
        refine (shift1_any (a) x r w.heap.size _ HC5.out sA hr2).mono ?_
        rintro e w6 ⟨rfl, hb6⟩
        rw [HP.out]
        have HC6 := Lib.hid (keep_cell hb6 HC5.out)
        have HB6 : Hid (Below w.heap.size w w6) := HB5.out.trans (hb6.mono HB5.out.size)
        clear hb6
        go_wp2
        go_ret
        exact ⟨rfl, HB6.out⟩
      · obtain ⟨p, hp⟩ : ∃ p, sum (oneB (a) x r).data.toList = p := ⟨_, rfl⟩
        obtain ⟨q, hq⟩ : ∃ q, sum (oneB (b.extract 0 a.size) x r).data.toList = q := ⟨_, rfl⟩
        obtain ⟨p2, hp2⟩ : ∃ p, sum (oneB (a) y r).data.toList = p := ⟨_, rfl⟩
        obtain ⟨q2, hq2⟩ : ∃ q, sum (oneB (b.extract 0 a.size) y r).data.toList = q := ⟨_, rfl⟩
        have lp : p < 4294967296 := by rw [← hp]; exact sum_lt _
        have lq : q < 4294967296 := by rw [← hq]; exact sum_lt _
        have lp2 : p2 < 4294967296 := by rw [← hp2]; exact sum_lt _
        have lq2 : q2 < 4294967296 := by rw [← hq2]; exact sum_lt _
        have hsx : p ^^^ p2 = q ^^^ q2 := by rw [← hp, ← hp2, ← hq, ← hq2]; exact shift_xor _ _ _ _ _
        have hne : p ≠ p2 := fun h => hxy ((shift_same (a) x y r).2 (by rw [hp, hp2, h]))
        have hx1 : bits .xor .u32 (p : Int) (p2 : Int) = ((q ^^^ q2 : Nat) : Int) := by rw [u32_xor_nat _ _ lp lp2, hsx]
        have hx2 : bits .xor .u32 (q : Int) (q2 : Int) = ((q ^^^ q2 : Nat) : Int) := u32_xor_nat _ _ lq lq2
        have hb1 : ((p : Int) == (p2 : Int)) = false := beq_eq_false_iff_ne.2 (by omega)
        have hb2 : ((x.toNat : Int) == (y.toNat : Int)) = false := beq_eq_false_iff_ne.2 (fun h => hxy (UInt8.toNat_inj.1 (by omega)))
        have HP := Lib.hid hp
        have HQ := Lib.hid hq
        have HP2 := Lib.hid hp2
        have HQ2 := Lib.hid hq2
        clear hp hq hp2 hq2 hsx hne hxy
        go_enter Try.func12, Try.ntmps12
        go_wp2_with (go_at_call 19; refine (summed_any _).mono ?_; rintro e w' ⟨rfl, rfl⟩)
        go_quiet (fail)
        go_wp2_with fail
        have HC0 := Lib.hid (cell0 w r nq)
        have HB0 := Lib.hid (below0 w (.cells #[.string r] 9) nq)
        refine (shift1_any (a) x r w.heap.size _ HC0.out sA hr2).mono ?_
        rintro e w1 ⟨rfl, hb1⟩
        rw [HP.out]
        have HC1 := Lib.hid (keep_cell hb1 HC0.out)
        have HB1 : Hid (Below w.heap.size w w1) := HB0.out.trans (hb1.mono HB0.out.size)
        clear hb1
        go_wp2_with fail
        refine (shift1_any (a) y r w.heap.size _ HC1.out sA hr2).mono ?_
        rintro e w2 ⟨rfl, hb2⟩
        rw [HP2.out]
        have HC2 := Lib.hid (keep_cell hb2 HC1.out)
        have HB2 : Hid (Below w.heap.size w w2) := HB1.out.trans (hb2.mono HB1.out.size)
        clear hb2
        go_wp2_with fail
        refine (shift1_any (b.extract 0 a.size) x r w.heap.size _ HC2.out sB hr2).mono ?_
        rintro e w3 ⟨rfl, hb3⟩
        rw [HQ.out]
        have HC3 := Lib.hid (keep_cell hb3 HC2.out)
        have HB3 : Hid (Below w.heap.size w w3) := HB2.out.trans (hb3.mono HB2.out.size)
        clear hb3
        go_wp2_with fail
        refine (shift1_any (b.extract 0 a.size) y r w.heap.size _ HC3.out sB hr2).mono ?_
        rintro e w4 ⟨rfl, hb4⟩
        rw [HQ2.out]
        have HC4 := Lib.hid (keep_cell hb4 HC3.out)
        have HB4 : Hid (Below w.heap.size w w4) := HB3.out.trans (hb4.mono HB3.out.size)
        clear hb4
        go_wp2_with fail
        refine (shift1_any (a) x r w.heap.size _ HC4.out sA hr2).mono ?_
        rintro e w5 ⟨rfl, hb5⟩
        rw [HP.out]
        have HC5 := Lib.hid (keep_cell hb5 HC4.out)
        have HB5 : Hid (Below w.heap.size w w5) := HB4.out.trans (hb5.mono HB4.out.size)
        clear hb5
        go_wp2_with fail
        refine (shift1_any (a) y r w.heap.size _ HC5.out sA hr2).mono ?_
        rintro e w6 ⟨rfl, hb6⟩
        rw [HP2.out]
        have HC6 := Lib.hid (keep_cell hb6 HC5.out)
        have HB6 : Hid (Below w.heap.size w w6) := HB5.out.trans (hb6.mono HB5.out.size)
        clear hb6
        go_wp2
        go_ret
        exact ⟨rfl, HB6.out⟩

set_option maxRecDepth 100000 in
set_option maxHeartbeats 2000000 in
theorem shift_b (a : ByteArray) (_ : a.size ≤ 140737488351232) (b : ByteArray) (hb : b.size ≤ 140737488351232) (r : ByteArray) (hr : r.size ≤ 140737488351232) (x y : UInt8) (h1 : b.size < a.size) (w : World) :
    Calls Try.prog 12 #[.string a, .string b, .string r, .int .u8 (x.toNat : Int), .int .u8 (y.toNat : Int)] w fun e w' => e = .returned (.bool true) ∧ Below w.heap.size w w' := by
  have hmf : ∀ (fn : Fn) (first cap : Array Value) (w : World), (Instr.makeFunc fn first cap).run Try.prog w = .ok (.func fn first cap) w := fun _ _ _ _ => rfl
  by_cases h3 : 200 < b.size
  · go_enter Try.func12, Try.ntmps12
    go_wp2_with (go_at_call 19; refine (summed_any _).mono ?_; rintro e w' ⟨rfl, rfl⟩)
    go_ret
    exact ⟨rfl, (Below.refl _ _).alloc (Nat.le_refl _) _⟩
  · by_cases h4 : 200 < r.size
    · go_enter Try.func12, Try.ntmps12
      go_wp2_with (go_at_call 19; refine (summed_any _).mono ?_; rintro e w' ⟨rfl, rfl⟩)
      go_ret
      exact ⟨rfl, (Below.refl _ _).alloc (Nat.le_refl _) _⟩
    · have e0 : (0 : Int) ≤ (b.size : Int) := by omega
      have e1 : (b.size : Int) ≤ (a.size : Int) := by omega
      have e2 : (b.size : Int) ≤ (b.size : Int) := by omega
      have e3 : b.size ≤ a.size := by omega
      have e4 : b.size ≤ b.size := by omega
      have hr2 : r.size ≤ 100000 := by omega
      have sA : (a.extract 0 b.size).size ≤ 100000 := by simp; omega
      have sB : (b).size ≤ 100000 := by omega
      by_cases hxy : x = y
      · obtain rfl : x = y := hxy
        obtain ⟨p, hp⟩ : ∃ p, sum (oneB (a.extract 0 b.size) x r).data.toList = p := ⟨_, rfl⟩
        obtain ⟨q, hq⟩ : ∃ q, sum (oneB (b) x r).data.toList = q := ⟨_, rfl⟩
        have lp : p < 4294967296 := by rw [← hp]; exact sum_lt _
        have lq : q < 4294967296 := by rw [← hq]; exact sum_lt _
        have hx1 : bits .xor .u32 (p : Int) (p : Int) = ((0 : Nat) : Int) := by rw [u32_xor_nat _ _ lp lp, Nat.xor_self]
        have hx2 : bits .xor .u32 (q : Int) (q : Int) = ((0 : Nat) : Int) := by rw [u32_xor_nat _ _ lq lq, Nat.xor_self]
        have HP := Lib.hid hp
        have HQ := Lib.hid hq
        clear hp hq
        go_enter Try.func12, Try.ntmps12
        go_wp2_with (go_at_call 19; refine (summed_any _).mono ?_; rintro e w' ⟨rfl, rfl⟩)
        go_quiet (fail)
        go_wp2_with fail
        have HC0 := Lib.hid (cell0 w r nq)
        have HB0 := Lib.hid (below0 w (.cells #[.string r] 9) nq)
        refine (shift1_any (a.extract 0 b.size) x r w.heap.size _ HC0.out sA hr2).mono ?_
        rintro e w1 ⟨rfl, hb1⟩
        rw [HP.out]
        have HC1 := Lib.hid (keep_cell hb1 HC0.out)
        have HB1 : Hid (Below w.heap.size w w1) := HB0.out.trans (hb1.mono HB0.out.size)
        clear hb1
        go_wp2_with fail
        refine (shift1_any (a.extract 0 b.size) x r w.heap.size _ HC1.out sA hr2).mono ?_
        rintro e w2 ⟨rfl, hb2⟩
        rw [HP.out]
        have HC2 := Lib.hid (keep_cell hb2 HC1.out)
        have HB2 : Hid (Below w.heap.size w w2) := HB1.out.trans (hb2.mono HB1.out.size)
        clear hb2
        go_wp2_with fail
        refine (shift1_any (b) x r w.heap.size _ HC2.out sB hr2).mono ?_
        rintro e w3 ⟨rfl, hb3⟩
        rw [HQ.out]
        have HC3 := Lib.hid (keep_cell hb3 HC2.out)
        have HB3 : Hid (Below w.heap.size w w3) := HB2.out.trans (hb3.mono HB2.out.size)
        clear hb3
        go_wp2_with fail
        refine (shift1_any (b) x r w.heap.size _ HC3.out sB hr2).mono ?_
        rintro e w4 ⟨rfl, hb4⟩
        rw [HQ.out]
        have HC4 := Lib.hid (keep_cell hb4 HC3.out)
        have HB4 : Hid (Below w.heap.size w w4) := HB3.out.trans (hb4.mono HB3.out.size)
        clear hb4
        go_wp2_with fail
        refine (shift1_any (a.extract 0 b.size) x r w.heap.size _ HC4.out sA hr2).mono ?_
        rintro e w5 ⟨rfl, hb5⟩
        rw [HP.out]
        have HC5 := Lib.hid (keep_cell hb5 HC4.out)
        have HB5 : Hid (Below w.heap.size w w5) := HB4.out.trans (hb5.mono HB4.out.size)
        clear hb5
        go_wp2_with fail
        refine (shift1_any (a.extract 0 b.size) x r w.heap.size _ HC5.out sA hr2).mono ?_
        rintro e w6 ⟨rfl, hb6⟩
        rw [HP.out]
        have HC6 := Lib.hid (keep_cell hb6 HC5.out)
        have HB6 : Hid (Below w.heap.size w w6) := HB5.out.trans (hb6.mono HB5.out.size)
        clear hb6
        go_wp2
        go_ret
        exact ⟨rfl, HB6.out⟩
      · obtain ⟨p, hp⟩ : ∃ p, sum (oneB (a.extract 0 b.size) x r).data.toList = p := ⟨_, rfl⟩
        obtain ⟨q, hq⟩ : ∃ q, sum (oneB (b) x r).data.toList = q := ⟨_, rfl⟩
        obtain ⟨p2, hp2⟩ : ∃ p, sum (oneB (a.extract 0 b.size) y r).data.toList = p := ⟨_, rfl⟩
        obtain ⟨q2, hq2⟩ : ∃ q, sum (oneB (b) y r).data.toList = q := ⟨_, rfl⟩
        have lp : p < 4294967296 := by rw [← hp]; exact sum_lt _
        have lq : q < 4294967296 := by rw [← hq]; exact sum_lt _
        have lp2 : p2 < 4294967296 := by rw [← hp2]; exact sum_lt _
        have lq2 : q2 < 4294967296 := by rw [← hq2]; exact sum_lt _
        have hsx : p ^^^ p2 = q ^^^ q2 := by rw [← hp, ← hp2, ← hq, ← hq2]; exact shift_xor _ _ _ _ _
        have hne : p ≠ p2 := fun h => hxy ((shift_same (a.extract 0 b.size) x y r).2 (by rw [hp, hp2, h]))
        have hx1 : bits .xor .u32 (p : Int) (p2 : Int) = ((q ^^^ q2 : Nat) : Int) := by rw [u32_xor_nat _ _ lp lp2, hsx]
        have hx2 : bits .xor .u32 (q : Int) (q2 : Int) = ((q ^^^ q2 : Nat) : Int) := u32_xor_nat _ _ lq lq2
        have hb1 : ((p : Int) == (p2 : Int)) = false := beq_eq_false_iff_ne.2 (by omega)
        have hb2 : ((x.toNat : Int) == (y.toNat : Int)) = false := beq_eq_false_iff_ne.2 (fun h => hxy (UInt8.toNat_inj.1 (by omega)))
        have HP := Lib.hid hp
        have HQ := Lib.hid hq
        have HP2 := Lib.hid hp2
        have HQ2 := Lib.hid hq2
        clear hp hq hp2 hq2 hsx hne hxy
        go_enter Try.func12, Try.ntmps12
        go_wp2_with (go_at_call 19; refine (summed_any _).mono ?_; rintro e w' ⟨rfl, rfl⟩)
        go_quiet (fail)
        go_wp2_with fail
        have HC0 := Lib.hid (cell0 w r nq)
        have HB0 := Lib.hid (below0 w (.cells #[.string r] 9) nq)
        refine (shift1_any (a.extract 0 b.size) x r w.heap.size _ HC0.out sA hr2).mono ?_
        rintro e w1 ⟨rfl, hb1⟩
        rw [HP.out]
        have HC1 := Lib.hid (keep_cell hb1 HC0.out)
        have HB1 : Hid (Below w.heap.size w w1) := HB0.out.trans (hb1.mono HB0.out.size)
        clear hb1
        go_wp2_with fail
        refine (shift1_any (a.extract 0 b.size) y r w.heap.size _ HC1.out sA hr2).mono ?_
        rintro e w2 ⟨rfl, hb2⟩
        rw [HP2.out]
        have HC2 := Lib.hid (keep_cell hb2 HC1.out)
        have HB2 : Hid (Below w.heap.size w w2) := HB1.out.trans (hb2.mono HB1.out.size)
        clear hb2
        go_wp2_with fail
        refine (shift1_any (b) x r w.heap.size _ HC2.out sB hr2).mono ?_
        rintro e w3 ⟨rfl, hb3⟩
        rw [HQ.out]
        have HC3 := Lib.hid (keep_cell hb3 HC2.out)
        have HB3 : Hid (Below w.heap.size w w3) := HB2.out.trans (hb3.mono HB2.out.size)
        clear hb3
        go_wp2_with fail
        refine (shift1_any (b) y r w.heap.size _ HC3.out sB hr2).mono ?_
        rintro e w4 ⟨rfl, hb4⟩
        rw [HQ2.out]
        have HC4 := Lib.hid (keep_cell hb4 HC3.out)
        have HB4 : Hid (Below w.heap.size w w4) := HB3.out.trans (hb4.mono HB3.out.size)
        clear hb4
        go_wp2_with fail
        refine (shift1_any (a.extract 0 b.size) x r w.heap.size _ HC4.out sA hr2).mono ?_
        rintro e w5 ⟨rfl, hb5⟩
        rw [HP.out]
        have HC5 := Lib.hid (keep_cell hb5 HC4.out)
        have HB5 : Hid (Below w.heap.size w w5) := HB4.out.trans (hb5.mono HB4.out.size)
        clear hb5
        go_wp2_with fail
        refine (shift1_any (a.extract 0 b.size) y r w.heap.size _ HC5.out sA hr2).mono ?_
        rintro e w6 ⟨rfl, hb6⟩
        rw [HP2.out]
        have HC6 := Lib.hid (keep_cell hb6 HC5.out)
        have HB6 : Hid (Below w.heap.size w w6) := HB5.out.trans (hb6.mono HB5.out.size)
        clear hb6
        go_wp2
        go_ret
        exact ⟨rfl, HB6.out⟩

theorem crcShift_walk (a : ByteArray) (ha : a.size ≤ 140737488351232) (b : ByteArray) (hb : b.size ≤ 140737488351232) (r : ByteArray) (hr : r.size ≤ 140737488351232) (x : Int) (x0 : 0 ≤ x) (x1 : x ≤ 255) (y : Int) (y0 : 0 ≤ y) (y1 : y ≤ 255) (w : World) :
    Calls Try.prog 12 #[.string a, .string b, .string r, .int .u8 x, .int .u8 y] w fun e w' => e = .returned (.bool true) ∧ Below w.heap.size w w' := by
  obtain ⟨x, rfl⟩ : ∃ c : UInt8, x = (c.toNat : Int) := ⟨UInt8.ofNat x.toNat, by simp; omega⟩
  obtain ⟨y, rfl⟩ : ∃ c : UInt8, y = (c.toNat : Int) := ⟨UInt8.ofNat y.toNat, by simp; omega⟩
  by_cases h1 : b.size < a.size
  · exact shift_b a ha b hb r hr x y h1 w
  · exact shift_a a ha b hb r hr x y h1 w
end Go.Proofs.Ytgjmelinfkifcaa
