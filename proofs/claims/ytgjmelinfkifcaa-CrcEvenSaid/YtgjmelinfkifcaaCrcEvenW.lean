/-
  The walk of 'packtrainkeep.CrcEven'.
-/
import Derived.Test.YtgjmelinfkifcaaCrcTurn
import Derived.Test.YtgjmelinfkifcaaCrcSummed
import Derived.WalkLawsBesides
import Derived.Laws.MakeOwn
import Derived.Deep.RegionHeld3
namespace Go.Proofs.Ytgjmelinfkifcaa
open Go.RowKit

/-- Three texts' bytes at a place, taken together. -/
def triN (a b c : List UInt8) (j : Nat) : Nat := (a.getD j 0).toNat ^^^ (b.getD j 0).toNat ^^^ (c.getD j 0).toNat
theorem triN_lt (a b c : List UInt8) (j : Nat) : triN a b c j < 256 := Nat.xor_lt_two_pow (n := 8) (Nat.xor_lt_two_pow (n := 8) (a.getD j 0).toNat_lt (b.getD j 0).toNat_lt) (c.getD j 0).toNat_lt
def triL (a b c : List UInt8) (n : Nat) : List UInt8 := (List.range n).map fun j => UInt8.ofNat (triN a b c j)
theorem triL_len (a b c : List UInt8) (n : Nat) : (triL a b c n).length = n := by simp [triL]
theorem triL_at (a b c : List UInt8) (n j : Nat) (h : j < (triL a b c n).length) : (triL a b c n)[j].toNat = triN a b c j := by
  have := triN_lt a b c j
  simp [triL]
  omega
theorem getD_at (a : List UInt8) (j : Nat) (h : j < a.length) : a.getD j 0 = a[j] := by simp [h]
theorem triL_sum (a b c : List UInt8) (n : Nat) (ha : n ≤ a.length) (hb : n ≤ b.length) (hc : n ≤ c.length) :
    sum (a.take n) ^^^ sum (b.take n) ^^^ sum (c.take n) = sum (triL a b c n) := by
  refine sum_three n a b c _ ha hb hc (triL_len a b c n) fun i h => ?_
  rw [triL_at]
  unfold triN
  rw [getD_at a i (by omega), getD_at b i (by omega), getD_at c i (by omega)]

/-- What the loop keeps: the first k places are done. -/
def EV (u : Nat → Nat) (n k : Nat) (w wr : World) : Prop :=
  wr.heap[w.heap.size]? = some (.cells (rowC (upto u k) n n) 5 (0, 0)) ∧ Below w.heap.size w wr
theorem EV.start (u : Nat → Nat) (n : Nat) (w : World) : EV u n 0 w (w.alloc (.cells (rowC (upto u 0) n n) 5)) := ⟨heap_alloc_new _ _, (Below.refl _ _).alloc (Nat.le_refl _) _⟩
theorem EV.cells {u : Nat → Nat} {n k j : Nat} {w wr : World} (h : EV u n k w wr) (hj : j < n) :
    wr.cell? ⟨w.heap.size, j, none⟩ = some (.int .u8 (upto u k j : Nat)) ∧ wr.frozen? ⟨w.heap.size, j, none⟩ = false :=
  ⟨by rw [cell_of_row _ _ _ _ _ _ h.1, rowC_at _ _ _ _ hj hj], frozen_of_row _ _ _ _ _ h.1⟩
theorem EV.put {u : Nat → Nat} {n k : Nat} {w wr : World} (h : EV u n k w wr) (hk : k < n) {x : Int} (hx : x = (u k : Nat)) :
    EV u n (k + 1) w (wr.setCell ⟨w.heap.size, k, none⟩ (.int .u8 x)).drew := by
  refine ⟨?_, (h.2.setCell (Nat.le_refl _) _).drew⟩
  rw [heap_drew, heap_setCell_same _ _ _ _ _ _ h.1, rowC_set (upto u k) (upto u (k + 1)) n n k hk (Nat.le_refl _) x (by rw [hx]; unfold upto; rw [if_pos (by omega)])]
  intro j _ hne
  unfold upto
  by_cases h2 : j < k
  · rw [if_pos h2, if_pos (by omega)]
  · rw [if_neg h2, if_neg (by omega)]
theorem EV.conv {a b c : List UInt8} {n : Nat} {w wr : World} (h : EV (triN a b c) n n w wr) :
    (convert 32 9 (.slice (some ⟨w.heap.size, 0, none⟩) (triL a b c n).length n)).run Try.prog wr.drew = .ok (.string ⟨(triL a b c n).toArray⟩) wr.drew := by
  refine run_convert_bytes_back _ _ _ _ _ _ (triL a b c n) Try.underlying32 Try.underlying5 Try.underlying9 fun j hj => ?_
  have hadd : (⟨w.heap.size, 0, none⟩ : Addr).add j = ⟨w.heap.size, j, none⟩ := by unfold Addr.add; split <;> simp_all
  have hj2 : j < n := by rw [triL_len] at hj; exact hj
  rw [hadd, triL_at]
  show wr.cell? _ = _
  rw [(h.cells hj2).1, upto, if_pos hj2]
theorem zeros_row (u : Nat → Nat) (n : Nat) : madeCells #[Value.int .u8 0] n = rowC (upto u 0) n n := by
  apply Array.ext_getElem?
  intro j
  unfold madeCells
  by_cases hj : j < n
  · rw [rowC_at _ _ _ _ hj hj]
    simp [hj, upto, Nat.mod_one]
  · rw [Array.getElem?_eq_none (by simp; omega), Array.getElem?_eq_none (by rw [rowC_size]; omega)]
theorem run_make_row (u : Nat → Nat) (n : Nat) (w : World) (hn : n ≤ 300) :
    (Instr.makeSlice 32 (.int .i64 (n : Int)) (.int .i64 (n : Int))).run Try.prog w = .ok (.slice (some ⟨w.heap.size, 0, none⟩) n n) (w.alloc (.cells (rowC (upto u 0) n n) 5)) := by
  obtain ⟨i0, hi, hz0, hz1, hz2⟩ := info_parts info_u8
  have h := run_makeSlice (P := Try.prog) w 32 5 i0 (.int .u8 0) Try.underlying32 hi hz0 .i64 .i64 (n : Int) (n : Int) (by omega) (Int.le_refl _) (by rw [hz1]; omega) (by rw [hz2]; omega) (by omega)
  rw [h, hz1, Int.toNat_natCast, Nat.mul_one]
  show _ = Result.ok _ (w.alloc (.cells (rowC (upto u 0) n n) _))
  rw [← zeros_row u n]; rfl
theorem le_len {n : Nat} {b : ByteArray} (h : n ≤ b.size) : n ≤ b.data.toList.length := by simpa using h
theorem xor_bytes {x y : Nat} (hx : x < 256) (hy : y < 256) : bits .xor .u8 (x : Int) (y : Int) = ((x ^^^ y : Nat) : Int) := u8_xor_nat x y hx hy

set_option maxRecDepth 100000 in
set_option maxHeartbeats 1000000 in
theorem even_a1 (a : ByteArray) (ha : a.size ≤ 140737488351232) (b : ByteArray) (hb : b.size ≤ 140737488351232) (c : ByteArray) (_ : c.size ≤ 140737488351232) (h1 : ¬ b.size < a.size) (h2 : (a.size : Int) ≤ (c.size : Int)) (w : World) :
    Calls Try.prog 8 #[.string a, .string b, .string c] w fun e w' => e = .returned (.bool true) ∧ Below w.heap.size w w' := by
  by_cases h3 : 300 < a.size
  · go_enter Try.func8, Try.ntmps8
    go_wp2_with (go_at_call 19; refine (summed_any _).mono ?_; rintro e w' ⟨rfl, rfl⟩)
    go_ret
    exact ⟨rfl, Below.refl _ _⟩
  · have hmk := run_make_row (triN a.data.toList b.data.toList c.data.toList) a.size w (by omega)
    go_enter Try.func8, Try.ntmps8
    go_wp2_with (go_at_call 19; refine (summed_any _).mono ?_; rintro e w' ⟨rfl, rfl⟩)
    clear hmk
    go_loopw [25] (fun i wr => ∃ k : Nat, k ≤ a.size ∧ i = .int .i64 k ∧ EV (triN a.data.toList b.data.toList c.data.toList) a.size k w wr) (fun i _ => a.size - (intOf i).toNat)
    case atStart => exact ⟨0, by omega, rfl, EV.start _ _ _⟩
    case round =>
      obtain ⟨k, hk, rfl, hE⟩ := hrel
      have HE := Lib.hid hE
      by_cases hlt : k < a.size
      · obtain ⟨f1, f2⟩ := hE.cells hlt
        clear hE
        have ka : k < a.size := by omega
        have kb : k < b.size := by omega
        have kc : k < c.size := by omega
        have hx1 := xor_bytes a[k].toNat_lt b[k].toNat_lt
        have hx2 := xor_bytes (x := a[k].toNat ^^^ b[k].toNat) (Nat.xor_lt_two_pow (n := 8) a[k].toNat_lt b[k].toNat_lt) c[k].toNat_lt
        have HX : Hid (((a[k].toNat ^^^ b[k].toNat ^^^ c[k].toNat : Nat) : Int) = (triN a.data.toList b.data.toList c.data.toList k : Nat)) := by
          have h : ((a[k].toNat ^^^ b[k].toNat ^^^ c[k].toNat : Nat) : Int) = (triN a.data.toList b.data.toList c.data.toList k : Nat) := by
            unfold triN
            rw [getD_at _ k (by simpa using ka), getD_at _ k (by simpa using kb), getD_at _ k (by simpa using kc)]
            rfl
          exact h
        go_wp2
        go_region
        go_wp2
        go_roundw
        case rel => exact ⟨k + 1, by omega, by go_num, HE.out.put hlt HX.out⟩
        case measure => simp [intOf]; omega
      · obtain rfl : k = a.size := by omega
        have hcv := hE.conv
        rw [triL_len] at hcv
        have HB := Lib.hid hE.2
        clear hE
        have n1 : a.size ≤ a.size := by omega
        have n2 : a.size ≤ b.size := by omega
        have n3 : a.size ≤ c.size := by omega
        have hsum := triL_sum a.data.toList b.data.toList c.data.toList a.size (le_len n1) (le_len n2) (le_len n3)
        have l1 := sum_lt (a.data.toList.take a.size)
        have l2 := sum_lt (b.data.toList.take a.size)
        have l3 := sum_lt (c.data.toList.take a.size)
        have hx1 := u32_xor_nat _ _ l1 l2
        have hx2 := u32_xor_nat _ _ (xlt l1 l2) l3
        clear l1 l2 l3
        try simp only [take_all] at hx1
        simp only [take_all] at hsum hx2
        have e0 : (0 : Int) ≤ (a.size : Int) := by omega
        have e1 : (a.size : Int) ≤ (a.size : Int) := by omega
        have e2 : (a.size : Int) ≤ (b.size : Int) := by omega
        have e3 : (a.size : Int) ≤ (c.size : Int) := by omega
        have HL : Hid ((⟨(triL a.data.toList b.data.toList c.data.toList a.size).toArray⟩ : ByteArray).size ≤ maxLen) := by
          have h : (⟨(triL a.data.toList b.data.toList c.data.toList a.size).toArray⟩ : ByteArray).size ≤ maxLen := by
            show (triL a.data.toList b.data.toList c.data.toList a.size).toArray.size ≤ maxLen
            rw [List.size_toArray, triL_len]
            unfold maxLen
            omega
          exact h
        have HC := Lib.hid hcv
        clear hcv
        go_wp2
        go_region_held3 (fun w' => (convert 32 9 (.slice (some ⟨w.heap.size, 0, none⟩) a.size a.size)).run Try.prog w' = .ok (.string ⟨(triL a.data.toList b.data.toList c.data.toList a.size).toArray⟩) w') (first | exact HC.out | assumption) (first | (go_at_call 13; with_reducible refine (sum_any ⟨(triL a.data.toList b.data.toList c.data.toList a.size).toArray⟩ _ HL.out).mono ?_; rintro r w1 ⟨rfl, rfl⟩) | (go_at_call 13; refine (sum_any _ _ (by unfold maxLen; first | (simp; omega) | omega)).mono ?_; rintro r w1 ⟨rfl, rfl⟩))
        go_wp2
        go_ret
        exact ⟨rfl, HB.out.drew⟩

set_option maxRecDepth 100000 in
set_option maxHeartbeats 1000000 in
theorem even_b1 (a : ByteArray) (ha : a.size ≤ 140737488351232) (b : ByteArray) (hb : b.size ≤ 140737488351232) (c : ByteArray) (_ : c.size ≤ 140737488351232) (h1 : b.size < a.size) (h2 : (b.size : Int) ≤ (c.size : Int)) (w : World) :
    Calls Try.prog 8 #[.string a, .string b, .string c] w fun e w' => e = .returned (.bool true) ∧ Below w.heap.size w w' := by
  by_cases h3 : 300 < b.size
  · go_enter Try.func8, Try.ntmps8
    go_wp2_with (go_at_call 19; refine (summed_any _).mono ?_; rintro e w' ⟨rfl, rfl⟩)
    go_ret
    exact ⟨rfl, Below.refl _ _⟩
  · have hmk := run_make_row (triN a.data.toList b.data.toList c.data.toList) b.size w (by omega)
    go_enter Try.func8, Try.ntmps8
    go_wp2_with (go_at_call 19; refine (summed_any _).mono ?_; rintro e w' ⟨rfl, rfl⟩)
    clear hmk
    go_loopw [25] (fun i wr => ∃ k : Nat, k ≤ b.size ∧ i = .int .i64 k ∧ EV (triN a.data.toList b.data.toList c.data.toList) b.size k w wr) (fun i _ => b.size - (intOf i).toNat)
    case atStart => exact ⟨0, by omega, rfl, EV.start _ _ _⟩
    case round =>
      obtain ⟨k, hk, rfl, hE⟩ := hrel
      have HE := Lib.hid hE
      by_cases hlt : k < b.size
      · obtain ⟨f1, f2⟩ := hE.cells hlt
        clear hE
        have ka : k < a.size := by omega
        have kb : k < b.size := by omega
        have kc : k < c.size := by omega
        have hx1 := xor_bytes a[k].toNat_lt b[k].toNat_lt
        have hx2 := xor_bytes (x := a[k].toNat ^^^ b[k].toNat) (Nat.xor_lt_two_pow (n := 8) a[k].toNat_lt b[k].toNat_lt) c[k].toNat_lt
        have HX : Hid (((a[k].toNat ^^^ b[k].toNat ^^^ c[k].toNat : Nat) : Int) = (triN a.data.toList b.data.toList c.data.toList k : Nat)) := by
          have h : ((a[k].toNat ^^^ b[k].toNat ^^^ c[k].toNat : Nat) : Int) = (triN a.data.toList b.data.toList c.data.toList k : Nat) := by
            unfold triN
            rw [getD_at _ k (by simpa using ka), getD_at _ k (by simpa using kb), getD_at _ k (by simpa using kc)]
            rfl
          exact h
        go_wp2
        go_region
        go_wp2
        go_roundw
        case rel => exact ⟨k + 1, by omega, by go_num, HE.out.put hlt HX.out⟩
        case measure => simp [intOf]; omega
      · obtain rfl : k = b.size := by omega
        have hcv := hE.conv
        rw [triL_len] at hcv
        have HB := Lib.hid hE.2
        clear hE
        have n1 : b.size ≤ a.size := by omega
        have n2 : b.size ≤ b.size := by omega
        have n3 : b.size ≤ c.size := by omega
        have hsum := triL_sum a.data.toList b.data.toList c.data.toList b.size (le_len n1) (le_len n2) (le_len n3)
        have l1 := sum_lt (a.data.toList.take b.size)
        have l2 := sum_lt (b.data.toList.take b.size)
        have l3 := sum_lt (c.data.toList.take b.size)
        have hx1 := u32_xor_nat _ _ l1 l2
        have hx2 := u32_xor_nat _ _ (xlt l1 l2) l3
        clear l1 l2 l3
        try simp only [take_all] at hx1
        simp only [take_all] at hsum hx2
        have e0 : (0 : Int) ≤ (b.size : Int) := by omega
        have e1 : (b.size : Int) ≤ (a.size : Int) := by omega
        have e2 : (b.size : Int) ≤ (b.size : Int) := by omega
        have e3 : (b.size : Int) ≤ (c.size : Int) := by omega
        have HL : Hid ((⟨(triL a.data.toList b.data.toList c.data.toList b.size).toArray⟩ : ByteArray).size ≤ maxLen) := by
          have h : (⟨(triL a.data.toList b.data.toList c.data.toList b.size).toArray⟩ : ByteArray).size ≤ maxLen := by
            show (triL a.data.toList b.data.toList c.data.toList b.size).toArray.size ≤ maxLen
            rw [List.size_toArray, triL_len]
            unfold maxLen
            omega
          exact h
        have HC := Lib.hid hcv
        clear hcv
        go_wp2
        go_region_held3 (fun w' => (convert 32 9 (.slice (some ⟨w.heap.size, 0, none⟩) b.size b.size)).run Try.prog w' = .ok (.string ⟨(triL a.data.toList b.data.toList c.data.toList b.size).toArray⟩) w') (first | exact HC.out | assumption) (first | (go_at_call 13; with_reducible refine (sum_any ⟨(triL a.data.toList b.data.toList c.data.toList b.size).toArray⟩ _ HL.out).mono ?_; rintro r w1 ⟨rfl, rfl⟩) | (go_at_call 13; refine (sum_any _ _ (by unfold maxLen; first | (simp; omega) | omega)).mono ?_; rintro r w1 ⟨rfl, rfl⟩))
        go_wp2
        go_ret
        exact ⟨rfl, HB.out.drew⟩

set_option maxRecDepth 100000 in
set_option maxHeartbeats 1000000 in
theorem even_c1 (a : ByteArray) (ha : a.size ≤ 140737488351232) (b : ByteArray) (_ : b.size ≤ 140737488351232) (c : ByteArray) (hc : c.size ≤ 140737488351232) (h1 : b.size < a.size) (h2 : (c.size : Int) < (b.size : Int)) (w : World) :
    Calls Try.prog 8 #[.string a, .string b, .string c] w fun e w' => e = .returned (.bool true) ∧ Below w.heap.size w w' := by
  by_cases h3 : 300 < c.size
  · go_enter Try.func8, Try.ntmps8
    go_wp2_with (go_at_call 19; refine (summed_any _).mono ?_; rintro e w' ⟨rfl, rfl⟩)
    go_ret
    exact ⟨rfl, Below.refl _ _⟩
  · have hmk := run_make_row (triN a.data.toList b.data.toList c.data.toList) c.size w (by omega)
    go_enter Try.func8, Try.ntmps8
    go_wp2_with (go_at_call 19; refine (summed_any _).mono ?_; rintro e w' ⟨rfl, rfl⟩)
    clear hmk
    go_loopw [25] (fun i wr => ∃ k : Nat, k ≤ c.size ∧ i = .int .i64 k ∧ EV (triN a.data.toList b.data.toList c.data.toList) c.size k w wr) (fun i _ => c.size - (intOf i).toNat)
    case atStart => exact ⟨0, by omega, rfl, EV.start _ _ _⟩
    case round =>
      obtain ⟨k, hk, rfl, hE⟩ := hrel
      have HE := Lib.hid hE
      by_cases hlt : k < c.size
      · obtain ⟨f1, f2⟩ := hE.cells hlt
        clear hE
        have ka : k < a.size := by omega
        have kb : k < b.size := by omega
        have kc : k < c.size := by omega
        have hx1 := xor_bytes a[k].toNat_lt b[k].toNat_lt
        have hx2 := xor_bytes (x := a[k].toNat ^^^ b[k].toNat) (Nat.xor_lt_two_pow (n := 8) a[k].toNat_lt b[k].toNat_lt) c[k].toNat_lt
        have HX : Hid (((a[k].toNat ^^^ b[k].toNat ^^^ c[k].toNat : Nat) : Int) = (triN a.data.toList b.data.toList c.data.toList k : Nat)) := by
          have h : ((a[k].toNat ^^^ b[k].toNat ^^^ c[k].toNat : Nat) : Int) = (triN a.data.toList b.data.toList c.data.toList k : Nat) := by
            unfold triN
            rw [getD_at _ k (by simpa using ka), getD_at _ k (by simpa using kb), getD_at _ k (by simpa using kc)]
            rfl
          exact h
        go_wp2
        go_region
        go_wp2
        go_roundw
        case rel => exact ⟨k + 1, by omega, by go_num, HE.out.put hlt HX.out⟩
        case measure => simp [intOf]; omega
      · obtain rfl : k = c.size := by omega
        have hcv := hE.conv
        rw [triL_len] at hcv
        have HB := Lib.hid hE.2
        clear hE
        have n1 : c.size ≤ a.size := by omega
        have n2 : c.size ≤ b.size := by omega
        have n3 : c.size ≤ c.size := by omega
        have hsum := triL_sum a.data.toList b.data.toList c.data.toList c.size (le_len n1) (le_len n2) (le_len n3)
        have l1 := sum_lt (a.data.toList.take c.size)
        have l2 := sum_lt (b.data.toList.take c.size)
        have l3 := sum_lt (c.data.toList.take c.size)
        have hx1 := u32_xor_nat _ _ l1 l2
        have hx2 := u32_xor_nat _ _ (xlt l1 l2) l3
        clear l1 l2 l3
        try simp only [take_all] at hx1
        simp only [take_all] at hsum hx2
        have e0 : (0 : Int) ≤ (c.size : Int) := by omega
        have e1 : (c.size : Int) ≤ (a.size : Int) := by omega
        have e2 : (c.size : Int) ≤ (b.size : Int) := by omega
        have e3 : (c.size : Int) ≤ (c.size : Int) := by omega
        have HL : Hid ((⟨(triL a.data.toList b.data.toList c.data.toList c.size).toArray⟩ : ByteArray).size ≤ maxLen) := by
          have h : (⟨(triL a.data.toList b.data.toList c.data.toList c.size).toArray⟩ : ByteArray).size ≤ maxLen := by
            show (triL a.data.toList b.data.toList c.data.toList c.size).toArray.size ≤ maxLen
            rw [List.size_toArray, triL_len]
            unfold maxLen
            omega
          exact h
        have HC := Lib.hid hcv
        clear hcv
        go_wp2
        go_region_held3 (fun w' => (convert 32 9 (.slice (some ⟨w.heap.size, 0, none⟩) c.size c.size)).run Try.prog w' = .ok (.string ⟨(triL a.data.toList b.data.toList c.data.toList c.size).toArray⟩) w') (first | exact HC.out | assumption) (first | (go_at_call 13; with_reducible refine (sum_any ⟨(triL a.data.toList b.data.toList c.data.toList c.size).toArray⟩ _ HL.out).mono ?_; rintro r w1 ⟨rfl, rfl⟩) | (go_at_call 13; refine (sum_any _ _ (by unfold maxLen; first | (simp; omega) | omega)).mono ?_; rintro r w1 ⟨rfl, rfl⟩))
        go_wp2
        go_ret
        exact ⟨rfl, HB.out.drew⟩

set_option maxRecDepth 100000 in
set_option maxHeartbeats 1000000 in
theorem even_c2 (a : ByteArray) (_ : a.size ≤ 140737488351232) (b : ByteArray) (hb : b.size ≤ 140737488351232) (c : ByteArray) (hc : c.size ≤ 140737488351232) (h1 : ¬ b.size < a.size) (h2 : (c.size : Int) < (a.size : Int)) (w : World) :
    Calls Try.prog 8 #[.string a, .string b, .string c] w fun e w' => e = .returned (.bool true) ∧ Below w.heap.size w w' := by
  by_cases h3 : 300 < c.size
  · go_enter Try.func8, Try.ntmps8
    go_wp2_with (go_at_call 19; refine (summed_any _).mono ?_; rintro e w' ⟨rfl, rfl⟩)
    go_ret
    exact ⟨rfl, Below.refl _ _⟩
  · have hmk := run_make_row (triN a.data.toList b.data.toList c.data.toList) c.size w (by omega)
    go_enter Try.func8, Try.ntmps8
    go_wp2_with (go_at_call 19; refine (summed_any _).mono ?_; rintro e w' ⟨rfl, rfl⟩)
    clear hmk
    go_loopw [25] (fun i wr => ∃ k : Nat, k ≤ c.size ∧ i = .int .i64 k ∧ EV (triN a.data.toList b.data.toList c.data.toList) c.size k w wr) (fun i _ => c.size - (intOf i).toNat)
    case atStart => exact ⟨0, by omega, rfl, EV.start _ _ _⟩
    case round =>
      obtain ⟨k, hk, rfl, hE⟩ := hrel
      have HE := Lib.hid hE
      by_cases hlt : k < c.size
      · obtain ⟨f1, f2⟩ := hE.cells hlt
        clear hE
        have ka : k < a.size := by omega
        have kb : k < b.size := by omega
        have kc : k < c.size := by omega
        have hx1 := xor_bytes a[k].toNat_lt b[k].toNat_lt
        have hx2 := xor_bytes (x := a[k].toNat ^^^ b[k].toNat) (Nat.xor_lt_two_pow (n := 8) a[k].toNat_lt b[k].toNat_lt) c[k].toNat_lt
        have HX : Hid (((a[k].toNat ^^^ b[k].toNat ^^^ c[k].toNat : Nat) : Int) = (triN a.data.toList b.data.toList c.data.toList k : Nat)) := by
          have h : ((a[k].toNat ^^^ b[k].toNat ^^^ c[k].toNat : Nat) : Int) = (triN a.data.toList b.data.toList c.data.toList k : Nat) := by
            unfold triN
            rw [getD_at _ k (by simpa using ka), getD_at _ k (by simpa using kb), getD_at _ k (by simpa using kc)]
            rfl
          exact h
        go_wp2
        go_region
        go_wp2
        go_roundw
        case rel => exact ⟨k + 1, by omega, by go_num, HE.out.put hlt HX.out⟩
        case measure => simp [intOf]; omega
      · obtain rfl : k = c.size := by omega
        have hcv := hE.conv
        rw [triL_len] at hcv
        have HB := Lib.hid hE.2
        clear hE
        have n1 : c.size ≤ a.size := by omega
        have n2 : c.size ≤ b.size := by omega
        have n3 : c.size ≤ c.size := by omega
        have hsum := triL_sum a.data.toList b.data.toList c.data.toList c.size (le_len n1) (le_len n2) (le_len n3)
        have l1 := sum_lt (a.data.toList.take c.size)
        have l2 := sum_lt (b.data.toList.take c.size)
        have l3 := sum_lt (c.data.toList.take c.size)
        have hx1 := u32_xor_nat _ _ l1 l2
        have hx2 := u32_xor_nat _ _ (xlt l1 l2) l3
        clear l1 l2 l3
        try simp only [take_all] at hx1
        simp only [take_all] at hsum hx2
        have e0 : (0 : Int) ≤ (c.size : Int) := by omega
        have e1 : (c.size : Int) ≤ (a.size : Int) := by omega
        have e2 : (c.size : Int) ≤ (b.size : Int) := by omega
        have e3 : (c.size : Int) ≤ (c.size : Int) := by omega
        have HL : Hid ((⟨(triL a.data.toList b.data.toList c.data.toList c.size).toArray⟩ : ByteArray).size ≤ maxLen) := by
          have h : (⟨(triL a.data.toList b.data.toList c.data.toList c.size).toArray⟩ : ByteArray).size ≤ maxLen := by
            show (triL a.data.toList b.data.toList c.data.toList c.size).toArray.size ≤ maxLen
            rw [List.size_toArray, triL_len]
            unfold maxLen
            omega
          exact h
        have HC := Lib.hid hcv
        clear hcv
        go_wp2
        go_region_held3 (fun w' => (convert 32 9 (.slice (some ⟨w.heap.size, 0, none⟩) c.size c.size)).run Try.prog w' = .ok (.string ⟨(triL a.data.toList b.data.toList c.data.toList c.size).toArray⟩) w') (first | exact HC.out | assumption) (first | (go_at_call 13; with_reducible refine (sum_any ⟨(triL a.data.toList b.data.toList c.data.toList c.size).toArray⟩ _ HL.out).mono ?_; rintro r w1 ⟨rfl, rfl⟩) | (go_at_call 13; refine (sum_any _ _ (by unfold maxLen; first | (simp; omega) | omega)).mono ?_; rintro r w1 ⟨rfl, rfl⟩))
        go_wp2
        go_ret
        exact ⟨rfl, HB.out.drew⟩

theorem crcEven_walk (a : ByteArray) (ha : a.size ≤ 140737488351232) (b : ByteArray) (hb : b.size ≤ 140737488351232) (c : ByteArray) (hc : c.size ≤ 140737488351232) (w : World) :
    Calls Try.prog 8 #[.string a, .string b, .string c] w fun e w' => e = .returned (.bool true) ∧ Below w.heap.size w w' := by
  by_cases h1 : b.size < a.size
  · by_cases h2 : c.size < b.size
    · exact even_c1 a ha b hb c hc h1 (by omega) w
    · exact even_b1 a ha b hb c hc h1 (by omega) w
  · by_cases h2 : c.size < a.size
    · exact even_c2 a ha b hb c hc h1 (by omega) w
    · exact even_a1 a ha b hb c hc h1 (by omega) w
end Go.Proofs.Ytgjmelinfkifcaa
