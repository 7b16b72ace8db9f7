/-
  The contracts of match.beyond, match.length and match.wrong.
-/
import Derived.Test.YtjhmlmcibpjagaaDoorMatchT
import Derived.Test.YtjhmlmcibpjagaaDoorToks
import Derived.Lib.Hide
import Derived.Outline
namespace Go.Proofs.YtjhmlmcibpjagaaDoor
open Go.RowKit

theorem toLs (s : ByteArray) : s.toList = s.data.toList := ByteArray.toList_eq s
theorem empty_b {s : ByteArray} (h : s.size = 0) : s.toList.isEmpty = true := by
  rw [toLs]
  have hl := size_data s
  cases hd : s.data.toList with
  | nil => rfl
  | cons a r => rw [hd, h] at hl; simp at hl
theorem full_b {s : ByteArray} (h : s.size ≠ 0) : s.toList.isEmpty = false := by
  rw [toLs]
  have hl := size_data s
  cases hd : s.data.toList with
  | nil => rw [hd] at hl; exact absurd hl h
  | cons a r => rfl

/-- A token as a value. -/
def tokV (t : Tok) : Value := .agg #[.string t.own, .int .i64 t.back, .int .i64 t.size]

set_option maxRecDepth 100000 in
theorem beyond_no (s : ByteArray) (b n : Int) (w : World) (h1 : 4 ≤ n) (h2 : n ≤ 67) (h3 : 1 ≤ b) (h4 : b ≤ 1024) :
    Calls Tryd.prog 62 #[.agg #[.string s, .int .i64 b, .int .i64 n]] w fun e w' => e = .returned (.bool false) ∧ Below w.heap.size w w' := by
  have d1 : decide (n < 4) = false := by simp; omega
  have d2 : decide (67 < n) = false := by simp; omega
  have d3 : decide (b < 1) = false := by simp; omega
  have d4 : decide (1024 < b) = false := by simp; omega
  go_enter Tryd.func62, Tryd.ntmps62
  go_wp2
  go_ret
  exact ⟨rfl, (Below.refl _ _).alloc (Nat.le_refl _) _⟩
set_option maxRecDepth 100000 in
theorem beyond_yes (s : ByteArray) (b n : Int) (w : World) (h : n < 4 ∨ 67 < n ∨ b < 1 ∨ 1024 < b) :
    Calls Tryd.prog 62 #[.agg #[.string s, .int .i64 b, .int .i64 n]] w fun e w' => e = .returned (.bool true) ∧ Below w.heap.size w w' := by
  by_cases c1 : n < 4
  · have d1 : decide (n < 4) = true := by simpa using c1
    clear h
    go_enter Tryd.func62, Tryd.ntmps62
    go_wp2
    go_ret
    exact ⟨rfl, (Below.refl _ _).alloc (Nat.le_refl _) _⟩
  · have d1 : decide (n < 4) = false := by simpa using c1
    by_cases c2 : 67 < n
    · have d2 : decide (67 < n) = true := by simpa using c2
      clear h
      go_enter Tryd.func62, Tryd.ntmps62
      go_wp2
      go_ret
      exact ⟨rfl, (Below.refl _ _).alloc (Nat.le_refl _) _⟩
    · have d2 : decide (67 < n) = false := by simpa using c2
      by_cases c3 : b < 1
      · have d3 : decide (b < 1) = true := by simpa using c3
        clear h
        go_enter Tryd.func62, Tryd.ntmps62
        go_wp2
        go_ret
        exact ⟨rfl, (Below.refl _ _).alloc (Nat.le_refl _) _⟩
      · have d3 : decide (b < 1) = false := by simpa using c3
        have c4 : 1024 < b := by omega
        have d4 : decide (1024 < b) = true := by simpa using c4
        clear h
        go_enter Tryd.func62, Tryd.ntmps62
        go_wp2
        go_ret
        exact ⟨rfl, (Below.refl _ _).alloc (Nat.le_refl _) _⟩

set_option maxRecDepth 100000 in
theorem length_any (s : ByteArray) (b n : Int) (w : World) (hs : s.size ≤ 140737488351232) (h0 : 0 ≤ n) (h1 : n ≤ 1000) :
    Calls Tryd.prog 47 #[.agg #[.string s, .int .i64 b, .int .i64 n]] w fun e w' => e = .returned (.int .i64 (lenT ⟨s, b, n⟩ : Nat)) ∧ Below w.heap.size w w' := by
  have HE : Hid (((s.size : Int) + n) = (lenT ⟨s, b, n⟩ : Nat)) := by
    have h : ((s.size : Int) + n) = (lenT ⟨s, b, n⟩ : Nat) := by show _ = (((s.size + n.toNat : Nat)) : Int); omega
    exact h
  go_enter Tryd.func47, Tryd.ntmps47
  go_wp2
  go_ret
  exact ⟨by rw [← HE.out]; rfl, (Below.refl _ _).alloc (Nat.le_refl _) _⟩

set_option maxRecDepth 100000 in
set_option maxHeartbeats 1000000 in
theorem wrong_any (s : ByteArray) (b n : Int) (a : Nat) (w : World) (hs : s.size ≤ 140737488351232) (ha : a ≤ 20000) :
    Calls Tryd.prog 46 #[.agg #[.string s, .int .i64 b, .int .i64 n], .int .i64 a] w fun e w' => e = .returned (.int .i64 (wrongN ⟨s, b, n⟩ a : Nat)) ∧ Below w.heap.size w w' := by
  by_cases h0 : s.size = 0
  · have e1 := empty_b h0
    by_cases hz : n = 0 ∧ b = 0
    · have HW : Hid (wrongN ⟨s, b, n⟩ a = 1) := by
        have h : wrongN ⟨s, b, n⟩ a = 1 := by unfold wrongN; rw [if_pos h0, if_pos hz]
        exact h
      obtain ⟨rfl, rfl⟩ := hz
      clear h0 hs
      go_enter Tryd.func46, Tryd.ntmps46
      go_wp2
      go_ret
      exact ⟨by rw [HW.out]; rfl, (Below.refl _ _).alloc (Nat.le_refl _) _⟩
    · by_cases hy : n < 4 ∨ 67 < n ∨ b < 1 ∨ 1024 < b
      · have HW : Hid (wrongN ⟨s, b, n⟩ a = 2) := by
          have h : wrongN ⟨s, b, n⟩ a = 2 := by unfold wrongN; rw [if_pos h0, if_neg hz, if_pos hy]
          exact h
        have HY := Lib.hid hy
        clear hy
        by_cases h1 : n = 0
        · subst h1
          have d1 : (b != 0) = true := by simp; omega
          clear h0 hs hz
          go_enter Tryd.func46, Tryd.ntmps46
          go_wp2_with fail
          refine (beyond_yes s b 0 _ HY.out).mono ?_
          rintro r w1 ⟨rfl, hb1⟩
          have HB : Hid (Below w.heap.size w w1) := ((Below.refl _ _).alloc (Nat.le_refl _) _).trans (hb1.mono (by simp))
          clear hb1
          go_wp2
          go_ret
          exact ⟨by rw [HW.out]; rfl, HB.out⟩
        · have d1 : (n != 0) = true := by simp; omega
          clear h0 hs hz h1
          go_enter Tryd.func46, Tryd.ntmps46
          go_wp2_with fail
          refine (beyond_yes s b n _ HY.out).mono ?_
          rintro r w1 ⟨rfl, hb1⟩
          have HB : Hid (Below w.heap.size w w1) := ((Below.refl _ _).alloc (Nat.le_refl _) _).trans (hb1.mono (by simp))
          clear hb1
          go_wp2
          go_ret
          exact ⟨by rw [HW.out]; rfl, HB.out⟩
      · have h4 : 4 ≤ n := by omega
        have h5 : n ≤ 67 := by omega
        have h6 : 1 ≤ b := by omega
        have h7 : b ≤ 1024 := by omega
        have d1 : (n != 0) = true := by simp; omega
        have HL : Hid ((lenT ⟨s, b, n⟩ : Nat) = n.toNat) := by
          have h : lenT ⟨s, b, n⟩ = n.toNat := by show s.size + n.toNat = _; omega
          exact h
        obtain ⟨n, rfl⟩ := Int.eq_ofNat_of_zero_le (show 0 ≤ n by omega)
        rw [Int.toNat_natCast] at HL
        by_cases h8 : (a : Int) < b
        · have HW : Hid (wrongN ⟨s, b, n⟩ a = 7) := by
            have h : wrongN ⟨s, b, n⟩ a = 7 := by unfold wrongN; rw [if_pos h0, if_neg hz, if_neg hy, if_pos h8]
            exact h
          clear h0 hz hy HL
          go_enter Tryd.func46, Tryd.ntmps46
          go_wp2_with fail
          refine (beyond_no s b _ _ h4 h5 h6 h7).mono ?_
          rintro r w1 ⟨rfl, hb1⟩
          have HB : Hid (Below w.heap.size w w1) := ((Below.refl _ _).alloc (Nat.le_refl _) _).trans (hb1.mono (by simp))
          have c0 : w1.cell? ⟨w.heap.size, 0, none⟩ = some (.string s) := (hb1.cell (by simp)).trans (by simp)
          have c1 : w1.cell? ⟨w.heap.size, 1, none⟩ = some (.int .i64 b) := (hb1.cell (by simp)).trans (by simp)
          have c2 : w1.cell? ⟨w.heap.size, 2, none⟩ = some (.int .i64 n) := (hb1.cell (by simp)).trans (by simp)
          clear hb1
          go_wp2
          go_ret
          exact ⟨by rw [HW.out]; rfl, HB.out⟩
        · by_cases h9 : 20000 < (a : Int) + n
          · have HW : Hid (wrongN ⟨s, b, n⟩ a = 4) := by
              have h : wrongN ⟨s, b, n⟩ a = 4 := by unfold wrongN; rw [if_pos h0, if_neg hz, if_neg hy, if_neg h8, if_pos h9]
              exact h
            clear h0 hz hy
            go_enter Tryd.func46, Tryd.ntmps46
            go_wp2_with fail
            refine (beyond_no s b _ _ h4 h5 h6 h7).mono ?_
            rintro r w1 ⟨rfl, hb1⟩
            have HB : Hid (Below w.heap.size w w1) := ((Below.refl _ _).alloc (Nat.le_refl _) _).trans (hb1.mono (by simp))
            have c0 : w1.cell? ⟨w.heap.size, 0, none⟩ = some (.string s) := (hb1.cell (by simp)).trans (by simp)
            have c1 : w1.cell? ⟨w.heap.size, 1, none⟩ = some (.int .i64 b) := (hb1.cell (by simp)).trans (by simp)
            have c2 : w1.cell? ⟨w.heap.size, 2, none⟩ = some (.int .i64 n) := (hb1.cell (by simp)).trans (by simp)
            clear hb1
            go_wp2_with fail
            refine (length_any s b _ _ hs (by omega) (by omega)).mono ?_
            rintro r w2 ⟨rfl, hb2⟩
            rw [HL.out]
            have HB2 : Hid (Below w.heap.size w w2) := HB.out.trans (hb2.mono HB.out.size)
            clear hb2
            go_wp2
            go_ret
            exact ⟨by rw [HW.out]; rfl, HB2.out⟩
          · have HW : Hid (wrongN ⟨s, b, n⟩ a = 0) := by
              have h : wrongN ⟨s, b, n⟩ a = 0 := by unfold wrongN; rw [if_pos h0, if_neg hz, if_neg hy, if_neg h8, if_neg h9]
              exact h
            clear h0 hz hy
            go_enter Tryd.func46, Tryd.ntmps46
            go_wp2_with fail
            refine (beyond_no s b _ _ h4 h5 h6 h7).mono ?_
            rintro r w1 ⟨rfl, hb1⟩
            have HB : Hid (Below w.heap.size w w1) := ((Below.refl _ _).alloc (Nat.le_refl _) _).trans (hb1.mono (by simp))
            have c0 : w1.cell? ⟨w.heap.size, 0, none⟩ = some (.string s) := (hb1.cell (by simp)).trans (by simp)
            have c1 : w1.cell? ⟨w.heap.size, 1, none⟩ = some (.int .i64 b) := (hb1.cell (by simp)).trans (by simp)
            have c2 : w1.cell? ⟨w.heap.size, 2, none⟩ = some (.int .i64 n) := (hb1.cell (by simp)).trans (by simp)
            clear hb1
            go_wp2_with fail
            refine (length_any s b _ _ hs (by omega) (by omega)).mono ?_
            rintro r w2 ⟨rfl, hb2⟩
            rw [HL.out]
            have HB2 : Hid (Below w.heap.size w w2) := HB.out.trans (hb2.mono HB.out.size)
            clear hb2
            go_wp2
            go_ret
            exact ⟨by rw [HW.out]; rfl, HB2.out⟩
  · have e1 := full_b h0
    have e2 : (!s.toList.isEmpty) = true := by rw [e1]; rfl
    by_cases hy : n ≠ 0 ∨ b ≠ 0
    · have HW : Hid (wrongN ⟨s, b, n⟩ a = 1) := by
        have h : wrongN ⟨s, b, n⟩ a = 1 := by unfold wrongN; rw [if_neg h0, if_pos hy]
        exact h
      by_cases h1 : n = 0
      · have d0 : (n != 0) = false := by simp; omega
        have d1 : (b != 0) = true := by simp; omega
        clear hy h0 hs h1
        go_enter Tryd.func46, Tryd.ntmps46
        go_wp2
        go_ret
        exact ⟨by rw [HW.out]; rfl, (Below.refl _ _).alloc (Nat.le_refl _) _⟩
      · have d1 : (n != 0) = true := by simp; omega
        clear hy h0 hs h1
        go_enter Tryd.func46, Tryd.ntmps46
        go_wp2
        go_ret
        exact ⟨by rw [HW.out]; rfl, (Below.refl _ _).alloc (Nat.le_refl _) _⟩
    · obtain ⟨rfl, rfl⟩ : n = 0 ∧ b = 0 := by omega
      have HL : Hid ((lenT ⟨s, 0, 0⟩ : Nat) = s.size) := by
        have h : lenT ⟨s, 0, 0⟩ = s.size := by show s.size + (0 : Int).toNat = _; simp
        exact h
      have h8 : ¬ (a : Int) < 0 := by omega
      by_cases h9 : 20000 < a + s.size
      · have HW : Hid (wrongN ⟨s, 0, 0⟩ a = 4) := by
          have h : wrongN ⟨s, 0, 0⟩ a = 4 := by unfold wrongN; rw [if_neg h0, if_neg hy, if_pos h9]
          exact h
        have h10 : 20000 < (a : Int) + (s.size : Int) := by omega
        clear h0 hy h9
        go_enter Tryd.func46, Tryd.ntmps46
        go_wp2_with fail
        refine (length_any s 0 0 _ hs (by omega) (by omega)).mono ?_
        rintro r w2 ⟨rfl, hb2⟩
        rw [HL.out]
        have HB2 : Hid (Below w.heap.size w w2) := ((Below.refl _ _).alloc (Nat.le_refl _) _).trans (hb2.mono (by simp))
        clear hb2
        go_wp2
        go_ret
        exact ⟨by rw [HW.out]; rfl, HB2.out⟩
      · have HW : Hid (wrongN ⟨s, 0, 0⟩ a = 0) := by
          have h : wrongN ⟨s, 0, 0⟩ a = 0 := by unfold wrongN; rw [if_neg h0, if_neg hy, if_neg h9]
          exact h
        have h10 : ¬ 20000 < (a : Int) + (s.size : Int) := by omega
        clear h0 hy h9
        go_enter Tryd.func46, Tryd.ntmps46
        go_wp2_with fail
        refine (length_any s 0 0 _ hs (by omega) (by omega)).mono ?_
        rintro r w2 ⟨rfl, hb2⟩
        rw [HL.out]
        have HB2 : Hid (Below w.heap.size w w2) := ((Below.refl _ _).alloc (Nat.le_refl _) _).trans (hb2.mono (by simp))
        clear hb2
        go_wp2
        go_ret
        exact ⟨by rw [HW.out]; rfl, HB2.out⟩
end Go.Proofs.YtjhmlmcibpjagaaDoor
