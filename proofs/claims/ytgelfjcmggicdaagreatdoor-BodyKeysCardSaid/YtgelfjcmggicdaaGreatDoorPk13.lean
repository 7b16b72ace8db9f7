import Derived.Test.YtgelfjcmggicdaaGreatDoorPk12
import Derived.RegionTactic
import Derived.Test.YtgelfjcmggicdaaGreatDoorPk07
import Derived.Test.YtgelfjcmggicdaaGreatDoorPk04
import Derived.Deep.RegionHeld3
import Derived.Test.YtgelfjcmggicdaaGreatDoorPk05
import Derived.Test.YtgelfjcmggicdaaGreatDoorProg
import Derived.WalkSpells
import Derived.WalkKit
import Derived.Handy
import Derived.KernelRfl
import Derived.Below
import Derived.Defers
import Derived.Recover
import Derived.WalkLawsBesides
import Derived.Lib.Hide
import Derived.Outline
/-
  The next number, the next kind.
-/
namespace Go.Proofs.YtgelfjcmggicdaaGreatDoor
open Go.RowKit

theorem ext_le {s : ByteArray} {a : Nat} : (s.extract a s.size).size ≤ s.size := by rw [ByteArray.size_extract]; omega
set_option maxRecDepth 100000 in
theorem num1_ok (t : ByteArray) (M : Nat) (most : Int) (n k : Nat) (w : World) (ht : t.size ≤ maxLen) (h0 : -9223372036854775808 ≤ most) (h1 : most ≤ 9223372036854775807) (hM : w.cell? ⟨M, 0, none⟩ = some (.int .i64 most)) (hi : intL t.data.toList most = (n, k, 0)) :
    Calls Tryz.prog 137 #[.string t, .pointer (some ⟨M, 0, none⟩)] w fun e w' => e = .returned (.tuple #[.int .i64 (n : Int), .int .i64 (k : Int), .nilIface]) ∧ Below w.heap.size w w' := by
  go_enter Tryz.func137, Tryz.ntmps137
  go_wp2_with fail
  refine (vint_ok t most w ht h0 h1 n k hi).mono ?_
  rintro r w' ⟨rfl, rfl⟩
  go_wp2
  go_ret3
  exact ⟨rfl, Below.refl _ _⟩
set_option maxRecDepth 100000 in
theorem num1_bad (t : ByteArray) (M : Nat) (most : Int) (x : Nat) (w : World) (ht : t.size ≤ maxLen) (h0 : -9223372036854775808 ≤ most) (h1 : most ≤ 9223372036854775807) (hM : w.cell? ⟨M, 0, none⟩ = some (.int .i64 most)) (hi : intL t.data.toList most = (0, 0, x)) (hx : x ≠ 0) :
    Calls Tryz.prog 137 #[.string t, .pointer (some ⟨M, 0, none⟩)] w fun e w' => e = .returned (.tuple #[.int .i64 0, .int .i64 0, .iface 27 (.int .i64 (x : Int))]) ∧ Below w.heap.size w w' := by
  go_enter Tryz.func137, Tryz.ntmps137
  go_wp2_with fail
  refine (vint_bad t most w ht h0 h1 x hi hx).mono ?_
  rintro r w' ⟨rfl, rfl⟩
  go_wp2
  go_ret3
  exact ⟨rfl, Below.refl _ _⟩

set_option maxRecDepth 100000 in
set_option maxHeartbeats 1000000 in
theorem kind_any (t : ByteArray) (w : World) (ht : t.size ≤ maxLen) :
    Calls Tryz.prog 138 #[.string t] w fun e w' => e = .returned (.tuple #[.int .i64 ((kindF t.data.toList).1 : Nat), .int .i64 ((kindF t.data.toList).2.1 : Nat), errV (kindF t.data.toList).2.2]) ∧ Below w.heap.size w w' := by
  unfold maxLen at ht
  by_cases h0 : 0 < t.size
  · have hne : (t.toList == []) = false := by
      have h := bne_empty h0
      rw [bne] at h
      simpa using h
    obtain ⟨c, hc⟩ : ∃ c, t[0]'h0 = c := ⟨_, rfl⟩
    have hl : kindF t.data.toList = if c.toNat < 1 ∨ 4 < c.toNat then (0, 0, 1) else (c.toNat, 1, 0) := by
      have h1 : t.data.toList = c :: t.data.toList.drop 1 := by
        have h2 : 0 < t.data.toList.length := by rw [← size_data]; exact h0
        have h3 := List.drop_eq_getElem_cons h2
        rw [List.drop_zero] at h3
        have h4 : t.data.toList[0]'h2 = c := hc
        rw [h4] at h3
        exact h3
      rw [h1, kindF_cons]
    have HL := Lib.hid hl
    have d1 : (0 : Int) < (t.size : Int) := by omega
    clear hl
    by_cases h1 : c.toNat < 1
    · have HR : Hid (kindF t.data.toList = (0, 0, 1)) := Lib.hid (by rw [HL.out, if_pos (.inl h1)])
      have d2 : (c.toNat : Int) < 1 := by omega
      go_enter Tryz.func138, Tryz.ntmps138
      go_wp2
      go_ret3
      rw [HR.out]
      exact ⟨rfl, Below.refl _ _⟩
    · by_cases h4 : 4 < c.toNat
      · have HR : Hid (kindF t.data.toList = (0, 0, 1)) := Lib.hid (by rw [HL.out, if_pos (.inr h4)])
        have d2 : 1 ≤ (c.toNat : Int) := by omega
        have d3 : 4 < (c.toNat : Int) := by omega
        go_enter Tryz.func138, Tryz.ntmps138
        go_wp2
        go_ret3
        rw [HR.out]
        exact ⟨rfl, Below.refl _ _⟩
      · have HR : Hid (kindF t.data.toList = (c.toNat, 1, 0)) := Lib.hid (by rw [HL.out, if_neg (by omega)])
        have d2 : 1 ≤ (c.toNat : Int) := by omega
        have d3 : (c.toNat : Int) ≤ 4 := by omega
        go_enter Tryz.func138, Tryz.ntmps138
        go_wp2
        go_ret3
        rw [HR.out]
        exact ⟨rfl, Below.refl _ _⟩
  · obtain rfl := empty_of h0
    go_enter Tryz.func138, Tryz.ntmps138
    go_wp2
    go_ret3
    exact ⟨rfl, Below.refl _ _⟩
theorem kind_ok (t : ByteArray) (n k : Nat) (w : World) (ht : t.size ≤ maxLen) (hi : kindF t.data.toList = (n, k, 0)) :
    Calls Tryz.prog 138 #[.string t] w fun e w' => e = .returned (.tuple #[.int .i64 (n : Int), .int .i64 (k : Int), .nilIface]) ∧ Below w.heap.size w w' :=
  (kind_any t w ht).mono fun e w' ⟨h1, h2⟩ => ⟨by rw [h1, hi]; rfl, h2⟩
theorem kind_bad (t : ByteArray) (x : Nat) (w : World) (ht : t.size ≤ maxLen) (hi : kindF t.data.toList = (0, 0, x)) (hx : x ≠ 0) :
    Calls Tryz.prog 138 #[.string t] w fun e w' => e = .returned (.tuple #[.int .i64 0, .int .i64 0, .iface 27 (.int .i64 (x : Int))]) ∧ Below w.heap.size w w' :=
  (kind_any t w ht).mono fun e w' ⟨h1, h2⟩ => ⟨by rw [h1, hi]; simp only; rw [errV_bad hx]; rfl, h2⟩
theorem text_ok (s : ByteArray) (t : List UInt8) (k : Nat) (w : World) (hs : s.size ≤ 1000000) (hi : getS s.data.toList = (t, k, 0)) :
    Calls Tryz.prog 135 #[.string s] w fun e w' => e = .returned (.tuple #[.string ⟨t.toArray⟩, .int .i64 (k : Int), .nilIface]) ∧ Below w.heap.size w w' :=
  (sget_any s w (by omega)).mono fun e w' ⟨h1, h2⟩ => ⟨by rw [h1, hi]; rfl, h2⟩
theorem text_bad (s : ByteArray) (x : Nat) (w : World) (hs : s.size ≤ 1000000) (hi : getS s.data.toList = ([], 0, x)) (hx : x ≠ 0) :
    Calls Tryz.prog 135 #[.string s] w fun e w' => e = .returned (.tuple #[.string ⟨#[]⟩, .int .i64 0, .iface 27 (.int .i64 (x : Int))]) ∧ Below w.heap.size w w' :=
  (sget_any s w (by omega)).mono fun e w' ⟨h1, h2⟩ => ⟨by rw [h1, hi]; unfold spanV; simp only; rw [errV_bad hx]; rfl, h2⟩
theorem ents_ok (s : ByteArray) (l : List Ent) (k : Nat) (w : World) (hs : s.size ≤ 1000000) (hg : errT w) (hi : vreadF s.data.toList = (0, k, l)) :
    Calls Tryz.prog 104 #[.string s] w fun e w' => ∃ ad cc, e = .returned (.tuple #[.slice ad l.length cc, .int .i64 (k : Int), .nilIface]) ∧ ownsE w' w.heap.size (.slice ad l.length cc) l ∧ Below w.heap.size w w' :=
  (vread_any s w hs hg).mono fun e w' ⟨v, h1, h2, h3⟩ => by
    rw [hi] at h1 h2
    obtain ⟨ad, cc, rfl, _⟩ := h2.is.form
    exact ⟨ad, cc, h1, h2, h3⟩
theorem ents_bad (s : ByteArray) (x : Nat) (w : World) (hs : s.size ≤ 1000000) (hg : errT w) (hi : vreadF s.data.toList = (x, 0, [])) (hx : x ≠ 0) :
    Calls Tryz.prog 104 #[.string s] w fun e w' => ∃ ad cc, e = .returned (.tuple #[.slice ad 0 cc, .int .i64 0, .iface 27 (.int .i64 (x : Int))]) ∧ ownsE w' w.heap.size (.slice ad 0 cc) [] ∧ Below w.heap.size w w' :=
  (vread_any s w hs hg).mono fun e w' ⟨v, h1, h2, h3⟩ => by
    rw [hi] at h1 h2
    simp only at h1
    rw [noV_e hx] at h1
    obtain ⟨ad, cc, rfl, _⟩ := h2.is.form
    exact ⟨ad, cc, h1, h2, h3⟩
theorem ownE_set {w1 : World} {B R : Nat} {v x : Value} {l : List Ent} (h : ownsE w1 B v l) (hR : R < B) : ownsE (w1.setCell ⟨R, 1, none⟩ x) B v l := by
  refine World.ownsRow.kept h (row := some R) ⟨rfl, rfl, rfl, by simp, fun k hk hne => ?_⟩ (.inr (fun e => ?_))
  · have hk2 : R ≠ k := fun e => hne (by rw [e])
    simp only [World.setCell, Array.getElem?_modify, if_neg hk2]
  · have := (h.lt R e).1; omega
-- gen

set_option maxRecDepth 100000 in
set_option maxHeartbeats 2000000 in
theorem getnum_ok (R : Nat) (s : ByteArray) (a n k : Nat) (M : Nat) (most : Int) (w : World) (h : Rd w R s a) (hg : errT w) (hs : s.size ≤ 1000000) (ha : a ≤ s.size) (h0 : -9223372036854775808 ≤ most) (h1 : most ≤ 9223372036854775807) (hM : w.cell? ⟨M, 0, none⟩ = some (.int .i64 most)) (hgv : intL (s.data.toList.drop a) most = (n, k, 0)) (hk : k ≤ 1000000) :
    Calls Tryz.prog 136 #[.pointer (some ⟨R, 0, none⟩), .func (.func 137) #[] #[.pointer (some ⟨M, 0, none⟩)]] w fun e w' => e = .returned (.int .i64 (n : Int)) ∧ Rd w' R s (a + k) ∧ w.grownBy w' (some R) := by
  have H := Lib.hid h
  have HG0 := Lib.hid hg
  obtain ⟨c0, c1, z1, hR⟩ := h.cells
  have HES : (s.extract a s.size).data.toList = s.data.toList.drop a := ext_dropV s a
  have HSZ : Hid ((s.extract a s.size).size ≤ 1000000) := Lib.hid (Nat.le_trans ext_le hs)
  have HM : Hid ((s.extract a s.size).size ≤ maxLen) := Lib.hid (by have := HSZ.out; unfold maxLen; omega)
  have HGL : Hid (intL (s.extract a s.size).data.toList most = (n, k, 0)) := Lib.hid (show intL (s.extract a s.size).data.toList most = (n, k, 0) by rw [HES, hgv])
  have HMC : Hid (w.drew.cell? ⟨M, 0, none⟩ = some (.int .i64 most)) := Lib.hid hM
  have H0 : Hid (-9223372036854775808 ≤ most) := Lib.hid h0
  have H1_ : Hid (most ≤ 9223372036854775807) := Lib.hid h1
  have d3 : (0 : Int) ≤ (a : Int) := by omega
  have d4 : (a : Int) ≤ (s.size : Int) := by omega
  have kw : IntKind.i64.wrap ((a : Int) + (k : Int)) = ((a + k : Nat) : Int) := by rw [show ((a + k : Nat) : Int) = (a : Int) + (k : Int) by simp]; exact IntWalk.i64_in _ (by omega)
  have HB0 : Hid (Below w.heap.size w w.drew) := Lib.hid (Below.refl _ _).drew
  have HZ : Hid (R < w.heap.size) := Lib.hid hR
  clear h hg hgv HES h0 h1 hM
  go_enter Tryz.func136, Tryz.ntmps136
  go_wp2
  go_region_held3 (fun w' => w'.cell? ⟨R, 0, none⟩ = some (.string s) ∧ w'.cell? ⟨R, 1, none⟩ = some (.int .i64 (a : Int))) (first | exact ⟨c0, c1⟩ | exact ⟨k0, k1⟩ | fail) (first
    | (go_at_call 137; ((with_reducible refine (num1_ok (s.extract a s.size) M most n k w.drew HM.out H0.out H1_.out HMC.out HGL.out).mono ?_); rintro r w1 ⟨rfl, hb1⟩; have HB1 : Hid (Below w.heap.size w w1) := Lib.hid (undrew3 hb1); obtain ⟨k0, k1, _, _⟩ := (H.out.below HB1.out).cells; clear hb1))
    | fail)
  clear c0 c1
  have H1 := Lib.hid (H.out.below HB1.out)
  obtain ⟨_, k1', z1', _⟩ := H1.out.cells
  go_wp2_with fail
  refine (check_nil R w1).mono ?_
  rintro r w' ⟨rfl, rfl⟩
  go_wp2
  go_ret
  exact ⟨rfl, H1.out.moved, grownR HB1.out _⟩

set_option maxRecDepth 100000 in
set_option maxHeartbeats 2000000 in
theorem getnum_bad (R : Nat) (s : ByteArray) (a x k : Nat) (M : Nat) (most : Int) (w : World) (h : Rd w R s a) (hg : errT w) (hs : s.size ≤ 1000000) (ha : a ≤ s.size) (h0 : -9223372036854775808 ≤ most) (h1 : most ≤ 9223372036854775807) (hM : w.cell? ⟨M, 0, none⟩ = some (.int .i64 most)) (hgv : intL (s.data.toList.drop a) most = (0, k, x)) (hk0 : k = 0) (hx : x ≠ 0) :
    Calls Tryz.prog 136 #[.pointer (some ⟨R, 0, none⟩), .func (.func 137) #[] #[.pointer (some ⟨M, 0, none⟩)]] w fun e w' => Thrown (x, (a : Int)) e w' ∧ w.grownBy w' (some R) := by
  have H := Lib.hid h
  have HG0 := Lib.hid hg
  obtain ⟨c0, c1, z1, hR⟩ := h.cells
  have HES : (s.extract a s.size).data.toList = s.data.toList.drop a := ext_dropV s a
  have HSZ : Hid ((s.extract a s.size).size ≤ 1000000) := Lib.hid (Nat.le_trans ext_le hs)
  have HM : Hid ((s.extract a s.size).size ≤ maxLen) := Lib.hid (by have := HSZ.out; unfold maxLen; omega)
  subst hk0
  have HGL : Hid (intL (s.extract a s.size).data.toList most = (0, 0, x)) := Lib.hid (show intL (s.extract a s.size).data.toList most = (0, 0, x) by rw [HES, hgv])
  have HMC : Hid (w.drew.cell? ⟨M, 0, none⟩ = some (.int .i64 most)) := Lib.hid hM
  have H0 : Hid (-9223372036854775808 ≤ most) := Lib.hid h0
  have H1_ : Hid (most ≤ 9223372036854775807) := Lib.hid h1
  have d3 : (0 : Int) ≤ (a : Int) := by omega
  have d4 : (a : Int) ≤ (s.size : Int) := by omega
  have HB0 : Hid (Below w.heap.size w w.drew) := Lib.hid (Below.refl _ _).drew
  have HZ : Hid (R < w.heap.size) := Lib.hid hR
  clear h hg hgv HES h0 h1 hM
  go_enter Tryz.func136, Tryz.ntmps136
  go_wp2
  go_region_held3 (fun w' => w'.cell? ⟨R, 0, none⟩ = some (.string s) ∧ w'.cell? ⟨R, 1, none⟩ = some (.int .i64 (a : Int))) (first | exact ⟨c0, c1⟩ | exact ⟨k0, k1⟩ | fail) (first
    | (go_at_call 137; ((with_reducible refine (num1_bad (s.extract a s.size) M most x w.drew HM.out H0.out H1_.out HMC.out HGL.out hx).mono ?_); rintro r w1 ⟨rfl, hb1⟩; have HB1 : Hid (Below w.heap.size w w1) := Lib.hid (undrew3 hb1); obtain ⟨k0, k1, _, _⟩ := (H.out.below HB1.out).cells; clear hb1))
    | fail)
  clear c0 c1
  have H1 := Lib.hid (H.out.below HB1.out)
  go_wp2_with fail
  refine (check_err R s a _ x w1 H1.out (HG0.out.below HB1.out) (.inl rfl) hx).mono ?_
  rintro r w2 ⟨⟨t, u, rfl, hne, ha⟩, hb2⟩
  have HB2 : Hid (Below w.heap.size w w2) := HB1.out.trans (hb2.mono HB1.out.size)
  exact And.intro rfl ⟨⟨t, u, rfl, hne, ha⟩, grownB HB2.out⟩

set_option maxRecDepth 100000 in
set_option maxHeartbeats 2000000 in
theorem getkind_ok (R : Nat) (s : ByteArray) (a n k : Nat)  (w : World) (h : Rd w R s a) (hg : errT w) (hs : s.size ≤ 1000000) (ha : a ≤ s.size) (hgv : kindF (s.data.toList.drop a) = (n, k, 0)) (hk : k ≤ 1000000) :
    Calls Tryz.prog 136 #[.pointer (some ⟨R, 0, none⟩), .func (.func 138) #[] #[]] w fun e w' => e = .returned (.int .i64 (n : Int)) ∧ Rd w' R s (a + k) ∧ w.grownBy w' (some R) := by
  have H := Lib.hid h
  have HG0 := Lib.hid hg
  obtain ⟨c0, c1, z1, hR⟩ := h.cells
  have HES : (s.extract a s.size).data.toList = s.data.toList.drop a := ext_dropV s a
  have HSZ : Hid ((s.extract a s.size).size ≤ 1000000) := Lib.hid (Nat.le_trans ext_le hs)
  have HM : Hid ((s.extract a s.size).size ≤ maxLen) := Lib.hid (by have := HSZ.out; unfold maxLen; omega)
  have HGL : Hid (kindF (s.extract a s.size).data.toList = (n, k, 0)) := Lib.hid (show kindF (s.extract a s.size).data.toList = (n, k, 0) by rw [HES, hgv])
  have d3 : (0 : Int) ≤ (a : Int) := by omega
  have d4 : (a : Int) ≤ (s.size : Int) := by omega
  have kw : IntKind.i64.wrap ((a : Int) + (k : Int)) = ((a + k : Nat) : Int) := by rw [show ((a + k : Nat) : Int) = (a : Int) + (k : Int) by simp]; exact IntWalk.i64_in _ (by omega)
  have HB0 : Hid (Below w.heap.size w w.drew) := Lib.hid (Below.refl _ _).drew
  have HZ : Hid (R < w.heap.size) := Lib.hid hR
  clear h hg hgv HES
  go_enter Tryz.func136, Tryz.ntmps136
  go_wp2
  go_region_held3 (fun w' => w'.cell? ⟨R, 0, none⟩ = some (.string s) ∧ w'.cell? ⟨R, 1, none⟩ = some (.int .i64 (a : Int))) (first | exact ⟨c0, c1⟩ | exact ⟨k0, k1⟩ | fail) (first
    | (go_at_call 138; ((with_reducible refine (kind_ok (s.extract a s.size) n k w.drew HM.out HGL.out).mono ?_); rintro r w1 ⟨rfl, hb1⟩; have HB1 : Hid (Below w.heap.size w w1) := Lib.hid (undrew3 hb1); obtain ⟨k0, k1, _, _⟩ := (H.out.below HB1.out).cells; clear hb1))
    | fail)
  clear c0 c1
  have H1 := Lib.hid (H.out.below HB1.out)
  obtain ⟨_, k1', z1', _⟩ := H1.out.cells
  go_wp2_with fail
  refine (check_nil R w1).mono ?_
  rintro r w' ⟨rfl, rfl⟩
  go_wp2
  go_ret
  exact ⟨rfl, H1.out.moved, grownR HB1.out _⟩

set_option maxRecDepth 100000 in
set_option maxHeartbeats 2000000 in
theorem getkind_bad (R : Nat) (s : ByteArray) (a x k : Nat)  (w : World) (h : Rd w R s a) (hg : errT w) (hs : s.size ≤ 1000000) (ha : a ≤ s.size) (hgv : kindF (s.data.toList.drop a) = (0, k, x)) (hk0 : k = 0) (hx : x ≠ 0) :
    Calls Tryz.prog 136 #[.pointer (some ⟨R, 0, none⟩), .func (.func 138) #[] #[]] w fun e w' => Thrown (x, (a : Int)) e w' ∧ w.grownBy w' (some R) := by
  have H := Lib.hid h
  have HG0 := Lib.hid hg
  obtain ⟨c0, c1, z1, hR⟩ := h.cells
  have HES : (s.extract a s.size).data.toList = s.data.toList.drop a := ext_dropV s a
  have HSZ : Hid ((s.extract a s.size).size ≤ 1000000) := Lib.hid (Nat.le_trans ext_le hs)
  have HM : Hid ((s.extract a s.size).size ≤ maxLen) := Lib.hid (by have := HSZ.out; unfold maxLen; omega)
  subst hk0
  have HGL : Hid (kindF (s.extract a s.size).data.toList = (0, 0, x)) := Lib.hid (show kindF (s.extract a s.size).data.toList = (0, 0, x) by rw [HES, hgv])
  have d3 : (0 : Int) ≤ (a : Int) := by omega
  have d4 : (a : Int) ≤ (s.size : Int) := by omega
  have HB0 : Hid (Below w.heap.size w w.drew) := Lib.hid (Below.refl _ _).drew
  have HZ : Hid (R < w.heap.size) := Lib.hid hR
  clear h hg hgv HES
  go_enter Tryz.func136, Tryz.ntmps136
  go_wp2
  go_region_held3 (fun w' => w'.cell? ⟨R, 0, none⟩ = some (.string s) ∧ w'.cell? ⟨R, 1, none⟩ = some (.int .i64 (a : Int))) (first | exact ⟨c0, c1⟩ | exact ⟨k0, k1⟩ | fail) (first
    | (go_at_call 138; ((with_reducible refine (kind_bad (s.extract a s.size) x w.drew HM.out HGL.out hx).mono ?_); rintro r w1 ⟨rfl, hb1⟩; have HB1 : Hid (Below w.heap.size w w1) := Lib.hid (undrew3 hb1); obtain ⟨k0, k1, _, _⟩ := (H.out.below HB1.out).cells; clear hb1))
    | fail)
  clear c0 c1
  have H1 := Lib.hid (H.out.below HB1.out)
  go_wp2_with fail
  refine (check_err R s a _ x w1 H1.out (HG0.out.below HB1.out) (.inl rfl) hx).mono ?_
  rintro r w2 ⟨⟨t, u, rfl, hne, ha⟩, hb2⟩
  have HB2 : Hid (Below w.heap.size w w2) := HB1.out.trans (hb2.mono HB1.out.size)
  exact And.intro rfl ⟨⟨t, u, rfl, hne, ha⟩, grownB HB2.out⟩

set_option maxRecDepth 100000 in
set_option maxHeartbeats 2000000 in
theorem gettext_ok (R : Nat) (s : ByteArray) (a n k : Nat) (t : List UInt8) (w : World) (h : Rd w R s a) (hg : errT w) (hs : s.size ≤ 1000000) (ha : a ≤ s.size) (hgv : getS (s.data.toList.drop a) = (t, k, 0)) (hk : k ≤ 1000000) (_ : n = 0) :
    Calls Tryz.prog 134 #[.pointer (some ⟨R, 0, none⟩), .func (.func 135) #[] #[]] w fun e w' => e = .returned (.string ⟨t.toArray⟩) ∧ Rd w' R s (a + k) ∧ w.grownBy w' (some R) := by
  have H := Lib.hid h
  have HG0 := Lib.hid hg
  obtain ⟨c0, c1, z1, hR⟩ := h.cells
  have HES : (s.extract a s.size).data.toList = s.data.toList.drop a := ext_dropV s a
  have HSZ : Hid ((s.extract a s.size).size ≤ 1000000) := Lib.hid (Nat.le_trans ext_le hs)
  have HM : Hid ((s.extract a s.size).size ≤ maxLen) := Lib.hid (by have := HSZ.out; unfold maxLen; omega)
  have HGL : Hid (getS (s.extract a s.size).data.toList = (t, k, 0)) := Lib.hid (show getS (s.extract a s.size).data.toList = (t, k, 0) by rw [HES, hgv])
  have d3 : (0 : Int) ≤ (a : Int) := by omega
  have d4 : (a : Int) ≤ (s.size : Int) := by omega
  have kw : IntKind.i64.wrap ((a : Int) + (k : Int)) = ((a + k : Nat) : Int) := by rw [show ((a + k : Nat) : Int) = (a : Int) + (k : Int) by simp]; exact IntWalk.i64_in _ (by omega)
  have HB0 : Hid (Below w.heap.size w w.drew) := Lib.hid (Below.refl _ _).drew
  have HZ : Hid (R < w.heap.size) := Lib.hid hR
  clear h hg hgv HES
  go_enter Tryz.func134, Tryz.ntmps134
  go_wp2
  go_region_held3 (fun w' => w'.cell? ⟨R, 0, none⟩ = some (.string s) ∧ w'.cell? ⟨R, 1, none⟩ = some (.int .i64 (a : Int))) (first | exact ⟨c0, c1⟩ | exact ⟨k0, k1⟩ | fail) (first
    | (go_at_call 135; ((with_reducible refine (text_ok (s.extract a s.size) t k w.drew HSZ.out HGL.out).mono ?_); rintro r w1 ⟨rfl, hb1⟩; have HB1 : Hid (Below w.heap.size w w1) := Lib.hid (undrew3 hb1); obtain ⟨k0, k1, _, _⟩ := (H.out.below HB1.out).cells; clear hb1))
    | fail)
  clear c0 c1
  have H1 := Lib.hid (H.out.below HB1.out)
  obtain ⟨_, k1', z1', _⟩ := H1.out.cells
  go_wp2_with fail
  refine (check_nil R w1).mono ?_
  rintro r w' ⟨rfl, rfl⟩
  go_wp2
  go_ret
  exact ⟨rfl, H1.out.moved, grownR HB1.out _⟩

set_option maxRecDepth 100000 in
set_option maxHeartbeats 2000000 in
theorem gettext_bad (R : Nat) (s : ByteArray) (a x k : Nat) (t : List UInt8) (w : World) (h : Rd w R s a) (hg : errT w) (hs : s.size ≤ 1000000) (ha : a ≤ s.size) (hgv : getS (s.data.toList.drop a) = ([], k, x)) (hk0 : k = 0) (hx : x ≠ 0) (_ : t = []) :
    Calls Tryz.prog 134 #[.pointer (some ⟨R, 0, none⟩), .func (.func 135) #[] #[]] w fun e w' => Thrown (x, (a : Int)) e w' ∧ w.grownBy w' (some R) := by
  have H := Lib.hid h
  have HG0 := Lib.hid hg
  obtain ⟨c0, c1, z1, hR⟩ := h.cells
  have HES : (s.extract a s.size).data.toList = s.data.toList.drop a := ext_dropV s a
  have HSZ : Hid ((s.extract a s.size).size ≤ 1000000) := Lib.hid (Nat.le_trans ext_le hs)
  have HM : Hid ((s.extract a s.size).size ≤ maxLen) := Lib.hid (by have := HSZ.out; unfold maxLen; omega)
  subst hk0
  have HGL : Hid (getS (s.extract a s.size).data.toList = ([], 0, x)) := Lib.hid (show getS (s.extract a s.size).data.toList = ([], 0, x) by rw [HES, hgv])
  have d3 : (0 : Int) ≤ (a : Int) := by omega
  have d4 : (a : Int) ≤ (s.size : Int) := by omega
  have HB0 : Hid (Below w.heap.size w w.drew) := Lib.hid (Below.refl _ _).drew
  have HZ : Hid (R < w.heap.size) := Lib.hid hR
  clear h hg hgv HES
  go_enter Tryz.func134, Tryz.ntmps134
  go_wp2
  go_region_held3 (fun w' => w'.cell? ⟨R, 0, none⟩ = some (.string s) ∧ w'.cell? ⟨R, 1, none⟩ = some (.int .i64 (a : Int))) (first | exact ⟨c0, c1⟩ | exact ⟨k0, k1⟩ | fail) (first
    | (go_at_call 135; ((with_reducible refine (text_bad (s.extract a s.size) x w.drew HSZ.out HGL.out hx).mono ?_); rintro r w1 ⟨rfl, hb1⟩; have HB1 : Hid (Below w.heap.size w w1) := Lib.hid (undrew3 hb1); obtain ⟨k0, k1, _, _⟩ := (H.out.below HB1.out).cells; clear hb1))
    | fail)
  clear c0 c1
  have H1 := Lib.hid (H.out.below HB1.out)
  go_wp2_with fail
  refine (check_err R s a _ x w1 H1.out (HG0.out.below HB1.out) (.inl rfl) hx).mono ?_
  rintro r w2 ⟨⟨t, u, rfl, hne, ha⟩, hb2⟩
  have HB2 : Hid (Below w.heap.size w w2) := HB1.out.trans (hb2.mono HB1.out.size)
  exact And.intro rfl ⟨⟨t, u, rfl, hne, ha⟩, grownB HB2.out⟩

set_option maxRecDepth 100000 in
set_option maxHeartbeats 2000000 in
theorem getents_ok (R : Nat) (s : ByteArray) (a n k : Nat) (l : List Ent) (w : World) (h : Rd w R s a) (hg : errT w) (hs : s.size ≤ 1000000) (ha : a ≤ s.size) (hgv : vreadF (s.data.toList.drop a) = (0, k, l)) (hk : k ≤ 1000000) (_ : n = 0) :
    Calls Tryz.prog 103 #[.pointer (some ⟨R, 0, none⟩), .func (.func 104) #[] #[]] w fun e w' => ∃ v, e = .returned v ∧ ownsE w' w.heap.size v l ∧ Rd w' R s (a + k) ∧ w.grownBy w' (some R) := by
  have H := Lib.hid h
  have HG0 := Lib.hid hg
  obtain ⟨c0, c1, z1, hR⟩ := h.cells
  have HES : (s.extract a s.size).data.toList = s.data.toList.drop a := ext_dropV s a
  have HSZ : Hid ((s.extract a s.size).size ≤ 1000000) := Lib.hid (Nat.le_trans ext_le hs)
  have HM : Hid ((s.extract a s.size).size ≤ maxLen) := Lib.hid (by have := HSZ.out; unfold maxLen; omega)
  have HGL : Hid (vreadF (s.extract a s.size).data.toList = (0, k, l)) := Lib.hid (show vreadF (s.extract a s.size).data.toList = (0, k, l) by rw [HES, hgv])
  have HGD : Hid (errT w.drew) := Lib.hid hg
  have d3 : (0 : Int) ≤ (a : Int) := by omega
  have d4 : (a : Int) ≤ (s.size : Int) := by omega
  have kw : IntKind.i64.wrap ((a : Int) + (k : Int)) = ((a + k : Nat) : Int) := by rw [show ((a + k : Nat) : Int) = (a : Int) + (k : Int) by simp]; exact IntWalk.i64_in _ (by omega)
  have HB0 : Hid (Below w.heap.size w w.drew) := Lib.hid (Below.refl _ _).drew
  have HZ : Hid (R < w.heap.size) := Lib.hid hR
  clear h hg hgv HES
  go_enter Tryz.func103, Tryz.ntmps103
  go_wp2
  go_region_held3 (fun w' => w'.cell? ⟨R, 0, none⟩ = some (.string s) ∧ w'.cell? ⟨R, 1, none⟩ = some (.int .i64 (a : Int))) (first | exact ⟨c0, c1⟩ | exact ⟨k0, k1⟩ | fail) (first
    | (go_at_call 104; ((with_reducible refine (ents_ok (s.extract a s.size) l k w.drew HSZ.out HGD.out HGL.out).mono ?_); rintro r w1 ⟨ad, cc, rfl, hown, hb1⟩; have HB1 : Hid (Below w.heap.size w w1) := Lib.hid (undrew3 hb1); obtain ⟨k0, k1, _, _⟩ := (H.out.below HB1.out).cells; have HO := Lib.hid hown; clear hown; clear hb1))
    | fail)
  clear c0 c1
  have H1 := Lib.hid (H.out.below HB1.out)
  obtain ⟨_, k1', z1', _⟩ := H1.out.cells
  go_wp2_with fail
  refine (check_nil R w1).mono ?_
  rintro r w' ⟨rfl, rfl⟩
  go_wp2
  go_ret
  exact ⟨_, rfl, ownE_set HO.out HZ.out, H1.out.moved, grownR HB1.out _⟩

set_option maxRecDepth 100000 in
set_option maxHeartbeats 2000000 in
theorem getents_bad (R : Nat) (s : ByteArray) (a x k : Nat) (l : List Ent) (w : World) (h : Rd w R s a) (hg : errT w) (hs : s.size ≤ 1000000) (ha : a ≤ s.size) (hgv : vreadF (s.data.toList.drop a) = (x, k, [])) (hk0 : k = 0) (hx : x ≠ 0) (_ : l = []) :
    Calls Tryz.prog 103 #[.pointer (some ⟨R, 0, none⟩), .func (.func 104) #[] #[]] w fun e w' => Thrown (x, (a : Int)) e w' ∧ w.grownBy w' (some R) := by
  have H := Lib.hid h
  have HG0 := Lib.hid hg
  obtain ⟨c0, c1, z1, hR⟩ := h.cells
  have HES : (s.extract a s.size).data.toList = s.data.toList.drop a := ext_dropV s a
  have HSZ : Hid ((s.extract a s.size).size ≤ 1000000) := Lib.hid (Nat.le_trans ext_le hs)
  have HM : Hid ((s.extract a s.size).size ≤ maxLen) := Lib.hid (by have := HSZ.out; unfold maxLen; omega)
  subst hk0
  have HGL : Hid (vreadF (s.extract a s.size).data.toList = (x, 0, [])) := Lib.hid (show vreadF (s.extract a s.size).data.toList = (x, 0, []) by rw [HES, hgv])
  have HGD : Hid (errT w.drew) := Lib.hid hg
  have d3 : (0 : Int) ≤ (a : Int) := by omega
  have d4 : (a : Int) ≤ (s.size : Int) := by omega
  have HB0 : Hid (Below w.heap.size w w.drew) := Lib.hid (Below.refl _ _).drew
  have HZ : Hid (R < w.heap.size) := Lib.hid hR
  clear h hg hgv HES
  go_enter Tryz.func103, Tryz.ntmps103
  go_wp2
  go_region_held3 (fun w' => w'.cell? ⟨R, 0, none⟩ = some (.string s) ∧ w'.cell? ⟨R, 1, none⟩ = some (.int .i64 (a : Int))) (first | exact ⟨c0, c1⟩ | exact ⟨k0, k1⟩ | fail) (first
    | (go_at_call 104; ((with_reducible refine (ents_bad (s.extract a s.size) x w.drew HSZ.out HGD.out HGL.out hx).mono ?_); rintro r w1 ⟨ad, cc, rfl, hown, hb1⟩; have HB1 : Hid (Below w.heap.size w w1) := Lib.hid (undrew3 hb1); obtain ⟨k0, k1, _, _⟩ := (H.out.below HB1.out).cells; have HO := Lib.hid hown; clear hown; clear hb1))
    | fail)
  clear c0 c1
  have H1 := Lib.hid (H.out.below HB1.out)
  go_wp2_with fail
  refine (check_err R s a _ x w1 H1.out (HG0.out.below HB1.out) (.inl rfl) hx).mono ?_
  rintro r w2 ⟨⟨t, u, rfl, hne, ha⟩, hb2⟩
  have HB2 : Hid (Below w.heap.size w w2) := HB1.out.trans (hb2.mono HB1.out.size)
  exact And.intro rfl ⟨⟨t, u, rfl, hne, ha⟩, grownB HB2.out⟩
end Go.Proofs.YtgelfjcmggicdaaGreatDoor
/-
  The next number by its bound; a write, filled.
-/
namespace Go.Proofs.YtgelfjcmggicdaaGreatDoor
open Go.RowKit

theorem grown_alloc {w w' : World} {o : Obj} {R : Nat} (h : (w.alloc o).grownBy w' (some R)) : w.grownBy w' (some R) :=
  ⟨h.os, h.tape, h.output, Nat.le_trans (by simp) h.size, fun k hk hne => (h.block k (by simp; omega) hne).trans (Below.heap_alloc _ _ _ hk)⟩
set_option maxRecDepth 100000 in
theorem number_ok (R : Nat) (s : ByteArray) (a n k : Nat) (most : Int) (w : World) (h : Rd w R s a) (hg : errT w) (hs : s.size ≤ 1000000) (ha : a ≤ s.size) (h0 : -9223372036854775808 ≤ most) (h1 : most ≤ 9223372036854775807) (hgv : intL (s.data.toList.drop a) most = (n, k, 0)) (hk : k ≤ 1000000) :
    Calls Tryz.prog 106 #[.pointer (some ⟨R, 0, none⟩), .int .i64 most] w fun e w' => e = .returned (.int .i64 (n : Int)) ∧ Rd w' R s (a + k) ∧ w.grownBy w' (some R) := by
  have hmf : ∀ (fn : Fn) (first cap : Array Value) (w : World), (Instr.makeFunc fn first cap).run Tryz.prog w = .ok (.func fn first cap) w := fun _ _ _ _ => rfl
  have H := Lib.hid (h.below ((Below.refl _ _).alloc (Nat.le_refl _) (.cells #[.int .i64 most] 3)))
  have HG := Lib.hid (hg.alloc (.cells #[.int .i64 most] 3))
  have HGV := Lib.hid hgv
  have H0 := Lib.hid h0
  have H1 := Lib.hid h1
  clear h hg hgv h0 h1
  go_enter Tryz.func106, Tryz.ntmps106
  go_wp2_with fail
  refine (getnum_ok R s a n k w.heap.size most _ H.out HG.out hs ha H0.out H1.out (by simp) HGV.out hk).mono ?_
  rintro r w1 ⟨rfl, hr1, hg1⟩
  have HR1 := Lib.hid hr1
  have HG1 := Lib.hid (grown_alloc hg1)
  clear hr1 hg1
  go_wp2
  go_ret
  exact ⟨rfl, HR1.out, HG1.out⟩
set_option maxRecDepth 100000 in
theorem number_bad (R : Nat) (s : ByteArray) (a x : Nat) (most : Int) (w : World) (h : Rd w R s a) (hg : errT w) (hs : s.size ≤ 1000000) (ha : a ≤ s.size) (h0 : -9223372036854775808 ≤ most) (h1 : most ≤ 9223372036854775807) (hgv : intL (s.data.toList.drop a) most = (0, 0, x)) (hx : x ≠ 0) :
    Calls Tryz.prog 106 #[.pointer (some ⟨R, 0, none⟩), .int .i64 most] w fun e w' => Thrown (x, (a : Int)) e w' ∧ w.grownBy w' (some R) := by
  have hmf : ∀ (fn : Fn) (first cap : Array Value) (w : World), (Instr.makeFunc fn first cap).run Tryz.prog w = .ok (.func fn first cap) w := fun _ _ _ _ => rfl
  have H := Lib.hid (h.below ((Below.refl _ _).alloc (Nat.le_refl _) (.cells #[.int .i64 most] 3)))
  have HG := Lib.hid (hg.alloc (.cells #[.int .i64 most] 3))
  have HGV := Lib.hid hgv
  have H0 := Lib.hid h0
  have H1 := Lib.hid h1
  clear h hg hgv h0 h1
  go_enter Tryz.func106, Tryz.ntmps106
  go_wp2_with fail
  refine (getnum_bad R s a x 0 w.heap.size most _ H.out HG.out hs ha H0.out H1.out (by simp) HGV.out rfl hx).mono ?_
  rintro r w1 ⟨⟨t, u, rfl, hne, ha⟩, hg1⟩
  exact And.intro rfl ⟨⟨t, u, rfl, hne, ha⟩, grown_alloc hg1⟩

/-- The write that a closure holds, filled. -/
theorem zeroW_is : zeroW = .agg #[.int .i64 0, .int .i64 0, .int .i64 0, .string ⟨#[]⟩, .string ⟨#[]⟩, .int .i64 0] := rfl
theorem wfill_ok (T R K : Int) (key val : ByteArray) (N : Int) (s V : ByteArray) (N' : Int) (k : Nat) (w : World) (hk : key.size ≤ 140737488351232) (hs : s.size ≤ 140737488351232) (h0 : fillE T R K key s.data.toList = 0) (hV : fillV K s.data.toList = V) (hN : (getN K s.data.toList).1 = N') (hn : fillN K s.data.toList = k) :
    Calls Tryz.prog 141 #[.agg #[.int .i64 T, .int .i64 R, .int .i64 K, .string key, .string val, .int .i64 N], .string s] w fun e w' => e = .returned (.tuple #[.agg #[.int .i64 T, .int .i64 R, .int .i64 K, .string key, .string V, .int .i64 N'], .int .i64 (k : Int), .nilIface]) ∧ Below w.heap.size w w' := by
  refine (wfill_any T R K key val N s w hk hs).mono ?_
  rintro e w' ⟨⟨r, rfl, hr⟩, hb⟩
  refine ⟨?_, hb⟩
  rcases hr with ⟨h1, _⟩ | ⟨_, h2⟩
  · exact absurd h0 h1
  · rw [h2, ← hV, ← hN, ← hn]; rfl
theorem wfill_bad (T R K : Int) (key val : ByteArray) (N : Int) (s : ByteArray) (x : Nat) (w : World) (hk : key.size ≤ 140737488351232) (hs : s.size ≤ 140737488351232) (h0 : fillE T R K key s.data.toList = x) (hx : x ≠ 0) :
    Calls Tryz.prog 141 #[.agg #[.int .i64 T, .int .i64 R, .int .i64 K, .string key, .string val, .int .i64 N], .string s] w fun e w' => e = .returned (.tuple #[.agg #[.int .i64 0, .int .i64 0, .int .i64 0, .string ⟨#[]⟩, .string ⟨#[]⟩, .int .i64 0], .int .i64 0, .iface 27 (.int .i64 (x : Int))]) ∧ Below w.heap.size w w' := by
  refine (wfill_any T R K key val N s w hk hs).mono ?_
  rintro e w' ⟨⟨r, rfl, hr⟩, hb⟩
  refine ⟨?_, hb⟩
  rcases hr with ⟨_, h2⟩ | ⟨h1, _⟩
  · rw [h2, h0, errV_bad hx]; rfl
  · exact absurd (h0.symm.trans h1) hx

set_option maxRecDepth 100000 in
set_option maxHeartbeats 1000000 in
theorem nx1_ok (T R K : Int) (key val : ByteArray) (N : Int) (s V : ByteArray) (N' : Int) (k Q : Nat) (w : World) (hQ : wrAt w Q T R K key val N) (hk : key.size ≤ 140737488351232) (hs : s.size ≤ 140737488351232) (h0 : fillE T R K key s.data.toList = 0) (hV : fillV K s.data.toList = V) (hN : (getN K s.data.toList).1 = N') (hn : fillN K s.data.toList = k) :
    Calls Tryz.prog 140 #[.string s, .pointer (some ⟨Q, 0, none⟩)] w fun e w' => e = .returned (.tuple #[.agg #[.int .i64 T, .int .i64 R, .int .i64 K, .string key, .string V, .int .i64 N'], .int .i64 (k : Int), .nilIface]) ∧ Below w.heap.size w w' := by
  obtain ⟨c0, c1, c2, c3, c4, c5⟩ := hQ.below ((Below.refl _ _).alloc (Nat.le_refl _) (.cells #[.int .i64 0, .int .i64 0, .int .i64 0, .string ⟨#[]⟩, .string ⟨#[]⟩, .int .i64 0] 52)) (lt_of_cell hQ.1)
  have H0 := Lib.hid h0
  have HV := Lib.hid hV
  have HN := Lib.hid hN
  have HK := Lib.hid hn
  clear h0 hV hN hn hQ
  go_enter Tryz.func140, Tryz.ntmps140
  go_wp2_with fail
  refine (wfill_ok T R K key val N s V N' k _ hk hs H0.out HV.out HN.out HK.out).mono ?_
  rintro r w1 ⟨rfl, hb1⟩
  have hq : w1.heap[w.heap.size]? = some (.cells #[.int .i64 0, .int .i64 0, .int .i64 0, .string ⟨#[]⟩, .string ⟨#[]⟩, .int .i64 0] 52 (0, 0)) := (hb1.block _ (by simp)).trans (heap_alloc_new w _)
  have HB1 : Hid (Below w.heap.size w w1) := Lib.hid (((Below.refl _ _).alloc (Nat.le_refl _) _).trans (hb1.mono (by simp)))
  have HQ := Lib.hid hq
  clear hb1 c0 c1 c2 c3 c4 c5
  have HI := Lib.hid (wr_sized (.int .i64 T) (.int .i64 R) (.int .i64 K) (.string key) (.string V) (.int .i64 N'))
  have HONE := Lib.hid (wr_ones T R K key V N')
  have HSAME := Lib.hid (wr_same T R K key V N')
  obtain ⟨e0, e1, e2, e3, e4, e5⟩ := row_at (row_set hq #[.int .i64 T, .int .i64 R, .int .i64 K, .string key, .string V, .int .i64 N'])
  clear hq
  go_wp2_with (with_reducible refine wpList_store_row rfl _ _ _ rfl _ _ rfl rfl _ _ HQ.out HI.out HSAME.out HONE.out ?_)
  refine bodyPost_ret (v := .tuple #[.agg #[.int .i64 T, .int .i64 R, .int .i64 K, .string key, .string V, .int .i64 N'], .int .i64 (k : Int), .nilIface]) (by simp [results, Tryz.results140, go_sem, e0, e1, e2, e3, e4, e5]) rfl ?_
  exact ⟨rfl, below_row HB1.out (Nat.le_refl _) _⟩

set_option maxRecDepth 100000 in
set_option maxHeartbeats 1000000 in
theorem nx1_bad (T R K : Int) (key val : ByteArray) (N : Int) (s : ByteArray) (x Q : Nat) (w : World) (hQ : wrAt w Q T R K key val N) (hk : key.size ≤ 140737488351232) (hs : s.size ≤ 140737488351232) (h0 : fillE T R K key s.data.toList = x) (hx : x ≠ 0) :
    Calls Tryz.prog 140 #[.string s, .pointer (some ⟨Q, 0, none⟩)] w fun e w' => e = .returned (.tuple #[.agg #[.int .i64 0, .int .i64 0, .int .i64 0, .string ⟨#[]⟩, .string ⟨#[]⟩, .int .i64 0], .int .i64 0, .iface 27 (.int .i64 (x : Int))]) ∧ Below w.heap.size w w' := by
  obtain ⟨c0, c1, c2, c3, c4, c5⟩ := hQ.below ((Below.refl _ _).alloc (Nat.le_refl _) (.cells #[.int .i64 0, .int .i64 0, .int .i64 0, .string ⟨#[]⟩, .string ⟨#[]⟩, .int .i64 0] 52)) (lt_of_cell hQ.1)
  have H0 := Lib.hid h0
  clear h0 hQ
  go_enter Tryz.func140, Tryz.ntmps140
  go_wp2_with fail
  refine (wfill_bad T R K key val N s x _ hk hs H0.out hx).mono ?_
  rintro r w1 ⟨rfl, hb1⟩
  have hq : w1.heap[w.heap.size]? = some (.cells #[.int .i64 0, .int .i64 0, .int .i64 0, .string ⟨#[]⟩, .string ⟨#[]⟩, .int .i64 0] 52 (0, 0)) := (hb1.block _ (by simp)).trans (heap_alloc_new w _)
  have HB1 : Hid (Below w.heap.size w w1) := Lib.hid (((Below.refl _ _).alloc (Nat.le_refl _) _).trans (hb1.mono (by simp)))
  have HQ := Lib.hid hq
  clear hb1 c0 c1 c2 c3 c4 c5
  have HI := Lib.hid (wr_sized (.int .i64 0) (.int .i64 0) (.int .i64 0) (.string ⟨#[]⟩) (.string ⟨#[]⟩) (.int .i64 0))
  have HONE := Lib.hid (wr_ones 0 0 0 ⟨#[]⟩ ⟨#[]⟩ 0)
  obtain ⟨e0, e1, e2, e3, e4, e5⟩ := row_at (row_set hq #[.int .i64 0, .int .i64 0, .int .i64 0, .string ⟨#[]⟩, .string ⟨#[]⟩, .int .i64 0])
  clear hq
  go_wp2_with (with_reducible refine wpList_store_row rfl _ _ _ rfl _ _ rfl rfl _ _ HQ.out HI.out rfl HONE.out ?_)
  refine bodyPost_ret (v := .tuple #[.agg #[.int .i64 0, .int .i64 0, .int .i64 0, .string ⟨#[]⟩, .string ⟨#[]⟩, .int .i64 0], .int .i64 0, .iface 27 (.int .i64 (x : Int))]) (by simp [results, Tryz.results140, go_sem, e0, e1, e2, e3, e4, e5]) rfl ?_
  exact ⟨rfl, below_row HB1.out (Nat.le_refl _) _⟩
end Go.Proofs.YtgelfjcmggicdaaGreatDoor
/-
  The contracts of the document's VectorRight, Bare, Good, Fault.Is.
-/
namespace Go.Proofs.YtgelfjcmggicdaaGreatDoor
open Go.RowKit

theorem good_any (w : World) : Calls Tryz.prog 40 #[] w fun e w' => e = .returned (.agg #[.int .i64 0, .int .i64 (-1)]) ∧ Below w.heap.size w w' := by
  go_enter Tryz.func40, Tryz.ntmps40
  go_wp2
  refine bodyPost_ret (v := .agg #[.int .i64 0, .int .i64 (-1)]) (by simp [results, Tryz.results40, go_sem]) rfl ?_
  exact ⟨rfl, (Below.refl _ _).alloc (Nat.le_refl _) _⟩
theorem baref_any (n : Int) (w : World) : Calls Tryz.prog 39 #[.int .i64 n] w fun e w' => e = .returned (.agg #[.int .i64 n, .int .i64 (-1)]) ∧ Below w.heap.size w w' := by
  go_enter Tryz.func39, Tryz.ntmps39
  go_wp2
  refine bodyPost_ret (v := .agg #[.int .i64 n, .int .i64 (-1)]) (by simp [results, Tryz.results39, go_sem]) rfl ?_
  exact ⟨rfl, (Below.refl _ _).alloc (Nat.le_refl _) _⟩
theorem is_any (e pl : Int) (w : World) : Calls Tryz.prog 31 #[.agg #[.int .i64 e, .int .i64 pl]] w fun r w' => r = .returned (.bool (e == 0)) ∧ Below w.heap.size w w' := by
  go_enter Tryz.func31, Tryz.ntmps31
  go_wp2
  go_ret
  exact ⟨rfl, (Below.refl _ _).alloc (Nat.le_refl _) _⟩

/-- An error's number and place, as a Fault. -/
def faultV (r : Nat × Int) : Value := .agg #[.int .i64 (r.1 : Nat), .int .i64 r.2]
theorem faultV_is {r : Nat × Int} {e : Nat} {pl : Int} (h : r = (e, pl)) : faultV r = .agg #[.int .i64 (e : Int), .int .i64 pl] := by rw [h]; rfl

set_option maxRecDepth 100000 in
set_option maxHeartbeats 4000000 in
theorem rvright_any (v : Value) (l : List Ent) (w : World) (hv : IsEnts w v l) (hl : l.length ≤ 9223372036854775807) :
    Calls Tryz.prog 79 #[v] w fun e w' => e = .returned (faultV (vrightF l)) ∧ Below w.heap.size w w' := by
  obtain ⟨a1, c1, rfl, f1⟩ := hv.form
  have F1 := Lib.hid f1
  obtain ⟨n, hn⟩ : ∃ n, n = l.length := ⟨_, rfl⟩
  rw [← hn] at hl ⊢
  have HN := Lib.hid hn
  clear hv f1 hn
  by_cases h16 : 16 < n
  · have HW : Hid (faultV (vrightF l) = .agg #[.int .i64 4, .int .i64 (-1)]) := Lib.hid (faultV_is (show vrightF l = (4, -1) by unfold vrightF; rw [if_pos (by rw [← HN.out]; exact h16)]))
    have h2 : 16 < (n : Int) := by omega
    rw [HW.out]
    go_enter Tryz.func79, Tryz.ntmps79
    go_wp2_with fail
    refine (baref_any 4 _).mono ?_
    rintro r w1 ⟨rfl, hb1⟩
    have hz1 := hb1.size
    rw [World.size_alloc] at hz1
    have d0 : w1.cell? ⟨w.heap.size, 0, none⟩ = some (.int .i64 0) := (hb1.cell (by simp)).trans (by simp)
    have d1 : w1.cell? ⟨w.heap.size, 1, none⟩ = some (.int .i64 0) := (hb1.cell (by simp)).trans (by simp)
    have g0 : w1.frozen? ⟨w.heap.size, 0, none⟩ = false := (hb1.frozen (by simp)).trans (by simp)
    have g1 : w1.frozen? ⟨w.heap.size, 1, none⟩ = false := (hb1.frozen (by simp)).trans (by simp)
    have HB1 : Hid (Below w.heap.size w w1) := ((Below.refl _ _).alloc (Nat.le_refl _) _).trans (hb1.mono (by simp))
    clear hb1
    go_wp2
    refine bodyPost_ret (v := .agg #[.int .i64 4, .int .i64 (-1)]) (by simp [results, Tryz.results79, go_sem, d0, d1]) rfl ?_
    exact ⟨rfl, (HB1.out.setCell (Nat.le_refl _) _).setCell (Nat.le_refl _) _⟩
  · have hvr : vrightF l = vr l 0 (-1) := by unfold vrightF; rw [if_neg (by rw [← HN.out]; exact h16)]
    rw [hvr]
    clear hvr
    go_enter Tryz.func79, Tryz.ntmps79
    go_wp2
    go_loopw [3, 12] (fun s i wr => ∃ (k : Nat) (last : Int), k ≤ n ∧ i = .int .i64 k ∧ s = .int .i64 last ∧ vr l 0 (-1) = vr (l.drop k) k last ∧ Below (w.heap.size + 1) (w.alloc (.cells #[.int .i64 0, .int .i64 0] 29)) wr) (fun _ i _ => n - (intOf i).toNat)
    case atStart => exact ⟨0, -1, by omega, rfl, rfl, rfl, Below.refl _ _⟩
    case round =>
      obtain ⟨k, last, hk, rfl, rfl, heq, hbel⟩ := hrel
      have HEQ := Lib.hid heq
      have HB := Lib.hid hbel
      have x0 : wr.cell? ⟨w.heap.size, 0, none⟩ = some (.int .i64 0) := (hbel.cell (by exact Nat.lt_succ_self _)).trans (by simp)
      have x1 : wr.cell? ⟨w.heap.size, 1, none⟩ = some (.int .i64 0) := (hbel.cell (by exact Nat.lt_succ_self _)).trans (by simp)
      have y0 : wr.frozen? ⟨w.heap.size, 0, none⟩ = false := (hbel.frozen (by exact Nat.lt_succ_self _)).trans (by simp)
      have y1 : wr.frozen? ⟨w.heap.size, 1, none⟩ = false := (hbel.frozen (by exact Nat.lt_succ_self _)).trans (by simp)
      have hzr := hbel.size
      rw [World.size_alloc] at hzr
      have HB0 : Hid (Below w.heap.size w wr) := ((Below.refl _ _).alloc (Nat.le_refl _) _).trans (HB.out.mono (Nat.le_succ _))
      clear heq hbel
      by_cases hlt : k < n
      · have hkl : k < l.length := by have := HN.out; omega
        obtain ⟨t, ht⟩ : ∃ t, l[k]? = some t := ⟨l[k], List.getElem?_eq_getElem hkl⟩
        obtain ⟨b1, o1, rfl, hb1, p0, p1⟩ := F1.out k t ht
        have hd : l.drop k = t :: l.drop (k + 1) := by
          rw [List.drop_eq_getElem_cons hkl]; congr 1
          rw [List.getElem?_eq_getElem hkl] at ht; exact Option.some.inj ht
        obtain ⟨rep, time⟩ := t
        simp only at p0 p1
        have q0 := (HB0.out.cell (p := ⟨b1, o1 + k * 2, none⟩) hb1).trans p0
        have q1 := (HB0.out.cell (p := ⟨b1, o1 + k * 2 + 1, none⟩) hb1).trans p1
        have HD := Lib.hid hd
        have hlt0 : w.heap.size < wr.heap.size := by omega
        clear p0 p1 ht hd hkl
        by_cases hr : rep < 0 ∨ 200 < rep ∨ time < 1 ∨ 1099511627776 < time
        · have HW : Hid (faultV (vr l 0 (-1)) = .agg #[.int .i64 2, .int .i64 k]) := Lib.hid (faultV_is (show vr l 0 (-1) = (2, (k : Int)) by
            have hw : wrE ⟨rep, time⟩ last = 2 := wrE_range hr
            rw [HEQ.out, HD.out, vr_bad (by rw [hw]; decide), hw]))
          have HR := Lib.hid hr
          clear hr HEQ
          by_cases h1 : rep < 0 ∨ 200 < rep
          · rcases h1 with h1 | h1
            · go_wp2_with fail
              refine (within_low rep 0 200 _ h1).mono ?_
              rintro r w' ⟨rfl, rfl⟩
              go_wp2
              refine bodyPost_ret (v := .agg #[.int .i64 2, .int .i64 k]) (by simp [results, Tryz.results79, go_sem, x0, x1, hlt0]) rfl ?_
              rw [HW.out]
              exact ⟨rfl, ((HB0.out.setCell (Nat.le_refl _) _).setCell (Nat.le_refl _) _).alloc (by simp; omega) _⟩
            · go_wp2_with fail
              refine (within_high rep 0 200 _ (by omega) h1).mono ?_
              rintro r w' ⟨rfl, rfl⟩
              go_wp2
              refine bodyPost_ret (v := .agg #[.int .i64 2, .int .i64 k]) (by simp [results, Tryz.results79, go_sem, x0, x1, hlt0]) rfl ?_
              rw [HW.out]
              exact ⟨rfl, ((HB0.out.setCell (Nat.le_refl _) _).setCell (Nat.le_refl _) _).alloc (by simp; omega) _⟩
          · by_cases h2 : time < 1
            · go_wp2_with fail
              refine (within_yes rep 0 200 _ (by omega) (by omega)).mono ?_
              rintro r w' ⟨rfl, rfl⟩
              go_wp2_with fail
              refine (within_low time 1 1099511627776 _ h2).mono ?_
              rintro r w' ⟨rfl, rfl⟩
              go_wp2
              refine bodyPost_ret (v := .agg #[.int .i64 2, .int .i64 k]) (by simp [results, Tryz.results79, go_sem, x0, x1, hlt0]) rfl ?_
              rw [HW.out]
              exact ⟨rfl, ((HB0.out.setCell (Nat.le_refl _) _).setCell (Nat.le_refl _) _).alloc (by simp; omega) _⟩
            · have h3 : 1099511627776 < time := by have := HR.out; omega
              go_wp2_with fail
              refine (within_yes rep 0 200 _ (by omega) (by omega)).mono ?_
              rintro r w' ⟨rfl, rfl⟩
              go_wp2_with fail
              refine (within_high time 1 1099511627776 _ (by omega) h3).mono ?_
              rintro r w' ⟨rfl, rfl⟩
              go_wp2
              refine bodyPost_ret (v := .agg #[.int .i64 2, .int .i64 k]) (by simp [results, Tryz.results79, go_sem, x0, x1, hlt0]) rfl ?_
              rw [HW.out]
              exact ⟨rfl, ((HB0.out.setCell (Nat.le_refl _) _).setCell (Nat.le_refl _) _).alloc (by simp; omega) _⟩
        · have g1 : 0 ≤ rep := by omega
          have g2 : rep ≤ 200 := by omega
          have g3 : 1 ≤ time := by omega
          have g4 : time ≤ 1099511627776 := by omega
          by_cases h5 : rep ≤ last
          · have HW : Hid (faultV (vr l 0 (-1)) = .agg #[.int .i64 10, .int .i64 k]) := Lib.hid (faultV_is (show vr l 0 (-1) = (10, (k : Int)) by
              have hw : wrE ⟨rep, time⟩ last = 10 := wrE_order hr h5
              rw [HEQ.out, HD.out, vr_bad (by rw [hw]; decide), hw]))
            clear hr HEQ
            go_wp2_with fail
            refine (within_yes rep 0 200 _ g1 g2).mono ?_
            rintro r w' ⟨rfl, rfl⟩
            go_wp2_with fail
            refine (within_yes time 1 1099511627776 _ g3 g4).mono ?_
            rintro r w' ⟨rfl, rfl⟩
            go_wp2
            refine bodyPost_ret (v := .agg #[.int .i64 10, .int .i64 k]) (by simp [results, Tryz.results79, go_sem, x0, x1, hlt0]) rfl ?_
            rw [HW.out]
            exact ⟨rfl, ((HB0.out.setCell (Nat.le_refl _) _).setCell (Nat.le_refl _) _).alloc (by simp; omega) _⟩
          · have HW : Hid (vr l 0 (-1) = vr (l.drop (k + 1)) (k + 1) rep) := Lib.hid (show vr l 0 (-1) = vr (l.drop (k + 1)) (k + 1) rep by
              rw [HEQ.out, HD.out, vr_good (wrE_fine hr h5)])
            clear hr HEQ
            go_wp2_with fail
            refine (within_yes rep 0 200 _ g1 g2).mono ?_
            rintro r w' ⟨rfl, rfl⟩
            go_wp2_with fail
            refine (within_yes time 1 1099511627776 _ g3 g4).mono ?_
            rintro r w' ⟨rfl, rfl⟩
            go_wp2
            go_roundw
            case rel => exact ⟨k + 1, rep, by omega, by go_num, rfl, HW.out, HB.out.alloc (by omega) _⟩
            case measure => simp [intOf]; omega
      · have HW : Hid (faultV (vr l 0 (-1)) = .agg #[.int .i64 0, .int .i64 (-1)]) := Lib.hid (faultV_is (show vr l 0 (-1) = (0, -1) by rw [HEQ.out, List.drop_eq_nil_of_le (by have := HN.out; omega)]; rfl))
        have hlt0 : w.heap.size < wr.heap.size := by omega
        clear HEQ
        go_wp2_with fail
        refine (good_any _).mono ?_
        rintro r w1 ⟨rfl, hb1⟩
        have d0 : w1.cell? ⟨w.heap.size, 0, none⟩ = some (.int .i64 0) := (hb1.cell hlt0).trans x0
        have d1 : w1.cell? ⟨w.heap.size, 1, none⟩ = some (.int .i64 0) := (hb1.cell hlt0).trans x1
        have g0 : w1.frozen? ⟨w.heap.size, 0, none⟩ = false := (hb1.frozen hlt0).trans y0
        have g1 : w1.frozen? ⟨w.heap.size, 1, none⟩ = false := (hb1.frozen hlt0).trans y1
        have HBW : Hid (Below w.heap.size w w1) := HB0.out.trans (hb1.mono (Nat.le_of_lt hlt0))
        clear hb1 x0 x1 y0 y1
        go_wp2
        refine bodyPost_ret (v := .agg #[.int .i64 0, .int .i64 (-1)]) (by simp [results, Tryz.results79, go_sem, d0, d1]) rfl ?_
        rw [HW.out]
        exact ⟨rfl, (HBW.out.setCell (Nat.le_refl _) _).setCell (Nat.le_refl _) _⟩
end Go.Proofs.YtgelfjcmggicdaaGreatDoor
/-
  The contract of the document's Int: it answers what 'intL' gives.
-/
namespace Go.Proofs.YtgelfjcmggicdaaGreatDoor
open Go.RowKit

theorem unvary_ok (s : ByteArray) (w : World) (hs : s.size ≤ maxLen) (n k : Nat) (h : getL s.data.toList = (n, k, 0)) :
    Calls Tryz.prog 100 #[.string s] w fun e w' => e = .returned (.tuple #[.int .u64 n, .int .i64 k, .int .i64 0]) ∧ w = w' :=
  (unvary_any s w hs).mono fun e w' ⟨h1, h2⟩ => ⟨h1.trans (by rw [h]; rfl), h2⟩
theorem unvary_bad (s : ByteArray) (w : World) (hs : s.size ≤ maxLen) (e : Nat) (h : getL s.data.toList = (0, 0, e)) :
    Calls Tryz.prog 100 #[.string s] w fun r w' => r = .returned (.tuple #[.int .u64 0, .int .i64 0, .int .i64 e]) ∧ w = w' :=
  (unvary_any s w hs).mono fun r w' ⟨h1, h2⟩ => ⟨h1.trans (by rw [h]; rfl), h2⟩

set_option maxRecDepth 100000 in
set_option maxHeartbeats 1000000 in
theorem rint_any (s : ByteArray) (most : Int) (w : World) (hs : s.size ≤ maxLen) (h0 : -9223372036854775808 ≤ most) (h1 : most ≤ 9223372036854775807) :
    Calls Tryz.prog 99 #[.string s, .int .i64 most] w fun r w' => r = .returned (intR (intL s.data.toList most)) ∧ w = w' := by
  rcases getL_cases s.data.toList with ⟨e, hg, he⟩ | ⟨n, k, hg, hn, hk1, hk2, hk3⟩
  · have HP : Hid (intR (intL s.data.toList most) = .tuple #[.int .i64 0, .int .i64 0, .int .i64 e]) := by
      show intR _ = _
      rw [intL_bad hg he]; rfl
    have HG := Lib.hid hg
    have hne : ((e : Int) != 0) = true := by simp; omega
    clear hg
    rw [HP.out]
    go_enter Tryz.func99, Tryz.ntmps99
    go_wp2_with (go_at_call 100; refine (unvary_bad _ _ hs e HG.out).mono ?_; rintro r w' ⟨rfl, rfl⟩)
    go_ret3
    exact ⟨rfl, rfl⟩
  · by_cases hm : most < 0
    · have HP : Hid (intR (intL s.data.toList most) = .tuple #[.int .i64 0, .int .i64 0, .int .i64 2]) := by
        show intR _ = _
        rw [intL_range hg (.inl hm)]; rfl
      have HG := Lib.hid hg
      clear hg
      rw [HP.out]
      go_enter Tryz.func99, Tryz.ntmps99
      go_wp2_with (go_at_call 100; refine (unvary_ok _ _ hs n k HG.out).mono ?_; rintro r w' ⟨rfl, rfl⟩)
      go_ret3
      exact ⟨rfl, rfl⟩
    · have hm' : 0 ≤ most := by omega
      by_cases hr : most < (n : Int)
      · have HP : Hid (intR (intL s.data.toList most) = .tuple #[.int .i64 0, .int .i64 0, .int .i64 2]) := by
          show intR _ = _
          rw [intL_range hg (.inr hr)]; rfl
        have HG := Lib.hid hg
        clear hg hm
        rw [HP.out]
        go_enter Tryz.func99, Tryz.ntmps99
        go_wp2_with (go_at_call 100; refine (unvary_ok _ _ hs n k HG.out).mono ?_; rintro r w' ⟨rfl, rfl⟩)
        go_ret3
        exact ⟨rfl, rfl⟩
      · have HP : Hid (intR (intL s.data.toList most) = .tuple #[.int .i64 n, .int .i64 k, .int .i64 0]) := by
          show intR _ = _
          rw [intL_ok hg (by omega)]; rfl
        have HG := Lib.hid hg
        have hr' : (n : Int) ≤ most := by omega
        clear hg hm hr
        rw [HP.out]
        go_enter Tryz.func99, Tryz.ntmps99
        go_wp2_with (go_at_call 100; refine (unvary_ok _ _ hs n k HG.out).mono ?_; rintro r w' ⟨rfl, rfl⟩)
        go_ret3
        exact ⟨rfl, rfl⟩
end Go.Proofs.YtgelfjcmggicdaaGreatDoor
/-
  What the document's functions throw, and catch; a scanner's next number.
-/
namespace Go.Proofs.YtgelfjcmggicdaaGreatDoor
open Go.RowKit

set_option maxRecDepth 100000 in
theorem throw_any (e pl : Int) (w : World) : Calls Tryz.prog 48 #[.int .i64 e, .int .i64 pl] w fun r w' => r = .panicked [{ v := .iface 150 (.agg #[.int .i64 e, .int .i64 pl]), recovered := false }] ∧ w' = w := by
  go_enter Tryz.func48, Tryz.ntmps48
  go_wp2
  exact ⟨rfl, rfl, rfl⟩
set_option maxRecDepth 100000 in
theorem isThrown (v : Value) (xT : TypeId) (w : World) : (Instr.typeAssert (.iface 150 v) xT 150 true).run Tryz.prog w = .ok (.tuple #[v, .bool true]) w := by
  simp [Instr.typeAssert, run_underlying Tryz.underlying150]
set_option maxRecDepth 100000 in
theorem caught_pan (F : Nat) (e pl x y : Int) (older : List PanicEntry) (w : World) (hF : F < w.heap.size) (h0 : w.cell? ⟨F, 0, none⟩ = some (.int .i64 x)) (h1 : w.cell? ⟨F, 1, none⟩ = some (.int .i64 y)) (z0 : w.frozen? ⟨F, 0, none⟩ = false) (z1 : w.frozen? ⟨F, 1, none⟩ = false) :
    CallsD Tryz.prog 46 #[.pointer (some ⟨F, 0, none⟩)] (.panicking ({ v := .iface 150 (.agg #[.int .i64 e, .int .i64 pl]), recovered := false } :: older)) w fun r u' w' =>
      r = .returned (.tuple #[]) ∧ u' = .panicking ({ v := .iface 150 (.agg #[.int .i64 e, .int .i64 pl]), recovered := true } :: older) ∧ w' = ((w.setCell ⟨F, 0, none⟩ (.int .i64 e)).setCell ⟨F, 1, none⟩ (.int .i64 pl)).alloc (.cells #[.int .i64 e, .int .i64 pl] 150) := by
  have iT := isThrown
  refine callsD_of_wpS Tryz.func46 rfl fun c₀ cs hu => ?_
  apply wpS_seq
  apply wpS_region
  simp [wpOpsS, go_sem, recoverD, hu, Tryz.ntmps46, Exit.thenS]
  refine wpS_of_wp ?_
  rw [show (#[.pointer (some ⟨F, 0, none⟩)] ++ ((Array.replicate 19 undef).setIfInBounds 4 (.iface 150 (.agg #[.int .i64 e, .int .i64 pl]))).setIfInBounds 1 (.iface 150 (.agg #[.int .i64 e, .int .i64 pl])) : Array Value) = #[.pointer (some ⟨F, 0, none⟩), undef, .iface 150 (.agg #[.int .i64 e, .int .i64 pl]), undef, undef, .iface 150 (.agg #[.int .i64 e, .int .i64 pl]), undef, undef, undef, undef, undef, undef, undef, undef, undef, undef, undef, undef, undef, undef] by kernel_rfl]
  go_wp2
  simp [bodyPostS, results, Tryz.results46]
set_option maxRecDepth 100000 in
theorem caught_idle (p : Value) (w : World) :
    CallsD Tryz.prog 46 #[p] .returning w fun r u' w' => r = .returned (.tuple #[]) ∧ u' = .returning ∧ w' = w := by
  refine callsD_of_wpS Tryz.func46 rfl fun c₀ cs hu => ?_
  apply wpS_seq
  apply wpS_region
  simp [wpOpsS, go_sem, recoverD, hu, Tryz.ntmps46, Exit.thenS]
  refine wpS_of_wp ?_
  rw [show (#[p] ++ ((Array.replicate 19 undef).setIfInBounds 4 .nilIface).setIfInBounds 1 .nilIface : Array Value) = #[p, undef, .nilIface, undef, undef, .nilIface, undef, undef, undef, undef, undef, undef, undef, undef, undef, undef, undef, undef, undef, undef] by kernel_rfl]
  go_wp2
  cases c₀
  simp_all [bodyPostS, results, Tryz.results46]


/-- A scanner in memory: its text, and where it stands. -/
def Sc (w : World) (S : Nat) (s : ByteArray) (a : Nat) : Prop := w.heap[S]? = some (.cells #[.string s, .int .i64 (a : Int)] 86 (0, 0))
theorem Sc.cells {w : World} {S : Nat} {s : ByteArray} {a : Nat} (h : Sc w S s a) : w.cell? ⟨S, 0, none⟩ = some (.string s) ∧ w.cell? ⟨S, 1, none⟩ = some (.int .i64 (a : Int)) ∧ w.frozen? ⟨S, 1, none⟩ = false ∧ S < w.heap.size := by
  refine ⟨cell_of_row _ _ 0 _ _ (0, 0) h, cell_of_row _ _ 1 _ _ (0, 0) h, Lib.frozen_of_heap h 1, ?_⟩
  exact (Array.getElem?_eq_some_iff.1 h).1
theorem Sc.kept {w w' : World} {S : Nat} {s : ByteArray} {a : Nat} {row : Option Nat} (h : Sc w S s a) (hg : w.grownBy w' row) (hne : row ≠ some S) : Sc w' S s a := (hg.block S h.cells.2.2.2 (fun e => hne e.symm)).trans h
theorem Sc.moved {w : World} {S : Nat} {s : ByteArray} {a b : Nat} (h : Sc w S s a) : Sc (w.setCell ⟨S, 1, none⟩ (.int .i64 (b : Int))) S s b := by
  unfold Sc at h ⊢
  simp [World.setCell, Array.getElem?_modify, h]
theorem grown_drewN (w : World) (n : Nat) (row : Option Nat) : w.grownBy (w.drewN n) row := ⟨rfl, rfl, rfl, Nat.le_refl _, fun _ _ _ => rfl⟩
theorem grown_setS {w w1 : World} {S : Nat} (h : w.grownBy w1 (some S)) (v : Value) : w.grownBy (w1.setCell ⟨S, 1, none⟩ v) (some S) :=
  ⟨h.os, h.tape, h.output, by simpa using h.size, fun k hk hne => by
    have hk2 : S ≠ k := fun e => hne (by rw [e])
    simp only [World.setCell, Array.getElem?_modify, if_neg hk2]
    exact h.block k hk hne⟩
theorem rint_q (s : ByteArray) (most : Int) (V : Value) (w : World) (m : Nat) (hs : s.size ≤ maxLen) (h0 : -9223372036854775808 ≤ most) (h1 : most ≤ 9223372036854775807) (hV : intR (intL s.data.toList most) = V) :
    Calls Tryz.prog 99 #[.string s, .int .i64 most] (w.drewN m) fun r w' => r = .returned V ∧ ∃ q, w' = w.drewN q :=
  (rint_any s most (w.drewN m) hs h0 h1).mono fun _ _ ⟨h2, h3⟩ => ⟨by rw [h2, hV], m, h3.symm⟩

set_option maxRecDepth 100000 in
theorem next_ok (S : Nat) (s : ByteArray) (a n k : Nat) (most : Int) (w : World) (h : Sc w S s a) (hs : s.size ≤ 1000000) (ha : a ≤ s.size) (hm0 : 0 ≤ most) (hm : most ≤ 1099511627776) (hg : intL (s.data.toList.drop a) most = (n, k, 0)) (hk : k ≤ 10) :
    Calls Tryz.prog 49 #[.pointer (some ⟨S, 0, none⟩), .int .i64 most] w fun e w' => e = .returned (.int .i64 (n : Int)) ∧ Sc w' S s (a + k) ∧ w.grownBy w' (some S) := by
  obtain ⟨c0, c1, z1, hS⟩ := h.cells
  have H := Lib.hid h
  have HM : Hid ((s.extract a s.size).size ≤ maxLen) := Lib.hid (show (s.extract a s.size).size ≤ maxLen by rw [ByteArray.size_extract]; unfold maxLen; omega)
  have HGL : Hid (intR (intL (s.extract a s.size).data.toList most) = .tuple #[.int .i64 (n : Int), .int .i64 (k : Int), .int .i64 0]) := Lib.hid (show intR (intL (s.extract a s.size).data.toList most) = .tuple #[.int .i64 (n : Int), .int .i64 (k : Int), .int .i64 0] by rw [ext_dropV, hg]; rfl)
  have d3 : (0 : Int) ≤ (a : Int) := by omega
  have d4 : (a : Int) ≤ (s.size : Int) := by omega
  have kw : IntKind.i64.wrap ((a : Int) + (k : Int)) = (a : Int) + (k : Int) := IntWalk.i64_in _ (by omega)
  clear h hg
  go_enter Tryz.func49, Tryz.ntmps49
  go_wp2
  go_quiet ((go_at_call 99; with_reducible exact rint_q (s.extract a s.size) most _ _ _ HM.out (by omega) (by omega) HGL.out))
  go_wp2
  go_ret
  have e : (a : Int) + (k : Int) = ((a + k : Nat) : Int) := by simp
  rw [e]
  refine ⟨rfl, Sc.moved (H.out.kept (grown_drewN w _ none) (by simp)), ?_⟩
  exact grown_setS (grown_drewN w _ _) _

set_option maxRecDepth 100000 in
theorem next_bad (S : Nat) (s : ByteArray) (a x : Nat) (most : Int) (w : World) (h : Sc w S s a) (hs : s.size ≤ 1000000) (ha : a ≤ s.size) (hm0 : 0 ≤ most) (hm : most ≤ 1099511627776) (hg : intL (s.data.toList.drop a) most = (0, 0, x)) (hx : x ≠ 0) :
    Calls Tryz.prog 49 #[.pointer (some ⟨S, 0, none⟩), .int .i64 most] w fun e w' => e = .panicked [{ v := .iface 150 (.agg #[.int .i64 (x : Int), .int .i64 (a : Int)]), recovered := false }] ∧ w.grownBy w' (some S) := by
  obtain ⟨c0, c1, z1, hS⟩ := h.cells
  have H := Lib.hid h
  have HM : Hid ((s.extract a s.size).size ≤ maxLen) := Lib.hid (show (s.extract a s.size).size ≤ maxLen by rw [ByteArray.size_extract]; unfold maxLen; omega)
  have HGL : Hid (intR (intL (s.extract a s.size).data.toList most) = .tuple #[.int .i64 0, .int .i64 0, .int .i64 (x : Int)]) := Lib.hid (show intR (intL (s.extract a s.size).data.toList most) = .tuple #[.int .i64 0, .int .i64 0, .int .i64 (x : Int)] by rw [ext_dropV, hg]; rfl)
  have d3 : (0 : Int) ≤ (a : Int) := by omega
  have d4 : (a : Int) ≤ (s.size : Int) := by omega
  have hne : ((x : Int) != 0) = true := by simp; omega
  clear h hg hx
  go_enter Tryz.func49, Tryz.ntmps49
  go_wp2
  go_quiet ((go_at_call 99; with_reducible exact rint_q (s.extract a s.size) most _ _ _ HM.out (by omega) (by omega) HGL.out))
  go_wp2_with fail
  refine (throw_any x (a : Int) _).mono ?_
  rintro r w' ⟨rfl, rfl⟩
  first
    | exact ⟨rfl, rfl, grown_drewN w _ _⟩
    | (show bodyPost _ _ _ _ _ _; exact ⟨rfl, rfl, grown_drewN w _ _⟩)
    | exact (show (_ ∧ _ ∧ _) from ⟨rfl, rfl, grown_drewN w _ _⟩)
    | (refine And.intro rfl (And.intro rfl ?_); exact grown_drewN w _ _)
    | (refine And.intro rfl ?_; exact grown_drewN w _ _)
/-- What is kept goes on being kept: by what changes the scanner, or what was made later. -/
theorem grown_on {w w1 w2 : World} {S : Nat} {row : Option Nat} (h : w.grownBy w1 (some S)) (h2 : w1.grownBy w2 row) (hr : ∀ k, row = some k → k = S ∨ w.heap.size ≤ k) : w.grownBy w2 (some S) := by
  refine ⟨h2.os.trans h.os, h2.tape.trans h.tape, h2.output.trans h.output, Nat.le_trans h.size h2.size, fun k hk hne => ?_⟩
  rw [h2.block k (Nat.lt_of_lt_of_le hk h.size) (fun e => by
    rcases hr k e.symm with rfl | h
    · exact hne rfl
    · omega)]
  exact h.block k hk hne
end Go.Proofs.YtgelfjcmggicdaaGreatDoor
