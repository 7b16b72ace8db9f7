import Derived.Test.YtkafhlpnhgipeaaGreatDoorPk19
import Derived.RegionTactic
import Derived.Test.YtkafhlpnhgipeaaGreatDoorPk16
/-
  The next number, the next kind.
-/
namespace Go.Proofs.YtkafhlpnhgipeaaGreatDoor
open Go.RowKit

theorem ext_le {s : ByteArray} {a : Nat} : (s.extract a s.size).size ≤ s.size := by rw [ByteArray.size_extract]; omega
set_option maxRecDepth 100000 in
theorem num1_ok (t : ByteArray) (M : Nat) (most : Int) (n k : Nat) (w : World) (ht : t.size ≤ maxLen) (h0 : -9223372036854775808 ≤ most) (h1 : most ≤ 9223372036854775807) (hM : w.cell? ⟨M, 0, none⟩ = some (.int .i64 most)) (hi : intL t.data.toList most = (n, k, 0)) :
    Calls Tryz.prog 103 #[.string t, .pointer (some ⟨M, 0, none⟩)] w fun e w' => e = .returned (.tuple #[.int .i64 (n : Int), .int .i64 (k : Int), .nilIface]) ∧ Below w.heap.size w w' := by
  go_enter Tryz.func103, Tryz.ntmps103
  go_wp2_with fail
  refine (vint_ok t most w ht h0 h1 n k hi).mono ?_
  rintro r w' ⟨rfl, rfl⟩
  go_wp2
  go_ret3
  exact ⟨rfl, Below.refl _ _⟩
set_option maxRecDepth 100000 in
theorem num1_bad (t : ByteArray) (M : Nat) (most : Int) (x : Nat) (w : World) (ht : t.size ≤ maxLen) (h0 : -9223372036854775808 ≤ most) (h1 : most ≤ 9223372036854775807) (hM : w.cell? ⟨M, 0, none⟩ = some (.int .i64 most)) (hi : intL t.data.toList most = (0, 0, x)) (hx : x ≠ 0) :
    Calls Tryz.prog 103 #[.string t, .pointer (some ⟨M, 0, none⟩)] w fun e w' => e = .returned (.tuple #[.int .i64 0, .int .i64 0, .iface 27 (.int .i64 (x : Int))]) ∧ Below w.heap.size w w' := by
  go_enter Tryz.func103, Tryz.ntmps103
  go_wp2_with fail
  refine (vint_bad t most w ht h0 h1 x hi hx).mono ?_
  rintro r w' ⟨rfl, rfl⟩
  go_wp2
  go_ret3
  exact ⟨rfl, Below.refl _ _⟩

set_option maxRecDepth 100000 in
set_option maxHeartbeats 1000000 in
theorem kind_any (t : ByteArray) (w : World) (ht : t.size ≤ maxLen) :
    Calls Tryz.prog 104 #[.string t] w fun e w' => e = .returned (.tuple #[.int .i64 ((kindF t.data.toList).1 : Nat), .int .i64 ((kindF t.data.toList).2.1 : Nat), errV (kindF t.data.toList).2.2]) ∧ Below w.heap.size w w' := by
  unfold maxLen at ht
  by_cases h0 : 0 < t.size
  · have hne : (t.toList == []) = false := by
      have h := bne_empty h0
      rw [bne] at h
      simpa using h
    obtain ⟨c, hc⟩ : ∃ c, t[0]'h0 = c := ⟨_, rfl⟩
    have hl : kindF t.data.toList = if c.toNat < 1 ∨ 4 < c.toNat then (0, 0, 1) else (c.toNat, 1, 0) := by
      have h1 : t.data.toList = c :: t.data.toList.drop 1 := by
        have h2 : 0 < t.data.toList.length := by rw [← size_data]; exact h0
        have h3 := List.drop_eq_getElem_cons h2
        rw [List.drop_zero] at h3
        have h4 : t.data.toList[0]'h2 = c := hc
        rw [h4] at h3
        exact h3
      rw [h1, kindF_cons]
    have HL := Lib.hid hl
    have d1 : (0 : Int) < (t.size : Int) := by omega
    clear hl
    by_cases h1 : c.toNat < 1
    · have HR : Hid (kindF t.data.toList = (0, 0, 1)) := Lib.hid (by rw [HL.out, if_pos (.inl h1)])
      have d2 : (c.toNat : Int) < 1 := by omega
      go_enter Tryz.func104, Tryz.ntmps104
      go_wp2
      go_ret3
      rw [HR.out]
      exact ⟨rfl, Below.refl _ _⟩
    · by_cases h4 : 4 < c.toNat
      · have HR : Hid (kindF t.data.toList = (0, 0, 1)) := Lib.hid (by rw [HL.out, if_pos (.inr h4)])
        have d2 : 1 ≤ (c.toNat : Int) := by omega
        have d3 : 4 < (c.toNat : Int) := by omega
        go_enter Tryz.func104, Tryz.ntmps104
        go_wp2
        go_ret3
        rw [HR.out]
        exact ⟨rfl, Below.refl _ _⟩
      · have HR : Hid (kindF t.data.toList = (c.toNat, 1, 0)) := Lib.hid (by rw [HL.out, if_neg (by omega)])
        have d2 : 1 ≤ (c.toNat : Int) := by omega
        have d3 : (c.toNat : Int) ≤ 4 := by omega
        go_enter Tryz.func104, Tryz.ntmps104
        go_wp2
        go_ret3
        rw [HR.out]
        exact ⟨rfl, Below.refl _ _⟩
  · obtain rfl := empty_of h0
    go_enter Tryz.func104, Tryz.ntmps104
    go_wp2
    go_ret3
    exact ⟨rfl, Below.refl _ _⟩
theorem kind_ok (t : ByteArray) (n k : Nat) (w : World) (ht : t.size ≤ maxLen) (hi : kindF t.data.toList = (n, k, 0)) :
    Calls Tryz.prog 104 #[.string t] w fun e w' => e = .returned (.tuple #[.int .i64 (n : Int), .int .i64 (k : Int), .nilIface]) ∧ Below w.heap.size w w' :=
  (kind_any t w ht).mono fun e w' ⟨h1, h2⟩ => ⟨by rw [h1, hi]; rfl, h2⟩
theorem kind_bad (t : ByteArray) (x : Nat) (w : World) (ht : t.size ≤ maxLen) (hi : kindF t.data.toList = (0, 0, x)) (hx : x ≠ 0) :
    Calls Tryz.prog 104 #[.string t] w fun e w' => e = .returned (.tuple #[.int .i64 0, .int .i64 0, .iface 27 (.int .i64 (x : Int))]) ∧ Below w.heap.size w w' :=
  (kind_any t w ht).mono fun e w' ⟨h1, h2⟩ => ⟨by rw [h1, hi]; simp only; rw [errV_bad hx]; rfl, h2⟩
theorem text_ok (s : ByteArray) (t : List UInt8) (k : Nat) (w : World) (hs : s.size ≤ 1000000) (hi : getS s.data.toList = (t, k, 0)) :
    Calls Tryz.prog 101 #[.string s] w fun e w' => e = .returned (.tuple #[.string ⟨t.toArray⟩, .int .i64 (k : Int), .nilIface]) ∧ Below w.heap.size w w' :=
  (sget_any s w (by omega)).mono fun e w' ⟨h1, h2⟩ => ⟨by rw [h1, hi]; rfl, h2⟩
theorem text_bad (s : ByteArray) (x : Nat) (w : World) (hs : s.size ≤ 1000000) (hi : getS s.data.toList = ([], 0, x)) (hx : x ≠ 0) :
    Calls Tryz.prog 101 #[.string s] w fun e w' => e = .returned (.tuple #[.string ⟨#[]⟩, .int .i64 0, .iface 27 (.int .i64 (x : Int))]) ∧ Below w.heap.size w w' :=
  (sget_any s w (by omega)).mono fun e w' ⟨h1, h2⟩ => ⟨by rw [h1, hi]; unfold spanV; simp only; rw [errV_bad hx]; rfl, h2⟩
theorem ents_ok (s : ByteArray) (l : List Ent) (k : Nat) (w : World) (hs : s.size ≤ 1000000) (hg : errT w) (hi : vreadF s.data.toList = (0, k, l)) :
    Calls Tryz.prog 71 #[.string s] w fun e w' => ∃ ad cc, e = .returned (.tuple #[.slice ad l.length cc, .int .i64 (k : Int), .nilIface]) ∧ ownsE w' w.heap.size (.slice ad l.length cc) l ∧ Below w.heap.size w w' :=
  (vread_any s w hs hg).mono fun e w' ⟨v, h1, h2, h3⟩ => by
    rw [hi] at h1 h2
    obtain ⟨ad, cc, rfl, _⟩ := h2.is.form
    exact ⟨ad, cc, h1, h2, h3⟩
theorem ents_bad (s : ByteArray) (x : Nat) (w : World) (hs : s.size ≤ 1000000) (hg : errT w) (hi : vreadF s.data.toList = (x, 0, [])) (hx : x ≠ 0) :
    Calls Tryz.prog 71 #[.string s] w fun e w' => ∃ ad cc, e = .returned (.tuple #[.slice ad 0 cc, .int .i64 0, .iface 27 (.int .i64 (x : Int))]) ∧ ownsE w' w.heap.size (.slice ad 0 cc) [] ∧ Below w.heap.size w w' :=
  (vread_any s w hs hg).mono fun e w' ⟨v, h1, h2, h3⟩ => by
    rw [hi] at h1 h2
    simp only at h1
    rw [noV_e hx] at h1
    obtain ⟨ad, cc, rfl, _⟩ := h2.is.form
    exact ⟨ad, cc, h1, h2, h3⟩
theorem ownE_set {w1 : World} {B R : Nat} {v x : Value} {l : List Ent} (h : ownsE w1 B v l) (hR : R < B) : ownsE (w1.setCell ⟨R, 1, none⟩ x) B v l := by
  refine World.ownsRow.kept h (row := some R) ⟨rfl, rfl, rfl, by simp, fun k hk hne => ?_⟩ (.inr (fun e => ?_))
  · have hk2 : R ≠ k := fun e => hne (by rw [e])
    simp only [World.setCell, Array.getElem?_modify, if_neg hk2]
  · have := (h.lt R e).1; omega
-- gen

set_option maxRecDepth 100000 in
set_option maxHeartbeats 2000000 in
theorem getnum_ok (R : Nat) (s : ByteArray) (a n k : Nat) (M : Nat) (most : Int) (w : World) (h : Rd w R s a) (hg : errT w) (hs : s.size ≤ 1000000) (ha : a ≤ s.size) (h0 : -9223372036854775808 ≤ most) (h1 : most ≤ 9223372036854775807) (hM : w.cell? ⟨M, 0, none⟩ = some (.int .i64 most)) (hgv : intL (s.data.toList.drop a) most = (n, k, 0)) (hk : k ≤ 1000000) :
    Calls Tryz.prog 102 #[.pointer (some ⟨R, 0, none⟩), .func (.func 103) #[] #[.pointer (some ⟨M, 0, none⟩)]] w fun e w' => e = .returned (.int .i64 (n : Int)) ∧ Rd w' R s (a + k) ∧ w.grownBy w' (some R) := by
  have H := Lib.hid h
  have HG0 := Lib.hid hg
  obtain ⟨c0, c1, z1, hR⟩ := h.cells
  have HES : (s.extract a s.size).data.toList = s.data.toList.drop a := ext_dropV s a
  have HSZ : Hid ((s.extract a s.size).size ≤ 1000000) := Lib.hid (Nat.le_trans ext_le hs)
  have HM : Hid ((s.extract a s.size).size ≤ maxLen) := Lib.hid (by have := HSZ.out; unfold maxLen; omega)
  have HGL : Hid (intL (s.extract a s.size).data.toList most = (n, k, 0)) := Lib.hid (show intL (s.extract a s.size).data.toList most = (n, k, 0) by rw [HES, hgv])
  have HMC : Hid (w.drew.cell? ⟨M, 0, none⟩ = some (.int .i64 most)) := Lib.hid hM
  have H0 : Hid (-9223372036854775808 ≤ most) := Lib.hid h0
  have H1_ : Hid (most ≤ 9223372036854775807) := Lib.hid h1
  have d3 : (0 : Int) ≤ (a : Int) := by omega
  have d4 : (a : Int) ≤ (s.size : Int) := by omega
  have kw : IntKind.i64.wrap ((a : Int) + (k : Int)) = ((a + k : Nat) : Int) := by rw [show ((a + k : Nat) : Int) = (a : Int) + (k : Int) by simp]; exact IntWalk.i64_in _ (by omega)
  have HB0 : Hid (Below w.heap.size w w.drew) := Lib.hid (Below.refl _ _).drew
  have HZ : Hid (R < w.heap.size) := Lib.hid hR
  clear h hg hgv HES h0 h1 hM
  go_enter Tryz.func102, Tryz.ntmps102
  go_wp2
  go_region_held3 (fun w' => w'.cell? ⟨R, 0, none⟩ = some (.string s) ∧ w'.cell? ⟨R, 1, none⟩ = some (.int .i64 (a : Int))) (first | exact ⟨c0, c1⟩ | exact ⟨k0, k1⟩ | fail) (first
    | (go_at_call 103; ((with_reducible refine (num1_ok (s.extract a s.size) M most n k w.drew HM.out H0.out H1_.out HMC.out HGL.out).mono ?_); rintro r w1 ⟨rfl, hb1⟩; have HB1 : Hid (Below w.heap.size w w1) := Lib.hid (undrew3 hb1); obtain ⟨k0, k1, _, _⟩ := (H.out.below HB1.out).cells; clear hb1))
    | fail)
  clear c0 c1
  have H1 := Lib.hid (H.out.below HB1.out)
  obtain ⟨_, k1', z1', _⟩ := H1.out.cells
  go_wp2_with fail
  refine (check_nil R w1).mono ?_
  rintro r w' ⟨rfl, rfl⟩
  go_wp2
  go_ret
  exact ⟨rfl, H1.out.moved, grownR HB1.out _⟩

set_option maxRecDepth 100000 in
set_option maxHeartbeats 2000000 in
theorem getnum_bad (R : Nat) (s : ByteArray) (a x k : Nat) (M : Nat) (most : Int) (w : World) (h : Rd w R s a) (hg : errT w) (hs : s.size ≤ 1000000) (ha : a ≤ s.size) (h0 : -9223372036854775808 ≤ most) (h1 : most ≤ 9223372036854775807) (hM : w.cell? ⟨M, 0, none⟩ = some (.int .i64 most)) (hgv : intL (s.data.toList.drop a) most = (0, k, x)) (hk0 : k = 0) (hx : x ≠ 0) :
    Calls Tryz.prog 102 #[.pointer (some ⟨R, 0, none⟩), .func (.func 103) #[] #[.pointer (some ⟨M, 0, none⟩)]] w fun e w' => Thrown (x, (a : Int)) e w' ∧ w.grownBy w' (some R) := by
  have H := Lib.hid h
  have HG0 := Lib.hid hg
  obtain ⟨c0, c1, z1, hR⟩ := h.cells
  have HES : (s.extract a s.size).data.toList = s.data.toList.drop a := ext_dropV s a
  have HSZ : Hid ((s.extract a s.size).size ≤ 1000000) := Lib.hid (Nat.le_trans ext_le hs)
  have HM : Hid ((s.extract a s.size).size ≤ maxLen) := Lib.hid (by have := HSZ.out; unfold maxLen; omega)
  subst hk0
  have HGL : Hid (intL (s.extract a s.size).data.toList most = (0, 0, x)) := Lib.hid (show intL (s.extract a s.size).data.toList most = (0, 0, x) by rw [HES, hgv])
  have HMC : Hid (w.drew.cell? ⟨M, 0, none⟩ = some (.int .i64 most)) := Lib.hid hM
  have H0 : Hid (-9223372036854775808 ≤ most) := Lib.hid h0
  have H1_ : Hid (most ≤ 9223372036854775807) := Lib.hid h1
  have d3 : (0 : Int) ≤ (a : Int) := by omega
  have d4 : (a : Int) ≤ (s.size : Int) := by omega
  have HB0 : Hid (Below w.heap.size w w.drew) := Lib.hid (Below.refl _ _).drew
  have HZ : Hid (R < w.heap.size) := Lib.hid hR
  clear h hg hgv HES h0 h1 hM
  go_enter Tryz.func102, Tryz.ntmps102
  go_wp2
  go_region_held3 (fun w' => w'.cell? ⟨R, 0, none⟩ = some (.string s) ∧ w'.cell? ⟨R, 1, none⟩ = some (.int .i64 (a : Int))) (first | exact ⟨c0, c1⟩ | exact ⟨k0, k1⟩ | fail) (first
    | (go_at_call 103; ((with_reducible refine (num1_bad (s.extract a s.size) M most x w.drew HM.out H0.out H1_.out HMC.out HGL.out hx).mono ?_); rintro r w1 ⟨rfl, hb1⟩; have HB1 : Hid (Below w.heap.size w w1) := Lib.hid (undrew3 hb1); obtain ⟨k0, k1, _, _⟩ := (H.out.below HB1.out).cells; clear hb1))
    | fail)
  clear c0 c1
  have H1 := Lib.hid (H.out.below HB1.out)
  go_wp2_with fail
  refine (check_err R s a _ x w1 H1.out (HG0.out.below HB1.out) (.inl rfl) hx).mono ?_
  rintro r w2 ⟨⟨t, u, rfl, hne, ha⟩, hb2⟩
  have HB2 : Hid (Below w.heap.size w w2) := HB1.out.trans (hb2.mono HB1.out.size)
  exact And.intro rfl ⟨⟨t, u, rfl, hne, ha⟩, grownB HB2.out⟩

set_option maxRecDepth 100000 in
set_option maxHeartbeats 2000000 in
theorem getkind_ok (R : Nat) (s : ByteArray) (a n k : Nat)  (w : World) (h : Rd w R s a) (hg : errT w) (hs : s.size ≤ 1000000) (ha : a ≤ s.size) (hgv : kindF (s.data.toList.drop a) = (n, k, 0)) (hk : k ≤ 1000000) :
    Calls Tryz.prog 102 #[.pointer (some ⟨R, 0, none⟩), .func (.func 104) #[] #[]] w fun e w' => e = .returned (.int .i64 (n : Int)) ∧ Rd w' R s (a + k) ∧ w.grownBy w' (some R) := by
  have H := Lib.hid h
  have HG0 := Lib.hid hg
  obtain ⟨c0, c1, z1, hR⟩ := h.cells
  have HES : (s.extract a s.size).data.toList = s.data.toList.drop a := ext_dropV s a
  have HSZ : Hid ((s.extract a s.size).size ≤ 1000000) := Lib.hid (Nat.le_trans ext_le hs)
  have HM : Hid ((s.extract a s.size).size ≤ maxLen) := Lib.hid (by have := HSZ.out; unfold maxLen; omega)
  have HGL : Hid (kindF (s.extract a s.size).data.toList = (n, k, 0)) := Lib.hid (show kindF (s.extract a s.size).data.toList = (n, k, 0) by rw [HES, hgv])
  have d3 : (0 : Int) ≤ (a : Int) := by omega
  have d4 : (a : Int) ≤ (s.size : Int) := by omega
  have kw : IntKind.i64.wrap ((a : Int) + (k : Int)) = ((a + k : Nat) : Int) := by rw [show ((a + k : Nat) : Int) = (a : Int) + (k : Int) by simp]; exact IntWalk.i64_in _ (by omega)
  have HB0 : Hid (Below w.heap.size w w.drew) := Lib.hid (Below.refl _ _).drew
  have HZ : Hid (R < w.heap.size) := Lib.hid hR
  clear h hg hgv HES
  go_enter Tryz.func102, Tryz.ntmps102
  go_wp2
  go_region_held3 (fun w' => w'.cell? ⟨R, 0, none⟩ = some (.string s) ∧ w'.cell? ⟨R, 1, none⟩ = some (.int .i64 (a : Int))) (first | exact ⟨c0, c1⟩ | exact ⟨k0, k1⟩ | fail) (first
    | (go_at_call 104; ((with_reducible refine (kind_ok (s.extract a s.size) n k w.drew HM.out HGL.out).mono ?_); rintro r w1 ⟨rfl, hb1⟩; have HB1 : Hid (Below w.heap.size w w1) := Lib.hid (undrew3 hb1); obtain ⟨k0, k1, _, _⟩ := (H.out.below HB1.out).cells; clear hb1))
    | fail)
  clear c0 c1
  have H1 := Lib.hid (H.out.below HB1.out)
  obtain ⟨_, k1', z1', _⟩ := H1.out.cells
  go_wp2_with fail
  refine (check_nil R w1).mono ?_
  rintro r w' ⟨rfl, rfl⟩
  go_wp2
  go_ret
  exact ⟨rfl, H1.out.moved, grownR HB1.out _⟩

set_option maxRecDepth 100000 in
set_option maxHeartbeats 2000000 in
theorem getkind_bad (R : Nat) (s : ByteArray) (a x k : Nat)  (w : World) (h : Rd w R s a) (hg : errT w) (hs : s.size ≤ 1000000) (ha : a ≤ s.size) (hgv : kindF (s.data.toList.drop a) = (0, k, x)) (hk0 : k = 0) (hx : x ≠ 0) :
    Calls Tryz.prog 102 #[.pointer (some ⟨R, 0, none⟩), .func (.func 104) #[] #[]] w fun e w' => Thrown (x, (a : Int)) e w' ∧ w.grownBy w' (some R) := by
  have H := Lib.hid h
  have HG0 := Lib.hid hg
  obtain ⟨c0, c1, z1, hR⟩ := h.cells
  have HES : (s.extract a s.size).data.toList = s.data.toList.drop a := ext_dropV s a
  have HSZ : Hid ((s.extract a s.size).size ≤ 1000000) := Lib.hid (Nat.le_trans ext_le hs)
  have HM : Hid ((s.extract a s.size).size ≤ maxLen) := Lib.hid (by have := HSZ.out; unfold maxLen; omega)
  subst hk0
  have HGL : Hid (kindF (s.extract a s.size).data.toList = (0, 0, x)) := Lib.hid (show kindF (s.extract a s.size).data.toList = (0, 0, x) by rw [HES, hgv])
  have d3 : (0 : Int) ≤ (a : Int) := by omega
  have d4 : (a : Int) ≤ (s.size : Int) := by omega
  have HB0 : Hid (Below w.heap.size w w.drew) := Lib.hid (Below.refl _ _).drew
  have HZ : Hid (R < w.heap.size) := Lib.hid hR
  clear h hg hgv HES
  go_enter Tryz.func102, Tryz.ntmps102
  go_wp2
  go_region_held3 (fun w' => w'.cell? ⟨R, 0, none⟩ = some (.string s) ∧ w'.cell? ⟨R, 1, none⟩ = some (.int .i64 (a : Int))) (first | exact ⟨c0, c1⟩ | exact ⟨k0, k1⟩ | fail) (first
    | (go_at_call 104; ((with_reducible refine (kind_bad (s.extract a s.size) x w.drew HM.out HGL.out hx).mono ?_); rintro r w1 ⟨rfl, hb1⟩; have HB1 : Hid (Below w.heap.size w w1) := Lib.hid (undrew3 hb1); obtain ⟨k0, k1, _, _⟩ := (H.out.below HB1.out).cells; clear hb1))
    | fail)
  clear c0 c1
  have H1 := Lib.hid (H.out.below HB1.out)
  go_wp2_with fail
  refine (check_err R s a _ x w1 H1.out (HG0.out.below HB1.out) (.inl rfl) hx).mono ?_
  rintro r w2 ⟨⟨t, u, rfl, hne, ha⟩, hb2⟩
  have HB2 : Hid (Below w.heap.size w w2) := HB1.out.trans (hb2.mono HB1.out.size)
  exact And.intro rfl ⟨⟨t, u, rfl, hne, ha⟩, grownB HB2.out⟩

set_option maxRecDepth 100000 in
set_option maxHeartbeats 2000000 in
theorem gettext_ok (R : Nat) (s : ByteArray) (a n k : Nat) (t : List UInt8) (w : World) (h : Rd w R s a) (hg : errT w) (hs : s.size ≤ 1000000) (ha : a ≤ s.size) (hgv : getS (s.data.toList.drop a) = (t, k, 0)) (hk : k ≤ 1000000) (_ : n = 0) :
    Calls Tryz.prog 100 #[.pointer (some ⟨R, 0, none⟩), .func (.func 101) #[] #[]] w fun e w' => e = .returned (.string ⟨t.toArray⟩) ∧ Rd w' R s (a + k) ∧ w.grownBy w' (some R) := by
  have H := Lib.hid h
  have HG0 := Lib.hid hg
  obtain ⟨c0, c1, z1, hR⟩ := h.cells
  have HES : (s.extract a s.size).data.toList = s.data.toList.drop a := ext_dropV s a
  have HSZ : Hid ((s.extract a s.size).size ≤ 1000000) := Lib.hid (Nat.le_trans ext_le hs)
  have HM : Hid ((s.extract a s.size).size ≤ maxLen) := Lib.hid (by have := HSZ.out; unfold maxLen; omega)
  have HGL : Hid (getS (s.extract a s.size).data.toList = (t, k, 0)) := Lib.hid (show getS (s.extract a s.size).data.toList = (t, k, 0) by rw [HES, hgv])
  have d3 : (0 : Int) ≤ (a : Int) := by omega
  have d4 : (a : Int) ≤ (s.size : Int) := by omega
  have kw : IntKind.i64.wrap ((a : Int) + (k : Int)) = ((a + k : Nat) : Int) := by rw [show ((a + k : Nat) : Int) = (a : Int) + (k : Int) by simp]; exact IntWalk.i64_in _ (by omega)
  have HB0 : Hid (Below w.heap.size w w.drew) := Lib.hid (Below.refl _ _).drew
  have HZ : Hid (R < w.heap.size) := Lib.hid hR
  clear h hg hgv HES
  go_enter Tryz.func100, Tryz.ntmps100
  go_wp2
  go_region_held3 (fun w' => w'.cell? ⟨R, 0, none⟩ = some (.string s) ∧ w'.cell? ⟨R, 1, none⟩ = some (.int .i64 (a : Int))) (first | exact ⟨c0, c1⟩ | exact ⟨k0, k1⟩ | fail) (first
    | (go_at_call 101; ((with_reducible refine (text_ok (s.extract a s.size) t k w.drew HSZ.out HGL.out).mono ?_); rintro r w1 ⟨rfl, hb1⟩; have HB1 : Hid (Below w.heap.size w w1) := Lib.hid (undrew3 hb1); obtain ⟨k0, k1, _, _⟩ := (H.out.below HB1.out).cells; clear hb1))
    | fail)
  clear c0 c1
  have H1 := Lib.hid (H.out.below HB1.out)
  obtain ⟨_, k1', z1', _⟩ := H1.out.cells
  go_wp2_with fail
  refine (check_nil R w1).mono ?_
  rintro r w' ⟨rfl, rfl⟩
  go_wp2
  go_ret
  exact ⟨rfl, H1.out.moved, grownR HB1.out _⟩

set_option maxRecDepth 100000 in
set_option maxHeartbeats 2000000 in
theorem gettext_bad (R : Nat) (s : ByteArray) (a x k : Nat) (t : List UInt8) (w : World) (h : Rd w R s a) (hg : errT w) (hs : s.size ≤ 1000000) (ha : a ≤ s.size) (hgv : getS (s.data.toList.drop a) = ([], k, x)) (hk0 : k = 0) (hx : x ≠ 0) (_ : t = []) :
    Calls Tryz.prog 100 #[.pointer (some ⟨R, 0, none⟩), .func (.func 101) #[] #[]] w fun e w' => Thrown (x, (a : Int)) e w' ∧ w.grownBy w' (some R) := by
  have H := Lib.hid h
  have HG0 := Lib.hid hg
  obtain ⟨c0, c1, z1, hR⟩ := h.cells
  have HES : (s.extract a s.size).data.toList = s.data.toList.drop a := ext_dropV s a
  have HSZ : Hid ((s.extract a s.size).size ≤ 1000000) := Lib.hid (Nat.le_trans ext_le hs)
  have HM : Hid ((s.extract a s.size).size ≤ maxLen) := Lib.hid (by have := HSZ.out; unfold maxLen; omega)
  subst hk0
  have HGL : Hid (getS (s.extract a s.size).data.toList = ([], 0, x)) := Lib.hid (show getS (s.extract a s.size).data.toList = ([], 0, x) by rw [HES, hgv])
  have d3 : (0 : Int) ≤ (a : Int) := by omega
  have d4 : (a : Int) ≤ (s.size : Int) := by omega
  have HB0 : Hid (Below w.heap.size w w.drew) := Lib.hid (Below.refl _ _).drew
  have HZ : Hid (R < w.heap.size) := Lib.hid hR
  clear h hg hgv HES
  go_enter Tryz.func100, Tryz.ntmps100
  go_wp2
  go_region_held3 (fun w' => w'.cell? ⟨R, 0, none⟩ = some (.string s) ∧ w'.cell? ⟨R, 1, none⟩ = some (.int .i64 (a : Int))) (first | exact ⟨c0, c1⟩ | exact ⟨k0, k1⟩ | fail) (first
    | (go_at_call 101; ((with_reducible refine (text_bad (s.extract a s.size) x w.drew HSZ.out HGL.out hx).mono ?_); rintro r w1 ⟨rfl, hb1⟩; have HB1 : Hid (Below w.heap.size w w1) := Lib.hid (undrew3 hb1); obtain ⟨k0, k1, _, _⟩ := (H.out.below HB1.out).cells; clear hb1))
    | fail)
  clear c0 c1
  have H1 := Lib.hid (H.out.below HB1.out)
  go_wp2_with fail
  refine (check_err R s a _ x w1 H1.out (HG0.out.below HB1.out) (.inl rfl) hx).mono ?_
  rintro r w2 ⟨⟨t, u, rfl, hne, ha⟩, hb2⟩
  have HB2 : Hid (Below w.heap.size w w2) := HB1.out.trans (hb2.mono HB1.out.size)
  exact And.intro rfl ⟨⟨t, u, rfl, hne, ha⟩, grownB HB2.out⟩

set_option maxRecDepth 100000 in
set_option maxHeartbeats 2000000 in
theorem getents_ok (R : Nat) (s : ByteArray) (a n k : Nat) (l : List Ent) (w : World) (h : Rd w R s a) (hg : errT w) (hs : s.size ≤ 1000000) (ha : a ≤ s.size) (hgv : vreadF (s.data.toList.drop a) = (0, k, l)) (hk : k ≤ 1000000) (_ : n = 0) :
    Calls Tryz.prog 70 #[.pointer (some ⟨R, 0, none⟩), .func (.func 71) #[] #[]] w fun e w' => ∃ v, e = .returned v ∧ ownsE w' w.heap.size v l ∧ Rd w' R s (a + k) ∧ w.grownBy w' (some R) := by
  have H := Lib.hid h
  have HG0 := Lib.hid hg
  obtain ⟨c0, c1, z1, hR⟩ := h.cells
  have HES : (s.extract a s.size).data.toList = s.data.toList.drop a := ext_dropV s a
  have HSZ : Hid ((s.extract a s.size).size ≤ 1000000) := Lib.hid (Nat.le_trans ext_le hs)
  have HM : Hid ((s.extract a s.size).size ≤ maxLen) := Lib.hid (by have := HSZ.out; unfold maxLen; omega)
  have HGL : Hid (vreadF (s.extract a s.size).data.toList = (0, k, l)) := Lib.hid (show vreadF (s.extract a s.size).data.toList = (0, k, l) by rw [HES, hgv])
  have HGD : Hid (errT w.drew) := Lib.hid hg
  have d3 : (0 : Int) ≤ (a : Int) := by omega
  have d4 : (a : Int) ≤ (s.size : Int) := by omega
  have kw : IntKind.i64.wrap ((a : Int) + (k : Int)) = ((a + k : Nat) : Int) := by rw [show ((a + k : Nat) : Int) = (a : Int) + (k : Int) by simp]; exact IntWalk.i64_in _ (by omega)
  have HB0 : Hid (Below w.heap.size w w.drew) := Lib.hid (Below.refl _ _).drew
  have HZ : Hid (R < w.heap.size) := Lib.hid hR
  clear h hg hgv HES
  go_enter Tryz.func70, Tryz.ntmps70
  go_wp2
  go_region_held3 (fun w' => w'.cell? ⟨R, 0, none⟩ = some (.string s) ∧ w'.cell? ⟨R, 1, none⟩ = some (.int .i64 (a : Int))) (first | exact ⟨c0, c1⟩ | exact ⟨k0, k1⟩ | fail) (first
    | (go_at_call 71; ((with_reducible refine (ents_ok (s.extract a s.size) l k w.drew HSZ.out HGD.out HGL.out).mono ?_); rintro r w1 ⟨ad, cc, rfl, hown, hb1⟩; have HB1 : Hid (Below w.heap.size w w1) := Lib.hid (undrew3 hb1); obtain ⟨k0, k1, _, _⟩ := (H.out.below HB1.out).cells; have HO := Lib.hid hown; clear hown; clear hb1))
    | fail)
  clear c0 c1
  have H1 := Lib.hid (H.out.below HB1.out)
  obtain ⟨_, k1', z1', _⟩ := H1.out.cells
  go_wp2_with fail
  refine (check_nil R w1).mono ?_
  rintro r w' ⟨rfl, rfl⟩
  go_wp2
  go_ret
  exact ⟨_, rfl, ownE_set HO.out HZ.out, H1.out.moved, grownR HB1.out _⟩

set_option maxRecDepth 100000 in
set_option maxHeartbeats 2000000 in
theorem getents_bad (R : Nat) (s : ByteArray) (a x k : Nat) (l : List Ent) (w : World) (h : Rd w R s a) (hg : errT w) (hs : s.size ≤ 1000000) (ha : a ≤ s.size) (hgv : vreadF (s.data.toList.drop a) = (x, k, [])) (hk0 : k = 0) (hx : x ≠ 0) (_ : l = []) :
    Calls Tryz.prog 70 #[.pointer (some ⟨R, 0, none⟩), .func (.func 71) #[] #[]] w fun e w' => Thrown (x, (a : Int)) e w' ∧ w.grownBy w' (some R) := by
  have H := Lib.hid h
  have HG0 := Lib.hid hg
  obtain ⟨c0, c1, z1, hR⟩ := h.cells
  have HES : (s.extract a s.size).data.toList = s.data.toList.drop a := ext_dropV s a
  have HSZ : Hid ((s.extract a s.size).size ≤ 1000000) := Lib.hid (Nat.le_trans ext_le hs)
  have HM : Hid ((s.extract a s.size).size ≤ maxLen) := Lib.hid (by have := HSZ.out; unfold maxLen; omega)
  subst hk0
  have HGL : Hid (vreadF (s.extract a s.size).data.toList = (x, 0, [])) := Lib.hid (show vreadF (s.extract a s.size).data.toList = (x, 0, []) by rw [HES, hgv])
  have HGD : Hid (errT w.drew) := Lib.hid hg
  have d3 : (0 : Int) ≤ (a : Int) := by omega
  have d4 : (a : Int) ≤ (s.size : Int) := by omega
  have HB0 : Hid (Below w.heap.size w w.drew) := Lib.hid (Below.refl _ _).drew
  have HZ : Hid (R < w.heap.size) := Lib.hid hR
  clear h hg hgv HES
  go_enter Tryz.func70, Tryz.ntmps70
  go_wp2
  go_region_held3 (fun w' => w'.cell? ⟨R, 0, none⟩ = some (.string s) ∧ w'.cell? ⟨R, 1, none⟩ = some (.int .i64 (a : Int))) (first | exact ⟨c0, c1⟩ | exact ⟨k0, k1⟩ | fail) (first
    | (go_at_call 71; ((with_reducible refine (ents_bad (s.extract a s.size) x w.drew HSZ.out HGD.out HGL.out hx).mono ?_); rintro r w1 ⟨ad, cc, rfl, hown, hb1⟩; have HB1 : Hid (Below w.heap.size w w1) := Lib.hid (undrew3 hb1); obtain ⟨k0, k1, _, _⟩ := (H.out.below HB1.out).cells; have HO := Lib.hid hown; clear hown; clear hb1))
    | fail)
  clear c0 c1
  have H1 := Lib.hid (H.out.below HB1.out)
  go_wp2_with fail
  refine (check_err R s a _ x w1 H1.out (HG0.out.below HB1.out) (.inl rfl) hx).mono ?_
  rintro r w2 ⟨⟨t, u, rfl, hne, ha⟩, hb2⟩
  have HB2 : Hid (Below w.heap.size w w2) := HB1.out.trans (hb2.mono HB1.out.size)
  exact And.intro rfl ⟨⟨t, u, rfl, hne, ha⟩, grownB HB2.out⟩
end Go.Proofs.YtkafhlpnhgipeaaGreatDoor
/-
  The next number by its bound; a write, filled.
-/
namespace Go.Proofs.YtkafhlpnhgipeaaGreatDoor
open Go.RowKit

theorem grown_alloc {w w' : World} {o : Obj} {R : Nat} (h : (w.alloc o).grownBy w' (some R)) : w.grownBy w' (some R) :=
  ⟨h.os, h.tape, h.output, Nat.le_trans (by simp) h.size, fun k hk hne => (h.block k (by simp; omega) hne).trans (Below.heap_alloc _ _ _ hk)⟩
set_option maxRecDepth 100000 in
theorem number_ok (R : Nat) (s : ByteArray) (a n k : Nat) (most : Int) (w : World) (h : Rd w R s a) (hg : errT w) (hs : s.size ≤ 1000000) (ha : a ≤ s.size) (h0 : -9223372036854775808 ≤ most) (h1 : most ≤ 9223372036854775807) (hgv : intL (s.data.toList.drop a) most = (n, k, 0)) (hk : k ≤ 1000000) :
    Calls Tryz.prog 73 #[.pointer (some ⟨R, 0, none⟩), .int .i64 most] w fun e w' => e = .returned (.int .i64 (n : Int)) ∧ Rd w' R s (a + k) ∧ w.grownBy w' (some R) := by
  have hmf : ∀ (fn : Fn) (first cap : Array Value) (w : World), (Instr.makeFunc fn first cap).run Tryz.prog w = .ok (.func fn first cap) w := fun _ _ _ _ => rfl
  have H := Lib.hid (h.below ((Below.refl _ _).alloc (Nat.le_refl _) (.cells #[.int .i64 most] 3)))
  have HG := Lib.hid (hg.alloc (.cells #[.int .i64 most] 3))
  have HGV := Lib.hid hgv
  have H0 := Lib.hid h0
  have H1 := Lib.hid h1
  clear h hg hgv h0 h1
  go_enter Tryz.func73, Tryz.ntmps73
  go_wp2_with fail
  refine (getnum_ok R s a n k w.heap.size most _ H.out HG.out hs ha H0.out H1.out (by simp) HGV.out hk).mono ?_
  rintro r w1 ⟨rfl, hr1, hg1⟩
  have HR1 := Lib.hid hr1
  have HG1 := Lib.hid (grown_alloc hg1)
  clear hr1 hg1
  go_wp2
  go_ret
  exact ⟨rfl, HR1.out, HG1.out⟩
set_option maxRecDepth 100000 in
theorem number_bad (R : Nat) (s : ByteArray) (a x : Nat) (most : Int) (w : World) (h : Rd w R s a) (hg : errT w) (hs : s.size ≤ 1000000) (ha : a ≤ s.size) (h0 : -9223372036854775808 ≤ most) (h1 : most ≤ 9223372036854775807) (hgv : intL (s.data.toList.drop a) most = (0, 0, x)) (hx : x ≠ 0) :
    Calls Tryz.prog 73 #[.pointer (some ⟨R, 0, none⟩), .int .i64 most] w fun e w' => Thrown (x, (a : Int)) e w' ∧ w.grownBy w' (some R) := by
  have hmf : ∀ (fn : Fn) (first cap : Array Value) (w : World), (Instr.makeFunc fn first cap).run Tryz.prog w = .ok (.func fn first cap) w := fun _ _ _ _ => rfl
  have H := Lib.hid (h.below ((Below.refl _ _).alloc (Nat.le_refl _) (.cells #[.int .i64 most] 3)))
  have HG := Lib.hid (hg.alloc (.cells #[.int .i64 most] 3))
  have HGV := Lib.hid hgv
  have H0 := Lib.hid h0
  have H1 := Lib.hid h1
  clear h hg hgv h0 h1
  go_enter Tryz.func73, Tryz.ntmps73
  go_wp2_with fail
  refine (getnum_bad R s a x 0 w.heap.size most _ H.out HG.out hs ha H0.out H1.out (by simp) HGV.out rfl hx).mono ?_
  rintro r w1 ⟨⟨t, u, rfl, hne, ha⟩, hg1⟩
  exact And.intro rfl ⟨⟨t, u, rfl, hne, ha⟩, grown_alloc hg1⟩

/-- The write that a closure holds, filled. -/
theorem zeroW_is : zeroW = .agg #[.int .i64 0, .int .i64 0, .int .i64 0, .string ⟨#[]⟩, .string ⟨#[]⟩, .int .i64 0] := rfl
theorem wfill_ok (T R K : Int) (key val : ByteArray) (N : Int) (s V : ByteArray) (N' : Int) (k : Nat) (w : World) (hk : key.size ≤ 140737488351232) (hs : s.size ≤ 140737488351232) (h0 : fillE T R K key s.data.toList = 0) (hV : fillV K s.data.toList = V) (hN : (getN K s.data.toList).1 = N') (hn : fillN K s.data.toList = k) :
    Calls Tryz.prog 107 #[.agg #[.int .i64 T, .int .i64 R, .int .i64 K, .string key, .string val, .int .i64 N], .string s] w fun e w' => e = .returned (.tuple #[.agg #[.int .i64 T, .int .i64 R, .int .i64 K, .string key, .string V, .int .i64 N'], .int .i64 (k : Int), .nilIface]) ∧ Below w.heap.size w w' := by
  refine (wfill_any T R K key val N s w hk hs).mono ?_
  rintro e w' ⟨⟨r, rfl, hr⟩, hb⟩
  refine ⟨?_, hb⟩
  rcases hr with ⟨h1, _⟩ | ⟨_, h2⟩
  · exact absurd h0 h1
  · rw [h2, ← hV, ← hN, ← hn]; rfl
theorem wfill_bad (T R K : Int) (key val : ByteArray) (N : Int) (s : ByteArray) (x : Nat) (w : World) (hk : key.size ≤ 140737488351232) (hs : s.size ≤ 140737488351232) (h0 : fillE T R K key s.data.toList = x) (hx : x ≠ 0) :
    Calls Tryz.prog 107 #[.agg #[.int .i64 T, .int .i64 R, .int .i64 K, .string key, .string val, .int .i64 N], .string s] w fun e w' => e = .returned (.tuple #[.agg #[.int .i64 0, .int .i64 0, .int .i64 0, .string ⟨#[]⟩, .string ⟨#[]⟩, .int .i64 0], .int .i64 0, .iface 27 (.int .i64 (x : Int))]) ∧ Below w.heap.size w w' := by
  refine (wfill_any T R K key val N s w hk hs).mono ?_
  rintro e w' ⟨⟨r, rfl, hr⟩, hb⟩
  refine ⟨?_, hb⟩
  rcases hr with ⟨_, h2⟩ | ⟨h1, _⟩
  · rw [h2, h0, errV_bad hx]; rfl
  · exact absurd (h0.symm.trans h1) hx

set_option maxRecDepth 100000 in
set_option maxHeartbeats 1000000 in
theorem nx1_ok (T R K : Int) (key val : ByteArray) (N : Int) (s V : ByteArray) (N' : Int) (k Q : Nat) (w : World) (hQ : wrAt w Q T R K key val N) (hk : key.size ≤ 140737488351232) (hs : s.size ≤ 140737488351232) (h0 : fillE T R K key s.data.toList = 0) (hV : fillV K s.data.toList = V) (hN : (getN K s.data.toList).1 = N') (hn : fillN K s.data.toList = k) :
    Calls Tryz.prog 106 #[.string s, .pointer (some ⟨Q, 0, none⟩)] w fun e w' => e = .returned (.tuple #[.agg #[.int .i64 T, .int .i64 R, .int .i64 K, .string key, .string V, .int .i64 N'], .int .i64 (k : Int), .nilIface]) ∧ Below w.heap.size w w' := by
  obtain ⟨c0, c1, c2, c3, c4, c5⟩ := hQ.below ((Below.refl _ _).alloc (Nat.le_refl _) (.cells #[.int .i64 0, .int .i64 0, .int .i64 0, .string ⟨#[]⟩, .string ⟨#[]⟩, .int .i64 0] 46)) (lt_of_cell hQ.1)
  have H0 := Lib.hid h0
  have HV := Lib.hid hV
  have HN := Lib.hid hN
  have HK := Lib.hid hn
  clear h0 hV hN hn hQ
  go_enter Tryz.func106, Tryz.ntmps106
  go_wp2_with fail
  refine (wfill_ok T R K key val N s V N' k _ hk hs H0.out HV.out HN.out HK.out).mono ?_
  rintro r w1 ⟨rfl, hb1⟩
  have hq : w1.heap[w.heap.size]? = some (.cells #[.int .i64 0, .int .i64 0, .int .i64 0, .string ⟨#[]⟩, .string ⟨#[]⟩, .int .i64 0] 46 (0, 0)) := (hb1.block _ (by simp)).trans (heap_alloc_new w _)
  have HB1 : Hid (Below w.heap.size w w1) := Lib.hid (((Below.refl _ _).alloc (Nat.le_refl _) _).trans (hb1.mono (by simp)))
  have HQ := Lib.hid hq
  clear hb1 c0 c1 c2 c3 c4 c5
  have HI := Lib.hid (wr_sized (.int .i64 T) (.int .i64 R) (.int .i64 K) (.string key) (.string V) (.int .i64 N'))
  have HONE := Lib.hid (wr_ones T R K key V N')
  have HSAME := Lib.hid (wr_same T R K key V N')
  obtain ⟨e0, e1, e2, e3, e4, e5⟩ := row_at (row_set hq #[.int .i64 T, .int .i64 R, .int .i64 K, .string key, .string V, .int .i64 N'])
  clear hq
  go_wp2_with (with_reducible refine wpList_store_row rfl _ _ _ rfl _ _ rfl rfl _ _ HQ.out HI.out HSAME.out HONE.out ?_)
  refine bodyPost_ret (v := .tuple #[.agg #[.int .i64 T, .int .i64 R, .int .i64 K, .string key, .string V, .int .i64 N'], .int .i64 (k : Int), .nilIface]) (by simp [results, Tryz.results106, go_sem, e0, e1, e2, e3, e4, e5]) rfl ?_
  exact ⟨rfl, below_row HB1.out (Nat.le_refl _) _⟩

set_option maxRecDepth 100000 in
set_option maxHeartbeats 1000000 in
theorem nx1_bad (T R K : Int) (key val : ByteArray) (N : Int) (s : ByteArray) (x Q : Nat) (w : World) (hQ : wrAt w Q T R K key val N) (hk : key.size ≤ 140737488351232) (hs : s.size ≤ 140737488351232) (h0 : fillE T R K key s.data.toList = x) (hx : x ≠ 0) :
    Calls Tryz.prog 106 #[.string s, .pointer (some ⟨Q, 0, none⟩)] w fun e w' => e = .returned (.tuple #[.agg #[.int .i64 0, .int .i64 0, .int .i64 0, .string ⟨#[]⟩, .string ⟨#[]⟩, .int .i64 0], .int .i64 0, .iface 27 (.int .i64 (x : Int))]) ∧ Below w.heap.size w w' := by
  obtain ⟨c0, c1, c2, c3, c4, c5⟩ := hQ.below ((Below.refl _ _).alloc (Nat.le_refl _) (.cells #[.int .i64 0, .int .i64 0, .int .i64 0, .string ⟨#[]⟩, .string ⟨#[]⟩, .int .i64 0] 46)) (lt_of_cell hQ.1)
  have H0 := Lib.hid h0
  clear h0 hQ
  go_enter Tryz.func106, Tryz.ntmps106
  go_wp2_with fail
  refine (wfill_bad T R K key val N s x _ hk hs H0.out hx).mono ?_
  rintro r w1 ⟨rfl, hb1⟩
  have hq : w1.heap[w.heap.size]? = some (.cells #[.int .i64 0, .int .i64 0, .int .i64 0, .string ⟨#[]⟩, .string ⟨#[]⟩, .int .i64 0] 46 (0, 0)) := (hb1.block _ (by simp)).trans (heap_alloc_new w _)
  have HB1 : Hid (Below w.heap.size w w1) := Lib.hid (((Below.refl _ _).alloc (Nat.le_refl _) _).trans (hb1.mono (by simp)))
  have HQ := Lib.hid hq
  clear hb1 c0 c1 c2 c3 c4 c5
  have HI := Lib.hid (wr_sized (.int .i64 0) (.int .i64 0) (.int .i64 0) (.string ⟨#[]⟩) (.string ⟨#[]⟩) (.int .i64 0))
  have HONE := Lib.hid (wr_ones 0 0 0 ⟨#[]⟩ ⟨#[]⟩ 0)
  obtain ⟨e0, e1, e2, e3, e4, e5⟩ := row_at (row_set hq #[.int .i64 0, .int .i64 0, .int .i64 0, .string ⟨#[]⟩, .string ⟨#[]⟩, .int .i64 0])
  clear hq
  go_wp2_with (with_reducible refine wpList_store_row rfl _ _ _ rfl _ _ rfl rfl _ _ HQ.out HI.out rfl HONE.out ?_)
  refine bodyPost_ret (v := .tuple #[.agg #[.int .i64 0, .int .i64 0, .int .i64 0, .string ⟨#[]⟩, .string ⟨#[]⟩, .int .i64 0], .int .i64 0, .iface 27 (.int .i64 (x : Int))]) (by simp [results, Tryz.results106, go_sem, e0, e1, e2, e3, e4, e5]) rfl ?_
  exact ⟨rfl, below_row HB1.out (Nat.le_refl _) _⟩
end Go.Proofs.YtkafhlpnhgipeaaGreatDoor
/-
  The next texts, ahead of which stands how many there are.
-/
namespace Go.Proofs.YtkafhlpnhgipeaaGreatDoor
open Go.RowKit

theorem cell_grown {w w' : World} {row : Option Nat} (hg : w.grownBy w' row) {b o : Nat} (hb : b < w.heap.size) (hne : some b ≠ row) : w'.cell? ⟨b, o, none⟩ = w.cell? ⟨b, o, none⟩ := by
  simp only [World.cell?]; rw [hg.block b hb hne]
theorem errT.grownR {w w' : World} {R : Nat} {s : ByteArray} {a : Nat} (h : errT w) (hr : Rd w R s a) (hg : w.grownBy w' (some R)) : errT w' := by
  unfold errT at h ⊢
  rw [cell_grown hg (lt_of_cell h) (fun e => by
    have e2 := Option.some.inj e
    have h2 := hr.cells.1
    rw [← e2, h] at h2
    cases h2)]
  exact h
theorem Rd.grown {w w' : World} {R : Nat} {s : ByteArray} {a : Nat} {row : Option Nat} (h : Rd w R s a) (hg : w.grownBy w' row) (hne : some R ≠ row) : Rd w' R s a := (hg.block R h.cells.2.2.2 hne).trans h
theorem ownS_grown {w w' : World} {B R : Nat} {v : Value} {l : List ByteArray} (h : ownsS w B v l) (hR : R < B) (hg : w.grownBy w' (some R)) : ownsS w' B v l :=
  World.ownsRow.kept h hg (.inr (fun e => by have := (h.lt R e).1; omega))

/-- The texts that stand at a place, how many ahead of them. -/
def unTx (s : List UInt8) (a : Nat) : (Nat × Nat) ⊕ (Nat × List ByteArray) :=
  if (intL (s.drop a) 60).2.2 ≠ 0 then .inl ((intL (s.drop a) 60).2.2, a) else unT s (intL (s.drop a) 60).1 (a + (intL (s.drop a) 60).2.1) []
theorem unTx_bad {s : List UInt8} {a k j e : Nat} (h : intL (s.drop a) 60 = (k, j, e)) (he : e ≠ 0) : unTx s a = .inl (e, a) := by unfold unTx; rw [h, if_pos he]
theorem unTx_ok {s : List UInt8} {a k j : Nat} (h : intL (s.drop a) 60 = (k, j, 0)) : unTx s a = unT s k (a + j) [] := by unfold unTx; rw [h, if_neg (by simp)]
def TextsIs (w : World) (R : Nat) (s : ByteArray) (r : (Nat × Nat) ⊕ (Nat × List ByteArray)) (e : Ending) (w' : World) : Prop :=
  w.grownBy w' (some R) ∧ ((∃ x p, r = .inl (x, p) ∧ Thrown (x, (p : Int)) e w') ∨ ∃ b T v, r = .inr (b, T) ∧ e = .returned v ∧ ownsS w' w.heap.size v T ∧ Rd w' R s b)

set_option maxRecDepth 100000 in
set_option maxHeartbeats 4000000 in
theorem texts_any (R : Nat) (s : ByteArray) (a : Nat) (w : World) (h : Rd w R s a) (hg : errT w) (hs : s.size ≤ 1000000) (ha : a ≤ s.size) :
    Calls Tryz.prog 72 #[.pointer (some ⟨R, 0, none⟩)] w (TextsIs w R s (unTx s.data.toList a)) := by
  have H := Lib.hid h
  have HG := Lib.hid hg
  have HSL : Hid (s.data.toList.length = s.size) := Lib.hid (size_data s).symm
  have hR := h.cells.2.2.2
  clear h hg
  rcases intL_cases (s.data.toList.drop a) 60 with ⟨e, h1, he, _⟩ | ⟨n, k, h1, hn, hk1, hk10, hkl, hp⟩
  · have H1 := Lib.hid h1
    have HR := Lib.hid (unTx_bad h1 he)
    clear h1
    go_enter Tryz.func72, Tryz.ntmps72
    go_wp2_with fail
    refine (number_bad R s a e 60 _ H.out HG.out hs ha (by decide) (by decide) H1.out he).mono ?_
    rintro r w1 ⟨⟨t, u, rfl, hne, ha⟩, hg1⟩
    exact And.intro rfl ⟨hg1, .inl ⟨e, a, HR.out, t, u, rfl, hne, ha⟩⟩
  · have H1 := Lib.hid h1
    have hkl2 : k ≤ s.size - a := by rw [List.length_drop, HSL.out] at hkl; exact hkl
    have HR := Lib.hid (unTx_ok h1)
    clear h1 hkl hp
    go_enter Tryz.func72, Tryz.ntmps72
    go_wp2_with fail
    refine (number_ok R s a n k 60 _ H.out HG.out hs ha (by decide) (by decide) H1.out (by omega)).mono ?_
    rintro r w1 ⟨rfl, hr1, hg1⟩
    have HR1 := Lib.hid hr1
    have HG1 := Lib.hid hg1
    clear hr1 hg1
    go_wp2
    go_loopw [3, 6] (fun v i wr => ∃ (j b : Nat) (T : List ByteArray), j ≤ n ∧ i = .int .i64 j ∧ b ≤ s.size ∧ T.length = j ∧ unTx s.data.toList a = unT s.data.toList (n - j) b T ∧ ownsS wr w.heap.size v T ∧ Rd wr R s b ∧ w.grownBy wr (some R)) (fun _ i _ => n - (intOf i).toNat)
    case atStart => exact ⟨0, a + k, [], Nat.zero_le _, rfl, by omega, rfl, HR.out, ownsS_nil _ _, HR1.out, HG1.out⟩
    case round =>
      obtain ⟨j, b, T, hj, rfl, hb, hTl, hres, hos, hrd, hgr⟩ := hrel
      have HO := Lib.hid hos
      have HRD := Lib.hid hrd
      have HGR := Lib.hid hgr
      have HRES := Lib.hid hres
      have HTL := Lib.hid hTl
      have HEG := Lib.hid (HG.out.grownR H.out hgr)
      obtain ⟨ad, cp, rfl, _, _⟩ := hos.isTexts
      rw [hTl] at HO ⊢
      clear hos hrd hgr hres hTl
      by_cases hlt : j < n
      · obtain ⟨m, hm⟩ : ∃ m, n - j = m + 1 := ⟨n - j - 1, by omega⟩
        rw [hm] at HRES
        obtain ⟨t, c, e, hg⟩ : ∃ t c e, getS (s.data.toList.drop b) = (t, c, e) := ⟨_, _, _, rfl⟩
        by_cases he : e = 0
        · subst he
          obtain ⟨w1', w2', w3', _⟩ := wspan_only hg
          rw [List.length_drop, HSL.out] at w2'
          have HN : Hid (unTx s.data.toList a = unT s.data.toList (n - (j + 1)) (b + c) (T ++ [⟨t.toArray⟩])) := Lib.hid (by rw [HRES.out, unT_ok hg, show n - (j + 1) = m by omega])
          have HGS := Lib.hid hg
          obtain ⟨B, hB⟩ : ∃ B : ByteArray, (⟨t.toArray⟩ : ByteArray) = B := ⟨_, rfl⟩
          rw [hB] at HN
          have HB := Lib.hid hB
          clear hg hB w3'
          go_wp2_with fail
          refine (gettext_ok R s b 0 c t _ HRD.out HEG.out hs hb HGS.out (by omega) rfl).mono ?_
          rintro r w2 ⟨rfl, hr2, hg2⟩
          rw [HB.out]
          have HR2 := Lib.hid hr2
          have HO2 := Lib.hid (ownS_grown HO.out hR hg2)
          have HG2 := Lib.hid (grown_on HGR.out hg2 (fun k hk => .inl (by injection hk with hk; exact hk.symm)))
          clear hr2 hg2
          go_wp2_with (at_builtin; refine wpList_append_str rfl _ _ rfl w.heap.size _ T rfl (HO2.out.alloc _) ⟨w2.heap.size, 0, none⟩ 1 rfl B (by simp [Addr.add]) (by have := HTL.out; omega) (by have := HG2.out.size; simp; omega) ?_)
          intro g cap w4 ho4 hg4
          have HTL2 : Hid (T.length + 1 = j + 1) := Lib.hid (by rw [HTL.out])
          rw [HTL2.out] at ho4 ⊢
          have HO4 := Lib.hid ho4
          have hgA : w2.grownBy w4 (Value.slice ad j cp).ownBlock := ⟨hg4.os, hg4.tape, hg4.output, Nat.le_trans (by simp) hg4.size, fun k hk hne => (hg4.block k (by simp; omega) hne).trans (Below.heap_alloc _ _ _ hk)⟩
          have hneR : some R ≠ (Value.slice ad j cp).ownBlock := fun e => by have := (HO2.out.lt R e.symm).1; omega
          have HR4 := Lib.hid (HR2.out.grown hgA hneR)
          have HG4 := Lib.hid (grown_on HG2.out hgA (fun k hk => .inr (HO2.out.lt k hk).1))
          clear ho4 hg4 hgA hneR
          go_wp2
          go_roundw
          case rel => exact ⟨j + 1, b + c, T ++ [B], by omega, by go_num, by omega, by rw [List.length_append, HTL.out]; rfl, HN.out, HO4.out, HR4.out, HG4.out⟩
          case measure => simp [intOf]; omega
        · have hz : t = [] ∧ c = 0 := by
            rcases getL_cases (s.data.toList.drop b) with ⟨x, hx, hxe⟩ | ⟨x, y, hx, _⟩
            · rw [getS_bad hx hxe] at hg; simp only [Prod.mk.injEq] at hg; exact ⟨hg.1.symm, hg.2.1.symm⟩
            · by_cases h2 : 2000 < x
              · rw [getS_big hx h2] at hg; simp only [Prod.mk.injEq] at hg; exact ⟨hg.1.symm, hg.2.1.symm⟩
              · by_cases h3 : (s.data.toList.drop b).length < y + x
                · rw [getS_miss hx h2 h3] at hg; simp only [Prod.mk.injEq] at hg; exact ⟨hg.1.symm, hg.2.1.symm⟩
                · rw [getS_ok hx h2 h3] at hg; simp only [Prod.mk.injEq] at hg; exact absurd hg.2.2.symm he
          obtain ⟨rfl, rfl⟩ := hz
          have HN : Hid (unTx s.data.toList a = .inl (e, b)) := Lib.hid (by rw [HRES.out, unT_bad hg he])
          have HGS := Lib.hid hg
          clear hg
          go_wp2_with fail
          refine (gettext_bad R s b e 0 [] _ HRD.out HEG.out hs hb HGS.out rfl he rfl).mono ?_
          rintro r w2 ⟨⟨t, u, rfl, hne, ha⟩, hg2⟩
          exact And.intro rfl ⟨grown_on HGR.out hg2 (fun k hk => .inl (by injection hk with hk; exact hk.symm)), .inl ⟨e, b, HN.out, t, u, rfl, hne, ha⟩⟩
      · have HN : Hid (unTx s.data.toList a = .inr (b, T)) := Lib.hid (by rw [HRES.out, show n - j = 0 by omega]; rfl)
        go_wp2
        go_ret
        exact ⟨HGR.out, .inr ⟨b, T, _, HN.out, rfl, HO.out, HRD.out⟩⟩
end Go.Proofs.YtkafhlpnhgipeaaGreatDoor
