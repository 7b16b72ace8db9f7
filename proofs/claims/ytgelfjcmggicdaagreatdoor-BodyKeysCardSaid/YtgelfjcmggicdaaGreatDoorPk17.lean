import Derived.Test.YtgelfjcmggicdaaGreatDoorPk08
import Derived.Lib.Hide
import Derived.BigQuiet
import Derived.Deep.QuietTactic
import Derived.Outline
import Derived.Test.YtgelfjcmggicdaaGreatDoorPk09
import Derived.WalkKit
import Derived.WalkSmall
import Derived.Test.YtgelfjcmggicdaaGreatDoorPk04
import Derived.Test.YtgelfjcmggicdaaGreatDoorPk10
import Derived.KernelRfl
import Derived.Laws.Rows
import Derived.Deep.RegionHeld3
import Derived.Test.YtgelfjcmggicdaaGreatDoorPk16
import Derived.Test.YtgelfjcmggicdaaGreatDoorProg
import Derived.Handy
import Derived.Test.YtgelfjcmggicdaaGreatDoorPk07
import Derived.Laws.NewBlocks
import Derived.Laws.CopyOwn
import Derived.RegionTactic
/-
  slices.Equal of two lists of writes.
-/
namespace Go.Proofs.YtgelfjcmggicdaaGreatDoor
open Go.RowKit

instance : DecidableEq Wr := fun a b => decidable_of_iff (a.time = b.time ∧ a.rep = b.rep ∧ a.kind = b.kind ∧ a.key = b.key ∧ a.value = b.value ∧ a.n = b.n) (by cases a; cases b; simp)
theorem wq_step {l m : List Wr} {k : Nat} (h : l.take k = m.take k) {t u : Wr} (hl : l[k]? = some t) (hm : m[k]? = some u) (e : t = u) : l.take (k + 1) = m.take (k + 1) := by
  obtain ⟨h1, h2⟩ := List.getElem?_eq_some_iff.1 hl
  obtain ⟨h3, h4⟩ := List.getElem?_eq_some_iff.1 hm
  rw [List.take_succ_eq_append_getElem h1, List.take_succ_eq_append_getElem h3, h, h2, h4, e]
theorem bytes_ext {a b : ByteArray} (h : a.data.toList = b.data.toList) : a = b := by
  cases a; cases b; simp at h; rw [h]

set_option maxRecDepth 100000 in
set_option maxHeartbeats 4000000 in
theorem equal_wrs (v1 v2 : Value) (l m : List Wr) (w : World) (h1 : IsWrs w v1 l) (h2 : IsWrs w v2 m) (hl : l.length ≤ 9223372036854775807) (hm : m.length ≤ 9223372036854775807) :
    Calls Tryz.prog 64 #[v1, v2] w fun e w' => e = .returned (.bool (decide (l = m))) ∧ ∃ q, w' = w.drewN q := by
  obtain ⟨a1, c1, rfl, f1⟩ := h1.form
  obtain ⟨a2, c2, rfl, f2⟩ := h2.form
  have F1 := Lib.hid f1
  have F2 := Lib.hid f2
  obtain ⟨n, hn⟩ : ∃ n, n = l.length := ⟨_, rfl⟩
  obtain ⟨n2, hn2⟩ : ∃ n, n = m.length := ⟨_, rfl⟩
  rw [← hn] at hl ⊢
  rw [← hn2] at hm ⊢
  have HN := Lib.hid hn
  have HN2 := Lib.hid hn2
  clear h1 h2 f1 f2 hn hn2
  by_cases hne : n = n2
  · subst hne
    go_enter Tryz.func64, Tryz.ntmps64
    go_wp2
    go_loopw [13] (fun i wr => ∃ k q : Nat, k ≤ n ∧ i = .int .i64 k ∧ l.take k = m.take k ∧ wr = w.drewN q) (fun i _ => n - (intOf i).toNat)
    case atStart => exact ⟨0, 0, by omega, rfl, rfl, rfl⟩
    case round =>
      obtain ⟨k, q, hk, rfl, htk, rfl⟩ := hrel
      have HTK := Lib.hid htk
      clear htk
      by_cases hlt : k < n
      · obtain ⟨t, ht⟩ : ∃ t, l[k]? = some t := ⟨l[k]'(by have := HN.out; omega), List.getElem?_eq_getElem _⟩
        obtain ⟨u, hu⟩ : ∃ u, m[k]? = some u := ⟨m[k]'(by have := HN2.out; omega), List.getElem?_eq_getElem _⟩
        obtain ⟨b1, o1, rfl, _, p0, p1, p2, p3, p4, p5⟩ := F1.out k t ht
        obtain ⟨b2, o2, rfl, _, q0, q1, q2, q3, q4, q5⟩ := F2.out k u hu
        have HTT := Lib.hid ht
        have HUU := Lib.hid hu
        clear ht hu
        obtain ⟨T1, R1, K1, key1, val1, N1⟩ := t
        obtain ⟨T2, R2, K2, key2, val2, N2⟩ := u
        simp only at p0 p1 p2 p3 p4 p5 q0 q1 q2 q3 q4 q5
        by_cases he0 : T1 = T2
        · subst he0
          by_cases he1 : R1 = R2
          · subst he1
            by_cases he2 : K1 = K2
            · subst he2
              by_cases he3 : key1 = key2
              · subst he3
                by_cases he4 : val1 = val2
                · subst he4
                  by_cases he5 : N1 = N2
                  · subst he5
                    have HST := Lib.hid (wq_step HTK.out HTT.out HUU.out rfl)
                    go_wp2
                    go_quiet (fail)
                    go_wp2
                    go_roundw
                    case rel => exact ⟨k + 1, _, by omega, by go_num, HST.out, rfl⟩
                    case measure => simp [intOf]; omega
                  · have HE : Hid (decide (l = m) = false) := Lib.hid (show decide (l = m) = false by
                      rw [decide_eq_false_iff_not]; rintro rfl
                      have := HTT.out.symm.trans HUU.out
                      simp only [Option.some.injEq, Wr.mk.injEq] at this
                      exact he5 this.2.2.2.2.2)
                    have x1 : (N1 == N2) = false := by simpa using he5
                    have x2 : (N1 != N2) = true := by simpa using he5
                    go_wp2
                    go_quiet (fail)
                    go_wp2
                    go_ret
                    exact ⟨by rw [HE.out]; rfl, by first | exact ⟨_, rfl⟩ | exact ⟨_, by rw [World.drewN_drewN]⟩⟩
                · have HE : Hid (decide (l = m) = false) := Lib.hid (show decide (l = m) = false by
                    rw [decide_eq_false_iff_not]; rintro rfl
                    have := HTT.out.symm.trans HUU.out
                    simp only [Option.some.injEq, Wr.mk.injEq] at this
                    exact he4 this.2.2.2.2.1)
                  have x1 : (val1.toList == val2.toList) = false := by rw [ByteArray.toList_eq, ByteArray.toList_eq, beq_eq_false_iff_ne]; intro e9; exact he4 (bytes_ext e9)
                  have x2 : (val1.toList != val2.toList) = true := by rw [bne, x1]; rfl
                  go_wp2
                  go_quiet (fail)
                  go_wp2
                  go_ret
                  exact ⟨by rw [HE.out]; rfl, by first | exact ⟨_, rfl⟩ | exact ⟨_, by rw [World.drewN_drewN]⟩⟩
              · have HE : Hid (decide (l = m) = false) := Lib.hid (show decide (l = m) = false by
                  rw [decide_eq_false_iff_not]; rintro rfl
                  have := HTT.out.symm.trans HUU.out
                  simp only [Option.some.injEq, Wr.mk.injEq] at this
                  exact he3 this.2.2.2.1)
                have x1 : (key1.toList == key2.toList) = false := by rw [ByteArray.toList_eq, ByteArray.toList_eq, beq_eq_false_iff_ne]; intro e9; exact he3 (bytes_ext e9)
                have x2 : (key1.toList != key2.toList) = true := by rw [bne, x1]; rfl
                go_wp2
                go_quiet (fail)
                go_wp2
                go_ret
                exact ⟨by rw [HE.out]; rfl, by first | exact ⟨_, rfl⟩ | exact ⟨_, by rw [World.drewN_drewN]⟩⟩
            · have HE : Hid (decide (l = m) = false) := Lib.hid (show decide (l = m) = false by
                rw [decide_eq_false_iff_not]; rintro rfl
                have := HTT.out.symm.trans HUU.out
                simp only [Option.some.injEq, Wr.mk.injEq] at this
                exact he2 this.2.2.1)
              have x1 : (K1 == K2) = false := by simpa using he2
              have x2 : (K1 != K2) = true := by simpa using he2
              go_wp2
              go_quiet (fail)
              go_wp2
              go_ret
              exact ⟨by rw [HE.out]; rfl, by first | exact ⟨_, rfl⟩ | exact ⟨_, by rw [World.drewN_drewN]⟩⟩
          · have HE : Hid (decide (l = m) = false) := Lib.hid (show decide (l = m) = false by
              rw [decide_eq_false_iff_not]; rintro rfl
              have := HTT.out.symm.trans HUU.out
              simp only [Option.some.injEq, Wr.mk.injEq] at this
              exact he1 this.2.1)
            have x1 : (R1 == R2) = false := by simpa using he1
            have x2 : (R1 != R2) = true := by simpa using he1
            go_wp2
            go_quiet (fail)
            go_wp2
            go_ret
            exact ⟨by rw [HE.out]; rfl, by first | exact ⟨_, rfl⟩ | exact ⟨_, by rw [World.drewN_drewN]⟩⟩
        · have HE : Hid (decide (l = m) = false) := Lib.hid (show decide (l = m) = false by
            rw [decide_eq_false_iff_not]; rintro rfl
            have := HTT.out.symm.trans HUU.out
            simp only [Option.some.injEq, Wr.mk.injEq] at this
            exact he0 this.1)
          have x1 : (T1 == T2) = false := by simpa using he0
          have x2 : (T1 != T2) = true := by simpa using he0
          go_wp2
          go_quiet (fail)
          go_wp2
          go_ret
          exact ⟨by rw [HE.out]; rfl, by first | exact ⟨_, rfl⟩ | exact ⟨_, by rw [World.drewN_drewN]⟩⟩
      · have HE : Hid (decide (l = m) = true) := Lib.hid (show decide (l = m) = true by
          rw [decide_eq_true_eq]
          have h := HTK.out
          rw [List.take_of_length_le (by have := HN.out; omega), List.take_of_length_le (by have := HN2.out; omega)] at h
          exact h)
        go_wp2
        go_ret
        exact ⟨by rw [HE.out]; rfl, by first | exact ⟨_, rfl⟩ | exact ⟨_, by rw [World.drewN_drewN]⟩⟩
  · have HE : Hid (decide (l = m) = false) := Lib.hid (show decide (l = m) = false by
      rw [decide_eq_false_iff_not]; rintro rfl; exact hne (HN.out.trans HN2.out.symm))
    have x1 : ((n : Int) == (n2 : Int)) = false := by simp; omega
    have x2 : ((n : Int) != (n2 : Int)) = true := by simp; omega
    rw [HE.out]
    go_enter Tryz.func64, Tryz.ntmps64
    go_wp2
    go_ret
    exact ⟨rfl, 0, rfl⟩
theorem equalw_as (v1 v2 : Value) (l m : List Wr) (c : Bool) (w : World) (h1 : IsWrs w v1 l) (h2 : IsWrs w v2 m) (hl : l.length ≤ 9223372036854775807) (hm : m.length ≤ 9223372036854775807) (hc : decide (l = m) = c) :
    Calls Tryz.prog 64 #[v1, v2] w fun e w' => e = .returned (.bool c) ∧ ∃ q, w' = w.drewN q :=
  (equal_wrs v1 v2 l m w h1 h2 hl hm).mono fun _ _ ⟨h1, h2⟩ => ⟨by rw [h1, hc], h2⟩
end Go.Proofs.YtgelfjcmggicdaaGreatDoor
/-
  Plain: whether two batches are one; the cells of two batches.
-/
namespace Go.Proofs.YtgelfjcmggicdaaGreatDoor
open Go.RowKit

def sameV (f h : List Ent) (l : List Wr) (f2 h2 : List Ent) (l2 : List Wr) : Bool := decide (f = f2) && decide (h = h2) && decide (l = l2)
theorem sameV_self (f h : List Ent) (l : List Wr) : sameV f h l f h l = true := by simp [sameV]
theorem sameV_comm (f h : List Ent) (l : List Wr) (f2 h2 : List Ent) (l2 : List Wr) : sameV f2 h2 l2 f h l = sameV f h l f2 h2 l2 := by
  unfold sameV
  rw [decide_eq_decide.2 (eq_comm (a := f2)), decide_eq_decide.2 (eq_comm (a := h2)), decide_eq_decide.2 (eq_comm (a := l2))]
theorem sameV_eq {f h : List Ent} {l : List Wr} {f2 h2 : List Ent} {l2 : List Wr} (hs : sameV f h l f2 h2 l2 = true) : f = f2 ∧ h = h2 ∧ l = l2 := by
  simp [sameV] at hs; exact ⟨hs.1.1, hs.1.2, hs.2⟩
def bat2 (w : World) (B : Nat) (a b c d e g : Value) : Prop :=
  w.cell? ⟨B, 0, none⟩ = some a ∧ w.cell? ⟨B, 1, none⟩ = some b ∧ w.cell? ⟨B, 2, none⟩ = some c ∧ w.cell? ⟨B + 1, 0, none⟩ = some d ∧ w.cell? ⟨B + 1, 1, none⟩ = some e ∧ w.cell? ⟨B + 1, 2, none⟩ = some g
theorem bat2_new (w : World) (a b c d e g : Value) (t u : TypeId) : bat2 ((w.alloc (.cells #[a, b, c] t)).alloc (.cells #[d, e, g] u)) w.heap.size a b c d e g := by
  unfold bat2; simp
theorem bat2.drewN {w : World} {B : Nat} {a b c d e g : Value} (h : bat2 w B a b c d e g) (n : Nat) : bat2 (w.drewN n) B a b c d e g := h
theorem bat2.below {w w' : World} {B : Nat} {a b c d e g : Value} {m : Nat} (h : bat2 w B a b c d e g) (hb : Below m w w') (hm : B + 1 < m) : bat2 w' B a b c d e g :=
  ⟨(hb.cell (Nat.lt_of_succ_lt hm)).trans h.1, (hb.cell (Nat.lt_of_succ_lt hm)).trans h.2.1, (hb.cell (Nat.lt_of_succ_lt hm)).trans h.2.2.1, (hb.cell hm).trans h.2.2.2.1, (hb.cell hm).trans h.2.2.2.2.1, (hb.cell hm).trans h.2.2.2.2.2⟩
end Go.Proofs.YtgelfjcmggicdaaGreatDoor
/-
  slices.Equal of two lists of entries.
-/
namespace Go.Proofs.YtgelfjcmggicdaaGreatDoor
open Go.RowKit

theorem eq_step {l m : List Ent} {k : Nat} (h : l.take k = m.take k) {t u : Ent} (hl : l[k]? = some t) (hm : m[k]? = some u) (e : t = u) : l.take (k + 1) = m.take (k + 1) := by
  obtain ⟨h1, h2⟩ := List.getElem?_eq_some_iff.1 hl
  obtain ⟨h3, h4⟩ := List.getElem?_eq_some_iff.1 hm
  rw [List.take_succ_eq_append_getElem h1, List.take_succ_eq_append_getElem h3, h, h2, h4, e]

set_option maxRecDepth 100000 in
set_option maxHeartbeats 1000000 in
theorem equal_entsL (v1 v2 : Value) (l m : List Ent) (w : World) (h1 : IsEnts w v1 l) (h2 : IsEnts w v2 m) (hl : l.length ≤ 9223372036854775807) (hm : m.length ≤ 9223372036854775807) :
    Calls Tryz.prog 63 #[v1, v2] w fun e w' => e = .returned (.bool (decide (l = m))) ∧ ∃ q, w' = w.drewN q := by
  obtain ⟨a1, c1, rfl, f1⟩ := h1.form
  obtain ⟨a2, c2, rfl, f2⟩ := h2.form
  have F1 := Lib.hid f1
  have F2 := Lib.hid f2
  obtain ⟨n, hn⟩ : ∃ n, n = l.length := ⟨_, rfl⟩
  obtain ⟨n2, hn2⟩ : ∃ n, n = m.length := ⟨_, rfl⟩
  rw [← hn] at hl ⊢
  rw [← hn2] at hm ⊢
  have HN := Lib.hid hn
  have HN2 := Lib.hid hn2
  clear h1 h2 f1 f2 hn hn2
  by_cases hne : n = n2
  · subst hne
    go_enter Tryz.func63, Tryz.ntmps63
    go_wp2
    go_loopw [13] (fun i wr => ∃ k q : Nat, k ≤ n ∧ i = .int .i64 k ∧ l.take k = m.take k ∧ wr = w.drewN q) (fun i _ => n - (intOf i).toNat)
    case atStart => exact ⟨0, 0, by omega, rfl, rfl, rfl⟩
    case round =>
      obtain ⟨k, q, hk, rfl, htk, rfl⟩ := hrel
      have HTK := Lib.hid htk
      clear htk
      by_cases hlt : k < n
      · obtain ⟨t, ht⟩ : ∃ t, l[k]? = some t := ⟨l[k]'(by have := HN.out; omega), List.getElem?_eq_getElem _⟩
        obtain ⟨u, hu⟩ : ∃ u, m[k]? = some u := ⟨m[k]'(by have := HN2.out; omega), List.getElem?_eq_getElem _⟩
        obtain ⟨b1, o1, rfl, _, p0, p1⟩ := F1.out k t ht
        obtain ⟨b2, o2, rfl, _, q0, q1⟩ := F2.out k u hu
        have HTT := Lib.hid ht
        have HUU := Lib.hid hu
        clear ht hu
        obtain ⟨r1, t1⟩ := t
        obtain ⟨r2, t2⟩ := u
        simp only at p0 p1 q0 q1
        by_cases hr : r1 = r2
        · by_cases ht : t1 = t2
          · subst hr ht
            have HST := Lib.hid (eq_step HTK.out HTT.out HUU.out rfl)
            go_wp2
            go_quiet (fail)
            go_wp2
            go_roundw
            case rel => exact ⟨k + 1, _, by omega, by go_num, HST.out, rfl⟩
            case measure => simp [intOf]; omega
          · subst hr
            have HE : Hid (decide (l = m) = false) := Lib.hid (show decide (l = m) = false by
              rw [decide_eq_false_iff_not]; rintro rfl
              have := HTT.out.symm.trans HUU.out
              simp at this; exact ht this)
            have x1 : (t1 == t2) = false := by simpa using ht
            have x2 : (t1 != t2) = true := by simpa using ht
            go_wp2
            go_quiet (fail)
            go_wp2
            go_ret
            exact ⟨by rw [HE.out]; rfl, by first | exact ⟨_, rfl⟩ | exact ⟨_, by rw [World.drewN_drewN]⟩⟩
        · have HE : Hid (decide (l = m) = false) := Lib.hid (show decide (l = m) = false by
            rw [decide_eq_false_iff_not]; rintro rfl
            have := HTT.out.symm.trans HUU.out
            simp at this; exact hr this.1)
          have x1 : (r1 == r2) = false := by simpa using hr
          have x2 : (r1 != r2) = true := by simpa using hr
          go_wp2
          go_quiet (fail)
          go_wp2
          go_ret
          exact ⟨by rw [HE.out]; rfl, by first | exact ⟨_, rfl⟩ | exact ⟨_, by rw [World.drewN_drewN]⟩⟩
      · have HE : Hid (decide (l = m) = true) := Lib.hid (show decide (l = m) = true by
          rw [decide_eq_true_eq]
          have h := HTK.out
          rw [List.take_of_length_le (by have := HN.out; omega), List.take_of_length_le (by have := HN2.out; omega)] at h
          exact h)
        go_wp2
        go_ret
        exact ⟨by rw [HE.out]; rfl, by first | exact ⟨_, rfl⟩ | exact ⟨_, by rw [World.drewN_drewN]⟩⟩
  · have HE : Hid (decide (l = m) = false) := Lib.hid (show decide (l = m) = false by
      rw [decide_eq_false_iff_not]; rintro rfl; exact hne (HN.out.trans HN2.out.symm))
    have x1 : ((n : Int) == (n2 : Int)) = false := by simp; omega
    have x2 : ((n : Int) != (n2 : Int)) = true := by simp; omega
    rw [HE.out]
    go_enter Tryz.func63, Tryz.ntmps63
    go_wp2
    go_ret
    exact ⟨rfl, 0, rfl⟩
theorem equal_ents (v1 v2 : Value) (l m : List Ent) (w : World) (h1 : IsEnts w v1 l) (h2 : IsEnts w v2 m) (hl : l.length ≤ 1000000) (hm : m.length ≤ 9223372036854775807) :
    Calls Tryz.prog 63 #[v1, v2] w fun e w' => e = .returned (.bool (decide (l = m))) ∧ ∃ q, w' = w.drewN q := equal_entsL v1 v2 l m w h1 h2 (Nat.le_trans hl (by decide)) hm
theorem equal_same (v1 v2 : Value) (l : List Ent) (w : World) (h1 : IsEnts w v1 l) (h2 : IsEnts w v2 l) (hl : l.length ≤ 1000000) :
    Calls Tryz.prog 63 #[v1, v2] w fun e w' => e = .returned (.bool true) ∧ ∃ q, w' = w.drewN q :=
  (equal_ents v1 v2 l l w h1 h2 hl (by omega)).mono fun _ _ ⟨h1, h2⟩ => ⟨by rw [h1]; simp, h2⟩
theorem equal_as (v1 v2 : Value) (l m : List Ent) (c : Bool) (w : World) (h1 : IsEnts w v1 l) (h2 : IsEnts w v2 m) (hl : l.length ≤ 1000000) (hm : m.length ≤ 9223372036854775807) (hc : decide (l = m) = c) :
    Calls Tryz.prog 63 #[v1, v2] w fun e w' => e = .returned (.bool c) ∧ ∃ q, w' = w.drewN q :=
  (equal_ents v1 v2 l m w h1 h2 hl hm).mono fun _ _ ⟨h1, h2⟩ => ⟨by rw [h1, hc], h2⟩
theorem equal_asL (v1 v2 : Value) (l m : List Ent) (c : Bool) (w : World) (h1 : IsEnts w v1 l) (h2 : IsEnts w v2 m) (hl : l.length ≤ 9223372036854775807) (hm : m.length ≤ 9223372036854775807) (hc : decide (l = m) = c) :
    Calls Tryz.prog 63 #[v1, v2] w fun e w' => e = .returned (.bool c) ∧ ∃ q, w' = w.drewN q :=
  (equal_entsL v1 v2 l m w h1 h2 hl hm).mono fun _ _ ⟨h1, h2⟩ => ⟨by rw [h1, hc], h2⟩
end Go.Proofs.YtgelfjcmggicdaaGreatDoor
/-
  The contract of batch.Same.
-/
namespace Go.Proofs.YtgelfjcmggicdaaGreatDoor
open Go.RowKit

set_option maxRecDepth 100000 in
set_option maxHeartbeats 4000000 in
theorem bsame_as (vf vh vw uf uh uw : Value) (f h : List Ent) (l : List Wr) (f2 h2 : List Ent) (l2 : List Wr) (c : Bool) (w : World) (hx : BatIs w vf vh vw f h l) (hy : BatIs w uf uh uw f2 h2 l2) (hc : sameV f h l f2 h2 l2 = c) :
    Calls Tryz.prog 22 #[.agg #[vf, vh, vw], .agg #[uf, uh, uw]] w fun e w' => e = .returned (.bool c) ∧ Below w.heap.size w w' := by
  subst hc
  have HX := Lib.hid hx
  have HY := Lib.hid hy
  obtain ⟨hf, hh, hv, _⟩ := hx
  obtain ⟨af, cf, rfl, _⟩ := hf.form
  obtain ⟨ah, ch, rfl, _⟩ := hh.form
  obtain ⟨aw, cw, rfl, _⟩ := hv.form
  obtain ⟨hf2, hh2, hv2, _⟩ := hy
  obtain ⟨bf, df, rfl, _⟩ := hf2.form
  obtain ⟨bh, dh, rfl, _⟩ := hh2.form
  obtain ⟨bw, dw, rfl, _⟩ := hv2.form
  clear hf hh hv hf2 hh2 hv2
  obtain ⟨nf, hn1⟩ : ∃ n, n = f.length := ⟨_, rfl⟩
  obtain ⟨nh, hn2⟩ : ∃ n, n = h.length := ⟨_, rfl⟩
  obtain ⟨n, hn3⟩ : ∃ n, n = l.length := ⟨_, rfl⟩
  obtain ⟨mf, hn4⟩ : ∃ n, n = f2.length := ⟨_, rfl⟩
  obtain ⟨mh, hn5⟩ : ∃ n, n = h2.length := ⟨_, rfl⟩
  obtain ⟨m, hn6⟩ : ∃ n, n = l2.length := ⟨_, rfl⟩
  rw [← hn1, ← hn2, ← hn3] at HX ⊢
  rw [← hn4, ← hn5, ← hn6] at HY ⊢
  obtain ⟨c1, e1⟩ : ∃ c, decide (f = f2) = c := ⟨_, rfl⟩
  obtain ⟨c2, e2⟩ : ∃ c, decide (h = h2) = c := ⟨_, rfl⟩
  obtain ⟨c3, e3⟩ : ∃ c, decide (l = l2) = c := ⟨_, rfl⟩
  have HR : Hid (sameV f h l f2 h2 l2 = (c1 && c2 && c3)) := Lib.hid (by unfold sameV; rw [e1, e2, e3])
  have H1 := Lib.hid e1
  have H2 := Lib.hid e2
  have H3 := Lib.hid e3
  have HW0 : Hid (Below w.heap.size w ((w.alloc (.cells #[.slice af nf cf, .slice ah nh ch, .slice aw n cw] 25)).alloc (.cells #[.slice bf mf df, .slice bh mh dh, .slice bw m dw] 25))) := Lib.hid (((Below.refl _ _).alloc (Nat.le_refl _) _).alloc (by simp) _)
  have HA : Hid (bat2 ((w.alloc (.cells #[.slice af nf cf, .slice ah nh ch, .slice aw n cw] 25)).alloc (.cells #[.slice bf mf df, .slice bh mh dh, .slice bw m dw] 25)) w.heap.size (.slice af nf cf) (.slice ah nh ch) (.slice aw n cw) (.slice bf mf df) (.slice bh mh dh) (.slice bw m dw)) := Lib.hid (bat2_new _ _ _ _ _ _ _ _ _)
  clear hn1 hn2 hn3 hn4 hn5 hn6 e1 e2 e3
  rw [HR.out]
  go_enter Tryz.func22, Tryz.ntmps22
  go_wp2_with fail
  generalize (w.alloc (.cells #[.slice af nf cf, .slice ah nh ch, .slice aw n cw] 25)).alloc (.cells #[.slice bf mf df, .slice bh mh dh, .slice bw m dw] 25) = W at HA HW0 ⊢
  have HX0 := Lib.hid (HX.out.below HW0.out)
  have HY0 := Lib.hid (HY.out.below HW0.out)
  refine (equal_asL _ _ f f2 c1 _ HX0.out.1 HY0.out.1 HX0.out.2.2.2.1 HY0.out.2.2.2.1 H1.out).mono ?_
  rintro r w1 ⟨rfl, q1, rfl⟩
  cases c1 with
  | false =>
    go_wp2
    go_ret
    exact ⟨rfl, below_drewN HW0.out _⟩
  | true =>
    obtain ⟨d0, d1, d2, d3, d4, d5⟩ := HA.out.drewN q1
    go_wp2_with fail
    refine (equal_asL _ _ h h2 c2 _ (HX0.out.2.1.drewN q1) (HY0.out.2.1.drewN q1) HX0.out.2.2.2.2.1 HY0.out.2.2.2.2.1 H2.out).mono ?_
    rintro r w2 ⟨rfl, q2, rfl⟩
    rw [World.drewN_drewN]
    clear d0 d1 d2 d3 d4 d5
    cases c2 with
    | false =>
      go_wp2
      go_ret
      exact ⟨rfl, below_drewN HW0.out _⟩
    | true =>
      obtain ⟨d0, d1, d2, d3, d4, d5⟩ := HA.out.drewN (q1 + q2)
      go_wp2_with fail
      refine (equalw_as _ _ l l2 c3 _ (HX0.out.2.2.1.drewN (q1 + q2)) (HY0.out.2.2.1.drewN (q1 + q2)) HX0.out.2.2.2.2.2.1 HY0.out.2.2.2.2.2.1 H3.out).mono ?_
      rintro r w3 ⟨rfl, q3, rfl⟩
      rw [World.drewN_drewN]
      clear d0 d1 d2 d3 d4 d5
      go_wp2
      go_ret
      exact ⟨by first | rfl | simp, below_drewN HW0.out _⟩
end Go.Proofs.YtgelfjcmggicdaaGreatDoor
/-
  The fact that the laws of batches ask first: 'one' and 'gathered'.
-/
namespace Go.Proofs.YtgelfjcmggicdaaGreatDoor
open Go.RowKit

def oneH : List Ent := [⟨3, 7⟩]
def oneW : List Wr := [⟨7, 3, 1, ⟨#[107]⟩, ⟨#[118]⟩, 0⟩]
theorem one_right : batF [] oneH oneW = (0, -1) := by decide +kernel
theorem one_state : batF oneH oneH oneW = (6, 0) := by decide +kernel
theorem one_same : sameV [] oneH oneW [] oneH oneW = true := sameV_self _ _ _
theorem one_other : sameV [] oneH oneW oneH oneH oneW = false := by decide +kernel
theorem one_ok : ∀ t ∈ oneW, WrOk t := by
  intro t ht
  simp only [oneW, List.mem_singleton] at ht
  subst ht
  refine ⟨by decide, by decide, ?_, ?_⟩
  · show (1 : Nat) ≤ _; decide
  · show (1 : Nat) ≤ _; decide
theorem ents_one {w : World} {B : Nat} {t : Ent} (h : w.heap[B]? = some (.cells #[.int .i64 t.rep, .int .i64 t.time] 72 (0, 0))) : IsEnts w (.slice (some ⟨B, 0, none⟩) 1 1) [t] := by
  refine .inr ⟨B, 0, 1, rfl, ⟨Nat.zero_lt_one, Nat.le_refl 1⟩, (Array.getElem?_eq_some_iff.1 h).1, fun j u hj => ?_⟩
  rw [Nat.zero_add, cell_of_row _ _ j _ _ (0, 0) h]
  simpa [entsC, entC] using hj
theorem bat_one {w : World} {P Q : Nat} (hp : w.heap[P]? = some (.cells #[.int .i64 3, .int .i64 7] 72 (0, 0))) (hq : w.heap[Q]? = some (.cells #[.int .i64 7, .int .i64 3, .int .i64 1, .string ⟨#[107]⟩, .string ⟨#[118]⟩, .int .i64 0] 52 (0, 0))) :
    BatIs w (.slice none 0 0) (.slice (some ⟨P, 0, none⟩) 1 1) (.slice (some ⟨Q, 0, none⟩) 1 1) [] oneH oneW :=
  ⟨IsEnts.nil _, ents_one hp, wrBlk_is hq, by decide, by decide, by decide, one_ok⟩

set_option maxRecDepth 100000 in
set_option maxHeartbeats 4000000 in
theorem one_any (w : World) : Calls Tryz.prog 59 #[] w fun e w' => ∃ P Q, e = .returned (.agg #[.slice none 0 0, .slice (some ⟨P, 0, none⟩) 1 1, .slice (some ⟨Q, 0, none⟩) 1 1]) ∧ BatIs w' (.slice none 0 0) (.slice (some ⟨P, 0, none⟩) 1 1) (.slice (some ⟨Q, 0, none⟩) 1 1) [] oneH oneW ∧ Below w.heap.size w w' := by
  go_enter Tryz.func59, Tryz.ntmps59
  go_wp2
  refine bodyPost_ret (v := .agg #[.slice none 0 0, .slice (some ⟨w.heap.size + 1, 0, none⟩) 1 1, .slice (some ⟨w.heap.size + 1 + 1, 0, none⟩) 1 1]) (by simp [results, Tryz.results59, go_sem]) rfl ?_
  refine ⟨_, _, rfl, bat_one ?_ ?_, (((Below.refl _ _).alloc (Nat.le_refl _) _).alloc (by simp) _).alloc (by simp; omega) _⟩
  · have h := heap_alloc2_old (w.alloc (.cells #[.slice none 0 0, .slice (some ⟨w.heap.size + 1, 0, none⟩) 1 1, .slice (some ⟨w.heap.size + 1 + 1, 0, none⟩) 1 1] 25)) (.cells #[.int .i64 3, .int .i64 7] 72) (.cells #[.int .i64 7, .int .i64 3, .int .i64 1, .string ⟨#[107]⟩, .string ⟨#[118]⟩, .int .i64 0] 52)
    rw [World.size_alloc] at h
    exact h
  · have h := heap_alloc2_new (w.alloc (.cells #[.slice none 0 0, .slice (some ⟨w.heap.size + 1, 0, none⟩) 1 1, .slice (some ⟨w.heap.size + 1 + 1, 0, none⟩) 1 1] 25)) (.cells #[.int .i64 3, .int .i64 7] 72) (.cells #[.int .i64 7, .int .i64 3, .int .i64 1, .string ⟨#[107]⟩, .string ⟨#[118]⟩, .int .i64 0] 52)
    rw [World.size_alloc] at h
    exact h

/-- Two batches' cells, in two blocks. -/
def two2 (w : World) (B C : Nat) (a b c d e g : Value) : Prop :=
  w.cell? ⟨B, 0, none⟩ = some a ∧ w.cell? ⟨B, 1, none⟩ = some b ∧ w.cell? ⟨B, 2, none⟩ = some c ∧ w.cell? ⟨C, 0, none⟩ = some d ∧ w.cell? ⟨C, 1, none⟩ = some e ∧ w.cell? ⟨C, 2, none⟩ = some g
theorem two2.below {w w' : World} {B C : Nat} {a b c d e g : Value} {m : Nat} (h : two2 w B C a b c d e g) (hb : Below m w w') (hm : B < m) (hm2 : C < m) : two2 w' B C a b c d e g :=
  ⟨(hb.cell hm).trans h.1, (hb.cell hm).trans h.2.1, (hb.cell hm).trans h.2.2.1, (hb.cell hm2).trans h.2.2.2.1, (hb.cell hm2).trans h.2.2.2.2.1, (hb.cell hm2).trans h.2.2.2.2.2⟩
theorem two2_of {w : World} {B C : Nat} {a b c d e g : Value} (h1 : batAt w B a b c) (h2 : batAt w C d e g) : two2 w B C a b c d e g := ⟨h1.1, h1.2.1, h1.2.2, h2⟩

theorem brightB_as (vf vh vw : Value) (f h : List Ent) (l : List Wr) (e : Nat) (pl : Int) (w : World) (hx : BatIs w vf vh vw f h l) (hg : errT w) (hb : batF f h l = (e, pl)) :
    Calls Tryz.prog 20 #[.agg #[vf, vh, vw]] w (VRightIs w (e, pl)) := by
  rw [← hb]; exact brightB vf vh vw f h l w hx hg

end Go.Proofs.YtgelfjcmggicdaaGreatDoor
/-
  body.Write and body.Read as the laws meet them; the fact that these laws ask first.
-/
namespace Go.Proofs.YtgelfjcmggicdaaGreatDoor
open Go.RowKit

theorem unb_err {s : List UInt8} {x : Nat} {pl : Int} (h : unbF s = .inl (x, pl)) {w w' : World} {e : Ending} (hr : BReadIs w s e w') : x ≠ 0 := by
  obtain ⟨_, ⟨x', pl', err, hx, hx0, _⟩ | ⟨f, h', l, vf, vh, vw, hx, _⟩⟩ := hr
  · rw [h] at hx; injection hx with hx; injection hx with h1 h2; rw [h1]; exact hx0
  · rw [h] at hx; cases hx
theorem bwrite_ok (vf vh vw : Value) (f h : List Ent) (l : List Wr) (S : ByteArray) (w : World) (hx : BatIs w vf vh vw f h l) (hg : errT w) (h0 : rightB f h l) (hS : bodyL f h l = S.data.toList) (hs : S.size ≤ 20000) :
    Calls Tryz.prog 13 #[.agg #[vf, vh, vw]] w fun e w' => e = .returned (.tuple #[.string S, .nilIface]) ∧ Below w.heap.size w w' := by
  refine (bwrite_any vf vh vw f h l w hx hg).mono ?_
  rintro e w' ⟨err, rfl, ha, hb⟩
  have h1 : bodyF f h l = (bodyL f h l, 0, -1) := bodyF_ok h0 (by rw [hS, ← size_data]; omega)
  rw [h1] at ha ⊢
  obtain rfl := ha.nil rfl
  refine ⟨?_, hb⟩
  rw [hS, bs_of]
theorem bwrite_err (vf vh vw : Value) (f h : List Ent) (l : List Wr) (w : World) (hx : BatIs w vf vh vw f h l) (hg : errT w) (h0 : ¬ (rightB f h l ∧ (bodyL f h l).length ≤ 20000)) :
    Calls Tryz.prog 13 #[.agg #[vf, vh, vw]] w fun e w' => ∃ t u x, e = .returned (.tuple #[.string ⟨#[]⟩, .iface t u]) ∧ isErr w' (.iface t u) (x : Nat) ∧ (rightB f h l → x = 4) ∧ Below w.heap.size w w' := by
  refine (bwrite_any vf vh vw f h l w hx hg).mono ?_
  rintro e w' ⟨err, rfl, ha, hb⟩
  by_cases hr : rightB f h l
  · have h1 : bodyF f h l = ([], 4, -1) := bodyF_big hr (by
      rcases Nat.lt_or_ge 20000 (bodyL f h l).length with h' | h'
      · exact h'
      · exact absurd ⟨hr, h'⟩ h0)
    rw [h1] at ha ⊢
    have hi := ha.isErr (by decide)
    obtain ⟨t, u, rfl⟩ := ha.iface (by decide)
    exact ⟨t, u, 4, rfl, hi, fun _ => rfl, hb⟩
  · have hr0 : (batF f h l).1 ≠ 0 := hr
    rw [bodyF_bad hr0] at ha ⊢
    have hi := ha.isErr hr0
    obtain ⟨t, u, rfl⟩ := ha.iface hr0
    exact ⟨t, u, _, rfl, hi, fun h => absurd h hr, hb⟩
theorem bread_ok (s : ByteArray) (f h : List Ent) (l : List Wr) (w : World) (hs : s.size ≤ maxLen) (hg : errT w) (hu : unbF s.data.toList = .inr (f, h, l)) :
    Calls Tryz.prog 16 #[.string s] w fun e w' => ∃ a1 c1 a2 c2 a3 c3, e = .returned (.tuple #[.agg #[.slice a1 f.length c1, .slice a2 h.length c2, .slice a3 l.length c3], .nilIface]) ∧ BatIs w' (.slice a1 f.length c1) (.slice a2 h.length c2) (.slice a3 l.length c3) f h l ∧ Below w.heap.size w w' := by
  refine (bread_any s w hs hg).mono ?_
  rintro e w' ⟨hb, ⟨x, pl, err, hx, _⟩ | ⟨f', h', l', vf, vh, vw, hx, rfl, ho⟩⟩
  · rw [hu] at hx; cases hx
  · rw [hu] at hx
    injection hx with hx
    injection hx with h1 h2
    injection h2 with h2 h3
    subst h1 h2 h3
    obtain ⟨a1, c1, rfl, _⟩ := ho.1.is.form
    obtain ⟨a2, c2, rfl, _⟩ := ho.2.1.is.form
    obtain ⟨a3, c3, rfl, _⟩ := ho.2.2.1.is.form
    exact ⟨a1, c1, a2, c2, a3, c3, rfl, ho.bat, hb⟩
theorem bread_err (s : ByteArray) (x : Nat) (pl : Int) (w : World) (hs : s.size ≤ maxLen) (hg : errT w) (hu : unbF s.data.toList = .inl (x, pl)) :
    Calls Tryz.prog 16 #[.string s] w fun e w' => ∃ t u, e = .returned (.tuple #[.agg #[.slice none 0 0, .slice none 0 0, .slice none 0 0], .iface t u]) ∧ isErr w' (.iface t u) (x : Nat) ∧ Below w.heap.size w w' := by
  refine (bread_any s w hs hg).mono ?_
  rintro e w' ⟨hb, ⟨x', pl', err, hx, hx0, rfl, ha⟩ | ⟨f', h', l', vf, vh, vw, hx, _⟩⟩
  · rw [hu] at hx
    injection hx with hx
    injection hx with h1 h2
    subst h1 h2
    have hi := ha.isErr hx0
    obtain ⟨t, u, rfl⟩ := ha.iface hx0
    exact ⟨t, u, rfl, hi, hb⟩
  · rw [hu] at hx; cases hx

theorem one_vec : vwriteL oneH = [1, 3, 0, 7] := by
  have h : runsL oneH = [[⟨3, 7⟩]] := by decide +kernel
  unfold vwriteL
  rw [h]
  simp [runsB, runB, timesB, putL_small]
theorem nil_vec : vwriteL [] = [0] := by
  have h : runsL [] = [] := by decide +kernel
  unfold vwriteL
  rw [h]
  simp [runsB, putL_small]
theorem one_tab : tabK [] (keysW oneW) = [⟨#[107]⟩] := by decide +kernel
theorem one_at : atK [] (keysW oneW) = [0] := by decide +kernel
theorem one_body : bodyL [] oneH oneW = [0, 1, 3, 0, 7, 1, 1, 107, 1, 1, 7, 0, 0, 1, 118] := by
  unfold bodyL
  rw [one_tab, one_at, one_vec, nil_vec]
  have hp : placeF oneH 3 = 0 := by decide +kernel
  have ht : tailL ⟨7, 3, 1, ⟨#[107]⟩, ⟨#[118]⟩, 0⟩ = [1, 118] := by
    unfold tailL tailB numB valB
    rw [if_neg (by decide), if_neg (by decide), if_pos (by decide), app_data, spanB_data]
    unfold spanL
    rw [show ((⟨#[118]⟩ : ByteArray).data.toList) = [118] from rfl, putL_small (by decide)]
    rfl
  simp only [oneW, rowB, oneB, hp, ht, textsB, List.flatMap_cons, List.flatMap_nil, spanL]
  simp [putL_small]
def oneS : ByteArray := ⟨#[0, 1, 3, 0, 7, 1, 1, 107, 1, 1, 7, 0, 0, 1, 118]⟩
theorem one_bytes : bodyL [] oneH oneW = oneS.data.toList := one_body
theorem one_rightB : rightB [] oneH oneW := by unfold rightB; rw [one_right]
theorem one_read : unbF oneS.data.toList = .inr ([], oneH, oneW) := by
  have h := unb_body one_rightB [] (by rw [one_body]; decide)
  rw [List.append_nil, if_pos rfl, one_bytes] at h
  exact h

set_option maxRecDepth 100000 in
set_option maxHeartbeats 4000000 in
theorem bodied_any (w : World) (hg : errT w) : Calls Tryz.prog 18 #[] w fun e w' => e = .returned (.bool true) ∧ Below w.heap.size w w' := by
  have HG := Lib.hid hg
  clear hg
  obtain ⟨S, hS⟩ : ∃ S, oneS = S := ⟨_, rfl⟩
  have HSB : Hid (bodyL [] oneH oneW = S.data.toList) := Lib.hid (by rw [← hS]; exact one_bytes)
  have HSR : Hid (unbF S.data.toList = .inr ([], oneH, oneW)) := Lib.hid (by rw [← hS]; exact one_read)
  have hs15 : S.size = 15 := by rw [← hS]; rfl
  have HST : Hid ((S.toList == [0, 1, 3, 0, 7, 1, 1, 107, 1, 1, 7, 0, 0, 1, 118]) = true) := Lib.hid (by rw [← hS]; decide +kernel)
  clear hS
  go_enter Tryz.func18, Tryz.ntmps18
  go_wp2_with fail
  refine (one_any _).mono ?_
  rintro r w1 ⟨P1, Q1, rfl, hx1, hb1⟩
  have HX1 := Lib.hid hx1
  have HB1 := Lib.hid hb1
  clear hx1 hb1
  go_wp2_with fail
  refine (bwrite_ok _ _ _ [] oneH oneW S w1 HX1.out (HG.out.below HB1.out) one_rightB HSB.out (by omega)).mono ?_
  rintro r w2 ⟨rfl, hb2⟩
  have HB2 : Hid (Below w.heap.size w w2) := HB1.out.trans (hb2.mono HB1.out.size)
  clear hb2 HX1
  go_wp2_with fail
  refine (bread_ok S [] oneH oneW w2 (by unfold maxLen; omega) (HG.out.below HB2.out) HSR.out).mono ?_
  rintro r w3 ⟨a1, c1, a2, c2, a3, c3, rfl, hx3, hb3⟩
  have HX3 : Hid (BatIs w3 (.slice a1 0 c1) (.slice a2 1 c2) (.slice a3 1 c3) [] oneH oneW) := Lib.hid hx3
  have HB3 : Hid (Below w.heap.size w w3) := HB2.out.trans (hb3.mono HB2.out.size)
  clear hx3 hb3
  have e0 : ([] : List Ent).length = 0 := rfl
  have e1 : oneH.length = 1 := rfl
  have e2 : oneW.length = 1 := rfl
  rw [e0, e1, e2]
  clear e0 e1 e2
  go_wp2
  have HA : Hid (batAt (w3.alloc (.cells #[.slice a1 0 c1, .slice a2 1 c2, .slice a3 1 c3] 25)) w3.heap.size (.slice a1 0 c1) (.slice a2 1 c2) (.slice a3 1 c3)) := Lib.hid (batAt_new _ _ _ _ _)
  have HX : Hid (BatIs (w3.alloc (.cells #[.slice a1 0 c1, .slice a2 1 c2, .slice a3 1 c3] 25)) (.slice a1 0 c1) (.slice a2 1 c2) (.slice a3 1 c3) [] oneH oneW) := Lib.hid (HX3.out.alloc _)
  have HW0 : Hid (Below w.heap.size w (w3.alloc (.cells #[.slice a1 0 c1, .slice a2 1 c2, .slice a3 1 c3] 25))) := Lib.hid (HB3.out.alloc HB3.out.size _)
  have HZB : Hid (w3.heap.size < (w3.alloc (.cells #[.slice a1 0 c1, .slice a2 1 c2, .slice a3 1 c3] 25)).heap.size) := Lib.hid (by simp)
  clear HX3 HB3
  generalize w3.alloc (.cells #[.slice a1 0 c1, .slice a2 1 c2, .slice a3 1 c3] 25) = W at HA HX HW0 HZB ⊢
  generalize w3.heap.size = B at HA HZB ⊢
  have HB0 : Hid (Below W.heap.size W W.drew) := Lib.hid (Below.refl _ _).drew
  have HE : Hid (∀ w', Below W.heap.size W w' → Below w.heap.size w w') := Lib.hid (fun w' hx => HW0.out.trans (hx.mono HW0.out.size))
  have hA0 := HA.out
  unfold batAt at hA0
  have hst := HST.out
  go_region_held3 (fun w' => w'.cell? ⟨B, 0, none⟩ = some (.slice a1 0 c1) ∧ w'.cell? ⟨B, 1, none⟩ = some (.slice a2 1 c2) ∧ w'.cell? ⟨B, 2, none⟩ = some (.slice a3 1 c3)) (first | exact hA0 | exact k1 | exact k2 | fail) (first
    | (go_at_call 59; ((with_reducible refine (one_any W.drew).mono ?_); rintro r w6 ⟨P3, Q3, rfl, hx6, hb6⟩; have HX6 := Lib.hid hx6; have HB6 : Hid (Below W.heap.size W w6) := Lib.hid (undrew3 hb6); have k1 := HA.out.below HB6.out HZB.out; unfold batAt at k1; clear hb6 hx6))
    | (go_at_call 22; ((with_reducible refine (bsame_as _ _ _ _ _ _ [] oneH oneW [] oneH oneW true w6 (HX.out.below HB6.out) HX6.out one_same).mono ?_); rintro r w7 ⟨rfl, hb7⟩; have HB7 : Hid (Below W.heap.size W w7) := HB6.out.trans (hb7.mono HB6.out.size); have k2 := HA.out.below HB7.out HZB.out; unfold batAt at k2; clear hb7))
    | fail)
  go_wp2
  go_ret
  exact ⟨rfl, HE.out _ HB7.out⟩
end Go.Proofs.YtgelfjcmggicdaaGreatDoor
/-
  The contract of the laws' 'pick': one of n that a number stands for.
-/
namespace Go.Proofs.YtgelfjcmggicdaaGreatDoor
open Go.RowKit

/-- One of n. -/
def pickN (a n : Int) : Int := (a % 18446744073709551616) % n
theorem pickN_pos {a n : Int} (h : 0 < n) : 0 ≤ pickN a n ∧ pickN a n < n := ⟨Int.emod_nonneg _ (by omega), Int.emod_lt_of_pos _ h⟩

set_option maxRecDepth 100000 in
theorem pick_any (a n : Int) (w : World) (h0 : 0 < n) (h1 : n ≤ 9223372036854775807) :
    Calls Tryz.prog 23 #[.int .i64 a, .int .i64 n] w fun e w' => e = .returned (.int .i64 (pickN a n)) ∧ w = w' := by
  obtain ⟨q, hq'⟩ : ∃ q, IntKind.u64.wrap a = q := ⟨_, rfl⟩
  have hq : 0 ≤ q ∧ q ≤ 18446744073709551615 := by rw [← hq', IntKind.wrap_u64]; omega
  have hr := Int.emod_nonneg q (show n ≠ 0 by omega)
  have hr2 := Int.emod_lt_of_pos q h0
  have hw : Hid (wrap64 (q % n) = pickN a n) := by
    rw [IntWalk.wrap64_in _ ⟨by omega, by omega⟩, ← hq', IntKind.wrap_u64]; rfl
  clear hr hr2
  go_enter Tryz.func23, Tryz.ntmps23
  go_wp2
  go_ret
  refine ⟨?_, rfl⟩
  rw [← hw.out]; rfl
end Go.Proofs.YtgelfjcmggicdaaGreatDoor
/-
  The times of 201 replicas, as an array's cells.
-/
namespace Go.Proofs.YtgelfjcmggicdaaGreatDoor
open Go.RowKit

def arrA (f : Nat → Int) : Array Value := ((List.range 201).map fun i => Value.int .i64 (f i)).toArray
theorem arrA_size (f : Nat → Int) : (arrA f).size = 201 := by simp [arrA]
theorem arrA_at (f : Nat → Int) (i : Nat) (h : i < 201) : (arrA f)[i]? = some (.int .i64 (f i)) := by
  unfold arrA
  simp [h]
theorem arrA_ext {f g : Nat → Int} (h : ∀ i, i < 201 → f i = g i) : arrA f = arrA g := by
  unfold arrA
  congr 1
  exact List.map_congr_left fun i hi => by rw [h i (by simpa using hi)]
/-- One of them another one. -/
def updT (f : Nat → Int) (r : Nat) (x : Int) : Nat → Int := fun i => if i = r then x else f i
theorem arrA_set (f : Nat → Int) (r : Nat) (x : Int) (h : r < 201) : (arrA f).setIfInBounds r (.int .i64 x) = arrA (updT f r x) := by
  apply Array.ext_getElem?
  intro i
  rw [Array.getElem?_setIfInBounds, arrA_size]
  by_cases hi : i < 201
  · by_cases e : r = i
    · subst e; rw [if_pos rfl, if_pos h, arrA_at _ r hi]; unfold updT; rw [if_pos rfl]
    · rw [if_neg e, arrA_at _ i hi, arrA_at _ i hi]; unfold updT; rw [if_neg (by omega)]
  · rw [if_neg (by omega), Array.getElem?_eq_none (by rw [arrA_size]; omega), Array.getElem?_eq_none (by rw [arrA_size]; omega)]
theorem arr_info : (Tryz.prog.info? 182).map (·.size) = some 201 := by kernel_rfl
theorem arr_infoA (f : Nat → Int) : (Tryz.prog.info? 182).map (·.size) = some (arrA f).size := by rw [arrA_size, arr_info]
theorem arrA_one (f : Nat → Int) : (arrA f).all (·.oneCell') = true := by
  rw [Array.all_eq_true_iff_forall_mem]
  intro v hv
  unfold arrA at hv
  simp only [List.mem_toArray, List.mem_map] at hv
  obtain ⟨i, _, rfl⟩ := hv
  rfl
def arr0 : Array Value := Array.replicate 201 (.int .i64 0)
theorem arr0_is : arr0 = arrA fun _ => 0 := by
  apply Array.ext_getElem?
  intro i
  unfold arr0
  rw [Array.getElem?_replicate]
  by_cases hi : i < 201
  · rw [if_pos hi, arrA_at _ i hi]
  · rw [if_neg hi, Array.getElem?_eq_none (by rw [arrA_size]; omega)]

theorem take_snocE {l : List Ent} {k : Nat} {t : Ent} (h : l[k]? = some t) : l.take (k + 1) = l.take k ++ [t] := by
  obtain ⟨hk, ht⟩ := List.getElem?_eq_some_iff.1 h
  rw [List.take_succ_eq_append_getElem hk, ht]
/-- What entries do to them. -/
def foldT (f : Nat → Int) (l : List Ent) : Nat → Int := l.foldl (fun f e => updT f e.rep.toNat (max (f e.rep.toNat) e.time)) f
theorem foldT_nil (f : Nat → Int) : foldT f [] = f := rfl
theorem foldT_snoc (f : Nat → Int) (l : List Ent) (e : Ent) : foldT f (l ++ [e]) = updT (foldT f l) e.rep.toNat (max (foldT f l e.rep.toNat) e.time) := by
  unfold foldT; rw [List.foldl_append]; rfl
theorem foldT_is (l : List Ent) : ∀ (f : Nat → Int) (last : Int) (r : Nat), okV last l → (∀ r, 0 ≤ f r) → foldT f l r = max (f r) (ofF l r) := by
  induction l with
  | nil => intro f last r _ hf; show f r = max (f r) 0; have := hf r; omega
  | cons e t ih =>
    intro f last r h hf
    have hm := okV_mem h e List.mem_cons_self
    show foldT (updT f e.rep.toNat (max (f e.rep.toNat) e.time)) t r = _
    rw [ih _ e.rep r h.2 (fun r => by unfold updT; split <;> first | (have := hf e.rep.toNat; omega) | exact hf r)]
    unfold updT
    by_cases hr : r = e.rep.toNat
    · subst hr
      have e1 : ((e.rep.toNat : Nat) : Int) = e.rep := by omega
      rw [if_pos rfl, e1, ofF_at rfl, ofF_low h.2 (Int.le_refl _)]; omega
    · rw [if_neg hr, ofF_on (by omega)]
/-- Of both, one behind the other. -/
def bothT (a b : List Ent) : Nat → Int := foldT (foldT (fun _ => 0) a) b
theorem bothT_is {a b : List Ent} {x y : Int} (ha : okV x a) (hb : okV y b) (r : Nat) : bothT a b r = jF a b r := by
  unfold bothT jF
  have h1 : ∀ r, foldT (fun _ => 0) a r = max 0 (ofF a r) := fun r => foldT_is a _ x r ha (fun _ => Int.le_refl _)
  rw [foldT_is b _ y r hb (fun r => by rw [h1]; omega), h1]
  have := ofF_bd ha r
  omega
theorem tab_both {a b : List Ent} {x y : Int} (ha : okV x a) (hb : okV y b) (n : Nat) : tab (bothT a b) n = tab (jF a b) n := tab_congr fun r _ => bothT_is ha hb r

/-- The array in the call's first block. -/
def TJ (F : Nat → Int) (w wr : World) : Prop := wr.heap[w.heap.size]? = some (.cells (arrA F) 182 (0, 0)) ∧ Below w.heap.size w wr
theorem TJ.start (w : World) : TJ (fun _ => 0) w (w.alloc (.cells (arrA fun _ => 0) 182)) := ⟨heap_alloc_new _ _, (Below.refl _ _).alloc (Nat.le_refl _) _⟩
theorem TJ.lt {F : Nat → Int} {w wr : World} (h : TJ F w wr) : w.heap.size < wr.heap.size := (Array.getElem?_eq_some_iff.1 h.1).1
theorem TJ.below {F : Nat → Int} {w wr w' : World} (h : TJ F w wr) (hb : Below wr.heap.size wr w') : TJ F w w' :=
  ⟨(hb.block _ h.lt).trans h.1, h.2.trans (hb.mono (Nat.le_of_lt h.lt))⟩
theorem TJ.alloc {F : Nat → Int} {w wr : World} (h : TJ F w wr) (o : Obj) : TJ F w (wr.alloc o) := h.below ((Below.refl _ _).alloc (Nat.le_refl _) o)
theorem TJ.drew {F : Nat → Int} {w wr : World} (h : TJ F w wr) : TJ F w wr.drew := ⟨by rw [heap_drew]; exact h.1, h.2.drew⟩
theorem TJ.set {F : Nat → Int} {w wr : World} (h : TJ F w wr) (r : Nat) (hr : r < 201) (x : Int) : TJ (updT F r x) w (wr.setCell ⟨w.heap.size, r, none⟩ (.int .i64 x)) :=
  ⟨by rw [heap_setCell_same _ _ _ _ _ _ h.1, arrA_set F r x hr], h.2.setCell (Nat.le_refl _) _⟩
theorem TJ.cells {F : Nat → Int} {w wr : World} (h : TJ F w wr) (r : Nat) (hr : r < 201) : wr.cell? ⟨w.heap.size, r, none⟩ = some (.int .i64 (F r)) ∧ wr.frozen? ⟨w.heap.size, r, none⟩ = false :=
  ⟨by rw [cell_of_row _ _ _ _ _ _ h.1, arrA_at _ _ hr], frozen_of_row _ _ _ _ _ h.1⟩
end Go.Proofs.YtgelfjcmggicdaaGreatDoor
/-
  The contract of vector.Join.
-/
namespace Go.Proofs.YtgelfjcmggicdaaGreatDoor
open Go.RowKit

def JoinIs (w : World) (a b : List Ent) (e : Ending) (w' : World) : Prop :=
  ∃ v, e = .returned (.tuple #[v, noV (joinR a b).1]) ∧ ownsE w' w.heap.size v (joinR a b).2 ∧ Below w.heap.size w w'

theorem zero201 : Tryz.zeroCells182 = arrA fun _ => 0 := by rw [← arr0_is]; kernel_rfl
theorem zero201_w (w : World) : w.alloc (.cells Tryz.zeroCells182 182) = w.alloc (.cells (arrA fun _ => 0) 182) := by rw [zero201]

theorem idx_0 (x y : Value) (w : World) : (Instr.index 168 (.agg #[x, y]) (.int .i64 0)).run Tryz.prog w = .ok x w := by kernel_rfl
theorem idx_1 (x y : Value) (w : World) : (Instr.index 168 (.agg #[x, y]) (.int .i64 1)).run Tryz.prog w = .ok y w := by kernel_rfl

set_option maxRecDepth 100000 in
theorem idx_arr (G : Nat → Int) (k : Nat) (x : Int) (w : World) (h : k < 201) (hx : G k = x) : (Instr.index 182 (.agg (arrA G)) (.int .i64 (k : Int))).run Tryz.prog w = .ok (.int .i64 x) w := by
  have h2 := arrA_at G k h
  rw [hx] at h2
  simp [Instr.index, run_underlying Tryz.underlying182, asIntOf, h2, go_sem]
  intro hc; omega

/-- How far the two are in the array. -/
def JL (a b : List Ent) (w : World) (k : Nat) (wr : World) : Prop :=
  (k = 0 ∧ TJ (fun _ => 0) w wr) ∨ (k = 1 ∧ rightV a ∧ TJ (foldT (fun _ => 0) a) w wr) ∨ (k = 2 ∧ rightV a ∧ rightV b ∧ TJ (bothT a b) w wr)
theorem joinR_errs {a b : List Ent} {e : Nat} (h : joinR a b = (e, [])) (w w' : World) (he : e ≠ 0) (hb : Below w.heap.size w w') : JoinIs w a b (.returned (.tuple #[.slice none 0 0, .iface 27 (.int .i64 (e : Nat))])) w' := by
  refine ⟨.slice none 0 0, ?_, ?_, hb⟩
  · rw [h]; simp only; rw [noV_e he]
  · rw [h]; exact ownsE_nil _ _
theorem joinR_good {a b : List Ent} {l : List Ent} (h : joinR a b = (0, l)) (w w' : World) (v : Value) (ho : ownsE w' w.heap.size v l) (hb : Below w.heap.size w w') : JoinIs w a b (.returned (.tuple #[v, .nilIface])) w' := by
  refine ⟨v, ?_, ?_, hb⟩
  · rw [h]; rfl
  · rw [h]; exact ho

set_option maxRecDepth 100000 in
set_option maxHeartbeats 4000000 in
theorem vjoin_any (va vb : Value) (a b : List Ent) (w : World) (ha : IsEnts w va a) (hb : IsEnts w vb b) (hla : a.length ≤ 9223372036854775807) (hlb : b.length ≤ 9223372036854775807) (hg : errT w) :
    Calls Tryz.prog 65 #[va, vb] w (JoinIs w a b) := by
  have HVA := Lib.hid ha
  have HVB := Lib.hid hb
  have HLA := Lib.hid hla
  have HLB := Lib.hid hlb
  have HG := Lib.hid hg
  obtain ⟨aa, ca, rfl, fa⟩ := ha.form
  obtain ⟨ab, cb, rfl, fb⟩ := hb.form
  have FA := Lib.hid fa
  have FB := Lib.hid fb
  obtain ⟨na, hna⟩ : ∃ n, n = a.length := ⟨_, rfl⟩
  obtain ⟨nb, hnb⟩ : ∃ n, n = b.length := ⟨_, rfl⟩
  have HNA := Lib.hid hna
  have HNB := Lib.hid hnb
  rw [← hna] at HVA ⊢
  rw [← hnb] at HVB ⊢
  clear ha hb hla hlb hg fa fb hna hnb
  have i0 := idx_0
  have i1 := idx_1
  go_enter Tryz.func65, Tryz.ntmps65
  go_wp2
  rw [zero201_w]
  go_loopw [18] (fun i wr => ∃ k : Nat, k ≤ 2 ∧ i = .int .i64 k ∧ JL a b w k wr) (fun i _ => 2 - (intOf i).toNat)
  case atStart => exact ⟨0, by omega, rfl, .inl ⟨rfl, TJ.start w⟩⟩
  case round =>
    obtain ⟨k, hk, rfl, hj⟩ := hrel
    rcases hj with ⟨rfl, hT⟩ | ⟨rfl, hra, hT⟩ | ⟨rfl, hra, hrb, hT⟩
    · have HT := Lib.hid hT
      have HB := Lib.hid hT.2
      have hzr := hT.lt
      clear hT
      by_cases h0 : (vrightF a).1 = 0
      · have H0 := Lib.hid h0
        have HRA := Lib.hid ((vright_ok a).1 h0)
        clear h0
        go_wp2_with fail
        refine (vbare_any _ a _ (HVA.out.below HB.out) HLA.out (HG.out.below HB.out)).mono ?_
        rintro r w1 ⟨rfl, hb1⟩
        rw [H0.out, noV_0]
        have HT1 := Lib.hid (HT.out.below hb1)
        clear hb1
        go_wp2
        go_loopw [28] (fun i wr => ∃ k : Nat, k ≤ na ∧ i = .int .i64 k ∧ TJ (foldT (fun _ => 0) (a.take k)) w wr) (fun i _ => na - (intOf i).toNat)
        case atStart => exact ⟨0, by omega, rfl, HT1.out⟩
        case round =>
          obtain ⟨k, hk, rfl, hT⟩ := hrel
          by_cases hlt : k < na
          · obtain ⟨t, ht⟩ : ∃ t, a[k]? = some t := ⟨a[k]'(by have := HNA.out; omega), List.getElem?_eq_getElem _⟩
            obtain ⟨b1, o1, rfl, hb1, p0, p1⟩ := FA.out k t ht
            have hm := okV_mem HRA.out.2 t (List.mem_of_getElem? ht)
            have hsn := take_snocE ht
            obtain ⟨rep, time⟩ := t
            simp only at p0 p1 hm
            obtain ⟨r, rfl⟩ := Int.eq_ofNat_of_zero_le hm.1
            have hr : r < 201 := by omega
            have hr' : (r : Int) < 201 := by omega
            have hr0 : (0 : Int) ≤ (r : Int) := by omega
            have q0 := (hT.2.cell (p := ⟨b1, o1 + k * 2, none⟩) hb1).trans p0
            have q1 := (hT.2.cell (p := ⟨b1, o1 + k * 2 + 1, none⟩) hb1).trans p1
            obtain ⟨c0, y0⟩ := (hT.alloc (.cells #[.int .i64 (r : Int), .int .i64 time] 72)).cells r hr
            have hzt := hT.lt
            have h16 : na ≤ 16 := by rw [HNA.out]; exact HRA.out.1
            have HT0 := Lib.hid hT
            have HT2 := Lib.hid (hT.alloc (.cells #[.int .i64 (r : Int), .int .i64 time] 72))
            obtain ⟨x, hx⟩ : ∃ x, foldT (fun _ => 0) (a.take k) r = x := ⟨_, rfl⟩
            obtain ⟨m, hmx⟩ : ∃ m, max x time = m := ⟨_, rfl⟩
            have hmx2 : (if x < time then time else x) = m := by rw [← hmx]; split <;> omega
            rw [hx] at c0
            have HST : Hid (foldT (fun _ => 0) (a.take (k + 1)) = updT (foldT (fun _ => 0) (a.take k)) r m) := Lib.hid (show foldT (fun _ => 0) (a.take (k + 1)) = updT (foldT (fun _ => 0) (a.take k)) r m by rw [hsn, foldT_snoc]; simp only [Int.toNat_natCast]; rw [hx, hmx])
            have HRL := Lib.hid hr
            clear hm hsn ht p0 p1 hT hx hr
            go_wp2
            go_region
            all_goals
              go_wp2
              go_roundw
              case rel => exact ⟨k + 1, by omega, by go_num, by rw [HST.out]; first | exact ((HT0.out.set r HRL.out m).alloc _).drew | exact (HT2.out.set r HRL.out m).drew | exact HT2.out.drew.set r HRL.out m | exact HT2.out.set r HRL.out m⟩
              case measure => simp [intOf]; omega
          · have hkn : k = na := by omega
            have HT3 : Hid (TJ (foldT (fun _ => 0) a) w wr) := Lib.hid (show TJ (foldT (fun _ => 0) a) w wr by
              have h := hT
              rw [hkn, HNA.out, List.take_length] at h; exact h)
            clear hT hkn
            go_wp2
            go_roundw
            case rel => exact ⟨1, by omega, rfl, .inr (.inl ⟨rfl, HRA.out, HT3.out⟩)⟩
            case measure => simp [intOf]
      · have HJ := Lib.hid (joinR_a (b := b) h0)
        have H0 := Lib.hid h0
        have HQ := Lib.hid (noV_e h0)
        clear h0
        go_wp2_with fail
        refine (vbare_any _ a _ (HVA.out.below HB.out) HLA.out (HG.out.below HB.out)).mono ?_
        rintro r w1 ⟨rfl, hb1⟩
        rw [HQ.out]
        have HB1 := Lib.hid (HT.out.below hb1).2
        clear hb1
        go_wp2
        go_ret2
        exact joinR_errs HJ.out w _ H0.out HB1.out
    · have HT := Lib.hid hT
      have HB := Lib.hid hT.2
      have hzr := hT.lt
      have HRA := Lib.hid hra
      clear hT hra
      by_cases h0 : (vrightF b).1 = 0
      · have H0 := Lib.hid h0
        have HRB := Lib.hid ((vright_ok b).1 h0)
        clear h0
        go_wp2_with fail
        refine (vbare_any _ b _ (HVB.out.below HB.out) HLB.out (HG.out.below HB.out)).mono ?_
        rintro r w1 ⟨rfl, hb1⟩
        rw [H0.out, noV_0]
        have HT1 := Lib.hid (HT.out.below hb1)
        clear hb1
        go_wp2
        go_loopw [28] (fun i wr => ∃ k : Nat, k ≤ nb ∧ i = .int .i64 k ∧ TJ (foldT (foldT (fun _ => 0) a) (b.take k)) w wr) (fun i _ => nb - (intOf i).toNat)
        case atStart => exact ⟨0, by omega, rfl, HT1.out⟩
        case round =>
          obtain ⟨k, hk, rfl, hT⟩ := hrel
          by_cases hlt : k < nb
          · obtain ⟨t, ht⟩ : ∃ t, b[k]? = some t := ⟨b[k]'(by have := HNB.out; omega), List.getElem?_eq_getElem _⟩
            obtain ⟨b1, o1, rfl, hb1, p0, p1⟩ := FB.out k t ht
            have hm := okV_mem HRB.out.2 t (List.mem_of_getElem? ht)
            have hsn := take_snocE ht
            obtain ⟨rep, time⟩ := t
            simp only at p0 p1 hm
            obtain ⟨r, rfl⟩ := Int.eq_ofNat_of_zero_le hm.1
            have hr : r < 201 := by omega
            have hr' : (r : Int) < 201 := by omega
            have hr0 : (0 : Int) ≤ (r : Int) := by omega
            have q0 := (hT.2.cell (p := ⟨b1, o1 + k * 2, none⟩) hb1).trans p0
            have q1 := (hT.2.cell (p := ⟨b1, o1 + k * 2 + 1, none⟩) hb1).trans p1
            obtain ⟨c0, y0⟩ := (hT.alloc (.cells #[.int .i64 (r : Int), .int .i64 time] 72)).cells r hr
            have hzt := hT.lt
            have h16 : nb ≤ 16 := by rw [HNB.out]; exact HRB.out.1
            have HT0 := Lib.hid hT
            have HT2 := Lib.hid (hT.alloc (.cells #[.int .i64 (r : Int), .int .i64 time] 72))
            obtain ⟨x, hx⟩ : ∃ x, foldT (foldT (fun _ => 0) a) (b.take k) r = x := ⟨_, rfl⟩
            obtain ⟨m, hmx⟩ : ∃ m, max x time = m := ⟨_, rfl⟩
            have hmx2 : (if x < time then time else x) = m := by rw [← hmx]; split <;> omega
            rw [hx] at c0
            have HST : Hid (foldT (foldT (fun _ => 0) a) (b.take (k + 1)) = updT (foldT (foldT (fun _ => 0) a) (b.take k)) r m) := Lib.hid (show foldT (foldT (fun _ => 0) a) (b.take (k + 1)) = updT (foldT (foldT (fun _ => 0) a) (b.take k)) r m by rw [hsn, foldT_snoc]; simp only [Int.toNat_natCast]; rw [hx, hmx])
            have HRL := Lib.hid hr
            clear hm hsn ht p0 p1 hT hx hr
            go_wp2
            go_region
            all_goals
              go_wp2
              go_roundw
              case rel => exact ⟨k + 1, by omega, by go_num, by rw [HST.out]; first | exact ((HT0.out.set r HRL.out m).alloc _).drew | exact (HT2.out.set r HRL.out m).drew | exact HT2.out.drew.set r HRL.out m | exact HT2.out.set r HRL.out m⟩
              case measure => simp [intOf]; omega
          · have hkn : k = nb := by omega
            have HT3 : Hid (TJ (foldT (foldT (fun _ => 0) a) b) w wr) := Lib.hid (show TJ (foldT (foldT (fun _ => 0) a) b) w wr by
              have h := hT
              rw [hkn, HNB.out, List.take_length] at h; exact h)
            clear hT hkn
            go_wp2
            go_roundw
            case rel => exact ⟨2, by omega, rfl, .inr (.inr ⟨rfl, HRA.out, HRB.out, HT3.out⟩)⟩
            case measure => simp [intOf]
      · have HJ := Lib.hid (joinR_b ((vright_ok a).2 HRA.out) h0)
        have H0 := Lib.hid h0
        have HQ := Lib.hid (noV_e h0)
        clear h0
        go_wp2_with fail
        refine (vbare_any _ b _ (HVB.out.below HB.out) HLB.out (HG.out.below HB.out)).mono ?_
        rintro r w1 ⟨rfl, hb1⟩
        rw [HQ.out]
        have HB1 := Lib.hid (HT.out.below hb1).2
        clear hb1
        go_wp2
        go_ret2
        exact joinR_errs HJ.out w _ H0.out HB1.out
    · have HRA := Lib.hid hra
      have HRB := Lib.hid hrb
      have HB := Lib.hid hT.2
      have hzr := hT.lt
      have HG2 := Lib.hid hT.1
      have HI := Lib.hid (arr_infoA (bothT a b))
      clear hra hrb hT
      go_wp2_with (with_reducible refine wpList_load_row rfl _ _ rfl _ rfl _ _ _ _ HG2.out Tryz.underlying182 rfl HI.out ?_)
      have HJL : Hid (joinL a b = tab (bothT a b) 201) := Lib.hid (show joinL a b = tab (bothT a b) 201 from (tab_both HRA.out.2 HRB.out.2 201).symm)
      have HGT : Hid (∀ r, bothT a b r ≤ 1099511627776) := Lib.hid (show ∀ r, bothT a b r ≤ 1099511627776 from fun r => by rw [bothT_is HRA.out.2 HRB.out.2]; exact (jF_bd HRA.out.2 HRB.out.2 r).2)
      obtain ⟨G, hG⟩ : ∃ G, bothT a b = G := ⟨_, rfl⟩
      rw [hG] at HJL HGT ⊢
      clear HG2 HI hG
      go_loopw [12, 45] (fun lv i wr => ∃ k : Nat, k ≤ 201 ∧ i = .int .i64 k ∧ ownsE wr w.heap.size lv (tab G k) ∧ Below w.heap.size w wr) (fun _ i _ => 201 - (intOf i).toNat)
      case atStart => exact ⟨0, by omega, rfl, ownsE_nil _ _, HB.out⟩
      case round =>
        obtain ⟨k, hk, rfl, ho, hb⟩ := hrel
        have HO := Lib.hid ho
        have HB2 := Lib.hid hb
        have hz2 := hb.size
        clear ho hb
        by_cases hlt : k < 201
        · have hlt' : (k : Int) < 201 := by omega
          have hlen := tab_len G k
          by_cases hp : 0 < G k
          · have HT := Lib.hid (tab_yes hp)
            obtain ⟨y, hy⟩ : ∃ y, G k = y := ⟨_, rfl⟩
            rw [hy] at hp HT
            have hm := fun W => idx_arr G k y W hlt hy
            clear hy
            go_wp2_with (at_builtin; refine wpList_append_ent rfl _ _ rfl w.heap.size _ (tab G k) rfl (HO.out.alloc _) wr.heap.size 1 rfl ⟨k, y⟩ ?c1 ?c2 ?c3 ?_)
            case c1 => exact entBlk_new _ _ _
            case c2 => omega
            case c3 => simp; omega
            · intro g cap w2 ho2 hg2
              have HO2 : Hid (ownsE w2 w.heap.size (.slice (some ⟨g, 0, none⟩) ((tab G k).length + 1) cap) (tab G (k + 1))) := Lib.hid (show ownsE w2 w.heap.size (.slice (some ⟨g, 0, none⟩) ((tab G k).length + 1) cap) (tab G (k + 1)) by rw [HT.out]; exact ho2)
              have HB3 : Hid (Below w.heap.size w w2) := (HB2.out.alloc hz2 _).grown hg2 (by simp; omega) (fun g hg => (HO.out.lt g hg).1)
              clear ho2 hg2
              go_wp2
              go_roundw
              case rel => exact ⟨k + 1, by omega, by go_num, HO2.out, HB3.out⟩
              case measure => simp [intOf]; omega
          · have HT := Lib.hid (tab_no hp)
            obtain ⟨y, hy⟩ : ∃ y, G k = y := ⟨_, rfl⟩
            rw [hy] at hp
            have hm := fun W => idx_arr G k y W hlt hy
            clear hy
            go_wp2
            go_roundw
            case rel => exact ⟨k + 1, by omega, by go_num, by rw [HT.out]; exact HO.out, HB2.out⟩
            case measure => simp [intOf]; omega
        · obtain rfl : k = 201 := by omega
          have H0A := Lib.hid ((vright_ok a).2 HRA.out)
          have H0B := Lib.hid ((vright_ok b).2 HRB.out)
          rw [← HJL.out] at HO
          obtain ⟨av, cv, hv, _⟩ := HO.out.is.form
          subst hv
          obtain ⟨m, hm⟩ : ∃ m, m = (joinL a b).length := ⟨_, rfl⟩
          have HM := Lib.hid hm
          have hml : m ≤ 201 := by rw [hm, HJL.out]; exact tab_len G 201
          rw [← hm] at HO ⊢
          clear hm hlt
          by_cases h16 : 16 < m
          · have HJ := Lib.hid (joinR_many H0A.out H0B.out (by rw [← HM.out]; exact h16))
            go_wp2
            go_ret2
            exact joinR_errs HJ.out w _ (by decide) HB2.out
          · have HJ := Lib.hid (joinR_ok H0A.out H0B.out (by rw [← HM.out]; exact h16))
            go_wp2
            go_ret2
            exact joinR_good HJ.out w _ _ HO.out HB2.out
end Go.Proofs.YtgelfjcmggicdaaGreatDoor
