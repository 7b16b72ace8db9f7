/-
  slices.Equal of two lists of entries.
-/
import Derived.Test.YtiipnifnejnhlaaDoorEnts
import Derived.Lib.Hide
import Derived.BigQuiet
import Derived.Deep.QuietTactic
import Derived.Outline
namespace Go.Proofs.YtiipnifnejnhlaaDoor
open Go.RowKit

theorem eq_step {l m : List Ent} {k : Nat} (h : l.take k = m.take k) {t u : Ent} (hl : l[k]? = some t) (hm : m[k]? = some u) (e : t = u) : l.take (k + 1) = m.take (k + 1) := by
  obtain ⟨h1, h2⟩ := List.getElem?_eq_some_iff.1 hl
  obtain ⟨h3, h4⟩ := List.getElem?_eq_some_iff.1 hm
  rw [List.take_succ_eq_append_getElem h1, List.take_succ_eq_append_getElem h3, h, h2, h4, e]

set_option maxRecDepth 100000 in
set_option maxHeartbeats 1000000 in
theorem equal_entsL (v1 v2 : Value) (l m : List Ent) (w : World) (h1 : IsEnts w v1 l) (h2 : IsEnts w v2 m) (hl : l.length ≤ 9223372036854775807) (hm : m.length ≤ 9223372036854775807) :
    Calls Tryd.prog 43 #[v1, v2] w fun e w' => e = .returned (.bool (decide (l = m))) ∧ ∃ q, w' = w.drewN q := by
  obtain ⟨a1, c1, rfl, f1⟩ := h1.form
  obtain ⟨a2, c2, rfl, f2⟩ := h2.form
  have F1 := Lib.hid f1
  have F2 := Lib.hid f2
  obtain ⟨n, hn⟩ : ∃ n, n = l.length := ⟨_, rfl⟩
  obtain ⟨n2, hn2⟩ : ∃ n, n = m.length := ⟨_, rfl⟩
  rw [← hn] at hl ⊢
  rw [← hn2] at hm ⊢
  have HN := Lib.hid hn
  have HN2 := Lib.hid hn2
  clear h1 h2 f1 f2 hn hn2
  by_cases hne : n = n2
  · subst hne
    go_enter Tryd.func43, Tryd.ntmps43
    go_wp2
    go_loopw [13] (fun i wr => ∃ k q : Nat, k ≤ n ∧ i = .int .i64 k ∧ l.take k = m.take k ∧ wr = w.drewN q) (fun i _ => n - (intOf i).toNat)
    case atStart => exact ⟨0, 0, by omega, rfl, rfl, rfl⟩
    case round =>
      obtain ⟨k, q, hk, rfl, htk, rfl⟩ := hrel
      have HTK := Lib.hid htk
      clear htk
      by_cases hlt : k < n
      · obtain ⟨t, ht⟩ : ∃ t, l[k]? = some t := ⟨l[k]'(by have := HN.out; omega), List.getElem?_eq_getElem _⟩
        obtain ⟨u, hu⟩ : ∃ u, m[k]? = some u := ⟨m[k]'(by have := HN2.out; omega), List.getElem?_eq_getElem _⟩
        obtain ⟨b1, o1, rfl, _, p0, p1⟩ := F1.out k t ht
        obtain ⟨b2, o2, rfl, _, q0, q1⟩ := F2.out k u hu
        have HTT := Lib.hid ht
        have HUU := Lib.hid hu
        clear ht hu
        obtain ⟨r1, t1⟩ := t
        obtain ⟨r2, t2⟩ := u
        simp only at p0 p1 q0 q1
        by_cases hr : r1 = r2
        · by_cases ht : t1 = t2
          · subst hr ht
            have HST := Lib.hid (eq_step HTK.out HTT.out HUU.out rfl)
            go_wp2
            go_quiet (fail)
            go_wp2
            go_roundw
            case rel => exact ⟨k + 1, _, by omega, by go_num, HST.out, rfl⟩
            case measure => simp [intOf]; omega
          · subst hr
            have HE : Hid (decide (l = m) = false) := Lib.hid (show decide (l = m) = false by
              rw [decide_eq_false_iff_not]; rintro rfl
              have := HTT.out.symm.trans HUU.out
              simp at this; exact ht this)
            have x1 : (t1 == t2) = false := by simpa using ht
            have x2 : (t1 != t2) = true := by simpa using ht
            go_wp2
            go_quiet (fail)
            go_wp2
            go_ret
            exact ⟨by rw [HE.out]; rfl, by first | exact ⟨_, rfl⟩ | exact ⟨_, by rw [World.drewN_drewN]⟩⟩
        · have HE : Hid (decide (l = m) = false) := Lib.hid (show decide (l = m) = false by
            rw [decide_eq_false_iff_not]; rintro rfl
            have := HTT.out.symm.trans HUU.out
            simp at this; exact hr this.1)
          have x1 : (r1 == r2) = false := by simpa using hr
          have x2 : (r1 != r2) = true := by simpa using hr
          go_wp2
          go_quiet (fail)
          go_wp2
          go_ret
          exact ⟨by rw [HE.out]; rfl, by first | exact ⟨_, rfl⟩ | exact ⟨_, by rw [World.drewN_drewN]⟩⟩
      · have HE : Hid (decide (l = m) = true) := Lib.hid (show decide (l = m) = true by
          rw [decide_eq_true_eq]
          have h := HTK.out
          rw [List.take_of_length_le (by have := HN.out; omega), List.take_of_length_le (by have := HN2.out; omega)] at h
          exact h)
        go_wp2
        go_ret
        exact ⟨by rw [HE.out]; rfl, by first | exact ⟨_, rfl⟩ | exact ⟨_, by rw [World.drewN_drewN]⟩⟩
  · have HE : Hid (decide (l = m) = false) := Lib.hid (show decide (l = m) = false by
      rw [decide_eq_false_iff_not]; rintro rfl; exact hne (HN.out.trans HN2.out.symm))
    have x1 : ((n : Int) == (n2 : Int)) = false := by simp; omega
    have x2 : ((n : Int) != (n2 : Int)) = true := by simp; omega
    rw [HE.out]
    go_enter Tryd.func43, Tryd.ntmps43
    go_wp2
    go_ret
    exact ⟨rfl, 0, rfl⟩
theorem equal_ents (v1 v2 : Value) (l m : List Ent) (w : World) (h1 : IsEnts w v1 l) (h2 : IsEnts w v2 m) (hl : l.length ≤ 1000000) (hm : m.length ≤ 9223372036854775807) :
    Calls Tryd.prog 43 #[v1, v2] w fun e w' => e = .returned (.bool (decide (l = m))) ∧ ∃ q, w' = w.drewN q := equal_entsL v1 v2 l m w h1 h2 (Nat.le_trans hl (by decide)) hm
theorem equal_same (v1 v2 : Value) (l : List Ent) (w : World) (h1 : IsEnts w v1 l) (h2 : IsEnts w v2 l) (hl : l.length ≤ 1000000) :
    Calls Tryd.prog 43 #[v1, v2] w fun e w' => e = .returned (.bool true) ∧ ∃ q, w' = w.drewN q :=
  (equal_ents v1 v2 l l w h1 h2 hl (by omega)).mono fun _ _ ⟨h1, h2⟩ => ⟨by rw [h1]; simp, h2⟩
theorem equal_as (v1 v2 : Value) (l m : List Ent) (c : Bool) (w : World) (h1 : IsEnts w v1 l) (h2 : IsEnts w v2 m) (hl : l.length ≤ 1000000) (hm : m.length ≤ 9223372036854775807) (hc : decide (l = m) = c) :
    Calls Tryd.prog 43 #[v1, v2] w fun e w' => e = .returned (.bool c) ∧ ∃ q, w' = w.drewN q :=
  (equal_ents v1 v2 l m w h1 h2 hl hm).mono fun _ _ ⟨h1, h2⟩ => ⟨by rw [h1, hc], h2⟩
theorem equal_asL (v1 v2 : Value) (l m : List Ent) (c : Bool) (w : World) (h1 : IsEnts w v1 l) (h2 : IsEnts w v2 m) (hl : l.length ≤ 9223372036854775807) (hm : m.length ≤ 9223372036854775807) (hc : decide (l = m) = c) :
    Calls Tryd.prog 43 #[v1, v2] w fun e w' => e = .returned (.bool c) ∧ ∃ q, w' = w.drewN q :=
  (equal_entsL v1 v2 l m w h1 h2 hl hm).mono fun _ _ ⟨h1, h2⟩ => ⟨by rw [h1, hc], h2⟩
end Go.Proofs.YtiipnifnejnhlaaDoor
