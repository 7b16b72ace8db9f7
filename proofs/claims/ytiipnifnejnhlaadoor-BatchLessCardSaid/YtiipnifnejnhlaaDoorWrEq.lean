/-
  slices.Equal of two lists of writes.
-/
import Derived.Test.YtiipnifnejnhlaaDoorWrs
import Derived.Lib.Hide
import Derived.BigQuiet
import Derived.Deep.QuietTactic
import Derived.Outline
namespace Go.Proofs.YtiipnifnejnhlaaDoor
open Go.RowKit

instance : DecidableEq Wr := fun a b => decidable_of_iff (a.time = b.time ∧ a.rep = b.rep ∧ a.kind = b.kind ∧ a.key = b.key ∧ a.value = b.value ∧ a.n = b.n) (by cases a; cases b; simp)
theorem wq_step {l m : List Wr} {k : Nat} (h : l.take k = m.take k) {t u : Wr} (hl : l[k]? = some t) (hm : m[k]? = some u) (e : t = u) : l.take (k + 1) = m.take (k + 1) := by
  obtain ⟨h1, h2⟩ := List.getElem?_eq_some_iff.1 hl
  obtain ⟨h3, h4⟩ := List.getElem?_eq_some_iff.1 hm
  rw [List.take_succ_eq_append_getElem h1, List.take_succ_eq_append_getElem h3, h, h2, h4, e]
theorem bytes_ext {a b : ByteArray} (h : a.data.toList = b.data.toList) : a = b := by
  cases a; cases b; simp at h; rw [h]

set_option maxRecDepth 100000 in
set_option maxHeartbeats 4000000 in
theorem equal_wrs (v1 v2 : Value) (l m : List Wr) (w : World) (h1 : IsWrs w v1 l) (h2 : IsWrs w v2 m) (hl : l.length ≤ 9223372036854775807) (hm : m.length ≤ 9223372036854775807) :
    Calls Tryd.prog 46 #[v1, v2] w fun e w' => e = .returned (.bool (decide (l = m))) ∧ ∃ q, w' = w.drewN q := by
  obtain ⟨a1, c1, rfl, f1⟩ := h1.form
  obtain ⟨a2, c2, rfl, f2⟩ := h2.form
  have F1 := Lib.hid f1
  have F2 := Lib.hid f2
  obtain ⟨n, hn⟩ : ∃ n, n = l.length := ⟨_, rfl⟩
  obtain ⟨n2, hn2⟩ : ∃ n, n = m.length := ⟨_, rfl⟩
  rw [← hn] at hl ⊢
  rw [← hn2] at hm ⊢
  have HN := Lib.hid hn
  have HN2 := Lib.hid hn2
  clear h1 h2 f1 f2 hn hn2
  by_cases hne : n = n2
  · subst hne
    go_enter Tryd.func46, Tryd.ntmps46
    go_wp2
    go_loopw [13] (fun i wr => ∃ k q : Nat, k ≤ n ∧ i = .int .i64 k ∧ l.take k = m.take k ∧ wr = w.drewN q) (fun i _ => n - (intOf i).toNat)
    case atStart => exact ⟨0, 0, by omega, rfl, rfl, rfl⟩
    case round =>
      obtain ⟨k, q, hk, rfl, htk, rfl⟩ := hrel
      have HTK := Lib.hid htk
      clear htk
      by_cases hlt : k < n
      · obtain ⟨t, ht⟩ : ∃ t, l[k]? = some t := ⟨l[k]'(by have := HN.out; omega), List.getElem?_eq_getElem _⟩
        obtain ⟨u, hu⟩ : ∃ u, m[k]? = some u := ⟨m[k]'(by have := HN2.out; omega), List.getElem?_eq_getElem _⟩
        obtain ⟨b1, o1, rfl, _, p0, p1, p2, p3, p4, p5⟩ := F1.out k t ht
        obtain ⟨b2, o2, rfl, _, q0, q1, q2, q3, q4, q5⟩ := F2.out k u hu
        have HTT := Lib.hid ht
        have HUU := Lib.hid hu
        clear ht hu
        obtain ⟨T1, R1, K1, key1, val1, N1⟩ := t
        obtain ⟨T2, R2, K2, key2, val2, N2⟩ := u
        simp only at p0 p1 p2 p3 p4 p5 q0 q1 q2 q3 q4 q5
        by_cases he0 : T1 = T2
        · subst he0
          by_cases he1 : R1 = R2
          · subst he1
            by_cases he2 : K1 = K2
            · subst he2
              by_cases he3 : key1 = key2
              · subst he3
                by_cases he4 : val1 = val2
                · subst he4
                  by_cases he5 : N1 = N2
                  · subst he5
                    have HST := Lib.hid (wq_step HTK.out HTT.out HUU.out rfl)
                    go_wp2
                    go_quiet (fail)
                    go_wp2
                    go_roundw
                    case rel => exact ⟨k + 1, _, by omega, by go_num, HST.out, rfl⟩
                    case measure => simp [intOf]; omega
                  · have HE : Hid (decide (l = m) = false) := Lib.hid (show decide (l = m) = false by
                      rw [decide_eq_false_iff_not]; rintro rfl
                      have := HTT.out.symm.trans HUU.out
                      simp only [Option.some.injEq, Wr.mk.injEq] at this
                      exact he5 this.2.2.2.2.2)
                    have x1 : (N1 == N2) = false := by simpa using he5
                    have x2 : (N1 != N2) = true := by simpa using he5
                    go_wp2
                    go_quiet (fail)
                    go_wp2
                    go_ret
                    exact ⟨by rw [HE.out]; rfl, by first | exact ⟨_, rfl⟩ | exact ⟨_, by rw [World.drewN_drewN]⟩⟩
                · have HE : Hid (decide (l = m) = false) := Lib.hid (show decide (l = m) = false by
                    rw [decide_eq_false_iff_not]; rintro rfl
                    have := HTT.out.symm.trans HUU.out
                    simp only [Option.some.injEq, Wr.mk.injEq] at this
                    exact he4 this.2.2.2.2.1)
                  have x1 : (val1.toList == val2.toList) = false := by rw [ByteArray.toList_eq, ByteArray.toList_eq, beq_eq_false_iff_ne]; intro e9; exact he4 (bytes_ext e9)
                  have x2 : (val1.toList != val2.toList) = true := by rw [bne, x1]; rfl
                  go_wp2
                  go_quiet (fail)
                  go_wp2
                  go_ret
                  exact ⟨by rw [HE.out]; rfl, by first | exact ⟨_, rfl⟩ | exact ⟨_, by rw [World.drewN_drewN]⟩⟩
              · have HE : Hid (decide (l = m) = false) := Lib.hid (show decide (l = m) = false by
                  rw [decide_eq_false_iff_not]; rintro rfl
                  have := HTT.out.symm.trans HUU.out
                  simp only [Option.some.injEq, Wr.mk.injEq] at this
                  exact he3 this.2.2.2.1)
                have x1 : (key1.toList == key2.toList) = false := by rw [ByteArray.toList_eq, ByteArray.toList_eq, beq_eq_false_iff_ne]; intro e9; exact he3 (bytes_ext e9)
                have x2 : (key1.toList != key2.toList) = true := by rw [bne, x1]; rfl
                go_wp2
                go_quiet (fail)
                go_wp2
                go_ret
                exact ⟨by rw [HE.out]; rfl, by first | exact ⟨_, rfl⟩ | exact ⟨_, by rw [World.drewN_drewN]⟩⟩
            · have HE : Hid (decide (l = m) = false) := Lib.hid (show decide (l = m) = false by
                rw [decide_eq_false_iff_not]; rintro rfl
                have := HTT.out.symm.trans HUU.out
                simp only [Option.some.injEq, Wr.mk.injEq] at this
                exact he2 this.2.2.1)
              have x1 : (K1 == K2) = false := by simpa using he2
              have x2 : (K1 != K2) = true := by simpa using he2
              go_wp2
              go_quiet (fail)
              go_wp2
              go_ret
              exact ⟨by rw [HE.out]; rfl, by first | exact ⟨_, rfl⟩ | exact ⟨_, by rw [World.drewN_drewN]⟩⟩
          · have HE : Hid (decide (l = m) = false) := Lib.hid (show decide (l = m) = false by
              rw [decide_eq_false_iff_not]; rintro rfl
              have := HTT.out.symm.trans HUU.out
              simp only [Option.some.injEq, Wr.mk.injEq] at this
              exact he1 this.2.1)
            have x1 : (R1 == R2) = false := by simpa using he1
            have x2 : (R1 != R2) = true := by simpa using he1
            go_wp2
            go_quiet (fail)
            go_wp2
            go_ret
            exact ⟨by rw [HE.out]; rfl, by first | exact ⟨_, rfl⟩ | exact ⟨_, by rw [World.drewN_drewN]⟩⟩
        · have HE : Hid (decide (l = m) = false) := Lib.hid (show decide (l = m) = false by
            rw [decide_eq_false_iff_not]; rintro rfl
            have := HTT.out.symm.trans HUU.out
            simp only [Option.some.injEq, Wr.mk.injEq] at this
            exact he0 this.1)
          have x1 : (T1 == T2) = false := by simpa using he0
          have x2 : (T1 != T2) = true := by simpa using he0
          go_wp2
          go_quiet (fail)
          go_wp2
          go_ret
          exact ⟨by rw [HE.out]; rfl, by first | exact ⟨_, rfl⟩ | exact ⟨_, by rw [World.drewN_drewN]⟩⟩
      · have HE : Hid (decide (l = m) = true) := Lib.hid (show decide (l = m) = true by
          rw [decide_eq_true_eq]
          have h := HTK.out
          rw [List.take_of_length_le (by have := HN.out; omega), List.take_of_length_le (by have := HN2.out; omega)] at h
          exact h)
        go_wp2
        go_ret
        exact ⟨by rw [HE.out]; rfl, by first | exact ⟨_, rfl⟩ | exact ⟨_, by rw [World.drewN_drewN]⟩⟩
  · have HE : Hid (decide (l = m) = false) := Lib.hid (show decide (l = m) = false by
      rw [decide_eq_false_iff_not]; rintro rfl; exact hne (HN.out.trans HN2.out.symm))
    have x1 : ((n : Int) == (n2 : Int)) = false := by simp; omega
    have x2 : ((n : Int) != (n2 : Int)) = true := by simp; omega
    rw [HE.out]
    go_enter Tryd.func46, Tryd.ntmps46
    go_wp2
    go_ret
    exact ⟨rfl, 0, rfl⟩
theorem equalw_as (v1 v2 : Value) (l m : List Wr) (c : Bool) (w : World) (h1 : IsWrs w v1 l) (h2 : IsWrs w v2 m) (hl : l.length ≤ 9223372036854775807) (hm : m.length ≤ 9223372036854775807) (hc : decide (l = m) = c) :
    Calls Tryd.prog 46 #[v1, v2] w fun e w' => e = .returned (.bool c) ∧ ∃ q, w' = w.drewN q :=
  (equal_wrs v1 v2 l m w h1 h2 hl hm).mono fun _ _ ⟨h1, h2⟩ => ⟨by rw [h1, hc], h2⟩
end Go.Proofs.YtiipnifnejnhlaaDoor
