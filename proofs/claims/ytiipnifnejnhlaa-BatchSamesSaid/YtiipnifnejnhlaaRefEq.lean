/-
  The contracts of the document's sameEntries and sameWrites.
-/
import Derived.Test.YtiipnifnejnhlaaEntEq
import Derived.Test.YtiipnifnejnhlaaWrEq
namespace Go.Proofs.Ytiipnifnejnhlaa
open Go.RowKit

set_option maxRecDepth 100000 in
set_option maxHeartbeats 1000000 in
theorem requal_ents (v1 v2 : Value) (l m : List Ent) (w : World) (h1 : IsEnts w v1 l) (h2 : IsEnts w v2 m) (hl : l.length ≤ 9223372036854775807) (hm : m.length ≤ 9223372036854775807) :
    Calls Try.prog 9 #[v1, v2] w fun e w' => e = .returned (.bool (decide (l = m))) ∧ ∃ q, w' = w.drewN q := by
  obtain ⟨a1, c1, rfl, f1⟩ := h1.form
  obtain ⟨a2, c2, rfl, f2⟩ := h2.form
  have F1 := Lib.hid f1
  have F2 := Lib.hid f2
  obtain ⟨n, hn⟩ : ∃ n, n = l.length := ⟨_, rfl⟩
  obtain ⟨n2, hn2⟩ : ∃ n, n = m.length := ⟨_, rfl⟩
  rw [← hn] at hl ⊢
  rw [← hn2] at hm ⊢
  have HN := Lib.hid hn
  have HN2 := Lib.hid hn2
  clear h1 h2 f1 f2 hn hn2
  by_cases hne : n = n2
  · subst hne
    go_enter Try.func9, Try.ntmps9
    go_wp2
    go_loopw [13] (fun i wr => ∃ k q : Nat, k ≤ n ∧ i = .int .i64 k ∧ l.take k = m.take k ∧ wr = w.drewN q) (fun i _ => n - (intOf i).toNat)
    case atStart => exact ⟨0, 0, by omega, rfl, rfl, rfl⟩
    case round =>
      obtain ⟨k, q, hk, rfl, htk, rfl⟩ := hrel
      have HTK := Lib.hid htk
      clear htk
      by_cases hlt : k < n
      · obtain ⟨t, ht⟩ : ∃ t, l[k]? = some t := ⟨l[k]'(by have := HN.out; omega), List.getElem?_eq_getElem _⟩
        obtain ⟨u, hu⟩ : ∃ u, m[k]? = some u := ⟨m[k]'(by have := HN2.out; omega), List.getElem?_eq_getElem _⟩
        obtain ⟨b1, o1, rfl, _, p0, p1⟩ := F1.out k t ht
        obtain ⟨b2, o2, rfl, _, q0, q1⟩ := F2.out k u hu
        have HTT := Lib.hid ht
        have HUU := Lib.hid hu
        clear ht hu
        obtain ⟨r1, t1⟩ := t
        obtain ⟨r2, t2⟩ := u
        simp only at p0 p1 q0 q1
        by_cases hr : r1 = r2
        · by_cases ht : t1 = t2
          · subst hr ht
            have HST := Lib.hid (eq_step HTK.out HTT.out HUU.out rfl)
            go_wp2
            go_quiet (fail)
            go_wp2
            go_roundw
            case rel => exact ⟨k + 1, _, by omega, by go_num, HST.out, rfl⟩
            case measure => simp [intOf]; omega
          · subst hr
            have HE : Hid (decide (l = m) = false) := Lib.hid (show decide (l = m) = false by
              rw [decide_eq_false_iff_not]; rintro rfl
              have := HTT.out.symm.trans HUU.out
              simp at this; exact ht this)
            have x1 : (t1 == t2) = false := by simpa using ht
            have x2 : (t1 != t2) = true := by simpa using ht
            go_wp2
            go_quiet (fail)
            go_wp2
            go_ret
            exact ⟨by rw [HE.out]; rfl, by first | exact ⟨_, rfl⟩ | exact ⟨_, by rw [World.drewN_drewN]⟩⟩
        · have HE : Hid (decide (l = m) = false) := Lib.hid (show decide (l = m) = false by
            rw [decide_eq_false_iff_not]; rintro rfl
            have := HTT.out.symm.trans HUU.out
            simp at this; exact hr this.1)
          have x1 : (r1 == r2) = false := by simpa using hr
          have x2 : (r1 != r2) = true := by simpa using hr
          go_wp2
          go_quiet (fail)
          go_wp2
          go_ret
          exact ⟨by rw [HE.out]; rfl, by first | exact ⟨_, rfl⟩ | exact ⟨_, by rw [World.drewN_drewN]⟩⟩
      · have HE : Hid (decide (l = m) = true) := Lib.hid (show decide (l = m) = true by
          rw [decide_eq_true_eq]
          have h := HTK.out
          rw [List.take_of_length_le (by have := HN.out; omega), List.take_of_length_le (by have := HN2.out; omega)] at h
          exact h)
        go_wp2
        go_ret
        exact ⟨by rw [HE.out]; rfl, by first | exact ⟨_, rfl⟩ | exact ⟨_, by rw [World.drewN_drewN]⟩⟩
  · have HE : Hid (decide (l = m) = false) := Lib.hid (show decide (l = m) = false by
      rw [decide_eq_false_iff_not]; rintro rfl; exact hne (HN.out.trans HN2.out.symm))
    have x1 : ((n : Int) == (n2 : Int)) = false := by simp; omega
    have x2 : ((n : Int) != (n2 : Int)) = true := by simp; omega
    rw [HE.out]
    go_enter Try.func9, Try.ntmps9
    go_wp2
    go_ret
    exact ⟨rfl, 0, rfl⟩
theorem requale_as (v1 v2 : Value) (l m : List Ent) (c : Bool) (w : World) (h1 : IsEnts w v1 l) (h2 : IsEnts w v2 m) (hl : l.length ≤ 9223372036854775807) (hm : m.length ≤ 9223372036854775807) (hc : decide (l = m) = c) :
    Calls Try.prog 9 #[v1, v2] w fun e w' => e = .returned (.bool c) ∧ ∃ q, w' = w.drewN q :=
  (requal_ents v1 v2 l m w h1 h2 hl hm).mono fun _ _ ⟨h1, h2⟩ => ⟨by rw [h1, hc], h2⟩

set_option maxRecDepth 100000 in
set_option maxHeartbeats 4000000 in
theorem requal_wrs (v1 v2 : Value) (l m : List Wr) (w : World) (h1 : IsWrs w v1 l) (h2 : IsWrs w v2 m) (hl : l.length ≤ 9223372036854775807) (hm : m.length ≤ 9223372036854775807) :
    Calls Try.prog 10 #[v1, v2] w fun e w' => e = .returned (.bool (decide (l = m))) ∧ ∃ q, w' = w.drewN q := by
  obtain ⟨a1, c1, rfl, f1⟩ := h1.form
  obtain ⟨a2, c2, rfl, f2⟩ := h2.form
  have F1 := Lib.hid f1
  have F2 := Lib.hid f2
  obtain ⟨n, hn⟩ : ∃ n, n = l.length := ⟨_, rfl⟩
  obtain ⟨n2, hn2⟩ : ∃ n, n = m.length := ⟨_, rfl⟩
  rw [← hn] at hl ⊢
  rw [← hn2] at hm ⊢
  have HN := Lib.hid hn
  have HN2 := Lib.hid hn2
  clear h1 h2 f1 f2 hn hn2
  by_cases hne : n = n2
  · subst hne
    go_enter Try.func10, Try.ntmps10
    go_wp2
    go_loopw [13] (fun i wr => ∃ k q : Nat, k ≤ n ∧ i = .int .i64 k ∧ l.take k = m.take k ∧ wr = w.drewN q) (fun i _ => n - (intOf i).toNat)
    case atStart => exact ⟨0, 0, by omega, rfl, rfl, rfl⟩
    case round =>
      obtain ⟨k, q, hk, rfl, htk, rfl⟩ := hrel
      have HTK := Lib.hid htk
      clear htk
      by_cases hlt : k < n
      · obtain ⟨t, ht⟩ : ∃ t, l[k]? = some t := ⟨l[k]'(by have := HN.out; omega), List.getElem?_eq_getElem _⟩
        obtain ⟨u, hu⟩ : ∃ u, m[k]? = some u := ⟨m[k]'(by have := HN2.out; omega), List.getElem?_eq_getElem _⟩
        obtain ⟨b1, o1, rfl, _, p0, p1, p2, p3, p4, p5⟩ := F1.out k t ht
        obtain ⟨b2, o2, rfl, _, q0, q1, q2, q3, q4, q5⟩ := F2.out k u hu
        have HTT := Lib.hid ht
        have HUU := Lib.hid hu
        clear ht hu
        obtain ⟨T1, R1, K1, key1, val1, N1⟩ := t
        obtain ⟨T2, R2, K2, key2, val2, N2⟩ := u
        simp only at p0 p1 p2 p3 p4 p5 q0 q1 q2 q3 q4 q5
        by_cases he0 : T1 = T2
        · subst he0
          by_cases he1 : R1 = R2
          · subst he1
            by_cases he2 : K1 = K2
            · subst he2
              by_cases he3 : key1 = key2
              · subst he3
                by_cases he4 : val1 = val2
                · subst he4
                  by_cases he5 : N1 = N2
                  · subst he5
                    have HST := Lib.hid (wq_step HTK.out HTT.out HUU.out rfl)
                    go_wp2
                    go_quiet (fail)
                    go_wp2
                    go_roundw
                    case rel => exact ⟨k + 1, _, by omega, by go_num, HST.out, rfl⟩
                    case measure => simp [intOf]; omega
                  · have HE : Hid (decide (l = m) = false) := Lib.hid (show decide (l = m) = false by
                      rw [decide_eq_false_iff_not]; rintro rfl
                      have := HTT.out.symm.trans HUU.out
                      simp only [Option.some.injEq, Wr.mk.injEq] at this
                      exact he5 this.2.2.2.2.2)
                    have x1 : (N1 == N2) = false := by simpa using he5
                    have x2 : (N1 != N2) = true := by simpa using he5
                    go_wp2
                    go_quiet (fail)
                    go_wp2
                    go_ret
                    exact ⟨by rw [HE.out]; rfl, by first | exact ⟨_, rfl⟩ | exact ⟨_, by rw [World.drewN_drewN]⟩⟩
                · have HE : Hid (decide (l = m) = false) := Lib.hid (show decide (l = m) = false by
                    rw [decide_eq_false_iff_not]; rintro rfl
                    have := HTT.out.symm.trans HUU.out
                    simp only [Option.some.injEq, Wr.mk.injEq] at this
                    exact he4 this.2.2.2.2.1)
                  have x1 : (val1.toList == val2.toList) = false := by rw [ByteArray.toList_eq, ByteArray.toList_eq, beq_eq_false_iff_ne]; intro e9; exact he4 (bytes_ext e9)
                  have x2 : (val1.toList != val2.toList) = true := by rw [bne, x1]; rfl
                  go_wp2
                  go_quiet (fail)
                  go_wp2
                  go_ret
                  exact ⟨by rw [HE.out]; rfl, by first | exact ⟨_, rfl⟩ | exact ⟨_, by rw [World.drewN_drewN]⟩⟩
              · have HE : Hid (decide (l = m) = false) := Lib.hid (show decide (l = m) = false by
                  rw [decide_eq_false_iff_not]; rintro rfl
                  have := HTT.out.symm.trans HUU.out
                  simp only [Option.some.injEq, Wr.mk.injEq] at this
                  exact he3 this.2.2.2.1)
                have x1 : (key1.toList == key2.toList) = false := by rw [ByteArray.toList_eq, ByteArray.toList_eq, beq_eq_false_iff_ne]; intro e9; exact he3 (bytes_ext e9)
                have x2 : (key1.toList != key2.toList) = true := by rw [bne, x1]; rfl
                go_wp2
                go_quiet (fail)
                go_wp2
                go_ret
                exact ⟨by rw [HE.out]; rfl, by first | exact ⟨_, rfl⟩ | exact ⟨_, by rw [World.drewN_drewN]⟩⟩
            · have HE : Hid (decide (l = m) = false) := Lib.hid (show decide (l = m) = false by
                rw [decide_eq_false_iff_not]; rintro rfl
                have := HTT.out.symm.trans HUU.out
                simp only [Option.some.injEq, Wr.mk.injEq] at this
                exact he2 this.2.2.1)
              have x1 : (K1 == K2) = false := by simpa using he2
              have x2 : (K1 != K2) = true := by simpa using he2
              go_wp2
              go_quiet (fail)
              go_wp2
              go_ret
              exact ⟨by rw [HE.out]; rfl, by first | exact ⟨_, rfl⟩ | exact ⟨_, by rw [World.drewN_drewN]⟩⟩
          · have HE : Hid (decide (l = m) = false) := Lib.hid (show decide (l = m) = false by
              rw [decide_eq_false_iff_not]; rintro rfl
              have := HTT.out.symm.trans HUU.out
              simp only [Option.some.injEq, Wr.mk.injEq] at this
              exact he1 this.2.1)
            have x1 : (R1 == R2) = false := by simpa using he1
            have x2 : (R1 != R2) = true := by simpa using he1
            go_wp2
            go_quiet (fail)
            go_wp2
            go_ret
            exact ⟨by rw [HE.out]; rfl, by first | exact ⟨_, rfl⟩ | exact ⟨_, by rw [World.drewN_drewN]⟩⟩
        · have HE : Hid (decide (l = m) = false) := Lib.hid (show decide (l = m) = false by
            rw [decide_eq_false_iff_not]; rintro rfl
            have := HTT.out.symm.trans HUU.out
            simp only [Option.some.injEq, Wr.mk.injEq] at this
            exact he0 this.1)
          have x1 : (T1 == T2) = false := by simpa using he0
          have x2 : (T1 != T2) = true := by simpa using he0
          go_wp2
          go_quiet (fail)
          go_wp2
          go_ret
          exact ⟨by rw [HE.out]; rfl, by first | exact ⟨_, rfl⟩ | exact ⟨_, by rw [World.drewN_drewN]⟩⟩
      · have HE : Hid (decide (l = m) = true) := Lib.hid (show decide (l = m) = true by
          rw [decide_eq_true_eq]
          have h := HTK.out
          rw [List.take_of_length_le (by have := HN.out; omega), List.take_of_length_le (by have := HN2.out; omega)] at h
          exact h)
        go_wp2
        go_ret
        exact ⟨by rw [HE.out]; rfl, by first | exact ⟨_, rfl⟩ | exact ⟨_, by rw [World.drewN_drewN]⟩⟩
  · have HE : Hid (decide (l = m) = false) := Lib.hid (show decide (l = m) = false by
      rw [decide_eq_false_iff_not]; rintro rfl; exact hne (HN.out.trans HN2.out.symm))
    have x1 : ((n : Int) == (n2 : Int)) = false := by simp; omega
    have x2 : ((n : Int) != (n2 : Int)) = true := by simp; omega
    rw [HE.out]
    go_enter Try.func10, Try.ntmps10
    go_wp2
    go_ret
    exact ⟨rfl, 0, rfl⟩
theorem requalw_as (v1 v2 : Value) (l m : List Wr) (c : Bool) (w : World) (h1 : IsWrs w v1 l) (h2 : IsWrs w v2 m) (hl : l.length ≤ 9223372036854775807) (hm : m.length ≤ 9223372036854775807) (hc : decide (l = m) = c) :
    Calls Try.prog 10 #[v1, v2] w fun e w' => e = .returned (.bool c) ∧ ∃ q, w' = w.drewN q :=
  (requal_wrs v1 v2 l m w h1 h2 hl hm).mono fun _ _ ⟨h1, h2⟩ => ⟨by rw [h1, hc], h2⟩
end Go.Proofs.Ytiipnifnejnhlaa
