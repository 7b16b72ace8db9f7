/-
  The contracts of write.Right and of what it asks.
-/
import Derived.Test.YtpmnflnaeknakaaGreatDoorWrtM
import Derived.Test.YtpmnflnaeknakaaGreatDoorWriteArg
import Derived.Test.YtpmnflnaeknakaaGreatDoorIdRight
import Derived.Lib.Hide
namespace Go.Proofs.YtpmnflnaeknakaaGreatDoor
open Go.RowKit

theorem hasv_any (K : Int) (b : Bool) (w : World) (h : hasV K = b) : Calls Tryz.prog 36 #[.int .i64 K] w fun e w' => e = .returned (.bool b) ∧ w = w' := by
  subst h
  unfold hasV
  by_cases h1 : K = 1
  · subst h1
    go_enter Tryz.func36, Tryz.ntmps36
    go_wp2
    go_ret
    exact ⟨rfl, rfl⟩
  · have b1 : (K == 1) = false := by simpa using h1
    rw [decide_eq_false h1, Bool.false_or]
    go_enter Tryz.func36, Tryz.ntmps36
    go_wp2
    go_ret
    exact ⟨by first | rfl | (congr 2; rw [Bool.eq_iff_iff]; simp), rfl⟩
theorem hasn_any (K : Int) (b : Bool) (w : World) (h : hasN K = b) : Calls Tryz.prog 37 #[.int .i64 K] w fun e w' => e = .returned (.bool b) ∧ w = w' := by
  subst h
  unfold hasN
  by_cases h1 : K = 3
  · subst h1
    go_enter Tryz.func37, Tryz.ntmps37
    go_wp2
    go_ret
    exact ⟨rfl, rfl⟩
  · have b1 : (K == 3) = false := by simpa using h1
    rw [decide_eq_false h1, Bool.false_or]
    go_enter Tryz.func37, Tryz.ntmps37
    go_wp2
    go_ret
    exact ⟨by first | rfl | (congr 2; rw [Bool.eq_iff_iff]; simp), rfl⟩

/-- A write as a value. -/
def wv (T R K : Int) (key val : ByteArray) (N : Int) : Value := .agg #[.int .i64 T, .int .i64 R, .int .i64 K, .string key, .string val, .int .i64 N]

set_option maxRecDepth 100000 in
set_option maxHeartbeats 1000000 in
theorem fits_any (T R K : Int) (key val : ByteArray) (N : Int) (b : Bool) (w : World) (h : fitsN K N = b) :
    Calls Tryz.prog 38 #[.agg #[.int .i64 T, .int .i64 R, .int .i64 K, .string key, .string val, .int .i64 N]] w fun e w' => e = .returned (.bool b) ∧ Below w.heap.size w w' := by
  subst h
  unfold fitsN
  by_cases h1 : K = 3
  · subst h1
    rw [if_pos rfl]
    by_cases h2 : -1125899906842624 ≤ N
    · rw [decide_eq_true h2, Bool.true_and]
      go_enter Tryz.func38, Tryz.ntmps38
      go_wp2
      go_ret
      exact ⟨by first | rfl | simp, (Below.refl _ _).alloc (Nat.le_refl _) _⟩
    · rw [decide_eq_false h2, Bool.false_and]
      have d := decide_eq_false h2
      go_enter Tryz.func38, Tryz.ntmps38
      go_wp2
      go_ret
      exact ⟨by first | rfl | simp, (Below.refl _ _).alloc (Nat.le_refl _) _⟩
  · rw [if_neg h1]
    have b1 : (K == 3) = false := by simpa using h1
    by_cases h3 : K = 4
    · subst h3
      rw [if_pos rfl]
      by_cases h2 : 0 ≤ N
      · rw [decide_eq_true h2, Bool.true_and]
        go_enter Tryz.func38, Tryz.ntmps38
        go_wp2
        go_ret
        exact ⟨by first | rfl | simp, (Below.refl _ _).alloc (Nat.le_refl _) _⟩
      · rw [decide_eq_false h2, Bool.false_and]
        have d := decide_eq_false h2
        go_enter Tryz.func38, Tryz.ntmps38
        go_wp2
        go_ret
        exact ⟨by first | rfl | simp, (Below.refl _ _).alloc (Nat.le_refl _) _⟩
    · rw [if_neg h3]
      have b3 : (K == 4) = false := by simpa using h3
      go_enter Tryz.func38, Tryz.ntmps38
      go_wp2
      go_ret
      exact ⟨rfl, (Below.refl _ _).alloc (Nat.le_refl _) _⟩

/-- The six cells of a write. -/
def wrAt (w : World) (B : Nat) (T R K : Int) (key val : ByteArray) (N : Int) : Prop :=
  w.cell? ⟨B, 0, none⟩ = some (.int .i64 T) ∧ w.cell? ⟨B, 1, none⟩ = some (.int .i64 R) ∧ w.cell? ⟨B, 2, none⟩ = some (.int .i64 K) ∧ w.cell? ⟨B, 3, none⟩ = some (.string key) ∧ w.cell? ⟨B, 4, none⟩ = some (.string val) ∧ w.cell? ⟨B, 5, none⟩ = some (.int .i64 N)
theorem wrAt.below {w w' : World} {B : Nat} {T R K : Int} {key val : ByteArray} {N : Int} {m : Nat} (h : wrAt w B T R K key val N) (hb : Below m w w') (hm : B < m) : wrAt w' B T R K key val N :=
  ⟨(hb.cell hm).trans h.1, (hb.cell hm).trans h.2.1, (hb.cell hm).trans h.2.2.1, (hb.cell hm).trans h.2.2.2.1, (hb.cell hm).trans h.2.2.2.2.1, (hb.cell hm).trans h.2.2.2.2.2⟩
theorem wrAt_new (w : World) (T R K : Int) (key val : ByteArray) (N : Int) (t : TypeId) : wrAt (w.alloc (.cells #[.int .i64 T, .int .i64 R, .int .i64 K, .string key, .string val, .int .i64 N] t)) w.heap.size T R K key val N := by
  unfold wrAt; simp

set_option maxRecDepth 100000 in
set_option maxHeartbeats 4000000 in
theorem wright_any (T R K : Int) (key val : ByteArray) (N : Int) (w : World) (hk : key.size ≤ 140737488351232) (hv : val.size ≤ 140737488351232) :
    Calls Tryz.prog 19 #[.agg #[.int .i64 T, .int .i64 R, .int .i64 K, .string key, .string val, .int .i64 N]] w fun e w' => e = .returned (errV (wriE T R K key val N)) ∧ Below w.heap.size w w' := by
  have HN0 := Lib.hid (wrAt_new w T R K key val N 32)
  by_cases hK : K < 1 ∨ 4 < K
  · rw [wriE_kind hK]
    by_cases h1 : K < 1
    · go_enter Tryz.func19, Tryz.ntmps19
      go_wp2
      go_ret
      exact ⟨rfl, (Below.refl _ _).alloc (Nat.le_refl _) _⟩
    · have h2 : 4 < K := by omega
      go_enter Tryz.func19, Tryz.ntmps19
      go_wp2
      go_ret
      exact ⟨rfl, (Below.refl _ _).alloc (Nat.le_refl _) _⟩
  · have h1 : ¬ K < 1 := by omega
    have h2 : ¬ 4 < K := by omega
    cases hid : idOk T R with
    | false =>
      rw [wriE_id hK hid]
      go_enter Tryz.func19, Tryz.ntmps19
      go_wp2_with fail
      refine (idrightW_any T R false _ hid).mono ?_
      rintro r w1 ⟨rfl, hb1⟩
      have HB1 := Lib.hid (((Below.refl _ _).alloc (Nat.le_refl _) _).trans (hb1.mono (by simp)))
      clear hb1
      go_wp2
      go_ret
      exact ⟨rfl, HB1.out⟩
    | true =>
      go_enter Tryz.func19, Tryz.ntmps19
      go_wp2_with fail
      refine (idrightW_any T R true _ hid).mono ?_
      rintro r w1 ⟨rfl, hb1⟩
      have HA1 := Lib.hid (HN0.out.below hb1 (by simp))
      have HB1 := Lib.hid (((Below.refl _ _).alloc (Nat.le_refl _) _).trans (hb1.mono (by simp)))
      have HL1 : Hid (w.heap.size < w1.heap.size) := Lib.hid (by have := hb1.size; simp at this; exact this)
      have HID := Lib.hid hid
      clear hb1 hid
      obtain ⟨c0, c1, c2, c3, c4, c5⟩ := HA1.out
      by_cases hs : 40 < key.size ∨ 300 < val.size
      · have HW := Lib.hid (wriE_size (N := N) hK HID.out hs)
        by_cases h3 : 40 < key.size
        · go_wp2
          go_ret
          rw [HW.out]
          exact ⟨rfl, HB1.out⟩
        · have h4 : 300 < val.size := by omega
          go_wp2
          go_ret
          rw [HW.out]
          exact ⟨rfl, HB1.out⟩
      · have h3 : ¬ 40 < key.size := by omega
        have h4 : ¬ 300 < val.size := by omega
        have HW := Lib.hid (wriE_rest (N := N) hK HID.out hs)
        clear hK hs
        by_cases hve : 0 < val.size
        · have b0 : ¬ val.toList = [] := by have := bne_empty hve; simpa using this
          cases hV : hasV K with
          | false =>
            have HR : Hid (wriE T R K key val N = 3) := Lib.hid (by rw [HW.out, hV]; simp [hve])
            clear hve
            go_wp2_with (go_at_call 36; refine (hasv_any K false _ hV).mono ?_; rintro r w2 ⟨rfl, rfl⟩)
            go_ret
            rw [HR.out]
            exact ⟨rfl, HB1.out⟩
          | true =>
            by_cases hn : N = 0
            · subst hn
              cases hF : fitsN K 0 with
              | true =>
                have HR : Hid (wriE T R K key val 0 = 0) := Lib.hid (by rw [HW.out, hF]; simp [hV])
                go_wp2_with (first | (go_at_call 36; refine (hasv_any K true _ hV).mono ?_; rintro r w2 ⟨rfl, rfl⟩) | (go_at_call 38; refine (fits_any T R K key val 0 true _ hF).mono ?_; rintro r w4 ⟨rfl, hb4⟩; have HB4 := Lib.hid (HB1.out.trans (hb4.mono (Nat.le_of_lt HL1.out))); clear hb4))
                go_ret
                rw [HR.out]
                exact ⟨rfl, HB4.out⟩
              | false =>
                have HR : Hid (wriE T R K key val 0 = 2) := Lib.hid (by rw [HW.out, hF]; simp [hV])
                go_wp2_with (first | (go_at_call 36; refine (hasv_any K true _ hV).mono ?_; rintro r w2 ⟨rfl, rfl⟩) | (go_at_call 38; refine (fits_any T R K key val 0 false _ hF).mono ?_; rintro r w4 ⟨rfl, hb4⟩; have HB4 := Lib.hid (HB1.out.trans (hb4.mono (Nat.le_of_lt HL1.out))); clear hb4))
                go_ret
                rw [HR.out]
                exact ⟨rfl, HB4.out⟩
            · cases hM : hasN K with
              | false =>
                have HR : Hid (wriE T R K key val N = 3) := Lib.hid (by rw [HW.out, hM]; simp [hn])
                go_wp2_with (first | (go_at_call 36; refine (hasv_any K true _ hV).mono ?_; rintro r w2 ⟨rfl, rfl⟩) | (go_at_call 37; refine (hasn_any K false _ hM).mono ?_; rintro r w3 ⟨rfl, rfl⟩))
                go_ret
                rw [HR.out]
                exact ⟨rfl, HB1.out⟩
              | true =>
                cases hF : fitsN K N with
                | true =>
                  have HR : Hid (wriE T R K key val N = 0) := Lib.hid (by rw [HW.out, hF]; simp [hV, hM])
                  go_wp2_with (first | (go_at_call 36; refine (hasv_any K true _ hV).mono ?_; rintro r w2 ⟨rfl, rfl⟩) | (go_at_call 37; refine (hasn_any K true _ hM).mono ?_; rintro r w3 ⟨rfl, rfl⟩) | (go_at_call 38; refine (fits_any T R K key val N true _ hF).mono ?_; rintro r w4 ⟨rfl, hb4⟩; have HB4 := Lib.hid (HB1.out.trans (hb4.mono (Nat.le_of_lt HL1.out))); clear hb4))
                  go_ret
                  rw [HR.out]
                  exact ⟨rfl, HB4.out⟩
                | false =>
                  have HR : Hid (wriE T R K key val N = 2) := Lib.hid (by rw [HW.out, hF]; simp [hV, hM])
                  go_wp2_with (first | (go_at_call 36; refine (hasv_any K true _ hV).mono ?_; rintro r w2 ⟨rfl, rfl⟩) | (go_at_call 37; refine (hasn_any K true _ hM).mono ?_; rintro r w3 ⟨rfl, rfl⟩) | (go_at_call 38; refine (fits_any T R K key val N false _ hF).mono ?_; rintro r w4 ⟨rfl, hb4⟩; have HB4 := Lib.hid (HB1.out.trans (hb4.mono (Nat.le_of_lt HL1.out))); clear hb4))
                  go_ret
                  rw [HR.out]
                  exact ⟨rfl, HB4.out⟩
        · obtain rfl := empty_of hve
          have z0 : (⟨#[]⟩ : ByteArray).size = 0 := rfl
          by_cases hn : N = 0
          · subst hn
            cases hF : fitsN K 0 with
            | true =>
              have HR : Hid (wriE T R K key ⟨#[]⟩ 0 = 0) := Lib.hid (by rw [HW.out, hF]; simp [z0])
              go_wp2_with (go_at_call 38; refine (fits_any T R K key ⟨#[]⟩ 0 true _ hF).mono ?_; rintro r w4 ⟨rfl, hb4⟩; have HB4 := Lib.hid (HB1.out.trans (hb4.mono (Nat.le_of_lt HL1.out))); clear hb4)
              go_ret
              rw [HR.out]
              exact ⟨rfl, HB4.out⟩
            | false =>
              have HR : Hid (wriE T R K key ⟨#[]⟩ 0 = 2) := Lib.hid (by rw [HW.out, hF]; simp [z0])
              go_wp2_with (go_at_call 38; refine (fits_any T R K key ⟨#[]⟩ 0 false _ hF).mono ?_; rintro r w4 ⟨rfl, hb4⟩; have HB4 := Lib.hid (HB1.out.trans (hb4.mono (Nat.le_of_lt HL1.out))); clear hb4)
              go_ret
              rw [HR.out]
              exact ⟨rfl, HB4.out⟩
          · cases hM : hasN K with
            | false =>
              have HR : Hid (wriE T R K key ⟨#[]⟩ N = 3) := Lib.hid (by rw [HW.out, hM]; simp [hn])
              go_wp2_with (first | (go_at_call 37; refine (hasn_any K false _ hM).mono ?_; rintro r w3 ⟨rfl, rfl⟩))
              go_ret
              rw [HR.out]
              exact ⟨rfl, HB1.out⟩
            | true =>
              cases hF : fitsN K N with
              | true =>
                have HR : Hid (wriE T R K key ⟨#[]⟩ N = 0) := Lib.hid (by rw [HW.out, hF]; simp [hM, z0])
                go_wp2_with (first | (go_at_call 37; refine (hasn_any K true _ hM).mono ?_; rintro r w3 ⟨rfl, rfl⟩) | (go_at_call 38; refine (fits_any T R K key ⟨#[]⟩ N true _ hF).mono ?_; rintro r w4 ⟨rfl, hb4⟩; have HB4 := Lib.hid (HB1.out.trans (hb4.mono (Nat.le_of_lt HL1.out))); clear hb4))
                go_ret
                rw [HR.out]
                exact ⟨rfl, HB4.out⟩
              | false =>
                have HR : Hid (wriE T R K key ⟨#[]⟩ N = 2) := Lib.hid (by rw [HW.out, hF]; simp [hM, z0])
                go_wp2_with (first | (go_at_call 37; refine (hasn_any K true _ hM).mono ?_; rintro r w3 ⟨rfl, rfl⟩) | (go_at_call 38; refine (fits_any T R K key ⟨#[]⟩ N false _ hF).mono ?_; rintro r w4 ⟨rfl, hb4⟩; have HB4 := Lib.hid (HB1.out.trans (hb4.mono (Nat.le_of_lt HL1.out))); clear hb4))
                go_ret
                rw [HR.out]
                exact ⟨rfl, HB4.out⟩
end Go.Proofs.YtpmnflnaeknakaaGreatDoor
