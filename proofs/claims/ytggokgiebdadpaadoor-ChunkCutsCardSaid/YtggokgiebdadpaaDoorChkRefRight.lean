/-
  The contracts of the document's ChunkRight, of 'four' and of its Chunk.
-/
import Derived.Test.YtggokgiebdadpaaDoorChkWrite
import Derived.Test.YtggokgiebdadpaaDoorCrcRefSeal
import Derived.Test.YtggokgiebdadpaaDoorRefVary
import Derived.Test.YtggokgiebdadpaaDoorWithin
namespace Go.Proofs.YtggokgiebdadpaaDoor
open Go.RowKit

theorem within_as (n lo hi : Int) (b : Bool) (w : World) (h : decide (lo ≤ n ∧ n ≤ hi) = b) :
    Calls Tryd.prog 14 #[.int .i64 n, .int .i64 lo, .int .i64 hi] w fun e w' => e = .returned (.bool b) ∧ w = w' := by
  cases b with
  | true =>
    have h2 := of_decide_eq_true h
    exact within_yes n lo hi w h2.1 h2.2
  | false =>
    have h2 := of_decide_eq_false h
    by_cases h3 : n < lo
    · exact within_low n lo hi w h3
    · exact within_high n lo hi w (by omega) (by omega)

set_option maxRecDepth 100000 in
set_option maxHeartbeats 2000000 in
theorem rcright_any (n : Nat) (t a : Int) (D : ByteArray) (e : Nat) (w : World) (hc : ChkOk ⟨n, t, a, D⟩) (h : crE t a D.size = e) :
    Calls Tryd.prog 19 #[.agg #[.int .u32 n, .int .i64 t, .int .i64 a, .string D]] w fun r w' => r = .returned (.int .i64 e) ∧ Below w.heap.size w w' := by
  obtain ⟨_, t0, t1, a0, a1, hd⟩ := hc
  simp only at t0 t1 a0 a1 hd
  have HW : Hid (Below w.heap.size w (w.alloc (.cells #[.int .u32 n, .int .i64 t, .int .i64 a, .string D] 34))) := Lib.hid ((Below.refl _ _).alloc (Nat.le_refl _) _)
  by_cases h1 : 1 ≤ t ∧ t ≤ 4096
  · have H1 : Hid (decide ((1 : Int) ≤ t ∧ t ≤ 4096) = true) := Lib.hid (decide_eq_true h1)
    by_cases h2 : 0 ≤ a ∧ a ≤ t
    · have H2 : Hid (decide ((0 : Int) ≤ a ∧ a ≤ t) = true) := Lib.hid (decide_eq_true h2)
      have hn : ¬ (t < 1 ∨ 4096 < t ∨ a < 0 ∨ t < a) := by omega
      by_cases h3 : 1 ≤ D.size ∧ D.size ≤ 256
      · have H3 : Hid (decide ((1 : Int) ≤ (D.size : Int) ∧ (D.size : Int) ≤ 256) = true) := Lib.hid (decide_eq_true (by omega))
        have hn2 : ¬ (D.size < 1 ∨ 256 < D.size) := by omega
        have hw : IntKind.i64.wrap (a + (D.size : Int)) = a + (D.size : Int) := IntWalk.i64_in _ (by omega)
        by_cases h4 : t - a < (D.size : Int)
        · obtain rfl : 2 = e := by rw [← h]; unfold crE; rw [if_neg hn, if_neg hn2, if_pos h4]
          have h4' : t < a + (D.size : Int) := by omega
          clear h hn hn2 h1 h2 h3
          go_enter Tryd.func19, Tryd.ntmps19
          go_wp2_with (first | (go_at_call 14; ((with_reducible refine (within_as t 1 4096 true _ H1.out).mono ?_); rintro r w' ⟨rfl, rfl⟩)) | (go_at_call 14; ((with_reducible refine (within_as a 0 t true _ H2.out).mono ?_); rintro r w' ⟨rfl, rfl⟩)) | (go_at_call 14; ((with_reducible refine (within_as _ 1 256 true _ H3.out).mono ?_); rintro r w' ⟨rfl, rfl⟩)))
          go_ret
          exact ⟨rfl, HW.out⟩
        · obtain rfl : 0 = e := by rw [← h]; unfold crE; rw [if_neg hn, if_neg hn2, if_neg h4]
          have h4' : a + (D.size : Int) ≤ t := by omega
          clear h hn hn2 h1 h2 h3
          go_enter Tryd.func19, Tryd.ntmps19
          go_wp2_with (first | (go_at_call 14; ((with_reducible refine (within_as t 1 4096 true _ H1.out).mono ?_); rintro r w' ⟨rfl, rfl⟩)) | (go_at_call 14; ((with_reducible refine (within_as a 0 t true _ H2.out).mono ?_); rintro r w' ⟨rfl, rfl⟩)) | (go_at_call 14; ((with_reducible refine (within_as _ 1 256 true _ H3.out).mono ?_); rintro r w' ⟨rfl, rfl⟩)))
          go_ret
          exact ⟨rfl, HW.out⟩
      · have H3 : Hid (decide ((1 : Int) ≤ (D.size : Int) ∧ (D.size : Int) ≤ 256) = false) := Lib.hid (decide_eq_false (by omega))
        obtain rfl : 4 = e := by rw [← h]; unfold crE; rw [if_neg hn, if_pos (by omega)]
        clear h hn h1 h2 h3
        go_enter Tryd.func19, Tryd.ntmps19
        go_wp2_with (first | (go_at_call 14; ((with_reducible refine (within_as t 1 4096 true _ H1.out).mono ?_); rintro r w' ⟨rfl, rfl⟩)) | (go_at_call 14; ((with_reducible refine (within_as a 0 t true _ H2.out).mono ?_); rintro r w' ⟨rfl, rfl⟩)) | (go_at_call 14; ((with_reducible refine (within_as _ 1 256 false _ H3.out).mono ?_); rintro r w' ⟨rfl, rfl⟩)))
        go_ret
        exact ⟨rfl, HW.out⟩
    · have H2 : Hid (decide ((0 : Int) ≤ a ∧ a ≤ t) = false) := Lib.hid (decide_eq_false h2)
      obtain rfl : 2 = e := by rw [← h]; unfold crE; rw [if_pos (by omega)]
      clear h h1 h2
      go_enter Tryd.func19, Tryd.ntmps19
      go_wp2_with (first | (go_at_call 14; ((with_reducible refine (within_as t 1 4096 true _ H1.out).mono ?_); rintro r w' ⟨rfl, rfl⟩)) | (go_at_call 14; ((with_reducible refine (within_as a 0 t false _ H2.out).mono ?_); rintro r w' ⟨rfl, rfl⟩)))
      go_ret
      exact ⟨rfl, HW.out⟩
  · have H1 : Hid (decide ((1 : Int) ≤ t ∧ t ≤ 4096) = false) := Lib.hid (decide_eq_false h1)
    obtain rfl : 2 = e := by rw [← h]; unfold crE; rw [if_pos (by omega)]
    clear h h1
    go_enter Tryd.func19, Tryd.ntmps19
    go_wp2_with (first | (go_at_call 14; ((with_reducible refine (within_as t 1 4096 false _ H1.out).mono ?_); rintro r w' ⟨rfl, rfl⟩)))
    go_ret
    exact ⟨rfl, HW.out⟩

/-- The first bytes of a number. -/
theorem tk_nil (n k : Nat) : tk ⟨#[]⟩ n k = ⟨((tail4 n).take k).toArray⟩ := by apply bytes_ext; unfold tk; simp
set_option maxRecDepth 100000 in
set_option maxHeartbeats 1000000 in
theorem four_any (n : Nat) (w : World) (hl : n < 4294967296) :
    Calls Tryd.prog 21 #[.int .u32 n] w fun e w' => e = .returned (.string ⟨(tail4 n).toArray⟩) ∧ Below w.heap.size w w' := by
  obtain ⟨E, hE⟩ : ∃ E : ByteArray, (⟨#[]⟩ : ByteArray) = E := ⟨_, rfl⟩
  have HEE := Lib.hid hE
  have hE0 : E.size = 0 := by rw [← hE]; rfl
  go_enter Tryd.func21, Tryd.ntmps21
  rw [hE]
  clear hE
  go_wp2
  go_loopw [0, 3, 4] (fun m t c wr => ∃ k : Nat, k ≤ 4 ∧ c = .int .i64 k ∧ t = .string (tk E n k) ∧ m = .int .u32 (n / 256 ^ k : Nat) ∧ Below w.heap.size w wr) (fun _ _ c _ => 4 - (intOf c).toNat)
  case atStart => exact ⟨0, by omega, rfl, by rw [tk_zero], by simp, Below.refl _ _⟩
  case round =>
    obtain ⟨k, hk, rfl, rfl, rfl, hb⟩ := hrel
    have HB := Lib.hid hb
    clear hb
    by_cases hlt : k < 4
    · have hcv := ref_conv (n / 256 ^ k) wr
      have hz := tk_size E n k
      rw [hE0] at hz
      have hd := div_next n k
      have ht := tk_succ E n k hlt
      have hm : n / 256 ^ k < 4294967296 := Nat.lt_of_le_of_lt (Nat.div_le_self _ _) hl
      obtain ⟨m2, hm2⟩ : ∃ m2, n / 256 ^ (k + 1) = m2 := ⟨_, rfl⟩
      rw [hm2] at hd
      have HM2 := Lib.hid hm2
      clear hm2
      generalize n / 256 ^ k = m at *
      go_wp2
      go_roundw
      case rel => exact ⟨k + 1, by omega, by go_num, rfl, by rw [HM2.out], HB.out.alloc HB.out.size _⟩
      case measure => simp [intOf]; omega
    · obtain rfl : k = 4 := by omega
      have HT : Hid (tk E n 4 = ⟨(tail4 n).toArray⟩) := Lib.hid (by rw [← HEE.out, tk_nil]; rfl)
      go_wp2
      go_ret
      exact ⟨by rw [← HT.out]; rfl, HB.out⟩
theorem four_l (n : Nat) (N : ByteArray) (w : World) (h : n < 4294967296) (hN : (⟨(tail4 n).toArray⟩ : ByteArray) = N) :
    Calls Tryd.prog 21 #[.int .u32 n] w fun e w' => e = .returned (.string N) ∧ Below w.heap.size w w' := by
  rw [← hN]; exact four_any n w h
end Go.Proofs.YtggokgiebdadpaaDoor
