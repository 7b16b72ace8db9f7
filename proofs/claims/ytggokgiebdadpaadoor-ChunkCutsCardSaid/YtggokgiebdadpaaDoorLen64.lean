/-
  The contract of math/bits.Len64: how many bits a number has.
-/
import Derived.Test.YtggokgiebdadpaaDoorProg
import Derived.WalkKit
import Derived.Handy
import Derived.Lib.Hide
namespace Go.Proofs.YtggokgiebdadpaaDoor
open Go.RowKit

/-- How many bits a number below 2^f has. -/
def bitsF : Nat → Nat → Nat
  | 0, _ => 0
  | f + 1, n => if n = 0 then 0 else bitsF f (n / 2) + 1
theorem bitsF_zero (f : Nat) : bitsF f 0 = 0 := by cases f <;> simp [bitsF]
theorem bitsF_more (f : Nat) : ∀ n k, n < 2 ^ f → bitsF (f + k) n = bitsF f n := by
  induction f with
  | zero => intro n k h; have : n = 0 := by simpa using h
            subst this; rw [bitsF_zero, bitsF_zero]
  | succ f ih =>
    intro n k h
    rw [show f + 1 + k = (f + k) + 1 by omega, bitsF, bitsF]
    by_cases h0 : n = 0
    · rw [if_pos h0, if_pos h0]
    · rw [if_neg h0, if_neg h0, ih (n / 2) k (by rw [Nat.pow_succ] at h; omega)]
theorem bitsF_shift (f : Nat) : ∀ c n, 2 ^ c ≤ n → bitsF (f + c) n = c + bitsF f (n / 2 ^ c) := by
  intro c
  induction c with
  | zero => intro n _; simp
  | succ c ih =>
    intro n h
    rw [Nat.pow_succ] at h
    have h0 : n ≠ 0 := by have := Nat.two_pow_pos c; omega
    rw [show f + (c + 1) = (f + c) + 1 by omega, bitsF, if_neg h0, ih (n / 2) (by omega), Nat.div_div_eq_div_mul, Nat.pow_succ, Nat.mul_comm 2]
    omega
theorem bitsF_le (f : Nat) : ∀ n, bitsF f n ≤ f := by
  induction f with
  | zero => intro n; simp [bitsF]
  | succ f ih => intro n; rw [bitsF]; split
                 · omega
                 · have := ih (n / 2); omega
/-- How many bits a number below 2^64 has. -/
def bitsN (n : Nat) : Nat := bitsF 64 n
theorem bitsN_low {n : Nat} (h : n < 256) : bitsN n = bitsF 8 n := bitsF_more 8 n 56 (by omega)
theorem bitsN_shift {n : Nat} (c f : Nat) (hc : 8 + f + c = 64) (h : 2 ^ c ≤ n) (hx : n / 2 ^ c < 256) : bitsN n = c + bitsF 8 (n / 2 ^ c) := by
  unfold bitsN
  rw [← hc, bitsF_shift (8 + f) c n h, bitsF_more 8 _ f (by omega)]

/-- The table of bytes' bits. -/
def LTabIs (T : ByteArray) : Prop := ∀ x, x < 256 → ∃ h : x < T.size, (T[x]'h).toNat = bitsF 8 x
theorem LTabIs.at {T : ByteArray} (H : LTabIs T) {n : Int} (x : Nat) (e : n.toNat = x) (hx : x < 256) (h : n.toNat < T.size) : (T[n.toNat]'h).toNat = bitsF 8 x := by
  obtain ⟨_, h2⟩ := H n.toNat (by omega)
  rw [h2, e]
theorem len_ret {a b : Int} {t c N : Nat} (ht : t = N) (hN : N ≤ 8) (hc : c ≤ 56) (ha : a = wrap64 ((c : Int) + wrap64 (t : Int))) (hb : b = ((c + N : Nat) : Int)) : Ending.returned (.int .i64 a) = .returned (.int .i64 b) := by
  subst ht
  rw [ha, hb, IntWalk.wrap64_in (t : Int) ⟨by omega, by omega⟩, IntWalk.wrap64_in _ ⟨by omega, by omega⟩]
  rfl

set_option maxRecDepth 100000 in
set_option maxHeartbeats 2000000 in
theorem len64_any (n : Int) (w : World) (h0 : 0 ≤ n) (h1 : n ≤ 18446744073709551615) :
    Calls Tryd.prog 35 #[.int .u64 n] w fun e w' => e = .returned (.int .i64 (bitsN n.toNat)) ∧ w = w' := by
  go_enter Tryd.func35, Tryd.ntmps35
  generalize hT : ByteArray.mk _ = T
  have H1 : LTabIs T := by
    subst hT
    show ∀ x, x < 256 → _
    decide +kernel
  have hsz : (255 : Int) < (T.size : Int) := by
    obtain ⟨h, _⟩ := H1 255 (by decide)
    omega
  clear hT
  have H2 := Lib.hid H1
  clear H1
  go_wp2
  · go_ret
    exact ⟨len_ret (c := 56) (H2.out.at (n.toNat / 2 ^ 56) (by omega) (by omega) (by omega)) (bitsF_le 8 _) (by omega) rfl (by rw [bitsN_shift 56 0 (by omega) (by omega) (by omega)]), rfl⟩
  · go_ret
    exact ⟨len_ret (c := 48) (H2.out.at (n.toNat / 2 ^ 48) (by omega) (by omega) (by omega)) (bitsF_le 8 _) (by omega) rfl (by rw [bitsN_shift 48 8 (by omega) (by omega) (by omega)]), rfl⟩
  · go_ret
    exact ⟨len_ret (c := 40) (H2.out.at (n.toNat / 2 ^ 40) (by omega) (by omega) (by omega)) (bitsF_le 8 _) (by omega) rfl (by rw [bitsN_shift 40 16 (by omega) (by omega) (by omega)]), rfl⟩
  · go_ret
    exact ⟨len_ret (c := 32) (H2.out.at (n.toNat / 2 ^ 32) (by omega) (by omega) (by omega)) (bitsF_le 8 _) (by omega) rfl (by rw [bitsN_shift 32 24 (by omega) (by omega) (by omega)]), rfl⟩
  · go_ret
    exact ⟨len_ret (c := 24) (H2.out.at (n.toNat / 2 ^ 24) (by omega) (by omega) (by omega)) (bitsF_le 8 _) (by omega) rfl (by rw [bitsN_shift 24 32 (by omega) (by omega) (by omega)]), rfl⟩
  · go_ret
    exact ⟨len_ret (c := 16) (H2.out.at (n.toNat / 2 ^ 16) (by omega) (by omega) (by omega)) (bitsF_le 8 _) (by omega) rfl (by rw [bitsN_shift 16 40 (by omega) (by omega) (by omega)]), rfl⟩
  · go_ret
    exact ⟨len_ret (c := 8) (H2.out.at (n.toNat / 2 ^ 8) (by omega) (by omega) (by omega)) (bitsF_le 8 _) (by omega) rfl (by rw [bitsN_shift 8 48 (by omega) (by omega) (by omega)]), rfl⟩
  · go_ret
    exact ⟨len_ret (c := 0) (H2.out.at n.toNat rfl (by omega) (by omega)) (bitsF_le 8 _) (by omega) (by rw [Int.natCast_zero, Int.zero_add]) (by rw [bitsN_low (by omega), Nat.zero_add]), rfl⟩
end Go.Proofs.YtggokgiebdadpaaDoor
