import Derived.Test.YtkafhlpnhgipeaaGreatDoorPk03
import Derived.Test.YtkafhlpnhgipeaaGreatDoorPk00
import Derived.WalkKit
import Derived.Handy
import Derived.Lib.Hide
import Derived.Laws.BitsAllLaws
import Derived.Test.YtkafhlpnhgipeaaGreatDoorProg
import Derived.Test.YtkafhlpnhgipeaaGreatDoorPk02
import Derived.Deep.LoopGhost
import Derived.Test.YtkafhlpnhgipeaaGreatDoorPk04
/-
  The contract of vary.Put: whatever number comes in, it answers the text of the bytes 'putL' gives; nothing that was in memory is changed.
-/
namespace Go.Proofs.YtkafhlpnhgipeaaGreatDoor
open Go.RowKit

/-- A byte that says that more follow. -/
def hiB (m : Nat) : UInt8 := UInt8.ofNat (m % 128 + 128)
theorem high_byte (m : Nat) : bits .or .u8 ((m : Int) % 256) 128 = ((hiB m).toNat : Int) := by
  unfold hiB
  have e : (m : Int) % 256 = ((m % 256 : Nat) : Int) := by omega
  rw [e, show (128 : Int) = ((128 : Nat) : Int) from rfl, u8_or_nat _ _ (by omega) (by omega), toNat_ofNat_lt (by omega)]
  congr 1
  have h1 : m % 256 = 2 ^ 7 * (m / 128 % 2) + m % 128 := by omega
  rw [h1, Nat.two_pow_add_eq_or_of_lt (by omega), Nat.or_assoc, Nat.or_comm (m % 128), ← Nat.or_assoc]
  have h3 : 2 ^ 7 * (m / 128 % 2) ||| 128 = 2 ^ 7 * 1 := by
    have : m / 128 % 2 = 0 ∨ m / 128 % 2 = 1 := by omega
    rcases this with h | h <;> rw [h] <;> decide
  rw [h3, ← Nat.two_pow_add_eq_or_of_lt (by omega)]
  omega

theorem make10 (w : World) : (Instr.makeSlice 63 (.int .i64 0) (.int .i64 10)).run Tryz.prog w = .ok (.slice (some ⟨w.heap.size, 0, none⟩) 0 10) (w.alloc (.cells #[.int .u8 0, .int .u8 0, .int .u8 0, .int .u8 0, .int .u8 0, .int .u8 0, .int .u8 0, .int .u8 0, .int .u8 0, .int .u8 0] 5)) := by kernel_rfl

set_option maxRecDepth 100000 in
set_option maxHeartbeats 1000000 in
theorem put_any (n : Int) (w : World) (h0 : 0 ≤ n) (h1 : n ≤ 18446744073709551615) :
    Calls Tryz.prog 86 #[.int .u64 n] w fun e w' => e = .returned (.string ⟨(putL n.toNat).toArray⟩) ∧ Below w.heap.size w w' := by
  obtain ⟨N, rfl⟩ := Int.eq_ofNat_of_zero_le h0
  rw [Int.toNat_natCast]
  have hmk := make10
  go_enter Tryz.func86, Tryz.ntmps86
  go_wp2
  go_loopw [0, 3] (fun n b wr => ∃ (m : Nat) (pre : List UInt8), n = .int .u64 m ∧ m ≤ 18446744073709551615 ∧ pre ++ putL m = putL N ∧ ownsB wr w.heap.size b pre ∧ Below w.heap.size w wr) (fun n _ _ => (intOf n).toNat)
  case atStart => exact ⟨N, [], rfl, by omega, rfl, World.ownsRow_made w _ 10 (Nat.le_refl _) (by unfold maxLen; omega) rfl, (Below.refl _ _).alloc (Nat.le_refl _) _⟩
  case round =>
    obtain ⟨m, pre, rfl, hm, hput, hown, hbel⟩ := hrel
    have HP := Lib.hid hput
    clear hput hmk
    have hlen : pre.length + 1 ≤ 10 := by
      have h2 := putL_le10 (n := N) (by omega)
      rw [← HP.out, List.length_append] at h2
      have := putL_pos m
      omega
    by_cases hlt : m < 128
    · go_wp2_with (at_builtin; refine wpList_append_byte rfl _ _ rfl w.heap.size _ pre rfl (hown.alloc _) ⟨wr.heap.size, 0, none⟩ 1 rfl (m : Int) (UInt8.ofNat m) ?c1 ?c2 ?c3 ?c4 ?_)
      case c1 => simp [Addr.add]
      case c2 => rw [toNat_ofNat_lt (by omega)]
      case c3 => omega
      case c4 => have := hbel.size; simp; omega
      · intro v' w1 hown1 hg1 _
        have hcv := run_string_ownsB hown1
        have hb1 : Below w.heap.size w w1 := (hbel.alloc hbel.size _).grown hg1 (by have := hbel.size; simp; omega) (fun k hk => (World.ownsRow.lt hown k hk).1)
        clear hown1 hg1
        go_wp2
        go_ret
        refine ⟨?_, hb1⟩
        have e : pre ++ [UInt8.ofNat m] = putL N := by rw [← putL_small hlt]; exact HP.out
        rw [← e]; rfl
    · go_wp2_with (at_builtin; refine wpList_append_byte rfl _ _ rfl w.heap.size _ pre rfl (hown.alloc _) ⟨wr.heap.size, 0, none⟩ 1 rfl (bits .or .u8 ((m : Int) % 256) 128) (hiB m) ?d1 ?d2 ?d3 ?d4 ?_)
      case d1 => simp [Addr.add]
      case d2 => exact high_byte m
      case d3 => omega
      case d4 => have := hbel.size; simp; omega
      · intro v' w1 hown1 hg1 _
        have hb1 : Below w.heap.size w w1 := (hbel.alloc hbel.size _).grown hg1 (by have := hbel.size; simp; omega) (fun k hk => (World.ownsRow.lt hown k hk).1)
        clear hg1 hown
        go_wp2
        go_roundw
        case rel => exact ⟨m / 128, pre ++ [hiB m], by go_num, by omega, by rw [List.append_assoc, List.singleton_append, hiB, ← putL_big hlt]; exact HP.out, hown1, hb1⟩
        case measure => simp [intOf]; omega
end Go.Proofs.YtkafhlpnhgipeaaGreatDoor
/-
  The contracts of vary.Zig and vary.Zag.
-/
namespace Go.Proofs.YtkafhlpnhgipeaaGreatDoor
open Go.RowKit

theorem i64_not_any (x : Int) (h0 : -9223372036854775808 ≤ x) (h1 : x ≤ 9223372036854775807) : bits .xor .i64 (-1) x = -x - 1 := by
  show IntKind.i64.wrap ((BitVec.ofInt 64 (-1) ^^^ BitVec.ofInt 64 x).toNat : Int) = _
  have e1 : BitVec.ofInt 64 (-1) = BitVec.allOnes 64 := by decide
  have e2 : (BitVec.ofInt 64 x).toNat = (x % 18446744073709551616).toNat := by rw [BitVec.toNat_ofInt]; rfl
  rw [e1, BitVec.allOnes_xor, BitVec.toNat_not, e2, IntKind.wrap_i64]
  omega

theorem ret_int {k : IntKind} {a b : Int} (h : a = b) : Ending.returned (.int k a) = .returned (.int k b) := by rw [h]

def zigN (n : Int) : Int := if n < 0 then -2 * n - 1 else 2 * n
def zagN (u : Int) : Int := if u % 2 = 1 then -(u / 2) - 1 else u / 2

theorem zig_any (n : Int) (w : World) (h0 : -9223372036854775808 ≤ n) (h1 : n ≤ 9223372036854775807) :
    Calls Tryz.prog 121 #[.int .i64 n] w fun e w' => e = .returned (.int .u64 (zigN n)) ∧ w = w' := by
  by_cases hneg : n < 0
  · have hn : Hid (bits .xor .i64 (-1) n = -n - 1) := Lib.hid (i64_not_any n h0 h1)
    go_enter Tryz.func121, Tryz.ntmps121
    go_wp2
    go_ret
    refine ⟨ret_int ?_, rfl⟩
    rw [hn.out, zigN, if_pos hneg]
    simp only [IntKind.wrap_u64]; omega
  · have h' : 0 ≤ n := by omega
    go_enter Tryz.func121, Tryz.ntmps121
    go_wp2
    go_ret
    exact ⟨ret_int (by rw [zigN, if_neg (by omega)]), rfl⟩

theorem zag_any (n : Int) (w : World) (h0 : 0 ≤ n) (h1 : n ≤ 18446744073709551615) :
    Calls Tryz.prog 137 #[.int .u64 n] w fun e w' => e = .returned (.int .i64 (zagN n)) ∧ w = w' := by
  by_cases h : n % 2 = 1
  · have hb : (n % 2 == 1) = true := by simpa using h
    have hn : Hid (bits .xor .i64 (-1) (n / 2) = -(n / 2) - 1) := Lib.hid (i64_not_any (n / 2) (by omega) (by omega))
    have hh := Lib.hid h
    clear h
    go_enter Tryz.func137, Tryz.ntmps137
    go_wp2
    go_ret
    exact ⟨ret_int (by show bits .xor .i64 (-1) (n / 2) = _; rw [hn.out, zagN, if_pos hh.out]), rfl⟩
  · have hb : (n % 2 == 1) = false := by simpa using h
    have hh := Lib.hid h
    clear h
    go_enter Tryz.func137, Tryz.ntmps137
    go_wp2
    go_ret
    exact ⟨ret_int (by rw [zagN, if_neg hh.out]), rfl⟩

end Go.Proofs.YtkafhlpnhgipeaaGreatDoor
/-
  The contracts of vary's functions as their callers meet them; and the fact that the laws ask first ('counted').
-/
namespace Go.Proofs.YtkafhlpnhgipeaaGreatDoor
open Go.RowKit

theorem get_ok (s : ByteArray) (w : World) (hs : s.size ≤ maxLen) (n k : Nat) (h : getL s.data.toList = (n, k, 0)) :
    Calls Tryz.prog 126 #[.string s] w fun e w' => e = .returned (.tuple #[.int .u64 n, .int .i64 k, .nilIface]) ∧ w = w' :=
  (get_any s w hs).mono fun e w' ⟨h1, h2⟩ => ⟨h1.trans (by rw [h]; rfl), h2⟩
theorem get_bad (s : ByteArray) (w : World) (hs : s.size ≤ maxLen) (e : Nat) (h : getL s.data.toList = (0, 0, e)) (he : e ≠ 0) :
    Calls Tryz.prog 126 #[.string s] w fun r w' => r = .returned (.tuple #[.int .u64 0, .int .i64 0, .iface 27 (.int .i64 e)]) ∧ w = w' :=
  (get_any s w hs).mono fun r w' ⟨h1, h2⟩ => ⟨h1.trans (by rw [h]; unfold numV errV; rw [if_neg he]; rfl), h2⟩

theorem put_nat (n : Nat) (w : World) (h : n ≤ 18446744073709551615) :
    Calls Tryz.prog 86 #[.int .u64 (n : Int)] w fun e w' => e = .returned (.string ⟨(putL n).toArray⟩) ∧ Below w.heap.size w w' :=
  put_any (n : Int) w (by omega) (by omega)
theorem putL_300 : putL 300 = [172, 2] := by
  rw [putL_big (by decide), putL_small (by decide)]; rfl

end Go.Proofs.YtkafhlpnhgipeaaGreatDoor
/-
  Strings as lists of bytes: plain lemmas.
-/
namespace Go.Proofs.YtkafhlpnhgipeaaGreatDoor

theorem bs_data (l : List UInt8) : (⟨l.toArray⟩ : ByteArray).data.toList = l := rfl
theorem bs_size (l : List UInt8) : (⟨l.toArray⟩ : ByteArray).size = l.length := by simp [ByteArray.size]
theorem size_data (s : ByteArray) : s.size = s.data.toList.length := (Array.length_toList (xs := s.data)).symm
theorem bs_ext {a b : ByteArray} (h : a.data.toList = b.data.toList) : a = b := by
  cases a; cases b; simp at h; subst h; rfl
theorem bs_of (s : ByteArray) : (⟨s.data.toList.toArray⟩ : ByteArray) = s := by cases s; simp
theorem app_data (a b : ByteArray) : (a ++ b).data.toList = a.data.toList ++ b.data.toList := by simp
theorem app_size (a b : ByteArray) : (a ++ b).size = a.size + b.size := by simp
theorem ext_data (s : ByteArray) (i j : Nat) : (s.extract i j).data.toList = (s.data.toList.take j).drop i := by
  simp [List.drop_take]
end Go.Proofs.YtkafhlpnhgipeaaGreatDoor
/-
  The contract of the document's Unvary: whatever text comes in, it answers what 'getL' gives for its bytes.
-/
namespace Go.Proofs.YtkafhlpnhgipeaaGreatDoor
open Go.RowKit

/-- A number, how many bytes it has, an Errno: as the document's functions answer. -/
def numR (r : Nat × Nat × Nat) : Value := .tuple #[.int .u64 r.1, .int .i64 r.2.1, .int .i64 r.2.2]

theorem numR_ret {l : List UInt8} {n k e : Nat} {a b c : Int} (h : getL l = (n, k, e)) (ha : a = n) (hb : b = k) (hc : c = e) :
    Ending.returned (.tuple #[.int .u64 a, .int .i64 b, .int .i64 c]) = .returned (numR (getL l)) := by
  rw [h, ha, hb, hc]; rfl

theorem valL_drop_le (l : List UInt8) : ∀ j, valL (l.drop j) ≤ valL l := by
  induction l with
  | nil => intro j; simp
  | cons c r ih =>
    intro j
    cases j with
    | zero => exact Nat.le_refl _
    | succ j => rw [List.drop_succ_cons, valL]; have := ih j; omega

theorem valL_drop_step (s : ByteArray) (i j : Nat) (hi : i < s.size) (hj : j ≤ i) :
    valL ((s.data.toList.take (i + 1)).drop j) = s[j].toNat % 128 + 128 * valL ((s.data.toList.take (i + 1)).drop (j + 1)) := by
  have hl : j < (s.data.toList.take (i + 1)).length := by rw [List.length_take, ← size_data]; omega
  rw [List.drop_eq_getElem_cons hl, valL]
  congr 2
  rw [List.getElem_take]
  rfl

set_option maxRecDepth 100000 in
set_option maxHeartbeats 1000000 in
theorem unvary_any (s : ByteArray) (w : World) (hs : s.size ≤ maxLen) :
    Calls Tryz.prog 67 #[.string s] w fun e w' => e = .returned (numR (getL s.data.toList)) ∧ w = w' := by
  unfold maxLen at hs
  go_enter Tryz.func67, Tryz.ntmps67
  go_wp2
  go_loop [5] (fun i => ∃ k : Nat, k ≤ s.size ∧ k ≤ 9 ∧ i = .int .i64 k ∧ scan 0 s.data.toList = scan k (s.data.toList.drop k)) (fun i => s.size - (intOf i).toNat)
  case atStart => exact ⟨0, Nat.zero_le _, Nat.zero_le _, rfl, rfl⟩
  case round =>
    obtain ⟨k, hk, hk9, rfl, hsc⟩ := hrel
    have HSC := Lib.hid hsc
    clear hsc
    by_cases hlt : k < s.size
    · have hne : ((k : Int) == (s.size : Int)) = false := by simp; omega
      have hd9 : (((k : Int) == 9) = true ∧ Hid (k = 9)) ∨ (((k : Int) == 9) = false ∧ Hid (k ≠ 9)) := by
        by_cases h : k = 9
        · exact .inl ⟨by rw [h]; rfl, h⟩
        · exact .inr ⟨by simp; omega, h⟩
      rcases hd9 with ⟨hb, H9⟩ | ⟨hb, H9⟩
      all_goals go_wp2
      all_goals first
        | (have h1 : 1 < (s[k].toNat : Int) := by assumption
           go_ret3
           exact ⟨numR_ret (getL_of_bad (by rw [HSC.out, scan_at s k hlt, if_pos ⟨H9.out, by omega⟩])) rfl rfl rfl, rfl⟩)
        | (have h1 : s[k].toNat = 0 := by assumption
           have h2 : 0 < k := by first | assumption | (have := H9.out; omega)
           go_ret3
           exact ⟨numR_ret (getL_of_bad (by rw [HSC.out, scan_at s k hlt, if_neg (by omega), if_pos ⟨h2, h1⟩])) rfl rfl rfl, rfl⟩)
        | (have h3 : 128 ≤ (s[k].toNat : Int) := by assumption
           have n9 : k ≠ 9 := by first | exact H9.out | omega
           go_round
           case rel => exact ⟨k + 1, by omega, by omega, by go_num, by rw [HSC.out, scan_at s k hlt, if_neg (by intro h; exact n9 h.1), if_neg (by omega), if_neg (by omega)]⟩
           case measure => simp [intOf]; omega)
        | skip
      all_goals
        have HST : Hid (scan 0 s.data.toList = .inr (k + 1)) := by
          have h9 := H9.out
          show scan 0 s.data.toList = .inr (k + 1)
          rw [HSC.out, scan_at s k hlt, if_neg (by omega), if_neg (by omega), if_pos (by omega)]
        have HV := Lib.hid (scan_lt HST.out).2.2.2
        clear HSC H9 hb hne
        go_loop [6, 7] (fun n j => ∃ m : Nat, m ≤ k + 1 ∧ j = .int .i64 ((m : Int) - 1) ∧ n = .int .u64 (valL ((s.data.toList.take (k + 1)).drop m))) (fun _ j => (intOf j + 1).toNat)
        case atStart => exact ⟨k + 1, Nat.le_refl _, by go_num, by rw [List.drop_eq_nil_of_le (by simp; omega)]; rfl⟩
        case round =>
          obtain ⟨m, hm, rfl, rfl⟩ := hrel
          rcases m with _ | m
          · go_wp2
            go_ret3
            exact ⟨numR_ret (getL_of_ok HST.out) rfl rfl rfl, rfl⟩
          · have hm2 : m < s.size := by omega
            have hst := valL_drop_step s k m hlt (by omega)
            have hle := valL_drop_le (s.data.toList.take (k + 1)) m
            have hv := HV.out
            have HST2 := Lib.hid hst
            have hbd : (valL ((s.data.toList.take (k + 1)).drop (m + 1)) : Int) * 128 + (s[m].toNat : Int) % 128 ≤ 18446744073709551615 := by omega
            clear hst hle hv
            go_wp2
            go_round
            case rel => exact ⟨m, by omega, rfl, by rw [HST2.out]; go_num⟩
            case measure => simp [intOf]
    · have hne : ((k : Int) == (s.size : Int)) = true := by simp; omega
      go_wp2
      go_ret3
      exact ⟨numR_ret (getL_of_bad (by rw [HSC.out, List.drop_eq_nil_of_le (by rw [← size_data]; omega), scan])) rfl rfl rfl, rfl⟩
end Go.Proofs.YtkafhlpnhgipeaaGreatDoor
/-
  The contracts of vary.Int and of the document's Int: both answer what 'intL' gives.
-/
namespace Go.Proofs.YtkafhlpnhgipeaaGreatDoor
open Go.RowKit

/-- A number of no more than so much. -/
def intL (l : List UInt8) (most : Int) : Nat × Nat × Nat :=
  if (getL l).2.2 ≠ 0 then (0, 0, (getL l).2.2) else if most < 0 ∨ most < (getL l).1 then (0, 0, 2) else getL l
/-- An int, how many bytes it has, an error. -/
def intV (r : Nat × Nat × Nat) : Value := .tuple #[.int .i64 r.1, .int .i64 r.2.1, errV r.2.2]
def intR (r : Nat × Nat × Nat) : Value := .tuple #[.int .i64 r.1, .int .i64 r.2.1, .int .i64 r.2.2]

theorem intL_bad {l : List UInt8} {most : Int} {e : Nat} (h : getL l = (0, 0, e)) (he : e ≠ 0) : intL l most = (0, 0, e) := by
  unfold intL; rw [h]; rw [if_pos (by exact he)]
theorem intL_range {l : List UInt8} {most : Int} {n k : Nat} (h : getL l = (n, k, 0)) (hm : most < 0 ∨ most < n) : intL l most = (0, 0, 2) := by
  unfold intL; rw [h]; rw [if_neg (by simp), if_pos hm]
theorem intL_ok {l : List UInt8} {most : Int} {n k : Nat} (h : getL l = (n, k, 0)) (hm : ¬ (most < 0 ∨ most < n)) : intL l most = (n, k, 0) := by
  unfold intL; rw [h]; rw [if_neg (by simp), if_neg hm]
theorem getL_cases (l : List UInt8) : (∃ e, getL l = (0, 0, e) ∧ e ≠ 0) ∨ ∃ n k, getL l = (n, k, 0) ∧ n ≤ 18446744073709551615 ∧ 1 ≤ k ∧ k ≤ 10 ∧ k ≤ l.length := by
  unfold getL
  split
  · rename_i e he
    refine .inl ⟨e, rfl, ?_⟩
    have := scan_err _ _ _ he
    omega
  · rename_i k hk
    obtain ⟨a, b, c, d⟩ := scan_lt hk
    exact .inr ⟨_, _, rfl, by omega, a, b, c⟩

set_option maxRecDepth 100000 in
set_option maxHeartbeats 1000000 in
theorem int_any (s : ByteArray) (most : Int) (w : World) (hs : s.size ≤ maxLen) (h0 : -9223372036854775808 ≤ most) (h1 : most ≤ 9223372036854775807) :
    Calls Tryz.prog 97 #[.string s, .int .i64 most] w fun r w' => r = .returned (intV (intL s.data.toList most)) ∧ w = w' := by
  rcases getL_cases s.data.toList with ⟨e, hg, he⟩ | ⟨n, k, hg, hn, hk1, hk2, hk3⟩
  · have HP : Hid (intV (intL s.data.toList most) = .tuple #[.int .i64 0, .int .i64 0, .iface 27 (.int .i64 e)]) := by
      show intV _ = _
      rw [intL_bad hg he]; unfold intV errV; rw [if_neg he]; rfl
    have HG := Lib.hid hg
    clear hg
    rw [HP.out]
    go_enter Tryz.func97, Tryz.ntmps97
    go_wp2_with (go_at_call 126; refine (get_bad _ _ hs e HG.out he).mono ?_; rintro r w' ⟨rfl, rfl⟩)
    go_ret3
    exact ⟨rfl, rfl⟩
  · by_cases hm : most < 0
    · have HP : Hid (intV (intL s.data.toList most) = .tuple #[.int .i64 0, .int .i64 0, .iface 27 (.int .i64 2)]) := by
        show intV _ = _
        rw [intL_range hg (.inl hm)]; rfl
      have HG := Lib.hid hg
      clear hg
      rw [HP.out]
      go_enter Tryz.func97, Tryz.ntmps97
      go_wp2_with (go_at_call 126; refine (get_ok _ _ hs n k HG.out).mono ?_; rintro r w' ⟨rfl, rfl⟩)
      go_ret3
      exact ⟨rfl, rfl⟩
    · have hm' : 0 ≤ most := by omega
      by_cases hr : most < (n : Int)
      · have HP : Hid (intV (intL s.data.toList most) = .tuple #[.int .i64 0, .int .i64 0, .iface 27 (.int .i64 2)]) := by
          show intV _ = _
          rw [intL_range hg (.inr hr)]; rfl
        have HG := Lib.hid hg
        clear hg hm
        rw [HP.out]
        go_enter Tryz.func97, Tryz.ntmps97
        go_wp2_with (go_at_call 126; refine (get_ok _ _ hs n k HG.out).mono ?_; rintro r w' ⟨rfl, rfl⟩)
        go_ret3
        exact ⟨rfl, rfl⟩
      · have HP : Hid (intV (intL s.data.toList most) = .tuple #[.int .i64 n, .int .i64 k, .nilIface]) := by
          show intV _ = _
          rw [intL_ok hg (by omega)]; rfl
        have HG := Lib.hid hg
        have hr' : (n : Int) ≤ most := by omega
        clear hg hm hr
        rw [HP.out]
        go_enter Tryz.func97, Tryz.ntmps97
        go_wp2_with (go_at_call 126; refine (get_ok _ _ hs n k HG.out).mono ?_; rintro r w' ⟨rfl, rfl⟩)
        go_ret3
        exact ⟨rfl, rfl⟩
end Go.Proofs.YtkafhlpnhgipeaaGreatDoor
/-
  Chapter 6, plain: a vector's runs, as bytes, and back.
-/
namespace Go.Proofs.YtkafhlpnhgipeaaGreatDoor

/-- Replicas beside each other, from so much on. -/
def consec : Int → List Ent → Prop
  | _, [] => True
  | r, e :: t => e.rep = r ∧ consec (r + 1) t
theorem consec_snoc {l : List Ent} {e : Ent} : ∀ {r : Int}, consec r l → e.rep = r + l.length → consec r (l ++ [e]) := by
  induction l with
  | nil => intro r _ h; exact ⟨by simpa using h, trivial⟩
  | cons d t ih => intro r h he; exact ⟨h.1, ih h.2 (by rw [he, List.length_cons]; omega)⟩
theorem consec_head {l : List Ent} {r : Int} (h : consec r l) (h0 : l ≠ []) : (l.headD ⟨0, 0⟩).rep = r := by
  cases l with
  | nil => exact absurd rfl h0
  | cons e t => exact h.1
theorem consec_last {l : List Ent} : ∀ {r : Int}, consec r l → l ≠ [] → (l.getLastD ⟨0, 0⟩).rep = r + l.length - 1 := by
  induction l with
  | nil => intro r _ h0; exact absurd rfl h0
  | cons e t ih =>
    intro r h _
    cases t with
    | nil => have := h.1; simp; omega
    | cons d u =>
      have h3 := ih h.2 (by simp)
      rw [List.getLastD_cons] at h3 ⊢
      rw [List.getLastD_cons]
      simp only [List.length_cons] at h3 ⊢
      omega
theorem consec_one {l m : List Ent} : ∀ {r : Int}, consec r l → consec r m → l.map Ent.time = m.map Ent.time → l = m := by
  induction l generalizing m with
  | nil => intro r _ _ h; cases m with
    | nil => rfl
    | cons e t => cases h
  | cons e t ih =>
    intro r h1 h2 h
    cases m with
    | nil => cases h
    | cons d u =>
      simp only [List.map_cons, List.cons.injEq] at h
      have e1 := h1.1
      have e2 := h2.1
      have := ih h1.2 h2.2 h.2
      subst this
      congr 1
      cases e; cases d; simp_all

/-- So many runs, the first one's first replica being so much at least. -/
def isRuns : Int → List (List Ent) → Prop
  | _, [] => True
  | least, run :: rs => run ≠ [] ∧ least ≤ (run.headD ⟨0, 0⟩).rep ∧ consec (run.headD ⟨0, 0⟩).rep run ∧ isRuns ((run.getLastD ⟨0, 0⟩).rep + 2) rs

/-- The runs of a vector, those of the one at hand ahead. -/
def cutA : List Ent → List Ent → List (List Ent)
  | _, [] => []
  | cur, [e] => [cur ++ [e]]
  | cur, e :: d :: r => if e.rep + 1 < d.rep then (cur ++ [e]) :: cutA [] (d :: r) else cutA (cur ++ [e]) (d :: r)
def runsL (l : List Ent) : List (List Ent) := cutA [] l
theorem cutA_one (cur : List Ent) (e : Ent) : cutA cur [e] = [cur ++ [e]] := rfl
theorem cutA_cut {cur r : List Ent} {e d : Ent} (h : e.rep + 1 < d.rep) : cutA cur (e :: d :: r) = (cur ++ [e]) :: cutA [] (d :: r) := by rw [cutA, if_pos h]
theorem cutA_on {cur r : List Ent} {e d : Ent} (h : ¬ e.rep + 1 < d.rep) : cutA cur (e :: d :: r) = cutA (cur ++ [e]) (d :: r) := by rw [cutA, if_neg h]

theorem headD_app {l : List Ent} (m : List Ent) (h : l ≠ []) (d : Ent) : (l ++ m).headD d = l.headD d := by
  cases l with
  | nil => exact absurd rfl h
  | cons e t => rfl
theorem getLastD_snoc (l : List Ent) (e d : Ent) : (l ++ [e]).getLastD d = e := by
  simp
/-- What is cut is runs, and all. -/
theorem cutA_is (r : List Ent) : ∀ (cur : List Ent) (e : Ent) (least last : Int), okV last (e :: r) → (cur = [] → least ≤ e.rep) → (cur ≠ [] → least ≤ (cur.headD ⟨0, 0⟩).rep ∧ consec (cur.headD ⟨0, 0⟩).rep cur ∧ e.rep = (cur.headD ⟨0, 0⟩).rep + cur.length) →
    isRuns least (cutA cur (e :: r)) ∧ (cutA cur (e :: r)).flatten = cur ++ e :: r := by
  induction r with
  | nil =>
    intro cur e least last h h0 h1
    rw [cutA_one]
    refine ⟨⟨by simp, ?_, ?_, trivial⟩, by simp⟩
    · by_cases hc : cur = []
      · subst hc; exact h0 rfl
      · rw [headD_app _ hc]; exact (h1 hc).1
    · by_cases hc : cur = []
      · subst hc; exact ⟨rfl, trivial⟩
      · rw [headD_app _ hc]; exact consec_snoc (h1 hc).2.1 (h1 hc).2.2
  | cons d r ih =>
    intro cur e least last h h0 h1
    have hd := h.2.1
    rw [wrE_ok] at hd
    have hcons : consec ((cur ++ [e]).headD ⟨0, 0⟩).rep (cur ++ [e]) := by
      by_cases hc : cur = []
      · subst hc; exact ⟨rfl, trivial⟩
      · rw [headD_app _ hc]; exact consec_snoc (h1 hc).2.1 (h1 hc).2.2
    have hlow : least ≤ ((cur ++ [e]).headD ⟨0, 0⟩).rep := by
      by_cases hc : cur = []
      · subst hc; exact h0 rfl
      · rw [headD_app _ hc]; exact (h1 hc).1
    by_cases hg : e.rep + 1 < d.rep
    · rw [cutA_cut hg]
      obtain ⟨i1, i2⟩ := ih [] d (e.rep + 2) e.rep h.2 (fun _ => by omega) (fun hn => absurd rfl hn)
      refine ⟨⟨by simp, hlow, hcons, ?_⟩, ?_⟩
      · rw [getLastD_snoc]; exact i1
      · rw [List.flatten_cons, i2]; simp
    · rw [cutA_on hg]
      obtain ⟨i1, i2⟩ := ih (cur ++ [e]) d least e.rep h.2 (fun hn => absurd hn (by simp)) (fun _ => ⟨hlow, hcons, by
        have := consec_last hcons (by simp)
        rw [getLastD_snoc] at this
        omega⟩)
      exact ⟨i1, by rw [i2]; simp⟩
theorem runs_is {l : List Ent} (h : okV (-1) l) : isRuns 0 (runsL l) ∧ (runsL l).flatten = l := by
  cases l with
  | nil => exact ⟨trivial, rfl⟩
  | cons e r =>
    have := h.1
    rw [wrE_ok] at this
    have h2 := cutA_is r [] e 0 (-1) h (fun _ => by omega) (fun hn => absurd rfl hn)
    exact h2
/-- Runs are cut as they are. -/
theorem cutA_run (run : List Ent) : ∀ (cur : List Ent) (r : Int) (rest : List Ent), consec r run → run ≠ [] → (∀ e t, rest = e :: t → (run.getLastD ⟨0, 0⟩).rep + 1 < e.rep) →
    cutA cur (run ++ rest) = (cur ++ run) :: cutA [] rest := by
  induction run with
  | nil => intro _ _ _ _ h; exact absurd rfl h
  | cons e t ih =>
    intro cur r rest h _ hr
    cases t with
    | nil =>
      cases rest with
      | nil => rfl
      | cons d u =>
        have := hr d u rfl
        exact cutA_cut (by simpa using this)
    | cons d u =>
      have e1 := h.1
      have e2 := h.2.1
      show cutA cur (e :: d :: (u ++ rest)) = _
      rw [cutA_on (by omega)]
      have := ih (cur ++ [e]) (r + 1) rest h.2 (by simp) (fun x y hx => by
        have := hr x y hx
        rw [List.getLastD_cons, List.getLastD_cons] at this
        rw [List.getLastD_cons]
        exact this)
      rw [show d :: (u ++ rest) = (d :: u) ++ rest from rfl, this]
      simp
theorem runs_of {R : List (List Ent)} : ∀ {least : Int}, isRuns least R → runsL R.flatten = R := by
  induction R with
  | nil => intro _ _; rfl
  | cons run rs ih =>
    intro least h
    obtain ⟨h1, h2, h3, h4⟩ := h
    unfold runsL
    rw [List.flatten_cons, cutA_run run [] _ _ h3 h1]
    · have := ih h4
      unfold runsL at this
      rw [this]; rfl
    · intro e t he
      cases rs with
      | nil => cases he
      | cons run2 rs2 =>
        obtain ⟨g1, g2, g3, _⟩ := h4
        rw [List.flatten_cons] at he
        cases run2 with
        | nil => exact absurd rfl g1
        | cons d u =>
          simp only [List.cons_append, List.cons.injEq] at he
          obtain ⟨rfl, _⟩ := he
          simp only [List.headD_cons] at g2
          omega

/-- As bytes. -/
def timesB (l : List Ent) : List UInt8 := l.flatMap fun e => putL e.time.toNat
def runB (least : Int) (run : List Ent) : List UInt8 := putL ((run.headD ⟨0, 0⟩).rep - least).toNat ++ putL (run.length - 1) ++ timesB run
def runsB : Int → List (List Ent) → List UInt8
  | _, [] => []
  | least, run :: rs => runB least run ++ runsB ((run.getLastD ⟨0, 0⟩).rep + 2) rs
def vwriteL (l : List Ent) : List UInt8 := putL (runsL l).length ++ runsB 0 (runsL l)
def vwriteF (l : List Ent) : List UInt8 := if (vrightF l).1 = 0 then vwriteL l else []
theorem timesB_cons (e : Ent) (l : List Ent) : timesB (e :: l) = putL e.time.toNat ++ timesB l := by simp [timesB]
theorem timesB_app (a b : List Ent) : timesB (a ++ b) = timesB a ++ timesB b := by simp [timesB]

/-- So many times that a text begins with; those ahead, and how many bytes they had. -/
def tmA : Nat → List UInt8 → Nat → Int → List Ent → Nat ⊕ (List Ent × Nat)
  | 0, _, used, _, acc => .inr (acc, used)
  | k + 1, s, used, r, acc =>
    if (intL s 1099511627776).2.2 ≠ 0 then .inl (intL s 1099511627776).2.2
    else tmA k (s.drop (intL s 1099511627776).2.1) (used + (intL s 1099511627776).2.1) (r + 1) (acc ++ [⟨r, (intL s 1099511627776).1⟩])
theorem tmA_bad {k : Nat} {s : List UInt8} {used e : Nat} {r : Int} {acc : List Ent} (h : intL s 1099511627776 = (0, 0, e)) (he : e ≠ 0) : tmA (k + 1) s used r acc = .inl e := by
  rw [tmA, h, if_pos he]
theorem tmA_ok {k : Nat} {s : List UInt8} {used n j : Nat} {r : Int} {acc : List Ent} (h : intL s 1099511627776 = (n, j, 0)) : tmA (k + 1) s used r acc = tmA k (s.drop j) (used + j) (r + 1) (acc ++ [⟨r, n⟩]) := by
  rw [tmA, h, if_neg (by simp)]
/-- One run. -/
def getR (s : List UInt8) (used : Nat) (least : Int) (acc : List Ent) : Nat ⊕ (List Ent × Nat) :=
  if (intL s 200).2.2 ≠ 0 then .inl (intL s 200).2.2
  else if (intL (s.drop (intL s 200).2.1) 16).2.2 ≠ 0 then .inl (intL (s.drop (intL s 200).2.1) 16).2.2
  else tmA ((intL (s.drop (intL s 200).2.1) 16).1 + 1) ((s.drop (intL s 200).2.1).drop (intL (s.drop (intL s 200).2.1) 16).2.1) (used + (intL s 200).2.1 + (intL (s.drop (intL s 200).2.1) 16).2.1) (least + (intL s 200).1) acc
theorem getR_gap {s : List UInt8} {used e : Nat} {least : Int} {acc : List Ent} (h : intL s 200 = (0, 0, e)) (he : e ≠ 0) : getR s used least acc = .inl e := by
  unfold getR; rw [h, if_pos he]
theorem getR_many {s : List UInt8} {used e g j : Nat} {least : Int} {acc : List Ent} (h : intL s 200 = (g, j, 0)) (h2 : intL (s.drop j) 16 = (0, 0, e)) (he : e ≠ 0) : getR s used least acc = .inl e := by
  unfold getR; rw [h]; simp only; rw [h2, if_neg (by simp), if_pos he]
theorem getR_ok {s : List UInt8} {used g j c i : Nat} {least : Int} {acc : List Ent} (h : intL s 200 = (g, j, 0)) (h2 : intL (s.drop j) 16 = (c, i, 0)) : getR s used least acc = tmA (c + 1) ((s.drop j).drop i) (used + j + i) (least + g) acc := by
  unfold getR; rw [h]; simp only; rw [h2, if_neg (by simp), if_neg (by simp)]
/-- So many runs. -/
def rdA : Nat → List UInt8 → Nat → Int → List Ent → Nat ⊕ (List Ent × Nat)
  | 0, _, used, _, acc => .inr (acc, used)
  | k + 1, s, used, least, acc => match getR s 0 least [] with
    | .inl e => .inl e
    | .inr (run, j) => rdA k (s.drop j) (used + j) ((run.getLastD ⟨0, 0⟩).rep + 2) (acc ++ run)
theorem rdA_bad {k : Nat} {s : List UInt8} {used e : Nat} {least : Int} {acc : List Ent} (h : getR s 0 least [] = .inl e) : rdA (k + 1) s used least acc = .inl e := by rw [rdA, h]
theorem rdA_ok {k : Nat} {s : List UInt8} {used j : Nat} {least : Int} {acc run : List Ent} (h : getR s 0 least [] = .inr (run, j)) : rdA (k + 1) s used least acc = rdA k (s.drop j) (used + j) ((run.getLastD ⟨0, 0⟩).rep + 2) (acc ++ run) := by rw [rdA, h]
/-- What bytes begin with: an error's number, how many bytes, the vector. -/
def vreadF (s : List UInt8) : Nat × Nat × List Ent :=
  if (intL s 16).2.2 ≠ 0 then ((intL s 16).2.2, 0, []) else match rdA (intL s 16).1 (s.drop (intL s 16).2.1) (intL s 16).2.1 0 [] with
    | .inl e => (e, 0, [])
    | .inr (l, n) => if (vrightF l).1 ≠ 0 then ((vrightF l).1, 0, []) else (0, n, l)
theorem vread_few {s : List UInt8} {e : Nat} (h : intL s 16 = (0, 0, e)) (he : e ≠ 0) : vreadF s = (e, 0, []) := by unfold vreadF; rw [h, if_pos he]
theorem vread_bad {s : List UInt8} {k j e : Nat} (h : intL s 16 = (k, j, 0)) (h2 : rdA k (s.drop j) j 0 [] = .inl e) : vreadF s = (e, 0, []) := by unfold vreadF; rw [h, if_neg (by simp)]; simp only; rw [h2]
theorem vread_wrong {s : List UInt8} {k j n : Nat} {l : List Ent} (h : intL s 16 = (k, j, 0)) (h2 : rdA k (s.drop j) j 0 [] = .inr (l, n)) (h3 : (vrightF l).1 ≠ 0) : vreadF s = ((vrightF l).1, 0, []) := by
  unfold vreadF; rw [h, if_neg (by simp)]; simp only; rw [h2]; simp only; rw [if_pos h3]
theorem vread_ok {s : List UInt8} {k j n : Nat} {l : List Ent} (h : intL s 16 = (k, j, 0)) (h2 : rdA k (s.drop j) j 0 [] = .inr (l, n)) (h3 : (vrightF l).1 = 0) : vreadF s = (0, n, l) := by
  unfold vreadF; rw [h, if_neg (by simp)]; simp only; rw [h2]; simp only; rw [if_neg (by simpa using h3)]

theorem intL_cases (l : List UInt8) (most : Int) : (∃ e, intL l most = (0, 0, e) ∧ e ≠ 0 ∧ (e = 7 ∨ e = 4 ∨ e = 3 ∨ e = 2)) ∨ ∃ n k, intL l most = (n, k, 0) ∧ (n : Int) ≤ most ∧ 1 ≤ k ∧ k ≤ 10 ∧ k ≤ l.length ∧ putL n = l.take k := by
  rcases getL_cases l with ⟨e, hg, he⟩ | ⟨n, k, hg, hn, hk1, hk2, hk3⟩
  · have h3 := getL_err l
    rw [hg] at h3
    simp only at h3
    exact .inl ⟨e, intL_bad hg he, he, by omega⟩
  · by_cases hm : most < 0 ∨ most < n
    · exact .inl ⟨2, intL_range hg hm, by decide, by omega⟩
    · exact .inr ⟨n, k, intL_ok hg hm, by omega, hk1, hk2, hk3, (getL_only hg).2.2⟩
theorem intL_put (n : Nat) (more : List UInt8) (most : Int) (h : (n : Int) ≤ most) (hn : n ≤ 1099511627776) : intL (putL n ++ more) most = (n, (putL n).length, 0) :=
  intL_ok (getL_put n more (by omega)) (by omega)

/-- Those ahead, and how many bytes they had, stay. -/
theorem tmA_shift (k : Nat) : ∀ (s : List UInt8) (used : Nat) (r : Int) (pre acc : List Ent) (d : Nat), tmA k s (used + d) r (pre ++ acc) = match tmA k s used r acc with
    | .inl e => .inl e
    | .inr (l, n) => .inr (pre ++ l, n + d) := by
  induction k with
  | zero => intro s used r pre acc d; rfl
  | succ k ih =>
    intro s used r pre acc d
    rcases intL_cases s 1099511627776 with ⟨e, h, he, _⟩ | ⟨n, j, h, _⟩
    · rw [tmA_bad h he, tmA_bad h he]
    · rw [tmA_ok h, tmA_ok h, List.append_assoc, Nat.add_right_comm]
      exact ih _ _ _ _ _ _
theorem getR_shift (s : List UInt8) (used : Nat) (least : Int) (pre : List Ent) : getR s used least pre = match getR s 0 least [] with
    | .inl e => .inl e
    | .inr (l, n) => .inr (pre ++ l, n + used) := by
  rcases intL_cases s 200 with ⟨e, h, he, _⟩ | ⟨g, j, h, _⟩
  · rw [getR_gap h he, getR_gap h he]
  · rcases intL_cases (s.drop j) 16 with ⟨e, h2, he, _⟩ | ⟨c, i, h2, _⟩
    · rw [getR_many h h2 he, getR_many h h2 he]
    · rw [getR_ok h h2, getR_ok h h2]
      have := tmA_shift (c + 1) ((s.drop j).drop i) (0 + j + i) (least + g) pre [] used
      rw [List.append_nil] at this
      rw [← this]; congr 1; omega

/-- Times that are written are read. -/
theorem tmA_put (run : List Ent) : ∀ (r : Int) (more : List UInt8) (used : Nat) (acc : List Ent), consec r run → (∀ e ∈ run, 0 ≤ e.time ∧ e.time ≤ 1099511627776) →
    tmA run.length (timesB run ++ more) used r acc = .inr (acc ++ run, used + (timesB run).length) := by
  induction run with
  | nil => intro r more used acc _ _; simp [tmA, timesB]
  | cons e t ih =>
    intro r more used acc h hb
    have hb1 := hb e List.mem_cons_self
    rw [timesB_cons, List.length_cons, List.append_assoc, tmA_ok (intL_put e.time.toNat _ _ (by omega) (by omega)), List.drop_left, ih _ _ _ _ h.2 (fun x hx => hb x (List.mem_cons_of_mem _ hx))]
    have e1 : (⟨r, (e.time.toNat : Nat)⟩ : Ent) = e := by
      have := h.1
      cases e; simp only at this hb1 ⊢; congr 1 <;> omega
    rw [e1, List.length_append]
    simp; omega
theorem getR_put {run : List Ent} {least : Int} (more : List UInt8) (used : Nat) (acc : List Ent) (h0 : run ≠ []) (h1 : least ≤ (run.headD ⟨0, 0⟩).rep) (h2 : consec (run.headD ⟨0, 0⟩).rep run) (hg : (run.headD ⟨0, 0⟩).rep - least ≤ 200) (hl : run.length ≤ 17)
    (hb : ∀ e ∈ run, 0 ≤ e.time ∧ e.time ≤ 1099511627776) : getR (runB least run ++ more) used least acc = .inr (acc ++ run, used + (runB least run).length) := by
  have hlen : 0 < run.length := List.length_pos_iff.2 h0
  unfold runB
  rw [List.append_assoc, List.append_assoc]
  have e1 := intL_put ((run.headD ⟨0, 0⟩).rep - least).toNat (putL (run.length - 1) ++ (timesB run ++ more)) 200 (by omega) (by omega)
  rw [getR_ok e1 (c := run.length - 1) (i := (putL (run.length - 1)).length) (by rw [List.drop_left]; exact intL_put _ _ _ (by omega) (by omega)), List.drop_left, List.drop_left]
  rw [show run.length - 1 + 1 = run.length by omega, show least + ((((run.headD ⟨0, 0⟩).rep - least).toNat : Nat) : Int) = (run.headD ⟨0, 0⟩).rep by omega, tmA_put run _ _ _ _ h2 hb]
  simp only [List.length_append]
  congr 2; omega
theorem rdA_put (R : List (List Ent)) : ∀ (least : Int) (more : List UInt8) (used : Nat) (acc : List Ent), isRuns least R → 0 ≤ least → (∀ run ∈ R, run.length ≤ 17 ∧ ∀ e ∈ run, 0 ≤ e.rep ∧ e.rep ≤ 200 ∧ 0 ≤ e.time ∧ e.time ≤ 1099511627776) →
    rdA R.length (runsB least R ++ more) used least acc = .inr (acc ++ R.flatten, used + (runsB least R).length) := by
  induction R with
  | nil => intro least more used acc _ _ _; simp [rdA, runsB]
  | cons run rs ih =>
    intro least more used acc h hl0 hb
    obtain ⟨h1, h2, h3, h4⟩ := h
    obtain ⟨hl, he⟩ := hb run List.mem_cons_self
    have hlast := consec_last h3 h1
    have hlen : 0 < run.length := List.length_pos_iff.2 h1
    have hhead : (run.headD ⟨0, 0⟩).rep ≤ 200 := by
      cases run with
      | nil => exact absurd rfl h1
      | cons e t => exact (he e List.mem_cons_self).2.1
    rw [runsB, List.append_assoc, List.length_cons, rdA_ok (getR_put _ 0 [] h1 h2 h3 (by omega) hl (fun e hm => (he e hm).2.2)), List.nil_append, Nat.zero_add, List.drop_left,
      ih _ _ _ _ h4 (by omega) (fun r hr => hb r (List.mem_cons_of_mem _ hr))]
    rw [List.flatten_cons, List.length_append, List.append_assoc]
    congr 2; omega
/-- WHAT IS WRITTEN IS READ. -/
theorem vread_write {l : List Ent} (h : rightV l) (more : List UInt8) : vreadF (vwriteL l ++ more) = (0, (vwriteL l).length, l) := by
  obtain ⟨h1, h2⟩ := runs_is h.2
  have hall : ∀ run ∈ runsL l, run.length ≤ 17 ∧ ∀ e ∈ run, 0 ≤ e.rep ∧ e.rep ≤ 200 ∧ 0 ≤ e.time ∧ e.time ≤ 1099511627776 := by
    intro run hr
    have hsub : ∀ e ∈ run, e ∈ l := fun e he => by rw [← h2]; exact List.mem_flatten.2 ⟨run, hr, he⟩
    have hle : run.length ≤ l.length := by rw [← h2]; exact (List.sublist_flatten_of_mem hr).length_le
    refine ⟨by have := h.1; omega, fun e he => ?_⟩
    have := okV_mem h.2 e (hsub e he); omega
  have hnum : (runsL l).length ≤ l.length := by
    have : ∀ (R : List (List Ent)) (least : Int), isRuns least R → R.length ≤ R.flatten.length := by
      intro R
      induction R with
      | nil => intro _ _; exact Nat.le_refl _
      | cons run rs ih =>
        intro least hR
        have := ih _ hR.2.2.2
        have h3 : 0 < run.length := List.length_pos_iff.2 hR.1
        rw [List.flatten_cons, List.length_append, List.length_cons]; omega
    have h4 := this _ _ h1
    rw [h2] at h4; exact h4
  have hl := h.1
  unfold vwriteL
  rw [List.append_assoc]
  have e1 := intL_put (runsL l).length (runsB 0 (runsL l) ++ more) 16 (by omega) (by omega)
  have e2 := rdA_put (runsL l) 0 more (putL (runsL l).length).length [] h1 (Int.le_refl _) hall
  rw [List.nil_append, h2] at e2
  rw [vread_ok e1 (by rw [List.drop_left]; exact e2) ((vright_ok l).2 h), List.length_append]

/-- Times that are read are written so. -/
theorem tmA_only (k : Nat) : ∀ (s : List UInt8) (used : Nat) (r : Int) (acc l : List Ent) (n : Nat), tmA k s used r acc = .inr (l, n) →
    ∃ run, l = acc ++ run ∧ run.length = k ∧ consec r run ∧ used ≤ n ∧ n ≤ used + s.length ∧ timesB run = s.take (n - used) ∧ ∀ e ∈ run, 0 ≤ e.time ∧ e.time ≤ 1099511627776 := by
  induction k with
  | zero =>
    intro s used r acc l n h
    rw [tmA] at h
    injection h with h
    injection h with h1 h2
    subst h1; subst h2
    exact ⟨[], by simp, rfl, trivial, Nat.le_refl _, by omega, by simp [timesB], fun e h => by cases h⟩
  | succ k ih =>
    intro s used r acc l n h
    rcases intL_cases s 1099511627776 with ⟨e, hi, he, _⟩ | ⟨t, j, hi, ht, hj1, hj2, hj3, hp⟩
    · rw [tmA_bad hi he] at h; cases h
    · rw [tmA_ok hi] at h
      obtain ⟨run, rfl, h2, h3, h4, h5, h6, h7⟩ := ih _ _ _ _ _ _ h
      rw [List.length_drop] at h5
      refine ⟨⟨r, t⟩ :: run, by simp, by simp [h2], ⟨rfl, h3⟩, by omega, by omega, ?_, ?_⟩
      · rw [timesB_cons, h6]
        simp only [Int.toNat_natCast]
        rw [hp, ← List.take_add, show j + (n - (used + j)) = n - used by omega]
      · intro e he
        rcases List.mem_cons.1 he with rfl | he
        · simp only; omega
        · exact h7 e he
theorem getR_only {s : List UInt8} {used n : Nat} {least : Int} {acc l : List Ent} (h : getR s used least acc = .inr (l, n)) :
    ∃ run, l = acc ++ run ∧ run ≠ [] ∧ run.length ≤ 17 ∧ least ≤ (run.headD ⟨0, 0⟩).rep ∧ (run.headD ⟨0, 0⟩).rep ≤ least + 200 ∧ consec (run.headD ⟨0, 0⟩).rep run ∧ used ≤ n ∧ n ≤ used + s.length ∧ runB least run = s.take (n - used) ∧ ∀ e ∈ run, 0 ≤ e.time ∧ e.time ≤ 1099511627776 := by
  rcases intL_cases s 200 with ⟨e, hi, he, _⟩ | ⟨g, j, hi, hg, hj1, hj2, hj3, hp⟩
  · rw [getR_gap hi he] at h; cases h
  · rcases intL_cases (s.drop j) 16 with ⟨e, hi2, he, _⟩ | ⟨c, i, hi2, hc, hi1, hi3, hi4, hp2⟩
    · rw [getR_many hi hi2 he] at h; cases h
    · rw [getR_ok hi hi2] at h
      obtain ⟨run, rfl, h2, h3, h4, h5, h6, h7⟩ := tmA_only _ _ _ _ _ _ _ h
      have hne : run ≠ [] := by intro e; rw [e] at h2; simp at h2
      have hh := consec_head h3 hne
      rw [List.length_drop] at hi4
      rw [List.length_drop, List.length_drop] at h5
      refine ⟨run, rfl, hne, by omega, by omega, by omega, by rw [hh]; exact h3, by omega, by omega, ?_, h7⟩
      unfold runB
      rw [hh, h6, show (least + (g : Int) - least).toNat = g by omega, show run.length - 1 = c by omega, hp, hp2, ← List.take_add, List.drop_drop, ← List.take_add]
      congr 1; omega
theorem rdA_only (k : Nat) : ∀ (s : List UInt8) (used : Nat) (least : Int) (acc l : List Ent) (n : Nat), rdA k s used least acc = .inr (l, n) →
    ∃ R, l = acc ++ R.flatten ∧ R.length = k ∧ isRuns least R ∧ used ≤ n ∧ n ≤ used + s.length ∧ runsB least R = s.take (n - used) := by
  induction k with
  | zero =>
    intro s used least acc l n h
    rw [rdA] at h
    injection h with h
    injection h with h1 h2
    subst h1; subst h2
    exact ⟨[], by simp, rfl, trivial, Nat.le_refl _, by omega, by simp [runsB]⟩
  | succ k ih =>
    intro s used least acc l n h
    match hg : getR s 0 least [] with
    | .inl e => rw [rdA_bad hg] at h; cases h
    | .inr (run, j) =>
      rw [rdA_ok hg] at h
      obtain ⟨run', hr, g1, _, g3, _, g4, g5, g6, g7, g8⟩ := getR_only hg
      rw [List.nil_append] at hr
      subst hr
      obtain ⟨R, rfl, h2, h3, h4, h5, h6⟩ := ih _ _ _ _ _ _ h
      rw [List.length_drop] at h5
      refine ⟨run :: R, by simp, by simp [h2], ⟨g1, g3, g4, h3⟩, by omega, by omega, ?_⟩
      rw [runsB, g7, h6, Nat.sub_zero, ← List.take_add]
      congr 1; omega
/-- JUST ONE WAY. -/
theorem vread_only {s : List UInt8} {n : Nat} {l : List Ent} (h : vreadF s = (0, n, l)) : rightV l ∧ 1 ≤ n ∧ n ≤ s.length ∧ vwriteL l = s.take n := by
  rcases intL_cases s 16 with ⟨e, hi, he, _⟩ | ⟨k, j, hi, hk, hj1, hj2, hj3, hp⟩
  · rw [vread_few hi he] at h
    simp only [Prod.mk.injEq] at h
    exact absurd h.1 he
  · match hr : rdA k (s.drop j) j 0 [] with
    | .inl e =>
      rw [vread_bad hi hr] at h
      simp only [Prod.mk.injEq] at h
      obtain ⟨rfl, _⟩ := h
      exact absurd hr (by
        have hgr : ∀ (s : List UInt8) (least : Int), getR s 0 least [] ≠ .inl 0 := by
          have htm : ∀ (k : Nat) (s : List UInt8) (used : Nat) (r : Int) (acc : List Ent), tmA k s used r acc ≠ .inl 0 := by
            intro k
            induction k with
            | zero => intro s used r acc h; cases h
            | succ k ih =>
              intro s used r acc h
              rcases intL_cases s 1099511627776 with ⟨e, hi, he, _⟩ | ⟨t, j, hi, _⟩
              · rw [tmA_bad hi he] at h; injection h with h; exact he h
              · rw [tmA_ok hi] at h; exact ih _ _ _ _ h
          intro s least h
          rcases intL_cases s 200 with ⟨e, hi, he, _⟩ | ⟨g, j, hi, _⟩
          · rw [getR_gap hi he] at h; injection h with h; exact he h
          · rcases intL_cases (s.drop j) 16 with ⟨e, hi2, he, _⟩ | ⟨c, i, hi2, _⟩
            · rw [getR_many hi hi2 he] at h; injection h with h; exact he h
            · rw [getR_ok hi hi2] at h; exact htm _ _ _ _ _ h
        have : ∀ (k : Nat) (s : List UInt8) (used : Nat) (least : Int) (acc : List Ent), rdA k s used least acc ≠ .inl 0 := by
          intro k
          induction k with
          | zero => intro s used least acc h; cases h
          | succ k ih =>
            intro s used least acc h
            match hg : getR s 0 least [] with
            | .inl e => rw [rdA_bad hg] at h; injection h with h; subst h; exact hgr _ _ hg
            | .inr (run, j) => rw [rdA_ok hg] at h; exact ih _ _ _ _ h
        exact this _ _ _ _ _)
    | .inr (m, i) =>
      by_cases hw : (vrightF m).1 = 0
      · rw [vread_ok hi hr hw] at h
        simp only [Prod.mk.injEq, true_and] at h
        obtain ⟨rfl, rfl⟩ := h
        obtain ⟨R, hl, h2, h3, h4, h5, h6⟩ := rdA_only _ _ _ _ _ _ _ hr
        rw [List.nil_append] at hl
        rw [List.length_drop] at h5
        refine ⟨(vright_ok m).1 hw, by omega, by omega, ?_⟩
        have e1 := runs_of h3
        rw [← hl] at e1
        unfold vwriteL
        rw [e1, h2, h6, hp, ← List.take_add]
        congr 1; omega
      · rw [vread_wrong hi hr hw] at h
        simp only [Prod.mk.injEq] at h
        exact absurd h.1 hw
end Go.Proofs.YtkafhlpnhgipeaaGreatDoor
/-
  Keys, each once: the plain mathematics of tables and numbers in them.
-/
namespace Go.Proofs.YtkafhlpnhgipeaaGreatDoor

theorem beq_same (a : ByteArray) : (a.toList == a.toList) = true := by simp
theorem beq_diff {a b : ByteArray} (h : a ≠ b) : (a.toList == b.toList) = false := by
  refine beq_eq_false_iff_ne.2 fun e => h ?_
  rw [ByteArray.toList_eq, ByteArray.toList_eq] at e
  cases a; cases b; simp_all

instance memB (s : ByteArray) (t : List ByteArray) : Decidable (s ∈ t) := decidable_of_iff (t.any (fun x => decide (x = s)) = true) (by simp)

/-- Where a text stands first. -/
def idxB (t : List ByteArray) (s : ByteArray) : Nat := t.findIdx (fun x => decide (x = s))
def addK (t : List ByteArray) (s : ByteArray) : List ByteArray := if s ∈ t then t else t ++ [s]
def tabK : List ByteArray → List ByteArray → List ByteArray
  | t, [] => t
  | t, s :: r => tabK (addK t s) r
def atK : List ByteArray → List ByteArray → List Nat
  | _, [] => []
  | t, s :: r => idxB t s :: atK (addK t s) r

theorem idxB_lt {t : List ByteArray} {s : ByteArray} (h : s ∈ t) : idxB t s < t.length := by
  unfold idxB; exact List.findIdx_lt_length_of_exists ⟨s, h, by simp⟩
theorem idxB_get {t : List ByteArray} {s : ByteArray} (h : s ∈ t) : t[idxB t s]? = some s := by
  have h1 := idxB_lt h
  have h2 := List.findIdx_getElem (xs := t) (p := fun x => decide (x = s)) (w := h1)
  rw [List.getElem?_eq_getElem h1]
  simp only [decide_eq_true_eq] at h2
  exact congrArg some h2
theorem idxB_new {t : List ByteArray} {s : ByteArray} (h : s ∉ t) : idxB t s = t.length := by
  unfold idxB
  rw [List.findIdx_eq_length]
  intro x hx
  simp only [decide_eq_false_iff_not]
  rintro rfl; exact h hx
theorem idxB_at {t : List ByteArray} (hn : t.Nodup) {j : Nat} {s : ByteArray} (h : t[j]? = some s) : idxB t s = j := by
  have hm : s ∈ t := List.mem_of_getElem? h
  have h1 := idxB_get hm
  obtain ⟨hj, ej⟩ := List.getElem?_eq_some_iff.1 h
  obtain ⟨hi, ei⟩ := List.getElem?_eq_some_iff.1 h1
  exact (List.getElem_inj hn).1 (ei.trans ej.symm)
theorem idxB_snoc {t : List ByteArray} {s x : ByteArray} (h : s ∈ t) : idxB (t ++ [x]) s = idxB t s := by
  unfold idxB
  rw [List.findIdx_append, if_pos]
  exact List.findIdx_lt_length_of_exists ⟨s, h, by simp⟩

theorem addK_in {t : List ByteArray} {s : ByteArray} (h : s ∈ t) : addK t s = t := if_pos h
theorem addK_new {t : List ByteArray} {s : ByteArray} (h : s ∉ t) : addK t s = t ++ [s] := if_neg h
theorem addK_mem (t : List ByteArray) (s : ByteArray) : s ∈ addK t s := by
  unfold addK; split
  · assumption
  · simp
theorem addK_nodup {t : List ByteArray} {s : ByteArray} (h : t.Nodup) : (addK t s).Nodup := by
  unfold addK; split
  · exact h
  · rename_i hs
    rw [List.nodup_append]
    exact ⟨h, by simp, fun a ha b hb => by simp at hb; subst hb; rintro rfl; exact hs ha⟩
theorem addK_pre (t : List ByteArray) (s : ByteArray) : t <+: addK t s := by
  unfold addK; split
  · exact List.prefix_rfl
  · exact List.prefix_append _ _
theorem tabK_pre (r : List ByteArray) : ∀ t, t <+: tabK t r := by
  induction r with
  | nil => intro t; exact List.prefix_rfl
  | cons s r ih => intro t; exact (addK_pre t s).trans (ih _)
theorem tabK_nodup (r : List ByteArray) : ∀ t, t.Nodup → (tabK t r).Nodup := by
  induction r with
  | nil => intro t h; exact h
  | cons s r ih => intro t h; exact ih _ (addK_nodup h)
theorem tabK_app (a : List ByteArray) : ∀ t b, tabK t (a ++ b) = tabK (tabK t a) b := by
  induction a with
  | nil => intro t b; rfl
  | cons s r ih => intro t b; exact ih _ _
theorem atK_len (r : List ByteArray) : ∀ t, (atK t r).length = r.length := by
  induction r with
  | nil => intro t; rfl
  | cons s r ih => intro t; simp [atK, ih]
theorem tabK_len (r : List ByteArray) : ∀ t, (tabK t r).length ≤ t.length + r.length := by
  induction r with
  | nil => intro t; simp [tabK]
  | cons s r ih =>
    intro t
    have := ih (addK t s)
    have h2 : (addK t s).length ≤ t.length + 1 := by unfold addK; split <;> simp
    simp [tabK]; omega
theorem tabK_sub (r : List ByteArray) : ∀ t x, x ∈ tabK t r → x ∈ t ∨ x ∈ r := by
  induction r with
  | nil => intro t x h; exact .inl h
  | cons s r ih =>
    intro t x h
    rcases ih _ _ h with h1 | h1
    · unfold addK at h1
      split at h1
      · exact .inl h1
      · rcases List.mem_append.1 h1 with h2 | h2
        · exact .inl h2
        · simp at h2; subst h2; exact .inr (by simp)
    · exact .inr (List.mem_cons_of_mem _ h1)
theorem tabK_has (r : List ByteArray) : ∀ t x, x ∈ r → x ∈ tabK t r := by
  induction r with
  | nil => intro t x h; cases h
  | cons s r ih =>
    intro t x h
    rcases List.mem_cons.1 h with rfl | h
    · exact (tabK_pre r (addK t x)).subset (addK_mem t x)
    · exact ih _ _ h

/-! one round of Table, from the left: t the table, a the numbers so far -/
theorem tabK_in {l t : List ByteArray} {k : Nat} {s : ByteArray} (h : l[k]? = some s) (hs : s ∈ t) : tabK t (l.drop k) = tabK t (l.drop (k + 1)) := by
  obtain ⟨hk, e⟩ := List.getElem?_eq_some_iff.1 h
  rw [List.drop_eq_getElem_cons hk, e, tabK, addK_in hs]
theorem tabK_new {l t : List ByteArray} {k : Nat} {s : ByteArray} (h : l[k]? = some s) (hs : s ∉ t) : tabK t (l.drop k) = tabK (t ++ [s]) (l.drop (k + 1)) := by
  obtain ⟨hk, e⟩ := List.getElem?_eq_some_iff.1 h
  rw [List.drop_eq_getElem_cons hk, e, tabK, addK_new hs]
theorem atK_in {l t : List ByteArray} {k : Nat} {s : ByteArray} (h : l[k]? = some s) (hs : s ∈ t) : atK t (l.drop k) = idxB t s :: atK t (l.drop (k + 1)) := by
  obtain ⟨hk, e⟩ := List.getElem?_eq_some_iff.1 h
  rw [List.drop_eq_getElem_cons hk, e, atK, addK_in hs]
theorem atK_new {l t : List ByteArray} {k : Nat} {s : ByteArray} (h : l[k]? = some s) (hs : s ∉ t) : atK t (l.drop k) = t.length :: atK (t ++ [s]) (l.drop (k + 1)) := by
  obtain ⟨hk, e⟩ := List.getElem?_eq_some_iff.1 h
  rw [List.drop_eq_getElem_cons hk, e, atK, addK_new hs, idxB_new hs]

/-! List -/
/-- Where the first text stands that stood there already. -/
def dupG : List ByteArray → List ByteArray → Nat → Option Nat
  | _, [], _ => none
  | seen, s :: r, i => if s ∈ seen then some i else dupG (seen ++ [s]) r (i + 1)
/-- What is wrong with numbers of K keys, told of whom so many are: an error's number, its place. -/
def ordG (K : Nat) : Nat → List Int → Nat → Nat × Int
  | told, [], _ => if told < K then (8, -1) else (0, -1)
  | told, n :: r, i => if n < 0 ∨ (K : Int) ≤ n then (2, (i : Int)) else if (told : Int) < n then (13, (i : Int)) else ordG K (if n = told then told + 1 else told) r (i + 1)
def outG (T : List ByteArray) (l : List Int) : List ByteArray := l.map fun n => T.getD n.toNat ByteArray.empty
def listF (T : List ByteArray) (l : List Int) : List ByteArray × Nat × Int :=
  match dupG [] T 0 with
  | some i => ([], 9, (i : Int))
  | none => if (ordG T.length 0 l 0).1 = 0 then (outG T l, 0, -1) else ([], ordG T.length 0 l 0)

theorem dupG_nodup (r : List ByteArray) : ∀ seen i, seen.Nodup → (dupG seen r i = none ↔ (seen ++ r).Nodup) := by
  induction r with
  | nil => intro seen i h; simp [dupG, h]
  | cons s r ih =>
    intro seen i h
    unfold dupG
    split
    · rename_i hs
      simp only [reduceCtorEq, false_iff]
      intro hc
      rw [List.nodup_append] at hc
      exact hc.2.2 s hs s (by simp) rfl
    · rename_i hs
      have hn : (seen ++ [s]).Nodup := by have := addK_nodup (s := s) h; rwa [addK_new hs] at this
      rw [ih _ _ hn]
      simp
theorem dupG_bound (r : List ByteArray) : ∀ seen i j, dupG seen r i = some j → j < i + r.length := by
  induction r with
  | nil => intro seen i j h; simp [dupG] at h
  | cons s r ih =>
    intro seen i j h
    unfold dupG at h
    split at h
    · simp only [Option.some.injEq] at h; simp; omega
    · have := ih _ _ _ h; simp; omega
theorem ordG_zero (K : Nat) (l : List Int) : ∀ told i, (ordG K told l i).1 = 0 → ordG K told l i = (0, -1) := by
  induction l with
  | nil => intro told i h; unfold ordG at h ⊢; split at h <;> simp_all
  | cons n r ih =>
    intro told i h
    unfold ordG at h ⊢
    split at h
    · simp at h
    · split at h
      · simp at h
      · rename_i h1 h2
        rw [if_neg h1, if_neg h2]
        exact ih _ _ h

/-- All come back. -/
theorem ordG_atK (K : Nat) (r : List ByteArray) : ∀ t i, (tabK t r).length = K → ordG K t.length ((atK t r).map Int.ofNat) i = (0, -1) := by
  induction r with
  | nil => intro t i h; simp only [atK, List.map_nil, ordG]; rw [if_neg (by simp [tabK] at h; omega)]
  | cons s r ih =>
    intro t i h
    have hp : (addK t s).length ≤ K := by rw [← h]; exact (tabK_pre r (addK t s)).length_le
    rw [atK, List.map_cons, ordG]
    by_cases hs : s ∈ t
    · have h1 := idxB_lt hs
      have e := addK_in hs
      rw [e] at hp ⊢
      have hofN : Int.ofNat (idxB t s) = ((idxB t s : Nat) : Int) := rfl
      rw [hofN, if_neg (by omega), if_neg (by omega), if_neg (by omega)]
      have := ih t (i + 1) (by rw [← h, tabK, e])
      exact this
    · have h1 := idxB_new hs
      have e := addK_new hs
      rw [e] at hp ⊢
      have hofN : Int.ofNat (idxB t s) = ((t.length : Nat) : Int) := by rw [h1]; rfl
      simp only [List.length_append, List.length_singleton] at hp
      rw [hofN, if_neg (by omega), if_neg (by omega), if_pos rfl]
      have := ih (t ++ [s]) (i + 1) (by rw [← h, tabK, e])
      simpa using this
theorem outG_atK (r : List ByteArray) : ∀ t, outG (tabK t r) ((atK t r).map Int.ofNat) = r := by
  induction r with
  | nil => intro t; rfl
  | cons s r ih =>
    intro t
    have hh := ih (addK t s)
    unfold outG at hh ⊢
    rw [atK, List.map_cons, List.map_cons, tabK]
    congr 1
    have hx : (addK t s)[idxB t s]? = some s := by
      by_cases hs : s ∈ t
      · rw [addK_in hs]; exact idxB_get hs
      · rw [addK_new hs, idxB_new hs]; simp
    have hp := tabK_pre r (addK t s)
    obtain ⟨z, hz⟩ := hp
    have hlt : idxB t s < (addK t s).length := (List.getElem?_eq_some_iff.1 hx).1
    have : (tabK (addK t s) r)[idxB t s]? = some s := by rw [← hz, List.getElem?_append_left hlt]; exact hx
    simp [this]
theorem listF_table (l : List ByteArray) : listF (tabK [] l) ((atK [] l).map Int.ofNat) = (l, 0, -1) := by
  unfold listF
  have h1 : dupG [] (tabK [] l) 0 = none := (dupG_nodup _ _ _ (by simp)).2 (by simpa using tabK_nodup l [] (by simp))
  have h2 := ordG_atK (tabK [] l).length l [] 0 rfl
  simp only [List.length_nil] at h2
  rw [h1, h2]
  simp [outG_atK]

/-- Just one table. -/
theorem only_at (T : List ByteArray) (hn : T.Nodup) (l : List Int) : ∀ told i, told ≤ T.length → (ordG T.length told l i).1 = 0 →
    tabK (T.take told) (outG T l) = T ∧ (atK (T.take told) (outG T l)).map Int.ofNat = l := by
  induction l with
  | nil =>
    intro told i ht h
    unfold ordG at h
    split at h
    · simp at h
    · refine ⟨?_, rfl⟩
      simp only [outG, List.map_nil, tabK]
      exact List.take_of_length_le (by omega)
  | cons n r ih =>
    intro told i ht h
    unfold ordG at h
    split at h
    · simp at h
    · split at h
      · simp at h
      · rename_i h1 h2
        obtain ⟨j, rfl⟩ : ∃ j : Nat, n = j := ⟨n.toNat, by omega⟩
        have hjl : j < T.length := by omega
        have hout : outG T ((j : Int) :: r) = T[j] :: outG T r := by simp [outG, hjl]
        have hat : T[j]? = some T[j] := List.getElem?_eq_getElem hjl
        rw [hout, tabK, atK, List.map_cons]
        by_cases hjt : j = told
        · subst hjt
          rw [if_pos rfl] at h
          have hne : T[j] ∉ T.take j := by
            intro hc
            obtain ⟨m, hm⟩ := List.mem_iff_getElem?.1 hc
            have hmj : m < j := by have := (List.getElem?_eq_some_iff.1 hm).1; simp at this; omega
            rw [List.getElem?_take_of_lt hmj] at hm
            have e1 := idxB_at hn hm
            have e2 := idxB_at hn hat
            omega
          have e : addK (T.take j) T[j] = T.take (j + 1) := by rw [addK_new hne, List.take_append_getElem hjl]
          have ei : idxB (T.take j) T[j] = j := by rw [idxB_new hne, List.length_take]; omega
          rw [e, ei]
          obtain ⟨q1, q2⟩ := ih (j + 1) (i + 1) (by omega) h
          exact ⟨q1, by rw [q2]; rfl⟩
        · rw [if_neg (by omega)] at h
          have hjt2 : j < told := by omega
          have hm : (T.take told)[j]? = some T[j] := by rw [List.getElem?_take_of_lt hjt2]; exact hat
          have hin : T[j] ∈ T.take told := List.mem_of_getElem? hm
          have ei : idxB (T.take told) T[j] = j := idxB_at (hn.sublist (List.take_sublist _ _)) hm
          rw [addK_in hin, ei]
          obtain ⟨q1, q2⟩ := ih told (i + 1) ht h
          exact ⟨q1, by rw [q2]; rfl⟩
theorem listF_ok {T : List ByteArray} {l : List Int} (h : (listF T l).2.1 = 0) : listF T l = (outG T l, 0, -1) ∧ tabK [] (outG T l) = T ∧ (atK [] (outG T l)).map Int.ofNat = l := by
  unfold listF at h ⊢
  split at h
  · simp at h
  · rename_i hd
    have hn : T.Nodup := by simpa using (dupG_nodup T [] 0 (by simp)).1 hd
    split at h
    · rename_i ho
      rw [if_pos ho]
      have := only_at T hn l 0 0 (Nat.zero_le _) ho
      simp only [List.take_zero] at this
      exact ⟨rfl, this.1, this.2⟩
    · rename_i ho; exact absurd h ho
theorem listF_bad {T : List ByteArray} {l : List Int} (h : (listF T l).2.1 ≠ 0) : (listF T l).1 = [] := by
  unfold listF at h ⊢
  split
  · rfl
  · split
    · rename_i hd ho; rw [hd] at h; simp [ho] at h
    · rfl
end Go.Proofs.YtkafhlpnhgipeaaGreatDoor
