/-
  The contract of the document's Cut.
-/
import Derived.Test.YtggokgiebdadpaaDoorChkCut
import Derived.Test.YtggokgiebdadpaaDoorChkRefRight
import Derived.Test.YtggokgiebdadpaaDoorCrcRef
namespace Go.Proofs.YtggokgiebdadpaaDoor
open Go.RowKit

set_option maxRecDepth 100000 in
set_option maxHeartbeats 1000000 in
theorem rcut_bad (s : ByteArray) (z : Int) (e : Nat) (w : World) (hs : s.size ≤ maxLen) (z0 : -9223372036854775808 ≤ z) (z1 : z ≤ 9223372036854775807) (h : cutE s.size z = e) (he : e ≠ 0) :
    Calls Tryd.prog 5 #[.string s, .int .i64 z] w fun r w' => r = .returned (.tuple #[.slice none 0 0, .int .i64 e]) ∧ w = w' := by
  unfold maxLen at hs
  by_cases h1 : s.size < 1 ∨ 4096 < s.size
  · obtain rfl : 4 = e := by rw [← h]; unfold cutE; rw [if_pos h1]
    have H1 : Hid (decide ((1 : Int) ≤ (s.size : Int) ∧ (s.size : Int) ≤ 4096) = false) := Lib.hid (decide_eq_false (by omega))
    clear h h1
    go_enter Tryd.func5, Tryd.ntmps5
    go_wp2_with (first | (go_at_call 14; ((with_reducible refine (within_as _ 1 4096 false _ H1.out).mono ?_); rintro r w' ⟨rfl, rfl⟩)))
    go_ret2
    exact ⟨rfl, rfl⟩
  · have H1 : Hid (decide ((1 : Int) ≤ (s.size : Int) ∧ (s.size : Int) ≤ 4096) = true) := Lib.hid (decide_eq_true (by omega))
    by_cases h2 : z < 1 ∨ 256 < z
    · obtain rfl : 2 = e := by rw [← h]; unfold cutE; rw [if_neg h1, if_pos h2]
      have H2 : Hid (decide ((1 : Int) ≤ z ∧ z ≤ 256) = false) := Lib.hid (decide_eq_false (by omega))
      clear h h1 h2
      go_enter Tryd.func5, Tryd.ntmps5
      go_wp2_with (first | (go_at_call 14; ((with_reducible refine (within_as _ 1 4096 true _ H1.out).mono ?_); rintro r w' ⟨rfl, rfl⟩)) | (go_at_call 14; ((with_reducible refine (within_as z 1 256 false _ H2.out).mono ?_); rintro r w' ⟨rfl, rfl⟩)))
      go_ret2
      exact ⟨rfl, rfl⟩
    · exfalso
      apply he
      rw [← h]; unfold cutE; rw [if_neg h1, if_neg h2]

theorem ext_whole (s : ByteArray) : s.extract 0 s.size = s := by
  apply bytes_ext
  rw [ByteArray.data_extract, Array.toList_extract]
  show s.data.toList.take (s.size - 0) = _
  apply List.take_of_length_le
  have h : s.data.toList.length = s.size := by simp
  omega
theorem ext_rest (s : ByteArray) (a b : Nat) (_ : a + b ≤ s.size) : (s.extract a s.size).extract 0 b = s.extract a (a + b) := by
  rw [ByteArray.extract_extract]
  congr 1
  omega
theorem ext_next (s : ByteArray) (a b : Nat) (_ : a + b ≤ s.size) : (s.extract a s.size).extract b (s.extract a s.size).size = s.extract (a + b) s.size := by
  rw [ByteArray.extract_extract, ByteArray.size_extract]
  congr 1
  omega

set_option maxRecDepth 100000 in
set_option maxHeartbeats 2000000 in
theorem rcut_ok (s : ByteArray) (z : Nat) (w : World) (hs1 : 1 ≤ s.size) (hs2 : s.size ≤ 4096) (hz1 : 1 ≤ z) (hz2 : z ≤ 256) :
    Calls Tryd.prog 5 #[.string s, .int .i64 z] w fun e w' => ∃ v, e = .returned (.tuple #[v, .int .i64 0]) ∧ ownsC w' w.heap.size v (cutK s z (cutN s.size z)) ∧ Below w.heap.size w w' := by
  obtain ⟨S, hS⟩ : ∃ S, sum s.data.toList = S := ⟨_, rfl⟩
  have HSS := Lib.hid hS
  have H1 : Hid (decide ((1 : Int) ≤ (s.size : Int) ∧ (s.size : Int) ≤ 4096) = true) := Lib.hid (decide_eq_true (by omega))
  have H2 : Hid (decide ((1 : Int) ≤ (z : Int) ∧ (z : Int) ≤ 256) = true) := Lib.hid (decide_eq_true (by omega))
  have HSM : Hid (∀ w', Calls Tryd.prog 15 #[.string s] w' fun e w2 => e = .returned (.int .u32 (S : Nat)) ∧ w' = w2) := Lib.hid (fun w' => by
    have h := refsum_any s w' (by omega)
    rw [hS] at h
    exact h)
  clear hS
  go_enter Tryd.func5, Tryd.ntmps5
  go_wp2_with (first | (go_at_call 14; ((with_reducible refine (within_as _ 1 4096 true _ H1.out).mono ?_); rintro r w' ⟨rfl, rfl⟩)) | (go_at_call 14; ((with_reducible refine (within_as z 1 256 true _ H2.out).mono ?_); rintro r w' ⟨rfl, rfl⟩)) | (go_at_call 15; ((with_reducible refine (HSM.out _).mono ?_); rintro r w' ⟨rfl, rfl⟩)))
  go_loopw [6, 8] (fun v r wr => ∃ (k : Nat) (R : ByteArray), r = .string R ∧ R = s.extract (min (k * z) s.size) s.size ∧ k ≤ cutN s.size z ∧ ownsC wr w.heap.size v (cutK s z k) ∧ Below w.heap.size w wr) (fun _ r _ => match r with | .string R => R.size | _ => 0)
  case atStart => exact ⟨0, s, rfl, by rw [Nat.zero_mul, Nat.min_eq_left (Nat.zero_le _)]; exact (ext_whole s).symm, Nat.zero_le _, ownsC_nil _ _, Below.refl _ _⟩
  case round =>
    obtain ⟨k, R, rfl, hR, hk, hown, hbel⟩ := hrel
    have HOWN := Lib.hid hown
    have HBEL := Lib.hid hbel
    have HK := Lib.hid hk
    clear hown hbel hk
    by_cases hlt : k * z < s.size
    · obtain ⟨a, ha⟩ : ∃ a, k * z = a := ⟨_, rfl⟩
      have HKL : Hid (k + 1 ≤ cutN s.size z) := Lib.hid ((cutN_lt (by omega)).1 hlt)
      rw [ha] at hR hlt
      rw [Nat.min_eq_left (by omega)] at hR
      have hRz : R.size = s.size - a := by rw [hR, ByteArray.size_extract]; omega
      obtain ⟨m, hm⟩ : ∃ m, min z R.size = m := ⟨_, rfl⟩
      have hm1 : 1 ≤ m := by omega
      have hm2 : m ≤ R.size := by omega
      have hab : min (a + z) s.size = a + m := by omega
      obtain ⟨D, hD⟩ : ∃ D, R.extract 0 m = D := ⟨_, rfl⟩
      obtain ⟨R2, hR2⟩ : ∃ D, R.extract m R.size = D := ⟨_, rfl⟩
      have HPC : Hid (cutK s z (k + 1) = cutK s z k ++ [⟨S, s.size, (a : Nat), D⟩]) := Lib.hid (by
        rw [cutK_succ]; unfold piece; rw [HSS.out, ha, hab, ← hD, hR, ext_rest s a m (by omega)])
      have HR2 : Hid (R2 = s.extract (min ((k + 1) * z) s.size) s.size) := Lib.hid (by
        rw [← hR2, Nat.succ_mul, ha, hab, hR, ext_next s a m (by omega)])
      have HRZ : Hid (R2.size < R.size) := Lib.hid (by rw [← hR2, ByteArray.size_extract]; omega)
      have HLN : Hid ((cutK s z k).length + 1 ≤ 1000000) := Lib.hid (by
        rw [cutK_len]
        have h1 := HKL.out
        have h2 := cutN_le s.size z (by omega)
        omega)
      have e1 : (m : Int) ≤ (R.size : Int) := by omega
      have e0 : (0 : Int) ≤ (m : Int) := by omega
      have e3 : min (z : Int) (R.size : Int) = (m : Int) := by omega
      have e4 : (s.size : Int) - (R.size : Int) = (a : Int) := by omega
      have hRe : R.toList.isEmpty = false := by
        rw [toL]
        cases hq : R.data.toList with
        | nil => have h1 : R.data.toList.length = R.size := by simp
                 rw [hq] at h1; simp only [List.length_nil] at h1; omega
        | cons a b => rfl
      have hRe2 : (R.toList == []) = false := by
        rw [toL] at hRe ⊢
        cases hq : R.data.toList with
        | nil => rw [hq] at hRe; simp at hRe
        | cons a b => rfl
      have HO1 := HOWN
      have HZ1 := Lib.hid HBEL.out.size
      clear hR hRz hm hm1 hm2 hab ha
      go_wp2_with (at_builtin; refine wpList_append_chk rfl _ _ rfl w.heap.size _ (cutK s z k) rfl (HO1.out.alloc _) wr.heap.size 1 rfl ⟨S, s.size, (a : Nat), D⟩ ?c1 ?c2 ?c3 ?_)
      case c1 => exact chkBlk_new _ _ _ _ _
      case c2 => exact HLN.out
      case c3 => have := HZ1.out; simp; omega
      · intro g cap w2 ho2 hg2
        have HB3 : Hid (Below w.heap.size w w2) := (HBEL.out.alloc HZ1.out _).grown hg2 (by have := HZ1.out; simp; omega) (fun g hg => (HO1.out.lt g hg).1)
        have HO2 := Lib.hid ho2
        rw [← HPC.out] at HO2
        clear ho2 hg2
        go_wp2
        go_roundw
        case rel => exact ⟨k + 1, R2, rfl, HR2.out, HKL.out, HO2.out, HB3.out⟩
        case measure => exact HRZ.out
    · have HE : Hid (cutN s.size z = k) := Lib.hid (cutN_end (by omega) HK.out hlt).symm
      have hRn : R = ⟨#[]⟩ := by
        apply bytes_ext
        rw [hR, Nat.min_eq_right (by omega), ByteArray.data_extract, Array.toList_extract]
        simp
      subst hRn
      clear hR
      go_wp2
      go_ret2
      exact ⟨_, rfl, by rw [HE.out]; exact HOWN.out, HBEL.out⟩
end Go.Proofs.YtggokgiebdadpaaDoor
