/-
  The contracts of packtrainref.Seal and packtrainref.Open.
-/
import Derived.Test.YtggokgiebdadpaaDoorCrcOpen
import Derived.Test.YtggokgiebdadpaaDoorCrcRef
namespace Go.Proofs.YtggokgiebdadpaaDoor
open Go.RowKit

theorem ref_conv (n : Nat) (w : World) : (convert 69 9 (.slice (some ⟨w.heap.size, 0, none⟩) 1 1)).run Tryd.prog (w.alloc (.cells #[.int .u8 ((n : Int) % 256)] 5)) = .ok (.string ⟨#[UInt8.ofNat n]⟩) (w.alloc (.cells #[.int .u8 ((n : Int) % 256)] 5)) := by
  refine run_convert_bytes_back _ _ _ _ _ _ [UInt8.ofNat n] Tryd.underlying69 Tryd.underlying5 Tryd.underlying9 fun j hj => ?_
  obtain rfl : j = 0 := by simp at hj; omega
  have hadd : (⟨w.heap.size, 0, none⟩ : Addr).add 0 = ⟨w.heap.size, 0, none⟩ := rfl
  rw [hadd, cell_of_row _ _ _ _ _ _ (heap_alloc_new w _)]
  simp

/-- A text with the first k bytes of its sum. -/
def tk (s : ByteArray) (n k : Nat) : ByteArray := s ++ ⟨((tail4 n).take k).toArray⟩
theorem tk_zero (s : ByteArray) (n : Nat) : tk s n 0 = s := by apply bytes_ext; unfold tk; simp
theorem tk_size (s : ByteArray) (n k : Nat) : (tk s n k).size ≤ s.size + 4 := by
  unfold tk
  rw [ByteArray.size_append]
  have : (⟨((tail4 n).take k).toArray⟩ : ByteArray).size = ((tail4 n).take k).length := by show ((tail4 n).take k).toArray.size = _; simp
  rw [this]
  have h2 : ((tail4 n).take k).length ≤ 4 := List.length_take_le' _ _
  omega
theorem tk_succ (s : ByteArray) (n k : Nat) (h : k < 4) : tk s n k ++ ⟨#[UInt8.ofNat (n / 256 ^ k)]⟩ = tk s n (k + 1) := by
  apply bytes_ext
  unfold tk
  simp only [ByteArray.data_append, Array.toList_append, List.append_assoc]
  congr 1
  match k, h with
  | 0, _ => simp [tail4]
  | 1, _ => simp [tail4]
  | 2, _ => simp [tail4]
  | 3, _ => simp [tail4]
theorem tk_all (s : ByteArray) : tk s (sum s.data.toList) 4 = sealB s := rfl
theorem div_next (n k : Nat) : ((n / 256 ^ k : Nat) : Int) / 256 = ((n / 256 ^ (k + 1) : Nat) : Int) := by
  rw [Nat.pow_succ, ← Nat.div_div_eq_div_mul]
  omega

set_option maxRecDepth 100000 in
set_option maxHeartbeats 1000000 in
theorem refseal_any (s : ByteArray) (w : World) (hs : s.size ≤ 1000000) :
    Calls Tryd.prog 20 #[.string s] w fun e w' => e = .returned (.string (sealB s)) ∧ Below w.heap.size w w' := by
  have hl := sum_lt s.data.toList
  obtain ⟨n, hn⟩ : ∃ n, n = sum s.data.toList := ⟨_, rfl⟩
  have HN := Lib.hid hn
  rw [← hn] at hl
  clear hn
  go_enter Tryd.func20, Tryd.ntmps20
  go_wp2_with fail
  refine (refsum_any _ _ hs).mono ?_
  rintro e w' ⟨rfl, rfl⟩
  rw [← HN.out]
  go_wp2
  go_loopw [0, 3, 6] (fun t m c wr => ∃ k : Nat, k ≤ 4 ∧ c = .int .i64 k ∧ t = .string (tk s n k) ∧ m = .int .u32 (n / 256 ^ k : Nat) ∧ Below w.heap.size w wr) (fun _ _ c _ => 4 - (intOf c).toNat)
  case atStart => exact ⟨0, by omega, rfl, by rw [tk_zero], by simp, Below.refl _ _⟩
  case round =>
    obtain ⟨k, hk, rfl, rfl, rfl, hb⟩ := hrel
    have HB := Lib.hid hb
    clear hb
    by_cases hlt : k < 4
    · have hcv := ref_conv (n / 256 ^ k) wr
      have hz := tk_size s n k
      have hd := div_next n k
      have ht := tk_succ s n k hlt
      have hm : n / 256 ^ k < 4294967296 := Nat.lt_of_le_of_lt (Nat.div_le_self _ _) hl
      obtain ⟨m2, hm2⟩ : ∃ m2, n / 256 ^ (k + 1) = m2 := ⟨_, rfl⟩
      rw [hm2] at hd
      have HM2 := Lib.hid hm2
      clear hm2
      generalize n / 256 ^ k = m at *
      go_wp2
      go_roundw
      case rel => exact ⟨k + 1, by omega, by go_num, rfl, by rw [HM2.out], HB.out.alloc HB.out.size _⟩
      case measure => simp [intOf]; omega
    · obtain rfl : k = 4 := by omega
      have HT : Hid (tk s n 4 = sealB s) := by
        have h : tk s n 4 = sealB s := by rw [HN.out]; exact tk_all s
        exact h
      go_wp2
      go_ret
      exact ⟨by rw [← HT.out]; rfl, HB.out⟩

/-- The document's answer to Open: a text and an error's number. -/
def openR (r : List UInt8 × Nat) : Value := .tuple #[.string ⟨r.1.toArray⟩, .int .i64 r.2]
theorem seal_take (s : ByteArray) (k : Nat) : sealL (s.data.toList.take k) = s.data.toList ↔ s.data.toList.drop k = tail4 (sum (s.data.toList.take k)) := by
  unfold sealL
  constructor
  · intro h
    have h2 : s.data.toList.take k ++ tail4 (sum (s.data.toList.take k)) = s.data.toList.take k ++ s.data.toList.drop k := by rw [h, List.take_append_drop]
    exact (List.append_cancel_left h2).symm
  · intro h; rw [← h, List.take_append_drop]
theorem ext_data0 (s : ByteArray) (k : Nat) : (s.extract 0 k).data.toList = s.data.toList.take k := by rw [ext_list, List.drop_zero, Nat.sub_zero]

set_option maxRecDepth 100000 in
set_option maxHeartbeats 1000000 in
theorem refopen_any (s : ByteArray) (w : World) (hs : s.size ≤ 1000000) :
    Calls Tryd.prog 26 #[.string s] w fun e w' => e = .returned (openR (openL s.data.toList)) ∧ Below w.heap.size w w' := by
  by_cases h4 : s.size < 4
  · have h : openL s.data.toList = ([], 7) := by unfold openL; rw [if_pos (by simpa using h4)]
    rw [h]
    go_enter Tryd.func26, Tryd.ntmps26
    go_wp2
    go_ret2
    exact ⟨rfl, Below.refl _ _⟩
  · obtain ⟨k, hk⟩ : ∃ k, s.size = k + 4 := ⟨s.size - 4, by omega⟩
    have e1 : (s.size : Int) - 4 = (k : Int) := by omega
    have e2 : (0 : Int) ≤ (k : Int) := by omega
    have e3 : (k : Int) ≤ (s.size : Int) := by omega
    have hk2 : k ≤ s.size := by omega
    have HZ : Hid ((s.extract 0 k).size ≤ 1000000) := by
      have h : (s.extract 0 k).size ≤ 1000000 := by simp; omega
      exact h
    obtain ⟨_, t2, t3⟩ := open_test s k hk
    have hst := seal_take s k
    by_cases hq : s.data.toList.drop k = tail4 (sum (s.data.toList.take k))
    · have HO : Hid (openR (openL s.data.toList) = .tuple #[.string (s.extract 0 k), .int .i64 0]) := by
        have h : openL s.data.toList = (s.data.toList.take k, 0) := by
          unfold openL
          rw [if_neg t3, t2, if_pos hq]
        show openR _ = _
        rw [h]
        unfold openR
        rw [take_bytes]; rfl
      have HS : Hid (sealB (s.extract 0 k) = s) := by
        have h : sealB (s.extract 0 k) = s := by apply bytes_ext; rw [sealB_data, ext_data0]; exact hst.2 hq
        exact h
      clear hq t2 t3 hk hst
      go_enter Tryd.func26, Tryd.ntmps26
      go_wp2_with fail
      refine (refseal_any _ _ HZ.out).mono ?_
      rintro r w1 ⟨rfl, hb1⟩
      rw [HS.out]
      have HB := Lib.hid hb1
      clear hb1
      go_wp2
      go_ret2
      exact ⟨by rw [HO.out]; rfl, HB.out⟩
    · have HO : Hid (openR (openL s.data.toList) = .tuple #[.string ⟨#[]⟩, .int .i64 15]) := by
        have h : openL s.data.toList = ([], 15) := by
          unfold openL
          rw [if_neg t3, t2, if_neg hq]
        show openR _ = _
        rw [h]
        rfl
      have hne : ¬ sealB (s.extract 0 k) = s := fun h => hq (hst.1 (by have h2 := congrArg (fun b : ByteArray => b.data.toList) h; rw [sealB_data, ext_data0] at h2; exact h2))
      have hb1 : ((sealB (s.extract 0 k)).toList == s.toList) = false := beq_eq_false_iff_ne.2 (fun h => hne (bytes_ext (by rw [← toL, ← toL]; exact h)))
      clear hq t2 t3 hk hst hne
      go_enter Tryd.func26, Tryd.ntmps26
      go_wp2_with fail
      refine (refseal_any _ _ HZ.out).mono ?_
      rintro r w1 ⟨rfl, hbw⟩
      have HB := Lib.hid hbw
      clear hbw
      go_wp2
      go_ret2
      exact ⟨by rw [HO.out]; rfl, HB.out⟩
end Go.Proofs.YtggokgiebdadpaaDoor
