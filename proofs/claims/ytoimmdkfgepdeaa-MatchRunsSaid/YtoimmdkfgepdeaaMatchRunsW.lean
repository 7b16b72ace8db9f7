/-
  The walk of 'packtrainkeep.MatchRuns'.
-/
import Derived.Test.YtoimmdkfgepdeaaMatchFarW
import Derived.Test.YtoimmdkfgepdeaaMatchRunsM
import Derived.WalkSpells
import Derived.RegionTactic
import Derived.BigRegion
namespace Go.Proofs.Ytoimmdkfgepdeaa
open Go.RowKit

theorem one_convs3 (c : UInt8) (w : World) : (convert 42 9 (.slice (some ⟨w.heap.size, 0, none⟩) 1 1)).run Try.prog (w.alloc (.cells #[.int .u8 (c.toNat : Int)] 5)).drew = .ok (.string ⟨#[c]⟩) (w.alloc (.cells #[.int .u8 (c.toNat : Int)] 5)).drew := by
  refine run_convert_bytes_back _ _ _ _ _ _ [c] Try.underlying42 Try.underlying5 Try.underlying9 fun j hj => ?_
  obtain rfl : j = 0 := by simp at hj; omega
  have hadd : (⟨w.heap.size, 0, none⟩ : Addr).add 0 = ⟨w.heap.size, 0, none⟩ := rfl
  show (w.alloc _).cell? _ = _
  rw [hadd, cell_of_row _ _ _ _ _ _ (heap_alloc_new w _)]
  rfl

theorem cut_one (s : ByteArray) (h : s.size = 1) : (s.toList == (s.extract 0 1).toList) = true := by
  have e : s.extract 0 1 = s := by
    apply bs_ext
    rw [ext_data, List.drop_zero, List.take_of_length_le]
    rw [← size_data]; omega
  rw [e]; exact beq_self_eq_true _

set_option maxRecDepth 100000 in
set_option maxHeartbeats 4000000 in
theorem runs_many (c : UInt8) (n0 : Int) (w : World) (k : Nat) (hk : pickN n0 900 = (k : Int)) (h4 : 4 ≤ k) (h9 : k < 900) :
    Calls Try.prog 9 #[.int .u8 (c.toNat : Int), .int .i64 n0] w fun e w' => e = .returned (.bool true) ∧ Below w.heap.size w w' := by
  have HK := Lib.hid hk
  obtain ⟨n, hn⟩ : ∃ n, n = k + 1 := ⟨_, rfl⟩
  have hn1 : (1 : Int) + (k : Int) = (n : Int) := by omega
  have hn2 : (n : Int) - 1 = (k : Int) := by omega
  obtain ⟨ht1, ht2⟩ := rep_toks c n (by omega)
  rw [show n - 1 = k by omega] at ht1
  obtain ⟨l, hl⟩ : ∃ l, toks (List.replicate n c) = l := ⟨_, rfl⟩
  rw [hl] at ht1 ht2
  obtain ⟨r, hr⟩ : ∃ r, r = k % 67 := ⟨_, rfl⟩
  obtain ⟨m, hm⟩ : ∃ m, m = k / 67 := ⟨_, rfl⟩
  have hr1 : (k : Int) % 67 = (r : Int) := by omega
  have hm1 : (k : Int) / 67 = (m : Int) := by omega
  have HTL : Hid (toks (⟨(Lib.repeatL [c] n).toArray⟩ : ByteArray).data.toList = l) := by
    have h : toks (⟨(Lib.repeatL [c] n).toArray⟩ : ByteArray).data.toList = l := by rw [bs_data, repeat_one, hl]
    exact h
  have HZ1 : Hid ((⟨#[c]⟩ : ByteArray).size * n ≤ 140737488355328) := by
    have h : (⟨#[c]⟩ : ByteArray).size * n ≤ 140737488355328 := by show 1 * n ≤ _; omega
    exact h
  have HZ2 : Hid ((⟨(Lib.repeatL [c] n).toArray⟩ : ByteArray).size ≤ 400000) := by
    have h : (⟨(Lib.repeatL [c] n).toArray⟩ : ByteArray).size ≤ 400000 := by rw [bs_size, repeat_one, List.length_replicate]; omega
    exact h
  obtain ⟨want, hwant⟩ : ∃ want, want = l.length := ⟨_, rfl⟩
  have HW := Lib.hid hwant
  have HT2 := Lib.hid ht2
  have hn5 : ¬ (n : Int) < 5 := by omega
  have hc1 := fun w => one_convs c w
  have hnn : n ≤ 900 := by omega
  rw [← hwant] at ht1
  by_cases hr0 : r = 0
  · have hw0 : (1 : Int) + (m : Int) = (want : Int) := by rw [← hr, if_pos hr0] at ht1; omega
    have d1 : decide (4 ≤ (r : Int)) = false := by simp; omega
    have d2 : decide (0 < r) = false := by simp; omega
    have d3 : decide (0 < want) = true := by simp; omega
    have d0 : decide (0 < (r : Int)) = false := by simp; omega
    have hwp : 0 < want := by omega
    clear hk hn hl ht1 ht2 hr hm hwant hr0 h4 h9
    go_enter Try.func9, Try.ntmps9
    go_wp2_with fail
    refine (found_any _).mono ?_
    rintro e w1 ⟨rfl, hb1⟩
    have HB1 := Lib.hid hb1
    clear hb1
    go_wp2_with fail
    refine (pick_any n0 900 _ (by omega) (by omega)).mono ?_
    rintro e w' ⟨rfl, rfl⟩
    rw [HK.out]
    go_wp2_with fail
    refine (Try.strings_Repeat ⟨#[c]⟩ n _ (by omega) HZ1.out).mono ?_
    rintro e w2 ⟨rfl, hb2⟩
    have HB2 : Hid (Below w.heap.size w w2) := (HB1.out.alloc HB1.out.size _).trans (hb2.mono (by simp; have := HB1.out.size; omega))
    clear hb2
    go_wp2_with fail
    refine (tokens_any _ _ HZ2.out).mono ?_
    rintro e w3 ⟨v, rfl, ho, hb3⟩
    rw [HTL.out] at ho
    have HB3 : Hid (Below w.heap.size w w3) := HB2.out.trans (hb3.mono HB2.out.size)
    obtain ⟨a, cc, hv, f⟩ := ho.is.form
    obtain ⟨b1, o1, rfl, hlt1, p0, _, _⟩ := f 0 _ HT2.out
    subst hv
    rw [← HW.out]
    simp only [Nat.zero_mul, Nat.add_zero] at p0
    clear ho hb3 f
    clear hc1
    obtain ⟨C, hC⟩ : ∃ C : ByteArray, C = ⟨#[c]⟩ := ⟨_, rfl⟩
    have hc3 := one_convs3 c w3
    rw [← hC] at hc3
    have hCs : C.size = 1 := by rw [hC]; rfl
    have hx := cut_one C hCs
    have hCz : (1 : Int) ≤ (C.size : Int) := by omega
    rw [← hC] at p0
    have hpa : (w3.alloc (.cells #[.int .u8 (c.toNat : Int)] 5)).drew.cell? ⟨b1, o1, none⟩ = some (.string C) := (World.cell?_alloc_lt _ _ _ hlt1).trans p0
    clear hC hCs
    go_wp2
    go_region
    all_goals
      go_wp2
      go_ret
      exact ⟨rfl, (HB3.out.alloc HB3.out.size _).drew⟩
  · by_cases hr4 : 4 ≤ r
    · have hw0 : (1 : Int) + (m : Int) + 1 = (want : Int) := by rw [← hr, if_neg hr0] at ht1; omega
      have d1 : decide (4 ≤ (r : Int)) = true := by simp; omega
      have d3 : decide (0 < want) = true := by simp; omega
      have hwp : 0 < want := by omega
      clear hk hn hl ht1 ht2 hr hm hwant hr0 hr4 h4 h9
      go_enter Try.func9, Try.ntmps9
      go_wp2_with fail
      refine (found_any _).mono ?_
      rintro e w1 ⟨rfl, hb1⟩
      have HB1 := Lib.hid hb1
      clear hb1
      go_wp2_with fail
      refine (pick_any n0 900 _ (by omega) (by omega)).mono ?_
      rintro e w' ⟨rfl, rfl⟩
      rw [HK.out]
      go_wp2_with fail
      refine (Try.strings_Repeat ⟨#[c]⟩ n _ (by omega) HZ1.out).mono ?_
      rintro e w2 ⟨rfl, hb2⟩
      have HB2 : Hid (Below w.heap.size w w2) := (HB1.out.alloc HB1.out.size _).trans (hb2.mono (by simp; have := HB1.out.size; omega))
      clear hb2
      go_wp2_with fail
      refine (tokens_any _ _ HZ2.out).mono ?_
      rintro e w3 ⟨v, rfl, ho, hb3⟩
      rw [HTL.out] at ho
      have HB3 : Hid (Below w.heap.size w w3) := HB2.out.trans (hb3.mono HB2.out.size)
      obtain ⟨a, cc, hv, f⟩ := ho.is.form
      obtain ⟨b1, o1, rfl, hlt1, p0, _, _⟩ := f 0 _ HT2.out
      subst hv
      rw [← HW.out]
      simp only [Nat.zero_mul, Nat.add_zero] at p0
      clear ho hb3 f
      clear hc1
      obtain ⟨C, hC⟩ : ∃ C : ByteArray, C = ⟨#[c]⟩ := ⟨_, rfl⟩
      have hc3 := one_convs3 c w3
      rw [← hC] at hc3
      have hCs : C.size = 1 := by rw [hC]; rfl
      have hx := cut_one C hCs
      have hCz : (1 : Int) ≤ (C.size : Int) := by omega
      rw [← hC] at p0
      have hpa : (w3.alloc (.cells #[.int .u8 (c.toNat : Int)] 5)).drew.cell? ⟨b1, o1, none⟩ = some (.string C) := (World.cell?_alloc_lt _ _ _ hlt1).trans p0
      clear hC hCs
      go_wp2
      go_region
      all_goals
        go_wp2
        go_ret
        exact ⟨rfl, (HB3.out.alloc HB3.out.size _).drew⟩
    · have hw0 : (1 : Int) + (m : Int) + 1 = (want : Int) := by rw [← hr, if_neg hr0] at ht1; omega
      have d1 : decide (4 ≤ (r : Int)) = false := by simp; omega
      have d2 : decide (0 < r) = true := by simp; omega
      have d3 : decide (0 < want) = true := by simp; omega
      have d0 : decide (0 < (r : Int)) = true := by simp; omega
      have hwp : 0 < want := by omega
      clear hk hn hl ht1 ht2 hr hm hwant hr0 hr4 h4 h9
      go_enter Try.func9, Try.ntmps9
      go_wp2_with fail
      refine (found_any _).mono ?_
      rintro e w1 ⟨rfl, hb1⟩
      have HB1 := Lib.hid hb1
      clear hb1
      go_wp2_with fail
      refine (pick_any n0 900 _ (by omega) (by omega)).mono ?_
      rintro e w' ⟨rfl, rfl⟩
      rw [HK.out]
      go_wp2_with fail
      refine (Try.strings_Repeat ⟨#[c]⟩ n _ (by omega) HZ1.out).mono ?_
      rintro e w2 ⟨rfl, hb2⟩
      have HB2 : Hid (Below w.heap.size w w2) := (HB1.out.alloc HB1.out.size _).trans (hb2.mono (by simp; have := HB1.out.size; omega))
      clear hb2
      go_wp2_with fail
      refine (tokens_any _ _ HZ2.out).mono ?_
      rintro e w3 ⟨v, rfl, ho, hb3⟩
      rw [HTL.out] at ho
      have HB3 : Hid (Below w.heap.size w w3) := HB2.out.trans (hb3.mono HB2.out.size)
      obtain ⟨a, cc, hv, f⟩ := ho.is.form
      obtain ⟨b1, o1, rfl, hlt1, p0, _, _⟩ := f 0 _ HT2.out
      subst hv
      rw [← HW.out]
      simp only [Nat.zero_mul, Nat.add_zero] at p0
      clear ho hb3 f
      clear hc1
      obtain ⟨C, hC⟩ : ∃ C : ByteArray, C = ⟨#[c]⟩ := ⟨_, rfl⟩
      have hc3 := one_convs3 c w3
      rw [← hC] at hc3
      have hCs : C.size = 1 := by rw [hC]; rfl
      have hx := cut_one C hCs
      have hCz : (1 : Int) ≤ (C.size : Int) := by omega
      rw [← hC] at p0
      have hpa : (w3.alloc (.cells #[.int .u8 (c.toNat : Int)] 5)).drew.cell? ⟨b1, o1, none⟩ = some (.string C) := (World.cell?_alloc_lt _ _ _ hlt1).trans p0
      clear hC hCs
      go_wp2
      go_region
      all_goals
        go_wp2
        go_ret
        exact ⟨rfl, (HB3.out.alloc HB3.out.size _).drew⟩

set_option maxRecDepth 100000 in
set_option maxHeartbeats 4000000 in
theorem runs_few (c : UInt8) (n0 : Int) (w : World) (k : Nat) (hk : pickN n0 900 = (k : Int)) (h4 : k < 4) :
    Calls Try.prog 9 #[.int .u8 (c.toNat : Int), .int .i64 n0] w fun e w' => e = .returned (.bool true) ∧ Below w.heap.size w w' := by
  have HK := Lib.hid hk
  obtain ⟨n, hn⟩ : ∃ n, n = k + 1 := ⟨_, rfl⟩
  have hn1 : (1 : Int) + (k : Int) = (n : Int) := by omega
  have hn2 : (n : Int) - 1 = (k : Int) := by omega
  have ht := rep_toks_few c n (by omega) (by omega)
  have HTL : Hid (toks (⟨(Lib.repeatL [c] n).toArray⟩ : ByteArray).data.toList = [⟨⟨(List.replicate n c).toArray⟩, 0, 0⟩]) := by
    have h : toks (⟨(Lib.repeatL [c] n).toArray⟩ : ByteArray).data.toList = [⟨⟨(List.replicate n c).toArray⟩, 0, 0⟩] := by rw [bs_data, repeat_one, ht]
    exact h
  have HZ1 : Hid ((⟨#[c]⟩ : ByteArray).size * n ≤ 140737488355328) := by
    have h : (⟨#[c]⟩ : ByteArray).size * n ≤ 140737488355328 := by show 1 * n ≤ _; omega
    exact h
  have HZ2 : Hid ((⟨(Lib.repeatL [c] n).toArray⟩ : ByteArray).size ≤ 400000) := by
    have h : (⟨(Lib.repeatL [c] n).toArray⟩ : ByteArray).size ≤ 400000 := by rw [bs_size, repeat_one, List.length_replicate]; omega
    exact h
  obtain ⟨S, hS⟩ : ∃ S : ByteArray, ⟨(List.replicate n c).toArray⟩ = S := ⟨_, rfl⟩
  rw [hS] at HTL
  have hr1 : (k : Int) % 67 = (k : Int) := by omega
  have hm1 : (k : Int) / 67 = 0 := by omega
  have hc1 := fun w => one_convs c w
  have d1 : decide (4 ≤ (k : Int)) = false := by simp; omega
  have hn5 : (n : Int) < 5 := by omega
  have hn9 : n ≤ 4 := by omega
  by_cases hk0 : k = 0
  · have d2 : decide (0 < k) = false := by simp; omega
    have d3 : decide (0 < (k : Int)) = false := by simp; omega
    have hSC : S = ⟨#[c]⟩ := by rw [← hS, hn, hk0]; rfl
    have HSC := Lib.hid hSC
    clear hk hn ht hS hk0 h4 hSC
    go_enter Try.func9, Try.ntmps9
    go_wp2_with fail
    refine (found_any _).mono ?_
    rintro e w1 ⟨rfl, hb1⟩
    have HB1 := Lib.hid hb1
    clear hb1
    go_wp2_with fail
    refine (pick_any n0 900 _ (by omega) (by omega)).mono ?_
    rintro e w' ⟨rfl, rfl⟩
    rw [HK.out]
    go_wp2_with fail
    refine (Try.strings_Repeat ⟨#[c]⟩ n _ (by omega) HZ1.out).mono ?_
    rintro e w2 ⟨rfl, hb2⟩
    have HB2 : Hid (Below w.heap.size w w2) := (HB1.out.alloc HB1.out.size _).trans (hb2.mono (by simp; have := HB1.out.size; omega))
    clear hb2
    go_wp2_with fail
    refine (tokens_any _ _ HZ2.out).mono ?_
    rintro e w3 ⟨v, rfl, ho, hb3⟩
    rw [HTL.out] at ho
    have HB3 : Hid (Below w.heap.size w w3) := HB2.out.trans (hb3.mono HB2.out.size)
    obtain ⟨a, cc, hv, f⟩ := ho.is.form
    obtain ⟨b1, o1, rfl, hlt1, p0, _, _⟩ := f 0 _ rfl
    subst hv
    rw [show ([⟨S, 0, 0⟩] : List Tok).length = 1 from rfl]
    simp only [Nat.zero_mul, Nat.add_zero] at p0
    clear ho hb3 f hc1
    obtain ⟨C, hC⟩ : ∃ C : ByteArray, C = ⟨#[c]⟩ := ⟨_, rfl⟩
    have hc3 := one_convs3 c w3
    rw [← hC] at hc3
    have hCs : C.size = 1 := by rw [hC]; rfl
    have hx := cut_one C hCs
    have hCz : (1 : Int) ≤ (C.size : Int) := by omega
    rw [HSC.out, ← hC] at p0
    clear hC hCs
    go_wp2
    go_region
    all_goals
      go_wp2
      go_ret
      exact ⟨rfl, (HB3.out.alloc HB3.out.size _).drew⟩
  · have d2 : decide (0 < k) = true := by simp; omega
    have d3 : decide (0 < (k : Int)) = true := by simp; omega
    clear hk hn ht hS hk0 h4
    go_enter Try.func9, Try.ntmps9
    go_wp2_with fail
    refine (found_any _).mono ?_
    rintro e w1 ⟨rfl, hb1⟩
    have HB1 := Lib.hid hb1
    clear hb1
    go_wp2_with fail
    refine (pick_any n0 900 _ (by omega) (by omega)).mono ?_
    rintro e w' ⟨rfl, rfl⟩
    rw [HK.out]
    go_wp2_with fail
    refine (Try.strings_Repeat ⟨#[c]⟩ n _ (by omega) HZ1.out).mono ?_
    rintro e w2 ⟨rfl, hb2⟩
    have HB2 : Hid (Below w.heap.size w w2) := (HB1.out.alloc HB1.out.size _).trans (hb2.mono (by simp; have := HB1.out.size; omega))
    clear hb2
    go_wp2_with fail
    refine (tokens_any _ _ HZ2.out).mono ?_
    rintro e w3 ⟨v, rfl, ho, hb3⟩
    rw [HTL.out] at ho
    have HB3 : Hid (Below w.heap.size w w3) := HB2.out.trans (hb3.mono HB2.out.size)
    obtain ⟨a, cc, hv, f⟩ := ho.is.form
    obtain ⟨b1, o1, rfl, hlt1, p0, _, _⟩ := f 0 _ rfl
    subst hv
    rw [show ([⟨S, 0, 0⟩] : List Tok).length = 1 from rfl]
    simp only [Nat.zero_mul, Nat.add_zero] at p0
    clear ho hb3 f hc1
    go_wp2
    go_quiet (fail)
    go_wp2
    go_ret
    exact ⟨rfl, below_drewN HB3.out _⟩

set_option maxRecDepth 100000 in
theorem matchRuns_walk (c : Int) (c0 : 0 ≤ c) (c1 : c ≤ 255) (n0 : Int) (_ : -9223372036854775808 ≤ n0) (_ : n0 ≤ 9223372036854775807) (w : World) :
    Calls Try.prog 9 #[.int .u8 c, .int .i64 n0] w fun e w' => e = .returned (.bool true) ∧ Below w.heap.size w w' := by
  obtain ⟨c, rfl⟩ := u8_of c c0 c1
  have hq := pickN_pos (a := n0) (show (0 : Int) < 900 by decide)
  obtain ⟨k, hk⟩ := Int.eq_ofNat_of_zero_le hq.1
  by_cases h4 : 4 ≤ k
  · exact runs_many c n0 w k hk h4 (by have := hq.2; omega)
  · exact runs_few c n0 w k hk (by omega)
end Go.Proofs.Ytoimmdkfgepdeaa
