/-
  The walk of 'packtrainkeep.ChunkAll'.
-/
import Derived.Test.YtggokgiebdadpaaChunkBackW
import Derived.Test.YtggokgiebdadpaaCrcSummed
import Derived.Test.YtggokgiebdadpaaPick
namespace Go.Proofs.Ytggokgiebdadpaa
open Go.RowKit

theorem ext_app (s : ByteArray) (a b : Nat) (h1 : a ≤ b) (_ : b ≤ s.size) : s.extract 0 a ++ s.extract a b = s.extract 0 b := by
  rw [ByteArray.extract_append_extract]
  congr 1 <;> omega
theorem ext_all (s : ByteArray) : s.extract 0 s.size = s := by
  apply bytes_ext
  rw [ByteArray.data_extract, Array.toList_extract]
  show s.data.toList.take (s.size - 0) = _
  apply List.take_of_length_le
  have h : s.data.toList.length = s.size := by simp
  omega

set_option maxRecDepth 100000 in
set_option maxHeartbeats 4000000 in
theorem chunkAll_walk (s : ByteArray) (hs : s.size ≤ maxLen) (b : Int) (_ : -9223372036854775808 ≤ b) (_ : b ≤ 9223372036854775807) (w : World) :
    Calls Try.prog 4 #[.string s, .int .i64 b] w fun e w' => e = .returned (.bool true) ∧ Below w.heap.size w w' := by
  unfold maxLen at hs
  by_cases h15 : 1500 < s.size
  · go_enter Try.func4, Try.ntmps4
    go_wp2_with fail
    refine (pieced_any w).mono ?_
    rintro r w1 ⟨rfl, hb⟩
    have HB1 := Lib.hid hb
    clear hb
    go_wp2_with fail
    refine (summed_any w1).mono ?_
    rintro r w' ⟨rfl, rfl⟩
    go_wp2
    go_ret
    exact ⟨rfl, HB1.out⟩
  · have h15' : (s.size : Int) ≤ 1500 := by omega
    by_cases h0 : s.size = 0
    · have hse : s = ⟨#[]⟩ := by
        apply bytes_ext
        have h : s.data.toList.length = 0 := by simp [h0]
        rw [List.length_eq_zero_iff.1 h]
      subst hse
      go_enter Try.func4, Try.ntmps4
      go_wp2_with fail
      refine (pieced_any w).mono ?_
      rintro r w1 ⟨rfl, hb⟩
      have HB1 := Lib.hid hb
      clear hb
      go_wp2_with fail
      refine (summed_any w1).mono ?_
      rintro r w' ⟨rfl, rfl⟩
      go_wp2
      go_ret
      exact ⟨rfl, HB1.out⟩
    · have hse : s.toList.isEmpty = false := by
        rw [toL]
        cases hq : s.data.toList with
        | nil => have h1 : s.data.toList.length = s.size := by simp
                 rw [hq] at h1; simp only [List.length_nil] at h1; omega
        | cons a b => rfl
      have hse2 : (s.toList == []) = false := by
        rw [toL] at hse ⊢
        cases hq : s.data.toList with
        | nil => rw [hq] at hse; simp at hse
        | cons a b => rfl
      have h2 := pickN_pos (a := b) (show (0 : Int) < 256 by decide)
      obtain ⟨q, hq⟩ := Int.eq_ofNat_of_zero_le h2.1
      obtain ⟨z, hz⟩ : ∃ z, q + 1 = z := ⟨_, rfl⟩
      have kz : IntKind.i64.wrap (1 + (q : Int)) = (z : Int) := by rw [IntWalk.i64_in _ (by omega)]; omega
      have kz2 : 1 + (q : Int) = (z : Int) := by omega
      have HQ := Lib.hid hq
      have hz1 : 1 ≤ z := by omega
      have hz2 : z ≤ 256 := by omega
      have HC := Lib.hid (fun w' => cut_ok s z w' (by omega) (by omega) (by omega) (by omega))
      obtain ⟨K, hK⟩ : ∃ K, sum s.data.toList = K := ⟨_, rfl⟩
      have HK := Lib.hid hK
      have HSM : Hid (∀ w', Calls Try.prog 14 #[.string s] w' fun e w2 => e = .returned (.int .u32 (K : Nat)) ∧ w' = w2) := Lib.hid (fun w' => by
        have h := sum_any s w' (by unfold maxLen; omega)
        rw [hK] at h
        exact h)
      obtain ⟨N, hN⟩ : ∃ N, cutN s.size z = N := ⟨_, rfl⟩
      rw [hN] at HC
      have HN := Lib.hid hN
      have hNl : N ≤ 1500 := by have := cutN_le s.size z (by omega); omega
      have hN0 : 0 < N := by rw [← hN]; exact (cutN_lt (k := 0) (by omega)).1 (by omega)
      clear hK hq hz h2 hN h15 hs
      go_enter Try.func4, Try.ntmps4
      go_wp2_with fail
      refine (pieced_any w).mono ?_
      rintro r w1 ⟨rfl, hb⟩
      have HB1 := Lib.hid hb
      clear hb
      go_wp2_with fail
      refine (summed_any w1).mono ?_
      rintro r w' ⟨rfl, rfl⟩
      go_wp2_with fail
      refine (pick_any b 256 w1 (by decide) (by decide)).mono ?_
      rintro r w' ⟨rfl, rfl⟩
      rw [HQ.out]
      go_wp2_with fail
      refine (HC.out w1).mono ?_
      rintro r w3 ⟨v, rfl, ho, hb⟩
      have HB3 : Hid (Below w.heap.size w w3) := HB1.out.trans (hb.mono HB1.out.size)
      obtain ⟨g, cap, rfl, hg, hcs⟩ := ho.cells (by rw [cutK_len]; exact hN0)
      rw [cutK_len]
      have HG := Lib.hid hg
      have HCS := Lib.hid hcs
      clear hb ho hg hcs
      go_wp2_with fail
      go_loopw [7, 34] (fun v i wr => ∃ (k : Nat) (L : ByteArray), k ≤ N ∧ i = .int .i64 k ∧ v = .string L ∧ L = s.extract 0 (min (k * z) s.size) ∧ Below w3.heap.size w3 wr) (fun _ i _ => N - (intOf i).toNat)
      case atStart => exact ⟨0, ⟨#[]⟩, Nat.zero_le _, rfl, rfl, by rw [Nat.zero_mul, Nat.min_eq_left (Nat.zero_le _)]; apply bytes_ext; rw [ByteArray.data_extract, Array.toList_extract]; rfl, Below.refl _ _⟩
      case round =>
        obtain ⟨k, L, hk, rfl, rfl, hL, hbel⟩ := hrel
        have HBEL := Lib.hid hbel
        have HL := Lib.hid hL
        clear hbel hL
        by_cases hlt : k < N
        · have hA : k * z < s.size := (cutN_lt (by omega)).2 (by rw [HN.out]; exact hlt)
          have hpz := piece_size s z k hA
          have hpr := piece_right s z k hA (by omega) hz1 hz2
          have hat := HCS.out k _ (cutK_at s z N k hlt)
          unfold piece at hpz hpr hat
          simp only at hpz hpr hat
          rw [HK.out] at hat
          obtain ⟨D, hD⟩ : ∃ D, s.extract (k * z) (min (k * z + z) s.size) = D := ⟨_, rfl⟩
          rw [hD] at hpz hpr hat
          have hLn : L ++ D = s.extract 0 (min ((k + 1) * z) s.size) := by
            rw [HL.out, ← hD, Nat.min_eq_left (by omega), ext_app s _ _ (by omega) (by omega), Nat.succ_mul]
          have hLz : L.size = k * z := by rw [HL.out, ByteArray.size_extract]; omega
          have hnext : k + 1 < N ↔ (k + 1) * z < s.size := by rw [← HN.out]; exact (cutN_lt (by omega)).symm
          rw [Nat.succ_mul] at hnext
          obtain ⟨A, hA2⟩ : ∃ A, k * z = A := ⟨_, rfl⟩
          rw [hA2] at hA hpz hpr hat hLz hnext
          have HRT := Lib.hid (fun w' => cright_l K (s.size : Int) (A : Int) D 0 w' ⟨by show K < 4294967296; rw [← HK.out]; exact sum_lt _, by show -9223372036854775808 ≤ (s.size : Int); omega, by show (s.size : Int) ≤ 9223372036854775807; omega, by show -9223372036854775808 ≤ (A : Int); omega, by show (A : Int) ≤ 9223372036854775807; omega, by show D.size ≤ 140737488351232; omega⟩ hpr)
          obtain ⟨k0, k1, k2, k3⟩ := hat
          rw [← HBEL.out.cell (p := ⟨g, k * 4, none⟩) HG.out] at k0
          rw [← HBEL.out.cell (p := ⟨g, k * 4 + 1, none⟩) HG.out] at k1
          rw [← HBEL.out.cell (p := ⟨g, k * 4 + 2, none⟩) HG.out] at k2
          rw [← HBEL.out.cell (p := ⟨g, k * 4 + 3, none⟩) HG.out] at k3
          have HCC : Hid (chkAt (wr.alloc (.cells #[.int .u32 K, .int .i64 s.size, .int .i64 A, .string D] 24)) wr.heap.size ⟨K, s.size, A, D⟩) := Lib.hid (chkAt_new wr ⟨K, s.size, A, D⟩)
          have HCZ : Hid (wr.heap.size < (wr.alloc (.cells #[.int .u32 K, .int .i64 s.size, .int .i64 A, .string D] 24)).heap.size) := Lib.hid (by simp)
          have HCB : Hid (Below w3.heap.size w3 (wr.alloc (.cells #[.int .u32 K, .int .i64 s.size, .int .i64 A, .string D] 24))) := Lib.hid (HBEL.out.alloc HBEL.out.size _)
          have f1 : ((A : Int) != (L.size : Int)) = false := by simp [hLz]
          have f3 : (D.size : Int) ≤ (z : Int) := by omega
          have f4 : ¬ (9223372036854775807 < L.size + D.size) := by omega
          have f5 : IntKind.i64.wrap ((k : Int) + 1) = (k : Int) + 1 := IntWalk.i64_in _ (by omega)
          have hf2 : ((k : Int) + 1 < (N : Int) ∧ ((D.size : Int) != (z : Int)) = false) ∨ (N : Int) ≤ (k : Int) + 1 := by
            by_cases h : k + 1 < N
            · have := hnext.1 h
              exact .inl ⟨by omega, by simp; omega⟩
            · exact .inr (by omega)
          have HLN := Lib.hid hLn
          clear hLz hpz hpr hnext hA hA2 hD hLn
          go_wp2_with fail
          generalize wr.alloc (.cells #[.int .u32 (K : Int), .int .i64 (s.size : Int), .int .i64 (A : Int), .string D] 24) = W4 at HCC HCZ HCB ⊢
          generalize wr.heap.size = C at HCC HCZ ⊢
          clear k0 k1 k2 k3 HBEL
          have hA0 := HCC.out
          unfold chkAt at hA0
          simp only at hA0
          rw [errV_zero] at HRT
          rcases hf2 with ⟨f6, f7⟩ | f6
          · have f8 : decide ((k : Int) + 1 < (N : Int)) = true := decide_eq_true f6
            have f9 : k + 1 < N := by omega
            go_region_held3 (fun w' => w'.cell? ⟨C, 0, none⟩ = some (.int .u32 (K : Int)) ∧ w'.cell? ⟨C, 1, none⟩ = some (.int .i64 (s.size : Int)) ∧ w'.cell? ⟨C, 2, none⟩ = some (.int .i64 (A : Int)) ∧ w'.cell? ⟨C, 3, none⟩ = some (.string D)) (first | exact hA0 | exact j1 | fail) (first
              | (go_at_call 9; ((with_reducible refine (HRT.out W4.drew).mono ?_); rintro r w5 ⟨rfl, hb5⟩; have HB5 : Hid (Below W4.heap.size W4 w5) := Lib.hid (undrewC hb5); have j1 := HCC.out.below HB5.out HCZ.out; unfold chkAt at j1; simp only at j1; clear hb5))
              | (go_at_call 14; ((with_reducible refine (HSM.out _).mono ?_); rintro r w6 ⟨rfl, rfl⟩))
              | fail)
            obtain ⟨j0, j2, j4, j3⟩ := HCC.out.below HB5.out HCZ.out
            simp only at j0 j2 j4 j3
            go_wp2
            go_roundw
            case rel => exact ⟨k + 1, L ++ D, by omega, by go_num, rfl, HLN.out, HCB.out.trans (HB5.out.mono HCB.out.size)⟩
            case measure => simp [intOf]; omega
          · have f8 : decide ((k : Int) + 1 < (N : Int)) = false := decide_eq_false (by omega)
            have f9 : N ≤ k + 1 := by omega
            refine wp_region_held_drew (S := (fun w' => w'.cell? ⟨C, 0, none⟩ = some (.int .u32 (K : Int)) ∧ w'.cell? ⟨C, 1, none⟩ = some (.int .i64 (s.size : Int)) ∧ w'.cell? ⟨C, 2, none⟩ = some (.int .i64 (A : Int)) ∧ w'.cell? ⟨C, 3, none⟩ = some (.string D))) (by kernel_rfl) hA0 (fun hHeld => ?_)
            refine wpAnyH_take (i := 0) (v := ?v0) rfl (by kernel_rfl) (by kernel_rfl) (by kernel_rfl) (fun _ _ _ h => h) (Or.inl ⟨by rfl, ?h0⟩) (by assumption) ?r0
            case h0 => (intro W hSw; (try dsimp only at hSw); go_simp; all_goals (with_reducible rfl))
            try simp only [Act.put, List.getElem_toArray, List.getElem_cons_zero, List.setIfInBounds_toArray, List.set_cons_zero, List.set_cons_succ]
            refine wpAnyH_take (i := 1) (v := ?v1) rfl (by kernel_rfl) (by kernel_rfl) (by kernel_rfl) (fun _ _ _ h => h) (Or.inl ⟨by rfl, ?h1⟩) (by assumption) ?r1
            case h1 => (intro W hSw; (try dsimp only at hSw); go_simp; all_goals (with_reducible rfl))
            try simp only [Act.put, List.getElem_toArray, List.getElem_cons_zero, List.getElem_cons_succ, List.setIfInBounds_toArray, List.set_cons_zero, List.set_cons_succ]
            refine wpAnyH_take (i := 2) (v := ?v2) rfl (by kernel_rfl) (by kernel_rfl) (by kernel_rfl) (fun _ _ _ h => h) (Or.inl ⟨by rfl, ?h2⟩) (by assumption) ?r2
            case h2 => (intro W hSw; (try dsimp only at hSw); go_simp; all_goals (with_reducible rfl))
            try simp only [Act.put, List.getElem_toArray, List.getElem_cons_zero, List.getElem_cons_succ, List.setIfInBounds_toArray, List.set_cons_zero, List.set_cons_succ]
            refine wpAnyH_take (i := 3) (v := ?v3) rfl (by kernel_rfl) (by kernel_rfl) (by kernel_rfl) (fun _ _ _ h => h) (Or.inl ⟨by rfl, ?h3⟩) (by assumption) ?r3
            case h3 => (intro W hSw; (try dsimp only at hSw); go_simp; all_goals (with_reducible rfl))
            try simp only [Act.put, List.getElem_toArray, List.getElem_cons_zero, List.getElem_cons_succ, List.setIfInBounds_toArray, List.set_cons_zero, List.set_cons_succ]
            refine wpAnyH_take (i := 4) (v := ?v4) rfl (by kernel_rfl) (by kernel_rfl) (by kernel_rfl) (fun _ _ _ h => h) (Or.inl ⟨by rfl, ?h4⟩) (by assumption) ?r4
            case h4 => (intro W hSw; (try dsimp only at hSw); go_simp; all_goals (with_reducible rfl))
            try simp only [Act.put, List.getElem_toArray, List.getElem_cons_zero, List.getElem_cons_succ, List.setIfInBounds_toArray, List.set_cons_zero, List.set_cons_succ]
            refine wpAnyH_take (i := 5) (v := ?v5) rfl (by kernel_rfl) (by kernel_rfl) (by kernel_rfl) (fun _ _ _ h => h) (Or.inl ⟨by rfl, ?h5⟩) (by assumption) ?r5
            case h5 => (intro W hSw; (try dsimp only at hSw); go_simp; all_goals (with_reducible rfl))
            try simp only [Act.put, List.getElem_toArray, List.getElem_cons_zero, List.getElem_cons_succ, List.setIfInBounds_toArray, List.set_cons_zero, List.set_cons_succ]
            refine wpAnyH_take (i := 6) (v := ?v6) rfl (by kernel_rfl) (by kernel_rfl) (by kernel_rfl) (fun _ _ _ h => h) (Or.inl ⟨by rfl, ?h6⟩) (by assumption) ?r6
            case h6 => (intro W hSw; (try dsimp only at hSw); go_simp; all_goals (with_reducible rfl))
            try simp only [Act.put, List.getElem_toArray, List.getElem_cons_zero, List.getElem_cons_succ, List.setIfInBounds_toArray, List.set_cons_zero, List.set_cons_succ]
            refine wpAnyH_ready (rs := [7]) (by kernel_rfl) (by simp) ?_
            refine AllReadyH.cons rfl (fun K hK => ?_) AllReadyH.nil
            go_simp
            refine (HRT.out W4.drew).mono ?_
            rintro r w5 ⟨rfl, hb5⟩
            have HB5 : Hid (Below W4.heap.size W4 w5) := Lib.hid (undrewC hb5)
            have j1 := HCC.out.below HB5.out HCZ.out
            unfold chkAt at j1
            simp only at j1
            clear hb5
            refine hK.out _ _ j1 (fun hHeld7 => ?_)
            clear hK hHeld
            try simp only [Act.put, List.getElem_toArray, List.getElem_cons_zero, List.getElem_cons_succ, List.setIfInBounds_toArray, List.set_cons_zero, List.set_cons_succ]
            refine wpAnyH_take (i := 8) (v := ?v8) rfl (by kernel_rfl) (by kernel_rfl) (by kernel_rfl) (fun _ _ _ h => h) (Or.inl ⟨by rfl, ?h8⟩) (by assumption) ?r8
            case h8 => (intro W hSw; (try dsimp only at hSw); go_simp; all_goals (with_reducible rfl))
            try simp only [Act.put, List.getElem_toArray, List.getElem_cons_zero, List.getElem_cons_succ, List.setIfInBounds_toArray, List.set_cons_zero, List.set_cons_succ]
            refine wpAnyH_take (i := 9) (v := ?v9) rfl (by kernel_rfl) (by kernel_rfl) (by kernel_rfl) (fun _ _ _ h => h) (Or.inl ⟨by rfl, ?h9⟩) (by assumption) ?r9
            case h9 => (intro W hSw; (try dsimp only at hSw); go_simp; all_goals (with_reducible rfl))
            try simp only [Act.put, List.getElem_toArray, List.getElem_cons_zero, List.getElem_cons_succ, List.setIfInBounds_toArray, List.set_cons_zero, List.set_cons_succ]
            refine wpAnyH_take (i := 10) (v := ?v10) rfl (by kernel_rfl) (by kernel_rfl) (by kernel_rfl) (fun _ _ _ h => h) (Or.inl ⟨by rfl, ?h10⟩) (by assumption) ?r10
            case h10 => (intro W hSw; (try dsimp only at hSw); go_simp; all_goals (with_reducible rfl))
            try simp only [Act.put, List.getElem_toArray, List.getElem_cons_zero, List.getElem_cons_succ, List.setIfInBounds_toArray, List.set_cons_zero, List.set_cons_succ]
            refine wpAnyH_take (i := 11) (v := ?v11) rfl (by kernel_rfl) (by kernel_rfl) (by kernel_rfl) (fun _ _ _ h => h) (Or.inl ⟨by rfl, ?h11⟩) (by assumption) ?r11
            case h11 => (intro W hSw; (try dsimp only at hSw); go_simp; all_goals (with_reducible rfl))
            try simp only [Act.put, List.getElem_toArray, List.getElem_cons_zero, List.getElem_cons_succ, List.setIfInBounds_toArray, List.set_cons_zero, List.set_cons_succ]
            refine wpAnyH_take (i := 12) (v := ?v12) rfl (by kernel_rfl) (by kernel_rfl) (by kernel_rfl) (fun _ _ _ h => h) (Or.inl ⟨by rfl, ?h12⟩) (by assumption) ?r12
            case h12 => (intro W hSw; (try dsimp only at hSw); go_simp; all_goals (with_reducible rfl))
            try simp only [Act.put, List.getElem_toArray, List.getElem_cons_zero, List.getElem_cons_succ, List.setIfInBounds_toArray, List.set_cons_zero, List.set_cons_succ]
            refine wpAnyH_take (i := 13) (v := ?v13) rfl (by kernel_rfl) (by kernel_rfl) (by kernel_rfl) (fun _ _ _ h => h) (Or.inl ⟨by rfl, ?h13⟩) (by assumption) ?r13
            case h13 => (intro W hSw; (try dsimp only at hSw); go_simp; all_goals (with_reducible rfl))
            try simp only [Act.put, List.getElem_toArray, List.getElem_cons_zero, List.getElem_cons_succ, List.setIfInBounds_toArray, List.set_cons_zero, List.set_cons_succ]
            refine wpAnyH_ready (rs := [14]) (by kernel_rfl) (by simp) ?_
            refine AllReadyH.cons rfl (fun K hK => ?_) AllReadyH.nil
            go_simp
            refine (HSM.out w5).mono ?_
            rintro r w6 ⟨rfl, rfl⟩
            refine hK.out _ _ j1 (fun hHeld14 => ?_)
            clear hK hHeld7
            try simp only [Act.put, List.getElem_toArray, List.getElem_cons_zero, List.getElem_cons_succ, List.setIfInBounds_toArray, List.set_cons_zero, List.set_cons_succ]
            refine wpAnyH_take (i := 15) (v := ?v15) rfl (by kernel_rfl) (by kernel_rfl) (by kernel_rfl) (fun _ _ _ h => h) (Or.inl ⟨by rfl, ?h15⟩) (by assumption) ?r15
            case h15 => (intro W hSw; (try dsimp only at hSw); go_simp; all_goals (with_reducible rfl))
            try simp only [Act.put, List.getElem_toArray, List.getElem_cons_zero, List.getElem_cons_succ, List.setIfInBounds_toArray, List.set_cons_zero, List.set_cons_succ]
            refine wpAnyH_take (i := 16) (v := ?v16) rfl (by kernel_rfl) (by kernel_rfl) (by kernel_rfl) (fun _ _ _ h => h) (Or.inl ⟨by rfl, ?h16⟩) (by assumption) ?r16
            case h16 => (intro W hSw; (try dsimp only at hSw); go_simp; all_goals (with_reducible rfl))
            try simp only [Act.put, List.getElem_toArray, List.getElem_cons_zero, List.getElem_cons_succ, List.setIfInBounds_toArray, List.set_cons_zero, List.set_cons_succ]
            refine wpAnyH_take (i := 17) (v := ?v17) rfl (by kernel_rfl) (by kernel_rfl) (by kernel_rfl) (fun _ _ _ h => h) (Or.inl ⟨by rfl, ?h17⟩) (by assumption) ?r17
            case h17 => (intro W hSw; (try dsimp only at hSw); go_simp; all_goals (with_reducible rfl))
            try simp only [Act.put, List.getElem_toArray, List.getElem_cons_zero, List.getElem_cons_succ, List.setIfInBounds_toArray, List.set_cons_zero, List.set_cons_succ]
            refine wpAnyH_take (i := 18) (v := ?v18) rfl (by kernel_rfl) (by kernel_rfl) (by kernel_rfl) (fun _ _ _ h => h) (Or.inl ⟨by rfl, ?h18⟩) (by assumption) ?r18
            case h18 => (intro W hSw; (try dsimp only at hSw); go_simp; all_goals (with_reducible rfl))
            try simp only [Act.put, List.getElem_toArray, List.getElem_cons_zero, List.getElem_cons_succ, List.setIfInBounds_toArray, List.set_cons_zero, List.set_cons_succ]
            refine wpAnyH_take (i := 19) (v := ?v19) rfl (by kernel_rfl) (by kernel_rfl) (by kernel_rfl) (fun _ _ _ h => h) (Or.inl ⟨by rfl, ?h19⟩) (by assumption) ?r19
            case h19 => (intro W hSw; (try dsimp only at hSw); go_simp; all_goals (with_reducible rfl))
            try simp only [Act.put, List.getElem_toArray, List.getElem_cons_zero, List.getElem_cons_succ, List.setIfInBounds_toArray, List.set_cons_zero, List.set_cons_succ]
            refine wpAnyH_take (i := 20) (v := ?v20) rfl (by kernel_rfl) (by kernel_rfl) (by kernel_rfl) (fun _ _ _ h => h) (Or.inl ⟨by rfl, ?h20⟩) (by assumption) ?r20
            case h20 => (intro W hSw; (try dsimp only at hSw); go_simp; all_goals (with_reducible rfl))
            try simp only [Act.put, List.getElem_toArray, List.getElem_cons_zero, List.getElem_cons_succ, List.setIfInBounds_toArray, List.set_cons_zero, List.set_cons_succ]
            refine wpAnyH_take (i := 21) (v := ?v21) rfl (by kernel_rfl) (by kernel_rfl) (by kernel_rfl) (fun _ _ _ h => h) (Or.inl ⟨by rfl, ?h21⟩) (by assumption) ?r21
            case h21 => (intro W hSw; (try dsimp only at hSw); go_simp; all_goals (with_reducible rfl))
            try simp only [Act.put, List.getElem_toArray, List.getElem_cons_zero, List.getElem_cons_succ, List.setIfInBounds_toArray, List.set_cons_zero, List.set_cons_succ]
            refine wpAnyH_take (i := 22) (v := ?v22) rfl (by kernel_rfl) (by kernel_rfl) (by kernel_rfl) (fun _ _ _ h => h) (Or.inl ⟨by rfl, ?h22⟩) (by assumption) ?r22
            case h22 => (intro W hSw; (try dsimp only at hSw); go_simp; all_goals (with_reducible rfl))
            try simp only [Act.put, List.getElem_toArray, List.getElem_cons_zero, List.getElem_cons_succ, List.setIfInBounds_toArray, List.set_cons_zero, List.set_cons_succ]
            refine wpAnyH_take (i := 23) (v := ?v23) rfl (by kernel_rfl) (by kernel_rfl) (by kernel_rfl) (fun _ _ _ h => h) (Or.inl ⟨by rfl, ?h23⟩) (by assumption) ?r23
            case h23 => (intro W hSw; (try dsimp only at hSw); go_simp; all_goals (with_reducible rfl))
            try simp only [Act.put, List.getElem_toArray, List.getElem_cons_zero, List.getElem_cons_succ, List.setIfInBounds_toArray, List.set_cons_zero, List.set_cons_succ]
            refine wpAnyH_take (i := 24) (v := ?v24) rfl (by kernel_rfl) (by kernel_rfl) (by kernel_rfl) (fun _ _ _ h => h) (Or.inl ⟨by rfl, ?h24⟩) (by assumption) ?r24
            case h24 => (intro W hSw; (try dsimp only at hSw); go_simp; all_goals (with_reducible rfl))
            try simp only [Act.put, List.getElem_toArray, List.getElem_cons_zero, List.getElem_cons_succ, List.setIfInBounds_toArray, List.set_cons_zero, List.set_cons_succ]
            refine wpAnyH_take (i := 25) (v := ?v25) rfl (by kernel_rfl) (by kernel_rfl) (by kernel_rfl) (fun _ _ _ h => h) (Or.inl ⟨by rfl, ?h25⟩) (by assumption) ?r25
            case h25 => (intro W hSw; (try dsimp only at hSw); go_simp; all_goals (with_reducible rfl))
            try simp only [Act.put, List.getElem_toArray, List.getElem_cons_zero, List.getElem_cons_succ, List.setIfInBounds_toArray, List.set_cons_zero, List.set_cons_succ]
            refine wpAnyH_take (i := 26) (v := ?v26) rfl (by kernel_rfl) (by kernel_rfl) (by kernel_rfl) (fun _ _ _ h => h) (Or.inl ⟨by rfl, ?h26⟩) (by assumption) ?r26
            case h26 => (intro W hSw; (try dsimp only at hSw); go_simp; all_goals (with_reducible rfl))
            try simp only [Act.put, List.getElem_toArray, List.getElem_cons_zero, List.getElem_cons_succ, List.setIfInBounds_toArray, List.set_cons_zero, List.set_cons_succ]
            refine wpAnyH_take (i := 27) (v := ?v27) rfl (by kernel_rfl) (by kernel_rfl) (by kernel_rfl) (fun _ _ _ h => h) (Or.inl ⟨by rfl, ?h27⟩) (by assumption) ?r27
            case h27 => (intro W hSw; (try dsimp only at hSw); go_simp; all_goals (with_reducible rfl))
            try simp only [Act.put, List.getElem_toArray, List.getElem_cons_zero, List.getElem_cons_succ, List.setIfInBounds_toArray, List.set_cons_zero, List.set_cons_succ]
            refine wpAnyH_take (i := 28) (v := ?v28) rfl (by kernel_rfl) (by kernel_rfl) (by kernel_rfl) (fun _ _ _ h => h) (Or.inl ⟨by rfl, ?h28⟩) (by assumption) ?r28
            case h28 => (intro W hSw; (try dsimp only at hSw); go_simp; all_goals (with_reducible rfl))
            try simp only [Act.put, List.getElem_toArray, List.getElem_cons_zero, List.getElem_cons_succ, List.setIfInBounds_toArray, List.set_cons_zero, List.set_cons_succ]
            refine wpAnyH_take (i := 29) (v := ?v29) rfl (by kernel_rfl) (by kernel_rfl) (by kernel_rfl) (fun _ _ _ h => h) (Or.inl ⟨by rfl, ?h29⟩) (by assumption) ?r29
            case h29 => (intro W hSw; (try dsimp only at hSw); go_simp; all_goals (with_reducible rfl))
            try simp only [Act.put, List.getElem_toArray, List.getElem_cons_zero, List.getElem_cons_succ, List.setIfInBounds_toArray, List.set_cons_zero, List.set_cons_succ]
            refine wpAnyH_take (i := 30) (v := ?v30) rfl (by kernel_rfl) (by kernel_rfl) (by kernel_rfl) (fun _ _ _ h => h) (Or.inl ⟨by rfl, ?h30⟩) (by assumption) ?r30
            case h30 => (intro W hSw; (try dsimp only at hSw); go_simp; all_goals (with_reducible rfl))
            try simp only [Act.put, List.getElem_toArray, List.getElem_cons_zero, List.getElem_cons_succ, List.setIfInBounds_toArray, List.set_cons_zero, List.set_cons_succ]
            refine wpAnyH_take (i := 31) (v := undef) rfl (by kernel_rfl) (by kernel_rfl) (by kernel_rfl) (fun _ _ _ h => h) (Or.inr ⟨by rfl, rfl⟩) (by assumption) ?_
            try simp only [Act.put, List.getElem_toArray, List.getElem_cons_zero, List.getElem_cons_succ, List.setIfInBounds_toArray, List.set_cons_zero, List.set_cons_succ]
            refine wpAnyH_take (i := 32) (v := undef) rfl (by kernel_rfl) (by kernel_rfl) (by kernel_rfl) (fun _ _ _ h => h) (Or.inr ⟨by rfl, rfl⟩) (by assumption) ?_
            try simp only [Act.put, List.getElem_toArray, List.getElem_cons_zero, List.getElem_cons_succ, List.setIfInBounds_toArray, List.set_cons_zero, List.set_cons_succ]
            refine wpAnyH_take (i := 33) (v := undef) rfl (by kernel_rfl) (by kernel_rfl) (by kernel_rfl) (fun _ _ _ h => h) (Or.inr ⟨by rfl, rfl⟩) (by assumption) ?_
            try simp only [Act.put, List.getElem_toArray, List.getElem_cons_zero, List.getElem_cons_succ, List.setIfInBounds_toArray, List.set_cons_zero, List.set_cons_succ]
            refine wpAnyH_take (i := 34) (v := undef) rfl (by kernel_rfl) (by kernel_rfl) (by kernel_rfl) (fun _ _ _ h => h) (Or.inr ⟨by rfl, rfl⟩) (by assumption) ?_
            try simp only [Act.put, List.getElem_toArray, List.getElem_cons_zero, List.getElem_cons_succ, List.setIfInBounds_toArray, List.set_cons_zero, List.set_cons_succ]
            refine wpAnyH_take (i := 35) (v := undef) rfl (by kernel_rfl) (by kernel_rfl) (by kernel_rfl) (fun _ _ _ h => h) (Or.inr ⟨by rfl, rfl⟩) (by assumption) ?_
            try simp only [Act.put, List.getElem_toArray, List.getElem_cons_zero, List.getElem_cons_succ, List.setIfInBounds_toArray, List.set_cons_zero, List.set_cons_succ]
            refine wpAnyH_take (i := 36) (v := ?v36) rfl (by kernel_rfl) (by kernel_rfl) (by kernel_rfl) (fun _ _ _ h => h) (Or.inl ⟨by rfl, ?h36⟩) (by assumption) ?r36
            case h36 => (intro W hSw; (try dsimp only at hSw); go_simp; all_goals (with_reducible rfl))
            try simp only [Act.put, List.getElem_toArray, List.getElem_cons_zero, List.getElem_cons_succ, List.setIfInBounds_toArray, List.set_cons_zero, List.set_cons_succ]
            refine wpAnyH_take (i := 37) (v := ?v37) rfl (by kernel_rfl) (by kernel_rfl) (by kernel_rfl) (fun _ _ _ h => h) (Or.inl ⟨by rfl, ?h37⟩) (by assumption) ?r37
            case h37 => (intro W hSw; (try dsimp only at hSw); go_simp; all_goals (with_reducible rfl))
            try simp only [Act.put, List.getElem_toArray, List.getElem_cons_zero, List.getElem_cons_succ, List.setIfInBounds_toArray, List.set_cons_zero, List.set_cons_succ]
            refine wpAnyH_take (i := 38) (v := ?v38) rfl (by kernel_rfl) (by kernel_rfl) (by kernel_rfl) (fun _ _ _ h => h) (Or.inl ⟨by rfl, ?h38⟩) (by assumption) ?r38
            case h38 => (intro W hSw; (try dsimp only at hSw); go_simp; all_goals (with_reducible rfl))
            try simp only [Act.put, List.getElem_toArray, List.getElem_cons_zero, List.getElem_cons_succ, List.setIfInBounds_toArray, List.set_cons_zero, List.set_cons_succ]
            refine wpAnyH_take (i := 39) (v := ?v39) rfl (by kernel_rfl) (by kernel_rfl) (by kernel_rfl) (fun _ _ _ h => h) (Or.inl ⟨by rfl, ?h39⟩) (by assumption) ?r39
            case h39 => (intro W hSw; (try dsimp only at hSw); go_simp; all_goals (with_reducible rfl))
            try simp only [Act.put, List.getElem_toArray, List.getElem_cons_zero, List.getElem_cons_succ, List.setIfInBounds_toArray, List.set_cons_zero, List.set_cons_succ]
            refine wpAnyH_take (i := 40) (v := ?v40) rfl (by kernel_rfl) (by kernel_rfl) (by kernel_rfl) (fun _ _ _ h => h) (Or.inl ⟨by rfl, ?h40⟩) (by assumption) ?r40
            case h40 => (intro W hSw; (try dsimp only at hSw); go_simp; all_goals (with_reducible rfl))
            try simp only [Act.put, List.getElem_toArray, List.getElem_cons_zero, List.getElem_cons_succ, List.setIfInBounds_toArray, List.set_cons_zero, List.set_cons_succ]
            refine wpAnyH_take (i := 41) (v := ?v41) rfl (by kernel_rfl) (by kernel_rfl) (by kernel_rfl) (fun _ _ _ h => h) (Or.inl ⟨by rfl, ?h41⟩) (by assumption) ?r41
            case h41 => (intro W hSw; (try dsimp only at hSw); go_simp; all_goals (with_reducible rfl))
            try simp only [Act.put, List.getElem_toArray, List.getElem_cons_zero, List.getElem_cons_succ, List.setIfInBounds_toArray, List.set_cons_zero, List.set_cons_succ]
            refine wpAnyH_take (i := 42) (v := ?v42) rfl (by kernel_rfl) (by kernel_rfl) (by kernel_rfl) (fun _ _ _ h => h) (Or.inl ⟨by rfl, ?h42⟩) (by assumption) ?r42
            case h42 => (intro W hSw; (try dsimp only at hSw); go_simp; all_goals (with_reducible rfl))
            try simp only [Act.put, List.getElem_toArray, List.getElem_cons_zero, List.getElem_cons_succ, List.setIfInBounds_toArray, List.set_cons_zero, List.set_cons_succ]
            refine wpAnyH_take (i := 43) (v := ?v43) rfl (by kernel_rfl) (by kernel_rfl) (by kernel_rfl) (fun _ _ _ h => h) (Or.inl ⟨by rfl, ?h43⟩) (by assumption) ?r43
            case h43 => (intro W hSw; (try dsimp only at hSw); go_simp; all_goals (with_reducible rfl))
            try simp only [Act.put, List.getElem_toArray, List.getElem_cons_zero, List.getElem_cons_succ, List.setIfInBounds_toArray, List.set_cons_zero, List.set_cons_succ]
            refine wpAnyH_take (i := 44) (v := ?v44) rfl (by kernel_rfl) (by kernel_rfl) (by kernel_rfl) (fun _ _ _ h => h) (Or.inl ⟨by rfl, ?h44⟩) (by assumption) ?r44
            case h44 => (intro W hSw; (try dsimp only at hSw); go_simp; all_goals (with_reducible rfl))
            try simp only [Act.put, List.getElem_toArray, List.getElem_cons_zero, List.getElem_cons_succ, List.setIfInBounds_toArray, List.set_cons_zero, List.set_cons_succ]
            refine wpAnyH_done (by kernel_rfl) ?_ _
            obtain ⟨j0, j2, j4, j3⟩ := HCC.out.below HB5.out HCZ.out
            simp only at j0 j2 j4 j3
            go_wp2
            go_roundw
            case rel => exact ⟨k + 1, L ++ D, by omega, by go_num, rfl, HLN.out, HCB.out.trans (HB5.out.mono HCB.out.size)⟩
            case measure => simp [intOf]; omega
        · obtain rfl : k = N := by omega
          have hsl : L = s := by
            have h : ¬ k * z < s.size := fun h => by have := (cutN_lt (n := s.size) (k := k) (by omega)).1 h; rw [HN.out] at this; omega
            rw [HL.out, Nat.min_eq_right (by omega), ext_all]
          subst hsl
          go_wp2
          go_ret
          exact ⟨rfl, HB3.out.trans (HBEL.out.mono HB3.out.size)⟩
end Go.Proofs.Ytggokgiebdadpaa
