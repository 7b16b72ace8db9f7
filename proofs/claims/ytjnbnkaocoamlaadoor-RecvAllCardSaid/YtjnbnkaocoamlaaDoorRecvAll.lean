/-
  The walk of 'packtrainkeep.RecvAll'.
-/
import Derived.Test.YtjnbnkaocoamlaaDoorRcvClo
import Derived.Test.YtjnbnkaocoamlaaDoorNumArg
namespace Go.Proofs.YtjnbnkaocoamlaaDoor
open Go.RowKit

theorem isE_false {s : ByteArray} (h : s.size ≠ 0) : s.toList.isEmpty = false := by
  cases hc : s.toList.isEmpty with
  | false => rfl
  | true =>
    rw [List.isEmpty_iff, ByteArray.toList_eq] at hc
    have h2 : s.data.toList.length = 0 := by rw [hc]; rfl
    rw [Array.length_toList] at h2
    exact absurd h2 h
theorem isN_none {s : ByteArray} (h : s.size ≠ 0) : ¬ s.toList = [] := fun e => by
  have := isE_false h
  rw [e] at this
  cases this
theorem empty_of {s : ByteArray} (h : s.size = 0) : s = ⟨#[]⟩ := by
  apply ByteArray.ext
  exact Array.eq_empty_of_size_eq_zero h
theorem make_bools (w : World) (n : Nat) (hn : n ≤ 600) :
    (Instr.makeSlice 53 (.int .i64 (n : Int)) (.int .i64 (n : Int))).run Tryd.prog w = .ok (.slice (some ⟨w.heap.size, 0, none⟩) n n) (w.alloc (.cells (boolC (fun _ => false) n) 4)) := by
  rw [rmake_bool w n (by omega)]
  have e : thereC (fun _ => none) n = boolC (fun _ => false) n := rfl
  rw [e]
set_option maxRecDepth 100000 in
set_option maxHeartbeats 2000000 in
theorem recvAll_walk (w : World) (s : ByteArray) (hs : s.size ≤ 140737488351232) (n : Int) (_ : -9223372036854775808 ≤ n) (_ : n ≤ 9223372036854775807) (v : Value) (l : List Int) (hv : IsNums w v l) (hl : l.length ≤ 140737488351232) (_ : ∀ n ∈ l, -9223372036854775808 ≤ n ∧ n ≤ 9223372036854775807) (hg : errT w) :
    Calls Tryd.prog 4 #[.string s, .int .i64 n, v] w fun e w' => e = .returned (.bool true) ∧ Below w.heap.size w w' := by
  obtain ⟨av, cv, rfl, _, hcv⟩ := hv
  have HV := Lib.hid hcv
  have HG := Lib.hid hg
  have HBA : Hid (Below w.heap.size w ((w.alloc (.cells #[.string s] 9)).alloc (.cells #[.int .i64 n] 3))) := Lib.hid (((Below.refl _ _).alloc (Nat.le_refl _) _).alloc (by simp) _)
  have HA1 : Hid (((w.alloc (.cells #[.string s] 9)).alloc (.cells #[.int .i64 n] 3)).heap[w.heap.size]? = some (.cells #[.string s] 9 (0, 0))) := Lib.hid ((Below.heap_alloc _ _ _ (by simp)).trans (heap_alloc_new w _))
  have HA2 : Hid (((w.alloc (.cells #[.string s] 9)).alloc (.cells #[.int .i64 n] 3)).heap[w.heap.size + 1]? = some (.cells #[.int .i64 n] 3 (0, 0))) := Lib.hid (by
    have := heap_alloc_new (w.alloc (.cells #[.string s] 9)) (.cells #[.int .i64 n] 3)
    simpa using this)
  clear hcv hg
  go_enter Tryd.func4, Tryd.ntmps4
  go_wp2_with fail
  obtain ⟨wa, hwa⟩ : ∃ wa, wa = (w.alloc (.cells #[.string s] 9)).alloc (.cells #[.int .i64 n] 3) := ⟨_, rfl⟩
  rw [← hwa] at HBA HA1 HA2 ⊢
  clear hwa
  refine (taken_any wa (HG.out.below HBA.out)).mono ?_
  rintro r w1 ⟨rfl, hb⟩
  have HB1 := Lib.hid (HBA.out.trans (hb.mono HBA.out.size))
  have HA1 := Lib.hid ((hb.block _ (Array.getElem?_eq_some_iff.1 HA1.out).1).trans HA1.out)
  have HA2 := Lib.hid ((hb.block _ (Array.getElem?_eq_some_iff.1 HA2.out).1).trans HA2.out)
  clear hb
  go_wp2_with fail
  refine (pieced_any w1).mono ?_
  rintro r w2 ⟨rfl, hb⟩
  have HB2 := Lib.hid (HB1.out.trans (hb.mono HB1.out.size))
  have HA1 := Lib.hid ((hb.block _ (Array.getElem?_eq_some_iff.1 HA1.out).1).trans HA1.out)
  have HA2 := Lib.hid ((hb.block _ (Array.getElem?_eq_some_iff.1 HA2.out).1).trans HA2.out)
  clear hb HB1 HBA
  have k0 : w2.cell? ⟨w.heap.size, 0, none⟩ = some (.string s) := cell_of_row _ _ 0 _ _ _ HA1.out
  by_cases h600 : 600 < s.size
  · have h6 : (600 : Int) < (s.size : Int) := by omega
    go_wp2_with fail
    go_ret
    exact ⟨rfl, HB2.out⟩
  have h6 : ¬ (600 : Int) < (s.size : Int) := by omega
  by_cases hs0 : s.size = 0
  · have hse := empty_of hs0
    clear h600 hs0 h6
    subst hse
    go_wp2_with fail
    go_ret
    exact ⟨rfl, HB2.out⟩
  have hsb := isE_false hs0
  have hsn := isN_none hs0
  obtain ⟨m, hm⟩ : ∃ m, m = l.length := ⟨_, rfl⟩
  rw [← hm] at hl ⊢
  have HM := Lib.hid hm
  clear hm
  by_cases h100 : 100 < m
  · have h7 : (100 : Int) < (m : Int) := by omega
    go_wp2_with fail
    go_ret
    exact ⟨rfl, HB2.out⟩
  have h7 : ¬ (100 : Int) < (m : Int) := by omega
  have HS : Hid (1 ≤ s.size ∧ s.size ≤ 600) := Lib.hid (by omega)
  have k1 : w2.cell? ⟨w.heap.size + 1, 0, none⟩ = some (.int .i64 n) := cell_of_row _ _ 0 _ _ _ HA2.out
  clear h600 hs0
  go_wp2_with fail
  refine (pick_any n 64 w2 (by decide) (by decide)).mono ?_
  rintro r w3 ⟨rfl, rfl⟩
  obtain ⟨z0, hz0⟩ : ∃ z : Nat, pickN n 64 = z := ⟨(pickN n 64).toNat, by have := pickN_pos (a := n) (n := 64) (by decide); omega⟩
  have hz64 : z0 < 64 := by have := pickN_pos (a := n) (n := 64) (by decide); omega
  rw [hz0]
  clear hz0
  obtain ⟨z, hz⟩ : ∃ z, z = 1 + z0 := ⟨_, rfl⟩
  have hw3 : IntKind.i64.wrap (1 + (z0 : Int)) = (z : Int) := by rw [show (1 : Int) + (z0 : Int) = (z : Int) by omega]; exact IntWalk.i64_in _ (by omega)
  have hw4 : (1 : Int) + (z0 : Int) = (z : Int) := by omega
  have hw5 : wrap64 (z : Int) = (z : Int) := IntWalk.wrap64_in _ ⟨by omega, by omega⟩
  have hw6 : IntKind.i64.wrap (z : Int) = (z : Int) := IntWalk.i64_in _ (by omega)
  have HZ : Hid (1 ≤ z ∧ z ≤ 64) := Lib.hid (by omega)
  have f1 : w2.frozen? ⟨w.heap.size + 1, 0, none⟩ = false := Lib.frozen_of_heap HA2.out 0
  clear hz hz64
  go_wp2_with fail
  have HA1 : Hid ((w2.setCell ⟨w.heap.size + 1, 0, none⟩ (.int .i64 (z : Int))).heap[w.heap.size]? = some (.cells #[.string s] 9 (0, 0))) := Lib.hid ((heap_setCell_other _ _ _ _ (by show w.heap.size ≠ w.heap.size + 1; omega)).trans HA1.out)
  have HA2 : Hid ((w2.setCell ⟨w.heap.size + 1, 0, none⟩ (.int .i64 (z : Int))).heap[w.heap.size + 1]? = some (.cells #[.int .i64 (z : Int)] 3 (0, 0))) := Lib.hid (heap_setCell_same _ _ _ _ _ _ HA2.out)
  have HB3 : Hid (Below w.heap.size w (w2.setCell ⟨w.heap.size + 1, 0, none⟩ (.int .i64 (z : Int)))) := Lib.hid (HB2.out.setCell (by show w.heap.size ≤ w.heap.size + 1; omega) _)
  clear k0 k1 f1 HB2 hw3 hw4
  obtain ⟨w3, hw3⟩ : ∃ w3, w3 = w2.setCell ⟨w.heap.size + 1, 0, none⟩ (.int .i64 (z : Int)) := ⟨_, rfl⟩
  rw [← hw3] at HA1 HA2 HB3 ⊢
  clear hw3
  refine (cut_ok s z w3 HS.out.1 (by have := HS.out; omega) HZ.out.1 (by have := HZ.out; omega)).mono ?_
  rintro r w4 ⟨v4, rfl, ho4, hb4⟩
  have HC1 : Hid (0 < cutN s.size z ∧ cutN s.size z ≤ 600) := Lib.hid ⟨(cutN_lt (k := 0) (by have := HZ.out; omega)).1 (by have := HS.out; omega), by have := cutN_le s.size z (by have := HZ.out; omega); have := HS.out; omega⟩
  obtain ⟨gl, cl, rfl, hp4⟩ := pieces_of ho4 HC1.out.1
  have HP4 := Lib.hid hp4
  have HB4 := Lib.hid (HB3.out.trans (hb4.mono HB3.out.size))
  have HA1 := Lib.hid ((hb4.block _ (Array.getElem?_eq_some_iff.1 HA1.out).1).trans HA1.out)
  have HA2 := Lib.hid ((hb4.block _ (Array.getElem?_eq_some_iff.1 HA2.out).1).trans HA2.out)
  have HGL : Hid (w3.heap.size ≤ gl) := Lib.hid (by have := (ho4.lt gl rfl).1; exact this)
  clear ho4 hb4 hp4
  obtain ⟨N, hN⟩ : ∃ N, N = cutN s.size z := ⟨_, rfl⟩
  rw [← hN] at HC1 HP4 ⊢
  have HN := Lib.hid hN
  have hN6 : N ≤ 600 := HC1.out.2
  have hN1 : ((N : Int) == 0) = false := by have := HC1.out.1; simp; omega
  clear hN
  go_wp2_with fail
  have HKL : Hid ((w4.alloc (.cells #[.slice (some ⟨gl, 0, none⟩) N cl] 48)).cell? ⟨w4.heap.size, 0, none⟩ = some (.slice (some ⟨gl, 0, none⟩) N cl)) := Lib.hid (by exact cell_of_row _ _ 0 _ _ _ (heap_alloc_new w4 _))
  have HB5 : Hid (Below w4.heap.size w4 (w4.alloc (.cells #[.slice (some ⟨gl, 0, none⟩) N cl] 48))) := Lib.hid ((Below.refl _ _).alloc (Nat.le_refl _) _)
  have HS5 : Hid ((w4.alloc (.cells #[.slice (some ⟨gl, 0, none⟩) N cl] 48)).heap.size = w4.heap.size + 1) := Lib.hid (by simp)
  obtain ⟨w5, hw5'⟩ : ∃ w5, w5 = w4.alloc (.cells #[.slice (some ⟨gl, 0, none⟩) N cl] 48) := ⟨_, rfl⟩
  rw [← hw5'] at HKL HB5 HS5 ⊢
  clear hw5'
  refine (rnew_any w5).mono ?_
  rintro q' w6 ⟨r, F, rfl, hr, hb6, hF⟩
  have HR6 := Lib.hid hr
  have HB6 := Lib.hid hb6
  have HF := Lib.hid hF
  clear hr hb6 hF
  have HMB := Lib.hid (fun W => make_bools W N hN6)
  have hmf : ∀ fn first cap w, (Instr.makeFunc fn first cap).run Tryd.prog w = .ok (.func fn first cap) w := fun _ _ _ _ => rfl
  have kl6 : (w6.alloc (.cells #[.pointer (some ⟨r, 0, none⟩)] 51)).cell? ⟨w4.heap.size, 0, none⟩ = some (.slice (some ⟨gl, 0, none⟩) N cl) := ((HB6.out.alloc HB6.out.size _).cell (p := ⟨w4.heap.size, 0, none⟩) (World.block_lt_of_cell? _ _ HKL.out)).trans HKL.out
  go_wp2_with (first | rw [HMB.out] | rw [hmf] | fail)
  obtain ⟨w7, hw7⟩ : ∃ w7, w7 = ((w6.alloc (.cells #[.pointer (some ⟨r, 0, none⟩)] 51)).alloc (.cells (boolC (fun _ => false) N) 4)).alloc (.cells #[.slice (some ⟨w6.heap.size + 1, 0, none⟩) N N] 53) := ⟨_, rfl⟩
  have HBL5 : w4.heap.size < w5.heap.size := by rw [HS5.out]; omega
  have HS6 := HB6.out.size
  have HB7 : Below w6.heap.size w6 w7 := by rw [hw7]; exact (((Below.refl _ _).alloc (Nat.le_refl _) _).alloc (by simp) _).alloc (by simp; omega) _
  have hr7 : w7.heap[w6.heap.size]? = some (.cells #[.pointer (some ⟨r, 0, none⟩)] 51 (0, 0)) := by
    rw [hw7]; exact (Below.heap_alloc _ _ _ (by simp <;> omega)).trans ((Below.heap_alloc _ _ _ (by simp <;> omega)).trans (heap_alloc_new w6 _))
  have hg7 : w7.heap[w6.heap.size + 1]? = some (.cells (boolC (fun _ => false) N) 4 (0, 0)) := by
    rw [hw7]
    have := heap_alloc_new (w6.alloc (.cells #[.pointer (some ⟨r, 0, none⟩)] 51)) (.cells (boolC (fun _ => false) N) 4)
    exact (Below.heap_alloc _ _ _ (by simp <;> omega)).trans (by simpa using this)
  have hc7 : w7.heap[w6.heap.size + 1 + 1]? = some (.cells #[.slice (some ⟨w6.heap.size + 1, 0, none⟩) N N] 53 (0, 0)) := by
    rw [hw7]
    have := heap_alloc_new ((w6.alloc (.cells #[.pointer (some ⟨r, 0, none⟩)] 51)).alloc (.cells (boolC (fun _ => false) N) 4)) (.cells #[.slice (some ⟨w6.heap.size + 1, 0, none⟩) N N] 53)
    simpa using this
  have HB47 : Below w4.heap.size w4 w7 := HB5.out.trans ((HB6.out.trans (HB7.mono HS6)).mono (by omega))
  have L1 : w.heap.size < w4.heap.size := (Array.getElem?_eq_some_iff.1 HA1.out).1
  have L2 : w.heap.size + 1 < w4.heap.size := (Array.getElem?_eq_some_iff.1 HA2.out).1
  have L3 : gl < w4.heap.size := HP4.out.1
  have L4 : w.heap.size ≤ gl := Nat.le_trans HB3.out.size HGL.out
  have HRA : Hid (RA w7 w.heap.size w4.heap.size (w6.heap.size + 1 + 1) w6.heap.size w.heap.size (w.heap.size + 1) gl (w6.heap.size + 1) r cl F s z N (fun _ => false) rNew) := Lib.hid
    ⟨(HB7.cell (p := ⟨w4.heap.size, 0, none⟩) (by show w4.heap.size < _; omega)).trans ((HB6.out.cell (p := ⟨w4.heap.size, 0, none⟩) HBL5).trans HKL.out),
     cell_of_row _ _ 0 _ _ _ hc7, cell_of_row _ _ 0 _ _ _ hr7,
     cell_of_row _ _ 0 _ _ _ ((HB47.block _ L1).trans HA1.out), cell_of_row _ _ 0 _ _ _ ((HB47.block _ L2).trans HA2.out),
     HP4.out.below HB47, hg7, HR6.out.below HB7, by have := partO_new s; simpa using this,
     fun k hk => by
      have a1 := HF.out k hk
      have a2 := HR6.out.lt k hk
      omega,
     by omega⟩
  have HBW : Hid (Below w.heap.size w w7) := Lib.hid (HB4.out.trans (HB47.mono HB4.out.size))
  rw [← hw7]
  clear hw7 HB7 hr7 hg7 hc7 HB47 L1 L2 L3 L4 HS6 HBL5 kl6 HMB hmf HKL HB5 HS5 HB6 HF HR6 HGL HA1 HA2 HP4 HB4
  go_loopw [60] (fun kv wr => ∃ (k : Nat) (F : Nat → Prop) (c : Nat → Bool) (X : Rcv), k ≤ m ∧ kv = .int .i64 k ∧ RA wr w.heap.size w4.heap.size (w6.heap.size + 1 + 1) w6.heap.size w.heap.size (w.heap.size + 1) gl (w6.heap.size + 1) r cl F s z N c X ∧ Below w.heap.size w wr) (fun kv _ => m - (RowKit.intOf kv).toNat)
  case atStart => exact ⟨0, F, _, _, Nat.zero_le _, rfl, HRA.out, HBW.out⟩
  case round =>
    rename_i wr
    obtain ⟨k, F1, c, X, hk, rfl, hra, hbw⟩ := hrel
    have HRA := Lib.hid hra
    have HBW := Lib.hid hbw
    have kl := hra.kl
    clear hra hbw
    by_cases hgo : k < m
    · have hk1 : (k : Int) < (m : Int) := by omega
      obtain ⟨x, hx⟩ : ∃ x, l[k]? = some x := ⟨_, List.getElem?_eq_getElem (by rw [← HM.out]; exact hgo)⟩
      obtain ⟨b, off, rfl, hlt, hc⟩ := HV.out k x hx
      have hcx := (HBW.out.cell (p := ⟨b, off + k, none⟩) hlt).trans hc
      go_wp2_with fail
      refine (pick_any x N wr (by have := HC1.out.1; omega) (by omega)).mono ?_
      rintro q' w8 ⟨rfl, rfl⟩
      obtain ⟨i, hi⟩ : ∃ i : Nat, pickN x N = i := ⟨(pickN x N).toNat, by have := pickN_pos (a := x) (n := (N : Int)) (by have := HC1.out.1; omega); omega⟩
      have hiN : i < N := by have := pickN_pos (a := x) (n := (N : Int)) (by have := HC1.out.1; omega); omega
      rw [hi]
      clear hi
      go_wp2_with fail
      refine (clo_any _ w.heap.size w4.heap.size (w6.heap.size + 1 + 1) w6.heap.size w.heap.size (w.heap.size + 1) gl (w6.heap.size + 1) r cl F1 s z N i c X HRA.out HZ.out.1 HZ.out.2 HS.out.1 HS.out.2 HN.out hiN HBW.out.size).mono ?_
      rintro q' w9 ⟨F2, rfl, hra2, hb2⟩
      have HRA2 := Lib.hid hra2
      have HB2 := Lib.hid hb2
      clear hra2 hb2
      go_wp2_with fail
      go_roundw
      · exact ⟨k + 1, F2, _, _, by omega, by go_num, HRA2.out, HBW.out.trans HB2.out⟩
      · simp [RowKit.intOf]; omega
    · have hk1 : ¬ (k : Int) < (m : Int) := by omega
      go_wp2_with fail
      go_loopw [74] (fun kv wr => ∃ (k : Nat) (F : Nat → Prop) (c : Nat → Bool) (X : Rcv), k ≤ N ∧ kv = .int .i64 k ∧ RA wr w.heap.size w4.heap.size (w6.heap.size + 1 + 1) w6.heap.size w.heap.size (w.heap.size + 1) gl (w6.heap.size + 1) r cl F s z N c X ∧ Below w.heap.size w wr) (fun kv _ => N - (RowKit.intOf kv).toNat)
      case atStart => exact ⟨0, F1, _, _, Nat.zero_le _, rfl, HRA.out, HBW.out⟩
      case round =>
        obtain ⟨k2, F3, c3, X3, hk2, rfl, hra, hbw⟩ := hrel
        have HRA3 := Lib.hid hra
        have HBW3 := Lib.hid hbw
        have kl := hra.kl
        clear hra hbw
        by_cases hgo2 : k2 < N
        · have hk3 : (k2 : Int) < (N : Int) := by omega
          go_wp2_with fail
          refine (clo_any _ w.heap.size w4.heap.size (w6.heap.size + 1 + 1) w6.heap.size w.heap.size (w.heap.size + 1) gl (w6.heap.size + 1) r cl F3 s z N k2 c3 X3 HRA3.out HZ.out.1 HZ.out.2 HS.out.1 HS.out.2 HN.out hgo2 HBW3.out.size).mono ?_
          rintro q' w9 ⟨F2, rfl, hra2, hb2⟩
          have HRA2 := Lib.hid hra2
          have HB2 := Lib.hid hb2
          clear hra2 hb2
          go_wp2_with fail
          go_roundw
          · exact ⟨k2 + 1, F2, _, _, by omega, by go_num, HRA2.out, HBW3.out.trans HB2.out⟩
          · simp [RowKit.intOf]; omega
        · have hk3 : ¬ (k2 : Int) < (N : Int) := by omega
          go_wp2_with fail
          go_ret
          exact ⟨rfl, HBW3.out⟩
end Go.Proofs.YtjnbnkaocoamlaaDoor
