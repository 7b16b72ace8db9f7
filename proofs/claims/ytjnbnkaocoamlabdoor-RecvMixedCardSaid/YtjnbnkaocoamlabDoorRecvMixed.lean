/-
  The walk of 'packtrainkeep.RecvMixed'.
-/
import Derived.Test.YtjnbnkaocoamlabDoorRcvMix
import Derived.Test.YtjnbnkaocoamlabDoorBoolArg
namespace Go.Proofs.YtjnbnkaocoamlabDoor
open Go.RowKit

theorem isE_false {s : ByteArray} (h : s.size ≠ 0) : s.toList.isEmpty = false := by
  cases hc : s.toList.isEmpty with
  | false => rfl
  | true =>
    rw [List.isEmpty_iff, ByteArray.toList_eq] at hc
    have h2 : s.data.toList.length = 0 := by rw [hc]; rfl
    rw [Array.length_toList] at h2
    exact absurd h2 h
theorem isN_none {s : ByteArray} (h : s.size ≠ 0) : ¬ s.toList = [] := fun e => by
  have := isE_false h
  rw [e] at this
  cases this
theorem empty_of {s : ByteArray} (h : s.size = 0) : s = ⟨#[]⟩ := by
  apply ByteArray.ext
  exact Array.eq_empty_of_size_eq_zero h
theorem make_boolsM (w : World) (n : Nat) (hn : n ≤ 600) :
    (Instr.makeSlice 22 (.int .i64 (n : Int)) (.int .i64 (n : Int))).run Tryd.prog w = .ok (.slice (some ⟨w.heap.size, 0, none⟩) n n) (w.alloc (.cells (boolC (fun _ => false) n) 4)) := by
  rw [rmake_bool w n (by omega)]
  have e : thereC (fun _ => none) n = boolC (fun _ => false) n := rfl
  rw [e]
theorem w64s {a : Nat} (h : a ≤ 64) : IntKind.i64.wrap (a : Int) = (a : Int) := IntWalk.i64_in _ (by omega)
theorem w64t {a z : Nat} (h : a ≤ 64) (e : (1 : Int) + (z : Int) = (a : Int)) : IntKind.i64.wrap (1 + (z : Int)) = (a : Int) := by rw [e]; exact w64s h
theorem w64u {a : Nat} (h : a ≤ 64) : wrap64 (a : Int) = (a : Int) := IntWalk.wrap64_in _ ⟨by omega, by omega⟩
theorem mix_off {s : ByteArray} {c : Nat → Bool} {X : Rcv} {k : Nat} (h : PartO s (fun i => c i = true) X) (hk : k ≤ s.size) (h1 : ∀ j, j < k → c j = true) (h2 : k < s.size → c k = false) : offR X = k := by
  rcases h with h | ⟨h0, hn, hc⟩
  · exact part_off h hk h1 (fun hk => by rw [h2 hk]; simp)
  · have hk0 : k = 0 := by
      rcases Nat.eq_zero_or_pos k with e | e
      · exact e
      · exact absurd (h1 0 e) (hc 0)
    rw [hk0]
    unfold offR
    exact off_is (fun j hj => by omega) (hn 0) (by omega)
theorem mix_text {s : ByteArray} {c : Nat → Bool} {X : Rcv} (h : PartO s (fun i => c i = true) X) (hs : 0 < s.size) (h1 : ∀ j, j < s.size → c j = true) : textV X = .tuple #[.string s, .nilIface] := by
  rcases h with h | ⟨h0, hn, hc⟩
  · obtain ⟨a, b⟩ := part_text h hs h1
    unfold textV
    rw [b, a, if_pos rfl, mk_bytes]
    rfl
  · exact absurd (h1 0 hs) (hc 0)
set_option maxRecDepth 100000 in
set_option maxHeartbeats 4000000 in
theorem recvMixed_walk (w : World) (s : ByteArray) (hs : s.size ≤ 140737488351232) (n1 : Int) (_ : -9223372036854775808 ≤ n1) (_ : n1 ≤ 9223372036854775807) (n2 : Int) (_ : -9223372036854775808 ≤ n2) (_ : n2 ≤ 9223372036854775807) (v : Value) (l : List Bool) (hv : IsBools w v l) (hl : l.length ≤ 140737488351232) (_ : ∀ n ∈ l, n = n) (hg : errT w) :
    Calls Tryd.prog 3 #[.string s, .int .i64 n1, .int .i64 n2, v] w fun e w' => e = .returned (.bool true) ∧ Below w.heap.size w w' := by
  obtain ⟨av, cv, rfl, _, hcv⟩ := hv
  have HV := Lib.hid hcv
  have HG := Lib.hid hg
  clear hcv hg
  go_enter Tryd.func3, Tryd.ntmps3
  go_wp2_with fail
  refine (taken_any w HG.out).mono ?_
  rintro r w1 ⟨rfl, hb⟩
  have HB1 := Lib.hid hb
  clear hb
  go_wp2_with fail
  refine (pieced_any w1).mono ?_
  rintro r w2 ⟨rfl, hb⟩
  have HB2 := Lib.hid (HB1.out.trans (hb.mono HB1.out.size))
  clear hb HB1
  by_cases h600 : 500 < s.size
  · have h6 : (500 : Int) < (s.size : Int) := by omega
    go_wp2_with fail
    go_ret
    exact ⟨rfl, HB2.out⟩
  have h6 : ¬ (500 : Int) < (s.size : Int) := by omega
  by_cases hs0 : s.size = 0
  · have hse := empty_of hs0
    clear h600 hs0 h6
    subst hse
    go_wp2_with fail
    go_ret
    exact ⟨rfl, HB2.out⟩
  have hsb := isE_false hs0
  have hsn := isN_none hs0
  obtain ⟨m, hm⟩ : ∃ m, m = l.length := ⟨_, rfl⟩
  rw [← hm] at hl ⊢
  have HM := Lib.hid hm
  clear hm
  by_cases h100 : 100 < m
  · have h7 : (100 : Int) < (m : Int) := by omega
    go_wp2_with fail
    go_ret
    exact ⟨rfl, HB2.out⟩
  have h7 : ¬ (100 : Int) < (m : Int) := by omega
  have HS : Hid (1 ≤ s.size ∧ s.size ≤ 500) := Lib.hid (by omega)
  clear h600 hs0
  obtain ⟨z1, hz1⟩ : ∃ z : Nat, pickN n1 64 = z := ⟨(pickN n1 64).toNat, by have := pickN_pos (a := n1) (n := 64) (by decide); omega⟩
  have hz11 : z1 < 64 := by have := pickN_pos (a := n1) (n := 64) (by decide); omega
  obtain ⟨z2, hz2⟩ : ∃ z : Nat, pickN n2 64 = z := ⟨(pickN n2 64).toNat, by have := pickN_pos (a := n2) (n := 64) (by decide); omega⟩
  have hz22 : z2 < 64 := by have := pickN_pos (a := n2) (n := 64) (by decide); omega
  have HP1 : Hid (∀ W : World, Calls Tryd.prog 6 #[.int .i64 n1, .int .i64 64] W fun e w' => e = .returned (.int .i64 (z1 : Int)) ∧ W = w') := Lib.hid (fun W => by have := pick_any n1 64 W (by decide) (by decide); rw [hz1] at this; exact this)
  have HP2 : Hid (∀ W : World, Calls Tryd.prog 6 #[.int .i64 n2, .int .i64 64] W fun e w' => e = .returned (.int .i64 (z2 : Int)) ∧ W = w') := Lib.hid (fun W => by have := pick_any n2 64 W (by decide) (by decide); rw [hz2] at this; exact this)
  clear hz1 hz2
  obtain ⟨a, ha1, HA⟩ : ∃ a : Nat, (1 : Int) + (z1 : Int) = (a : Int) ∧ Hid (1 ≤ a ∧ a ≤ 64) := ⟨1 + z1, by push_cast; rfl, Lib.hid ⟨by omega, by omega⟩⟩
  obtain ⟨b, hb1, HBB⟩ : ∃ a : Nat, (1 : Int) + (z2 : Int) = (a : Int) ∧ Hid (1 ≤ a ∧ a ≤ 64) := ⟨1 + z2, by push_cast; rfl, Lib.hid ⟨by omega, by omega⟩⟩
  have ha2 := w64s HA.out.2
  have ha3 := w64t HA.out.2 ha1
  have ha4 := w64u HA.out.2
  have hb2 := w64s HBB.out.2
  have hb3 := w64t HBB.out.2 hb1
  have hb4 := w64u HBB.out.2
  clear hz11 hz22
  go_wp2_with (first
    | (go_at_call 6; ((with_reducible refine (HP1.out w2).mono ?_); rintro r w3 ⟨rfl, rfl⟩))
    | (go_at_call 6; ((with_reducible refine (HP2.out w2).mono ?_); rintro r w3 ⟨rfl, rfl⟩))
    | fail)
  clear ha1 ha2 ha3 ha4 hb1 hb2 hb3 hb4
  refine (cut_ok s a w2 HS.out.1 (by have := HS.out; omega) HA.out.1 (by have := HA.out; omega)).mono ?_
  rintro r w4 ⟨v4, rfl, ho4, hb4'⟩
  have HC1 : Hid (0 < cutN s.size a ∧ cutN s.size a ≤ 500) := Lib.hid ⟨(cutN_lt (k := 0) (by have := HA.out; omega)).1 (by have := HS.out; omega), by have := cutN_le s.size a (by have := HA.out; omega); have := HS.out; omega⟩
  obtain ⟨gx, cx, rfl, hp4⟩ := pieces_of ho4 HC1.out.1
  have HP4 := Lib.hid hp4
  have HB4 := Lib.hid (HB2.out.trans (hb4'.mono HB2.out.size))
  have HGX : Hid (w.heap.size ≤ gx) := Lib.hid (Nat.le_trans HB2.out.size (ho4.lt gx rfl).1)
  clear ho4 hb4' hp4 HB2
  go_wp2_with fail
  refine (cut_ok s b w4 HS.out.1 (by have := HS.out; omega) HBB.out.1 (by have := HBB.out; omega)).mono ?_
  rintro r w5 ⟨v5, rfl, ho5, hb5'⟩
  have HC2 : Hid (0 < cutN s.size b ∧ cutN s.size b ≤ 500) := Lib.hid ⟨(cutN_lt (k := 0) (by have := HBB.out; omega)).1 (by have := HS.out; omega), by have := cutN_le s.size b (by have := HBB.out; omega); have := HS.out; omega⟩
  obtain ⟨gy, cy, rfl, hp5⟩ := pieces_of ho5 HC2.out.1
  have HP5 := Lib.hid hp5
  have HP4 := Lib.hid (HP4.out.below hb5')
  have HB5 := Lib.hid (HB4.out.trans (hb5'.mono HB4.out.size))
  have HGY : Hid (w.heap.size ≤ gy) := Lib.hid (Nat.le_trans HB4.out.size (ho5.lt gy rfl).1)
  clear ho5 hb5' hp5 HB4
  obtain ⟨N1, hN1⟩ : ∃ N, N = cutN s.size a := ⟨_, rfl⟩
  obtain ⟨N2, hN2⟩ : ∃ N, N = cutN s.size b := ⟨_, rfl⟩
  rw [← hN1] at HC1 HP4 ⊢
  rw [← hN2] at HC2 HP5 ⊢
  have HN1 := Lib.hid hN1
  have HN2 := Lib.hid hN2
  have hN16 : N1 ≤ 500 := HC1.out.2
  have hN26 : N2 ≤ 500 := HC2.out.2
  clear hN1 hN2
  go_wp2_with fail
  refine (rnew_any w5).mono ?_
  rintro q' w6 ⟨r, F, rfl, hr, hb6, hF⟩
  have HR6 := Lib.hid hr
  have HB6 := Lib.hid hb6
  have HF := Lib.hid hF
  clear hr hb6 hF
  have HMB := Lib.hid (fun W => make_boolsM W s.size (by have := HS.out; omega))
  have hmf : ∀ fn first cap w, (Instr.makeFunc fn first cap).run Tryd.prog w = .ok (.func fn first cap) w := fun _ _ _ _ => rfl
  go_wp2_with (first | rw [HMB.out] | rw [hmf] | fail)
  obtain ⟨w7, hw7⟩ : ∃ w7, w7 = ((w6.alloc (.cells #[.pointer (some ⟨r, 0, none⟩)] 30)).alloc (.cells (boolC (fun _ => false) s.size) 4)).alloc (.cells #[.slice (some ⟨w6.heap.size + 1, 0, none⟩) s.size s.size] 22) := ⟨_, rfl⟩
  have HS6 := HB6.out.size
  have HB7 : Below w6.heap.size w6 w7 := by rw [hw7]; exact (((Below.refl _ _).alloc (Nat.le_refl _) _).alloc (by simp) _).alloc (by simp; omega) _
  have hr7 : w7.heap[w6.heap.size]? = some (.cells #[.pointer (some ⟨r, 0, none⟩)] 30 (0, 0)) := by
    rw [hw7]; exact (Below.heap_alloc _ _ _ (by simp <;> omega)).trans ((Below.heap_alloc _ _ _ (by simp <;> omega)).trans (heap_alloc_new w6 _))
  have hg7 : w7.heap[w6.heap.size + 1]? = some (.cells (boolC (fun _ => false) s.size) 4 (0, 0)) := by
    rw [hw7]
    have := heap_alloc_new (w6.alloc (.cells #[.pointer (some ⟨r, 0, none⟩)] 30)) (.cells (boolC (fun _ => false) s.size) 4)
    exact (Below.heap_alloc _ _ _ (by simp <;> omega)).trans (by simpa using this)
  have hc7 : w7.heap[w6.heap.size + 1 + 1]? = some (.cells #[.slice (some ⟨w6.heap.size + 1, 0, none⟩) s.size s.size] 22 (0, 0)) := by
    rw [hw7]
    have := heap_alloc_new ((w6.alloc (.cells #[.pointer (some ⟨r, 0, none⟩)] 30)).alloc (.cells (boolC (fun _ => false) s.size) 4)) (.cells #[.slice (some ⟨w6.heap.size + 1, 0, none⟩) s.size s.size] 22)
    simpa using this
  have HB57 : Below w5.heap.size w5 w7 := HB6.out.trans (HB7.mono HS6)
  have L3 : gx < w5.heap.size := HP4.out.1
  have L4 : gy < w5.heap.size := HP5.out.1
  have L5 := HB5.out.size
  have L6 := HGX.out
  have L7 := HGY.out
  have HRA : Hid (RM w7 w.heap.size (w6.heap.size + 1 + 1) w6.heap.size gx gy (w6.heap.size + 1) r F s a b N1 N2 (fun _ => false) rNew) := Lib.hid
    ⟨cell_of_row _ _ 0 _ _ _ hc7, cell_of_row _ _ 0 _ _ _ hr7, HP4.out.below HB57, HP5.out.below HB57, hg7, HR6.out.below HB7, by have := partO_new s; simpa using this,
     fun k hk => by
      have a1 := HF.out k hk
      have a2 := HR6.out.lt k hk
      omega,
     by omega⟩
  have HBW : Hid (Below w.heap.size w w7) := Lib.hid (HB5.out.trans (HB57.mono HB5.out.size))
  rw [← hw7]
  clear hw7 HB7 hr7 hg7 hc7 HB57 L3 L4 L5 L6 L7 HS6 HMB hmf HB6 HF HR6 HGX HGY HP4 HP5 HB5
  go_loopw [76] (fun kv wr => ∃ (k : Nat) (F : Nat → Prop) (c : Nat → Bool) (X : Rcv), k ≤ m ∧ kv = .int .i64 k ∧ RM wr w.heap.size (w6.heap.size + 1 + 1) w6.heap.size gx gy (w6.heap.size + 1) r F s a b N1 N2 c X ∧ Below w.heap.size w wr) (fun kv _ => m - (RowKit.intOf kv).toNat)
  case atStart => exact ⟨0, F, _, _, Nat.zero_le _, rfl, HRA.out, HBW.out⟩
  case round =>
    rename_i wr
    obtain ⟨k, F1, c, X, hk, rfl, hra, hbw⟩ := hrel
    have HRA := Lib.hid hra
    have HBW := Lib.hid hbw
    clear hra hbw
    by_cases hgo : k < m
    · have hk1 : (k : Int) < (m : Int) := by omega
      obtain ⟨x, hx⟩ : ∃ x, l[k]? = some x := ⟨_, List.getElem?_eq_getElem (by rw [← HM.out]; exact hgo)⟩
      obtain ⟨bx, off, rfl, hlt, hc⟩ := HV.out k x hx
      have hcx := (HBW.out.cell (p := ⟨bx, off + k, none⟩) hlt).trans hc
      clear hx hc
      cases x with
      | true =>
        by_cases hin : k < N1
        · have hin1 : (k : Int) < (N1 : Int) := by omega
          obtain ⟨p0, p1, p2, p3⟩ := HRA.out.px.2 k hin
          go_wp2_with fail
          refine (mix_any _ w.heap.size (w6.heap.size + 1 + 1) w6.heap.size gx gy (w6.heap.size + 1) r F1 s a b N1 N2 a k c X HRA.out ((cutN_lt (by have := HA.out; omega)).2 (by rw [← HN1.out]; exact hin)) HA.out.1 HA.out.2 HS.out.1 HS.out.2 HBW.out.size).mono ?_
          rintro q' w9 ⟨F2, rfl, hra2, hb2⟩
          have HRA2 := Lib.hid hra2
          have HB2 := Lib.hid hb2
          clear hra2 hb2
          go_wp2_with fail
          go_roundw
          · exact ⟨k + 1, F2, _, _, by omega, by go_num, HRA2.out, HBW.out.trans HB2.out⟩
          · simp [RowKit.intOf]; omega
        · have hin1 : ¬ (k : Int) < (N1 : Int) := by omega
          go_wp2_with fail
          go_roundw
          · exact ⟨k + 1, F1, _, _, by omega, by go_num, HRA.out, HBW.out⟩
          · simp [RowKit.intOf]; omega
      | false =>
        by_cases hin : k < N2
        · have hin1 : (k : Int) < (N2 : Int) := by omega
          obtain ⟨p0, p1, p2, p3⟩ := HRA.out.py.2 k hin
          go_wp2_with fail
          refine (mix_any _ w.heap.size (w6.heap.size + 1 + 1) w6.heap.size gx gy (w6.heap.size + 1) r F1 s a b N1 N2 b k c X HRA.out ((cutN_lt (by have := HBB.out; omega)).2 (by rw [← HN2.out]; exact hin)) HBB.out.1 HBB.out.2 HS.out.1 HS.out.2 HBW.out.size).mono ?_
          rintro q' w9 ⟨F2, rfl, hra2, hb2⟩
          have HRA2 := Lib.hid hra2
          have HB2 := Lib.hid hb2
          clear hra2 hb2
          go_wp2_with fail
          go_roundw
          · exact ⟨k + 1, F2, _, _, by omega, by go_num, HRA2.out, HBW.out.trans HB2.out⟩
          · simp [RowKit.intOf]; omega
        · have hin1 : ¬ (k : Int) < (N2 : Int) := by omega
          go_wp2_with fail
          go_roundw
          · exact ⟨k + 1, F1, _, _, by omega, by go_num, HRA.out, HBW.out⟩
          · simp [RowKit.intOf]; omega
    · have hk1 : ¬ (k : Int) < (m : Int) := by omega
      go_wp2_with fail
      go_loopw [18] (fun kv wx => ∃ k2 : Nat, k2 ≤ s.size ∧ kv = .int .i64 k2 ∧ (∀ j, j < k2 → c j = true) ∧ wr = wx) (fun kv _ => s.size - (RowKit.intOf kv).toNat)
      case atStart => exact ⟨0, Nat.zero_le _, rfl, fun j hj => by omega, rfl⟩
      case round =>
        obtain ⟨k2, hk2, rfl, hall, rfl⟩ := hrel
        have HALL := Lib.hid hall
        clear hall
        have kc := HRA.out.kc
        have kr := HRA.out.kr
        by_cases hgo2 : k2 < s.size ∧ c k2 = true
        · have hk3 : (k2 : Int) < (s.size : Int) := by omega
          have kk : wr.cell? ⟨w6.heap.size + 1, k2, none⟩ = some (.bool true) := (cell_of_row _ _ _ _ _ _ HRA.out.row).trans ((boolC_at _ hgo2.1).trans (by rw [hgo2.2]))
          have HGO := Lib.hid hgo2
          have hk5 : k2 < 501 := by have := HS.out; omega
          clear hgo2
          go_wp2
          go_roundw
          · refine ⟨k2 + 1, by have := HGO.out.1; omega, by go_num, fun j hj => ?_, by trivial⟩
            by_cases e : j = k2
            · rw [e]; exact HGO.out.2
            · exact HALL.out j (by omega)
          · have := HGO.out.1; simp [RowKit.intOf]; omega
        have HKF : Hid (k2 < s.size → c k2 = false) := Lib.hid (fun h => by
          cases hu : c k2 with
          | false => rfl
          | true => exact absurd ⟨h, hu⟩ hgo2)
        have HOF : Hid (offR X = k2) := Lib.hid (mix_off HRA.out.part hk2 HALL.out HKF.out)
        clear hgo2
        by_cases hks : k2 < s.size
        · have hk3 : (k2 : Int) < (s.size : Int) := by omega
          have kk : wr.cell? ⟨w6.heap.size + 1, k2, none⟩ = some (.bool false) := (cell_of_row _ _ _ _ _ _ HRA.out.row).trans ((boolC_at _ hks).trans (by rw [HKF.out hks]))
          go_wp2_with fail
          refine (offerAt r F1 X wr HRA.out.rcv).mono ?_
          rintro q' w9 ⟨rfl, rfl⟩
          rw [HOF.out]
          go_wp2_with fail
          go_loopw [135] (fun kv wx => ∃ (k : Nat) (F : Nat → Prop) (c : Nat → Bool) (X : Rcv), k ≤ N1 ∧ kv = .int .i64 k ∧ RM wx w.heap.size (w6.heap.size + 1 + 1) w6.heap.size gx gy (w6.heap.size + 1) r F s a b N1 N2 c X ∧ Below w.heap.size w wx ∧ ∀ i, i < k * a → c i = true) (fun kv _ => N1 - (RowKit.intOf kv).toNat)
          case atStart => exact ⟨0, F1, c, X, Nat.zero_le _, rfl, HRA.out, HBW.out, fun i hi => by omega⟩
          case round =>
            obtain ⟨k3, F3, c3, X3, hk3, rfl, hra, hbw, hall3⟩ := hrel
            have HRA3 := Lib.hid hra
            have HBW3 := Lib.hid hbw
            have HALL3 := Lib.hid hall3
            clear hra hbw hall3
            by_cases hgo3 : k3 < N1
            · have hk4 : (k3 : Int) < (N1 : Int) := by omega
              obtain ⟨p0, p1, p2, p3⟩ := HRA3.out.px.2 k3 hgo3
              go_wp2_with fail
              refine (mix_any _ w.heap.size (w6.heap.size + 1 + 1) w6.heap.size gx gy (w6.heap.size + 1) r F3 s a b N1 N2 a k3 c3 X3 (HRA3.out.below ((Below.refl _ _).alloc (Nat.le_refl _) _)) ((cutN_lt (by have := HA.out; omega)).2 (by rw [← HN1.out]; exact hgo3)) HA.out.1 HA.out.2 HS.out.1 HS.out.2 (by have := HBW3.out.size; simp; omega)).mono ?_
              rintro q' w10 ⟨F4, rfl, hra2, hb2⟩
              have HRA4 := Lib.hid hra2
              have HB4 := Lib.hid ((HBW3.out.alloc HBW3.out.size _).trans hb2)
              clear hra2 hb2 p0 p1 p2 p3
              go_wp2_with fail
              go_roundw
              · refine ⟨k3 + 1, F4, _, _, by omega, by go_num, HRA4.out, HB4.out, fun i hi => ?_⟩
                rw [Nat.succ_mul] at hi
                refine updR_true.2 ?_
                by_cases h : i < k3 * a
                · exact .inl (HALL3.out i h)
                · exact .inr ⟨by omega, hi⟩
              · simp [RowKit.intOf]; omega
            · have hk4 : ¬ (k3 : Int) < (N1 : Int) := by omega
              have kr := HRA3.out.kr
              have HTV : Hid (textV X3 = .tuple #[.string s, .nilIface]) := Lib.hid (mix_text HRA3.out.part (by have := HS.out; omega) (fun j hj => HALL3.out j (by
                have e : k3 = N1 := by omega
                have h5 := (not_congr (cutN_lt (n := s.size) (z := a) (k := N1) (by have := HA.out; omega))).2 (by have := HN1.out; omega)
                rw [e]
                omega)))
              go_wp2_with fail
              refine (textAt r F3 X3 _ HRA3.out.rcv).mono ?_
              rintro q' w10 ⟨rfl, hb10⟩
              rw [HTV.out]
              have HB5 := Lib.hid (HBW3.out.trans (hb10.mono HBW3.out.size))
              clear hb10
              go_wp2_with fail
              go_ret
              exact ⟨rfl, HB5.out⟩
        · have hk3 : ¬ (k2 : Int) < (s.size : Int) := by omega
          go_wp2_with fail
          refine (offerAt r F1 X wr HRA.out.rcv).mono ?_
          rintro q' w9 ⟨rfl, rfl⟩
          rw [HOF.out]
          go_wp2_with fail
          go_loopw [135] (fun kv wx => ∃ (k : Nat) (F : Nat → Prop) (c : Nat → Bool) (X : Rcv), k ≤ N1 ∧ kv = .int .i64 k ∧ RM wx w.heap.size (w6.heap.size + 1 + 1) w6.heap.size gx gy (w6.heap.size + 1) r F s a b N1 N2 c X ∧ Below w.heap.size w wx ∧ ∀ i, i < k * a → c i = true) (fun kv _ => N1 - (RowKit.intOf kv).toNat)
          case atStart => exact ⟨0, F1, c, X, Nat.zero_le _, rfl, HRA.out, HBW.out, fun i hi => by omega⟩
          case round =>
            obtain ⟨k3, F3, c3, X3, hk3, rfl, hra, hbw, hall3⟩ := hrel
            have HRA3 := Lib.hid hra
            have HBW3 := Lib.hid hbw
            have HALL3 := Lib.hid hall3
            clear hra hbw hall3
            by_cases hgo3 : k3 < N1
            · have hk4 : (k3 : Int) < (N1 : Int) := by omega
              obtain ⟨p0, p1, p2, p3⟩ := HRA3.out.px.2 k3 hgo3
              go_wp2_with fail
              refine (mix_any _ w.heap.size (w6.heap.size + 1 + 1) w6.heap.size gx gy (w6.heap.size + 1) r F3 s a b N1 N2 a k3 c3 X3 (HRA3.out.below ((Below.refl _ _).alloc (Nat.le_refl _) _)) ((cutN_lt (by have := HA.out; omega)).2 (by rw [← HN1.out]; exact hgo3)) HA.out.1 HA.out.2 HS.out.1 HS.out.2 (by have := HBW3.out.size; simp; omega)).mono ?_
              rintro q' w10 ⟨F4, rfl, hra2, hb2⟩
              have HRA4 := Lib.hid hra2
              have HB4 := Lib.hid ((HBW3.out.alloc HBW3.out.size _).trans hb2)
              clear hra2 hb2 p0 p1 p2 p3
              go_wp2_with fail
              go_roundw
              · refine ⟨k3 + 1, F4, _, _, by omega, by go_num, HRA4.out, HB4.out, fun i hi => ?_⟩
                rw [Nat.succ_mul] at hi
                refine updR_true.2 ?_
                by_cases h : i < k3 * a
                · exact .inl (HALL3.out i h)
                · exact .inr ⟨by omega, hi⟩
              · simp [RowKit.intOf]; omega
            · have hk4 : ¬ (k3 : Int) < (N1 : Int) := by omega
              have kr := HRA3.out.kr
              have HTV : Hid (textV X3 = .tuple #[.string s, .nilIface]) := Lib.hid (mix_text HRA3.out.part (by have := HS.out; omega) (fun j hj => HALL3.out j (by
                have e : k3 = N1 := by omega
                have h5 := (not_congr (cutN_lt (n := s.size) (z := a) (k := N1) (by have := HA.out; omega))).2 (by have := HN1.out; omega)
                rw [e]
                omega)))
              go_wp2_with fail
              refine (textAt r F3 X3 _ HRA3.out.rcv).mono ?_
              rintro q' w10 ⟨rfl, hb10⟩
              rw [HTV.out]
              have HB5 := Lib.hid (HBW3.out.trans (hb10.mono HBW3.out.size))
              clear hb10
              go_wp2_with fail
              go_ret
              exact ⟨rfl, HB5.out⟩
end Go.Proofs.YtjnbnkaocoamlabDoor
