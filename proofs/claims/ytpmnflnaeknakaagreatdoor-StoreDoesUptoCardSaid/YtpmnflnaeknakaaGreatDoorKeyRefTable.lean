/-
  The contract of the document's Table.
-/
import Derived.Test.YtpmnflnaeknakaaGreatDoorKeyTable
namespace Go.Proofs.YtpmnflnaeknakaaGreatDoor
open Go.RowKit

/-- Where a text stands last among the first i, so far. -/
def lastB (T : List ByteArray) (s : ByteArray) (i : Nat) : Int := if idxB T s < i then (idxB T s : Int) else -1
theorem lastB_hit {T : List ByteArray} (hn : T.Nodup) {s : ByteArray} {i : Nat} (h : T[i]? = some s) : lastB T s (i + 1) = i := by
  unfold lastB; rw [idxB_at hn h, if_pos (by omega)]
theorem lastB_miss {T : List ByteArray} {s x : ByteArray} {i : Nat} (h : T[i]? = some x) (hx : x ≠ s) : lastB T s (i + 1) = lastB T s i := by
  unfold lastB
  by_cases hi : idxB T s < i
  · rw [if_pos hi, if_pos (by omega)]
  · rw [if_neg hi]
    by_cases hs : s ∈ T
    · have : idxB T s ≠ i := by
        intro e
        have := idxB_get hs
        rw [e, h] at this
        exact hx (Option.some.inj this)
      rw [if_neg (by omega)]
    · have h1 := idxB_new hs
      have h2 := (List.getElem?_eq_some_iff.1 h).1
      rw [if_neg (by omega)]
theorem lastB_zero (T : List ByteArray) (s : ByteArray) : lastB T s 0 = -1 := by unfold lastB; rw [if_neg (by omega)]
theorem lastB_in {T : List ByteArray} {s : ByteArray} (h : s ∈ T) : lastB T s T.length = idxB T s := by unfold lastB; rw [if_pos (idxB_lt h)]
theorem lastB_new {T : List ByteArray} {s : ByteArray} (h : s ∉ T) : lastB T s T.length = -1 := by unfold lastB; rw [idxB_new h, if_neg (by omega)]

set_option maxRecDepth 100000 in
set_option maxHeartbeats 4000000 in
theorem rtab_any (v : Value) (l : List ByteArray) (w : World) (hv : IsTexts w v l) (hl : l.length ≤ 1000000) :
    Calls Tryz.prog 31 #[v] w (TabIs w l) := by
  obtain ⟨a1, c1, rfl, _, f1⟩ := hv
  have F1 := Lib.hid f1
  obtain ⟨n, hn⟩ : ∃ n, n = l.length := ⟨_, rfl⟩
  rw [← hn] at hl ⊢
  have HN := Lib.hid hn
  clear f1 hn
  go_enter Tryz.func31, Tryz.ntmps31
  go_wp2
  go_loopw [4, 5, 12] (fun t a i wr => ∃ (k : Nat) (T : List ByteArray) (N : List Nat), k ≤ n ∧ i = .int .i64 k ∧ T.length ≤ k ∧ N.length = k ∧ T.Nodup ∧ tabK [] l = tabK T (l.drop k) ∧ atK [] l = N ++ atK T (l.drop k) ∧
      ownsS wr w.heap.size t T ∧ ownsN wr w.heap.size a N ∧ Below w.heap.size w wr) (fun _ _ i _ => n - (intOf i).toNat)
  case atStart => exact ⟨0, [], [], Nat.zero_le _, rfl, Nat.le_refl _, rfl, List.nodup_nil, rfl, rfl, ownsS_nil _ _, ownsN_nil _ _, Below.refl _ _⟩
  case round =>
    obtain ⟨k, T, N, hk, rfl, hT, hN, hnd, ht, ha, hos, hon, hbel⟩ := hrel
    have HT := Lib.hid ht
    have HA := Lib.hid ha
    have HO := Lib.hid hos
    have HQ := Lib.hid hon
    have HB := Lib.hid hbel
    have HNL := Lib.hid hN
    have HTL := Lib.hid hT
    have HND := Lib.hid hnd
    obtain ⟨ad, cp, rfl, _, g1⟩ := hos.isTexts
    have G1 := Lib.hid g1
    clear ht ha hos hon hbel hN hT hnd g1
    by_cases hlt : k < n
    · obtain ⟨s, hs⟩ : ∃ s, l[k]? = some s := ⟨l[k]'(by have := HN.out; omega), List.getElem?_eq_getElem _⟩
      obtain ⟨b1, o1, rfl, hb1, p0⟩ := F1.out k s hs
      have q0 := (HB.out.cell (p := ⟨b1, o1 + k, none⟩) hb1).trans p0
      obtain ⟨m, hm⟩ : ∃ m, m = T.length := ⟨_, rfl⟩
      have HM := Lib.hid hm
      have hml : m ≤ 1000000 := by have := HTL.out; omega
      rw [← hm]
      clear p0 hm
      go_wp2
      go_loop [8, 18] (fun x i => ∃ q : Nat, q ≤ m ∧ i = .int .i64 q ∧ x = .int .i64 (lastB T s q)) (fun _ i => m - (intOf i).toNat)
      case atStart => exact ⟨0, Nat.zero_le _, rfl, by rw [lastB_zero]⟩
      case round =>
        obtain ⟨q, hq, rfl, rfl⟩ := hrel
        by_cases hlt2 : q < m
        · obtain ⟨x, hx⟩ : ∃ x, T[q]? = some x := ⟨T[q]'(by have := HM.out; omega), List.getElem?_eq_getElem _⟩
          obtain ⟨b2, o2, rfl, hb2, p2⟩ := G1.out q x hx
          by_cases he : x = s
          · subst he
            have HH := Lib.hid (lastB_hit HND.out hx)
            have hb := beq_same x
            clear hx
            go_wp2
            go_round
            case rel => exact ⟨q + 1, by omega, by go_num, by rw [HH.out]⟩
            case measure => simp [intOf]; omega
          · have HH := Lib.hid (lastB_miss hx he)
            have hb := beq_diff he
            clear hx
            go_wp2
            go_round
            case rel => exact ⟨q + 1, by omega, by go_num, by rw [HH.out]⟩
            case measure => simp [intOf]; omega
        · obtain rfl : q = m := by omega
          by_cases hin : s ∈ T
          · have HJ := Lib.hid (show lastB T s q = idxB T s by rw [HM.out]; exact lastB_in hin)
            have HT2 := Lib.hid (HT.out.trans (tabK_in hs hin))
            have HA2 := Lib.hid (HA.out.trans (congrArg (N ++ ·) (atK_in hs hin)))
            obtain ⟨j, hj⟩ : ∃ j, idxB T s = j := ⟨_, rfl⟩
            have hjm : j ≤ 1000000 := by have := idxB_lt hin; have := HM.out; omega
            rw [hj] at HJ HA2
            rw [HJ.out]
            clear hs hj
            go_wp2_with (at_builtin; refine wpList_append_int rfl _ _ rfl w.heap.size _ N rfl (HQ.out.alloc _) ⟨wr.heap.size, 0, none⟩ 1 rfl j ?c1 ?c2 ?c3 ?_)
            case c2 => have := HNL.out; omega
            case c3 => have := HB.out.size; simp; omega
            intro g cap w1 ho1 hg1
            have hbel1 : Below w.heap.size w w1 := (HB.out.alloc HB.out.size _).grown hg1 (by have := HB.out.size; simp; omega) (fun g hg => (HQ.out.lt g hg).1)
            have hs1 : ownsS w1 w.heap.size _ T := World.ownsRow.kept (HO.out.alloc _) hg1 (rows_apart HO.out HQ.out (show 9 ≠ 3 by decide))
            have ha1 : atK [] l = (N ++ [j]) ++ atK T (l.drop (k + 1)) := by rw [HA2.out]; simp
            have hn1 : (N ++ [j]).length = k + 1 := by have := HNL.out; simp; omega
            have hTn : T.length = q := HM.out.symm
            rw [← hTn]
            have HX := Lib.hid (And.intro hbel1 (And.intro hs1 (And.intro ha1 (And.intro hn1 ho1))))
            clear hbel1 hs1 ha1 hn1 ho1 hg1
            go_wp2
            go_roundw
            case rel => exact ⟨k + 1, T, N ++ [j], by omega, by go_num, by have := HTL.out; omega, HX.out.2.2.2.1, HND.out, HT2.out, HX.out.2.2.1, HX.out.2.1, by simpa using HX.out.2.2.2.2, HX.out.1⟩
            case measure => simp [intOf]; omega
          · have HJ := Lib.hid (show lastB T s q = -1 by rw [HM.out]; exact lastB_new hin)
            have HT2 := Lib.hid (HT.out.trans (tabK_new hs hin))
            have HA2 := Lib.hid (HA.out.trans (congrArg (N ++ ·) (atK_new hs hin)))
            rw [HJ.out]
            clear hs
            have hTn : T.length = q := HM.out.symm
            rw [← hTn]
            have hTm : T.length ≤ 1000000 := by omega
            have HTE := Lib.hid hTn
            clear hTn
            go_wp2_with (at_builtin; refine wpList_append_str rfl _ _ rfl w.heap.size _ T rfl (HO.out.alloc _) ⟨wr.heap.size, 0, none⟩ 1 rfl s (by simp [Addr.add]) (by have := HTL.out; omega) (by have := HB.out.size; simp; omega) ?_)
            intro g cap w3 ho3 hg3
            have HB3 : Hid (Below w.heap.size w w3) := (HB.out.alloc HB.out.size _).grown hg3 (by have := HB.out.size; simp; omega) (fun g hg => (HO.out.lt g hg).1)
            have HN3 := Lib.hid (show ownsN w3 w.heap.size _ N from World.ownsRow.kept (HQ.out.alloc _) hg3 (rows_apart HQ.out HO.out (show 3 ≠ 9 by decide)))
            have HS3 := Lib.hid ho3
            clear ho3 hg3 HB HO HQ
            go_wp2_with (at_builtin; refine wpList_append_int rfl _ _ rfl w.heap.size _ N rfl (HN3.out.alloc _) ⟨w3.heap.size, 0, none⟩ 1 rfl T.length (by simp [Addr.add]) (by have := HNL.out; omega) (by have := HB3.out.size; simp; omega) ?_)
            intro g' cap' w4 ho4 hg4
            have HB4 : Hid (Below w.heap.size w w4) := (HB3.out.alloc HB3.out.size _).grown hg4 (by have := HB3.out.size; simp; omega) (fun g hg => (HN3.out.lt g hg).1)
            have HS4 := Lib.hid (show ownsS w4 w.heap.size _ (T ++ [s]) from World.ownsRow.kept (HS3.out.alloc _) hg4 (rows_apart HS3.out HN3.out (show 9 ≠ 3 by decide)))
            have HN4 := Lib.hid ho4
            have HA4 : Hid (atK [] l = (N ++ [T.length]) ++ atK (T ++ [s]) (l.drop (k + 1))) := Lib.hid (show _ = _ by rw [HA2.out]; simp)
            have HL4 : Hid ((N ++ [T.length]).length = k + 1 ∧ (T ++ [s]).length ≤ k + 1) := Lib.hid (show _ ∧ _ by have := HNL.out; have := HTL.out; simp; omega)
            have HD4 : Hid ((T ++ [s]).Nodup) := Lib.hid (show _ by have := addK_nodup (s := s) HND.out; rwa [addK_new hin] at this)
            clear ho4 hg4 HB3 HS3 HN3 HA2
            go_wp2
            go_roundw
            case rel => exact ⟨k + 1, T ++ [s], N ++ [T.length], by omega, by go_num, HL4.out.2, HL4.out.1, HD4.out, HT2.out, HA4.out, HS4.out, HN4.out, HB4.out⟩
            case measure => simp [intOf]; omega
    · have HT2 : Hid (tabK [] l = T) := Lib.hid (show _ = _ by rw [HT.out, List.drop_eq_nil_of_le (by have := HN.out; omega)]; rfl)
      have HA2 : Hid (atK [] l = N) := Lib.hid (show _ = _ by rw [HA.out, List.drop_eq_nil_of_le (by have := HN.out; omega)]; simp [atK])
      go_wp2
      go_ret2
      refine ⟨_, _, rfl, ?_, ?_, HB.out⟩
      · rw [HT2.out]; exact HO.out
      · rw [HA2.out]; exact HQ.out
end Go.Proofs.YtpmnflnaeknakaaGreatDoor
