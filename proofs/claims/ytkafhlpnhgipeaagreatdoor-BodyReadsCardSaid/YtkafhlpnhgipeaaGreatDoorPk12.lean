import Derived.Test.YtkafhlpnhgipeaaGreatDoorPk05
import Derived.Test.YtkafhlpnhgipeaaGreatDoorPk11
import Derived.Test.YtkafhlpnhgipeaaGreatDoorPk08
import Derived.Test.YtkafhlpnhgipeaaGreatDoorPk01
import Derived.Lib.Hide
import Derived.WalkSmall
import Derived.Outline
import Derived.Test.YtkafhlpnhgipeaaGreatDoorPk07
import Derived.Test.YtkafhlpnhgipeaaGreatDoorProg
import Derived.WalkKit
import Derived.Handy
import Derived.Test.YtkafhlpnhgipeaaGreatDoorPk03
import Derived.Laws.OwnMore
import Derived.Test.YtkafhlpnhgipeaaGreatDoorPk04
/-
  The contract of keys.Table.
-/
namespace Go.Proofs.YtkafhlpnhgipeaaGreatDoor
open Go.RowKit

theorem kclone_any (s : ByteArray) (w : World) (hs : s.size ≤ 281474976710656) :
    Calls Tryz.prog 89 #[.string s] w fun e w' => e = .returned (.string s) ∧ Below w.heap.size w w' := by
  go_enter Tryz.func89, Tryz.ntmps89
  go_wp2_with fail
  refine (Tryz.stringslite_Clone s _ hs).mono ?_
  rintro r w1 ⟨rfl, hb1⟩
  go_wp2
  go_ret
  exact ⟨rfl, hb1⟩

/-- What Table answers. -/
def TabIs (w : World) (l : List ByteArray) (e : Ending) (w' : World) : Prop :=
  ∃ v1 v2, e = .returned (.tuple #[v1, v2]) ∧ ownsS w' w.heap.size v1 (tabK [] l) ∧ ownsN w' w.heap.size v2 (atK [] l) ∧ Below w.heap.size w w'

set_option maxRecDepth 100000 in
set_option maxHeartbeats 4000000 in
theorem ktab_any (v : Value) (l : List ByteArray) (w : World) (hv : IsTexts w v l) (hl : l.length ≤ 1000000) (hs : ∀ s ∈ l, s.size ≤ 140737488351232) :
    Calls Tryz.prog 54 #[v] w (TabIs w l) := by
  obtain ⟨a1, c1, rfl, _, f1⟩ := hv
  have F1 := Lib.hid f1
  have HS := Lib.hid hs
  obtain ⟨n, hn⟩ : ∃ n, n = l.length := ⟨_, rfl⟩
  rw [← hn] at hl ⊢
  have HN := Lib.hid hn
  clear f1 hs hn
  have hmm := @run_makeMap Tryz.prog
  go_enter Tryz.func54, Tryz.ntmps54
  go_wp2
  go_loopw [2, 3, 12] (fun t a i wr => ∃ (k : Nat) (T : List ByteArray) (N : List Nat), k ≤ n ∧ i = .int .i64 k ∧ T.length ≤ k ∧ N.length = k ∧ tabK [] l = tabK T (l.drop k) ∧ atK [] l = N ++ atK T (l.drop k) ∧
      ownsNum wr w.heap.size k T ∧ ownsS wr (w.heap.size + 1) t T ∧ ownsN wr (w.heap.size + 1) a N ∧ w.heap.size + 1 ≤ wr.heap.size ∧ Below w.heap.size w wr) (fun _ _ i _ => n - (intOf i).toNat)
  case atStart => exact ⟨0, [], [], Nat.zero_le _, rfl, Nat.le_refl _, rfl, rfl, rfl, ownsNum_made _, ownsS_nil _ _, ownsN_nil _ _, by simp, (Below.refl _ _).alloc (Nat.le_refl _) _⟩
  case round =>
    obtain ⟨k, T, N, hk, rfl, hT, hN, ht, ha, hmap, hos, hon, hz, hbel⟩ := hrel
    have HT := Lib.hid ht
    have HA := Lib.hid ha
    have HM := Lib.hid hmap
    have HO := Lib.hid hos
    have HQ := Lib.hid hon
    have HB := Lib.hid hbel
    have HZ := Lib.hid hz
    have HNL := Lib.hid hN
    have HTL := Lib.hid hT
    obtain ⟨ad, cp, rfl, _, _⟩ := hos.isTexts
    clear ht ha hmap hos hon hbel hN hT hz
    by_cases hlt : k < n
    · obtain ⟨s, hs⟩ : ∃ s, l[k]? = some s := ⟨l[k]'(by have := HN.out; omega), List.getElem?_eq_getElem _⟩
      obtain ⟨b1, o1, rfl, hb1, p0⟩ := F1.out k s hs
      have q0 := (HB.out.cell (p := ⟨b1, o1 + k, none⟩) hb1).trans p0
      have HSZ : Hid (s.size ≤ 140737488351232) := Lib.hid (HS.out s (List.mem_of_getElem? hs))
      have hsz : s.size ≤ maxLen := by have := HSZ.out; unfold maxLen; omega
      by_cases hin : s ∈ T
      · have HJ := Lib.hid (idxB_get hin)
        have HT2 := Lib.hid (HT.out.trans (tabK_in hs hin))
        have HA2 := Lib.hid (HA.out.trans (congrArg (N ++ ·) (atK_in hs hin)))
        obtain ⟨j, hj⟩ : ∃ j, idxB T s = j := ⟨_, rfl⟩
        rw [hj] at HJ HA2
        clear p0 hs hj
        go_wp2_with (first
          | (at_lookup; refine wpList_num_there rfl _ _ rfl w.heap.size k T rfl HM.out s rfl hsz j HJ.out ?_)
          | (at_builtin; refine wpList_append_int rfl _ _ rfl (w.heap.size + 1) _ N rfl (HQ.out.alloc _) ⟨wr.heap.size, 0, none⟩ 1 rfl j ?c1 ?c2 ?c3 ?_))
        case c1 => simp [Addr.add]
        case c2 => have := HNL.out; omega
        case c3 => have := HZ.out; simp; omega
        intro g cap w1 ho1 hg1
        have hbel1 : Below w.heap.size w w1 := (HB.out.alloc HB.out.size _).grown hg1 (by have := HB.out.size; simp; omega) (fun g hg => by have := (HQ.out.lt g hg).1; omega)
        have hm1 : ownsNum w1 w.heap.size (k + 1) T := ((HM.out.mono (Nat.le_succ k)).alloc _).kept hg1 (by intro e; exact HQ.out.off (Nat.lt_succ_self _) e.symm)
        have hs1 : ownsS w1 (w.heap.size + 1) _ T := World.ownsRow.kept (HO.out.alloc _) hg1 (rows_apart HO.out HQ.out (show 9 ≠ 3 by decide))
        have hz1 : w.heap.size + 1 ≤ w1.heap.size := by have := HZ.out; have := hg1.size; simp at this; omega
        have ha1 : atK [] l = (N ++ [j]) ++ atK T (l.drop (k + 1)) := by rw [HA2.out]; simp
        have hn1 : (N ++ [j]).length = k + 1 := by have := HNL.out; simp; omega
        have HNL1 : Hid (N.length + 1 = (N ++ [j]).length) := Lib.hid (show N.length + 1 = (N ++ [j]).length by simp)
        rw [HNL1.out] at ho1
        have HX := Lib.hid (And.intro hbel1 (And.intro hm1 (And.intro hs1 (And.intro hz1 (And.intro ha1 (And.intro hn1 ho1))))))
        clear hbel1 hm1 hs1 hz1 ha1 hn1 ho1 hg1
        go_wp2
        go_roundw
        case rel => exact ⟨k + 1, T, N ++ [j], by omega, by go_num, by have := HTL.out; omega, HX.out.2.2.2.2.2.1, HT2.out, HX.out.2.2.2.2.1, HX.out.2.1, HX.out.2.2.1, by simpa using HX.out.2.2.2.2.2.2, HX.out.2.2.2.1, HX.out.1⟩
        case measure => simp [intOf]; omega
      · have HT2 := Lib.hid (HT.out.trans (tabK_new hs hin))
        have HA2 := Lib.hid (HA.out.trans (congrArg (N ++ ·) (atK_new hs hin)))
        have HTM : Hid (T.length ≤ maxLen) := Lib.hid (by show T.length ≤ maxLen; have := HTL.out; unfold maxLen; omega)
        clear p0 hs
        go_wp2_with (first
          | (at_lookup; refine wpList_num_none rfl _ _ rfl w.heap.size k T rfl HM.out s rfl hsz hin ?_; intro c)
          | (at_mapUpdate; refine wpList_num_put rfl _ _ _ rfl w.heap.size k T rfl HM.out (by unfold maxLen; omega) s rfl rfl hsz hin HTM.out ?_; intro w1 hm1 hg1))
        have hbel1 : Below w.heap.size w w1 := HB.out.grown hg1 HB.out.size (fun g hg => by cases hg; exact Nat.le_refl _)
        have hs1 : ownsS w1 (w.heap.size + 1) _ T := World.ownsRow.kept HO.out hg1 (.inr (HO.out.off (Nat.lt_succ_self _)))
        have hn1 : ownsN w1 (w.heap.size + 1) _ N := World.ownsRow.kept HQ.out hg1 (.inr (HQ.out.off (Nat.lt_succ_self _)))
        have hz1 : w.heap.size + 1 ≤ w1.heap.size := Nat.le_trans HZ.out hg1.size
        have HX := Lib.hid (And.intro hbel1 (And.intro hm1 (And.intro hs1 (And.intro hn1 hz1))))
        clear hbel1 hm1 hs1 hn1 hz1 hg1
        refine (kclone_any s w1 (by have := HSZ.out; omega)).mono ?_
        rintro r w2 ⟨rfl, hb2⟩
        have HB2 := Lib.hid (HX.out.1.trans (hb2.mono HX.out.1.size))
        have HM2 := Lib.hid (HX.out.2.1.below hb2)
        have HS2 := Lib.hid (HX.out.2.2.1.below hb2)
        have HN2 := Lib.hid (HX.out.2.2.2.1.below hb2)
        have HZ2 := Lib.hid (Nat.le_trans HX.out.2.2.2.2 hb2.size)
        clear hb2 HX HM HO HQ HB HZ
        go_wp2_with (at_builtin; refine wpList_append_str rfl _ _ rfl (w.heap.size + 1) _ T rfl (HS2.out.alloc _) ⟨w2.heap.size, 0, none⟩ 1 rfl s ?c1 ?c2 ?c3 ?_)
        case c1 => simp [Addr.add]
        case c2 => have := HTL.out; omega
        case c3 => have := HZ2.out; simp; omega
        intro g cap w3 ho3 hg3
        have HB3 : Hid (Below w.heap.size w w3) := (HB2.out.alloc HB2.out.size _).grown hg3 (by have := HB2.out.size; simp; omega) (fun g hg => by have := (HS2.out.lt g hg).1; omega)
        have HM3 := Lib.hid ((HM2.out.alloc _).kept hg3 (by intro e; exact HS2.out.off (Nat.lt_succ_self _) e.symm))
        have HN3 := Lib.hid (show ownsN w3 (w.heap.size + 1) _ N from World.ownsRow.kept (HN2.out.alloc _) hg3 (rows_apart HN2.out HS2.out (show 3 ≠ 9 by decide)))
        have HZ3 : Hid (w.heap.size + 1 ≤ w3.heap.size) := Lib.hid (by show _ ≤ _; have := HZ2.out; have := hg3.size; simp at this; omega)
        have HS3 := Lib.hid ho3
        clear ho3 hg3 HB2 HM2 HS2 HN2 HZ2
        go_wp2_with (at_builtin; refine wpList_append_int rfl _ _ rfl (w.heap.size + 1) _ N rfl (HN3.out.alloc _) ⟨w3.heap.size, 0, none⟩ 1 rfl T.length ?d1 ?d2 ?d3 ?_)
        case d1 => simp [Addr.add]
        case d2 => have := HNL.out; omega
        case d3 => have := HZ3.out; simp; omega
        intro g' cap' w4 ho4 hg4
        have HB4 : Hid (Below w.heap.size w w4) := (HB3.out.alloc HB3.out.size _).grown hg4 (by have := HB3.out.size; simp; omega) (fun g hg => by have := (HN3.out.lt g hg).1; omega)
        have HM4 := Lib.hid ((HM3.out.alloc _).kept hg4 (by intro e; exact HN3.out.off (Nat.lt_succ_self _) e.symm))
        have HS4 := Lib.hid (show ownsS w4 (w.heap.size + 1) _ (T ++ [s]) from World.ownsRow.kept (HS3.out.alloc _) hg4 (rows_apart HS3.out HN3.out (show 9 ≠ 3 by decide)))
        have HZ4 : Hid (w.heap.size + 1 ≤ w4.heap.size) := Lib.hid (by show _ ≤ _; have := HZ3.out; have := hg4.size; simp at this; omega)
        have HN4 := Lib.hid ho4
        have HA4 : Hid (atK [] l = (N ++ [T.length]) ++ atK (T ++ [s]) (l.drop (k + 1))) := Lib.hid (show _ = _ by rw [HA2.out]; simp)
        have HL4 : Hid ((N ++ [T.length]).length = k + 1 ∧ (T ++ [s]).length ≤ k + 1) := Lib.hid (show _ ∧ _ by have := HNL.out; have := HTL.out; simp; omega)
        clear ho4 hg4 HB3 HM3 HS3 HN3 HZ3 HA2
        go_wp2
        go_roundw
        case rel => exact ⟨k + 1, T ++ [s], N ++ [T.length], by omega, by go_num, HL4.out.2, HL4.out.1, HT2.out, HA4.out, HM4.out, HS4.out, HN4.out, HZ4.out, HB4.out⟩
        case measure => simp [intOf]; omega
    · have HT2 : Hid (tabK [] l = T) := Lib.hid (show _ = _ by rw [HT.out, List.drop_eq_nil_of_le (by have := HN.out; omega)]; rfl)
      have HA2 : Hid (atK [] l = N) := Lib.hid (show _ = _ by rw [HA.out, List.drop_eq_nil_of_le (by have := HN.out; omega)]; simp [atK])
      go_wp2
      go_ret2
      refine ⟨_, _, rfl, ?_, ?_, HB.out⟩
      · rw [HT2.out]; exact HO.out.mono (Nat.le_succ _)
      · rw [HA2.out]; exact HQ.out.mono (Nat.le_succ _)
end Go.Proofs.YtkafhlpnhgipeaaGreatDoor
/-
  The contract of the document's Table.
-/
namespace Go.Proofs.YtkafhlpnhgipeaaGreatDoor
open Go.RowKit

/-- Where a text stands last among the first i, so far. -/
def lastB (T : List ByteArray) (s : ByteArray) (i : Nat) : Int := if idxB T s < i then (idxB T s : Int) else -1
theorem lastB_hit {T : List ByteArray} (hn : T.Nodup) {s : ByteArray} {i : Nat} (h : T[i]? = some s) : lastB T s (i + 1) = i := by
  unfold lastB; rw [idxB_at hn h, if_pos (by omega)]
theorem lastB_miss {T : List ByteArray} {s x : ByteArray} {i : Nat} (h : T[i]? = some x) (hx : x ≠ s) : lastB T s (i + 1) = lastB T s i := by
  unfold lastB
  by_cases hi : idxB T s < i
  · rw [if_pos hi, if_pos (by omega)]
  · rw [if_neg hi]
    by_cases hs : s ∈ T
    · have : idxB T s ≠ i := by
        intro e
        have := idxB_get hs
        rw [e, h] at this
        exact hx (Option.some.inj this)
      rw [if_neg (by omega)]
    · have h1 := idxB_new hs
      have h2 := (List.getElem?_eq_some_iff.1 h).1
      rw [if_neg (by omega)]
theorem lastB_zero (T : List ByteArray) (s : ByteArray) : lastB T s 0 = -1 := by unfold lastB; rw [if_neg (by omega)]
theorem lastB_in {T : List ByteArray} {s : ByteArray} (h : s ∈ T) : lastB T s T.length = idxB T s := by unfold lastB; rw [if_pos (idxB_lt h)]
theorem lastB_new {T : List ByteArray} {s : ByteArray} (h : s ∉ T) : lastB T s T.length = -1 := by unfold lastB; rw [idxB_new h, if_neg (by omega)]

set_option maxRecDepth 100000 in
set_option maxHeartbeats 4000000 in
theorem rtab_any (v : Value) (l : List ByteArray) (w : World) (hv : IsTexts w v l) (hl : l.length ≤ 1000000) :
    Calls Tryz.prog 14 #[v] w (TabIs w l) := by
  obtain ⟨a1, c1, rfl, _, f1⟩ := hv
  have F1 := Lib.hid f1
  obtain ⟨n, hn⟩ : ∃ n, n = l.length := ⟨_, rfl⟩
  rw [← hn] at hl ⊢
  have HN := Lib.hid hn
  clear f1 hn
  go_enter Tryz.func14, Tryz.ntmps14
  go_wp2
  go_loopw [4, 5, 12] (fun t a i wr => ∃ (k : Nat) (T : List ByteArray) (N : List Nat), k ≤ n ∧ i = .int .i64 k ∧ T.length ≤ k ∧ N.length = k ∧ T.Nodup ∧ tabK [] l = tabK T (l.drop k) ∧ atK [] l = N ++ atK T (l.drop k) ∧
      ownsS wr w.heap.size t T ∧ ownsN wr w.heap.size a N ∧ Below w.heap.size w wr) (fun _ _ i _ => n - (intOf i).toNat)
  case atStart => exact ⟨0, [], [], Nat.zero_le _, rfl, Nat.le_refl _, rfl, List.nodup_nil, rfl, rfl, ownsS_nil _ _, ownsN_nil _ _, Below.refl _ _⟩
  case round =>
    obtain ⟨k, T, N, hk, rfl, hT, hN, hnd, ht, ha, hos, hon, hbel⟩ := hrel
    have HT := Lib.hid ht
    have HA := Lib.hid ha
    have HO := Lib.hid hos
    have HQ := Lib.hid hon
    have HB := Lib.hid hbel
    have HNL := Lib.hid hN
    have HTL := Lib.hid hT
    have HND := Lib.hid hnd
    obtain ⟨ad, cp, rfl, _, g1⟩ := hos.isTexts
    have G1 := Lib.hid g1
    clear ht ha hos hon hbel hN hT hnd g1
    by_cases hlt : k < n
    · obtain ⟨s, hs⟩ : ∃ s, l[k]? = some s := ⟨l[k]'(by have := HN.out; omega), List.getElem?_eq_getElem _⟩
      obtain ⟨b1, o1, rfl, hb1, p0⟩ := F1.out k s hs
      have q0 := (HB.out.cell (p := ⟨b1, o1 + k, none⟩) hb1).trans p0
      obtain ⟨m, hm⟩ : ∃ m, m = T.length := ⟨_, rfl⟩
      have HM := Lib.hid hm
      have hml : m ≤ 1000000 := by have := HTL.out; omega
      rw [← hm]
      clear p0 hm
      go_wp2
      go_loop [8, 18] (fun x i => ∃ q : Nat, q ≤ m ∧ i = .int .i64 q ∧ x = .int .i64 (lastB T s q)) (fun _ i => m - (intOf i).toNat)
      case atStart => exact ⟨0, Nat.zero_le _, rfl, by rw [lastB_zero]⟩
      case round =>
        obtain ⟨q, hq, rfl, rfl⟩ := hrel
        by_cases hlt2 : q < m
        · obtain ⟨x, hx⟩ : ∃ x, T[q]? = some x := ⟨T[q]'(by have := HM.out; omega), List.getElem?_eq_getElem _⟩
          obtain ⟨b2, o2, rfl, hb2, p2⟩ := G1.out q x hx
          by_cases he : x = s
          · subst he
            have HH := Lib.hid (lastB_hit HND.out hx)
            have hb := beq_same x
            clear hx
            go_wp2
            go_round
            case rel => exact ⟨q + 1, by omega, by go_num, by rw [HH.out]⟩
            case measure => simp [intOf]; omega
          · have HH := Lib.hid (lastB_miss hx he)
            have hb := beq_diff he
            clear hx
            go_wp2
            go_round
            case rel => exact ⟨q + 1, by omega, by go_num, by rw [HH.out]⟩
            case measure => simp [intOf]; omega
        · obtain rfl : q = m := by omega
          by_cases hin : s ∈ T
          · have HJ := Lib.hid (show lastB T s q = idxB T s by rw [HM.out]; exact lastB_in hin)
            have HT2 := Lib.hid (HT.out.trans (tabK_in hs hin))
            have HA2 := Lib.hid (HA.out.trans (congrArg (N ++ ·) (atK_in hs hin)))
            obtain ⟨j, hj⟩ : ∃ j, idxB T s = j := ⟨_, rfl⟩
            have hjm : j ≤ 1000000 := by have := idxB_lt hin; have := HM.out; omega
            rw [hj] at HJ HA2
            rw [HJ.out]
            clear hs hj
            go_wp2_with (at_builtin; refine wpList_append_int rfl _ _ rfl w.heap.size _ N rfl (HQ.out.alloc _) ⟨wr.heap.size, 0, none⟩ 1 rfl j ?c1 ?c2 ?c3 ?_)
            case c2 => have := HNL.out; omega
            case c3 => have := HB.out.size; simp; omega
            intro g cap w1 ho1 hg1
            have hbel1 : Below w.heap.size w w1 := (HB.out.alloc HB.out.size _).grown hg1 (by have := HB.out.size; simp; omega) (fun g hg => (HQ.out.lt g hg).1)
            have hs1 : ownsS w1 w.heap.size _ T := World.ownsRow.kept (HO.out.alloc _) hg1 (rows_apart HO.out HQ.out (show 9 ≠ 3 by decide))
            have ha1 : atK [] l = (N ++ [j]) ++ atK T (l.drop (k + 1)) := by rw [HA2.out]; simp
            have hn1 : (N ++ [j]).length = k + 1 := by have := HNL.out; simp; omega
            have hTn : T.length = q := HM.out.symm
            rw [← hTn]
            have HX := Lib.hid (And.intro hbel1 (And.intro hs1 (And.intro ha1 (And.intro hn1 ho1))))
            clear hbel1 hs1 ha1 hn1 ho1 hg1
            go_wp2
            go_roundw
            case rel => exact ⟨k + 1, T, N ++ [j], by omega, by go_num, by have := HTL.out; omega, HX.out.2.2.2.1, HND.out, HT2.out, HX.out.2.2.1, HX.out.2.1, by simpa using HX.out.2.2.2.2, HX.out.1⟩
            case measure => simp [intOf]; omega
          · have HJ := Lib.hid (show lastB T s q = -1 by rw [HM.out]; exact lastB_new hin)
            have HT2 := Lib.hid (HT.out.trans (tabK_new hs hin))
            have HA2 := Lib.hid (HA.out.trans (congrArg (N ++ ·) (atK_new hs hin)))
            rw [HJ.out]
            clear hs
            have hTn : T.length = q := HM.out.symm
            rw [← hTn]
            have hTm : T.length ≤ 1000000 := by omega
            have HTE := Lib.hid hTn
            clear hTn
            go_wp2_with (at_builtin; refine wpList_append_str rfl _ _ rfl w.heap.size _ T rfl (HO.out.alloc _) ⟨wr.heap.size, 0, none⟩ 1 rfl s (by simp [Addr.add]) (by have := HTL.out; omega) (by have := HB.out.size; simp; omega) ?_)
            intro g cap w3 ho3 hg3
            have HB3 : Hid (Below w.heap.size w w3) := (HB.out.alloc HB.out.size _).grown hg3 (by have := HB.out.size; simp; omega) (fun g hg => (HO.out.lt g hg).1)
            have HN3 := Lib.hid (show ownsN w3 w.heap.size _ N from World.ownsRow.kept (HQ.out.alloc _) hg3 (rows_apart HQ.out HO.out (show 3 ≠ 9 by decide)))
            have HS3 := Lib.hid ho3
            clear ho3 hg3 HB HO HQ
            go_wp2_with (at_builtin; refine wpList_append_int rfl _ _ rfl w.heap.size _ N rfl (HN3.out.alloc _) ⟨w3.heap.size, 0, none⟩ 1 rfl T.length (by simp [Addr.add]) (by have := HNL.out; omega) (by have := HB3.out.size; simp; omega) ?_)
            intro g' cap' w4 ho4 hg4
            have HB4 : Hid (Below w.heap.size w w4) := (HB3.out.alloc HB3.out.size _).grown hg4 (by have := HB3.out.size; simp; omega) (fun g hg => (HN3.out.lt g hg).1)
            have HS4 := Lib.hid (show ownsS w4 w.heap.size _ (T ++ [s]) from World.ownsRow.kept (HS3.out.alloc _) hg4 (rows_apart HS3.out HN3.out (show 9 ≠ 3 by decide)))
            have HN4 := Lib.hid ho4
            have HA4 : Hid (atK [] l = (N ++ [T.length]) ++ atK (T ++ [s]) (l.drop (k + 1))) := Lib.hid (show _ = _ by rw [HA2.out]; simp)
            have HL4 : Hid ((N ++ [T.length]).length = k + 1 ∧ (T ++ [s]).length ≤ k + 1) := Lib.hid (show _ ∧ _ by have := HNL.out; have := HTL.out; simp; omega)
            have HD4 : Hid ((T ++ [s]).Nodup) := Lib.hid (show _ by have := addK_nodup (s := s) HND.out; rwa [addK_new hin] at this)
            clear ho4 hg4 HB3 HS3 HN3 HA2
            go_wp2
            go_roundw
            case rel => exact ⟨k + 1, T ++ [s], N ++ [T.length], by omega, by go_num, HL4.out.2, HL4.out.1, HD4.out, HT2.out, HA4.out, HS4.out, HN4.out, HB4.out⟩
            case measure => simp [intOf]; omega
    · have HT2 : Hid (tabK [] l = T) := Lib.hid (show _ = _ by rw [HT.out, List.drop_eq_nil_of_le (by have := HN.out; omega)]; rfl)
      have HA2 : Hid (atK [] l = N) := Lib.hid (show _ = _ by rw [HA.out, List.drop_eq_nil_of_le (by have := HN.out; omega)]; simp [atK])
      go_wp2
      go_ret2
      refine ⟨_, _, rfl, ?_, ?_, HB.out⟩
      · rw [HT2.out]; exact HO.out
      · rw [HA2.out]; exact HQ.out
end Go.Proofs.YtkafhlpnhgipeaaGreatDoor
/-
  Bodies, plain: what is so of a right batch's body; what is written is read; what is read is written so.
-/
namespace Go.Proofs.YtkafhlpnhgipeaaGreatDoor
open Go.RowKit

theorem late_time {q x : Wr} (h : late q x) : q.time ≤ x.time := by
  unfold late cI orF cmpF wid at h
  simp only at h
  split at h <;> split at h <;> simp_all <;> omega

/-- What is so of each write of a right batch. -/
def wGood (h : List Ent) (x : Wr) : Prop := wE x = 0 ∧ placeF h x.rep < h.length
theorem wE_facts {x : Wr} (h : wE x = 0) : 1 ≤ x.kind ∧ x.kind ≤ 4 ∧ 1 ≤ x.time ∧ x.time ≤ 1099511627776 ∧ 0 ≤ x.rep ∧ x.rep ≤ 200 ∧ x.key.size ≤ 40 ∧ x.value.size ≤ 300 ∧ (tailL x).length ≤ 320 ∧ WrOk x := by
  obtain ⟨h1, h2, h3, h4, h5, h6⟩ := wriE_good h
  unfold idOk at h2
  have h2 := of_decide_eq_true h2
  have hn := numB_size h6
  have hs := spanB_le h4
  have hv : (valB x.kind x.value).size ≤ 310 := by unfold valB; split <;> first | exact hs | exact Nat.zero_le _
  have ht : (tailL x).length ≤ 320 := by unfold tailL; rw [← size_data, back_t]; omega
  have hN : -9223372036854775808 ≤ x.n ∧ x.n ≤ 9223372036854775807 := by
    unfold fitsN at h6
    by_cases k3 : x.kind = 3
    · rw [if_pos k3] at h6; simp only [Bool.and_eq_true, decide_eq_true_eq] at h6; omega
    · rw [if_neg k3] at h6
      by_cases k4 : x.kind = 4
      · rw [if_pos k4] at h6; simp only [Bool.and_eq_true, decide_eq_true_eq] at h6; omega
      · have : x.n = 0 := by
          by_cases hN : x.n = 0
          · exact hN
          · exact absurd (.inr ⟨hN, by unfold hasN; rw [decide_eq_false k3, decide_eq_false k4]; rfl⟩) h5
        omega
  exact ⟨by omega, by omega, h2.1, h2.2.1, h2.2.2.1, h2.2.2.2, h3, h4, ht, hN.1, hN.2, by omega, by omega⟩
theorem place_bound {h : List Ent} {r : Int} {e : Ent} (he : e ∈ h) (hr : e.rep = r) : placeF h r < h.length := List.findIdx_lt_length_of_exists ⟨e, he, by simpa using hr⟩

/-- Writes, each no earlier than the one ahead, with their keys' numbers. -/
def okRow (h : List Ent) (T : List ByteArray) : Int → List Wr → List Nat → Prop
  | _, [], N => N = []
  | _, _ :: _, [] => False
  | ahead, x :: r, n :: N => (wE x = 0 ∧ ahead ≤ x.time ∧ placeF h x.rep < h.length ∧ T[n]? = some x.key) ∧ okRow h T x.time r N
theorem okRow_of (h : List Ent) (l : List Wr) : ∀ (T0 : List ByteArray) (ahead : Int), (∀ x ∈ l, wE x = 0 ∧ ahead ≤ x.time ∧ placeF h x.rep < h.length) → l.Pairwise late → okRow h (tabK T0 (keysW l)) ahead l (atK T0 (keysW l)) := by
  induction l with
  | nil => intro T0 ahead _ _; rfl
  | cons x r ih =>
    intro T0 ahead hx hp
    rw [List.pairwise_cons] at hp
    obtain ⟨h1, h2, h3⟩ := hx x List.mem_cons_self
    refine ⟨⟨h1, h2, h3, ?_⟩, ih (addK T0 x.key) x.time (fun y hy => ⟨(hx y (List.mem_cons_of_mem _ hy)).1, late_time (hp.1 y hy), (hx y (List.mem_cons_of_mem _ hy)).2.2⟩) hp.2⟩
    have hpre : addK T0 x.key <+: tabK T0 (keysW (x :: r)) := tabK_pre (keysW r) (addK T0 x.key)
    have hat : (addK T0 x.key)[idxB T0 x.key]? = some x.key := by
      by_cases hm : x.key ∈ T0
      · rw [addK_in hm]; exact idxB_get hm
      · rw [addK_new hm, idxB_new hm]; simp
    obtain ⟨t, ht⟩ := hpre
    rw [← ht, List.getElem?_append_left (List.getElem?_eq_some_iff.1 hat).1]
    exact hat
theorem right_okRow {f h : List Ent} {l : List Wr} (hr : rightB f h l) : okRow h (tabK [] (keysW l)) 0 l (atK [] (keysW l)) := by
  rw [rightB_iff] at hr
  obtain ⟨⟨g1, g2, g3⟩, g4, g5, g6⟩ := hr
  refine okRow_of h l [] 0 (fun x hx => ?_) g6
  obtain ⟨h1, h2⟩ := g5 x hx
  have hf := wE_facts h1
  refine ⟨h1, by omega, ?_⟩
  unfold wiF wid at h2
  simp only [Bool.and_eq_true, decide_eq_true_eq] at h2
  obtain ⟨e, he, h3, _⟩ := ofF_has (l := h) (x := x.rep) (by omega)
  exact place_bound he h3
theorem okRow_len {h : List Ent} {T : List ByteArray} (l : List Wr) : ∀ (ahead : Int) (N : List Nat), okRow h T ahead l N → N.length = l.length := by
  induction l with
  | nil => intro ahead N hN; have hN : N = [] := hN; rw [hN]; rfl
  | cons x r ih =>
    intro ahead N hN
    cases N with
    | nil => exact absurd hN id
    | cons n N => rw [List.length_cons, List.length_cons, ih _ _ hN.2]

theorem oneB_len {h : List Ent} {ahead : Int} {x : Wr} {n : Nat} (hw : wE x = 0) (hp : placeF h x.rep ≤ 1000) (h0 : 0 ≤ ahead) (hn : n ≤ 1000) : (oneB h ahead x n).length ≤ 351 := by
  have hf := wE_facts hw
  have h1 := putL_le10 (n := (x.time - ahead).toNat) (by omega)
  have h2 := putL_le10 (n := placeF h x.rep) (by omega)
  have h3 := putL_le10 (n := n) (by omega)
  unfold oneB
  simp only [List.length_append, List.length_cons, List.length_nil]
  omega
theorem rowB_len {h : List Ent} {T : List ByteArray} (hh : h.length ≤ 1000) (hT : T.length ≤ 1000) (l : List Wr) : ∀ (ahead : Int) (N : List Nat), 0 ≤ ahead → okRow h T ahead l N → (rowB h ahead l N).length ≤ l.length * 351 := by
  induction l with
  | nil => intro ahead N _ _; simp [rowB]
  | cons x r ih =>
    intro ahead N h0 hN
    cases N with
    | nil => exact absurd hN id
    | cons n N =>
      obtain ⟨⟨h1, h2, h3, h4⟩, h5⟩ := hN
      have hf := wE_facts h1
      have hn : n < T.length := (List.getElem?_eq_some_iff.1 h4).1
      have := oneB_len (n := n) h1 (show placeF h x.rep ≤ 1000 by omega) h0 (by omega)
      have := ih x.time N (by omega) h5
      rw [rowB_cons, List.length_append, List.length_cons]
      omega
theorem textsB_len {T : List ByteArray} (h : ∀ k ∈ T, k.size ≤ 40) : (textsB T).length ≤ T.length * 50 := by
  induction T with
  | nil => simp [textsB]
  | cons k T ih =>
    have h1 := h k List.mem_cons_self
    have h2 := ih fun y hy => h y (List.mem_cons_of_mem _ hy)
    have h3 := putL_le10 (n := k.data.toList.length) (by rw [← size_data]; omega)
    rw [textsB_cons, List.length_append, List.length_cons]
    unfold spanL
    rw [List.length_append, ← size_data]
    rw [← size_data] at h3
    omega
theorem tab_keys {l : List Wr} {k : ByteArray} (hk : k ∈ tabK [] (keysW l)) : ∃ x ∈ l, x.key = k := by
  rcases tabK_sub _ _ _ hk with h | h
  · cases h
  · exact List.mem_map.1 h
theorem tab_small {f h : List Ent} {l : List Wr} (hr : rightB f h l) : (∀ k ∈ tabK [] (keysW l), k.size ≤ 40) ∧ (tabK [] (keysW l)).length ≤ 60 := by
  rw [rightB_iff] at hr
  refine ⟨fun k hk => ?_, ?_⟩
  · obtain ⟨x, hx, rfl⟩ := tab_keys hk
    have := wE_facts (hr.2.2.1 x hx).1
    omega
  · have := tabK_len (keysW l) []
    unfold keysW at this ⊢
    rw [List.length_map] at this
    have := hr.2.1
    simp at *
    omega
theorem vwriteF_right {l : List Ent} (h : rightV l) : vwriteF l = vwriteL l := by unfold vwriteF; rw [if_pos ((vright_ok l).2 h)]

/-! What is written is read. -/
theorem drop_put {s : List UInt8} {a k : Nat} {p : List UInt8} (hp : p = (s.drop a).take k) : s.drop a = p ++ s.drop (a + k) := by
  rw [hp, ← List.drop_drop]; exact (List.take_append_drop _ _).symm
theorem drop_app {s x y : List UInt8} {a : Nat} (h : s.drop a = x ++ y) : s.drop (a + x.length) = y := by
  rw [← List.drop_drop, h, List.drop_left]
theorem fill_tail {T R K : Int} {key val : ByteArray} {N : Int} (h : wriE T R K key val N = 0) (more : List UInt8) :
    fillE T R K key ((tailB K val N).data.toList ++ more) = 0 ∧ fillN K ((tailB K val N).data.toList ++ more) = (tailB K val N).data.toList.length ∧ fillV K ((tailB K val N).data.toList ++ more) = val ∧ (getN K ((tailB K val N).data.toList ++ more)).1 = N := by
  have h1 : getN K ((tailB K val N).data.toList ++ more) = (N, (numB K N).size, 0) := by
    have := back_n h ((valB K val).data.toList ++ more)
    unfold tailB; rw [app_data, List.append_assoc]; exact this
  have h2 : getV K (((tailB K val N).data.toList ++ more).drop (numB K N).size) = (val.data.toList, (valB K val).size, 0) := by rw [back_d]; exact back_v h more
  have hv : (⟨val.data.toList.toArray⟩ : ByteArray) = val := rfl
  refine ⟨?_, ?_, ?_, ?_⟩
  · rw [fillE_w h1 h2, hv]; exact h
  · unfold fillN; rw [h1]; simp only; rw [h2]; simp only; rw [← size_data, back_t]
  · unfold fillV; rw [h1]; simp only; rw [h2]
  · rw [h1]

theorem kindF_cons (c : UInt8) (r : List UInt8) : kindF (c :: r) = if c.toNat < 1 ∨ 4 < c.toNat then (0, 0, 1) else (c.toNat, 1, 0) := rfl
theorem unOne_write {s more : List UInt8} {h : List Ent} {T : List ByteArray} {a n : Nat} {ahead : Int} {x : Wr} (hs : s.drop a = oneB h ahead x n ++ more) (h0 : 0 ≤ ahead) (hw : wE x = 0) (ha : ahead ≤ x.time) (hp : placeF h x.rep < h.length) (hh : h.length ≤ 1000) (hT : T.length ≤ 1000) (hn : T[n]? = some x.key) :
    unOne s h T a ahead = .inr (a + (oneB h ahead x n).length, x, n) := by
  have hf := wE_facts hw
  obtain ⟨hnl, hnk⟩ := List.getElem?_eq_some_iff.1 hn
  obtain ⟨p, hpe⟩ : ∃ p, placeF h x.rep = p := ⟨_, rfl⟩
  have hget : ∃ e, h[p]? = some e ∧ e.rep = x.rep := by
    have h2 := List.findIdx_getElem (p := fun e : Ent => decide (e.rep = x.rep)) (w := hp)
    refine ⟨_, by rw [← hpe]; exact List.getElem?_eq_getElem hp, ?_⟩
    show (h[h.findIdx (fun e => decide (e.rep = x.rep))]'hp).rep = x.rep
    simpa using h2
  obtain ⟨e, he, her⟩ := hget
  obtain ⟨t, ht⟩ : ∃ t, (x.time - ahead).toNat = t := ⟨_, rfl⟩
  have htt : ahead + (t : Int) = x.time := by omega
  unfold oneB at hs ⊢
  rw [hpe, ht] at hs ⊢
  rw [hpe] at hp
  have hk0 : kindF (s.drop a) = (x.kind.toNat, 1, 0) := by
    rw [hs]
    have hc : (UInt8.ofNat x.kind.toNat).toNat = x.kind.toNat := toNat_ofNat_lt (by omega)
    refine (kindF_cons (UInt8.ofNat x.kind.toNat) _).trans ?_
    rw [hc, if_neg (by omega)]
  have e1 : s.drop (a + 1) = putL t ++ (putL p ++ (putL n ++ (tailL x ++ more))) := by
    have := drop_app (x := [UInt8.ofNat x.kind.toNat]) (y := putL t ++ (putL p ++ (putL n ++ (tailL x ++ more)))) (by rw [hs]; simp)
    simpa using this
  have e2 := drop_app e1
  have e3 := drop_app e2
  have e4 := drop_app e3
  have k1 : intL (s.drop (a + 1)) (1099511627776 - ahead) = (t, (putL t).length, 0) := by rw [e1]; exact intL_put _ _ _ (by omega) (by omega)
  have k2 : intL (s.drop (a + 1 + (putL t).length)) ((h.length : Int) - 1) = (p, (putL p).length, 0) := by rw [e2]; exact intL_put _ _ _ (by omega) (by omega)
  have k3 : intL (s.drop (a + 1 + (putL t).length + (putL p).length)) ((T.length : Int) - 1) = (n, (putL n).length, 0) := by rw [e3]; exact intL_put _ _ _ (by omega) (by omega)
  have hrep : (h.getD p ⟨0, 0⟩).rep = x.rep := by rw [List.getD_eq_getElem?_getD, he]; exact her
  have hkey : T.getD n ⟨#[]⟩ = x.key := by rw [List.getD_eq_getElem?_getD, hn]; rfl
  have hkd : ((x.kind.toNat : Nat) : Int) = x.kind := by omega
  obtain ⟨f1, f2, f3, f4⟩ := fill_tail (T := x.time) (R := x.rep) (key := x.key) hw more
  have hok := unOne_ok (s := s) (h := h) (T := T) hk0 k1 k2 k3 (by rw [hrep, hkey, htt, hkd, e4]; exact f1)
  rw [hrep, hkey, htt, hkd, e4] at hok
  unfold tailL at hok ⊢
  rw [f2, f3, f4] at hok
  rw [hok]
  simp only [List.length_append, List.length_cons, List.length_nil]
  refine congrArg Sum.inr (Prod.ext ?_ rfl)
  simp only
  omega
theorem unW_write {s : List UInt8} {h : List Ent} {T : List ByteArray} (hh : h.length ≤ 1000) (hT : T.length ≤ 1000) (l : List Wr) : ∀ (a : Nat) (ahead : Int) (N : List Nat) (W0 : List Wr) (N0 : List Nat) (more : List UInt8), 0 ≤ ahead → okRow h T ahead l N → s.drop a = rowB h ahead l N ++ more →
    unW s h T l.length a ahead W0 N0 = .inr (a + (rowB h ahead l N).length, W0 ++ l, N0 ++ N) := by
  induction l with
  | nil => intro a ahead N W0 N0 more _ hN _; have hN : N = [] := hN; subst hN; simp [unW, rowB]
  | cons x r ih =>
    intro a ahead N W0 N0 more h0 hN hs
    cases N with
    | nil => exact absurd hN id
    | cons n N =>
      obtain ⟨⟨h1, h2, h3, h4⟩, h5⟩ := hN
      have hf := wE_facts h1
      rw [rowB_cons, List.append_assoc] at hs
      have hone := unOne_write hs h0 h1 h2 h3 hh hT h4
      rw [List.length_cons, unW_ok hone, ih _ x.time N _ _ more (by omega) h5 (drop_app hs), rowB_cons, List.length_append]
      simp [Nat.add_assoc]
theorem unT_write {s : List UInt8} (T : List ByteArray) : ∀ (a : Nat) (T0 : List ByteArray) (more : List UInt8), (∀ k ∈ T, k.size ≤ 2000) → s.drop a = textsB T ++ more → unT s T.length a T0 = .inr (a + (textsB T).length, T0 ++ T) := by
  induction T with
  | nil => intro a T0 more _ _; simp [unT, textsB]
  | cons k T ih =>
    intro a T0 more hk hs
    rw [textsB_cons, List.append_assoc] at hs
    have hg : getS (s.drop a) = (k.data.toList, (spanL k.data.toList).length, 0) := by rw [hs]; exact wspan _ _ (by rw [← size_data]; exact hk k List.mem_cons_self)
    rw [List.length_cons, unT_ok hg, ih _ _ more (fun y hy => hk y (List.mem_cons_of_mem _ hy)) (drop_app hs), textsB_cons, List.length_append]
    simp [Nat.add_assoc]

/-- What is written is read, and nothing may stand behind it. -/
theorem unb_body {f h : List Ent} {l : List Wr} (hr : rightB f h l) (more : List UInt8) (hl : (bodyL f h l ++ more).length ≤ 20000) :
    unbF (bodyL f h l ++ more) = if more = [] then .inr (f, h, l) else .inl (3, ((bodyL f h l).length : Int)) := by
  have hb := rightB_iff.1 hr
  obtain ⟨⟨g1, g2, g3⟩, g4, g5, g6⟩ := hb
  obtain ⟨t1, t2⟩ := tab_small hr
  have hrow := right_okRow hr
  obtain ⟨s, hs⟩ : ∃ s, bodyL f h l ++ more = s := ⟨_, rfl⟩
  obtain ⟨T, hT⟩ : ∃ T, tabK [] (keysW l) = T := ⟨_, rfl⟩
  obtain ⟨N, hN⟩ : ∃ N, atK [] (keysW l) = N := ⟨_, rfl⟩
  have hlist := listF_table (keysW l)
  rw [hT, hN] at hlist
  have hbl : bodyL f h l = vwriteL f ++ (vwriteL h ++ (putL T.length ++ (textsB T ++ (putL l.length ++ rowB h 0 l N)))) := by unfold bodyL; rw [hT, hN]; simp
  rw [hT] at t1 t2
  rw [hT, hN] at hrow
  have hlen : (bodyL f h l).length = (vwriteL f).length + (vwriteL h).length + (putL T.length).length + (textsB T).length + (putL l.length).length + (rowB h 0 l N).length := by rw [hbl]; simp only [List.length_append]; omega
  have hsl : s.length = (bodyL f h l).length + more.length := by rw [← hs, List.length_append]
  rw [hs] at hl ⊢
  have hs0 : s = vwriteL f ++ (vwriteL h ++ (putL T.length ++ (textsB T ++ (putL l.length ++ (rowB h 0 l N ++ more))))) := by rw [← hs, hbl]; simp
  have e0 : s.drop 0 = vwriteL f ++ (vwriteL h ++ (putL T.length ++ (textsB T ++ (putL l.length ++ (rowB h 0 l N ++ more))))) := by rw [List.drop_zero]; exact hs0
  have e1 := drop_app e0
  rw [Nat.zero_add] at e1
  have e2 := drop_app e1
  have e3 := drop_app e2
  have e4 := drop_app e3
  have e5 := drop_app e4
  have k1 : vreadF s = (0, (vwriteL f).length, f) := by rw [hs0]; exact vread_write g1 _
  have k2 : vreadF (s.drop (vwriteL f).length) = (0, (vwriteL h).length, h) := by rw [e1]; exact vread_write g2 _
  have k3 : intL (s.drop ((vwriteL f).length + (vwriteL h).length)) 60 = (T.length, (putL T.length).length, 0) := by rw [e2]; exact intL_put _ _ _ (by omega) (by omega)
  have k4 := unT_write T _ [] _ (fun k hk => Nat.le_trans (t1 k hk) (by decide)) e3
  have k5 : intL (s.drop ((vwriteL f).length + (vwriteL h).length + (putL T.length).length + (textsB T).length)) 60 = (l.length, (putL l.length).length, 0) := by rw [e4]; exact intL_put _ _ _ (by omega) (by omega)
  have hh16 := g2.1
  have k6 := unW_write (h := h) (T := T) (by omega) (by omega) l _ 0 N [] [] more (Int.le_refl _) hrow e5
  simp only [List.nil_append] at k4 k6
  rw [unb_rest (by omega) k1 k2 k3 k4 k5 k6, ← hlen]
  by_cases hm : more = []
  · subst hm
    have hr0 : (batF f h l).1 = 0 := hr
    rw [if_pos rfl, if_neg (by rw [hsl]; simp), hlist]
    simp only [ne_eq, not_true_eq_false, if_false, hr0]
  · have : 0 < more.length := List.length_pos_iff.2 hm
    rw [if_neg hm, if_pos (by omega)]
end Go.Proofs.YtkafhlpnhgipeaaGreatDoor
/-
  The contract of math/bits.Len64: how many bits a number has.
-/
namespace Go.Proofs.YtkafhlpnhgipeaaGreatDoor
open Go.RowKit

/-- How many bits a number below 2^f has. -/
def bitsF : Nat → Nat → Nat
  | 0, _ => 0
  | f + 1, n => if n = 0 then 0 else bitsF f (n / 2) + 1
theorem bitsF_zero (f : Nat) : bitsF f 0 = 0 := by cases f <;> simp [bitsF]
theorem bitsF_more (f : Nat) : ∀ n k, n < 2 ^ f → bitsF (f + k) n = bitsF f n := by
  induction f with
  | zero => intro n k h; have : n = 0 := by simpa using h
            subst this; rw [bitsF_zero, bitsF_zero]
  | succ f ih =>
    intro n k h
    rw [show f + 1 + k = (f + k) + 1 by omega, bitsF, bitsF]
    by_cases h0 : n = 0
    · rw [if_pos h0, if_pos h0]
    · rw [if_neg h0, if_neg h0, ih (n / 2) k (by rw [Nat.pow_succ] at h; omega)]
theorem bitsF_shift (f : Nat) : ∀ c n, 2 ^ c ≤ n → bitsF (f + c) n = c + bitsF f (n / 2 ^ c) := by
  intro c
  induction c with
  | zero => intro n _; simp
  | succ c ih =>
    intro n h
    rw [Nat.pow_succ] at h
    have h0 : n ≠ 0 := by have := Nat.two_pow_pos c; omega
    rw [show f + (c + 1) = (f + c) + 1 by omega, bitsF, if_neg h0, ih (n / 2) (by omega), Nat.div_div_eq_div_mul, Nat.pow_succ, Nat.mul_comm 2]
    omega
theorem bitsF_le (f : Nat) : ∀ n, bitsF f n ≤ f := by
  induction f with
  | zero => intro n; simp [bitsF]
  | succ f ih => intro n; rw [bitsF]; split
                 · omega
                 · have := ih (n / 2); omega
/-- How many bits a number below 2^64 has. -/
def bitsN (n : Nat) : Nat := bitsF 64 n
theorem bitsN_low {n : Nat} (h : n < 256) : bitsN n = bitsF 8 n := bitsF_more 8 n 56 (by omega)
theorem bitsN_shift {n : Nat} (c f : Nat) (hc : 8 + f + c = 64) (h : 2 ^ c ≤ n) (hx : n / 2 ^ c < 256) : bitsN n = c + bitsF 8 (n / 2 ^ c) := by
  unfold bitsN
  rw [← hc, bitsF_shift (8 + f) c n h, bitsF_more 8 _ f (by omega)]

/-- The table of bytes' bits. -/
def LTabIs (T : ByteArray) : Prop := ∀ x, x < 256 → ∃ h : x < T.size, (T[x]'h).toNat = bitsF 8 x
theorem LTabIs.at {T : ByteArray} (H : LTabIs T) {n : Int} (x : Nat) (e : n.toNat = x) (hx : x < 256) (h : n.toNat < T.size) : (T[n.toNat]'h).toNat = bitsF 8 x := by
  obtain ⟨_, h2⟩ := H n.toNat (by omega)
  rw [h2, e]
theorem len_ret {a b : Int} {t c N : Nat} (ht : t = N) (hN : N ≤ 8) (hc : c ≤ 56) (ha : a = wrap64 ((c : Int) + wrap64 (t : Int))) (hb : b = ((c + N : Nat) : Int)) : Ending.returned (.int .i64 a) = .returned (.int .i64 b) := by
  subst ht
  rw [ha, hb, IntWalk.wrap64_in (t : Int) ⟨by omega, by omega⟩, IntWalk.wrap64_in _ ⟨by omega, by omega⟩]
  rfl

set_option maxRecDepth 100000 in
set_option maxHeartbeats 2000000 in
theorem len64_any (n : Int) (w : World) (h0 : 0 ≤ n) (h1 : n ≤ 18446744073709551615) :
    Calls Tryz.prog 46 #[.int .u64 n] w fun e w' => e = .returned (.int .i64 (bitsN n.toNat)) ∧ w = w' := by
  go_enter Tryz.func46, Tryz.ntmps46
  generalize hT : ByteArray.mk _ = T
  have H1 : LTabIs T := by
    subst hT
    show ∀ x, x < 256 → _
    decide +kernel
  have hsz : (255 : Int) < (T.size : Int) := by
    obtain ⟨h, _⟩ := H1 255 (by decide)
    omega
  clear hT
  have H2 := Lib.hid H1
  clear H1
  go_wp2
  · go_ret
    exact ⟨len_ret (c := 56) (H2.out.at (n.toNat / 2 ^ 56) (by omega) (by omega) (by omega)) (bitsF_le 8 _) (by omega) rfl (by rw [bitsN_shift 56 0 (by omega) (by omega) (by omega)]), rfl⟩
  · go_ret
    exact ⟨len_ret (c := 48) (H2.out.at (n.toNat / 2 ^ 48) (by omega) (by omega) (by omega)) (bitsF_le 8 _) (by omega) rfl (by rw [bitsN_shift 48 8 (by omega) (by omega) (by omega)]), rfl⟩
  · go_ret
    exact ⟨len_ret (c := 40) (H2.out.at (n.toNat / 2 ^ 40) (by omega) (by omega) (by omega)) (bitsF_le 8 _) (by omega) rfl (by rw [bitsN_shift 40 16 (by omega) (by omega) (by omega)]), rfl⟩
  · go_ret
    exact ⟨len_ret (c := 32) (H2.out.at (n.toNat / 2 ^ 32) (by omega) (by omega) (by omega)) (bitsF_le 8 _) (by omega) rfl (by rw [bitsN_shift 32 24 (by omega) (by omega) (by omega)]), rfl⟩
  · go_ret
    exact ⟨len_ret (c := 24) (H2.out.at (n.toNat / 2 ^ 24) (by omega) (by omega) (by omega)) (bitsF_le 8 _) (by omega) rfl (by rw [bitsN_shift 24 32 (by omega) (by omega) (by omega)]), rfl⟩
  · go_ret
    exact ⟨len_ret (c := 16) (H2.out.at (n.toNat / 2 ^ 16) (by omega) (by omega) (by omega)) (bitsF_le 8 _) (by omega) rfl (by rw [bitsN_shift 16 40 (by omega) (by omega) (by omega)]), rfl⟩
  · go_ret
    exact ⟨len_ret (c := 8) (H2.out.at (n.toNat / 2 ^ 8) (by omega) (by omega) (by omega)) (bitsF_le 8 _) (by omega) rfl (by rw [bitsN_shift 8 48 (by omega) (by omega) (by omega)]), rfl⟩
  · go_ret
    exact ⟨len_ret (c := 0) (H2.out.at n.toNat rfl (by omega) (by omega)) (bitsF_le 8 _) (by omega) (by rw [Int.natCast_zero, Int.zero_add]) (by rw [bitsN_low (by omega), Nat.zero_add]), rfl⟩
end Go.Proofs.YtkafhlpnhgipeaaGreatDoor
/-
  The contract of the document's pow at 128: a power of 128 below 2^64.
-/
namespace Go.Proofs.YtkafhlpnhgipeaaGreatDoor
open Go.RowKit

theorem pow_step (j k : Nat) (h : j < k) (hk : k ≤ 9) : (128 ^ j : Nat) * 128 ≤ 9223372036854775808 := by
  have h1 : 128 ^ (j + 1) ≤ 128 ^ 9 := Nat.pow_le_pow_right (by decide) (by omega)
  rw [pow9, Nat.pow_succ] at h1
  exact h1

/-- A power of 128, behind a name. -/
def p128 (j : Nat) : Nat := 128 ^ j

set_option maxRecDepth 100000 in
theorem pow_any (k : Nat) (w : World) (hk : k ≤ 9) :
    Calls Tryz.prog 47 #[.int .u64 128, .int .i64 k] w fun e w' => e = .returned (.int .u64 (p128 k)) ∧ w = w' := by
  go_enter Tryz.func47, Tryz.ntmps47
  go_wp2
  go_loop [5, 7] (fun p j => ∃ m : Nat, m ≤ k ∧ j = .int .i64 m ∧ p = .int .u64 (p128 m)) (fun _ j => k - (intOf j).toNat)
  case atStart => exact ⟨0, Nat.zero_le _, rfl, rfl⟩
  case round =>
    obtain ⟨m, hm, rfl, rfl⟩ := hrel
    by_cases hlt : m < k
    · have hs : p128 m * 128 ≤ 9223372036854775808 := pow_step m k hlt hk
      have he : Hid (p128 m * 128 = p128 (m + 1)) := (Nat.pow_succ 128 m).symm
      go_wp2
      go_round
      case rel => exact ⟨m + 1, by omega, by go_num, by rw [← he.out]; go_num⟩
      case measure => simp [intOf]; omega
    · have : m = k := by omega
      subst this
      go_wp2
      go_ret
      exact ⟨rfl, rfl⟩
end Go.Proofs.YtkafhlpnhgipeaaGreatDoor
/-
  The contract of the document's Vary: it answers the bytes that 'putL' gives.
-/
namespace Go.Proofs.YtkafhlpnhgipeaaGreatDoor
open Go.RowKit

theorem bitsN_128 {n : Nat} (h : ¬ n < 128) (h64 : n < 18446744073709551616) : bitsN n = bitsN (n / 128) + 7 := by
  unfold bitsN
  have e := bitsF_shift 57 7 n (by omega)
  rw [show (57 : Nat) + 7 = 64 from rfl] at e
  have e2 : bitsF 64 (n / 128) = bitsF 57 (n / 128) := bitsF_more 57 (n / 128) 7 (by omega)
  rw [e, e2, show (2 : Nat) ^ 7 = 128 from rfl]
  omega
theorem bitsN_small : ∀ n, n < 128 → bitsN n ≤ 7 := by
  intro n h
  have : bitsN n = bitsF 7 n := bitsF_more 7 n 57 (by omega)
  rw [this]; exact bitsF_le 7 n
theorem bitsN_pos {n : Nat} (h : 0 < n) : 0 < bitsN n := by
  unfold bitsN bitsF; rw [if_neg (by omega)]; omega
theorem sevens_bits (n : Nat) : n < 18446744073709551616 → (sevens n = max 1 ((bitsN n + 6) / 7)) := by
  induction n using Nat.strongRecOn with
  | ind n ih =>
    intro h64
    by_cases h : n < 128
    · rw [sevens_small h]; have := bitsN_small n h; omega
    · rw [sevens_big h, bitsN_128 h h64, ih (n / 128) (by omega) (by omega)]
      have := bitsN_pos (n := n / 128) (by omega)
      omega

/-- A byte of a number, without what it says of more. -/
def loB (n i : Nat) : Nat := n / p128 i % 128
theorem putL_get (i : Nat) : ∀ n (h : i < (putL n).length), ((putL n)[i]'h).toNat = loB n i + (if i + 1 < (putL n).length then 128 else 0) := by
  induction i with
  | zero =>
    intro n h
    unfold loB p128
    by_cases h2 : n < 128
    · simp only [putL_small h2]; simp; omega
    · simp only [putL_big h2]
      have := putL_pos (n / 128)
      rw [if_pos (by simp; omega)]
      simp; omega
  | succ i ih =>
    intro n h
    by_cases h2 : n < 128
    · rw [putL_small h2] at h; simp at h
    · have e : (putL n)[i + 1]'h = (putL (n / 128))[i]'(by rw [putL_big h2] at h; simpa using h) := by simp only [putL_big h2]; rfl
      rw [e, ih]
      unfold loB p128
      rw [Nat.div_div_eq_div_mul, Nat.pow_succ, Nat.mul_comm 128]
      congr 2
      rw [putL_big h2]; simp

/-- The first i bytes are there, the others are 0. -/
def partL (n i : Nat) : List UInt8 := (putL n).take i ++ List.replicate ((putL n).length - i) 0
theorem partL_len (n i : Nat) (h : i ≤ (putL n).length) : (partL n i).length = (putL n).length := by
  unfold partL; simp; omega
theorem partL_end (n : Nat) : partL n (putL n).length = putL n := by unfold partL; simp
theorem partL_set (n i : Nat) (h : i < (putL n).length) : (partL n i).set i ((putL n)[i]) = partL n (i + 1) := by
  unfold partL
  have e : (putL n).length - i = (putL n).length - (i + 1) + 1 := by omega
  rw [List.set_append_right _ _ (by simp; omega), e, List.replicate_succ]
  have e2 : i - ((putL n).take i).length = 0 := by simp; omega
  rw [e2, List.set_cons_zero, List.take_succ_eq_append_getElem h, List.append_assoc]
  rfl

theorem made_rep (k : Nat) : (madeCells (Value.int .u8 0).cells (k * 1)).toList = (List.replicate k (0 : UInt8)).map byteV := by
  apply List.ext_getElem
  · simp [madeCells]
  · intro i h1 h2
    simp [madeCells, byteV, Value.cells, Nat.mod_one]

theorem p128_pos (j : Nat) : 1 ≤ p128 j := Nat.pos_of_ne_zero (by unfold p128; exact Nat.ne_of_gt (Nat.pow_pos (by decide)))

/-- A round: byte j is stored. -/
theorem part_store (N j : Nat) (h : j < (putL N).length) (b : Int) (hb : b = ((loB N j + (if j + 1 < (putL N).length then 128 else 0) : Nat) : Int)) :
    ((partL N j).map byteV).set j (.int .u8 b) = (partL N (j + 1)).map byteV := by
  rw [← partL_set N j h, List.map_set]
  congr 1
  unfold byteV
  rw [putL_get j N h, hb]

set_option maxRecDepth 100000 in
set_option maxHeartbeats 2000000 in
theorem rvary_any (N : Nat) (w : World) (h1 : N ≤ 18446744073709551615) :
    Calls Tryz.prog 16 #[.int .u64 (N : Int)] w fun e w' => e = .returned (.string ⟨(putL N).toArray⟩) ∧ Below w.heap.size w w' := by
  have hlen : (putL N).length = max 1 ((bitsN N + 6) / 7) := by rw [putL_sevens]; exact sevens_bits N (by omega)
  have hl10 := putL_le10 (n := N) (by omega)
  have hb : bitsN N ≤ 64 := bitsF_le 64 N
  obtain ⟨B, hB⟩ : ∃ B, bitsN N = B := ⟨_, rfl⟩
  rw [hB] at hlen hb
  have HB := Lib.hid hB
  obtain ⟨k, hk⟩ : ∃ k, (putL N).length = k := ⟨_, rfl⟩
  rw [hk] at hlen hl10
  have HK := Lib.hid hk
  clear hB hk
  have hk1 : 1 ≤ k := by omega
  obtain ⟨i0, hi, hz0, hz1, hz2⟩ := info_parts info_u8
  have hcase : (1 < ((B : Int) + 6) / 7 ∧ ((B : Int) + 6) / 7 = k) ∨ (((B : Int) + 6) / 7 ≤ 1 ∧ k ≤ 1) := by omega
  clear hlen
  rcases hcase with ⟨c1, c2⟩ | ⟨c1, c2⟩
  all_goals
    go_enter Tryz.func16, Tryz.ntmps16
    go_wp2_with (first | (go_at_call 46; refine (len64_any (N : Int) _ (by omega) (by omega)).mono ?_; rintro r w' ⟨rfl, rfl⟩; rw [Int.toNat_natCast, HB.out]) | (at_make; refine wpList_make_full _ rfl _ _ 63 rfl w.heap.size 5 i0 (.int .u8 0) 1 Tryz.underlying63 hi hz0 hz1 .i64 .i64 _ _ k rfl rfl (by first | rfl | omega) (by first | rfl | omega) (by rw [hz2]; omega) (by unfold maxLen; omega) (Nat.le_refl _) ?_; intro w1 hown hg1; rw [made_rep] at hown; have hbel : Below w.heap.size w w1 := (Below.refl _ _).grown hg1 (Nat.le_refl _) (fun _ h => by cases h); have HOWN := Lib.hid hown; have HBEL := Lib.hid hbel; clear hg1 hown hbel))
    have HOWN := ‹Hid (World.ownsRow _ w.heap.size _ _ _ _ _)›
    have HBEL := ‹Hid (Below w.heap.size w _)›
    go_loopw [15] (fun i wr => ∃ j : Nat, j ≤ k ∧ i = .int .i64 j ∧ wr.ownsRow w.heap.size 5 1 (.slice (some ⟨w.heap.size, 0, none⟩) k k) k ((partL N j).map byteV) ∧ Below w.heap.size w wr) (fun i _ => k - (intOf i).toNat)
    case atStart => exact ⟨0, Nat.zero_le _, rfl, by unfold partL; rw [HK.out]; exact HOWN.out, HBEL.out⟩
    case round =>
      obtain ⟨j, hj, rfl, hownr, hbr⟩ := hrel
      by_cases hlt : j < k
      · have HO := Lib.hid hownr
        have hjl : j < (partL N j).length := by rw [partL_len N j (by rw [HK.out]; omega), HK.out]; exact hlt
        obtain ⟨v0, hv0⟩ : ∃ v0 : Int, wr.cell? ⟨w.heap.size, j, none⟩ = some (.int .u8 v0) :=
          ⟨((partL N j)[j].toNat : Int), by rw [hownr.cellAt j (by omega), List.getElem?_map, List.getElem?_eq_getElem hjl]; rfl⟩
        have hf := hownr.frozenAt j
        have hp := p128_pos j
        obtain ⟨q, hq⟩ : ∃ q : Nat, N / p128 j = q := ⟨_, rfl⟩
        have hqi : (N : Int) / ((p128 j : Nat) : Int) = (q : Int) := by rw [← hq]; rfl
        have hqb : q ≤ 18446744073709551615 := by rw [← hq]; exact Nat.le_trans (Nat.div_le_self _ _) h1
        have HQ : Hid (loB N j = q % 128) := by show loB N j = _; unfold loB; rw [hq]
        clear hownr hq hjl
        go_wp2_with (go_at_call 47; refine (pow_any j _ (by omega)).mono ?_; rintro r w' ⟨rfl, rfl⟩)
        all_goals first
          | (have hlt2 : (j : Int) + 1 < (k : Int) := by first | assumption | omega
             have hst := ((HO.out.stored j (.int .u8 ((q : Int) % 128))).1.stored j (.int .u8 ((q : Int) % 128 + 128))).1
             rw [List.set_set, part_store N j (by rw [HK.out]; omega) _ (by rw [HK.out, HQ.out, if_pos (by omega)]; omega)] at hst
             go_roundw
             case rel => exact ⟨j + 1, by omega, by go_num, hst, (hbr.setCell (Nat.le_refl _) _).setCell (Nat.le_refl _) _⟩
             case measure => simp [intOf]; omega)
          | (have hlt2 : (k : Int) ≤ (j : Int) + 1 := by omega
             have hst := (HO.out.stored j (.int .u8 ((q : Int) % 128))).1
             rw [part_store N j (by rw [HK.out]; omega) _ (by rw [HK.out, HQ.out, if_neg (by omega)]; omega)] at hst
             go_roundw
             case rel => exact ⟨j + 1, by omega, by go_num, hst, hbr.setCell (Nat.le_refl _) _⟩
             case measure => simp [intOf]; omega)
      · have hjk : j = k := by omega
        have hfin : ownsB wr w.heap.size (.slice (some ⟨w.heap.size, 0, none⟩) k k) (putL N) := by
          unfold ownsB
          rw [HK.out]
          have := partL_end N
          rw [HK.out] at this
          rw [hjk, this] at hownr
          exact hownr
        have hcv := run_string_ownsB hfin
        have hjk' := Lib.hid hjk
        clear hfin hownr hjk
        go_wp2
        go_ret
        exact ⟨rfl, hbr⟩
end Go.Proofs.YtkafhlpnhgipeaaGreatDoor
/-
  append of one entry to a row in memory: where it lies then; at a plain step, and at a step of a region that draws its order.
-/
namespace Go.Proofs.YtkafhlpnhgipeaaGreatDoor
open Go.RowKit

theorem step_append_ent (w : World) {ops : Array Oper} {o : Oper} {a : Act} {K : Act → World → Prop} {Q : Exit → Act → World → Prop} {E : Prop} (hgd : o.guard = none) (s x : Operand)
    (ho : o.op = .call { callee := .builtin .append, args := #[s, x], argTypes := #[22, 22] })
    (base : Nat) (v : Value) (l : List Ent) (hs : a.eval s = v) (hown : ownsE w base v l)
    (B c : Nat) (hx : a.eval x = .slice (some ⟨B, 0, none⟩) 1 c) (t : Ent) (hcell : entBlk w B t)
    (hlen : l.length + 1 ≤ 1000000) (hbase : base ≤ w.heap.size)
    (h : ∀ g cap w', ownsE w' base (.slice (some ⟨g, 0, none⟩) (l.length + 1) cap) (l ++ [t]) → w.grownBy w' v.ownBlock → (v.ownBlock = some g ∨ g = w.heap.size) → K (a.put o.dst (.slice (some ⟨g, 0, none⟩) (l.length + 1) cap)) w') :
    if Region.wanted o (yielded ops a.tmps) = true then Oper.wp Tryz.prog o a w K Q else E := by
  obtain ⟨i0, hi, hz0, hz1, hz2⟩ := info_parts info_ent
  refine step_append_lies w hgd s x 22 ho base 60 i0 (.agg #[.int .i64 0, .int .i64 0]) 2 16 Tryz.underlying22 hi hz0 hz1 hz2 rfl (by decide) v l.length (entsC l) hs hown ⟨B, 0, none⟩ 1 c (entC t) hx rfl ?_ ?_ (by decide) (by unfold maxLen; omega) (by omega) hbase _ rfl ?_
  · intro j u hj
    have hadd : (⟨B, 0, none⟩ : Addr).add j = ⟨B, j, none⟩ := by unfold Addr.add; split <;> simp_all
    rw [hadd, cell_of_row _ _ _ _ _ _ hcell, ← hj]
    unfold entC; simp
  · intro u hu; simp [entC] at hu; rcases hu with rfl | rfl <;> rfl
  · intro g cap w' h1 h2 h3 _
    refine h g cap w' ?_ h2 h3
    unfold ownsE
    rw [List.length_append, entsC_app]
    simpa [entsC] using h1

/-- A store into the last of them. -/
theorem ownsR.stored {w : World} {base g n cap : Nat} {l : List Value} {d : Value} (h : ownsR w base (.slice (some ⟨g, 0, none⟩) n cap) (l ++ [d])) (hn : n = l.length + 1) (x : Value) :
    ownsR (w.setCell ⟨g, l.length, none⟩ x) base (.slice (some ⟨g, 0, none⟩) n cap) (l ++ [x]) ∧ w.grownBy (w.setCell ⟨g, l.length, none⟩ x) (some g) := by
  subst hn
  unfold ownsR at h ⊢
  rw [List.length_append] at h ⊢
  have h2 := World.ownsRow.stored h l.length x
  have e : (l ++ [d]).set l.length x = l ++ [x] := by
    rw [List.set_append_right _ _ (Nat.le_refl _), Nat.sub_self]; rfl
  rw [e] at h2
  exact h2
theorem ownsR.last {w : World} {base g n cap : Nat} {l : List Value} {d : Value} (h : ownsR w base (.slice (some ⟨g, 0, none⟩) n cap) (l ++ [d])) (hn : n = l.length + 1) :
    w.cell? ⟨g, l.length, none⟩ = some d ∧ w.frozen? ⟨g, l.length, none⟩ = false ∧ base ≤ g ∧ g < w.heap.size := by
  subst hn
  have hlt := h.lt g rfl
  unfold ownsR at h
  rw [List.length_append] at h
  refine ⟨?_, World.ownsRow.frozenAt h _, hlt.1, hlt.2⟩
  rw [World.ownsRow.cellAt h _ (by simp)]
  simp

end Go.Proofs.YtkafhlpnhgipeaaGreatDoor
