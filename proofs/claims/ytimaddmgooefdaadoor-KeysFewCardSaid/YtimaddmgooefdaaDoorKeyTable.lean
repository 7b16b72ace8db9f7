/-
  The contract of keys.Table.
-/
import Derived.Test.YtimaddmgooefdaaDoorKeyM
import Derived.Test.YtimaddmgooefdaaDoorMapO
import Derived.Test.YtimaddmgooefdaaDoorTexts
import Derived.Test.YtimaddmgooefdaaDoorShelf
import Derived.Lib.Hide
import Derived.WalkSmall
import Derived.Outline
namespace Go.Proofs.YtimaddmgooefdaaDoor
open Go.RowKit

theorem kclone_any (s : ByteArray) (w : World) (hs : s.size ≤ 281474976710656) :
    Calls Tryd.prog 32 #[.string s] w fun e w' => e = .returned (.string s) ∧ Below w.heap.size w w' := by
  go_enter Tryd.func32, Tryd.ntmps32
  go_wp2_with fail
  refine (Tryd.stringslite_Clone s _ hs).mono ?_
  rintro r w1 ⟨rfl, hb1⟩
  go_wp2
  go_ret
  exact ⟨rfl, hb1⟩

/-- What Table answers. -/
def TabIs (w : World) (l : List ByteArray) (e : Ending) (w' : World) : Prop :=
  ∃ v1 v2, e = .returned (.tuple #[v1, v2]) ∧ ownsS w' w.heap.size v1 (tabK [] l) ∧ ownsN w' w.heap.size v2 (atK [] l) ∧ Below w.heap.size w w'

set_option maxRecDepth 100000 in
set_option maxHeartbeats 4000000 in
theorem ktab_any (v : Value) (l : List ByteArray) (w : World) (hv : IsTexts w v l) (hl : l.length ≤ 1000000) (hs : ∀ s ∈ l, s.size ≤ 140737488351232) :
    Calls Tryd.prog 15 #[v] w (TabIs w l) := by
  obtain ⟨a1, c1, rfl, _, f1⟩ := hv
  have F1 := Lib.hid f1
  have HS := Lib.hid hs
  obtain ⟨n, hn⟩ : ∃ n, n = l.length := ⟨_, rfl⟩
  rw [← hn] at hl ⊢
  have HN := Lib.hid hn
  clear f1 hs hn
  have hmm := @run_makeMap Tryd.prog
  go_enter Tryd.func15, Tryd.ntmps15
  go_wp2
  go_loopw [2, 3, 12] (fun t a i wr => ∃ (k : Nat) (T : List ByteArray) (N : List Nat), k ≤ n ∧ i = .int .i64 k ∧ T.length ≤ k ∧ N.length = k ∧ tabK [] l = tabK T (l.drop k) ∧ atK [] l = N ++ atK T (l.drop k) ∧
      ownsNum wr w.heap.size k T ∧ ownsS wr (w.heap.size + 1) t T ∧ ownsN wr (w.heap.size + 1) a N ∧ w.heap.size + 1 ≤ wr.heap.size ∧ Below w.heap.size w wr) (fun _ _ i _ => n - (intOf i).toNat)
  case atStart => exact ⟨0, [], [], Nat.zero_le _, rfl, Nat.le_refl _, rfl, rfl, rfl, ownsNum_made _, ownsS_nil _ _, ownsN_nil _ _, by simp, (Below.refl _ _).alloc (Nat.le_refl _) _⟩
  case round =>
    obtain ⟨k, T, N, hk, rfl, hT, hN, ht, ha, hmap, hos, hon, hz, hbel⟩ := hrel
    have HT := Lib.hid ht
    have HA := Lib.hid ha
    have HM := Lib.hid hmap
    have HO := Lib.hid hos
    have HQ := Lib.hid hon
    have HB := Lib.hid hbel
    have HZ := Lib.hid hz
    have HNL := Lib.hid hN
    have HTL := Lib.hid hT
    obtain ⟨ad, cp, rfl, _, _⟩ := hos.isTexts
    clear ht ha hmap hos hon hbel hN hT hz
    by_cases hlt : k < n
    · obtain ⟨s, hs⟩ : ∃ s, l[k]? = some s := ⟨l[k]'(by have := HN.out; omega), List.getElem?_eq_getElem _⟩
      obtain ⟨b1, o1, rfl, hb1, p0⟩ := F1.out k s hs
      have q0 := (HB.out.cell (p := ⟨b1, o1 + k, none⟩) hb1).trans p0
      have HSZ : Hid (s.size ≤ 140737488351232) := Lib.hid (HS.out s (List.mem_of_getElem? hs))
      have hsz : s.size ≤ maxLen := by have := HSZ.out; unfold maxLen; omega
      by_cases hin : s ∈ T
      · have HJ := Lib.hid (idxB_get hin)
        have HT2 := Lib.hid (HT.out.trans (tabK_in hs hin))
        have HA2 := Lib.hid (HA.out.trans (congrArg (N ++ ·) (atK_in hs hin)))
        obtain ⟨j, hj⟩ : ∃ j, idxB T s = j := ⟨_, rfl⟩
        rw [hj] at HJ HA2
        clear p0 hs hj
        go_wp2_with (first
          | (at_lookup; refine wpList_num_there rfl _ _ rfl w.heap.size k T rfl HM.out s rfl hsz j HJ.out ?_)
          | (at_builtin; refine wpList_append_int rfl _ _ rfl (w.heap.size + 1) _ N rfl (HQ.out.alloc _) ⟨wr.heap.size, 0, none⟩ 1 rfl j ?c1 ?c2 ?c3 ?_))
        case c1 => simp [Addr.add]
        case c2 => have := HNL.out; omega
        case c3 => have := HZ.out; simp; omega
        intro g cap w1 ho1 hg1
        have hbel1 : Below w.heap.size w w1 := (HB.out.alloc HB.out.size _).grown hg1 (by have := HB.out.size; simp; omega) (fun g hg => by have := (HQ.out.lt g hg).1; omega)
        have hm1 : ownsNum w1 w.heap.size (k + 1) T := ((HM.out.mono (Nat.le_succ k)).alloc _).kept hg1 (by intro e; exact HQ.out.off (Nat.lt_succ_self _) e.symm)
        have hs1 : ownsS w1 (w.heap.size + 1) _ T := World.ownsRow.kept (HO.out.alloc _) hg1 (rows_apart HO.out HQ.out (show 9 ≠ 3 by decide))
        have hz1 : w.heap.size + 1 ≤ w1.heap.size := by have := HZ.out; have := hg1.size; simp at this; omega
        have ha1 : atK [] l = (N ++ [j]) ++ atK T (l.drop (k + 1)) := by rw [HA2.out]; simp
        have hn1 : (N ++ [j]).length = k + 1 := by have := HNL.out; simp; omega
        have HNL1 : Hid (N.length + 1 = (N ++ [j]).length) := Lib.hid (show N.length + 1 = (N ++ [j]).length by simp)
        rw [HNL1.out] at ho1
        have HX := Lib.hid (And.intro hbel1 (And.intro hm1 (And.intro hs1 (And.intro hz1 (And.intro ha1 (And.intro hn1 ho1))))))
        clear hbel1 hm1 hs1 hz1 ha1 hn1 ho1 hg1
        go_wp2
        go_roundw
        case rel => exact ⟨k + 1, T, N ++ [j], by omega, by go_num, by have := HTL.out; omega, HX.out.2.2.2.2.2.1, HT2.out, HX.out.2.2.2.2.1, HX.out.2.1, HX.out.2.2.1, by simpa using HX.out.2.2.2.2.2.2, HX.out.2.2.2.1, HX.out.1⟩
        case measure => simp [intOf]; omega
      · have HT2 := Lib.hid (HT.out.trans (tabK_new hs hin))
        have HA2 := Lib.hid (HA.out.trans (congrArg (N ++ ·) (atK_new hs hin)))
        have HTM : Hid (T.length ≤ maxLen) := Lib.hid (by show T.length ≤ maxLen; have := HTL.out; unfold maxLen; omega)
        clear p0 hs
        go_wp2_with (first
          | (at_lookup; refine wpList_num_none rfl _ _ rfl w.heap.size k T rfl HM.out s rfl hsz hin ?_; intro c)
          | (at_mapUpdate; refine wpList_num_put rfl _ _ _ rfl w.heap.size k T rfl HM.out (by unfold maxLen; omega) s rfl rfl hsz hin HTM.out ?_; intro w1 hm1 hg1))
        have hbel1 : Below w.heap.size w w1 := HB.out.grown hg1 HB.out.size (fun g hg => by cases hg; exact Nat.le_refl _)
        have hs1 : ownsS w1 (w.heap.size + 1) _ T := World.ownsRow.kept HO.out hg1 (.inr (HO.out.off (Nat.lt_succ_self _)))
        have hn1 : ownsN w1 (w.heap.size + 1) _ N := World.ownsRow.kept HQ.out hg1 (.inr (HQ.out.off (Nat.lt_succ_self _)))
        have hz1 : w.heap.size + 1 ≤ w1.heap.size := Nat.le_trans HZ.out hg1.size
        have HX := Lib.hid (And.intro hbel1 (And.intro hm1 (And.intro hs1 (And.intro hn1 hz1))))
        clear hbel1 hm1 hs1 hn1 hz1 hg1
        refine (kclone_any s w1 (by have := HSZ.out; omega)).mono ?_
        rintro r w2 ⟨rfl, hb2⟩
        have HB2 := Lib.hid (HX.out.1.trans (hb2.mono HX.out.1.size))
        have HM2 := Lib.hid (HX.out.2.1.below hb2)
        have HS2 := Lib.hid (HX.out.2.2.1.below hb2)
        have HN2 := Lib.hid (HX.out.2.2.2.1.below hb2)
        have HZ2 := Lib.hid (Nat.le_trans HX.out.2.2.2.2 hb2.size)
        clear hb2 HX HM HO HQ HB HZ
        go_wp2_with (at_builtin; refine wpList_append_str rfl _ _ rfl (w.heap.size + 1) _ T rfl (HS2.out.alloc _) ⟨w2.heap.size, 0, none⟩ 1 rfl s ?c1 ?c2 ?c3 ?_)
        case c1 => simp [Addr.add]
        case c2 => have := HTL.out; omega
        case c3 => have := HZ2.out; simp; omega
        intro g cap w3 ho3 hg3
        have HB3 : Hid (Below w.heap.size w w3) := (HB2.out.alloc HB2.out.size _).grown hg3 (by have := HB2.out.size; simp; omega) (fun g hg => by have := (HS2.out.lt g hg).1; omega)
        have HM3 := Lib.hid ((HM2.out.alloc _).kept hg3 (by intro e; exact HS2.out.off (Nat.lt_succ_self _) e.symm))
        have HN3 := Lib.hid (show ownsN w3 (w.heap.size + 1) _ N from World.ownsRow.kept (HN2.out.alloc _) hg3 (rows_apart HN2.out HS2.out (show 3 ≠ 9 by decide)))
        have HZ3 : Hid (w.heap.size + 1 ≤ w3.heap.size) := Lib.hid (by show _ ≤ _; have := HZ2.out; have := hg3.size; simp at this; omega)
        have HS3 := Lib.hid ho3
        clear ho3 hg3 HB2 HM2 HS2 HN2 HZ2
        go_wp2_with (at_builtin; refine wpList_append_int rfl _ _ rfl (w.heap.size + 1) _ N rfl (HN3.out.alloc _) ⟨w3.heap.size, 0, none⟩ 1 rfl T.length ?d1 ?d2 ?d3 ?_)
        case d1 => simp [Addr.add]
        case d2 => have := HNL.out; omega
        case d3 => have := HZ3.out; simp; omega
        intro g' cap' w4 ho4 hg4
        have HB4 : Hid (Below w.heap.size w w4) := (HB3.out.alloc HB3.out.size _).grown hg4 (by have := HB3.out.size; simp; omega) (fun g hg => by have := (HN3.out.lt g hg).1; omega)
        have HM4 := Lib.hid ((HM3.out.alloc _).kept hg4 (by intro e; exact HN3.out.off (Nat.lt_succ_self _) e.symm))
        have HS4 := Lib.hid (show ownsS w4 (w.heap.size + 1) _ (T ++ [s]) from World.ownsRow.kept (HS3.out.alloc _) hg4 (rows_apart HS3.out HN3.out (show 9 ≠ 3 by decide)))
        have HZ4 : Hid (w.heap.size + 1 ≤ w4.heap.size) := Lib.hid (by show _ ≤ _; have := HZ3.out; have := hg4.size; simp at this; omega)
        have HN4 := Lib.hid ho4
        have HA4 : Hid (atK [] l = (N ++ [T.length]) ++ atK (T ++ [s]) (l.drop (k + 1))) := Lib.hid (show _ = _ by rw [HA2.out]; simp)
        have HL4 : Hid ((N ++ [T.length]).length = k + 1 ∧ (T ++ [s]).length ≤ k + 1) := Lib.hid (show _ ∧ _ by have := HNL.out; have := HTL.out; simp; omega)
        clear ho4 hg4 HB3 HM3 HS3 HN3 HZ3 HA2
        go_wp2
        go_roundw
        case rel => exact ⟨k + 1, T ++ [s], N ++ [T.length], by omega, by go_num, HL4.out.2, HL4.out.1, HT2.out, HA4.out, HM4.out, HS4.out, HN4.out, HZ4.out, HB4.out⟩
        case measure => simp [intOf]; omega
    · have HT2 : Hid (tabK [] l = T) := Lib.hid (show _ = _ by rw [HT.out, List.drop_eq_nil_of_le (by have := HN.out; omega)]; rfl)
      have HA2 : Hid (atK [] l = N) := Lib.hid (show _ = _ by rw [HA.out, List.drop_eq_nil_of_le (by have := HN.out; omega)]; simp [atK])
      go_wp2
      go_ret2
      refine ⟨_, _, rfl, ?_, ?_, HB.out⟩
      · rw [HT2.out]; exact HO.out.mono (Nat.le_succ _)
      · rw [HA2.out]; exact HQ.out.mono (Nat.le_succ _)
end Go.Proofs.YtimaddmgooefdaaDoor
