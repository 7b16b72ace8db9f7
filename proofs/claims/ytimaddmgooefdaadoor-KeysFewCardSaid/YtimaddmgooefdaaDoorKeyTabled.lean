/-
  The fact that the laws ask first: 'tabled'.
-/
import Derived.Test.YtimaddmgooefdaaDoorKeyList
import Derived.Test.YtimaddmgooefdaaDoorKeyEq
import Derived.Test.YtimaddmgooefdaaDoorTell
namespace Go.Proofs.YtimaddmgooefdaaDoor
open Go.RowKit

theorem lit_texts (w : World) (l : List ByteArray) (t : TypeId) : IsTexts (w.alloc (.cells (l.map Value.string).toArray t)) (.slice (some ⟨w.heap.size, 0, none⟩) l.length l.length) l := by
  refine ⟨_, _, rfl, Nat.le_refl _, fun k s hk => ⟨w.heap.size, 0, rfl, by simp, ?_⟩⟩
  rw [Nat.zero_add]
  obtain ⟨hkl, e⟩ := List.getElem?_eq_some_iff.1 hk
  simp [hkl, e]
theorem lit_nums (w : World) (l : List Int) (t : TypeId) : IsNums (w.alloc (.cells (l.map (Value.int .i64)).toArray t)) (.slice (some ⟨w.heap.size, 0, none⟩) l.length l.length) l := by
  refine ⟨_, _, rfl, Nat.le_refl _, fun k s hk => ⟨w.heap.size, 0, rfl, by simp, ?_⟩⟩
  rw [Nat.zero_add]
  obtain ⟨hkl, e⟩ := List.getElem?_eq_some_iff.1 hk
  simp [hkl, e]

theorem below_lit {w w' : World} {o : Obj} (h : Below (w.alloc o).heap.size (w.alloc o) w') : Below w.heap.size w w' := ((Below.refl _ _).alloc (Nat.le_refl _) _).trans (h.mono (by simp))
theorem drewN_below (w : World) (q : Nat) : Below w.heap.size w (w.drewN q) := ⟨rfl, rfl, rfl, Nat.le_refl _, fun _ _ => rfl⟩

/-- A table and numbers, written out, one behind the other. -/
theorem lit_both (w : World) (T : List ByteArray) (l : List Int) (t t' : TypeId) : IsTexts ((w.alloc (.cells (T.map Value.string).toArray t)).alloc (.cells (l.map (Value.int .i64)).toArray t')) (.slice (some ⟨w.heap.size, 0, none⟩) T.length T.length) T ∧
    IsNums ((w.alloc (.cells (T.map Value.string).toArray t)).alloc (.cells (l.map (Value.int .i64)).toArray t')) (.slice (some ⟨w.heap.size + 1, 0, none⟩) l.length l.length) l := by
  refine ⟨(lit_texts w T t).alloc _, ?_⟩
  have h := lit_nums (w.alloc (.cells (T.map Value.string).toArray t)) l t'
  rw [World.size_alloc] at h
  exact h

def tB : ByteArray := ⟨#[98]⟩
def tA : ByteArray := ⟨#[97]⟩
theorem tab_bab : tabK [] [tB, tA, tB] = [tB, tA] := by decide +kernel
theorem at_bab : (atK [] [tB, tA, tB]).map Int.ofNat = [0, 1, 0] := by decide +kernel
theorem list_bab : listF [tB, tA] [0, 1, 0] = ([tB, tA, tB], 0, -1) := by decide +kernel
theorem list_ba : listF [tB, tA] [1, 0] = ([], 13, 0) := by decide +kernel

set_option maxRecDepth 100000 in
set_option maxHeartbeats 4000000 in
theorem tabled_any (w : World) (hg : errT w) : Calls Tryd.prog 14 #[] w fun r w' => r = .returned (.bool true) ∧ Below w.heap.size w w' := by
  have HG := Lib.hid hg
  clear hg
  go_enter Tryd.func14, Tryd.ntmps14
  go_wp2_with fail
  refine (ktab_any _ [tB, tA, tB] _ (lit_texts w [tB, tA, tB] _) (by decide) (by decide)).mono ?_
  rintro r w1 ⟨v1, v2, rfl, ho1, ho2, hb1⟩
  have HB1 := Lib.hid (below_lit hb1)
  have HT1 : Hid (IsTexts w1 v1 [tB, tA]) := Lib.hid (tab_bab ▸ ho1.isTexts)
  have HN1 : Hid (IsNums w1 v2 [0, 1, 0]) := Lib.hid (at_bab ▸ ho2.isNums)
  clear hb1 ho1 ho2
  go_wp2_with fail
  refine (klist_any _ _ [tB, tA] [0, 1, 0] _ (lit_both w1 [tB, tA] [0, 1, 0] _ _).1 (lit_both w1 [tB, tA] [0, 1, 0] _ _).2 (by decide) (by decide) (by decide)).mono ?_
  rintro r w2 ⟨l1, e1, rfl, ho1, he1, hb2⟩
  rw [list_bab] at ho1 he1
  obtain rfl := he1.nil rfl
  have hB2 := below_lit (below_lit hb2)
  have HT2 := Lib.hid (HT1.out.below hB2)
  have HN2 := Lib.hid (HN1.out.below hB2)
  have HL2 := Lib.hid ho1.isTexts
  have HB2 := Lib.hid (HB1.out.trans (hB2.mono HB1.out.size))
  clear hb2 ho1 he1 hB2 HT1 HN1 HB1
  go_wp2_with fail
  refine (klist_any _ _ [tB, tA] [1, 0] _ (lit_both w2 [tB, tA] [1, 0] _ _).1 (lit_both w2 [tB, tA] [1, 0] _ _).2 (by decide) (by decide) (by decide)).mono ?_
  rintro r w3 ⟨l2, e2, rfl, ho2, he2, hb3⟩
  rw [list_ba] at he2
  have hB3 := below_lit (below_lit hb3)
  have HT3 := Lib.hid (HT2.out.below hB3)
  have HN3 := Lib.hid (HN2.out.below hB3)
  have HL3 := Lib.hid (HL2.out.below hB3)
  have HB3 := Lib.hid (HB2.out.trans (hB3.mono HB2.out.size))
  have HE := Lib.hid (he2.isErr (by decide))
  have HG3 := Lib.hid (HG.out.below HB3.out)
  clear hb3 ho2 he2 hB3 HT2 HN2 HL2 HB2
  go_wp2_with fail
  refine (tell_err _ 13 _ HG3.out HE.out).mono ?_
  rintro r w4 ⟨rfl, hb4⟩
  have HT4 := Lib.hid (HT3.out.below hb4)
  have HN4 := Lib.hid (HN3.out.below hb4)
  have HL4 := Lib.hid (HL3.out.below hb4)
  have HB4 := Lib.hid (HB3.out.trans (hb4.mono HB3.out.size))
  clear hb4 HT3 HN3 HL3 HB3
  go_wp2_with fail
  refine (teq_same _ _ [tB, tA] _ (HT4.out.alloc _) (lit_texts w4 [tB, tA] _) (by decide)).mono ?_
  rintro r w5 ⟨rfl, hq5⟩
  have hb5 : Below w4.heap.size w4 w5 := by obtain ⟨q, rfl⟩ := hq5; exact below_lit (drewN_below _ q)
  have HN5 := Lib.hid (HN4.out.below hb5)
  have HL5 := Lib.hid (HL4.out.below hb5)
  have HB5 := Lib.hid (HB4.out.trans (hb5.mono HB4.out.size))
  clear hb5 hq5 HT4 HN4 HL4 HB4
  go_wp2_with fail
  refine (neq_same _ _ [0, 1, 0] _ (HN5.out.alloc _) (lit_nums w5 [0, 1, 0] _) (by decide)).mono ?_
  rintro r w6 ⟨rfl, hq6⟩
  have hb6 : Below w5.heap.size w5 w6 := by obtain ⟨q, rfl⟩ := hq6; exact below_lit (drewN_below _ q)
  have HL6 := Lib.hid (HL5.out.below hb6)
  have HB6 := Lib.hid (HB5.out.trans (hb6.mono HB5.out.size))
  clear hb6 hq6 HN5 HL5 HB5
  go_wp2_with fail
  refine (teq_same _ _ [tB, tA, tB] _ (HL6.out.alloc _) (lit_texts w6 [tB, tA, tB] _) (by decide)).mono ?_
  rintro r w7 ⟨rfl, hq7⟩
  have hb7 : Below w6.heap.size w6 w7 := by obtain ⟨q, rfl⟩ := hq7; exact below_lit (drewN_below _ q)
  have HB7 := Lib.hid (HB6.out.trans (hb7.mono HB6.out.size))
  clear hb7 hq7 HL6 HB6
  go_wp2
  go_ret
  exact ⟨rfl, HB7.out⟩
end Go.Proofs.YtimaddmgooefdaaDoor
