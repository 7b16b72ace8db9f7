import Derived.Test.YtkafhlpnhgipeaaGreatDoorPk06
import Derived.Test.YtkafhlpnhgipeaaGreatDoorPk10
import Derived.Test.YtkafhlpnhgipeaaGreatDoorPk14
import Derived.Test.YtkafhlpnhgipeaaGreatDoorPk11
import Derived.Test.YtkafhlpnhgipeaaGreatDoorPk05
import Derived.Test.YtkafhlpnhgipeaaGreatDoorPk08
import Derived.Test.YtkafhlpnhgipeaaGreatDoorPk02
import Derived.Lib.Hide
import Derived.WalkSmall
import Derived.Outline
import Derived.Test.YtkafhlpnhgipeaaGreatDoorPk12
/-
  The contract of the document's Fill.
-/
namespace Go.Proofs.YtkafhlpnhgipeaaGreatDoor
open Go.RowKit

def evI (e : Nat) : Value := .int .i64 (e : Nat)

def zeroA : Array Value := #[.int .i64 0, .int .i64 0, .int .i64 0, .string ⟨#[]⟩, .string ⟨#[]⟩, .int .i64 0]
/-- The two blocks that Fill begins with. -/
theorem rows_two (w : World) (cs zs : Array Value) (t : TypeId) : ((w.alloc (.cells cs t)).alloc (.cells zs t)).heap[w.heap.size]? = some (.cells cs t (0, 0)) ∧ ((w.alloc (.cells cs t)).alloc (.cells zs t)).heap[w.heap.size + 1]? = some (.cells zs t (0, 0)) ∧
    w.heap.size + 1 < ((w.alloc (.cells cs t)).alloc (.cells zs t)).heap.size ∧ Below w.heap.size w ((w.alloc (.cells cs t)).alloc (.cells zs t)) := by
  refine ⟨?_, ?_, by simp, ((Below.refl _ _).alloc (Nat.le_refl _) _).alloc (by simp) _⟩
  · rw [Below.heap_alloc _ _ _ (by simp)]; exact heap_alloc_new _ _
  · have h := heap_alloc_new (w.alloc (.cells cs t)) (.cells zs t)
    rw [World.size_alloc] at h; exact h

set_option maxRecDepth 100000 in
set_option maxHeartbeats 8000000 in
/-- A kind that has no N and no Value. -/
theorem rfill_none (T R K : Int) (key val : ByteArray) (N : Int) (s : ByteArray) (w : World) (hk : key.size ≤ 140737488351232) (h1 : K ≠ 1) (h3 : K ≠ 3) (h4 : K ≠ 4) :
    Calls Tryz.prog 34 #[.agg #[.int .i64 T, .int .i64 R, .int .i64 K, .string key, .string val, .int .i64 N], .string s] w fun e w' => (∃ r, e = .returned r ∧ FillOut evI T R K key s.data.toList r) ∧ Below w.heap.size w w' := by
  have b1 : (K == 1) = false := by simpa using h1
  have b3 : (K == 3) = false := by simpa using h3
  have b4 : (K == 4) = false := by simpa using h4
  have HN : Hid (getN K s.data.toList = (0, 0, 0)) := Lib.hid (show _ = _ by unfold getN; rw [if_neg h3, if_neg h4])
  have hV : hasV K = false := by unfold hasV; rw [decide_eq_false h1, decide_eq_false h4]; rfl
  have HV : Hid (getV K (s.data.toList.drop 0) = ([], 0, 0)) := Lib.hid (show _ = _ by unfold getV; rw [hV, if_neg (by decide)])
  go_enter Tryz.func34, Tryz.ntmps34
  go_wp2_with fail
  refine (rwright_any T R K key ⟨#[]⟩ 0 _ hk (Nat.zero_le _)).mono ?_
  rintro r w1 ⟨rfl, hb5⟩
  have HRB := Lib.hid (rows_two w #[.int .i64 T, .int .i64 R, .int .i64 K, .string key, .string ⟨#[]⟩, .int .i64 0] #[.int .i64 0, .int .i64 0, .int .i64 0, .string ⟨#[]⟩, .string ⟨#[]⟩, .int .i64 0] 46).1
  have HRZ := Lib.hid (rows_two w #[.int .i64 T, .int .i64 R, .int .i64 K, .string key, .string ⟨#[]⟩, .int .i64 0] #[.int .i64 0, .int .i64 0, .int .i64 0, .string ⟨#[]⟩, .string ⟨#[]⟩, .int .i64 0] 46).2.1
  have HLW := Lib.hid (rows_two w #[.int .i64 T, .int .i64 R, .int .i64 K, .string key, .string ⟨#[]⟩, .int .i64 0] #[.int .i64 0, .int .i64 0, .int .i64 0, .string ⟨#[]⟩, .string ⟨#[]⟩, .int .i64 0] 46).2.2.1
  have HBW := Lib.hid (rows_two w #[.int .i64 T, .int .i64 R, .int .i64 K, .string key, .string ⟨#[]⟩, .int .i64 0] #[.int .i64 0, .int .i64 0, .int .i64 0, .string ⟨#[]⟩, .string ⟨#[]⟩, .int .i64 0] 46).2.2.2
  obtain ⟨E, hE⟩ : ∃ E, wriE T R K key ⟨#[]⟩ 0 = E := ⟨_, rfl⟩
  rw [hE]
  have rB6 := (hb5.block _ (Nat.lt_of_succ_lt HLW.out)).trans HRB.out
  have rZ6 := (hb5.block _ HLW.out).trans HRZ.out
  have HB6 := Lib.hid (HBW.out.trans (hb5.mono HBW.out.size))
  have HRB6 := Lib.hid rB6
  have HRZ6 := Lib.hid rZ6
  have HE6 := Lib.hid hE
  clear hb5 rB6 rZ6 hE
  by_cases h0 : E = 0
  · subst h0
    have HI := Lib.hid (wr_sized (.int .i64 T) (.int .i64 R) (.int .i64 K) (.string key) (.string ⟨#[]⟩) (.int .i64 0))
    have HRZ9 := Lib.hid (row_set HRZ6.out #[.int .i64 T, .int .i64 R, .int .i64 K, .string key, .string ⟨#[]⟩, .int .i64 0])
    have HONE := Lib.hid (wr_ones T R K key ⟨#[]⟩ 0)
    have HSAME := Lib.hid (wr_same T R K key ⟨#[]⟩ 0)
    have HOUT := Lib.hid (fillOut_ok (ev := evI) (R := R) HN.out HV.out HE6.out)
    rw [show ((0 : Nat) : Int) = 0 from rfl]
    go_wp2_with (first
      | (with_reducible refine wpList_load_row rfl _ _ rfl _ rfl _ _ _ _ HRB6.out Tryz.underlying46 rfl HI.out ?_)
      | (with_reducible refine wpList_store_row rfl _ _ _ rfl _ _ rfl rfl _ _ HRZ6.out HI.out HSAME.out HONE.out ?_))
    obtain ⟨c0, c1, c2, c3, c4, c5⟩ := row_at HRZ9.out
    refine bodyPost_ret (v := .tuple #[.agg #[.int .i64 T, .int .i64 R, .int .i64 K, .string key, .string ⟨#[]⟩, .int .i64 0], .int .i64 0, .int .i64 0]) (by simp [results, Tryz.results34, go_sem, c0, c1, c2, c3, c4, c5]) rfl ?_
    exact ⟨⟨_, rfl, HOUT.out⟩, below_row HB6.out (Nat.le_succ _) _⟩
  · have HR := Lib.hid (fillOut_bad (ev := evI) (T := T) (R := R) (key := key) ((fillE_w (T := T) (R := R) (key := key) HN.out HV.out).trans HE6.out) h0)
    have hne : ((E : Int) != 0) = true := by simp; omega
    obtain ⟨c0, c1, c2, c3, c4, c5⟩ := row_at HRZ6.out
    obtain ⟨f0, f1, f2, f3, f4, f5⟩ := free_row HRZ6.out
    go_wp2
    refine bodyPost_ret (v := .tuple #[zeroW, .int .i64 0, .int .i64 E]) (by simp [results, Tryz.results34, go_sem, zeroW, c0, c1, c2, c3, c4, c5]) rfl ?_
    exact ⟨⟨_, rfl, HR.out⟩, below_six HB6.out (Nat.le_succ _) _ _ _ _ _ _⟩

set_option maxRecDepth 100000 in
set_option maxHeartbeats 8000000 in
/-- Put. -/
theorem rfill_put (T R : Int) (key val : ByteArray) (N : Int) (s : ByteArray) (w : World) (hk : key.size ≤ 140737488351232) (hs : s.size ≤ 140737488351232) :
    Calls Tryz.prog 34 #[.agg #[.int .i64 T, .int .i64 R, .int .i64 1, .string key, .string val, .int .i64 N], .string s] w fun e w' => (∃ r, e = .returned r ∧ FillOut evI T R 1 key s.data.toList r) ∧ Below w.heap.size w w' := by
  have HN : Hid (getN 1 s.data.toList = (0, 0, 0)) := Lib.hid rfl
  obtain ⟨v, j, e, hv⟩ : ∃ v j e, getV 1 (s.data.toList.drop 0) = (v, j, e) := ⟨_, _, _, rfl⟩
  have hg : getS s.data.toList = (v, j, e) := hv
  have hle := getV_le 1 (s.data.toList.drop 0)
  rw [hv, List.drop_zero, ← size_data] at hle
  simp only at hle
  have HV := Lib.hid hv
  have HG := Lib.hid hg
  have HLE := Lib.hid hle
  clear hv hg hle
  go_enter Tryz.func34, Tryz.ntmps34
  go_wp2_with fail
  refine (runspan_any s _ hs).mono ?_
  rintro r w1 ⟨rfl, rfl⟩
  rw [HG.out]
  unfold spanR
  by_cases he : e = 0
  · subst he
    have d1 : (0 : Int) ≤ (j : Int) := by omega
    have d2 : (j : Int) ≤ (s.size : Int) := by have := HLE.out.2; omega
    rw [show ((0 : Nat) : Int) = 0 from rfl]
    go_wp2
    go_region
    obtain ⟨U, hU⟩ : ∃ U, s.extract j s.size = U := ⟨_, rfl⟩
    have hus : U.size = s.size - j := by rw [← hU, ByteArray.size_extract]; omega
    rw [hU]
    have HUS := Lib.hid hus
    have hub : U.size ≤ 140737488351232 := by omega
    clear hU hus
    go_wp2_with fail
    have hvl : (⟨v.toArray⟩ : ByteArray).size ≤ 140737488351232 := by rw [bs_size]; have := HLE.out.1; omega
    refine (rwright_any T R 1 key ⟨v.toArray⟩ 0 _ hk hvl).mono ?_
    rintro r w1 ⟨rfl, hb5⟩
    have HRB := Lib.hid (rows_two w #[.int .i64 T, .int .i64 R, .int .i64 1, .string key, .string ⟨v.toArray⟩, .int .i64 0] #[.int .i64 0, .int .i64 0, .int .i64 0, .string ⟨#[]⟩, .string ⟨#[]⟩, .int .i64 0] 46).1
    have HRZ := Lib.hid (rows_two w #[.int .i64 T, .int .i64 R, .int .i64 1, .string key, .string ⟨v.toArray⟩, .int .i64 0] #[.int .i64 0, .int .i64 0, .int .i64 0, .string ⟨#[]⟩, .string ⟨#[]⟩, .int .i64 0] 46).2.1
    have HLW := Lib.hid (rows_two w #[.int .i64 T, .int .i64 R, .int .i64 1, .string key, .string ⟨v.toArray⟩, .int .i64 0] #[.int .i64 0, .int .i64 0, .int .i64 0, .string ⟨#[]⟩, .string ⟨#[]⟩, .int .i64 0] 46).2.2.1
    have HBW := Lib.hid (rows_two w #[.int .i64 T, .int .i64 R, .int .i64 1, .string key, .string ⟨v.toArray⟩, .int .i64 0] #[.int .i64 0, .int .i64 0, .int .i64 0, .string ⟨#[]⟩, .string ⟨#[]⟩, .int .i64 0] 46).2.2.2.drew
    obtain ⟨E, hE⟩ : ∃ E, wriE T R 1 key ⟨v.toArray⟩ 0 = E := ⟨_, rfl⟩
    rw [hE]
    have rB6 := (hb5.block _ (Nat.lt_of_succ_lt HLW.out)).trans HRB.out
    have rZ6 := (hb5.block _ HLW.out).trans HRZ.out
    have HB6 := Lib.hid (HBW.out.trans (hb5.mono HBW.out.size))
    have HRB6 := Lib.hid rB6
    have HRZ6 := Lib.hid rZ6
    have HE6 := Lib.hid hE
    clear hb5 rB6 rZ6 hE
    by_cases h0 : E = 0
    · subst h0
      have HI := Lib.hid (wr_sized (.int .i64 T) (.int .i64 R) (.int .i64 1) (.string key) (.string ⟨v.toArray⟩) (.int .i64 0))
      have HRZ9 := Lib.hid (row_set HRZ6.out #[.int .i64 T, .int .i64 R, .int .i64 1, .string key, .string ⟨v.toArray⟩, .int .i64 0])
      have HONE := Lib.hid (wr_ones T R 1 key ⟨v.toArray⟩ 0)
      have HSAME := Lib.hid (wr_same T R 1 key ⟨v.toArray⟩ 0)
      have HOUT := Lib.hid (fillOut_ok (ev := evI) (R := R) HN.out HV.out HE6.out)
      rw [show ((0 : Nat) : Int) = 0 from rfl]
      go_wp2_with (first
        | (with_reducible refine wpList_load_row rfl _ _ rfl _ rfl _ _ _ _ HRB6.out Tryz.underlying46 rfl HI.out ?_)
        | (with_reducible refine wpList_store_row rfl _ _ _ rfl _ _ rfl rfl _ _ HRZ6.out HI.out HSAME.out HONE.out ?_))
      have hsz : (s.size : Int) - (U.size : Int) = ((0 + j : Nat) : Int) := by have h1 := HUS.out; have h2 := HLE.out.2; omega
      rw [hsz]
      obtain ⟨c0, c1, c2, c3, c4, c5⟩ := row_at HRZ9.out
      refine bodyPost_ret (v := .tuple #[.agg #[.int .i64 T, .int .i64 R, .int .i64 1, .string key, .string ⟨v.toArray⟩, .int .i64 0], .int .i64 ((0 + j : Nat) : Int), .int .i64 0]) (by simp [results, Tryz.results34, go_sem, c0, c1, c2, c3, c4, c5]) rfl ?_
      exact ⟨⟨_, rfl, HOUT.out⟩, below_row HB6.out (Nat.le_succ _) _⟩
    · have HR := Lib.hid (fillOut_bad (ev := evI) (T := T) (R := R) (key := key) ((fillE_w (T := T) (R := R) (key := key) HN.out HV.out).trans HE6.out) h0)
      have hne : ((E : Int) != 0) = true := by simp; omega
      obtain ⟨c0, c1, c2, c3, c4, c5⟩ := row_at HRZ6.out
      obtain ⟨f0, f1, f2, f3, f4, f5⟩ := free_row HRZ6.out
      go_wp2
      refine bodyPost_ret (v := .tuple #[zeroW, .int .i64 0, .int .i64 E]) (by simp [results, Tryz.results34, go_sem, zeroW, c0, c1, c2, c3, c4, c5]) rfl ?_
      exact ⟨⟨_, rfl, HR.out⟩, below_six HB6.out (Nat.le_succ _) _ _ _ _ _ _⟩
  · have HR := Lib.hid (fillOut_bad (ev := evI) (T := T) (R := R) (key := key) (fillE_v HN.out HV.out he) he)
    have hne : ((e : Int) != 0) = true := by simp; omega
    go_wp2
    refine bodyPost_ret (v := .tuple #[zeroW, .int .i64 0, .int .i64 e]) (by simp [results, Tryz.results34, go_sem, zeroW]) rfl ?_
    exact ⟨⟨_, rfl, HR.out⟩, ((Below.refl _ _).alloc (Nat.le_refl _) _).alloc (by simp) _⟩

set_option maxRecDepth 100000 in
set_option maxHeartbeats 8000000 in
/-- Add. -/
theorem rfill_add (T R : Int) (key val : ByteArray) (N : Int) (s : ByteArray) (w : World) (hk : key.size ≤ 140737488351232) (hs : s.size ≤ 140737488351232) :
    Calls Tryz.prog 34 #[.agg #[.int .i64 T, .int .i64 R, .int .i64 3, .string key, .string val, .int .i64 N], .string s] w fun e w' => (∃ r, e = .returned r ∧ FillOut evI T R 3 key s.data.toList r) ∧ Below w.heap.size w w' := by
  have hs2 : s.size ≤ maxLen := by unfold maxLen; omega
  obtain ⟨m, k, e, hg⟩ : ∃ m k e, getL s.data.toList = (m, k, e) := ⟨_, _, _, rfl⟩
  obtain ⟨n, hn⟩ : ∃ n, zagN m = n := ⟨_, rfl⟩
  have hN : getN 3 s.data.toList = (n, k, e) := by unfold getN; rw [if_pos rfl, hg, ← hn]
  have hle := getN_le 3 s.data.toList
  rw [hN, ← size_data] at hle
  simp only at hle
  have hm : m ≤ 18446744073709551615 := by
    rcases getL_cases s.data.toList with ⟨e', h, _⟩ | ⟨m', k', h, h2, _⟩
    · rw [hg] at h; simp only [Prod.mk.injEq] at h; omega
    · rw [hg] at h; simp only [Prod.mk.injEq] at h; omega
  have HN := Lib.hid hN
  have HG := Lib.hid hg
  have HZ := Lib.hid hn
  have HLE := Lib.hid hle
  have HV : Hid (getV 3 (s.data.toList.drop k) = ([], 0, 0)) := Lib.hid rfl
  clear hN hg hle hn
  go_enter Tryz.func34, Tryz.ntmps34
  go_wp2_with fail
  refine (unvary_any s _ hs2).mono ?_
  rintro r w1 ⟨rfl, rfl⟩
  rw [HG.out]
  unfold numR
  by_cases he : e = 0
  · subst he
    have d1 : (0 : Int) ≤ (k : Int) := by omega
    have d2 : (k : Int) ≤ (s.size : Int) := by have := HLE.out.1; omega
    have m0 : (0 : Int) ≤ (m : Int) := by omega
    have m1 : (m : Int) ≤ 18446744073709551615 := by omega
    rw [show ((0 : Nat) : Int) = 0 from rfl]
    go_wp2
    go_region_held3 (fun w' => True) (trivial) (first | (go_at_call 68; ((with_reducible refine (zagr_any (m : Int) _ m0 m1).mono ?_); rintro r w' ⟨rfl, rfl⟩; rw [HZ.out])) | fail)
    obtain ⟨U, hU⟩ : ∃ U, s.extract k s.size = U := ⟨_, rfl⟩
    have hus : U.size = s.size - k := by rw [← hU, ByteArray.size_extract]; omega
    rw [hU]
    have HUS := Lib.hid hus
    have hub : U.size ≤ 140737488351232 := by omega
    clear hU hus
    go_wp2_with fail
    refine (rwright_any T R 3 key ⟨#[]⟩ n _ hk (Nat.zero_le _)).mono ?_
    rintro r w1 ⟨rfl, hb5⟩
    have HRB := Lib.hid (rows_two w #[.int .i64 T, .int .i64 R, .int .i64 3, .string key, .string ⟨#[]⟩, .int .i64 n] #[.int .i64 0, .int .i64 0, .int .i64 0, .string ⟨#[]⟩, .string ⟨#[]⟩, .int .i64 0] 46).1
    have HRZ := Lib.hid (rows_two w #[.int .i64 T, .int .i64 R, .int .i64 3, .string key, .string ⟨#[]⟩, .int .i64 n] #[.int .i64 0, .int .i64 0, .int .i64 0, .string ⟨#[]⟩, .string ⟨#[]⟩, .int .i64 0] 46).2.1
    have HLW := Lib.hid (rows_two w #[.int .i64 T, .int .i64 R, .int .i64 3, .string key, .string ⟨#[]⟩, .int .i64 n] #[.int .i64 0, .int .i64 0, .int .i64 0, .string ⟨#[]⟩, .string ⟨#[]⟩, .int .i64 0] 46).2.2.1
    have HBW := Lib.hid (rows_two w #[.int .i64 T, .int .i64 R, .int .i64 3, .string key, .string ⟨#[]⟩, .int .i64 n] #[.int .i64 0, .int .i64 0, .int .i64 0, .string ⟨#[]⟩, .string ⟨#[]⟩, .int .i64 0] 46).2.2.2.drew
    obtain ⟨E, hE⟩ : ∃ E, wriE T R 3 key ⟨#[]⟩ n = E := ⟨_, rfl⟩
    rw [hE]
    have rB6 := (hb5.block _ (Nat.lt_of_succ_lt HLW.out)).trans HRB.out
    have rZ6 := (hb5.block _ HLW.out).trans HRZ.out
    have HB6 := Lib.hid (HBW.out.trans (hb5.mono HBW.out.size))
    have HRB6 := Lib.hid rB6
    have HRZ6 := Lib.hid rZ6
    have HE6 := Lib.hid hE
    clear hb5 rB6 rZ6 hE
    by_cases h0 : E = 0
    · subst h0
      have HI := Lib.hid (wr_sized (.int .i64 T) (.int .i64 R) (.int .i64 3) (.string key) (.string ⟨#[]⟩) (.int .i64 n))
      have HRZ9 := Lib.hid (row_set HRZ6.out #[.int .i64 T, .int .i64 R, .int .i64 3, .string key, .string ⟨#[]⟩, .int .i64 n])
      have HONE := Lib.hid (wr_ones T R 3 key ⟨#[]⟩ n)
      have HSAME := Lib.hid (wr_same T R 3 key ⟨#[]⟩ n)
      have HOUT := Lib.hid (fillOut_ok (ev := evI) (R := R) HN.out HV.out HE6.out)
      rw [show ((0 : Nat) : Int) = 0 from rfl]
      go_wp2_with (first
        | (with_reducible refine wpList_load_row rfl _ _ rfl _ rfl _ _ _ _ HRB6.out Tryz.underlying46 rfl HI.out ?_)
        | (with_reducible refine wpList_store_row rfl _ _ _ rfl _ _ rfl rfl _ _ HRZ6.out HI.out HSAME.out HONE.out ?_))
      have hsz : (s.size : Int) - (U.size : Int) = ((k + 0 : Nat) : Int) := by have h1 := HUS.out; have h2 := HLE.out.1; omega
      rw [hsz]
      obtain ⟨c0, c1, c2, c3, c4, c5⟩ := row_at HRZ9.out
      refine bodyPost_ret (v := .tuple #[.agg #[.int .i64 T, .int .i64 R, .int .i64 3, .string key, .string ⟨#[]⟩, .int .i64 n], .int .i64 ((k + 0 : Nat) : Int), .int .i64 0]) (by simp [results, Tryz.results34, go_sem, c0, c1, c2, c3, c4, c5]) rfl ?_
      exact ⟨⟨_, rfl, HOUT.out⟩, below_row HB6.out (Nat.le_succ _) _⟩
    · have HR := Lib.hid (fillOut_bad (ev := evI) (T := T) (R := R) (key := key) ((fillE_w (T := T) (R := R) (key := key) HN.out HV.out).trans HE6.out) h0)
      have hne : ((E : Int) != 0) = true := by simp; omega
      obtain ⟨c0, c1, c2, c3, c4, c5⟩ := row_at HRZ6.out
      obtain ⟨f0, f1, f2, f3, f4, f5⟩ := free_row HRZ6.out
      go_wp2
      refine bodyPost_ret (v := .tuple #[zeroW, .int .i64 0, .int .i64 E]) (by simp [results, Tryz.results34, go_sem, zeroW, c0, c1, c2, c3, c4, c5]) rfl ?_
      exact ⟨⟨_, rfl, HR.out⟩, below_six HB6.out (Nat.le_succ _) _ _ _ _ _ _⟩
  · have HR := Lib.hid (fillOut_bad (ev := evI) (T := T) (R := R) (key := key) (fillE_n HN.out he) he)
    have hne : ((e : Int) != 0) = true := by simp; omega
    go_wp2
    refine bodyPost_ret (v := .tuple #[zeroW, .int .i64 0, .int .i64 e]) (by simp [results, Tryz.results34, go_sem, zeroW]) rfl ?_
    exact ⟨⟨_, rfl, HR.out⟩, ((Below.refl _ _).alloc (Nat.le_refl _) _).alloc (by simp) _⟩

set_option maxRecDepth 100000 in
set_option maxHeartbeats 8000000 in
/-- Insert. -/
theorem rfill_ins (T R : Int) (key val : ByteArray) (N : Int) (s : ByteArray) (w : World) (hk : key.size ≤ 140737488351232) (hs : s.size ≤ 140737488351232) :
    Calls Tryz.prog 34 #[.agg #[.int .i64 T, .int .i64 R, .int .i64 4, .string key, .string val, .int .i64 N], .string s] w fun e w' => (∃ r, e = .returned r ∧ FillOut evI T R 4 key s.data.toList r) ∧ Below w.heap.size w w' := by
  have hs2 : s.size ≤ maxLen := by unfold maxLen; omega
  obtain ⟨m, k, e, hg⟩ : ∃ m k e, intL s.data.toList 1000 = (m, k, e) := ⟨_, _, _, rfl⟩
  have hN : getN 4 s.data.toList = ((m : Int), k, e) := by unfold getN; rw [if_neg (by decide), if_pos rfl, hg]
  have hle := getN_le 4 s.data.toList
  rw [hN, ← size_data] at hle
  simp only at hle
  have HN := Lib.hid hN
  have HG := Lib.hid hg
  have HLE := Lib.hid hle
  obtain ⟨n, hn⟩ : ∃ n : Int, (m : Int) = n := ⟨_, rfl⟩
  rw [hn] at HN
  clear hN hg hle
  go_enter Tryz.func34, Tryz.ntmps34
  go_wp2_with fail
  refine (rint_any s 1000 _ hs2 (by decide) (by decide)).mono ?_
  rintro r w1 ⟨rfl, rfl⟩
  rw [HG.out]
  unfold intR
  simp only
  rw [hn]
  clear hn
  by_cases he : e = 0
  · subst he
    obtain ⟨v, j, e, hv⟩ : ∃ v j e, getV 4 (s.data.toList.drop k) = (v, j, e) := ⟨_, _, _, rfl⟩
    have hvl := getV_le 4 (s.data.toList.drop k)
    rw [hv, List.length_drop, ← size_data] at hvl
    simp only at hvl
    have HVL := Lib.hid hvl
    have d1 : (0 : Int) ≤ (k : Int) := by omega
    have d2 : (k : Int) ≤ (s.size : Int) := by have := HLE.out.1; omega
    rw [show ((0 : Nat) : Int) = 0 from rfl]
    go_wp2
    go_region
    obtain ⟨U, hU⟩ : ∃ U, s.extract k s.size = U := ⟨_, rfl⟩
    have hus : U.size = s.size - k := by rw [← hU, ByteArray.size_extract]; omega
    have hud : U.data.toList = s.data.toList.drop k := by rw [← hU, ext_data, List.take_of_length_le (by rw [← size_data]; exact Nat.le_refl _)]
    rw [hU]
    have HUS := Lib.hid hus
    have hub : U.size ≤ 140737488351232 := by omega
    have HG2 : Hid (getS U.data.toList = (v, j, e)) := Lib.hid (by rw [hud]; exact hv)
    have HV := Lib.hid hv
    clear hU hus hud hv hvl
    go_wp2_with fail
    refine (runspan_any U _ hub).mono ?_
    rintro r w1 ⟨rfl, rfl⟩
    rw [HG2.out]
    unfold spanR
    by_cases he : e = 0
    · subst he
      have d3 : (0 : Int) ≤ (j : Int) := by omega
      have d4 : (j : Int) ≤ (U.size : Int) := by have := HVL.out.2; have := HUS.out; omega
      rw [show ((0 : Nat) : Int) = 0 from rfl]
      go_wp2
      go_region
      obtain ⟨Y, hY⟩ : ∃ Y, U.extract j U.size = Y := ⟨_, rfl⟩
      have hys : Y.size = U.size - j := by rw [← hY, ByteArray.size_extract]; omega
      rw [hY]
      have HYS := Lib.hid hys
      have hyb : Y.size ≤ 140737488351232 := by omega
      clear hY hys
      go_wp2_with fail
      have hvl : (⟨v.toArray⟩ : ByteArray).size ≤ 140737488351232 := by rw [bs_size]; have := HVL.out.1; omega
      refine (rwright_any T R 4 key ⟨v.toArray⟩ n _ hk hvl).mono ?_
      rintro r w1 ⟨rfl, hb5⟩
      have HRB := Lib.hid (rows_two w #[.int .i64 T, .int .i64 R, .int .i64 4, .string key, .string ⟨v.toArray⟩, .int .i64 n] #[.int .i64 0, .int .i64 0, .int .i64 0, .string ⟨#[]⟩, .string ⟨#[]⟩, .int .i64 0] 46).1
      have HRZ := Lib.hid (rows_two w #[.int .i64 T, .int .i64 R, .int .i64 4, .string key, .string ⟨v.toArray⟩, .int .i64 n] #[.int .i64 0, .int .i64 0, .int .i64 0, .string ⟨#[]⟩, .string ⟨#[]⟩, .int .i64 0] 46).2.1
      have HLW := Lib.hid (rows_two w #[.int .i64 T, .int .i64 R, .int .i64 4, .string key, .string ⟨v.toArray⟩, .int .i64 n] #[.int .i64 0, .int .i64 0, .int .i64 0, .string ⟨#[]⟩, .string ⟨#[]⟩, .int .i64 0] 46).2.2.1
      have HBW := Lib.hid (rows_two w #[.int .i64 T, .int .i64 R, .int .i64 4, .string key, .string ⟨v.toArray⟩, .int .i64 n] #[.int .i64 0, .int .i64 0, .int .i64 0, .string ⟨#[]⟩, .string ⟨#[]⟩, .int .i64 0] 46).2.2.2.drew.drew
      obtain ⟨E, hE⟩ : ∃ E, wriE T R 4 key ⟨v.toArray⟩ n = E := ⟨_, rfl⟩
      rw [hE]
      have rB6 := (hb5.block _ (Nat.lt_of_succ_lt HLW.out)).trans HRB.out
      have rZ6 := (hb5.block _ HLW.out).trans HRZ.out
      have HB6 := Lib.hid (HBW.out.trans (hb5.mono HBW.out.size))
      have HRB6 := Lib.hid rB6
      have HRZ6 := Lib.hid rZ6
      have HE6 := Lib.hid hE
      clear hb5 rB6 rZ6 hE
      by_cases h0 : E = 0
      · subst h0
        have HI := Lib.hid (wr_sized (.int .i64 T) (.int .i64 R) (.int .i64 4) (.string key) (.string ⟨v.toArray⟩) (.int .i64 n))
        have HRZ9 := Lib.hid (row_set HRZ6.out #[.int .i64 T, .int .i64 R, .int .i64 4, .string key, .string ⟨v.toArray⟩, .int .i64 n])
        have HONE := Lib.hid (wr_ones T R 4 key ⟨v.toArray⟩ n)
        have HSAME := Lib.hid (wr_same T R 4 key ⟨v.toArray⟩ n)
        have HOUT := Lib.hid (fillOut_ok (ev := evI) (R := R) HN.out HV.out HE6.out)
        rw [show ((0 : Nat) : Int) = 0 from rfl]
        go_wp2_with (first
          | (with_reducible refine wpList_load_row rfl _ _ rfl _ rfl _ _ _ _ HRB6.out Tryz.underlying46 rfl HI.out ?_)
          | (with_reducible refine wpList_store_row rfl _ _ _ rfl _ _ rfl rfl _ _ HRZ6.out HI.out HSAME.out HONE.out ?_))
        have hsz : (s.size : Int) - (Y.size : Int) = ((k + j : Nat) : Int) := by have h1 := HUS.out; have h2 := HLE.out.1; have h3 := HYS.out; have h4 := HVL.out.2; omega
        rw [hsz]
        obtain ⟨c0, c1, c2, c3, c4, c5⟩ := row_at HRZ9.out
        refine bodyPost_ret (v := .tuple #[.agg #[.int .i64 T, .int .i64 R, .int .i64 4, .string key, .string ⟨v.toArray⟩, .int .i64 n], .int .i64 ((k + j : Nat) : Int), .int .i64 0]) (by simp [results, Tryz.results34, go_sem, c0, c1, c2, c3, c4, c5]) rfl ?_
        exact ⟨⟨_, rfl, HOUT.out⟩, below_row HB6.out (Nat.le_succ _) _⟩
      · have HR := Lib.hid (fillOut_bad (ev := evI) (T := T) (R := R) (key := key) ((fillE_w (T := T) (R := R) (key := key) HN.out HV.out).trans HE6.out) h0)
        have hne : ((E : Int) != 0) = true := by simp; omega
        obtain ⟨c0, c1, c2, c3, c4, c5⟩ := row_at HRZ6.out
        obtain ⟨f0, f1, f2, f3, f4, f5⟩ := free_row HRZ6.out
        go_wp2
        refine bodyPost_ret (v := .tuple #[zeroW, .int .i64 0, .int .i64 E]) (by simp [results, Tryz.results34, go_sem, zeroW, c0, c1, c2, c3, c4, c5]) rfl ?_
        exact ⟨⟨_, rfl, HR.out⟩, below_six HB6.out (Nat.le_succ _) _ _ _ _ _ _⟩
    · have HR := Lib.hid (fillOut_bad (ev := evI) (T := T) (R := R) (key := key) (fillE_v HN.out HV.out he) he)
      have hne : ((e : Int) != 0) = true := by simp; omega
      go_wp2
      refine bodyPost_ret (v := .tuple #[zeroW, .int .i64 0, .int .i64 e]) (by simp [results, Tryz.results34, go_sem, zeroW]) rfl ?_
      exact ⟨⟨_, rfl, HR.out⟩, (((Below.refl _ _).alloc (Nat.le_refl _) _).alloc (by simp) _).drew⟩
  · have HR := Lib.hid (fillOut_bad (ev := evI) (T := T) (R := R) (key := key) (fillE_n HN.out he) he)
    have hne : ((e : Int) != 0) = true := by simp; omega
    go_wp2
    refine bodyPost_ret (v := .tuple #[zeroW, .int .i64 0, .int .i64 e]) (by simp [results, Tryz.results34, go_sem, zeroW]) rfl ?_
    exact ⟨⟨_, rfl, HR.out⟩, ((Below.refl _ _).alloc (Nat.le_refl _) _).alloc (by simp) _⟩

theorem rfill_any (T R K : Int) (key val : ByteArray) (N : Int) (s : ByteArray) (w : World) (hk : key.size ≤ 140737488351232) (hs : s.size ≤ 140737488351232) :
    Calls Tryz.prog 34 #[.agg #[.int .i64 T, .int .i64 R, .int .i64 K, .string key, .string val, .int .i64 N], .string s] w fun e w' => (∃ r, e = .returned r ∧ FillOut evI T R K key s.data.toList r) ∧ Below w.heap.size w w' := by
  by_cases h1 : K = 1
  · subst h1; exact rfill_put T R key val N s w hk hs
  · by_cases h3 : K = 3
    · subst h3; exact rfill_add T R key val N s w hk hs
    · by_cases h4 : K = 4
      · subst h4; exact rfill_ins T R key val N s w hk hs
      · exact rfill_none T R K key val N s w hk h1 h3 h4
end Go.Proofs.YtkafhlpnhgipeaaGreatDoor
/-
  A map of texts that are there; of numbers that were told of: that a call makes. For this seat's types.
-/
namespace Go.Proofs.YtkafhlpnhgipeaaGreatDoor
open Go.RowKit Go.Maps

theorem zeroT (w : World) : (zeroValue 4).run Tryz.prog w = .ok (.bool false) w := by kernel_rfl
theorem keyedI : Keyed Tryz.prog 3 := int_keyed Tryz.underlying3
/-- Block b is a map of these texts, that are there. -/
def ownsSet (w : World) (b n : Nat) (t : List ByteArray) : Prop := ∃ D, SetM D t ∧ w.ownsMap Tryz.prog 9 (plainElem Tryz.prog 4) b n D
theorem ownsSet_made (w : World) : ownsSet (w.alloc (.map #[] 0)) w.heap.size 0 [] := ⟨_, setM_nil, World.ownsMap_made _ _ _ _⟩
theorem ownsSet.below {w w' : World} {b n : Nat} {t : List ByteArray} (h : ownsSet w b n t) (hb : Below w.heap.size w w') : ownsSet w' b n t := by
  obtain ⟨D, h1, h2⟩ := h
  exact ⟨D, h1, h2.kept (row := none) ⟨hb.os, hb.tape, hb.output, hb.size, fun k hk _ => hb.block k hk⟩ (by simp)⟩
theorem ownsSet.alloc {w : World} {b n : Nat} {t : List ByteArray} (h : ownsSet w b n t) (o : Obj) : ownsSet (w.alloc o) b n t := by
  obtain ⟨D, h1, h2⟩ := h; exact ⟨D, h1, h2.alloc o⟩
theorem ownsSet.drew {w : World} {b n : Nat} {t : List ByteArray} (h : ownsSet w b n t) : ownsSet w.drew b n t := by
  obtain ⟨D, h1, h2⟩ := h; exact ⟨D, h1, h2.drew⟩
section
variable {w : World} {ops : Array Oper} {rest : List Oper} {o : Oper} {a : Act} {Q : Exit → Act → World → Prop}
theorem wpList_set_look (hg : o.guard = none) (m x : Operand) (hop : o.op = Op.lookup 205 m x false) (b n : Nat) (t : List ByteArray)
    (hm : a.eval m = .map (some b)) (hown : ownsSet w b n t) (s : ByteArray) (hx : a.eval x = .string s) (hs : s.size ≤ maxLen) (v : Bool) (hv : if v then s ∈ t else s ∉ t)
    (hK : wpList Tryz.prog ops Q rest (a.put o.dst (.bool v)) w) : wpList Tryz.prog ops Q (o :: rest) a w := by
  obtain ⟨D, h1, h2⟩ := hown
  refine wpList_lookup_own_is w hg m x _ hop 9 4 keyedS Tryz.underlying205 _ (zeroT w) (.lit (.bool false)) [] (plainElem_bool Tryz.underlying4 false) b n D hm h2 _ _ hx (keyS hs) (.bool v) ?_ hK
  intro v' ps hv'
  obtain ⟨y, rfl, hy⟩ := plainElem_bool_inv Tryz.underlying4 hv'
  cases v with
  | true => rw [h1.there s (by simpa using hv)] at hy; simp at hy; rw [hy.1]
  | false => rw [h1.none s (by simpa using hv)] at hy; simp at hy; rw [hy.1]
theorem wpList_set_put (hg : o.guard = none) (m x v : Operand) (hop : o.op = Op.mapUpdate 205 m x v) (b n : Nat) (t : List ByteArray)
    (hm : a.eval m = .map (some b)) (hown : ownsSet w b n t) (hn : n < maxLen) (s : ByteArray) (hx : a.eval x = .string s) (hv : a.eval v = .bool true) (hs : s.size ≤ maxLen)
    (hK : ∀ w', ownsSet w' b (n + 1) (t ++ [s]) → w.grownBy w' (some b) → wpList Tryz.prog ops Q rest (a.put o.dst undef) w') : wpList Tryz.prog ops Q (o :: rest) a w := by
  obtain ⟨D, h1, h2⟩ := hown
  refine wpList_mapUpdate_own w hg m x v _ hop 9 4 keyedS Tryz.underlying205 _ b n D hm h2 hn _ _ _ hx hv (keyS hs) (.lit (.bool true)) [] (plainElem_bool Tryz.underlying4 true) ?_
  intro w' h3 h4
  exact hK w' ⟨_, h1.put s, h3⟩ h4
end

/-- Block b is a map of just the numbers below m. -/
def ownsTold (w : World) (b n m : Nat) : Prop := ∃ D, ToldM D m ∧ w.ownsMap Tryz.prog 3 (plainElem Tryz.prog 4) b n D
theorem ownsTold_made (w : World) : ownsTold (w.alloc (.map #[] 0)) w.heap.size 0 0 := ⟨_, toldM_nil, World.ownsMap_made _ _ _ _⟩
theorem ownsTold.kept {w w' : World} {b n m : Nat} {row : Option Nat} (h : ownsTold w b n m) (hg : w.grownBy w' row) (hne : some b ≠ row) : ownsTold w' b n m := by
  obtain ⟨D, h1, h2⟩ := h; exact ⟨D, h1, h2.kept hg hne⟩
theorem ownsTold.below {w w' : World} {b n m : Nat} (h : ownsTold w b n m) (hb : Below w.heap.size w w') : ownsTold w' b n m :=
  h.kept (row := none) ⟨hb.os, hb.tape, hb.output, hb.size, fun k hk _ => hb.block k hk⟩ (by simp)
theorem ownsTold.alloc {w : World} {b n m : Nat} (h : ownsTold w b n m) (o : Obj) : ownsTold (w.alloc o) b n m := by
  obtain ⟨D, h1, h2⟩ := h; exact ⟨D, h1, h2.alloc o⟩
theorem ownsTold.lt {w : World} {b n m : Nat} (h : ownsTold w b n m) : b < w.heap.size := by
  obtain ⟨D, h1, h2⟩ := h; exact h2.lt
section
variable {w : World} {ops : Array Oper} {rest : List Oper} {o : Oper} {a : Act} {Q : Exit → Act → World → Prop}
theorem wpList_told_len (hg : o.guard = none) (m : Operand) (hop : o.op = Op.call { callee := Callee.builtin Builtin.len, args := #[m], argTypes := #[137] }) (b n k : Nat) (hm : a.eval m = .map (some b)) (hown : ownsTold w b n k)
    (hK : wpList Tryz.prog ops Q rest (a.put o.dst (.int .i64 (k : Nat))) w) : wpList Tryz.prog ops Q (o :: rest) a w := by
  obtain ⟨D, h1, h2⟩ := hown
  refine wpList_len_own w hg m _ hop 3 4 Tryz.underlying137 _ b n D hm h2 ?_
  rw [h1.size]; exact hK
theorem wpList_told_put (hg : o.guard = none) (m x v : Operand) (hop : o.op = Op.mapUpdate 137 m x v) (b n k : Nat) (hm : a.eval m = .map (some b)) (hown : ownsTold w b n k) (hn : n < maxLen)
    (j : Nat) (hj : j ≤ k) (hk : k ≤ 1000000) (hx : a.eval x = .int .i64 (j : Nat)) (hv : a.eval v = .bool true)
    (hK : ∀ w', ownsTold w' b (n + 1) (if j = k then k + 1 else k) → w.grownBy w' (some b) → wpList Tryz.prog ops Q rest (a.put o.dst undef) w') : wpList Tryz.prog ops Q (o :: rest) a w := by
  obtain ⟨D, h1, h2⟩ := hown
  refine wpList_mapUpdate_own w hg m x v _ hop 3 4 keyedI Tryz.underlying137 _ b n D hm h2 hn _ _ _ hx hv (keyOf_int_mk Tryz.underlying3 (WalkArith.wf_i64 (by omega))) (.lit (.bool true)) [] (plainElem_bool Tryz.underlying4 true) ?_
  intro w' h3 h4
  refine hK w' ⟨_, ?_, h3⟩ h4
  by_cases e : j = k
  · subst e; rw [if_pos rfl]; exact h1.new
  · rw [if_neg e]; exact h1.old (by omega)
end
end Go.Proofs.YtkafhlpnhgipeaaGreatDoor
/-
  The contracts of keys.twice and keys.order.
-/
namespace Go.Proofs.YtkafhlpnhgipeaaGreatDoor
open Go.RowKit

theorem dupG_hit {l : List ByteArray} {k : Nat} {s : ByteArray} (h : l[k]? = some s) (hs : s ∈ l.take k) : dupG (l.take k) (l.drop k) k = some k := by
  obtain ⟨hk, e⟩ := List.getElem?_eq_some_iff.1 h
  rw [List.drop_eq_getElem_cons hk, e, dupG, if_pos hs]
theorem dupG_miss {l : List ByteArray} {k : Nat} {s : ByteArray} (h : l[k]? = some s) (hs : s ∉ l.take k) : dupG (l.take k) (l.drop k) k = dupG (l.take (k + 1)) (l.drop (k + 1)) (k + 1) := by
  obtain ⟨hk, e⟩ := List.getElem?_eq_some_iff.1 h
  rw [List.drop_eq_getElem_cons hk, e, dupG, if_neg hs]
  congr 1
  rw [← e, List.take_append_getElem hk]
/-- What twice answers. -/
def dupR (l : List ByteArray) : Nat × Int := match dupG [] l 0 with | some i => (9, (i : Int)) | none => (0, -1)

set_option maxRecDepth 100000 in
set_option maxHeartbeats 4000000 in
theorem ktwice_any (v : Value) (l : List ByteArray) (w : World) (hv : IsTexts w v l) (hl : l.length ≤ 1000000) (hs : ∀ s ∈ l, s.size ≤ 140737488351232) :
    Calls Tryz.prog 108 #[v] w (RightIs w (dupR l)) := by
  obtain ⟨a1, c1, rfl, _, f1⟩ := hv
  have F1 := Lib.hid f1
  have HS := Lib.hid hs
  obtain ⟨n, hn⟩ : ∃ n, n = l.length := ⟨_, rfl⟩
  rw [← hn] at hl ⊢
  have HN := Lib.hid hn
  clear f1 hs hn
  have hmm := @run_makeMap Tryz.prog
  go_enter Tryz.func108, Tryz.ntmps108
  go_wp2
  go_loopw [9] (fun i wr => ∃ k : Nat, k ≤ n ∧ i = .int .i64 k ∧ dupG [] l 0 = dupG (l.take k) (l.drop k) k ∧ ownsSet wr w.heap.size k (l.take k) ∧ Below w.heap.size w wr) (fun i _ => n - (intOf i).toNat)
  case atStart => exact ⟨0, Nat.zero_le _, rfl, rfl, ownsSet_made _, (Below.refl _ _).alloc (Nat.le_refl _) _⟩
  case round =>
    obtain ⟨k, hk, rfl, hd, hmap, hbel⟩ := hrel
    have HD := Lib.hid hd
    have HM := Lib.hid hmap
    have HB := Lib.hid hbel
    clear hd hmap hbel
    by_cases hlt : k < n
    · obtain ⟨s, hs⟩ : ∃ s, l[k]? = some s := ⟨l[k]'(by have := HN.out; omega), List.getElem?_eq_getElem _⟩
      obtain ⟨b1, o1, rfl, hb1, p0⟩ := F1.out k s hs
      have q0 := (HB.out.cell (p := ⟨b1, o1 + k, none⟩) hb1).trans p0
      have HSZ : Hid (s.size ≤ 140737488351232) := Lib.hid (HS.out s (List.mem_of_getElem? hs))
      have hsz : s.size ≤ maxLen := by have := HSZ.out; unfold maxLen; omega
      by_cases hin : s ∈ l.take k
      · have HR : Hid (dupR l = (9, (k : Int))) := Lib.hid (show dupR l = _ by unfold dupR; rw [HD.out, dupG_hit hs hin])
        clear p0 hs
        go_wp2_with (at_lookup; refine wpList_set_look rfl _ _ rfl w.heap.size k (l.take k) rfl HM.out s rfl hsz true (by simpa using hin) ?_)
        go_ret
        rw [HR.out]
        exact ⟨_, rfl, atIs.new _ 9 _ (by decide), HB.out.alloc HB.out.size _⟩
      · have HD2 := Lib.hid (HD.out.trans (dupG_miss hs hin))
        have HTK : Hid (l.take k ++ [s] = l.take (k + 1)) := Lib.hid (show _ = _ by obtain ⟨hk2, e⟩ := List.getElem?_eq_some_iff.1 hs; rw [← e, List.take_append_getElem hk2])
        clear p0 hs
        go_wp2_with (first
          | (at_lookup; refine wpList_set_look rfl _ _ rfl w.heap.size k (l.take k) rfl HM.out s rfl hsz false (by simpa using hin) ?_)
          | (at_mapUpdate; refine wpList_set_put rfl _ _ _ rfl w.heap.size k (l.take k) rfl HM.out (by unfold maxLen; omega) s rfl rfl hsz ?_; intro w1 hm1 hg1))
        have HB1 : Hid (Below w.heap.size w w1) := Lib.hid (HB.out.grown hg1 HB.out.size (fun g hg => by cases hg; exact Nat.le_refl _))
        rw [HTK.out] at hm1
        have HM1 := Lib.hid hm1
        clear hm1 hg1
        go_roundw
        case rel => exact ⟨k + 1, by omega, by go_num, HD2.out, HM1.out, HB1.out⟩
        case measure => simp [intOf]; omega
    · have HR : Hid (dupR l = (0, -1)) := Lib.hid (show dupR l = _ by unfold dupR; rw [HD.out, List.drop_eq_nil_of_le (by have := HN.out; omega)]; rfl)
      go_wp2
      go_ret
      rw [HR.out]
      exact ⟨_, rfl, .inl ⟨rfl, rfl⟩, HB.out⟩

theorem ordG_range {K told k : Nat} {l : List Int} {n : Int} (h : l[k]? = some n) (hn : n < 0 ∨ (K : Int) ≤ n) : ordG K told (l.drop k) k = (2, (k : Int)) := by
  obtain ⟨hk, e⟩ := List.getElem?_eq_some_iff.1 h
  rw [List.drop_eq_getElem_cons hk, e, ordG, if_pos hn]
theorem ordG_false {K told k : Nat} {l : List Int} {n : Int} (h : l[k]? = some n) (hn : ¬ (n < 0 ∨ (K : Int) ≤ n)) (ht : (told : Int) < n) : ordG K told (l.drop k) k = (13, (k : Int)) := by
  obtain ⟨hk, e⟩ := List.getElem?_eq_some_iff.1 h
  rw [List.drop_eq_getElem_cons hk, e, ordG, if_neg hn, if_pos ht]
theorem ordG_old {K told k : Nat} {l : List Int} {n : Int} (h : l[k]? = some n) (hn : ¬ (n < 0 ∨ (K : Int) ≤ n)) (ht : n < (told : Int)) : ordG K told (l.drop k) k = ordG K told (l.drop (k + 1)) (k + 1) := by
  obtain ⟨hk, e⟩ := List.getElem?_eq_some_iff.1 h
  rw [List.drop_eq_getElem_cons hk, e, ordG, if_neg hn, if_neg (by omega), if_neg (by omega)]
theorem ordG_new {K told k : Nat} {l : List Int} {n : Int} (h : l[k]? = some n) (hn : ¬ (n < 0 ∨ (K : Int) ≤ n)) (ht : n = (told : Int)) : ordG K told (l.drop k) k = ordG K (told + 1) (l.drop (k + 1)) (k + 1) := by
  obtain ⟨hk, e⟩ := List.getElem?_eq_some_iff.1 h
  rw [List.drop_eq_getElem_cons hk, e, ordG, if_neg hn, if_neg (by omega), if_pos ht]

set_option maxRecDepth 100000 in
set_option maxHeartbeats 4000000 in
theorem korder_any (v : Value) (l : List Int) (K : Nat) (w : World) (hv : IsNums w v l) (hl : l.length ≤ 1000000) (hK : K ≤ 1000000) :
    Calls Tryz.prog 109 #[v, .int .i64 (K : Int)] w (VRightIs w (ordG K 0 l 0)) := by
  obtain ⟨a1, c1, rfl, _, f1⟩ := hv
  have F1 := Lib.hid f1
  obtain ⟨n, hn⟩ : ∃ n, n = l.length := ⟨_, rfl⟩
  rw [← hn] at hl ⊢
  have HN := Lib.hid hn
  clear f1 hn
  go_enter Tryz.func109, Tryz.ntmps109
  go_wp2
  go_loopw [5, 10] (fun t i wr => ∃ k told : Nat, k ≤ n ∧ told ≤ k ∧ i = .int .i64 k ∧ t = .int .i64 told ∧ ordG K 0 l 0 = ordG K told (l.drop k) k ∧ Below w.heap.size w wr) (fun _ i _ => n - (intOf i).toNat)
  case atStart => exact ⟨0, 0, Nat.zero_le _, Nat.le_refl _, rfl, rfl, rfl, Below.refl _ _⟩
  case round =>
    obtain ⟨k, told, hk, htk, rfl, rfl, hd, hbel⟩ := hrel
    have HD := Lib.hid hd
    have HB := Lib.hid hbel
    clear hd hbel
    by_cases hlt : k < n
    · obtain ⟨z, hz⟩ : ∃ z, l[k]? = some z := ⟨l[k]'(by have := HN.out; omega), List.getElem?_eq_getElem _⟩
      obtain ⟨b1, o1, rfl, hb1, p0⟩ := F1.out k z hz
      have q0 := (HB.out.cell (p := ⟨b1, o1 + k, none⟩) hb1).trans p0
      by_cases hr : z < 0 ∨ (K : Int) ≤ z
      · have HR := Lib.hid (HD.out.trans (ordG_range hz hr))
        clear p0 hz
        by_cases h0 : z < 0
        · go_wp2
          go_ret
          rw [HR.out]
          exact ⟨_, rfl, .inl (atIs.new _ 2 _ (by decide)), HB.out.alloc HB.out.size _⟩
        · have h1 : (K : Int) ≤ z := by omega
          go_wp2
          go_ret
          rw [HR.out]
          exact ⟨_, rfl, .inl (atIs.new _ 2 _ (by decide)), HB.out.alloc HB.out.size _⟩
      · have h0 : ¬ z < 0 := by omega
        have h1 : ¬ (K : Int) ≤ z := by omega
        by_cases hf : (told : Int) < z
        · have HR := Lib.hid (HD.out.trans (ordG_false hz hr hf))
          clear p0 hz hr
          go_wp2
          go_ret
          rw [HR.out]
          exact ⟨_, rfl, .inl (atIs.new _ 13 _ (by decide)), HB.out.alloc HB.out.size _⟩
        · by_cases he : z = (told : Int)
          · have HD2 := Lib.hid (HD.out.trans (ordG_new hz hr he))
            clear p0 hz hr
            subst he
            go_wp2
            go_roundw
            case rel => exact ⟨k + 1, told + 1, by omega, by omega, by go_num, by go_num, HD2.out, HB.out⟩
            case measure => simp [intOf]; omega
          · have HD2 := Lib.hid (HD.out.trans (ordG_old hz hr (by omega)))
            have hb : (z == (told : Int)) = false := by simpa using he
            clear p0 hz hr
            go_wp2
            go_roundw
            case rel => exact ⟨k + 1, told, by omega, by omega, by go_num, rfl, HD2.out, HB.out⟩
            case measure => simp [intOf]; omega
    · have HE : Hid (ordG K 0 l 0 = if told < K then (8, -1) else (0, -1)) := Lib.hid (show _ = _ by rw [HD.out, List.drop_eq_nil_of_le (by have := HN.out; omega)]; rfl)
      by_cases ht : told < K
      · have HR : Hid (ordG K 0 l 0 = (8, -1)) := Lib.hid (show _ = _ by rw [HE.out, if_pos ht])
        go_wp2
        go_ret
        rw [HR.out]
        exact ⟨_, rfl, .inr ⟨by decide, rfl, rfl⟩, HB.out⟩
      · have HR : Hid (ordG K 0 l 0 = (0, -1)) := Lib.hid (show _ = _ by rw [HE.out, if_neg ht])
        go_wp2
        go_ret
        rw [HR.out]
        exact ⟨_, rfl, .inl (.inl ⟨rfl, rfl⟩), HB.out⟩
end Go.Proofs.YtkafhlpnhgipeaaGreatDoor
/-
  The contract of keys.List.
-/
namespace Go.Proofs.YtkafhlpnhgipeaaGreatDoor
open Go.RowKit

theorem listF_dup {T : List ByteArray} {l : List Int} (h : (dupR T).1 ≠ 0) : listF T l = ([], dupR T) := by
  unfold dupR at h ⊢
  unfold listF
  split at h
  · rename_i i hi; rw [hi]
  · simp at h
theorem listF_ord {T : List ByteArray} {l : List Int} (h : (dupR T).1 = 0) (ho : (ordG T.length 0 l 0).1 ≠ 0) : listF T l = ([], ordG T.length 0 l 0) := by
  unfold dupR at h
  unfold listF
  split at h
  · simp at h
  · rename_i hi; rw [hi]; simp only [if_neg ho]
theorem listF_good {T : List ByteArray} {l : List Int} (h : (dupR T).1 = 0) (ho : (ordG T.length 0 l 0).1 = 0) : listF T l = (outG T l, 0, -1) := by
  unfold dupR at h
  unfold listF
  split at h
  · simp at h
  · rename_i hi; rw [hi]; simp only [if_pos ho]
theorem ordG_in (K : Nat) (l : List Int) : ∀ told i, (ordG K told l i).1 = 0 → ∀ n ∈ l, 0 ≤ n ∧ n < (K : Int) := by
  induction l with
  | nil => intro told i _ n hn; cases hn
  | cons z r ih =>
    intro told i h n hn
    unfold ordG at h
    split at h
    · simp at h
    · rename_i h1
      split at h
      · simp at h
      · rcases List.mem_cons.1 hn with rfl | hn
        · omega
        · exact ih _ _ h n hn
theorem outG_snoc {T : List ByteArray} {l : List Int} {k j : Nat} {s : ByteArray} (h : l[k]? = some (j : Int)) (hs : T[j]? = some s) : outG T (l.take (k + 1)) = outG T (l.take k) ++ [s] := by
  obtain ⟨hk, e⟩ := List.getElem?_eq_some_iff.1 h
  rw [← List.take_append_getElem hk, e]
  unfold outG
  rw [List.map_append]
  simp [hs]

/-- What List answers. -/
def ListIs (w : World) (r : List ByteArray × Nat × Int) (e : Ending) (w' : World) : Prop :=
  ∃ v err, e = .returned (.tuple #[v, err]) ∧ ownsS w' w.heap.size v r.1 ∧ anyErr w' err r.2 ∧ Below w.heap.size w w'

set_option maxRecDepth 100000 in
set_option maxHeartbeats 4000000 in
theorem klist_any (v u : Value) (T : List ByteArray) (l : List Int) (w : World) (hv : IsTexts w v T) (hu : IsNums w u l) (hT : T.length ≤ 1000000) (hl : l.length ≤ 1000000) (hs : ∀ s ∈ T, s.size ≤ 140737488351232) :
    Calls Tryz.prog 76 #[v, u] w (ListIs w (listF T l)) := by
  have HV := Lib.hid hv
  have HU := Lib.hid hu
  have HS := Lib.hid hs
  have HTL := Lib.hid hT
  have HLL := Lib.hid hl
  obtain ⟨a1, c1, rfl, _, f1⟩ := hv
  obtain ⟨a2, c2, rfl, _, f2⟩ := hu
  have F1 := Lib.hid f1
  have F2 := Lib.hid f2
  obtain ⟨m, hm⟩ : ∃ m, m = T.length := ⟨_, rfl⟩
  obtain ⟨n, hn⟩ : ∃ n, n = l.length := ⟨_, rfl⟩
  rw [← hm] at hT HV ⊢
  rw [← hn] at hl HU ⊢
  have HM := Lib.hid hm
  have HN := Lib.hid hn
  clear f1 f2 hm hn hs hT hl
  go_enter Tryz.func76, Tryz.ntmps76
  go_wp2_with fail
  refine (ktwice_any _ T w HV.out HTL.out HS.out).mono ?_
  rintro r w1 ⟨err, rfl, he, hb1⟩
  by_cases h0 : (dupR T).1 = 0
  · obtain rfl := anyErr.nil (.inl he) h0
    have HU1 := Lib.hid (HU.out.below hb1)
    have HB1 := Lib.hid hb1
    have H0 := Lib.hid h0
    clear he hb1 h0
    go_wp2_with fail
    refine (korder_any _ l m w1 HU1.out HLL.out (by rw [HM.out]; exact HTL.out)).mono ?_
    rintro r w2 ⟨err, rfl, he, hb2⟩
    have HB2 := Lib.hid (HB1.out.trans (hb2.mono HB1.out.size))
    by_cases h1 : (ordG m 0 l 0).1 = 0
    · obtain rfl := he.nil h1
      have HR : Hid (listF T l = (outG T l, 0, -1)) := Lib.hid (listF_good H0.out (by rw [← HM.out]; exact h1))
      have HI := Lib.hid (ordG_in m l 0 0 h1)
      have hm' : m ≤ 1000000 := by rw [HM.out]; exact HTL.out
      have hn' : n ≤ 1000000 := by rw [HN.out]; exact HLL.out
      clear he hb2 h1 HB1 HU1
      go_wp2
      go_loopw [8, 28] (fun x i wr => ∃ k : Nat, k ≤ m ∧ i = .int .i64 k ∧ ownsS wr w.heap.size x (T.take k) ∧ Below w.heap.size w wr) (fun _ i _ => m - (intOf i).toNat)
      case atStart => exact ⟨0, Nat.zero_le _, rfl, ownsS_nil _ _, HB2.out⟩
      case round =>
        obtain ⟨k, hk, rfl, hos, hbel⟩ := hrel
        have HO := Lib.hid hos
        have HB := Lib.hid hbel
        obtain ⟨ad, cp, rfl, hcp, g1⟩ := hos.isTexts
        have hkl : (T.take k).length = k := by rw [List.length_take]; have := HM.out; omega
        have HKL := Lib.hid hkl
        rw [hkl] at HO hcp
        rw [hkl]
        clear hos hbel hkl
        by_cases hlt : k < m
        · obtain ⟨s, hs⟩ : ∃ s, T[k]? = some s := ⟨T[k]'(by have := HM.out; omega), List.getElem?_eq_getElem _⟩
          obtain ⟨b1, o1, rfl, hb1, p0⟩ := F1.out k s hs
          have q0 := (HB.out.cell (p := ⟨b1, o1 + k, none⟩) hb1).trans p0
          have HSZ : Hid (s.size ≤ 140737488351232) := Lib.hid (HS.out s (List.mem_of_getElem? hs))
          have HTK : Hid (T.take k ++ [s] = T.take (k + 1)) := Lib.hid (show _ = _ by obtain ⟨hk2, e⟩ := List.getElem?_eq_some_iff.1 hs; rw [← e, List.take_append_getElem hk2])
          clear p0 hs g1
          go_wp2_with fail
          refine (kclone_any s _ (by have := HSZ.out; omega)).mono ?_
          rintro r w3 ⟨rfl, hb3⟩
          have HB3 := Lib.hid (HB.out.trans (hb3.mono HB.out.size))
          have HO3 := Lib.hid (HO.out.below hb3)
          clear hb3 HB HO
          go_wp2_with (at_builtin; refine wpList_append_str rfl _ _ rfl w.heap.size _ (T.take k) rfl (HO3.out.alloc _) ⟨w3.heap.size, 0, none⟩ 1 rfl s (by simp [Addr.add]) (by have := HKL.out; omega) (by have := HB3.out.size; simp; omega) ?_)
          intro g cap w4 ho4 hg4
          have HB4 : Hid (Below w.heap.size w w4) := (HB3.out.alloc HB3.out.size _).grown hg4 (by have := HB3.out.size; simp; omega) (fun g hg => (HO3.out.lt g hg).1)
          rw [HTK.out] at ho4
          have HO4 := Lib.hid ho4
          clear ho4 hg4
          go_wp2
          go_roundw
          case rel => exact ⟨k + 1, by omega, by go_num, HO4.out, HB4.out⟩
          case measure => simp [intOf]; omega
        · obtain rfl : k = m := by omega
          have hTk : T.take k = T := List.take_of_length_le (by rw [HM.out]; exact Nat.le_refl _)
          rw [hTk] at HO g1
          obtain ⟨wp, hwp⟩ : ∃ wp, wp = wr := ⟨_, rfl⟩
          rw [← hwp] at HO HB g1 ⊢
          have G1 := Lib.hid g1
          clear g1 hTk hwp
          go_wp2
          go_loopw [9, 40] (fun y i wo => ∃ q : Nat, q ≤ n ∧ i = .int .i64 q ∧ ownsS wo wp.heap.size y (outG T (l.take q)) ∧ Below wp.heap.size wp wo) (fun _ i _ => n - (intOf i).toNat)
          case atStart => exact ⟨0, Nat.zero_le _, rfl, ownsS_nil _ _, Below.refl _ _⟩
          case round =>
            obtain ⟨q, hq, rfl, hos, hbel⟩ := hrel
            have HO2 := Lib.hid hos
            have HBO := Lib.hid hbel
            clear hos hbel
            by_cases hlt2 : q < n
            · obtain ⟨z, hz⟩ : ∃ z, l[q]? = some z := ⟨l[q]'(by have := HN.out; omega), List.getElem?_eq_getElem _⟩
              obtain ⟨b2, o2, rfl, hb2, p2⟩ := F2.out q z hz
              obtain ⟨z0, z1⟩ := HI.out z (List.mem_of_getElem? hz)
              obtain ⟨j, rfl⟩ : ∃ j : Nat, z = j := ⟨z.toNat, by omega⟩
              have hjm : j < k := by omega
              obtain ⟨s, hs⟩ : ∃ s, T[j]? = some s := ⟨T[j]'(by have := HM.out; omega), List.getElem?_eq_getElem _⟩
              obtain ⟨b3, o3, rfl, hb3, p3⟩ := G1.out j s hs
              have HBW := Lib.hid (HB.out.trans (HBO.out.mono HB.out.size))
              have q2 := (HBW.out.cell (p := ⟨b2, o2 + q, none⟩) hb2).trans p2
              have q3 := (HBO.out.cell (p := ⟨b3, o3 + j, none⟩) hb3).trans p3
              have HX := Lib.hid (outG_snoc hz hs)
              have hz2 : (outG T (l.take q)).length = q := by unfold outG; rw [List.length_map, List.length_take]; have := HN.out; omega
              have HZ2 := Lib.hid hz2
              clear p2 p3 hz hs z0 z1 hz2
              go_wp2_with (at_builtin; refine wpList_append_str rfl _ _ rfl wp.heap.size _ (outG T (l.take q)) rfl (HO2.out.alloc _) ⟨wr.heap.size, 0, none⟩ 1 rfl s (by simp [Addr.add]) (by have := HZ2.out; omega) (by have := HBO.out.size; simp; omega) ?_)
              intro g cap w4 ho4 hg4
              have HB4 : Hid (Below wp.heap.size wp w4) := (HBO.out.alloc HBO.out.size _).grown hg4 (by have := HBO.out.size; simp; omega) (fun g hg => (HO2.out.lt g hg).1)
              rw [← HX.out] at ho4
              have HO4 := Lib.hid ho4
              clear ho4 hg4
              go_wp2
              go_roundw
              case rel => exact ⟨q + 1, by omega, by go_num, HO4.out, HB4.out⟩
              case measure => simp [intOf]; omega
            · obtain rfl : q = n := by omega
              have hlk : l.take q = l := List.take_of_length_le (by rw [HN.out]; exact Nat.le_refl _)
              have HO3 := Lib.hid (show ownsS wr wp.heap.size _ (outG T l) from hlk ▸ HO2.out)
              clear hlk
              go_wp2
              go_ret2
              rw [HR.out]
              exact ⟨_, _, rfl, HO3.out.mono HB.out.size, .inl (.inl ⟨rfl, rfl⟩), HB.out.trans (HBO.out.mono HB.out.size)⟩
    · obtain ⟨t, x, rfl⟩ := he.iface h1
      have HR : Hid (listF T l = ([], ordG m 0 l 0)) := Lib.hid (by rw [HM.out]; exact listF_ord H0.out (by rw [← HM.out]; exact h1))
      have HE := Lib.hid he
      clear he hb2
      go_wp2
      go_ret2
      rw [HR.out]
      exact ⟨_, _, rfl, ownsS_nil _ _, HE.out, HB2.out⟩
  · have he2 : anyErr w1 err (dupR T) := .inl he
    obtain ⟨t, x, rfl⟩ := he2.iface h0
    have HR : Hid (listF T l = ([], dupR T)) := Lib.hid (listF_dup h0)
    have HE := Lib.hid he2
    have HB1 := Lib.hid hb1
    clear he he2 hb1
    go_wp2
    go_ret2
    rw [HR.out]
    exact ⟨_, _, rfl, ownsS_nil _ _, HE.out, HB1.out⟩
end Go.Proofs.YtkafhlpnhgipeaaGreatDoor
