/-
  The contract of span.All: so many texts, one behind the other.
-/
import Derived.Test.YtepfbjfmfnnfdaaDoorSpan
import Derived.Test.YtepfbjfmfnnfdaaDoorStrs
import Derived.Test.YtepfbjfmfnnfdaaDoorPlace
namespace Go.Proofs.YtepfbjfmfnnfdaaDoor
open Go.RowKit

/-- So many texts, one behind the other, from place 'at' on; the first of them has number i; those ahead of them are acc. What comes: the texts, how many bytes they have, an error's number, its place. -/
def allF (l : List UInt8) : Nat → Nat → Nat → List ByteArray → List ByteArray × Nat × Nat × Int
  | 0, _, p, acc => (acc, p, 0, -1)
  | m + 1, i, p, acc =>
    if (getS (l.drop p)).2.2 = 0 then allF l m (i + 1) (p + (getS (l.drop p)).2.1) (acc ++ [⟨(getS (l.drop p)).1.toArray⟩]) else ([], 0, (getS (l.drop p)).2.2, (i : Int))

theorem allF_ok {l t : List UInt8} {m i p k : Nat} {acc : List ByteArray} (h : getS (l.drop p) = (t, k, 0)) : allF l (m + 1) i p acc = allF l m (i + 1) (p + k) (acc ++ [⟨t.toArray⟩]) := by
  rw [allF, h, if_pos rfl]
theorem allF_bad {l t : List UInt8} {m i p k e : Nat} {acc : List ByteArray} (h : getS (l.drop p) = (t, k, e)) (he : e ≠ 0) : allF l (m + 1) i p acc = ([], 0, e, (i : Int)) := by
  rw [allF, h, if_neg he]

/-- What is read has at least a byte; it lies within the text. -/
theorem getS_within {l t : List UInt8} {k : Nat} (h : getS l = (t, k, 0)) : 1 ≤ k ∧ k ≤ l.length := by
  rcases getL_cases l with ⟨e, hg, he⟩ | ⟨n, j, hg, hn, hk1, hk2, hk3⟩
  · rw [getS_bad hg he] at h; simp only [Prod.mk.injEq] at h; omega
  · by_cases h2 : 2000 < n
    · rw [getS_big hg h2] at h; simp at h
    · by_cases h3 : l.length < j + n
      · rw [getS_miss hg h2 h3] at h; simp at h
      · rw [getS_ok hg h2 h3] at h
        simp only [Prod.mk.injEq] at h
        omega

/-- What All answers. -/
def AllIs (w : World) (r : List ByteArray × Nat × Nat × Int) (e : Ending) (w' : World) : Prop :=
  ∃ v err, e = .returned (.tuple #[v, .int .i64 r.2.1, err]) ∧ ownsS w' w.heap.size v r.1 ∧ placeIs w' err r.2.2.1 r.2.2.2 ∧ (r.2.2.1 = 0 → err = .nilIface) ∧ Below w.heap.size w w'

set_option maxRecDepth 100000 in
set_option maxHeartbeats 4000000 in
theorem sall_any (s : ByteArray) (n : Int) (w : World) (hs : s.size ≤ 1000000) (_n0 : -9223372036854775808 ≤ n) (n1 : n ≤ 9223372036854775807) (hg : errT w) :
    Calls Tryd.prog 34 #[.string s, .int .i64 n] w (AllIs w (allF s.data.toList n.toNat 0 0 [])) := by
  have HG := Lib.hid hg
  clear hg
  go_enter Tryd.func34, Tryd.ntmps34
  go_wp2
  go_loopw [7, 8, 14] (fun v p c wr => ∃ (i q : Nat) (acc : List ByteArray), c = .int .i64 i ∧ p = .int .i64 q ∧ (i : Int) ≤ max n 0 ∧ q ≤ s.size ∧ acc.length ≤ q ∧ allF s.data.toList n.toNat 0 0 [] = allF s.data.toList (n.toNat - i) i q acc ∧ ownsS wr w.heap.size v acc ∧ Below w.heap.size w wr) (fun _ _ c _ => n.toNat - (intOf c).toNat)
  case atStart => exact ⟨0, 0, [], rfl, rfl, by omega, Nat.zero_le _, Nat.le_refl _, rfl, ownsS_nil _ _, Below.refl _ _⟩
  case round =>
    obtain ⟨i, q, acc, rfl, rfl, hi, hq, hacc, heq, hown, hbel⟩ := hrel
    have HEQ := Lib.hid heq
    have HOWN := Lib.hid hown
    have HBEL := Lib.hid hbel
    clear heq hown hbel
    by_cases hlt : (i : Int) < n
    · obtain ⟨t, k, e, hr⟩ : ∃ t k e, getS (s.data.toList.drop q) = (t, k, e) := ⟨_, _, _, rfl⟩
      have hx : (s.extract q s.size).data.toList = s.data.toList.drop q := by rw [ext_data, List.take_of_length_le (by rw [← size_data]; exact Nat.le_refl _)]
      have HSZ : Hid ((s.extract q s.size).size ≤ 140737488351232) := by show _ ≤ _; rw [ByteArray.size_extract]; omega
      obtain ⟨m, hm⟩ : ∃ m, n.toNat - i = m + 1 := ⟨n.toNat - i - 1, by omega⟩
      by_cases he : e = 0
      · subst he
        obtain ⟨k1, k2⟩ := getS_within hr
        rw [List.length_drop, ← size_data] at k2
        have HR : Hid (spanV (getS (s.extract q s.size).data.toList) = .tuple #[.string ⟨t.toArray⟩, .int .i64 k, .nilIface]) := by show spanV _ = _; rw [hx, hr]; rfl
        have HN : Hid (allF s.data.toList n.toNat 0 0 [] = allF s.data.toList (n.toNat - (i + 1)) (i + 1) (q + k) (acc ++ [⟨t.toArray⟩])) := by
          show allF _ _ _ _ _ = _
          rw [HEQ.out, hm, allF_ok hr, show n.toNat - (i + 1) = m by omega]
        have hqk : q + k ≤ s.size := by omega
        clear hx hr hm HEQ k2
        go_wp2_with fail
        refine (sget_any _ _ HSZ.out).mono ?_
        rintro r w1 ⟨rfl, hb1⟩
        rw [HR.out]
        have hbel2 : Below w.heap.size w w1 := HBEL.out.trans (hb1.mono HBEL.out.size)
        have hown2 := HOWN.out.below hb1
        have HBEL2 := Lib.hid hbel2
        have hsz1 := hbel2.size
        clear hb1 hbel2 HBEL HOWN
        go_wp2_with (at_builtin; refine wpList_append_str rfl _ _ rfl w.heap.size _ acc rfl (hown2.alloc _) ⟨w1.heap.size, 0, none⟩ 1 rfl ⟨t.toArray⟩ ?c1 ?c2 ?c3 ?_)
        case c1 => simp [Addr.add]
        case c2 => omega
        case c3 => simp; omega
        · intro g cap w2 hown3 hg3
          have hbel3 : Below w.heap.size w w2 := (HBEL2.out.alloc hsz1 _).grown hg3 (by simp; omega) (fun g hg => (hown2.lt g hg).1)
          have HN2 := HN
          clear hg3 hown2 HN HR HBEL2
          go_wp2
          go_roundw
          case rel => exact ⟨i + 1, q + k, acc ++ [⟨t.toArray⟩], by go_num, by go_num, by omega, hqk, by simp; omega, HN2.out, hown3, hbel3⟩
          case measure => simp [intOf]; omega
      · have HR : Hid (spanV (getS (s.extract q s.size).data.toList) = .tuple #[.string ⟨t.toArray⟩, .int .i64 k, .iface 23 (.int .i64 e)]) := by
          show spanV _ = _; rw [hx, hr]; unfold spanV errV; rw [if_neg he]
        have HN : Hid (allF s.data.toList n.toNat 0 0 [] = ([], 0, e, (i : Int))) := by
          show allF _ _ _ _ _ = _
          rw [HEQ.out, hm, allF_bad hr he]
        clear hx hr hm HEQ HOWN hacc
        go_wp2_with fail
        refine (sget_any _ _ HSZ.out).mono ?_
        rintro r w1 ⟨rfl, hb1⟩
        rw [HR.out]
        have HB1 : Hid (Below w.heap.size w w1) := HBEL.out.trans (hb1.mono HBEL.out.size)
        clear hb1 HBEL
        go_wp2_with fail
        refine (tell_err _ (e : Int) _ (HG.out.below HB1.out) (.inl rfl)).mono ?_
        rintro r w2 ⟨rfl, hb2⟩
        have HB2 : Hid (Below w.heap.size w w2) := HB1.out.trans (hb2.mono HB1.out.size)
        clear hb2 HB1
        go_wp2
        go_ret3
        rw [HN.out]
        exact ⟨_, _, rfl, ownsS_nil _ _, .inr (.inr ⟨w2.heap.size, 0, rfl, by simp, by simp⟩), fun h => absurd h he, HB2.out.alloc HB2.out.size _⟩
    · have hin : n.toNat - i = 0 := by omega
      have HN : Hid (allF s.data.toList n.toNat 0 0 [] = (acc, q, 0, -1)) := by
        show allF _ _ _ _ _ = _
        rw [HEQ.out, hin]; rfl
      clear hin HEQ
      go_wp2
      go_ret3
      rw [HN.out]
      exact ⟨_, _, rfl, HOWN.out, .inl ⟨rfl, rfl, rfl⟩, fun _ => rfl, HBEL.out⟩
end Go.Proofs.YtepfbjfmfnnfdaaDoor
