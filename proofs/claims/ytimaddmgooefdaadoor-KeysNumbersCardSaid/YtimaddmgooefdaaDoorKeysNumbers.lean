/-
  The walk of 'packtrainkeep.KeysNumbers'.
-/
import Derived.Test.YtimaddmgooefdaaDoorKeyTabled
import Derived.Test.YtimaddmgooefdaaDoorPlace
import Derived.BigQuiet
import Derived.Deep.QuietTactic
namespace Go.Proofs.YtimaddmgooefdaaDoor
open Go.RowKit

theorem num_round {l t : List ByteArray} {k : Nat} {s : ByteArray} (h : l[k]? = some s) : idxB t s ≤ t.length ∧ (tabK t (l.drop k))[idxB t s]? = some s ∧ atK t (l.drop k) = idxB t s :: atK (addK t s) (l.drop (k + 1)) ∧ tabK t (l.drop k) = tabK (addK t s) (l.drop (k + 1)) ∧
    (addK t s).length = if idxB t s = t.length then t.length + 1 else t.length := by
  obtain ⟨hk, e⟩ := List.getElem?_eq_some_iff.1 h
  have e1 : tabK t (l.drop k) = tabK (addK t s) (l.drop (k + 1)) := by rw [List.drop_eq_getElem_cons hk, e, tabK]
  have e2 : atK t (l.drop k) = idxB t s :: atK (addK t s) (l.drop (k + 1)) := by rw [List.drop_eq_getElem_cons hk, e, atK]
  have hx : (addK t s)[idxB t s]? = some s := by
    by_cases hs : s ∈ t
    · rw [addK_in hs]; exact idxB_get hs
    · rw [addK_new hs, idxB_new hs]; simp
  refine ⟨List.findIdx_le_length, ?_, e2, e1, ?_⟩
  · obtain ⟨z, hz⟩ := tabK_pre (l.drop (k + 1)) (addK t s)
    rw [e1, ← hz, List.getElem?_append_left (List.getElem?_eq_some_iff.1 hx).1]; exact hx
  · by_cases hs : s ∈ t
    · rw [addK_in hs, if_neg (Nat.ne_of_lt (idxB_lt hs))]
    · rw [addK_new hs, if_pos (idxB_new hs)]; simp
theorem drop_head {l r : List Nat} {k j : Nat} (h : l.drop k = j :: r) : l[k]? = some j ∧ l.drop (k + 1) = r := by
  have h1 : (l.drop k)[0]? = some j := by rw [h]; rfl
  rw [List.getElem?_drop, Nat.add_zero] at h1
  refine ⟨h1, ?_⟩
  rw [← List.drop_drop, h]; rfl

set_option maxRecDepth 100000 in
set_option maxHeartbeats 4000000 in
theorem keysNumbers_walk (w : World) (v : Value) (l : List ByteArray) (hv : IsTexts w v l) (hl : l.length ≤ 140737488351232) (hs : ∀ s ∈ l, s.size ≤ 140737488351232) (hg : errT w) :
    Calls Tryd.prog 7 #[v] w fun e w' => e = .returned (.bool true) ∧ Below w.heap.size w w' := by
  have HV := Lib.hid hv
  obtain ⟨a1, c1, rfl, _, g1⟩ := hv
  have G1 := Lib.hid g1
  have HS := Lib.hid hs
  have HG := Lib.hid hg
  obtain ⟨n, hn⟩ : ∃ n, n = l.length := ⟨_, rfl⟩
  rw [← hn] at hl HV ⊢
  have HN := Lib.hid hn
  clear hs hg hn g1
  go_enter Tryd.func7, Tryd.ntmps7
  go_wp2_with fail
  refine (tabled_any w HG.out).mono ?_
  rintro r w0 ⟨rfl, hb0⟩
  have HB0 := Lib.hid hb0
  have HV0 := Lib.hid (HV.out.below hb0)
  clear hb0
  by_cases hbig : 100 < n
  · go_wp2
    go_ret
    exact ⟨rfl, HB0.out⟩
  · have HL6 : Hid (l.length ≤ 1000000) := Lib.hid (by rw [← HN.out]; omega)
    go_wp2_with fail
    refine (ktab_any _ l w0 HV0.out HL6.out HS.out).mono ?_
    rintro r w1 ⟨v1, v2, rfl, ho1, ho2, hb1⟩
    obtain ⟨a3, c3, rfl, _, g3⟩ := ho1.isTexts
    obtain ⟨a4, c4, rfl, _, g4⟩ := ho2.isNums
    have hln : ((atK [] l).map Int.ofNat).length = n := by rw [List.length_map, atK_len, HN.out]
    rw [hln]
    have G3 := Lib.hid g3
    have G4 := Lib.hid g4
    obtain ⟨m, hm⟩ : ∃ m, m = (tabK [] l).length := ⟨_, rfl⟩
    rw [← hm]
    have HM := Lib.hid hm
    have hm9 : m ≤ 1000000 := by have h1 := tabK_len l []; have h2 := HN.out; have h3 : ([] : List ByteArray).length = 0 := rfl; omega
    have HB1 := Lib.hid (HB0.out.trans (hb1.mono HB0.out.size))
    clear ho1 ho2 hb1 hln hm g3 g4 HV HV0
    go_wp2
    go_loopw [5, 20] (fun x i wr => ∃ (k : Nat) (t : List ByteArray), k ≤ n ∧ i = .int .i64 k ∧ x = .int .i64 t.length ∧ t.length ≤ k ∧ tabK [] l = tabK t (l.drop k) ∧ (atK [] l).drop k = atK t (l.drop k) ∧ Below w1.heap.size w1 wr) (fun _ i _ => n - (intOf i).toNat)
    case atStart => exact ⟨0, [], Nat.zero_le _, rfl, rfl, Nat.le_refl _, rfl, rfl, Below.refl _ _⟩
    case round =>
      obtain ⟨k, t, hk, rfl, rfl, htk, ht, ha, hbel⟩ := hrel
      have HT := Lib.hid ht
      have HA := Lib.hid ha
      have HB := Lib.hid hbel
      clear ht ha hbel
      by_cases hlt : k < n
      · obtain ⟨s, hs⟩ : ∃ s, l[k]? = some s := ⟨l[k]'(by have := HN.out; omega), List.getElem?_eq_getElem _⟩
        obtain ⟨r1, r2, r3, r4, r5⟩ := num_round (t := t) hs
        obtain ⟨d1, d2⟩ := drop_head (HA.out.trans r3)
        rw [← HT.out] at r2
        obtain ⟨j, hj⟩ : ∃ j, j = idxB t s := ⟨_, rfl⟩
        rw [← hj] at r1 r2 r5 d1
        have hjm : j < m := by have := (List.getElem?_eq_some_iff.1 r2).1; rw [← HM.out] at this; exact this
        obtain ⟨b1, o1, rfl, hb1, p1⟩ := G1.out k s hs
        obtain ⟨b3, o3, rfl, hb3, p3⟩ := G3.out j s r2
        obtain ⟨b4, o4, rfl, hb4, p4⟩ := G4.out k (j : Int) (by rw [List.getElem?_map, d1]; rfl)
        have q4 := (HB.out.cell (p := ⟨b4, o4 + k, none⟩) hb4).trans p4
        have q3 := (HB.out.cell (p := ⟨b3, o3 + j, none⟩) hb3).trans p3
        have q1 : wr.cell? ⟨b1, o1 + k, none⟩ = some (.string s) := (HB.out.cell (p := ⟨b1, o1 + k, none⟩) (Nat.lt_of_lt_of_le hb1 HB1.out.size)).trans ((HB1.out.cell (p := ⟨b1, o1 + k, none⟩) hb1).trans p1)
        have hb := beq_same s
        have hb2 : (s.toList != s.toList) = false := by simp
        have t0 : ¬ (j : Int) < 0 := by omega
        have t1 : ¬ (t.length : Int) < (j : Int) := by omega
        have t2 : ¬ (m : Int) ≤ (j : Int) := by omega
        have t3 : ¬ (n : Int) ≤ (k : Int) := by omega
        have HT4 := Lib.hid (HT.out.trans r4)
        have HA4 := Lib.hid d2
        have HR5 := Lib.hid r5
        have htl : t.length ≤ 1000000 := by omega
        clear r2 r3 r4 r5 hs d1 d2 p1 p3 p4 hb1 hb3 hb4 hj
        go_wp2
        go_quiet (fail)
        obtain ⟨wq, hwq⟩ : ∃ wq, wq = World.drewN wr nq := ⟨_, rfl⟩
        rw [← hwq]
        have HBQ : Hid (Below w1.heap.size w1 wq) := Lib.hid (by rw [hwq]; exact HB.out.trans ⟨rfl, rfl, rfl, Nat.le_refl _, fun _ _ => rfl⟩)
        clear hwq q1 q3 q4
        obtain ⟨T5, hT5⟩ : ∃ T5, addK t s = T5 := ⟨_, rfl⟩
        rw [hT5] at HT4 HA4 HR5
        clear hT5
        by_cases he : j = t.length
        · have HE : Hid (T5.length = t.length + 1) := Lib.hid (by have := HR5.out; rw [if_pos he] at this; exact this)
          subst he
          go_wp2
          go_roundw
          case rel => exact ⟨k + 1, T5, by omega, by go_num, by rw [HE.out]; go_num, by rw [HE.out]; omega, HT4.out, HA4.out, HBQ.out⟩
          case measure => simp [intOf]; omega
        · have HE : Hid (T5.length = t.length) := Lib.hid (by have := HR5.out; rw [if_neg he] at this; exact this)
          have hbe : ((j : Int) == (t.length : Int)) = false := by simp; omega
          go_wp2
          go_roundw
          case rel => exact ⟨k + 1, T5, by omega, by go_num, by rw [HE.out], by rw [HE.out]; omega, HT4.out, HA4.out, HBQ.out⟩
          case measure => simp [intOf]; omega
      · have HT5 : Hid (m = t.length) := Lib.hid (by rw [HM.out, HT.out, List.drop_eq_nil_of_le (by have := HN.out; omega)]; rfl)
        have hbe : ((t.length : Int) == (m : Int)) = true := by rw [HT5.out]; simp
        go_wp2
        go_ret
        exact ⟨by first | rfl | (rw [HT5.out]; simp), HB1.out.trans (HB.out.mono HB1.out.size)⟩
end Go.Proofs.YtimaddmgooefdaaDoor
