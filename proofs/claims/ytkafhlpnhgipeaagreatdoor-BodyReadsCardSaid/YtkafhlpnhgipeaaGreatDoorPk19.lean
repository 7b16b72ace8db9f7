import Derived.Test.YtkafhlpnhgipeaaGreatDoorPk18
import Derived.Test.YtkafhlpnhgipeaaGreatDoorPk04
import Derived.BigQuiet
import Derived.Deep.QuietTactic
import Derived.Test.YtkafhlpnhgipeaaGreatDoorPk08
import Derived.Lib.Hide
import Derived.Outline
import Derived.Test.YtkafhlpnhgipeaaGreatDoorPk11
import Derived.WalkKit
import Derived.WalkSmall
import Derived.Test.YtkafhlpnhgipeaaGreatDoorPk12
import Derived.Test.YtkafhlpnhgipeaaGreatDoorPk15
import Derived.Test.YtkafhlpnhgipeaaGreatDoorPk16
import Derived.RegionTactic
import Derived.WalkSpells
import Derived.Deep.RegionHeld3
/-
  The contract of the document's List.
-/
namespace Go.Proofs.YtkafhlpnhgipeaaGreatDoor
open Go.RowKit

theorem kgood_any (w : World) : Calls Tryz.prog 22 #[] w fun e w' => e = .returned (.agg #[.int .i64 0, .int .i64 (-1)]) ∧ Below w.heap.size w w' := by
  go_enter Tryz.func22, Tryz.ntmps22
  go_wp2
  refine bodyPost_ret (v := .agg #[.int .i64 0, .int .i64 (-1)]) (by simp [results, Tryz.results22, go_sem]) rfl ?_
  exact ⟨rfl, (Below.refl _ _).alloc (Nat.le_refl _) _⟩
theorem kbare_any (n : Int) (w : World) : Calls Tryz.prog 21 #[.int .i64 n] w fun e w' => e = .returned (.agg #[.int .i64 n, .int .i64 (-1)]) ∧ Below w.heap.size w w' := by
  go_enter Tryz.func21, Tryz.ntmps21
  go_wp2
  refine bodyPost_ret (v := .agg #[.int .i64 n, .int .i64 (-1)]) (by simp [results, Tryz.results21, go_sem]) rfl ?_
  exact ⟨rfl, (Below.refl _ _).alloc (Nat.le_refl _) _⟩

/-- What the document's List answers. -/
def RListIs (w : World) (r : List ByteArray × Nat × Int) (e : Ending) (w' : World) : Prop :=
  ∃ v, e = .returned (.tuple #[v, .agg #[.int .i64 (r.2.1 : Nat), .int .i64 r.2.2]]) ∧ ownsS w' w.heap.size v r.1 ∧ Below w.heap.size w w'
/-- The world with the fault that is to come. -/
def fault0 (w : World) : World := w.alloc (.cells #[.int .i64 0, .int .i64 0] 29)
theorem fault0_size (w : World) : (fault0 w).heap.size = w.heap.size + 1 := by simp [fault0]
theorem fault0_cells {w wr : World} (h : Below (w.heap.size + 1) (fault0 w) wr) : wr.cell? ⟨w.heap.size, 0, none⟩ = some (.int .i64 0) ∧ wr.cell? ⟨w.heap.size, 1, none⟩ = some (.int .i64 0) ∧ wr.frozen? ⟨w.heap.size, 0, none⟩ = false ∧ wr.frozen? ⟨w.heap.size, 1, none⟩ = false :=
  ⟨(h.cell (by exact Nat.lt_succ_self _)).trans (by simp [fault0]), (h.cell (by exact Nat.lt_succ_self _)).trans (by simp [fault0]), (h.frozen (by exact Nat.lt_succ_self _)).trans (by simp [fault0]), (h.frozen (by exact Nat.lt_succ_self _)).trans (by simp [fault0])⟩
theorem fault0_below {w wr : World} (h : Below (w.heap.size + 1) (fault0 w) wr) (e p : Value) : Below w.heap.size w ((wr.setCell ⟨w.heap.size, 0, none⟩ e).setCell ⟨w.heap.size, 1, none⟩ p) :=
  (((Below.refl _ _).alloc (Nat.le_refl _) _).trans ((h.mono (Nat.le_succ _)).setCell (Nat.le_refl _) _)).setCell (Nat.le_refl _) _

theorem take_not {T : List ByteArray} {s x : ByteArray} {q : Nat} (h : s ∉ T.take q) (hx : T[q]? = some x) (hn : x ≠ s) : s ∉ T.take (q + 1) := by
  obtain ⟨hq, e⟩ := List.getElem?_eq_some_iff.1 hx
  rw [← List.take_append_getElem hq, e]
  simp only [List.mem_append, List.mem_singleton, not_or]
  exact ⟨h, fun e => hn e.symm⟩
theorem take_in {T : List ByteArray} {s : ByteArray} {q k : Nat} (hx : T[q]? = some s) (hq : q < k) : s ∈ T.take k :=
  List.mem_of_getElem? (i := q) (by rw [List.getElem?_take_of_lt hq]; exact hx)

set_option maxRecDepth 100000 in
set_option maxHeartbeats 4000000 in
theorem rlist_any (v u : Value) (T : List ByteArray) (l : List Int) (w : World) (hv : IsTexts w v T) (hu : IsNums w u l) (hT : T.length ≤ 1000000) (hl : l.length ≤ 1000000) :
    Calls Tryz.prog 35 #[v, u] w (RListIs w (listF T l)) := by
  have hv0 : IsTexts (fault0 w) v T := hv.alloc _
  have hu0 : IsNums (fault0 w) u l := hu.alloc _
  obtain ⟨a1, c1, rfl, _, f1⟩ := hv0
  obtain ⟨a2, c2, rfl, _, f2⟩ := hu0
  rw [fault0_size] at f1 f2
  have F1 := Lib.hid f1
  have F2 := Lib.hid f2
  obtain ⟨m, hm⟩ : ∃ m, m = T.length := ⟨_, rfl⟩
  obtain ⟨n, hn⟩ : ∃ n, n = l.length := ⟨_, rfl⟩
  rw [← hm] at hT ⊢
  rw [← hn] at hl ⊢
  have HM := Lib.hid hm
  have HN := Lib.hid hn
  clear f1 f2 hm hn hv hu
  go_enter Tryz.func35, Tryz.ntmps35
  go_wp2
  go_loopw [14] (fun i wr => ∃ k : Nat, k ≤ m ∧ i = .int .i64 k ∧ dupG [] T 0 = dupG (T.take k) (T.drop k) k ∧ Below (w.heap.size + 1) (fault0 w) wr) (fun i _ => m - (intOf i).toNat)
  case atStart => exact ⟨0, Nat.zero_le _, rfl, rfl, Below.refl _ _⟩
  case round =>
    obtain ⟨k, hk, rfl, hd, hbel⟩ := hrel
    have HD := Lib.hid hd
    have HB := Lib.hid hbel
    obtain ⟨wp, hwp⟩ : ∃ wp, wp = wr := ⟨_, rfl⟩
    rw [← hwp] at HB ⊢
    clear hd hbel hwp
    by_cases hlt : k < m
    · obtain ⟨s, hs⟩ : ∃ s, T[k]? = some s := ⟨T[k]'(by have := HM.out; omega), List.getElem?_eq_getElem _⟩
      have HS := Lib.hid hs
      clear hs
      go_wp2
      go_loopw [18] (fun i wo => ∃ q : Nat, q ≤ k ∧ i = .int .i64 q ∧ s ∉ T.take q ∧ Below (w.heap.size + 1) (fault0 w) wo) (fun i _ => k - (intOf i).toNat)
      case atStart => exact ⟨0, Nat.zero_le _, rfl, by simp, HB.out⟩
      case round =>
        obtain ⟨q, hq, rfl, hnot, hbel⟩ := hrel
        have HBO := Lib.hid hbel
        have HNOT := Lib.hid hnot
        clear hbel hnot
        by_cases hlt2 : q < k
        · obtain ⟨x, hx⟩ : ∃ x, T[q]? = some x := ⟨T[q]'(by have := HM.out; omega), List.getElem?_eq_getElem _⟩
          obtain ⟨b1, o1, rfl, hb1, p0⟩ := F1.out q x hx
          obtain ⟨b2, o2, e2, _, p1⟩ := F1.out k s HS.out
          simp only [Option.some.injEq, Addr.mk.injEq, and_true] at e2
          obtain ⟨rfl, rfl⟩ := e2
          have q0 := (HBO.out.cell (p := ⟨b1, o1 + q, none⟩) hb1).trans p0
          have q1 := (HBO.out.cell (p := ⟨b1, o1 + k, none⟩) hb1).trans p1
          obtain ⟨c0, c1', f0, f1⟩ := fault0_cells HBO.out
          by_cases he : x = s
          · have HR : Hid (listF T l = ([], 9, (k : Int))) := Lib.hid (show _ = _ by unfold listF; rw [HD.out, dupG_hit HS.out (take_in (he ▸ hx) hlt2)])
            subst he
            have hb := beq_same x
            clear p0 p1 hx HNOT
            go_wp2
            go_quiet (fail)
            obtain ⟨wq, hwq⟩ : ∃ wq, wq = World.drewN wr nq := ⟨_, rfl⟩
            rw [← hwq]
            have HBQ : Hid (Below (w.heap.size + 1) (fault0 w) wq) := Lib.hid (by rw [hwq]; exact HBO.out.trans ⟨rfl, rfl, rfl, Nat.le_refl _, fun _ _ => rfl⟩)
            clear hwq c0 c1' f0 f1 q0 q1
            obtain ⟨d0, d1, g0, g1⟩ := fault0_cells HBQ.out
            go_wp2
            refine bodyPost_ret (v := .tuple #[.slice none 0 0, .agg #[.int .i64 9, .int .i64 k]]) (by simp [results, Tryz.results35, go_sem, d0, d1]) rfl ?_
            rw [HR.out]
            exact ⟨_, rfl, ownsS_nil _ _, fault0_below HBQ.out _ _⟩
          · have HNOT2 := Lib.hid (take_not HNOT.out hx he)
            have hb := beq_diff he
            clear p0 p1 hx HNOT c0 c1' f0 f1
            go_wp2
            go_quiet (fail)
            obtain ⟨wq, hwq⟩ : ∃ wq, wq = World.drewN wr nq := ⟨_, rfl⟩
            rw [← hwq]
            have HBQ : Hid (Below (w.heap.size + 1) (fault0 w) wq) := Lib.hid (by rw [hwq]; exact HBO.out.trans ⟨rfl, rfl, rfl, Nat.le_refl _, fun _ _ => rfl⟩)
            clear hwq q0 q1
            go_wp2
            go_roundw
            case rel => exact ⟨q + 1, by omega, by go_num, HNOT2.out, HBQ.out⟩
            case measure => simp [intOf]; omega
        · obtain rfl : q = k := by omega
          have HD2 := Lib.hid (HD.out.trans (dupG_miss HS.out HNOT.out))
          go_wp2
          go_roundw
          case rel => exact ⟨q + 1, by omega, by go_num, HD2.out, HBO.out⟩
          case measure => simp [intOf]; omega
    · obtain rfl : k = m := by omega
      have HDN : Hid (dupG [] T 0 = none) := Lib.hid (show _ = _ by rw [HD.out, List.drop_eq_nil_of_le (by rw [HM.out]; exact Nat.le_refl _)]; rfl)
      have HLE : Hid (∀ e p, ordG k 0 l 0 = (e, p) → e ≠ 0 → listF T l = ([], e, p)) := Lib.hid (show _ by
        intro e p h he
        unfold listF
        rw [HDN.out, ← HM.out, h]
        simp only [if_neg he])
      have HLO : Hid ((ordG k 0 l 0).1 = 0 → listF T l = (outG T l, 0, -1)) := Lib.hid (show _ by
        intro h
        unfold listF
        rw [HDN.out, ← HM.out]
        simp only [if_pos h])
      have hmm := @run_makeMap Tryz.prog
      obtain ⟨M, hM⟩ : ∃ M, M = wp.heap.size := ⟨_, rfl⟩
      have HMS := Lib.hid hM
      have HBM : Hid (w.heap.size + 1 ≤ M) := Lib.hid (by rw [hM]; have := HB.out.size; rw [fault0_size] at this; exact this)
      clear hM
      go_wp2
      go_loopw [8, 37] (fun x i wo => ∃ q told : Nat, q ≤ n ∧ told ≤ q ∧ i = .int .i64 q ∧ ordG k 0 l 0 = ordG k told (l.drop q) q ∧ ownsTold wo wp.heap.size q told ∧ ownsS wo (M + 1) x (outG T (l.take q)) ∧ M + 1 ≤ wo.heap.size ∧ Below (w.heap.size + 1) (fault0 w) wo) (fun _ i _ => n - (intOf i).toNat)
      case atStart => exact ⟨0, 0, Nat.zero_le _, Nat.le_refl _, rfl, rfl, ownsTold_made _, ownsS_nil _ _, by rw [HMS.out]; simp, HB.out.alloc (by have := HB.out.size; rw [fault0_size] at this; exact this) _⟩
      case round =>
        obtain ⟨q, told, hq, htq, rfl, hd, hmap, hos, hz, hbel⟩ := hrel
        have HO2 := Lib.hid hd
        have HMP := Lib.hid hmap
        have HOS := Lib.hid hos
        have HZ := Lib.hid hz
        have HBO := Lib.hid hbel
        clear hd hmap hos hz hbel
        by_cases hlt : q < n
        · obtain ⟨z, hz⟩ : ∃ z, l[q]? = some z := ⟨l[q]'(by have := HN.out; omega), List.getElem?_eq_getElem _⟩
          obtain ⟨b2, o2, rfl, hb2, p2⟩ := F2.out q z hz
          have q2 := (HBO.out.cell (p := ⟨b2, o2 + q, none⟩) hb2).trans p2
          obtain ⟨c0, c1', f0, f1⟩ := fault0_cells HBO.out
          have HC := Lib.hid (And.intro c0 (And.intro c1' (And.intro f0 f1)))
          by_cases hr : z < 0 ∨ (k : Int) ≤ z
          · have HR := Lib.hid (HLE.out 2 q (HO2.out.trans (ordG_range hz hr)) (by decide))
            clear p2 hz c0 c1' f0 f1
            go_wp2_with fail
            have hw : Calls Tryz.prog 33 #[.int .i64 z, .int .i64 0, .int .i64 ((k : Int) - 1)] wr fun e w' => e = .returned (.bool false) ∧ wr = w' := by
              by_cases h0 : z < 0
              · exact within_low z 0 _ wr h0
              · exact within_high z 0 _ wr (by omega) (by omega)
            refine hw.mono ?_
            rintro r w3 ⟨rfl, rfl⟩
            obtain ⟨c0, c1', f0, f1⟩ := HC.out
            clear hw
            go_wp2
            refine bodyPost_ret (v := .tuple #[.slice none 0 0, .agg #[.int .i64 2, .int .i64 q]]) (by simp [results, Tryz.results35, go_sem, c0, c1']) rfl ?_
            rw [HR.out]
            exact ⟨_, rfl, ownsS_nil _ _, fault0_below HBO.out _ _⟩
          · have z0 : ¬ z < 0 := by omega
            have z1 : ¬ (k : Int) ≤ z := by omega
            obtain ⟨j, rfl⟩ : ∃ j : Nat, z = j := ⟨z.toNat, by omega⟩
            have hjk : j < k := by omega
            have hj6 : j ≤ 1000000 := by omega
            by_cases hf : (told : Int) < (j : Int)
            · have HR := Lib.hid (HLE.out 13 q (HO2.out.trans (ordG_false hz hr hf)) (by decide))
              clear p2 hz c0 c1' f0 f1 hr z0 z1
              go_wp2_with fail
              refine (within_yes (j : Int) 0 ((k : Int) - 1) wr (by omega) (by omega)).mono ?_
              rintro r w3 ⟨rfl, rfl⟩
              obtain ⟨c0, c1', f0, f1⟩ := HC.out
              go_wp2_with (at_len; refine wpList_told_len rfl _ rfl wp.heap.size q told rfl HMP.out ?_)
              refine bodyPost_ret (v := .tuple #[.slice none 0 0, .agg #[.int .i64 13, .int .i64 q]]) (by simp [results, Tryz.results35, go_sem, c0, c1']) rfl ?_
              rw [HR.out]
              exact ⟨_, rfl, ownsS_nil _ _, fault0_below HBO.out _ _⟩
            · have htn : ordG k told (l.drop q) q = ordG k (if j = told then told + 1 else told) (l.drop (q + 1)) (q + 1) := by
                by_cases he : j = told
                · rw [if_pos he]; exact ordG_new hz hr (by omega)
                · rw [if_neg he]; exact ordG_old hz hr (by omega)
              have HO3 := Lib.hid (HO2.out.trans htn)
              obtain ⟨s, hs⟩ : ∃ s, T[j]? = some s := ⟨T[j]'(by have := HM.out; omega), List.getElem?_eq_getElem _⟩
              obtain ⟨b3, o3, rfl, hb3, p3⟩ := F1.out j s hs
              have HX := Lib.hid (outG_snoc hz hs)
              have hz2 : (outG T (l.take q)).length = q := by unfold outG; rw [List.length_map, List.length_take]; have := HN.out; omega
              have HZ2 := Lib.hid hz2
              have HP3 := Lib.hid p3
              have HB3 := Lib.hid hb3
              clear p2 hz c0 c1' f0 f1 hr z0 z1 htn hs hz2 p3 hb3
              go_wp2_with fail
              refine (within_yes (j : Int) 0 ((k : Int) - 1) wr (by omega) (by omega)).mono ?_
              rintro r w3 ⟨rfl, rfl⟩
              have hjt : j ≤ told := by omega
              go_wp2_with (first
                | (at_len; refine wpList_told_len rfl _ rfl wp.heap.size q told rfl HMP.out ?_)
                | (at_mapUpdate; refine wpList_told_put rfl _ _ _ rfl wp.heap.size q told rfl HMP.out (by unfold maxLen; omega) j hjt (by omega) rfl rfl ?_; intro w4 hm4 hg4; obtain ⟨t2, ht2⟩ : ∃ t2, (if j = told then told + 1 else told) = t2 := ⟨_, rfl⟩; rw [ht2] at hm4 HO3; have HM4 := Lib.hid hm4; have HS4 := Lib.hid (show ownsS w4 (M + 1) _ (outG T (l.take q)) from World.ownsRow.kept HOS.out hg4 (.inr (HOS.out.off (by rw [HMS.out]; exact Nat.lt_succ_self _)))); have HB4 : Hid (Below (w.heap.size + 1) (fault0 w) w4) := Lib.hid (HBO.out.grown hg4 (by have := HBO.out.size; rw [fault0_size] at this; exact this) (fun g hg => by cases hg; rw [← HMS.out]; exact HBM.out)); have HZ4 : Hid (M + 1 ≤ w4.heap.size) := Lib.hid (Nat.le_trans HZ.out hg4.size); have q3 : w4.cell? ⟨b3, o3 + j, none⟩ = some (.string s) := (HB4.out.cell (p := ⟨b3, o3 + j, none⟩) HB3.out).trans HP3.out; clear hm4 hg4)
                | (at_builtin; refine wpList_append_str rfl _ _ rfl (M + 1) _ (outG T (l.take q)) rfl (HS4.out.alloc _) ⟨w4.heap.size, 0, none⟩ 1 rfl s (by simp [Addr.add]) (by have := HZ2.out; omega) (by have := HZ4.out; simp; omega) ?_))
              intro g cap w5 ho5 hg5
              have HB5 : Hid (Below (w.heap.size + 1) (fault0 w) w5) := Lib.hid ((HB4.out.alloc (by have := HB4.out.size; rw [fault0_size] at this; exact this) _).grown hg5 (by have := HZ4.out; have := HBM.out; simp; omega) (fun g hg => by have := (HS4.out.lt g hg).1; have := HBM.out; omega))
              have HM5 : Hid (ownsTold w5 wp.heap.size (q + 1) t2) := Lib.hid ((HM4.out.alloc _).kept hg5 (by intro e; exact HS4.out.off (by rw [HMS.out]; exact Nat.lt_succ_self _) e.symm))
              have HZ5 : Hid (M + 1 ≤ w5.heap.size) := Lib.hid (by show _ ≤ _; have := HZ4.out; have := hg5.size; simp at this; omega)
              rw [← HX.out] at ho5
              have HS5 := Lib.hid ho5
              have ht3 : t2 ≤ q + 1 := by rw [← ht2]; split <;> omega
              have HT3 := Lib.hid ht3
              clear ho5 hg5 ht2 ht3
              go_wp2
              go_roundw
              case rel => exact ⟨q + 1, t2, by omega, HT3.out, by go_num, HO3.out, HM5.out, HS5.out, HZ5.out, HB5.out⟩
              case measure => simp [intOf]; omega
        · obtain rfl : q = n := by omega
          have hlk : l.take q = l := List.take_of_length_le (by rw [HN.out]; exact Nat.le_refl _)
          have HO3 := Lib.hid (show ownsS wr (M + 1) _ (outG T l) from hlk ▸ HOS.out)
          have HE : Hid (ordG k 0 l 0 = if told < k then (8, -1) else (0, -1)) := Lib.hid (show _ = _ by rw [HO2.out, List.drop_eq_nil_of_le (by rw [HN.out]; exact Nat.le_refl _)]; rfl)
          have hlt0 : w.heap.size < wr.heap.size := by have := HZ.out; have := HBM.out; omega
          have HL0 := Lib.hid hlt0
          clear hlk hlt0
          by_cases ht : told < k
          · have HR := Lib.hid (HLE.out 8 (-1) (by rw [HE.out, if_pos ht]) (by decide))
            go_wp2_with (at_len; refine wpList_told_len rfl _ rfl wp.heap.size q told rfl HMP.out ?_)
            refine (kbare_any 8 _).mono ?_
            rintro r w5 ⟨rfl, hb5⟩
            have HB5 := Lib.hid (HBO.out.trans (hb5.mono (Nat.succ_le_of_lt HL0.out)))
            clear hb5
            obtain ⟨c0, c1', f0, f1⟩ := fault0_cells HB5.out
            go_wp2
            refine bodyPost_ret (v := .tuple #[.slice none 0 0, .agg #[.int .i64 8, .int .i64 (-1)]]) (by simp [results, Tryz.results35, go_sem, c0, c1']) rfl ?_
            rw [HR.out]
            exact ⟨_, rfl, ownsS_nil _ _, fault0_below HB5.out _ _⟩
          · have HR := Lib.hid (HLO.out (by rw [HE.out, if_neg ht]))
            go_wp2_with (at_len; refine wpList_told_len rfl _ rfl wp.heap.size q told rfl HMP.out ?_)
            refine (kgood_any _).mono ?_
            rintro r w5 ⟨rfl, hb5⟩
            have HB5 := Lib.hid (HBO.out.trans (hb5.mono (Nat.succ_le_of_lt HL0.out)))
            have HO5 := Lib.hid (HO3.out.below hb5)
            clear hb5
            obtain ⟨c0, c1', f0, f1⟩ := fault0_cells HB5.out
            go_wp2
            refine bodyPost_ret (v := .tuple #[_, .agg #[.int .i64 0, .int .i64 (-1)]]) (by simp [results, Tryz.results35, go_sem, c0, c1']; rfl) rfl ?_
            rw [HR.out]
            exact ⟨_, rfl, (show ownsS _ _ _ _ from ownsRow_setCell_below (ownsRow_setCell_below HO5.out (by show w.heap.size < M + 1; have := HBM.out; omega) _) (by show w.heap.size < M + 1; have := HBM.out; omega) _).mono (by have := HBM.out; omega), fault0_below HB5.out _ _⟩
end Go.Proofs.YtkafhlpnhgipeaaGreatDoor
/-
  slices.Equal of two lists of writes.
-/
namespace Go.Proofs.YtkafhlpnhgipeaaGreatDoor
open Go.RowKit

instance : DecidableEq Wr := fun a b => decidable_of_iff (a.time = b.time ∧ a.rep = b.rep ∧ a.kind = b.kind ∧ a.key = b.key ∧ a.value = b.value ∧ a.n = b.n) (by cases a; cases b; simp)
theorem wq_step {l m : List Wr} {k : Nat} (h : l.take k = m.take k) {t u : Wr} (hl : l[k]? = some t) (hm : m[k]? = some u) (e : t = u) : l.take (k + 1) = m.take (k + 1) := by
  obtain ⟨h1, h2⟩ := List.getElem?_eq_some_iff.1 hl
  obtain ⟨h3, h4⟩ := List.getElem?_eq_some_iff.1 hm
  rw [List.take_succ_eq_append_getElem h1, List.take_succ_eq_append_getElem h3, h, h2, h4, e]
theorem bytes_ext {a b : ByteArray} (h : a.data.toList = b.data.toList) : a = b := by
  cases a; cases b; simp at h; rw [h]

end Go.Proofs.YtkafhlpnhgipeaaGreatDoor
/-
  Plain: whether two batches are one; the cells of two batches.
-/
namespace Go.Proofs.YtkafhlpnhgipeaaGreatDoor
open Go.RowKit

def sameV (f h : List Ent) (l : List Wr) (f2 h2 : List Ent) (l2 : List Wr) : Bool := decide (f = f2) && decide (h = h2) && decide (l = l2)
theorem sameV_self (f h : List Ent) (l : List Wr) : sameV f h l f h l = true := by simp [sameV]
theorem sameV_comm (f h : List Ent) (l : List Wr) (f2 h2 : List Ent) (l2 : List Wr) : sameV f2 h2 l2 f h l = sameV f h l f2 h2 l2 := by
  unfold sameV
  rw [decide_eq_decide.2 (eq_comm (a := f2)), decide_eq_decide.2 (eq_comm (a := h2)), decide_eq_decide.2 (eq_comm (a := l2))]
theorem sameV_eq {f h : List Ent} {l : List Wr} {f2 h2 : List Ent} {l2 : List Wr} (hs : sameV f h l f2 h2 l2 = true) : f = f2 ∧ h = h2 ∧ l = l2 := by
  simp [sameV] at hs; exact ⟨hs.1.1, hs.1.2, hs.2⟩
def bat2 (w : World) (B : Nat) (a b c d e g : Value) : Prop :=
  w.cell? ⟨B, 0, none⟩ = some a ∧ w.cell? ⟨B, 1, none⟩ = some b ∧ w.cell? ⟨B, 2, none⟩ = some c ∧ w.cell? ⟨B + 1, 0, none⟩ = some d ∧ w.cell? ⟨B + 1, 1, none⟩ = some e ∧ w.cell? ⟨B + 1, 2, none⟩ = some g
theorem bat2_new (w : World) (a b c d e g : Value) (t u : TypeId) : bat2 ((w.alloc (.cells #[a, b, c] t)).alloc (.cells #[d, e, g] u)) w.heap.size a b c d e g := by
  unfold bat2; simp
theorem bat2.drewN {w : World} {B : Nat} {a b c d e g : Value} (h : bat2 w B a b c d e g) (n : Nat) : bat2 (w.drewN n) B a b c d e g := h
theorem bat2.below {w w' : World} {B : Nat} {a b c d e g : Value} {m : Nat} (h : bat2 w B a b c d e g) (hb : Below m w w') (hm : B + 1 < m) : bat2 w' B a b c d e g :=
  ⟨(hb.cell (Nat.lt_of_succ_lt hm)).trans h.1, (hb.cell (Nat.lt_of_succ_lt hm)).trans h.2.1, (hb.cell (Nat.lt_of_succ_lt hm)).trans h.2.2.1, (hb.cell hm).trans h.2.2.2.1, (hb.cell hm).trans h.2.2.2.2.1, (hb.cell hm).trans h.2.2.2.2.2⟩
end Go.Proofs.YtkafhlpnhgipeaaGreatDoor
/-
  slices.Equal of two lists of entries.
-/
namespace Go.Proofs.YtkafhlpnhgipeaaGreatDoor
open Go.RowKit

theorem eq_step {l m : List Ent} {k : Nat} (h : l.take k = m.take k) {t u : Ent} (hl : l[k]? = some t) (hm : m[k]? = some u) (e : t = u) : l.take (k + 1) = m.take (k + 1) := by
  obtain ⟨h1, h2⟩ := List.getElem?_eq_some_iff.1 hl
  obtain ⟨h3, h4⟩ := List.getElem?_eq_some_iff.1 hm
  rw [List.take_succ_eq_append_getElem h1, List.take_succ_eq_append_getElem h3, h, h2, h4, e]

end Go.Proofs.YtkafhlpnhgipeaaGreatDoor
/-
  The contracts of the document's sameEntries and sameWrites.
-/
namespace Go.Proofs.YtkafhlpnhgipeaaGreatDoor
open Go.RowKit

set_option maxRecDepth 100000 in
set_option maxHeartbeats 1000000 in
theorem requal_ents (v1 v2 : Value) (l m : List Ent) (w : World) (h1 : IsEnts w v1 l) (h2 : IsEnts w v2 m) (hl : l.length ≤ 9223372036854775807) (hm : m.length ≤ 9223372036854775807) :
    Calls Tryz.prog 39 #[v1, v2] w fun e w' => e = .returned (.bool (decide (l = m))) ∧ ∃ q, w' = w.drewN q := by
  obtain ⟨a1, c1, rfl, f1⟩ := h1.form
  obtain ⟨a2, c2, rfl, f2⟩ := h2.form
  have F1 := Lib.hid f1
  have F2 := Lib.hid f2
  obtain ⟨n, hn⟩ : ∃ n, n = l.length := ⟨_, rfl⟩
  obtain ⟨n2, hn2⟩ : ∃ n, n = m.length := ⟨_, rfl⟩
  rw [← hn] at hl ⊢
  rw [← hn2] at hm ⊢
  have HN := Lib.hid hn
  have HN2 := Lib.hid hn2
  clear h1 h2 f1 f2 hn hn2
  by_cases hne : n = n2
  · subst hne
    go_enter Tryz.func39, Tryz.ntmps39
    go_wp2
    go_loopw [13] (fun i wr => ∃ k q : Nat, k ≤ n ∧ i = .int .i64 k ∧ l.take k = m.take k ∧ wr = w.drewN q) (fun i _ => n - (intOf i).toNat)
    case atStart => exact ⟨0, 0, by omega, rfl, rfl, rfl⟩
    case round =>
      obtain ⟨k, q, hk, rfl, htk, rfl⟩ := hrel
      have HTK := Lib.hid htk
      clear htk
      by_cases hlt : k < n
      · obtain ⟨t, ht⟩ : ∃ t, l[k]? = some t := ⟨l[k]'(by have := HN.out; omega), List.getElem?_eq_getElem _⟩
        obtain ⟨u, hu⟩ : ∃ u, m[k]? = some u := ⟨m[k]'(by have := HN2.out; omega), List.getElem?_eq_getElem _⟩
        obtain ⟨b1, o1, rfl, _, p0, p1⟩ := F1.out k t ht
        obtain ⟨b2, o2, rfl, _, q0, q1⟩ := F2.out k u hu
        have HTT := Lib.hid ht
        have HUU := Lib.hid hu
        clear ht hu
        obtain ⟨r1, t1⟩ := t
        obtain ⟨r2, t2⟩ := u
        simp only at p0 p1 q0 q1
        by_cases hr : r1 = r2
        · by_cases ht : t1 = t2
          · subst hr ht
            have HST := Lib.hid (eq_step HTK.out HTT.out HUU.out rfl)
            go_wp2
            go_quiet (fail)
            go_wp2
            go_roundw
            case rel => exact ⟨k + 1, _, by omega, by go_num, HST.out, rfl⟩
            case measure => simp [intOf]; omega
          · subst hr
            have HE : Hid (decide (l = m) = false) := Lib.hid (show decide (l = m) = false by
              rw [decide_eq_false_iff_not]; rintro rfl
              have := HTT.out.symm.trans HUU.out
              simp at this; exact ht this)
            have x1 : (t1 == t2) = false := by simpa using ht
            have x2 : (t1 != t2) = true := by simpa using ht
            go_wp2
            go_quiet (fail)
            go_wp2
            go_ret
            exact ⟨by rw [HE.out]; rfl, by first | exact ⟨_, rfl⟩ | exact ⟨_, by rw [World.drewN_drewN]⟩⟩
        · have HE : Hid (decide (l = m) = false) := Lib.hid (show decide (l = m) = false by
            rw [decide_eq_false_iff_not]; rintro rfl
            have := HTT.out.symm.trans HUU.out
            simp at this; exact hr this.1)
          have x1 : (r1 == r2) = false := by simpa using hr
          have x2 : (r1 != r2) = true := by simpa using hr
          go_wp2
          go_quiet (fail)
          go_wp2
          go_ret
          exact ⟨by rw [HE.out]; rfl, by first | exact ⟨_, rfl⟩ | exact ⟨_, by rw [World.drewN_drewN]⟩⟩
      · have HE : Hid (decide (l = m) = true) := Lib.hid (show decide (l = m) = true by
          rw [decide_eq_true_eq]
          have h := HTK.out
          rw [List.take_of_length_le (by have := HN.out; omega), List.take_of_length_le (by have := HN2.out; omega)] at h
          exact h)
        go_wp2
        go_ret
        exact ⟨by rw [HE.out]; rfl, by first | exact ⟨_, rfl⟩ | exact ⟨_, by rw [World.drewN_drewN]⟩⟩
  · have HE : Hid (decide (l = m) = false) := Lib.hid (show decide (l = m) = false by
      rw [decide_eq_false_iff_not]; rintro rfl; exact hne (HN.out.trans HN2.out.symm))
    have x1 : ((n : Int) == (n2 : Int)) = false := by simp; omega
    have x2 : ((n : Int) != (n2 : Int)) = true := by simp; omega
    rw [HE.out]
    go_enter Tryz.func39, Tryz.ntmps39
    go_wp2
    go_ret
    exact ⟨rfl, 0, rfl⟩
theorem requale_as (v1 v2 : Value) (l m : List Ent) (c : Bool) (w : World) (h1 : IsEnts w v1 l) (h2 : IsEnts w v2 m) (hl : l.length ≤ 9223372036854775807) (hm : m.length ≤ 9223372036854775807) (hc : decide (l = m) = c) :
    Calls Tryz.prog 39 #[v1, v2] w fun e w' => e = .returned (.bool c) ∧ ∃ q, w' = w.drewN q :=
  (requal_ents v1 v2 l m w h1 h2 hl hm).mono fun _ _ ⟨h1, h2⟩ => ⟨by rw [h1, hc], h2⟩

set_option maxRecDepth 100000 in
set_option maxHeartbeats 4000000 in
theorem requal_wrs (v1 v2 : Value) (l m : List Wr) (w : World) (h1 : IsWrs w v1 l) (h2 : IsWrs w v2 m) (hl : l.length ≤ 9223372036854775807) (hm : m.length ≤ 9223372036854775807) :
    Calls Tryz.prog 40 #[v1, v2] w fun e w' => e = .returned (.bool (decide (l = m))) ∧ ∃ q, w' = w.drewN q := by
  obtain ⟨a1, c1, rfl, f1⟩ := h1.form
  obtain ⟨a2, c2, rfl, f2⟩ := h2.form
  have F1 := Lib.hid f1
  have F2 := Lib.hid f2
  obtain ⟨n, hn⟩ : ∃ n, n = l.length := ⟨_, rfl⟩
  obtain ⟨n2, hn2⟩ : ∃ n, n = m.length := ⟨_, rfl⟩
  rw [← hn] at hl ⊢
  rw [← hn2] at hm ⊢
  have HN := Lib.hid hn
  have HN2 := Lib.hid hn2
  clear h1 h2 f1 f2 hn hn2
  by_cases hne : n = n2
  · subst hne
    go_enter Tryz.func40, Tryz.ntmps40
    go_wp2
    go_loopw [13] (fun i wr => ∃ k q : Nat, k ≤ n ∧ i = .int .i64 k ∧ l.take k = m.take k ∧ wr = w.drewN q) (fun i _ => n - (intOf i).toNat)
    case atStart => exact ⟨0, 0, by omega, rfl, rfl, rfl⟩
    case round =>
      obtain ⟨k, q, hk, rfl, htk, rfl⟩ := hrel
      have HTK := Lib.hid htk
      clear htk
      by_cases hlt : k < n
      · obtain ⟨t, ht⟩ : ∃ t, l[k]? = some t := ⟨l[k]'(by have := HN.out; omega), List.getElem?_eq_getElem _⟩
        obtain ⟨u, hu⟩ : ∃ u, m[k]? = some u := ⟨m[k]'(by have := HN2.out; omega), List.getElem?_eq_getElem _⟩
        obtain ⟨b1, o1, rfl, _, p0, p1, p2, p3, p4, p5⟩ := F1.out k t ht
        obtain ⟨b2, o2, rfl, _, q0, q1, q2, q3, q4, q5⟩ := F2.out k u hu
        have HTT := Lib.hid ht
        have HUU := Lib.hid hu
        clear ht hu
        obtain ⟨T1, R1, K1, key1, val1, N1⟩ := t
        obtain ⟨T2, R2, K2, key2, val2, N2⟩ := u
        simp only at p0 p1 p2 p3 p4 p5 q0 q1 q2 q3 q4 q5
        by_cases he0 : T1 = T2
        · subst he0
          by_cases he1 : R1 = R2
          · subst he1
            by_cases he2 : K1 = K2
            · subst he2
              by_cases he3 : key1 = key2
              · subst he3
                by_cases he4 : val1 = val2
                · subst he4
                  by_cases he5 : N1 = N2
                  · subst he5
                    have HST := Lib.hid (wq_step HTK.out HTT.out HUU.out rfl)
                    go_wp2
                    go_quiet (fail)
                    go_wp2
                    go_roundw
                    case rel => exact ⟨k + 1, _, by omega, by go_num, HST.out, rfl⟩
                    case measure => simp [intOf]; omega
                  · have HE : Hid (decide (l = m) = false) := Lib.hid (show decide (l = m) = false by
                      rw [decide_eq_false_iff_not]; rintro rfl
                      have := HTT.out.symm.trans HUU.out
                      simp only [Option.some.injEq, Wr.mk.injEq] at this
                      exact he5 this.2.2.2.2.2)
                    have x1 : (N1 == N2) = false := by simpa using he5
                    have x2 : (N1 != N2) = true := by simpa using he5
                    go_wp2
                    go_quiet (fail)
                    go_wp2
                    go_ret
                    exact ⟨by rw [HE.out]; rfl, by first | exact ⟨_, rfl⟩ | exact ⟨_, by rw [World.drewN_drewN]⟩⟩
                · have HE : Hid (decide (l = m) = false) := Lib.hid (show decide (l = m) = false by
                    rw [decide_eq_false_iff_not]; rintro rfl
                    have := HTT.out.symm.trans HUU.out
                    simp only [Option.some.injEq, Wr.mk.injEq] at this
                    exact he4 this.2.2.2.2.1)
                  have x1 : (val1.toList == val2.toList) = false := by rw [ByteArray.toList_eq, ByteArray.toList_eq, beq_eq_false_iff_ne]; intro e9; exact he4 (bytes_ext e9)
                  have x2 : (val1.toList != val2.toList) = true := by rw [bne, x1]; rfl
                  go_wp2
                  go_quiet (fail)
                  go_wp2
                  go_ret
                  exact ⟨by rw [HE.out]; rfl, by first | exact ⟨_, rfl⟩ | exact ⟨_, by rw [World.drewN_drewN]⟩⟩
              · have HE : Hid (decide (l = m) = false) := Lib.hid (show decide (l = m) = false by
                  rw [decide_eq_false_iff_not]; rintro rfl
                  have := HTT.out.symm.trans HUU.out
                  simp only [Option.some.injEq, Wr.mk.injEq] at this
                  exact he3 this.2.2.2.1)
                have x1 : (key1.toList == key2.toList) = false := by rw [ByteArray.toList_eq, ByteArray.toList_eq, beq_eq_false_iff_ne]; intro e9; exact he3 (bytes_ext e9)
                have x2 : (key1.toList != key2.toList) = true := by rw [bne, x1]; rfl
                go_wp2
                go_quiet (fail)
                go_wp2
                go_ret
                exact ⟨by rw [HE.out]; rfl, by first | exact ⟨_, rfl⟩ | exact ⟨_, by rw [World.drewN_drewN]⟩⟩
            · have HE : Hid (decide (l = m) = false) := Lib.hid (show decide (l = m) = false by
                rw [decide_eq_false_iff_not]; rintro rfl
                have := HTT.out.symm.trans HUU.out
                simp only [Option.some.injEq, Wr.mk.injEq] at this
                exact he2 this.2.2.1)
              have x1 : (K1 == K2) = false := by simpa using he2
              have x2 : (K1 != K2) = true := by simpa using he2
              go_wp2
              go_quiet (fail)
              go_wp2
              go_ret
              exact ⟨by rw [HE.out]; rfl, by first | exact ⟨_, rfl⟩ | exact ⟨_, by rw [World.drewN_drewN]⟩⟩
          · have HE : Hid (decide (l = m) = false) := Lib.hid (show decide (l = m) = false by
              rw [decide_eq_false_iff_not]; rintro rfl
              have := HTT.out.symm.trans HUU.out
              simp only [Option.some.injEq, Wr.mk.injEq] at this
              exact he1 this.2.1)
            have x1 : (R1 == R2) = false := by simpa using he1
            have x2 : (R1 != R2) = true := by simpa using he1
            go_wp2
            go_quiet (fail)
            go_wp2
            go_ret
            exact ⟨by rw [HE.out]; rfl, by first | exact ⟨_, rfl⟩ | exact ⟨_, by rw [World.drewN_drewN]⟩⟩
        · have HE : Hid (decide (l = m) = false) := Lib.hid (show decide (l = m) = false by
            rw [decide_eq_false_iff_not]; rintro rfl
            have := HTT.out.symm.trans HUU.out
            simp only [Option.some.injEq, Wr.mk.injEq] at this
            exact he0 this.1)
          have x1 : (T1 == T2) = false := by simpa using he0
          have x2 : (T1 != T2) = true := by simpa using he0
          go_wp2
          go_quiet (fail)
          go_wp2
          go_ret
          exact ⟨by rw [HE.out]; rfl, by first | exact ⟨_, rfl⟩ | exact ⟨_, by rw [World.drewN_drewN]⟩⟩
      · have HE : Hid (decide (l = m) = true) := Lib.hid (show decide (l = m) = true by
          rw [decide_eq_true_eq]
          have h := HTK.out
          rw [List.take_of_length_le (by have := HN.out; omega), List.take_of_length_le (by have := HN2.out; omega)] at h
          exact h)
        go_wp2
        go_ret
        exact ⟨by rw [HE.out]; rfl, by first | exact ⟨_, rfl⟩ | exact ⟨_, by rw [World.drewN_drewN]⟩⟩
  · have HE : Hid (decide (l = m) = false) := Lib.hid (show decide (l = m) = false by
      rw [decide_eq_false_iff_not]; rintro rfl; exact hne (HN.out.trans HN2.out.symm))
    have x1 : ((n : Int) == (n2 : Int)) = false := by simp; omega
    have x2 : ((n : Int) != (n2 : Int)) = true := by simp; omega
    rw [HE.out]
    go_enter Tryz.func40, Tryz.ntmps40
    go_wp2
    go_ret
    exact ⟨rfl, 0, rfl⟩
theorem requalw_as (v1 v2 : Value) (l m : List Wr) (c : Bool) (w : World) (h1 : IsWrs w v1 l) (h2 : IsWrs w v2 m) (hl : l.length ≤ 9223372036854775807) (hm : m.length ≤ 9223372036854775807) (hc : decide (l = m) = c) :
    Calls Tryz.prog 40 #[v1, v2] w fun e w' => e = .returned (.bool c) ∧ ∃ q, w' = w.drewN q :=
  (requal_wrs v1 v2 l m w h1 h2 hl hm).mono fun _ _ ⟨h1, h2⟩ => ⟨by rw [h1, hc], h2⟩
end Go.Proofs.YtkafhlpnhgipeaaGreatDoor
/-
  The contract of the document's Same.
-/
namespace Go.Proofs.YtkafhlpnhgipeaaGreatDoor
open Go.RowKit

set_option maxRecDepth 100000 in
set_option maxHeartbeats 4000000 in
theorem rbsame_as (vf vh vw uf uh uw : Value) (f h : List Ent) (l : List Wr) (f2 h2 : List Ent) (l2 : List Wr) (c : Bool) (w : World) (hx : BatIs w vf vh vw f h l) (hy : BatIs w uf uh uw f2 h2 l2) (hc : sameV f h l f2 h2 l2 = c) :
    Calls Tryz.prog 11 #[.agg #[vf, vh, vw], .agg #[uf, uh, uw]] w fun e w' => e = .returned (.bool c) ∧ Below w.heap.size w w' := by
  subst hc
  have HX := Lib.hid hx
  have HY := Lib.hid hy
  obtain ⟨hf, hh, hv, _⟩ := hx
  obtain ⟨af, cf, rfl, _⟩ := hf.form
  obtain ⟨ah, ch, rfl, _⟩ := hh.form
  obtain ⟨aw, cw, rfl, _⟩ := hv.form
  obtain ⟨hf2, hh2, hv2, _⟩ := hy
  obtain ⟨bf, df, rfl, _⟩ := hf2.form
  obtain ⟨bh, dh, rfl, _⟩ := hh2.form
  obtain ⟨bw, dw, rfl, _⟩ := hv2.form
  clear hf hh hv hf2 hh2 hv2
  obtain ⟨nf, hn1⟩ : ∃ n, n = f.length := ⟨_, rfl⟩
  obtain ⟨nh, hn2⟩ : ∃ n, n = h.length := ⟨_, rfl⟩
  obtain ⟨n, hn3⟩ : ∃ n, n = l.length := ⟨_, rfl⟩
  obtain ⟨mf, hn4⟩ : ∃ n, n = f2.length := ⟨_, rfl⟩
  obtain ⟨mh, hn5⟩ : ∃ n, n = h2.length := ⟨_, rfl⟩
  obtain ⟨m, hn6⟩ : ∃ n, n = l2.length := ⟨_, rfl⟩
  rw [← hn1, ← hn2, ← hn3] at HX ⊢
  rw [← hn4, ← hn5, ← hn6] at HY ⊢
  obtain ⟨c1, e1⟩ : ∃ c, decide (f = f2) = c := ⟨_, rfl⟩
  obtain ⟨c2, e2⟩ : ∃ c, decide (h = h2) = c := ⟨_, rfl⟩
  obtain ⟨c3, e3⟩ : ∃ c, decide (l = l2) = c := ⟨_, rfl⟩
  have HR : Hid (sameV f h l f2 h2 l2 = (c1 && c2 && c3)) := Lib.hid (by unfold sameV; rw [e1, e2, e3])
  have H1 := Lib.hid e1
  have H2 := Lib.hid e2
  have H3 := Lib.hid e3
  have HW0 : Hid (Below w.heap.size w ((w.alloc (.cells #[.slice af nf cf, .slice ah nh ch, .slice aw n cw] 25)).alloc (.cells #[.slice bf mf df, .slice bh mh dh, .slice bw m dw] 25))) := Lib.hid (((Below.refl _ _).alloc (Nat.le_refl _) _).alloc (by simp) _)
  have HA : Hid (bat2 ((w.alloc (.cells #[.slice af nf cf, .slice ah nh ch, .slice aw n cw] 25)).alloc (.cells #[.slice bf mf df, .slice bh mh dh, .slice bw m dw] 25)) w.heap.size (.slice af nf cf) (.slice ah nh ch) (.slice aw n cw) (.slice bf mf df) (.slice bh mh dh) (.slice bw m dw)) := Lib.hid (bat2_new _ _ _ _ _ _ _ _ _)
  clear hn1 hn2 hn3 hn4 hn5 hn6 e1 e2 e3
  rw [HR.out]
  go_enter Tryz.func11, Tryz.ntmps11
  go_wp2_with fail
  generalize (w.alloc (.cells #[.slice af nf cf, .slice ah nh ch, .slice aw n cw] 25)).alloc (.cells #[.slice bf mf df, .slice bh mh dh, .slice bw m dw] 25) = W at HA HW0 ⊢
  have HX0 := Lib.hid (HX.out.below HW0.out)
  have HY0 := Lib.hid (HY.out.below HW0.out)
  refine (requale_as _ _ f f2 c1 _ HX0.out.1 HY0.out.1 HX0.out.2.2.2.1 HY0.out.2.2.2.1 H1.out).mono ?_
  rintro r w1 ⟨rfl, q1, rfl⟩
  cases c1 with
  | false =>
    go_wp2
    go_ret
    exact ⟨rfl, below_drewN HW0.out _⟩
  | true =>
    obtain ⟨d0, d1, d2, d3, d4, d5⟩ := HA.out.drewN q1
    go_wp2_with fail
    refine (requale_as _ _ h h2 c2 _ (HX0.out.2.1.drewN q1) (HY0.out.2.1.drewN q1) HX0.out.2.2.2.2.1 HY0.out.2.2.2.2.1 H2.out).mono ?_
    rintro r w2 ⟨rfl, q2, rfl⟩
    rw [World.drewN_drewN]
    clear d0 d1 d2 d3 d4 d5
    cases c2 with
    | false =>
      go_wp2
      go_ret
      exact ⟨rfl, below_drewN HW0.out _⟩
    | true =>
      obtain ⟨d0, d1, d2, d3, d4, d5⟩ := HA.out.drewN (q1 + q2)
      go_wp2_with fail
      refine (requalw_as _ _ l l2 c3 _ (HX0.out.2.2.1.drewN (q1 + q2)) (HY0.out.2.2.1.drewN (q1 + q2)) HX0.out.2.2.2.2.2.1 HY0.out.2.2.2.2.2.1 H3.out).mono ?_
      rintro r w3 ⟨rfl, q3, rfl⟩
      rw [World.drewN_drewN]
      clear d0 d1 d2 d3 d4 d5
      go_wp2
      go_ret
      exact ⟨by first | rfl | simp, below_drewN HW0.out _⟩
end Go.Proofs.YtkafhlpnhgipeaaGreatDoor
/-
  Bodies, plain: what is read is right, and is written so; no beginning of a body is one; how long bodies are.
-/
namespace Go.Proofs.YtkafhlpnhgipeaaGreatDoor
open Go.RowKit

theorem place_of {h : List Ent} {e : Ent} : ∀ {last : Int} {p : Nat}, okV last h → h[p]? = some e → placeF h e.rep = p := by
  induction h with
  | nil => intro last p _ hp; simp at hp
  | cons d r ih =>
    intro last p ho hp
    unfold placeF
    rw [List.findIdx_cons]
    cases p with
    | zero =>
      obtain rfl : d = e := by simpa using hp
      simp
    | succ p =>
      have hp2 : r[p]? = some e := by simpa using hp
      have h1 := okV_mem ho.2 e (List.mem_of_getElem? hp2)
      have hne : decide (d.rep = e.rep) = false := by simp; omega
      rw [hne]
      have h2 := ih ho.2 hp2
      unfold placeF at h2
      simp [h2]
theorem kind_cases (l : List UInt8) : (∃ e, kindF l = (0, 0, e) ∧ e ≠ 0) ∨ ∃ c r, l = c :: r ∧ kindF l = (c.toNat, 1, 0) ∧ 1 ≤ c.toNat ∧ c.toNat ≤ 4 := by
  cases l with
  | nil => exact .inl ⟨7, rfl, by decide⟩
  | cons c r =>
    rw [kindF_cons]
    by_cases h : c.toNat < 1 ∨ 4 < c.toNat
    · exact .inl ⟨1, by rw [if_pos h], by decide⟩
    · exact .inr ⟨c, r, rfl, by rw [if_neg h], by omega, by omega⟩
theorem fill_only {T R K : Int} {key : ByteArray} {l : List UInt8} (h : fillE T R K key l = 0) :
    wriE T R K key (fillV K l) (getN K l).1 = 0 ∧ (tailB K (fillV K l) (getN K l).1).data.toList = l.take (fillN K l) ∧ fillN K l ≤ l.length := by
  obtain ⟨n, k, e, hn⟩ : ∃ n k e, getN K l = (n, k, e) := ⟨_, _, _, rfl⟩
  by_cases he : e = 0
  · subst he
    obtain ⟨v, j, e2, hv⟩ : ∃ v j e2, getV K (l.drop k) = (v, j, e2) := ⟨_, _, _, rfl⟩
    by_cases he2 : e2 = 0
    · subst he2
      rw [fillE_w hn hv] at h
      have h2 := only_t hn hv
      unfold fillV fillN
      rw [hn]; simp only; rw [hv]; simp only
      exact ⟨h, h2.1, h2.2⟩
    · rw [fillE_v hn hv he2] at h; exact absurd h he2
  · rw [fillE_n hn he] at h; exact absurd h he

/-- A write that is read. -/
theorem unOne_only {s : List UInt8} {h : List Ent} {T : List ByteArray} {a b n : Nat} {ahead : Int} {x : Wr} (hh : rightV h) (h0 : unOne s h T a ahead = .inr (b, x, n)) :
    T[n]? = some x.key ∧ wE x = 0 ∧ ahead ≤ x.time ∧ x.time ≤ 1099511627776 ∧ placeF h x.rep < h.length ∧ s.drop a = oneB h ahead x n ++ s.drop b ∧ a < b ∧ b ≤ s.length ∧ (∃ e ∈ h, e.rep = x.rep) := by
  rcases kind_cases (s.drop a) with ⟨e, hk, he⟩ | ⟨c, r, hc, hk, hc1, hc4⟩
  · rw [unOne_kind hk he] at h0; cases h0
  · have hal : a < s.length := by
      rcases Nat.lt_or_ge a s.length with h' | h'
      · exact h'
      · rw [List.drop_of_length_le h'] at hc; cases hc
    have hr : r = s.drop (a + 1) := by rw [← List.drop_drop, hc]; rfl
    rcases intL_cases (s.drop (a + 1)) (1099511627776 - ahead) with ⟨e, h1, he, _⟩ | ⟨t, k1, h1, ht, _, _, hk1l, hp1⟩
    · rw [unOne_time hk h1 he] at h0; cases h0
    · rcases intL_cases (s.drop (a + 1 + k1)) ((h.length : Int) - 1) with ⟨e, h2, he, _⟩ | ⟨p, k2, h2, hp, _, _, hk2l, hp2⟩
      · rw [unOne_rep hk h1 h2 he] at h0; cases h0
      · rcases intL_cases (s.drop (a + 1 + k1 + k2)) ((T.length : Int) - 1) with ⟨e, h3, he, _⟩ | ⟨m, k3, h3, hm, _, _, hk3l, hp3⟩
        · rw [unOne_key hk h1 h2 h3 he] at h0; cases h0
        · by_cases h4 : fillE (ahead + t) (h.getD p ⟨0, 0⟩).rep c.toNat (T.getD m ⟨#[]⟩) (s.drop (a + 1 + k1 + k2 + k3)) = 0
          · rw [unOne_ok hk h1 h2 h3 h4] at h0
            simp only [Sum.inr.injEq, Prod.mk.injEq] at h0
            obtain ⟨hb, rfl, rfl⟩ := h0
            obtain ⟨f1, f2, f3⟩ := fill_only h4
            have e1 := drop_put hp1
            have e2 := drop_put hp2
            have e3 := drop_put hp3
            have e4 := drop_put f2
            rw [List.length_drop] at hk1l hk2l hk3l f3
            obtain ⟨L, hL⟩ : ∃ L, s.drop (a + 1 + k1 + k2 + k3) = L := ⟨_, rfl⟩
            rw [hL] at f1 e3 e4 hb ⊢
            rw [hL] at f3
            obtain ⟨e, he⟩ : ∃ e, h[p]? = some e := ⟨h[p]'(by omega), List.getElem?_eq_getElem _⟩
            have hge : h.getD p ⟨0, 0⟩ = e := by rw [List.getD_eq_getElem?_getD, he]; rfl
            have hme : T[m]? = some (T.getD m ⟨#[]⟩) := by
              obtain ⟨k, hk⟩ : ∃ k, T[m]? = some k := ⟨T[m]'(by omega), List.getElem?_eq_getElem _⟩
              rw [List.getD_eq_getElem?_getD, hk]; rfl
            have hpl : placeF h (h.getD p ⟨0, 0⟩).rep = p := by rw [hge]; exact place_of hh.2 he
            refine ⟨hme, f1, by show ahead ≤ ahead + (t : Int); omega, by show ahead + (t : Int) ≤ _; omega, by show placeF h (h.getD p ⟨0, 0⟩).rep < _; rw [hpl]; omega, ?_, by omega, by omega, ?_⟩
            · unfold oneB tailL
              simp only
              rw [hpl, show (ahead + (t : Int) - ahead).toNat = t by omega, show ((c.toNat : Nat) : Int).toNat = c.toNat by omega, ofNat_toNat, hc, hr, e1, e2, e3]
              obtain ⟨X, hX⟩ : ∃ X, (tailB (c.toNat : Int) (fillV (c.toNat : Int) L) (getN (c.toNat : Int) L).1).data.toList = X := ⟨_, rfl⟩
              rw [hX] at e4 ⊢
              rw [hb] at e4
              rw [e4]
              simp
            · exact ⟨e, List.mem_of_getElem? he, by rw [hge]⟩
          · rw [unOne_fill hk h1 h2 h3 rfl h4] at h0; cases h0
theorem unW_only {s : List UInt8} {h : List Ent} {T : List ByteArray} (hh : rightV h) (k : Nat) : ∀ (a b : Nat) (ahead : Int) (W0 W : List Wr) (N0 N : List Nat), a ≤ s.length → unW s h T k a ahead W0 N0 = .inr (b, W, N) →
    ∃ W1 N1, W = W0 ++ W1 ∧ N = N0 ++ N1 ∧ W1.length = k ∧ okRow h T ahead W1 N1 ∧ s.drop a = rowB h ahead W1 N1 ++ s.drop b ∧ b ≤ s.length ∧ a ≤ b := by
  induction k with
  | zero =>
    intro a b ahead W0 W N0 N ha h0
    rw [unW] at h0
    simp only [Sum.inr.injEq, Prod.mk.injEq] at h0
    obtain ⟨rfl, rfl, rfl⟩ := h0
    exact ⟨[], [], by simp, by simp, rfl, rfl, rfl, ha, Nat.le_refl _⟩
  | succ k ih =>
    intro a b ahead W0 W N0 N ha h0
    match h1 : unOne s h T a ahead with
    | .inl r => rw [unW_bad h1] at h0; cases h0
    | .inr (c, x, n) =>
      rw [unW_ok h1] at h0
      obtain ⟨o1, o2, o3, o4, o5, o6, o7, o8, o9⟩ := unOne_only hh h1
      obtain ⟨W1, N1, rfl, rfl, g3, g4, g5, g6, g7⟩ := ih _ _ _ _ _ _ _ o8 h0
      refine ⟨x :: W1, n :: N1, by simp, by simp, by simp [g3], ⟨⟨o2, o3, o5, o1⟩, g4⟩, ?_, g6, by omega⟩
      rw [rowB_cons, List.append_assoc, ← g5]; exact o6
theorem unT_only {s : List UInt8} (k : Nat) : ∀ (a b : Nat) (T0 T : List ByteArray), a ≤ s.length → unT s k a T0 = .inr (b, T) → ∃ T1, T = T0 ++ T1 ∧ T1.length = k ∧ s.drop a = textsB T1 ++ s.drop b ∧ b ≤ s.length ∧ a ≤ b := by
  induction k with
  | zero =>
    intro a b T0 T ha h0
    rw [unT] at h0
    simp only [Sum.inr.injEq, Prod.mk.injEq] at h0
    obtain ⟨rfl, rfl⟩ := h0
    exact ⟨[], by simp, rfl, rfl, ha, Nat.le_refl _⟩
  | succ k ih =>
    intro a b T0 T ha h0
    obtain ⟨t, n, e, hg⟩ : ∃ t n e, getS (s.drop a) = (t, n, e) := ⟨_, _, _, rfl⟩
    by_cases he : e = 0
    · subst he
      obtain ⟨w1, w2, w3, w4⟩ := wspan_only hg
      rw [List.length_drop] at w2
      rw [unT_ok hg] at h0
      obtain ⟨T1, rfl, g2, g3, g4, g5⟩ := ih _ _ _ _ (by omega) h0
      refine ⟨⟨t.toArray⟩ :: T1, by simp, by simp [g2], ?_, g4, by omega⟩
      rw [textsB_cons, List.append_assoc, ← g3]
      exact drop_put w4
    · rw [unT_bad hg he] at h0; cases h0
theorem okRow_keys {h : List Ent} {T : List ByteArray} (l : List Wr) : ∀ (ahead : Int) (N : List Nat), okRow h T ahead l N → outG T (N.map Int.ofNat) = keysW l := by
  induction l with
  | nil => intro ahead N hN; have hN : N = [] := hN; subst hN; rfl
  | cons x r ih =>
    intro ahead N hN
    cases N with
    | nil => exact absurd hN id
    | cons n N =>
      have h2 := ih _ _ hN.2
      unfold outG keysW at h2 ⊢
      rw [List.map_cons, List.map_cons, List.map_cons, h2]
      have h4 := hN.1.2.2.2
      congr 1
      show T.getD (Int.ofNat n).toNat ByteArray.empty = x.key
      rw [List.getD_eq_getElem?_getD, show (Int.ofNat n).toNat = n from rfl, h4]; rfl

/-- What is read is right, and is written so. -/
theorem unb_only {s : List UInt8} {f h : List Ent} {l : List Wr} (h0 : unbF s = .inr (f, h, l)) : rightB f h l ∧ bodyL f h l = s ∧ s.length ≤ 20000 := by
  by_cases hl : 20000 < s.length
  · rw [unb_long hl] at h0; cases h0
  obtain ⟨e1, n, f', h1⟩ : ∃ e n f', vreadF s = (e, n, f') := ⟨_, _, _, rfl⟩
  have z1 : e1 = 0 := by
    by_cases z : e1 = 0
    · exact z
    · rw [unb_from hl h1 z] at h0; cases h0
  subst z1
  obtain ⟨r1, n1, n2, w1⟩ := vread_only h1
  obtain ⟨e2, m, h', h2⟩ : ∃ e m h', vreadF (s.drop n) = (e, m, h') := ⟨_, _, _, rfl⟩
  have z2 : e2 = 0 := by
    by_cases z : e2 = 0
    · exact z
    · rw [unb_have hl h1 h2 z] at h0; cases h0
  subst z2
  obtain ⟨r2, m1, m2, w2⟩ := vread_only h2
  rw [List.length_drop] at m2
  rcases intL_cases (s.drop (n + m)) 60 with ⟨e, h3, he, _⟩ | ⟨k, j, h3, hk, _, _, hjl, hp3⟩
  · rw [unb_texts hl h1 h2 h3 he] at h0; cases h0
  rw [List.length_drop] at hjl
  match h4 : unT s k (n + m + j) [] with
  | .inl (e, p) => rw [unb_text hl h1 h2 h3 h4] at h0; cases h0
  | .inr (b, T) =>
    obtain ⟨T1, hT1, hTl, q4, hb1, hb2⟩ := unT_only k _ _ _ _ (by omega) h4
    rw [List.nil_append] at hT1
    subst hT1
    rcases intL_cases (s.drop b) 60 with ⟨e, h5, he, _⟩ | ⟨k2, j2, h5, hk2, _, _, hj2l, hp5⟩
    · rw [unb_writes hl h1 h2 h3 h4 h5 he] at h0; cases h0
    rw [List.length_drop] at hj2l
    match h6 : unW s h' T k2 (b + j2) 0 [] [] with
    | .inl (e, p) => rw [unb_write hl h1 h2 h3 h4 h5 h6] at h0; cases h0
    | .inr (c, W, N) =>
      obtain ⟨W1, N1, hW1, hN1, hWl, hrow, q6, hc1, hc2⟩ := unW_only r2 k2 _ _ _ _ _ _ _ (by omega) h6
      rw [List.nil_append] at hW1 hN1
      subst hW1
      subst hN1
      rw [unb_rest hl h1 h2 h3 h4 h5 h6] at h0
      by_cases z3 : c < s.length
      · rw [if_pos z3] at h0; cases h0
      rw [if_neg z3] at h0
      have z4 : (listF T (N.map Int.ofNat)).2.1 = 0 := by
        by_cases z : (listF T (N.map Int.ofNat)).2.1 = 0
        · exact z
        · rw [if_pos z] at h0; cases h0
      rw [if_neg (by simpa using z4)] at h0
      have z5 : (batF f' h' W).1 = 0 := by
        by_cases z : (batF f' h' W).1 = 0
        · exact z
        · rw [if_pos z] at h0; cases h0
      rw [if_neg (by simpa using z5)] at h0
      simp only [Sum.inr.injEq, Prod.mk.injEq] at h0
      obtain ⟨rfl, rfl, rfl⟩ := h0
      obtain ⟨_, lt, la⟩ := listF_ok z4
      rw [okRow_keys _ _ _ hrow] at lt la
      have la2 : atK [] (keysW W) = N := by
        have hinj : ∀ (x y : List Nat), x.map Int.ofNat = y.map Int.ofNat → x = y := fun x y hxy => (List.map_inj_right (fun a b hab => Int.ofNat.inj hab)).1 hxy
        exact hinj _ _ la
      refine ⟨z5, ?_, by omega⟩
      have hc : s.drop c = [] := List.drop_of_length_le (by omega)
      have e1 := drop_put (a := 0) (s := s) (k := n) (p := vwriteL f') (by rw [List.drop_zero]; exact w1)
      rw [List.drop_zero, Nat.zero_add] at e1
      have e2 := drop_put w2
      have e3 := drop_put hp3
      have e5 := drop_put hp5
      rw [hc, List.append_nil] at q6
      unfold bodyL
      rw [lt, la2, hTl, hWl]
      rw [e1, e2, e3, q4, e5, q6]
      simp

/-- No beginning of a body is one. -/
theorem unb_cut {f h : List Ent} {l : List Wr} {j : Nat} (hr : rightB f h l) (hl : (bodyL f h l).length ≤ 20000) (hj : j < (bodyL f h l).length) : ∃ r, unbF ((bodyL f h l).take j) = .inl r := by
  match hu : unbF ((bodyL f h l).take j) with
  | .inl r => exact ⟨r, rfl⟩
  | .inr (f', h', l') =>
    obtain ⟨r1, r2, _⟩ := unb_only hu
    have h1 := unb_body r1 ((bodyL f h l).drop j) (by rw [r2, List.take_append_drop]; exact hl)
    rw [r2, List.take_append_drop] at h1
    have h2 := unb_body hr [] (by simpa using hl)
    rw [List.append_nil, if_pos rfl] at h2
    rw [h2, if_neg (by intro h; have := congrArg List.length h; simp at this; omega)] at h1
    cases h1
end Go.Proofs.YtkafhlpnhgipeaaGreatDoor
/-
  A reader in memory: what goes wrong there; the next number.
-/
namespace Go.Proofs.YtkafhlpnhgipeaaGreatDoor
open Go.RowKit

/-- A reader: its text, and where it stands. -/
def Rd (w : World) (R : Nat) (s : ByteArray) (a : Nat) : Prop := w.heap[R]? = some (.cells #[.string s, .int .i64 (a : Int)] 140 (0, 0))
theorem Rd.cells {w : World} {R : Nat} {s : ByteArray} {a : Nat} (h : Rd w R s a) : w.cell? ⟨R, 0, none⟩ = some (.string s) ∧ w.cell? ⟨R, 1, none⟩ = some (.int .i64 (a : Int)) ∧ w.frozen? ⟨R, 1, none⟩ = false ∧ R < w.heap.size := by
  refine ⟨cell_of_row _ _ 0 _ _ (0, 0) h, cell_of_row _ _ 1 _ _ (0, 0) h, Lib.frozen_of_heap h 1, ?_⟩
  exact (Array.getElem?_eq_some_iff.1 h).1
theorem Rd.below {w w' : World} {R : Nat} {s : ByteArray} {a : Nat} (h : Rd w R s a) (hb : Below w.heap.size w w') : Rd w' R s a := (hb.block R h.cells.2.2.2).trans h
theorem Rd.moved {w : World} {R : Nat} {s : ByteArray} {a b : Nat} (h : Rd w R s a) : Rd (w.setCell ⟨R, 1, none⟩ (.int .i64 (b : Int))) R s b := by
  unfold Rd at h ⊢
  simp [World.setCell, Array.getElem?_modify, h]
theorem grownR {w w1 : World} {R : Nat} (h : Below w.heap.size w w1) (v : Value) : w.grownBy (w1.setCell ⟨R, 1, none⟩ v) (some R) :=
  ⟨h.os, h.tape, h.output, by simpa using h.size, fun k hk hne => by
    have hk2 : R ≠ k := fun e => hne (by rw [e])
    simp only [World.setCell, Array.getElem?_modify, if_neg hk2]
    exact h.block k hk⟩
theorem grownB {w w1 : World} {R : Nat} (h : Below w.heap.size w w1) : w.grownBy w1 (some R) := ⟨h.os, h.tape, h.output, h.size, fun k hk _ => h.block k hk⟩
/-- What is thrown: an error, where. -/
def Thrown (r : Nat × Int) (e : Ending) (w' : World) : Prop := ∃ t v, e = .panicked [{ v := .iface t v, recovered := false }] ∧ r.1 ≠ 0 ∧ anyErr w' (.iface t v) r

set_option maxRecDepth 100000 in
theorem check_nil (R : Nat) (w : World) : Calls Tryz.prog 75 #[.pointer (some ⟨R, 0, none⟩), .nilIface] w fun e w' => e = .returned (.tuple #[]) ∧ w = w' := by
  go_enter Tryz.func75, Tryz.ntmps75
  go_wp2
  go_end0
  exact ⟨rfl, rfl⟩
set_option maxRecDepth 100000 in
set_option maxHeartbeats 2000000 in
theorem check_err (R : Nat) (s : ByteArray) (a : Nat) (v : Value) (x : Nat) (w : World) (h : Rd w R s a) (hg : errT w) (hv : isErr w v (x : Int)) (hx : x ≠ 0) :
    Calls Tryz.prog 75 #[.pointer (some ⟨R, 0, none⟩), v] w fun e w' => Thrown (x, (a : Int)) e w' ∧ Below w.heap.size w w' := by
  have H := Lib.hid h
  have HG := Lib.hid hg
  have HV := Lib.hid hv
  obtain ⟨t, u, rfl⟩ := hv.iface
  obtain ⟨_, c1, _, _⟩ := h.cells
  have HB0 : Hid (Below w.heap.size w w.drew) := Lib.hid (Below.refl _ _).drew
  clear h hg hv
  go_enter Tryz.func75, Tryz.ntmps75
  go_wp2
  refine wp_region_held_drew (S := fun w' => w'.cell? ⟨R, 1, none⟩ = some (.int .i64 (a : Int))) (by kernel_rfl) c1 (fun hHeld => ?_)
  refine wpAnyH_take (i := 0) (v := ?v0) rfl (by kernel_rfl) (by kernel_rfl) (by kernel_rfl) (fun _ _ _ h => h) (Or.inl ⟨by rfl, ?h0⟩) (by assumption) ?r0
  case h0 => (intro W hSw; (try dsimp only at hSw); go_simp; all_goals (with_reducible rfl))
  try simp only [Act.put, List.getElem_toArray, List.getElem_cons_zero, List.setIfInBounds_toArray, List.set_cons_zero, List.set_cons_succ]
  refine wpAnyH_take (i := 2) (v := ?v2) rfl (by kernel_rfl) (by kernel_rfl) (by kernel_rfl) (fun _ _ _ h => h) (Or.inl ⟨by rfl, ?h2⟩) (by assumption) ?r2
  case h2 => (intro W hSw; (try dsimp only at hSw); go_simp; all_goals (with_reducible rfl))
  try simp only [Act.put, List.getElem_toArray, List.getElem_cons_zero, List.getElem_cons_succ, List.setIfInBounds_toArray, List.set_cons_zero, List.set_cons_succ]
  refine wpAnyH_take (i := 3) (v := ?v3) rfl (by kernel_rfl) (by kernel_rfl) (by kernel_rfl) (fun _ _ _ h => h) (Or.inl ⟨by rfl, ?h3⟩) (by assumption) ?r3
  case h3 => (intro W hSw; (try dsimp only at hSw); go_simp; all_goals (with_reducible rfl))
  try simp only [Act.put, List.getElem_toArray, List.getElem_cons_zero, List.getElem_cons_succ, List.setIfInBounds_toArray, List.set_cons_zero, List.set_cons_succ]
  refine wpAnyH_take (i := 4) (v := ?v4) rfl (by kernel_rfl) (by kernel_rfl) (by kernel_rfl) (fun _ _ _ h => h) (Or.inl ⟨by rfl, ?h4⟩) (by assumption) ?r4
  case h4 => (intro W hSw; (try dsimp only at hSw); go_simp; all_goals (with_reducible rfl))
  try simp only [Act.put, List.getElem_toArray, List.getElem_cons_zero, List.getElem_cons_succ, List.setIfInBounds_toArray, List.set_cons_zero, List.set_cons_succ]
  refine wpAnyH_take (i := 5) (v := ?v5) rfl (by kernel_rfl) (by kernel_rfl) (by kernel_rfl) (fun _ _ _ h => h) (Or.inl ⟨by rfl, ?h5⟩) (by assumption) ?r5
  case h5 => (intro W hSw; (try dsimp only at hSw); go_simp; all_goals (with_reducible rfl))
  try simp only [Act.put, List.getElem_toArray, List.getElem_cons_zero, List.getElem_cons_succ, List.setIfInBounds_toArray, List.set_cons_zero, List.set_cons_succ]
  refine wpAnyH_ready (rs := [1]) (by kernel_rfl) (by simp) ?_
  refine AllReadyH.cons rfl (fun K hK => ?_) AllReadyH.nil
  go_simp
  refine (tell_err _ (x : Int) _ (HG.out.below HB0.out) (HV.out.below HB0.out)).mono ?_
  rintro r w1 ⟨rfl, hb1⟩
  have HB1 : Hid (Below w.heap.size w w1) := Lib.hid (undrew3 hb1)
  have k1 := (H.out.below HB1.out).cells.2.1
  have k2 := ((H.out.below HB1.out).below ((Below.refl _ _).alloc (Nat.le_refl _) (.cells #[.int .i64 (x : Int), .int .i64 (a : Int)] 125))).cells.2.1
  clear hb1
  refine hK.out _ _ k1 (fun hHeld1 => ?_)
  clear hK hHeld
  try simp only [Act.put, List.getElem_toArray, List.getElem_cons_zero, List.getElem_cons_succ, List.setIfInBounds_toArray, List.set_cons_zero, List.set_cons_succ]
  refine wpAnyH_take (i := 6) (v := ?v6) rfl (by kernel_rfl) (by kernel_rfl) (by kernel_rfl) (fun _ _ _ h => h) (Or.inl ⟨by rfl, ?h6⟩) (by assumption) ?r6
  case h6 => (intro W hSw; (try dsimp only at hSw); go_simp; all_goals (with_reducible rfl))
  try simp only [Act.put, List.getElem_toArray, List.getElem_cons_zero, List.getElem_cons_succ, List.setIfInBounds_toArray, List.set_cons_zero, List.set_cons_succ]
  refine wpAnyH_ready (rs := [7]) (by kernel_rfl) (by simp) ?_
  refine AllReadyH.cons rfl (fun K hK => ?_) AllReadyH.nil
  go_simp
  refine hK.out _ _ k2 (fun hHeld7 => ?_)
  clear hK hHeld1
  try simp only [Act.put, List.getElem_toArray, List.getElem_cons_zero, List.getElem_cons_succ, List.setIfInBounds_toArray, List.set_cons_zero, List.set_cons_succ]
  refine wpAnyH_take (i := 8) (v := ?v8) rfl (by kernel_rfl) (by kernel_rfl) (by kernel_rfl) (fun _ _ _ h => h) (Or.inl ⟨by rfl, ?h8⟩) (by assumption) ?r8
  case h8 => (intro W hSw; (try dsimp only at hSw); go_simp; all_goals (with_reducible rfl))
  try simp only [Act.put, List.getElem_toArray, List.getElem_cons_zero, List.getElem_cons_succ, List.setIfInBounds_toArray, List.set_cons_zero, List.set_cons_succ]
  refine wpAnyH_ready (rs := [9]) (by kernel_rfl) (by simp) ?_
  refine AllReadyH.cons rfl (fun K hK => ?_) AllReadyH.nil
  go_simp
  refine (bthrow_err _ _ _).mono ?_
  rintro r w2 ⟨rfl, rfl⟩
  refine And.intro rfl ⟨⟨_, _, rfl, hx, .inl (atIs.new w1 x a hx)⟩, HB1.out.alloc HB1.out.size _⟩
end Go.Proofs.YtkafhlpnhgipeaaGreatDoor
