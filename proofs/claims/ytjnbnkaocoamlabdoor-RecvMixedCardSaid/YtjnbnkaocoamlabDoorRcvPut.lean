/-
  The contracts of (*recv.Receiver).came, begin, put.
-/
import Derived.Test.YtjnbnkaocoamlabDoorRcvIn
import Derived.Test.YtjnbnkaocoamlabDoorDskNew
import Derived.WalkSmall
import Derived.RegionTactic
namespace Go.Proofs.YtjnbnkaocoamlabDoor
open Go.RowKit

set_option maxRecDepth 100000 in
theorem came_any (r d L M DB TB : Nat) (vd vt : Value) (X : Rcv) (w : World) (h : RcvIn w r d L M DB TB vd vt X) :
    Calls Tryd.prog 24 #[.pointer (some ⟨r, 0, none⟩)] w fun e w' => e = .returned (.bool (decide (0 < X.tot))) ∧ w' = w := by
  obtain ⟨a, b, rfl, rfl⟩ := h.rows.forms
  have c2 := h.c2
  clear h
  go_enter Tryd.func24, Tryd.ntmps24
  go_wp2
  go_ret
  exact ⟨rfl, rfl⟩

/-- The bytes of s from p on, as far as the first k go, are put where none is. -/
def putK (f : Nat → Option UInt8) (p : Nat) (s : List UInt8) (k : Nat) : Nat → Option UInt8 := fun i => if (f i).isSome then f i else if p ≤ i ∧ i < p + k then s[i - p]? else none
theorem putK_zero (f : Nat → Option UInt8) (p : Nat) (s : List UInt8) : putK f p s 0 = f := by
  funext i
  unfold putK
  cases h : f i with
  | some b => simp
  | none => rw [if_neg (by simp), if_neg (by omega)]
theorem putK_old {f : Nat → Option UInt8} {p k : Nat} {s : List UInt8} (h : (f (p + k)).isSome = true) : putK f p s (k + 1) = putK f p s k := by
  funext i
  unfold putK
  by_cases e : i = p + k
  · subst e; rw [if_pos h, if_pos h]
  · by_cases h2 : p ≤ i ∧ i < p + k
    · rw [if_pos h2, if_pos (show p ≤ i ∧ i < p + (k + 1) by omega)]
    · rw [if_neg h2, if_neg (show ¬ (p ≤ i ∧ i < p + (k + 1)) by omega)]
theorem putK_new {f : Nat → Option UInt8} {p k : Nat} {s : List UInt8} {b : UInt8} (h : (f (p + k)).isSome = false) (hb : s[k]? = some b) : putK f p s (k + 1) = updC (putK f p s k) (p + k) b := by
  funext i
  unfold updC putK
  by_cases e : i = p + k
  · subst e
    rw [if_pos rfl, if_neg (by rw [h]; simp), if_pos (by omega), show p + k - p = k by omega, hb]
  · rw [if_neg e]
    by_cases h2 : p ≤ i ∧ i < p + k
    · rw [if_pos h2, if_pos (show p ≤ i ∧ i < p + (k + 1) by omega)]
    · rw [if_neg h2, if_neg (show ¬ (p ≤ i ∧ i < p + (k + 1)) by omega)]
theorem putK_at {f : Nat → Option UInt8} {p k : Nat} {s : List UInt8} : (putK f p s k (p + k)).isSome = (f (p + k)).isSome := by
  unfold putK
  cases h : f (p + k) with
  | some b => simp
  | none => rw [if_neg (by simp), if_neg (by omega)]
/-- A receiver with other bytes. -/
def rBytes (X : Rcv) (f : Nat → Option UInt8) : Rcv := { X with came := f }
theorem RcvIn.bytes {w : World} {r d L M DB TB : Nat} {vd vt : Value} {X : Rcv} {p : Nat} {b : UInt8} (h : RcvIn w r d L M DB TB vd vt X) (hp : p < X.tot) :
    RcvIn ((w.setCell ⟨DB, p, none⟩ (.int .u8 ((b.toNat : Nat) : Int))).setCell ⟨TB, p, none⟩ (.bool true)) r d L M DB TB vd vt (rBytes X (updC X.came p b)) ∧
      But (fun k => k = DB ∨ k = TB) w ((w.setCell ⟨DB, p, none⟩ (.int .u8 ((b.toNat : Nat) : Int))).setCell ⟨TB, p, none⟩ (.bool true)) := by
  rcases h.rows with ⟨h0, _, _⟩ | ⟨h0, h1, h2, h3, h4, n1, n2, n3, n4, n5, n6, n7, n8, n9⟩
  · omega
  have hB : But (fun k => k = DB ∨ k = TB) w ((w.setCell ⟨DB, p, none⟩ (.int .u8 ((b.toNat : Nat) : Int))).setCell ⟨TB, p, none⟩ (.bool true)) :=
    But.setCell (F := fun k => k = DB ∨ k = TB) (But.setCell (F := fun k => k = DB ∨ k = TB) (But.refl _ _) (p := ⟨DB, p, none⟩) (.inl (.inl rfl)) _) (p := ⟨TB, p, none⟩) (.inl (.inr rfl)) _
  have q1 : (w.setCell ⟨DB, p, none⟩ (.int .u8 ((b.toNat : Nat) : Int))).heap[DB]? = some (.cells (dataC (updC X.came p b) X.tot) 5 (0, 0)) := by rw [heap_setCell_same _ _ _ _ _ _ h3, dataC_set _ hp]
  have q2 : (w.setCell ⟨DB, p, none⟩ (.int .u8 ((b.toNat : Nat) : Int))).heap[TB]? = some (.cells (thereC X.came X.tot) 4 (0, 0)) := by rw [heap_setCell_other _ ⟨DB, p, none⟩ TB _ (fun e => n1 e.symm)]; exact h4
  refine ⟨⟨?_, h.dsk.but hB ?_ ?_ ?_, h.n140, fun i hi => ?_, .inr ⟨h0, h1, h2, ?_, ?_, n1, n2, n3, n4, n5, n6, n7, n8, n9⟩, h.tot, h.nm, h.rd, h.rL, h.rM⟩, hB⟩
  · exact (hB.block r h.lr (fun e => e.elim n2 n3)).trans h.row
  · exact fun e => e.elim n4 n5
  · exact fun e => e.elim n6 n7
  · exact fun e => e.elim n8 n9
  · have hi2 : X.tot ≤ i := hi
    show updC X.came p b i = none
    unfold updC
    rw [if_neg (by omega)]
    exact h.none_ i hi2
  · exact (heap_setCell_other _ ⟨TB, p, none⟩ DB _ n1).trans q1
  · show ((w.setCell ⟨DB, p, none⟩ (.int .u8 ((b.toNat : Nat) : Int))).setCell ⟨TB, p, none⟩ (.bool true)).heap[TB]? = _
    rw [heap_setCell_same _ _ _ _ _ _ q2, thereC_set _ hp b]
    rfl

set_option maxRecDepth 100000 in
set_option maxHeartbeats 2000000 in
theorem rput_any (r d L M DB TB : Nat) (vd vt : Value) (X : Rcv) (p : Nat) (s : ByteArray) (w : World) (h : RcvIn w r d L M DB TB vd vt X) (hp : p + s.size ≤ X.tot) :
    Calls Tryd.prog 26 #[.pointer (some ⟨r, 0, none⟩), .int .i64 (p : Int), .string s] w fun e w' =>
      e = .returned (.tuple #[]) ∧ RcvIn w' r d L M DB TB vd vt (rBytes X (putK X.came p s.data.toList s.size)) ∧ But (fun k => k = DB ∨ k = TB) w w' := by
  have HH := Lib.hid h
  have htot := h.tot
  have HP := Lib.hid hp
  have hsz : s.size ≤ 4096 := by omega
  have hp4 : p ≤ 4096 := by omega
  clear h hp
  go_enter Tryd.func26, Tryd.ntmps26
  go_wp2
  go_loopw [9] (fun i wr => ∃ k : Nat, k ≤ s.size ∧ i = .int .i64 k ∧ RcvIn wr r d L M DB TB vd vt (rBytes X (putK X.came p s.data.toList k)) ∧ But (fun k => k = DB ∨ k = TB) w wr) (fun i _ => s.size - (RowKit.intOf i).toNat)
  case atStart => exact ⟨0, by omega, rfl, by rw [putK_zero]; exact HH.out, But.refl _ _⟩
  case round =>
    obtain ⟨k, hk, rfl, hw, hb⟩ := hrel
    have HW := Lib.hid hw
    have HB := Lib.hid hb
    clear hw hb
    by_cases hlt : k < s.size
    · obtain ⟨q, hq⟩ : ∃ q, q = p + k := ⟨_, rfl⟩
      have hqt : q < X.tot := by have := HP.out; omega
      rcases HW.out.rows with ⟨h0, _, _⟩ | ⟨_, h1, h2, h3, h4, n1, _⟩
      · have e0 : X.tot = 0 := h0
        omega
      change vd = .slice (some ⟨DB, 0, none⟩) X.tot X.tot at h1
      change vt = .slice (some ⟨TB, 0, none⟩) X.tot X.tot at h2
      subst h1 h2
      have c2 := HW.out.c2
      have c3 := HW.out.c3
      obtain ⟨n, hn⟩ : ∃ n, n = X.tot := ⟨_, rfl⟩
      rw [← hn] at c2 c3 htot hqt
      have HN := Lib.hid hn
      have ht : wr.cell? ⟨TB, q, none⟩ = some (.bool (putK X.came p s.data.toList k q).isSome) := by rw [cell_of_row _ _ _ _ _ _ h4]; exact thereC_at _ (by show q < X.tot; omega)
      have hd : wr.cell? ⟨DB, q, none⟩ = some (.int .u8 ((((putK X.came p s.data.toList k q).getD 0).toNat : Nat) : Int)) := by rw [cell_of_row _ _ _ _ _ _ h3]; exact dataC_at _ (by show q < X.tot; omega)
      have fd : wr.frozen? ⟨DB, q, none⟩ = false := Lib.frozen_of_heap h3 q
      have ft : wr.frozen? ⟨TB, q, none⟩ = false := Lib.frozen_of_heap h4 q
      have hw1 : IntKind.i64.wrap ((p : Int) + (k : Int)) = (q : Int) := by rw [show (p : Int) + (k : Int) = (q : Int) by omega]; exact IntWalk.i64_in _ (by omega)
      have hw2 : (p : Int) + (k : Int) = (q : Int) := by omega
      have hq1 : (q : Int) < (n : Int) := by omega
      rw [hq, putK_at, ← hq] at ht
      obtain ⟨b, hb⟩ : ∃ b, s.data.toList[k]? = some b := ⟨s.data.toList[k]'(by simp; exact hlt), List.getElem?_eq_getElem _⟩
      have hsb : s[k]'hlt = b := by
        have := (List.getElem?_eq_some_iff.1 hb).2
        rw [← this]; rfl
      cases hs : (X.came q).isSome with
      | true =>
        have HE : Hid (putK X.came p s.data.toList (k + 1) = putK X.came p s.data.toList k) := Lib.hid (putK_old (by rw [← hq]; exact hs))
        rw [hs] at ht
        clear h3 h4 hd fd ft hs hb hn hq n1 hsb
        go_wp2
        go_roundw
        case rel => exact ⟨k + 1, by omega, by go_num, by rw [HE.out]; exact HW.out, HB.out⟩
        case measure => simp [RowKit.intOf]; omega
      | false =>
        have HE : Hid (putK X.came p s.data.toList (k + 1) = updC (putK X.came p s.data.toList k) q b) := Lib.hid (by rw [hq]; exact putK_new (by rw [← hq]; exact hs) hb)
        rw [hs] at ht
        have hne : ¬ DB = TB := n1
        have hne2 : ¬ TB = DB := fun e => n1 e.symm
        have HDR : Hid (RcvIn wr.drew r d L M DB TB (.slice (some ⟨DB, 0, none⟩) X.tot X.tot) (.slice (some ⟨TB, 0, none⟩) X.tot X.tot) (rBytes X (putK X.came p s.data.toList k))) := Lib.hid (HW.out.below (Below.refl _ _).drew)
        have HRB := Lib.hid (HDR.out.bytes (p := q) (b := b) (by show q < X.tot; omega))
        clear h3 h4 hs hb hn hq n1
        go_wp2
        go_region
        go_wp2
        go_roundw
        case rel => exact ⟨k + 1, by omega, by go_num, by rw [HE.out]; exact HRB.out.1, HB.out.drew.trans HRB.out.2⟩
        case measure => simp [RowKit.intOf]; omega
    · obtain rfl : k = s.size := by omega
      go_wp2
      refine bodyPost_end (results_none rfl _ _ _) rfl ?_
      exact ⟨rfl, HW.out, HB.out⟩
end Go.Proofs.YtjnbnkaocoamlabDoor
