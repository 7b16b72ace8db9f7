/-
  The closure 'take' of packtrainkeep.RecvMixed.
-/
import Derived.Test.YtjnbnkaocoamlabDoorRcvTook
namespace Go.Proofs.YtjnbnkaocoamlabDoor
open Go.RowKit

/-- All from lo up to hi came. -/
def updR (c : Nat → Bool) (lo hi : Nat) : Nat → Bool := fun j => if lo ≤ j ∧ j < hi then true else c j
theorem updR_none (c : Nat → Bool) (lo : Nat) : updR c lo lo = c := by
  funext j; unfold updR; rw [if_neg (by omega)]
theorem updR_next (c : Nat → Bool) {lo p : Nat} (h : lo ≤ p) : updB (updR c lo p) p = updR c lo (p + 1) := by
  funext j
  unfold updB updR
  by_cases e : j = p
  · rw [if_pos e, if_pos (by omega)]
  · rw [if_neg e]
    by_cases e2 : lo ≤ j ∧ j < p
    · rw [if_pos e2, if_pos (by omega)]
    · rw [if_neg e2, if_neg (by omega)]
theorem boolC_congr {c d : Nat → Bool} {n : Nat} (h : ∀ i, i < n → c i = d i) : boolC c n = boolC d n := by
  unfold boolC
  congr 1
  apply List.map_congr_left
  intro i hi
  rw [h i (List.mem_range.1 hi)]
theorem updR_true {c : Nat → Bool} {lo hi i : Nat} : updR c lo hi i = true ↔ c i = true ∨ (lo ≤ i ∧ i < hi) := by
  unfold updR
  by_cases h : lo ≤ i ∧ i < hi
  · rw [if_pos h]; exact ⟨fun _ => .inr h, fun _ => rfl⟩
  · rw [if_neg h]; exact ⟨.inl, fun h2 => h2.resolve_right h⟩

/-- All that the closure and the loops see. -/
structure RM (w : World) (base BC BR gx gy gc r : Nat) (F : Nat → Prop) (s : ByteArray) (a b N1 N2 : Nat) (c : Nat → Bool) (X : Rcv) : Prop where
  kc : w.cell? ⟨BC, 0, none⟩ = some (.slice (some ⟨gc, 0, none⟩) s.size s.size)
  kr : w.cell? ⟨BR, 0, none⟩ = some (.pointer (some ⟨r, 0, none⟩))
  px : PiecesAt w gx s a N1
  py : PiecesAt w gy s b N2
  row : w.heap[gc]? = some (.cells (boolC c s.size) 4 (0, 0))
  rcv : RcvAt w r F X
  part : PartO s (fun i => c i = true) X
  apart : ∀ k, F k → base ≤ k ∧ k ≠ BC ∧ k ≠ BR ∧ k ≠ gx ∧ k ≠ gy ∧ k ≠ gc
  gcs : gc ≠ BC ∧ gc ≠ BR ∧ gc ≠ gx ∧ gc ≠ gy ∧ base ≤ gc
theorem RM.lts {w : World} {base BC BR gx gy gc r : Nat} {F : Nat → Prop} {s : ByteArray} {a b N1 N2 : Nat} {c : Nat → Bool} {X : Rcv} (h : RM w base BC BR gx gy gc r F s a b N1 N2 c X) :
    BC < w.heap.size ∧ BR < w.heap.size ∧ gx < w.heap.size ∧ gy < w.heap.size ∧ gc < w.heap.size :=
  ⟨World.block_lt_of_cell? _ _ h.kc, World.block_lt_of_cell? _ _ h.kr, h.px.1, h.py.1, (Array.getElem?_eq_some_iff.1 h.row).1⟩
theorem RM.below {w w' : World} {base BC BR gx gy gc r : Nat} {F : Nat → Prop} {s : ByteArray} {a b N1 N2 : Nat} {c : Nat → Bool} {X : Rcv} (h : RM w base BC BR gx gy gc r F s a b N1 N2 c X) (hb : Below w.heap.size w w') : RM w' base BC BR gx gy gc r F s a b N1 N2 c X := by
  obtain ⟨l1, l2, l3, l4, l5⟩ := h.lts
  exact ⟨(hb.cell (p := ⟨BC, 0, none⟩) l1).trans h.kc, (hb.cell (p := ⟨BR, 0, none⟩) l2).trans h.kr, h.px.below hb, h.py.below hb, (hb.block gc l5).trans h.row, h.rcv.below hb, h.part, h.apart, h.gcs⟩
/-- A piece came. -/
theorem RM.came {w w1 w' : World} {base BC BR gx gy gc r : Nat} {F F' : Nat → Prop} {s : ByteArray} {a b N1 N2 z k : Nat} {c : Nat → Bool} {X : Rcv} (h : RM w base BC BR gx gy gc r F s a b N1 N2 c X) (hk : k * z < s.size) (h1 : But (fun j => j = gc) w w1)
    (hrow : w1.heap[gc]? = some (.cells (boolC (updR c (k * z) (k * z + z)) s.size) 4 (0, 0)))
    (hr : RcvAt w' r F' (tookR X s z k)) (hb : But F w1 w') (hF : ∀ k, F' k → F k ∨ w1.heap.size ≤ k) (hbase : base ≤ w.heap.size) : RM w' base BC BR gx gy gc r F' s a b N1 N2 (updR c (k * z) (k * z + z)) (tookR X s z k) := by
  obtain ⟨l1, l2, l3, l4, l5⟩ := h.lts
  have g := h.gcs
  have hB : But (fun j => F j ∨ j = gc) w w' := (h1.mono (fun _ h => .inr h)).trans (hb.mono (fun _ h => .inl h))
  have ap := h.apart
  have nn : ∀ j, (j = BC ∨ j = BR ∨ j = gx ∨ j = gy) → ¬ (F j ∨ j = gc) := fun j hj hx => by
    rcases hx with hx | hx
    · have := ap j hx; omega
    · omega
  refine ⟨(hB.cell (p := ⟨BC, 0, none⟩) l1 (nn _ (by simp))).trans h.kc, (hB.cell (p := ⟨BR, 0, none⟩) l2 (nn _ (by simp))).trans h.kr, h.px.but hB (nn _ (by simp)), h.py.but hB (nn _ (by simp)), ?_, hr, .inl ((h.part.took hk).congr (fun i _ => updR_true.symm)), fun j hj => ?_, h.gcs⟩
  · exact (hb.block gc (Nat.lt_of_lt_of_le l5 h1.size) (fun hx => (ap gc hx).2.2.2.2.2 rfl)).trans hrow
  · rcases hF j hj with hx | hx
    · exact ap j hx
    · have := h1.size
      have := hbase
      omega

set_option maxRecDepth 100000 in
set_option maxHeartbeats 4000000 in
theorem mix_any (w : World) (base BC BR gx gy gc r : Nat) (F : Nat → Prop) (s : ByteArray) (a b N1 N2 z k : Nat) (c : Nat → Bool) (X : Rcv) (h : RM w base BC BR gx gy gc r F s a b N1 N2 c X) (hk : k * z < s.size) (hz1 : 1 ≤ z) (hz2 : z ≤ 64) (hs1 : 1 ≤ s.size) (hs2 : s.size ≤ 500) (hbase : base ≤ w.heap.size) :
    Calls Tryd.prog 9 #[.agg #[.int .u32 (piece s z k).nm, .int .i64 (piece s z k).tot, .int .i64 (piece s z k).pos, .string (piece s z k).dat], .pointer (some ⟨BC, 0, none⟩), .pointer (some ⟨BR, 0, none⟩)] w fun e w' =>
      ∃ F', e = .returned (.bool true) ∧ RM w' base BC BR gx gy gc r F' s a b N1 N2 (updR c (k * z) (k * z + z)) (tookR X s z k) ∧ Below base w w' := by
  obtain ⟨T, t1, t2, t3, t4⟩ := piece_ok s z k hk (by omega) hz1 (by omega)
  have HW := Lib.hid (fun W => cwrite_ok (piece s z k) T W t4 (piece_right s z k hk (by omega) hz1 (by omega)) t1)
  have HT : Hid (T.size ≤ 300 ∧ creadF T.data.toList = (piece s z k, 0)) := Lib.hid ⟨t2, t3⟩
  have HA := Lib.hid (chkAt_new w (piece s z k))
  have HSZ := Lib.hid (piece_size s z k hk)
  unfold chkV at HW
  unfold chkAt at HA
  obtain ⟨p, hp⟩ : ∃ p, p = k * z := ⟨_, rfl⟩
  have hpos : (piece s z k).pos = (p : Int) := by rw [hp]; rfl
  obtain ⟨nm, hnm⟩ : ∃ n, n = (piece s z k).nm := ⟨_, rfl⟩
  obtain ⟨tot, htot⟩ : ∃ n, n = (piece s z k).tot := ⟨_, rfl⟩
  obtain ⟨D, hD⟩ : ∃ n, n = (piece s z k).dat := ⟨_, rfl⟩
  rw [hpos, ← hnm, ← htot, ← hD] at HW HA ⊢
  rw [← hD, ← hp] at HSZ
  have HP := Lib.hid hp
  have HH := Lib.hid h
  have HK := Lib.hid hk
  have HBS := Lib.hid hbase
  have HU : Hid (1 ≤ z ∧ z ≤ 64 ∧ p < s.size ∧ s.size ≤ 500) := Lib.hid ⟨hz1, hz2, by rw [hp]; exact hk, hs2⟩
  have HL : Hid (gc < w.heap.size ∧ BC < w.heap.size ∧ BR < w.heap.size) := Lib.hid ⟨h.lts.2.2.2.2, h.lts.1, h.lts.2.1⟩
  obtain ⟨q, hq⟩ : ∃ q, q = p + D.size := ⟨_, rfl⟩
  have hq1 : (p : Int) + (D.size : Int) = (q : Int) := by omega
  have HQ : Hid (p ≤ q ∧ q ≤ s.size ∧ q = min (p + z) s.size) := Lib.hid (by have := HSZ.out; have := HU.out; omega)
  have hq3 : IntKind.i64.wrap (q : Int) = (q : Int) := IntWalk.i64_in _ (by have := HQ.out; omega)
  have hq2 : IntKind.i64.wrap ((p : Int) + (D.size : Int)) = (q : Int) := by rw [hq1]; exact hq3
  have HB0 : Hid (Below w.heap.size w (w.alloc (.cells #[.int .u32 nm, .int .i64 tot, .int .i64 (p : Int), .string D] 34))) := Lib.hid ((Below.refl _ _).alloc (Nat.le_refl _) _)
  have HZ0 : Hid (w.heap.size < (w.alloc (.cells #[.int .u32 nm, .int .i64 tot, .int .i64 (p : Int), .string D] 34)).heap.size) := Lib.hid (by simp)
  obtain ⟨c0, c1, c2, c3⟩ := HA.out
  clear h hk t1 t2 t3 t4 hz1 hz2 hs1 hs2 hbase hp hpos hnm htot hD hq HSZ
  go_enter Tryd.func9, Tryd.ntmps9
  go_wp2_with fail
  generalize w.alloc (.cells #[.int .u32 nm, .int .i64 tot, .int .i64 (p : Int), .string D] 34) = W at HA HB0 HZ0 c0 c1 c2 c3 ⊢
  refine (HW.out _).mono ?_
  rintro e w1 ⟨rfl, hb1⟩
  have HC : Hid (w1.cell? ⟨w.heap.size, 2, none⟩ = some (.int .i64 (p : Int)) ∧ w1.cell? ⟨w.heap.size, 3, none⟩ = some (.string D)) := Lib.hid ⟨(hb1.cell (p := ⟨w.heap.size, 2, none⟩) HZ0.out).trans c2, (hb1.cell (p := ⟨w.heap.size, 3, none⟩) HZ0.out).trans c3⟩
  have HB1 : Hid (Below w.heap.size w w1) := Lib.hid (HB0.out.trans (hb1.mono HB0.out.size))
  have HH1 := Lib.hid (HH.out.below HB1.out)
  have HWL : Hid (w.heap.size < w1.heap.size) := Lib.hid (Nat.lt_of_lt_of_le HZ0.out hb1.size)
  clear c0 c1 c2 c3 hb1 HA HB0 HZ0 W
  obtain ⟨c2, c3⟩ := HC.out
  go_wp2_with fail
  clear c2 c3
  go_loopw [7] (fun kv wr => ∃ i : Nat, p ≤ i ∧ i ≤ q ∧ kv = .int .i64 i ∧ But (fun j => j = gc) w1 wr ∧ wr.heap[gc]? = some (.cells (boolC (updR c p i) s.size) 4 (0, 0))) (fun kv _ => q - (RowKit.intOf kv).toNat)
  case atStart => exact ⟨p, Nat.le_refl _, HQ.out.1, rfl, But.refl _ _, by rw [updR_none]; exact HH1.out.row⟩
  case round =>
    rename_i wr
    obtain ⟨i, hi1, hi2, rfl, hbu, hrow⟩ := hrel
    have HBU := Lib.hid hbu
    have HROW := Lib.hid hrow
    have c2 := (hbu.cell (p := ⟨w.heap.size, 2, none⟩) HWL.out (fun e => absurd e (by have := HL.out; show ¬ w.heap.size = gc; omega))).trans HC.out.1
    have c3 := (hbu.cell (p := ⟨w.heap.size, 3, none⟩) HWL.out (fun e => absurd e (by have := HL.out; show ¬ w.heap.size = gc; omega))).trans HC.out.2
    have kc := (hbu.cell (p := ⟨BC, 0, none⟩) HH1.out.lts.1 (fun e => HH1.out.gcs.1 e.symm)).trans HH1.out.kc
    have kr := (hbu.cell (p := ⟨BR, 0, none⟩) HH1.out.lts.2.1 (fun e => HH1.out.gcs.2.1 e.symm)).trans HH1.out.kr
    clear hbu hrow
    by_cases hgo : i < q
    · have hk1 : (i : Int) < (q : Int) := by omega
      have his : i < s.size := by have := HQ.out; omega
      have hi5 : i < 501 := by have := HU.out; omega
      have hk2 : (i : Int) < (s.size : Int) := by omega
      have fg : wr.frozen? ⟨gc, i, none⟩ = false := Lib.frozen_of_heap HROW.out i
      have kg : wr.cell? ⟨gc, i, none⟩ = some (.bool (updR c p i i)) := (cell_of_row _ _ _ _ _ _ HROW.out).trans (boolC_at _ his)
      go_wp2_with fail
      go_roundw
      · refine ⟨i + 1, by omega, by omega, by go_num, HBU.out.setCell (p := ⟨gc, i, none⟩) (.inl rfl) _, ?_⟩
        rw [heap_setCell_same _ _ _ _ _ _ HROW.out, boolC_set _ his, updR_next c hi1]
      · simp [RowKit.intOf]; omega
    · have hk1 : ¬ (i : Int) < (q : Int) := by omega
      have hiq : i = q := by omega
      subst hiq
      have HRW : Hid (wr.heap[gc]? = some (.cells (boolC (updR c (k * z) (k * z + z)) s.size) 4 (0, 0))) := Lib.hid (by
        rw [HROW.out, ← HP.out, boolC_congr (c := updR c p i) (d := updR c p (p + z)) (fun j hj => by
          have := HQ.out
          unfold updR
          by_cases h1 : p ≤ j ∧ j < i
          · rw [if_pos h1, if_pos (by omega)]
          · rw [if_neg h1, if_neg (by omega)])])
      have HR2 : Hid (RcvAt wr r F X) := Lib.hid (HH1.out.rcv.but HBU.out (fun k hk e => (HH1.out.apart k hk).2.2.2.2.2 e))
      go_wp2_with fail
      refine (tookAt r F X s T _ z k wr HR2.out HH.out.part HK.out HT.out.1 HT.out.2).mono ?_
      rintro e w3 ⟨F', rfl, hr, hb, hF⟩
      have HA3 := Lib.hid (HH1.out.came HK.out HBU.out HRW.out hr hb hF (Nat.le_trans HBS.out HB1.out.size))
      have HB3 : Hid (Below base w w3) := Lib.hid (by
        have b1 : Below base w wr := But.on (HB1.out.mono HBS.out) HBU.out (Nat.le_trans HBS.out HB1.out.size) (fun j hj => by rw [hj]; exact HH1.out.gcs.2.2.2.2)
        exact But.on b1 hb (Nat.le_trans HBS.out b1.size) (fun j hj => (HH1.out.apart j hj).1))
      clear hr hb hF
      go_wp2_with fail
      go_ret
      exact ⟨F', rfl, HA3.out, HB3.out⟩
end Go.Proofs.YtjnbnkaocoamlabDoor
