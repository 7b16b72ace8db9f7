/-
  The contracts of (*recv.Receiver).begin, recv.New, (*recv.Receiver).Offer, Safe.
-/
import Derived.Test.YtjnbnkaocoamlabDoorRcvPut
namespace Go.Proofs.YtjnbnkaocoamlabDoor
open Go.RowKit

theorem info_u8r : (Tryd.prog.info? 5).map (fun i => (i.zero, i.size, i.bytes)) = some (some (.int .u8 0), 1, 1) := by kernel_rfl
theorem info_boolr : (Tryd.prog.info? 4).map (fun i => (i.zero, i.size, i.bytes)) = some (some (.bool false), 1, 1) := by kernel_rfl
theorem rmake_u8 (w : World) (t : Nat) (ht : t ≤ 4096) :
    (Instr.makeSlice 53 (.int .i64 (t : Int)) (.int .i64 (t : Int))).run Tryd.prog w = .ok (.slice (some ⟨w.heap.size, 0, none⟩) t t) (w.alloc (.cells (dataC (fun _ => none) t) 5)) := by
  cases hq : Tryd.prog.info? 5 with
  | none => have := info_u8r; rw [hq] at this; cases this
  | some i0 =>
    have h3 := info_u8r
    rw [hq] at h3
    simp only [Option.map_some, Option.some.injEq, Prod.mk.injEq] at h3
    obtain ⟨hz0, hz1, hz2⟩ := h3
    have h := run_makeSlice (P := Tryd.prog) w 53 5 i0 (.int .u8 0) Tryd.underlying53 hq hz0 .i64 .i64 (t : Int) (t : Int) (by omega) (Int.le_refl _) (by rw [hz1]; omega) (by rw [hz2]; omega) (by omega)
    have e : madeCells (Value.int .u8 0).cells (t * 1) = dataC (fun _ => none) t := by
      show madeCells #[.int .u8 0] (t * 1) = _
      apply Array.ext_getElem?
      intro i
      by_cases hi : i < t
      · rw [dataC_at _ hi]; simp [madeCells, hi, Nat.mod_one]
      · rw [Array.getElem?_eq_none (by rw [size_madeCells]; omega), Array.getElem?_eq_none (by rw [dataC_size]; omega)]
    rw [h, hz1, Int.toNat_natCast, e]
theorem rmake_bool (w : World) (t : Nat) (ht : t ≤ 4096) :
    (Instr.makeSlice 22 (.int .i64 (t : Int)) (.int .i64 (t : Int))).run Tryd.prog w = .ok (.slice (some ⟨w.heap.size, 0, none⟩) t t) (w.alloc (.cells (thereC (fun _ => none) t) 4)) := by
  cases hq : Tryd.prog.info? 4 with
  | none => have := info_boolr; rw [hq] at this; cases this
  | some i0 =>
    have h3 := info_boolr
    rw [hq] at h3
    simp only [Option.map_some, Option.some.injEq, Prod.mk.injEq] at h3
    obtain ⟨hz0, hz1, hz2⟩ := h3
    have h := run_makeSlice (P := Tryd.prog) w 22 4 i0 (.bool false) Tryd.underlying22 hq hz0 .i64 .i64 (t : Int) (t : Int) (by omega) (Int.le_refl _) (by rw [hz1]; omega) (by rw [hz2]; omega) (by omega)
    have e : madeCells (Value.bool false).cells (t * 1) = thereC (fun _ => none) t := by
      show madeCells #[.bool false] (t * 1) = _
      apply Array.ext_getElem?
      intro i
      by_cases hi : i < t
      · rw [thereC_at _ hi]; simp [madeCells, hi, Nat.mod_one]
      · rw [Array.getElem?_eq_none (by rw [size_madeCells]; omega), Array.getElem?_eq_none (by rw [thereC_size]; omega)]
    rw [h, hz1, Int.toNat_natCast, e]
/-- A receiver that is told what there is to come. -/
def rBegin (X : Rcv) (nm t : Nat) : Rcv := { X with nm := nm, tot := t, came := fun _ => none }

set_option maxRecDepth 100000 in
set_option maxHeartbeats 2000000 in
theorem begin_any (r d L M DB TB : Nat) (vd vt : Value) (X : Rcv) (nm t : Nat) (w : World) (h : RcvIn w r d L M DB TB vd vt X) (hn : nm < 4294967296) (h0 : 0 < t) (ht : t ≤ 4096) :
    Calls Tryd.prog 25 #[.pointer (some ⟨r, 0, none⟩), .int .u32 (nm : Int), .int .i64 (t : Int)] w fun e w' => ∃ DB2 TB2 vd2 vt2,
      e = .returned (.tuple #[]) ∧ RcvIn w' r d L M DB2 TB2 vd2 vt2 (rBegin X nm t) ∧ But (fun k => k = r) w w' ∧ w.heap.size ≤ DB2 ∧ w.heap.size ≤ TB2 := by
  have HH := Lib.hid h
  have hrow := h.row
  have HM1 := Lib.hid (fun W => rmake_u8 W t ht)
  have HM2 := Lib.hid (fun W => rmake_bool W t ht)
  have c1 := h.c1
  have f1 : w.frozen? ⟨r, 1, none⟩ = false := Lib.frozen_of_heap hrow 1
  have HR := Lib.hid hrow
  clear h hrow
  go_enter Tryd.func25, Tryd.ntmps25
  go_wp2_with fail
  have HR1 : Hid ((w.setCell ⟨r, 1, none⟩ (.int .u32 (nm : Int))).heap[r]? = some (.cells #[.pointer (some ⟨d, 0, none⟩), .int .u32 (nm : Int), vd, vt, .int .i64 X.saved, .int .i64 X.safe, .int .u64 X.marks] 56 (0, 0))) := Lib.hid (heap_setCell_same _ _ _ _ _ _ HR.out)
  have HB1 : Hid (But (fun k => k = r) w (w.setCell ⟨r, 1, none⟩ (.int .u32 (nm : Int)))) := Lib.hid (But.setCell (F := fun k => k = r) (But.refl _ _) (p := ⟨r, 1, none⟩) (.inl rfl) _)
  generalize w.setCell ⟨r, 1, none⟩ (.int .u32 (nm : Int)) = w1 at HR1 HB1 ⊢
  have hmk := HM1.out w1
  have HR2 : Hid ((w1.alloc (.cells (dataC (fun _ => none) t) 5)).heap[r]? = some (.cells #[.pointer (some ⟨d, 0, none⟩), .int .u32 (nm : Int), vd, vt, .int .i64 X.saved, .int .i64 X.safe, .int .u64 X.marks] 56 (0, 0))) := Lib.hid ((Below.heap_alloc _ _ _ (Array.getElem?_eq_some_iff.1 HR1.out).1).trans HR1.out)
  have HD2 : Hid ((w1.alloc (.cells (dataC (fun _ => none) t) 5)).heap[w1.heap.size]? = some (.cells (dataC (fun _ => none) t) 5 (0, 0))) := Lib.hid (heap_alloc_new w1 _)
  have HB2 := Lib.hid (HB1.out.alloc (.cells (dataC (fun _ => none) t) 5))
  have HS1 : Hid (w.heap.size ≤ w1.heap.size) := Lib.hid HB1.out.size
  have HRS : Hid (r < w1.heap.size) := Lib.hid (Array.getElem?_eq_some_iff.1 HR1.out).1
  have g2 : ∃ u, (w1.alloc (.cells (dataC (fun _ => none) t) 5)).cell? ⟨r, 2, none⟩ = some u := ⟨_, (cell_of_row _ _ 2 _ _ _ HR2.out).trans rfl⟩
  obtain ⟨u2, g2⟩ := g2
  have f2 : (w1.alloc (.cells (dataC (fun _ => none) t) 5)).frozen? ⟨r, 2, none⟩ = false := Lib.frozen_of_heap HR2.out 2
  go_wp2_with fail
  have HR3 : Hid (((w1.alloc (.cells (dataC (fun _ => none) t) 5)).setCell ⟨r, 2, none⟩ (.slice (some ⟨w1.heap.size, 0, none⟩) t t)).heap[r]? = some (.cells #[.pointer (some ⟨d, 0, none⟩), .int .u32 (nm : Int), .slice (some ⟨w1.heap.size, 0, none⟩) t t, vt, .int .i64 X.saved, .int .i64 X.safe, .int .u64 X.marks] 56 (0, 0))) := Lib.hid (heap_setCell_same _ _ _ _ _ _ HR2.out)
  have HD3 : Hid (((w1.alloc (.cells (dataC (fun _ => none) t) 5)).setCell ⟨r, 2, none⟩ (.slice (some ⟨w1.heap.size, 0, none⟩) t t)).heap[w1.heap.size]? = some (.cells (dataC (fun _ => none) t) 5 (0, 0))) := Lib.hid ((heap_setCell_other _ _ _ _ (by have := HRS.out; show w1.heap.size ≠ r; omega)).trans HD2.out)
  have HB3 := Lib.hid (HB2.out.setCell (p := ⟨r, 2, none⟩) (.inl rfl) (.slice (some ⟨w1.heap.size, 0, none⟩) t t))
  generalize (w1.alloc (.cells (dataC (fun _ => none) t) 5)).setCell ⟨r, 2, none⟩ (.slice (some ⟨w1.heap.size, 0, none⟩) t t) = w3 at HR3 HD3 HB3 ⊢
  generalize w1.heap.size = D2 at HR3 HD3 HS1 HRS ⊢
  clear HR1 HB1 HR2 HD2 HB2 g2 f2 hmk
  have hmk := HM2.out w3
  have HR4 : Hid ((w3.alloc (.cells (thereC (fun _ => none) t) 4)).heap[r]? = some (.cells #[.pointer (some ⟨d, 0, none⟩), .int .u32 (nm : Int), .slice (some ⟨D2, 0, none⟩) t t, vt, .int .i64 X.saved, .int .i64 X.safe, .int .u64 X.marks] 56 (0, 0))) := Lib.hid ((Below.heap_alloc _ _ _ (Array.getElem?_eq_some_iff.1 HR3.out).1).trans HR3.out)
  have HD4 : Hid ((w3.alloc (.cells (thereC (fun _ => none) t) 4)).heap[D2]? = some (.cells (dataC (fun _ => none) t) 5 (0, 0))) := Lib.hid ((Below.heap_alloc _ _ _ (Array.getElem?_eq_some_iff.1 HD3.out).1).trans HD3.out)
  have HT4 : Hid ((w3.alloc (.cells (thereC (fun _ => none) t) 4)).heap[w3.heap.size]? = some (.cells (thereC (fun _ => none) t) 4 (0, 0))) := Lib.hid (heap_alloc_new w3 _)
  have HB4 := Lib.hid (HB3.out.alloc (.cells (thereC (fun _ => none) t) 4))
  have HS3 : Hid (w.heap.size ≤ w3.heap.size ∧ D2 < w3.heap.size ∧ r < w3.heap.size) := Lib.hid ⟨HB3.out.size, (Array.getElem?_eq_some_iff.1 HD3.out).1, (Array.getElem?_eq_some_iff.1 HR3.out).1⟩
  obtain ⟨u3, g3⟩ : ∃ u, (w3.alloc (.cells (thereC (fun _ => none) t) 4)).cell? ⟨r, 3, none⟩ = some u := ⟨_, (cell_of_row _ _ 3 _ _ _ HR4.out).trans rfl⟩
  have f3 : (w3.alloc (.cells (thereC (fun _ => none) t) 4)).frozen? ⟨r, 3, none⟩ = false := Lib.frozen_of_heap HR4.out 3
  go_wp2_with fail
  refine bodyPost_end (results_none rfl _ _ _) rfl ?_
  have hB5 := HB4.out.setCell (p := ⟨r, 3, none⟩) (.inl rfl) (.slice (some ⟨w3.heap.size, 0, none⟩) t t)
  have hk := HS3.out
  have hx := HH.out
  have l1 := hx.dsk.ld
  have l2 := hx.dsk.lL
  have l3 := hx.dsk.lM
  have l4 := HS1.out
  refine ⟨D2, w3.heap.size, _, _, rfl, ⟨(heap_setCell_same _ _ _ _ _ _ HR4.out).trans rfl, hx.dsk.but hB5 (fun e => hx.rd e.symm) (fun e => hx.rL e.symm) (fun e => hx.rM e.symm), hx.n140, fun _ _ => rfl, .inr ⟨h0, rfl, rfl, ?_, ?_, by omega, by have := HRS.out; omega, by omega, by omega, by omega, by omega, by omega, by omega, by omega⟩, ht, hn, hx.rd, hx.rL, hx.rM⟩, hB5, l4, hk.1⟩
  · exact (heap_setCell_other _ _ _ _ (by have := HRS.out; show D2 ≠ r; omega)).trans HD4.out
  · exact (heap_setCell_other _ _ _ _ (by show w3.heap.size ≠ r; omega)).trans HT4.out

set_option maxRecDepth 100000 in
theorem rnew_any (w : World) :
    Calls Tryd.prog 8 #[] w fun e w' => ∃ r F, e = .returned (.pointer (some ⟨r, 0, none⟩)) ∧ RcvAt w' r F rNew ∧ Below w.heap.size w w' ∧ ∀ k, F k → w.heap.size ≤ k := by
  go_enter Tryd.func8, Tryd.ntmps8
  go_wp2_with fail
  refine (new_good 140 w (by decide)).mono ?_
  rintro e w1 ⟨d, L, M, rfl, hD, hB, hd, hL, hM⟩
  have HD := Lib.hid hD
  have HB := Lib.hid hB
  have HG : Hid (w.heap.size ≤ d ∧ w.heap.size ≤ L ∧ w.heap.size ≤ M) := Lib.hid ⟨hd, hL, hM⟩
  clear hD hB hd hL hM
  go_wp2_with fail
  go_ret
  have hD := HD.out
  have l1 := hD.ld
  have l2 := hD.lL
  have l3 := hD.lM
  have l4 := HB.out.size
  have l5 := HG.out
  refine ⟨w1.heap.size, fun k => k = w1.heap.size ∨ k = d ∨ k = L ∨ k = M, rfl, ⟨d, L, M, 0, 0, _, _, ⟨(heap_alloc_new w1 _).trans rfl, hD.alloc _, rfl, fun _ _ => rfl, .inl ⟨rfl, rfl, rfl⟩, by decide, by decide, by omega, by omega, by omega⟩, .inl rfl, .inr (.inl rfl), .inr (.inr (.inl rfl)), .inr (.inr (.inr rfl)), fun h => absurd h (by decide), fun k hk => ?_⟩, HB.out.alloc HB.out.size _, fun k hk => ?_⟩
  · have e : w1.heap.size < (w1.alloc (.cells #[.pointer (some ⟨d, 0, none⟩), .int .u32 0, .slice none 0 0, .slice none 0 0, .int .i64 0, .int .i64 0, .int .u64 0] 56)).heap.size := (Array.getElem?_eq_some_iff.1 (heap_alloc_new w1 _)).1
    rcases hk with h | h | h | h <;> omega
  · rcases hk with h | h | h | h <;> omega

set_option maxRecDepth 100000 in
set_option maxHeartbeats 2000000 in
theorem idxb_any (B n c : Nat) (f : Nat → Option UInt8) (w : World) (h : w.heap[B]? = some (.cells (thereC f n) 4 (0, 0))) (hn : n ≤ 4096) :
    Calls Tryd.prog 27 #[.slice (some ⟨B, 0, none⟩) n c, .bool false] w fun e w' => ((∃ k : Nat, k < n ∧ e = .returned (.int .i64 (k : Int)) ∧ (∀ j, j < k → (f j).isSome = true) ∧ f k = none) ∨ (e = .returned (.int .i64 (-1)) ∧ ∀ j, j < n → (f j).isSome = true)) ∧ w' = w := by
  have HB := Lib.hid h
  clear h
  go_enter Tryd.func27, Tryd.ntmps27
  go_wp2
  go_loopw [8] (fun i wr => ∃ k : Nat, k ≤ n ∧ i = .int .i64 k ∧ (∀ j, j < k → (f j).isSome = true) ∧ wr = w) (fun i _ => n - (RowKit.intOf i).toNat)
  case atStart => exact ⟨0, by omega, rfl, fun j h => by omega, rfl⟩
  case round =>
    obtain ⟨k, hk, rfl, hall, rfl⟩ := hrel
    have HALL := Lib.hid hall
    clear hall
    by_cases hlt : k < n
    · have hc : wr.cell? ⟨B, k, none⟩ = some (.bool (f k).isSome) := (cell_of_row _ _ _ _ _ _ HB.out).trans (thereC_at f hlt)
      cases hs : f k with
      | none =>
        have HS := Lib.hid hs
        rw [hs] at hc
        clear hs
        have hc2 : wr.cell? ⟨B, k, none⟩ = some (.bool false) := hc
        clear hc
        go_wp2
        go_ret
        exact ⟨.inl ⟨k, hlt, rfl, HALL.out, HS.out⟩, rfl⟩
      | some b =>
        have HS := Lib.hid hs
        rw [hs] at hc
        clear hs
        have hc2 : wr.cell? ⟨B, k, none⟩ = some (.bool true) := hc
        clear hc
        go_wp2
        go_roundw
        · refine ⟨k + 1, by omega, by go_num, fun j hj => ?_, by trivial⟩
          by_cases e : j = k
          · rw [e, HS.out]; rfl
          · exact HALL.out j (by omega)
        · simp [RowKit.intOf]; omega
    · obtain rfl : k = n := by omega
      go_wp2
      go_ret
      exact ⟨.inr ⟨rfl, HALL.out⟩, rfl⟩
set_option maxRecDepth 100000 in
theorem idxb_nil (w : World) :
    Calls Tryd.prog 27 #[.slice none 0 0, .bool false] w fun e w' => e = .returned (.int .i64 (-1)) ∧ w' = w := by
  go_enter Tryd.func27, Tryd.ntmps27
  go_wp2
  refine wp_loop_rounds 1 ?_
  rw [rounds_succ]
  go_wp2
  go_ret
  exact ⟨rfl, rfl⟩
theorem offR_all {X : Rcv} (h : ∀ j, j < X.tot → (X.came j).isSome = true) (hn : ∀ i, X.tot ≤ i → X.came i = none) : offR X = X.tot := off_is h (hn _ (Nat.le_refl _)) (by omega)
theorem offR_gap {X : Rcv} {k : Nat} (h : ∀ j, j < k → (X.came j).isSome = true) (hn : X.came k = none) (hk : k < X.tot) : offR X = k := off_is h hn (by omega)
theorem offR_le {X : Rcv} (hn : ∀ i, X.tot ≤ i → X.came i = none) : offR X ≤ X.tot := by
  have := (offF_spec X.came (X.tot + 1) 0).2.2.1
  rcases Nat.lt_or_ge X.tot (offR X) with h | h
  · have h2 := this X.tot (Nat.zero_le _) h
    rw [hn _ (Nat.le_refl _)] at h2
    cases h2
  · exact h
set_option maxRecDepth 100000 in
set_option maxHeartbeats 2000000 in
theorem offer_any (r d L M DB TB : Nat) (vd vt : Value) (X : Rcv) (w : World) (h : RcvIn w r d L M DB TB vd vt X) :
    Calls Tryd.prog 12 #[.pointer (some ⟨r, 0, none⟩)] w fun e w' => e = .returned (.int .i64 (offR X : Int)) ∧ w' = w := by
  have c3 := h.c3
  have HNN := Lib.hid h.none_
  have HT := Lib.hid h.tot
  rcases h.rows with ⟨h0, _, rfl⟩ | ⟨h0, _, rfl, _, h4, _⟩
  · have HO : Hid (offR X = 0) := Lib.hid (by rw [offR_all (fun j hj => by omega) h.none_, h0])
    rw [HO.out]
    clear h
    go_enter Tryd.func12, Tryd.ntmps12
    go_wp2_with fail
    refine (idxb_nil w).mono ?_
    rintro e w' ⟨rfl, rfl⟩
    go_wp2_with fail
    go_ret
    exact ⟨rfl, rfl⟩
  · have H4 := Lib.hid h4
    clear h h4
    go_enter Tryd.func12, Tryd.ntmps12
    go_wp2_with fail
    refine (idxb_any TB X.tot X.tot X.came w H4.out HT.out).mono ?_
    rintro e w' ⟨⟨k, hk, rfl, h1, h2⟩ | ⟨rfl, h1⟩, rfl⟩
    · have HO : Hid (offR X = k) := Lib.hid (offR_gap h1 h2 hk)
      clear h1 h2
      have hk0 : (0 : Int) ≤ (k : Int) := by omega
      go_wp2_with fail
      go_ret
      exact ⟨by rw [HO.out]; rfl, rfl⟩
    · have HO : Hid (offR X = X.tot) := Lib.hid (offR_all h1 HNN.out)
      clear h1
      go_wp2_with fail
      go_ret
      exact ⟨by rw [HO.out]; rfl, rfl⟩
set_option maxRecDepth 100000 in
theorem safe_any (r d L M DB TB : Nat) (vd vt : Value) (X : Rcv) (w : World) (h : RcvIn w r d L M DB TB vd vt X) :
    Calls Tryd.prog 15 #[.pointer (some ⟨r, 0, none⟩)] w fun e w' => e = .returned (.int .i64 (X.safe : Int)) ∧ w' = w := by
  have c5 := h.c5
  clear h
  go_enter Tryd.func15, Tryd.ntmps15
  go_wp2
  go_ret
  exact ⟨rfl, rfl⟩
end Go.Proofs.YtjnbnkaocoamlabDoor
