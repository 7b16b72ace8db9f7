/-
  The contracts of (*disk.Disk).Crash, Sync.
-/
import Derived.Test.YtjnbnkaocoamlaaDskDirty
import Derived.Test.YtjnbnkaocoamlaaDskWrite
import Derived.Laws.Bits64b
namespace Go.Proofs.Ytjnbnkaocoamlaa
open Go.RowKit

/-- Whether a sector that was written lasts, as far as the first k of them go. -/
def lastK (X : Dsk) (mask k i : Nat) : Bool := decide ((dirtyL X).idxOf i < k) && bitD mask ((dirtyL X).idxOf i)
/-- The disk when the first k of the sectors that were written have been gone through. -/
def dGone (X : Dsk) (mask k : Nat) : Dsk := { X with saf := fun i => if lastK X mask k i = true then X.cur i else X.saf i }
theorem dGone_zero (X : Dsk) (mask : Nat) : dGone X mask 0 = X := by
  unfold dGone lastK
  simp
theorem idx_at {X : Dsk} {k i : Nat} (h : (dirtyL X)[k]? = some i) : (dirtyL X).idxOf i = k := by
  obtain ⟨hk, rfl⟩ := List.getElem?_eq_some_iff.1 h
  exact (dirtyL_nodup X).idxOf_getElem k hk
theorem idx_eq {X : Dsk} {k i j : Nat} (h : (dirtyL X)[k]? = some i) (hj : (dirtyL X).idxOf j = k) : j = i := by
  obtain ⟨hk, rfl⟩ := List.getElem?_eq_some_iff.1 h
  have hl : (dirtyL X).idxOf j < (dirtyL X).length := by omega
  have := List.getElem_idxOf hl
  rw [← this]
  congr 1
theorem lastK_succ {X : Dsk} {mask k i : Nat} (h : (dirtyL X)[k]? = some i) (j : Nat) : lastK X mask (k + 1) j = if j = i then bitD mask k else lastK X mask k j := by
  unfold lastK
  by_cases e : j = i
  · subst e; rw [if_pos rfl, idx_at h]; simp
  · rw [if_neg e]
    have : (dirtyL X).idxOf j ≠ k := fun hk => e (idx_eq h hk)
    by_cases h1 : (dirtyL X).idxOf j < k
    · simp [h1, show (dirtyL X).idxOf j < k + 1 by omega]
    · simp [h1, show ¬ (dirtyL X).idxOf j < k + 1 by omega]
theorem dGone_no {X : Dsk} {mask k i : Nat} (h : (dirtyL X)[k]? = some i) (hb : bitD mask k = false) : dGone X mask (k + 1) = dGone X mask k := by
  unfold dGone
  congr 1
  funext j
  rw [lastK_succ h]
  by_cases e : j = i
  · subst e; rw [if_pos rfl, hb]
    have : lastK X mask k j = false := by unfold lastK; rw [idx_at h]; simp
    rw [this]
  · rw [if_neg e]
theorem dGone_yes {X : Dsk} {mask k i : Nat} (h : (dirtyL X)[k]? = some i) (hb : bitD mask k = true) (j : Nat) : (dGone X mask (k + 1)).saf j = if j = i then X.cur i else (dGone X mask k).saf j := by
  unfold dGone
  simp only
  rw [lastK_succ h]
  by_cases e : j = i
  · subst e; rw [if_pos rfl, if_pos hb, if_pos rfl]
  · rw [if_neg e, if_neg e]
theorem dGone_all {X : Dsk} (h : DskOk X) (mask i : Nat) (hi : i < X.n) : (dGone X mask (dirtyL X).length).saf i = crashC X mask i := by
  unfold dGone crashC lastsD lastK
  simp only
  by_cases hd : X.dir i = true
  · have hm : i ∈ dirtyL X := dirtyL_mem.2 ⟨hi, hd⟩
    have hl := List.idxOf_lt_length_of_mem hm
    cases hb : bitD mask ((dirtyL X).idxOf i) <;> simp [hl, hd]
  · have hd' : X.dir i = false := by simpa using hd
    have hm : ¬ i ∈ dirtyL X := fun h => hd (dirtyL_mem.1 h).2
    have hl : (dirtyL X).idxOf i = (dirtyL X).length := List.idxOf_eq_length hm
    rw [hl, hd']
    simp
    exact (h.same i hi hd').symm
theorem dGone_ok {X : Dsk} (h : DskOk X) (mask k : Nat) : DskOk (dGone X mask k) := by
  refine ⟨fun i hi hd => ?_, h.len, fun i hi => ?_⟩
  · show X.cur i = if lastK X mask k i = true then X.cur i else X.saf i
    split
    · rfl
    · exact h.same i hi hd
  · show (if lastK X mask k i = true then X.cur i else X.saf i).length = 32
    split
    · exact h.len i hi
    · exact h.lens i hi
theorem but_setCells {F : Nat → Prop} (b : Nat) (hF : F b) : ∀ (vs : List Value) (o : Nat) (w0 w : World), But F w0 w → But F w0 (w.setCells b o vs)
  | [], _, _, _, h => h
  | v :: r, o, w0, _, h => but_setCells b hF r (o + 1) w0 _ (h.setCell (p := ⟨b, o, none⟩) (.inl hF) v)
/-- A sector is made to last. -/
theorem DskIn.last {w : World} {d L M : Nat} {X : Dsk} {mask k i : Nat} (h : DskIn w d L M (dGone X mask k)) (hok : DskOk X) (hk : (dirtyL X)[k]? = some i) (hb : bitD mask k = true) :
    DskIn (w.setCells L (i * 32) (secL (X.cur i))) d L M (dGone X mask (k + 1)) ∧ But (dF L M) w (w.setCells L (i * 32) (secL (X.cur i))) := by
  have hB : But (fun b => b = L) w (w.setCells L (i * 32) (secL (X.cur i))) := but_setCells (F := fun b => b = L) L rfl _ _ _ _ (But.refl _ _)
  have hi : i < X.n := (dirtyL_mem.1 (List.mem_of_getElem? hk)).1
  have ht := h.there i hi
  refine ⟨⟨?_, fun j hj => ?_, fun j hj => World.there_setCells (h.there j hj) _ _ _, ?_, dGone_ok hok _ _, h.n140, Nat.lt_of_lt_of_le h.lL hB.size, h.dL, h.dM, h.LM⟩, hB.mono (fun b e => .inl e)⟩
  · exact (hB.block d h.ld h.dL).trans h.row
  · rw [dGone_yes hk hb]
    by_cases e : j = i
    · subst e
      rw [if_pos rfl]
      exact World.rangeAt_setCells_same _ _ _ _ (by rw [secL_len]; exact ht)
    · rw [if_neg e]
      exact World.rangeAt_setCells_apart (h.cells j hj) _ _ _ (by rw [secL_len, secL_len]; omega)
  · obtain ⟨D, h1, h2⟩ := h.map
    exact ⟨D, ⟨h1.isMap, h1.has, h1.at'⟩, ownsMap_but h2 (hB.block M h.lM (fun e => h.LM e.symm))⟩
/-- Nothing is written any more. -/
theorem DskIn.clean {w w' : World} {d L M : Nat} {X : Dsk} {mask : Nat} (h : DskIn w d L M (dGone X mask (dirtyL X).length)) (hok : DskOk X) (hm : w'.ownsMap Try.prog 3 secR M 140 (.map [])) (ht : w.mapTurned w' M) :
    DskIn w' d L M (dCrash X mask) ∧ But (dF L M) w w' := by
  have hg := ht.grown
  have bd := hg.block d h.ld (fun e => h.dM (Option.some.inj e))
  have bL := hg.block L h.lL (fun e => h.LM (Option.some.inj e))
  refine ⟨⟨bd.trans h.row, fun i hi => ?_, fun i hi => there_of_block bL (h.there i hi), ⟨_, dskD_nil (fun _ => rfl), hm⟩, dCrash_ok hok mask, h.n140, Nat.lt_of_lt_of_le h.lL hg.size, h.dL, h.dM, h.LM⟩, but_grown hg⟩
  have := range_of_block bL (h.cells i hi)
  rw [dGone_all hok mask i hi] at this
  exact this
theorem sec_run (w : World) (M : Nat) (D : DataW Value) (X : Dsk) (hD : DskD D X) (hown : w.ownsMap Try.prog 3 secR M 140 D) (i : Nat) (hi : i ∈ dirtyL X) (h140 : X.n ≤ 140) :
    (Instr.lookup 63 (.map (some M)) (.int .i64 (i : Int)) false).run Try.prog w = .ok (secV (X.cur i)) w := by
  obtain ⟨hn, hd⟩ := dirtyL_mem.1 hi
  obtain ⟨v, ps, hrun, hv⟩ := hown.lookup keyedI Try.underlying63 (zeroSec w) (secR_mk []) (keyIn i (by omega))
  rw [hrun]
  rw [hD.at', dirB_nat X i hn, Int.toNat_natCast, if_pos hd] at hv
  obtain ⟨_, h2⟩ := secR_inv hv
  rw [DataW.held.inj h2]

theorem bit_spell (mask k : Nat) (h : mask < 18446744073709551616) : (bits .and .u64 ((mask : Int) / 2 ^ (min (k : Int) 63).toNat) 1 == 1) = bitD mask k := by
  have e : (min (k : Int) 63).toNat = min k 63 := by omega
  have e2 : (mask : Int) / 2 ^ (min k 63) = ((mask / 2 ^ (min k 63) : Nat) : Int) := by norm_cast
  have h2 : mask / 2 ^ (min k 63) < 18446744073709551616 := Nat.lt_of_le_of_lt (Nat.div_le_self _ _) h
  have e3 := bits_and_u64_nat (mask / 2 ^ (min k 63)) 1 h2 (by decide)
  rw [e, e2]
  rw [show ((1 : Int)) = ((1 : Nat) : Int) from rfl, e3, Nat.and_one_is_mod]
  unfold bitD
  by_cases hx : mask / 2 ^ (min k 63) % 2 = 1
  · rw [hx]; rfl
  · rw [decide_eq_false hx, beq_eq_false_iff_ne]
    intro hc
    exact hx (by omega)

set_option maxRecDepth 100000 in
set_option maxHeartbeats 2000000 in
theorem crash_any (d L M : Nat) (X : Dsk) (mask : Nat) (w : World) (h : DskIn w d L M X) (hmask : mask < 18446744073709551616) :
    Calls Try.prog 14 #[.pointer (some ⟨d, 0, none⟩), .int .u64 (mask : Int)] w fun e w' => e = .returned (.tuple #[]) ∧ DskIn w' d L M (dCrash X mask) ∧ But (dF L M) w w' := by
  have HH := Lib.hid h
  have HOK := Lib.hid h.ok
  have H140 := Lib.hid h.n140
  have HLEN := Lib.hid (dirtyL_len X)
  clear h
  go_enter Try.func14, Try.ntmps14
  go_wp2_with fail
  refine (dirty_any d L M X _ HH.out).mono ?_
  rintro r w1 ⟨v, rfl, hrow, hnil, hb⟩
  rcases hrow.2 with ⟨rfl, hz⟩ | ⟨g, cap, cur, rfl, hbase, hgb, r1, r2, r3, r4⟩
  · have hl0 : dirtyL X = [] := hnil.1 rfl
    have HG : Hid (DskIn w1 d L M (dGone X mask (dirtyL X).length)) := Lib.hid (by rw [hl0]; rw [show ([] : List Nat).length = 0 from rfl, dGone_zero]; exact HH.out.below hb)
    have HB := Lib.hid hb
    have c1 := HG.out.c1
    obtain ⟨D, hD, hown⟩ := HG.out.map
    obtain ⟨w2, hrun, hm, ht⟩ := run_clear w1 M 140 D hown 0
    have HF := Lib.hid (HG.out.clean HOK.out hm ht)
    clear hrow hnil hz hl0 hb hD hown hm ht
    go_wp2_with fail
    refine wp_loop_rounds 1 ?_
    rw [rounds_succ]
    go_wp2_with fail
    refine bodyPost_end (results_none rfl _ _ _) rfl ?_
    exact ⟨rfl, HF.out.1, (But.of_below HB.out).trans HF.out.2⟩
  · have HLG : Hid (L ≠ g) := Lib.hid (by have := HH.out.lL; omega)
    have HC : Hid (∀ j i, (dirtyL X)[j]? = some i → w1.cell? ⟨g, j, none⟩ = some (.int .i64 ((i : Nat) : Int))) := Lib.hid (fun j i hj => by
      rw [cell_of_row _ _ _ _ _ _ hgb]
      have hjl := (List.getElem?_eq_some_iff.1 hj).1
      have h1 : (cur.toList.take ((dirtyL X).length * 1))[j]? = ((dirtyI X).map encZ)[j]? := by rw [r4]
      rw [List.getElem?_take_of_lt (by omega), Array.getElem?_toList] at h1
      rw [h1, List.getElem?_map, dirtyI, List.getElem?_map, hj]
      rfl)
    have HW1 := Lib.hid (HH.out.below hb)
    have HB := Lib.hid hb
    obtain ⟨n, hn⟩ : ∃ n, n = (dirtyL X).length := ⟨_, rfl⟩
    have HNL := Lib.hid hn
    have hn1 : n ≤ 140 := by have := HLEN.out; have := H140.out; omega
    rw [← hn]
    clear hn
    clear hrow hnil r1 r2 r3 r4 hgb hb hbase
    go_wp2_with fail
    go_loopw [9] (fun i wr => ∃ k : Nat, k ≤ n ∧ i = .int .i64 k ∧ DskIn wr d L M (dGone X mask k) ∧ But (dF L M) w wr ∧ (∀ j i, (dirtyL X)[j]? = some i → wr.cell? ⟨g, j, none⟩ = some (.int .i64 ((i : Nat) : Int)))) (fun i _ => n - (RowKit.intOf i).toNat)
    case atStart => exact ⟨0, by omega, rfl, by rw [dGone_zero]; exact HW1.out, But.of_below HB.out, HC.out⟩
    case round =>
      obtain ⟨k, hk, rfl, hW, hBW, hCW⟩ := hrel
      have HW := Lib.hid hW
      have HBW := Lib.hid hBW
      have HCW := Lib.hid hCW
      clear hW hBW hCW
      by_cases hlt : k < n
      · obtain ⟨i, hi⟩ : ∃ i, (dirtyL X)[k]? = some i := ⟨_, List.getElem?_eq_getElem (by rw [← HNL.out]; exact hlt)⟩
        have ck := HCW.out k i hi
        have hsp := bit_spell mask k hmask
        cases hbit : bitD mask k with
        | false =>
          have hd := dGone_no (mask := mask) hi hbit
          have HD := Lib.hid hd
          clear hi hd
          rw [hbit] at hsp
          clear hbit
          go_wp2
          go_roundw
          case rel => exact ⟨k + 1, by omega, by go_num, by rw [HD.out]; exact HW.out, HBW.out, HCW.out⟩
          case measure => simp [RowKit.intOf]; omega
        | true =>
          have HWD := Lib.hid HW.out.drew
          obtain ⟨DD, hDD, hown⟩ := HWD.out.map
          have HLAST := Lib.hid (HWD.out.last HOK.out hi hbit)
          have him := List.mem_of_getElem? hi
          have hin : (i : Int) < (X.n : Int) := by have := (dirtyL_mem.1 him).1; omega
          have dl := sec_run wr.drew M DD X ⟨hDD.isMap, hDD.has, hDD.at'⟩ hown i him H140.out
          have d0 : wr.drew.cell? ⟨d, 0, none⟩ = some (.slice (some ⟨L, 0, none⟩) X.n X.n) := HWD.out.c0
          have d1 := HWD.out.c1
          have HTH : Hid (wr.drew.there L (i * 32) (secA (X.cur i)).size) := Lib.hid (by rw [secA_size]; exact HWD.out.there i (by show i < X.n; omega))
          have HIN := Lib.hid (secA_info (X.cur i))
          have HON := Lib.hid (secA_ones (X.cur i))
          have e0 : (wr.drew.setCells L (i * 32) (secL (X.cur i))).cell? ⟨d, 0, none⟩ = some (.slice (some ⟨L, 0, none⟩) X.n X.n) := HLAST.out.1.c0
          have e1 := HLAST.out.1.c1
          obtain ⟨DE, hDE, hownE⟩ := HLAST.out.1.map
          have el := sec_run (wr.drew.setCells L (i * 32) (secL (X.cur i))) M DE X ⟨hDE.isMap, hDE.has, hDE.at'⟩ hownE i him H140.out
          have HCE : Hid (∀ j i', (dirtyL X)[j]? = some i' → (wr.drew.setCells L (i * 32) (secL (X.cur i))).cell? ⟨g, j, none⟩ = some (.int .i64 ((i' : Nat) : Int))) := Lib.hid (fun j i' hj => by
            rw [World.cell?_setCells_out _ _ _ _ _ (fun hb _ => absurd hb.symm HLG.out)]
            exact HCW.out j i' hj)
          have HBE := Lib.hid ((HBW.out.drew).trans HLAST.out.2)
          rw [hbit] at hsp
          clear hbit hi him hDD hown hDE hownE
          go_wp2
          refine wp_region_held_drew (S := (fun W => W.cell? ⟨d, 0, none⟩ = some (.slice (some ⟨L, 0, none⟩) X.n X.n) ∧ W.cell? ⟨d, 1, none⟩ = some (.map (some M)) ∧ (Instr.lookup 63 (.map (some M)) (.int .i64 ((i : Nat) : Int)) false).run Try.prog W = .ok (secV (X.cur i)) W)) (by kernel_rfl) ⟨d0, d1, dl⟩ (fun hHeld => ?_)
          refine wpAnyH_take (i := 0) (v := ?v0) rfl (by kernel_rfl) (by kernel_rfl) (by kernel_rfl) (fun _ _ _ h => h) (Or.inl ⟨by rfl, ?h0⟩) (by assumption) ?r0
          case h0 => (intro W hSw; (try dsimp only at hSw); go_simp; all_goals (with_reducible rfl))
          try simp only [Act.put, List.getElem_toArray, List.getElem_cons_zero, List.setIfInBounds_toArray, List.set_cons_zero, List.set_cons_succ]
          refine wpAnyH_take (i := 1) (v := ?v1) rfl (by kernel_rfl) (by kernel_rfl) (by kernel_rfl) (fun _ _ _ h => h) (Or.inl ⟨by rfl, ?h1⟩) (by assumption) ?r1
          case h1 => (intro W hSw; (try dsimp only at hSw); go_simp; all_goals (with_reducible rfl))
          try simp only [Act.put, List.getElem_toArray, List.getElem_cons_zero, List.getElem_cons_succ, List.setIfInBounds_toArray, List.set_cons_zero, List.set_cons_succ]
          refine wpAnyH_take (i := 2) (v := ?v2) rfl (by kernel_rfl) (by kernel_rfl) (by kernel_rfl) (fun _ _ _ h => h) (Or.inl ⟨by rfl, ?h2⟩) (by assumption) ?r2
          case h2 => (intro W hSw; (try dsimp only at hSw); go_simp; all_goals (with_reducible rfl))
          try simp only [Act.put, List.getElem_toArray, List.getElem_cons_zero, List.getElem_cons_succ, List.setIfInBounds_toArray, List.set_cons_zero, List.set_cons_succ]
          refine wpAnyH_take (i := 3) (v := ?v3) rfl (by kernel_rfl) (by kernel_rfl) (by kernel_rfl) (fun _ _ _ h => h) (Or.inl ⟨by rfl, ?h3⟩) (by assumption) ?r3
          case h3 => (intro W hSw; (try dsimp only at hSw); go_simp; all_goals (with_reducible rfl))
          try simp only [Act.put, List.getElem_toArray, List.getElem_cons_zero, List.getElem_cons_succ, List.setIfInBounds_toArray, List.set_cons_zero, List.set_cons_succ]
          refine wpAnyH_take (i := 4) (v := ?v4) rfl (by kernel_rfl) (by kernel_rfl) (by kernel_rfl) (fun _ _ _ h => h) (Or.inl ⟨by rfl, ?h4⟩) (by assumption) ?r4
          case h4 => (intro W hSw; (try dsimp only at hSw); go_simp; all_goals (with_reducible rfl))
          try simp only [Act.put, List.getElem_toArray, List.getElem_cons_zero, List.getElem_cons_succ, List.setIfInBounds_toArray, List.set_cons_zero, List.set_cons_succ]
          refine wpAnyH_take (i := 5) (v := ?v5) rfl (by kernel_rfl) (by kernel_rfl) (by kernel_rfl) (fun _ _ _ h => h) (Or.inl ⟨by rfl, ?h5⟩) (by assumption) ?r5
          case h5 => (intro W hSw; (try dsimp only at hSw); go_simp; all_goals (with_reducible rfl))
          try simp only [Act.put, List.getElem_toArray, List.getElem_cons_zero, List.getElem_cons_succ, List.setIfInBounds_toArray, List.set_cons_zero, List.set_cons_succ]
          refine wpAnyH_take (i := 6) (v := ?v6) rfl (by kernel_rfl) (by kernel_rfl) (by kernel_rfl) (fun _ _ _ h => h) (Or.inl ⟨by rfl, ?h6⟩) (by assumption) ?r6
          case h6 => (intro W hSw; (try dsimp only at hSw); go_simp; all_goals (with_reducible rfl))
          try simp only [Act.put, List.getElem_toArray, List.getElem_cons_zero, List.getElem_cons_succ, List.setIfInBounds_toArray, List.set_cons_zero, List.set_cons_succ]
          refine wpAnyH_take (i := 7) (v := ?v7) rfl (by kernel_rfl) (by kernel_rfl) (by kernel_rfl) (fun _ _ _ h => h) (Or.inl ⟨by rfl, ?h7⟩) (by assumption) ?r7
          case h7 => (intro W hSw; (try dsimp only at hSw); go_simp; all_goals (with_reducible rfl))
          try simp only [Act.put, List.getElem_toArray, List.getElem_cons_zero, List.getElem_cons_succ, List.setIfInBounds_toArray, List.set_cons_zero, List.set_cons_succ]
          refine wpAnyH_take (i := 8) (v := ?v8) rfl (by kernel_rfl) (by kernel_rfl) (by kernel_rfl) (fun _ _ _ h => h) (Or.inl ⟨by rfl, ?h8⟩) (by assumption) ?r8
          case h8 => (intro W hSw; (try dsimp only at hSw); go_simp; all_goals (with_reducible rfl))
          try simp only [Act.put, List.getElem_toArray, List.getElem_cons_zero, List.getElem_cons_succ, List.setIfInBounds_toArray, List.set_cons_zero, List.set_cons_succ]
          refine wpAnyH_take (i := 9) (v := ?v9) rfl (by kernel_rfl) (by kernel_rfl) (by kernel_rfl) (fun _ _ _ h => h) (Or.inl ⟨by rfl, ?h9⟩) (by assumption) ?r9
          case h9 => (intro W hSw; (try dsimp only at hSw); go_simp; all_goals (with_reducible rfl))
          try simp only [Act.put, List.getElem_toArray, List.getElem_cons_zero, List.getElem_cons_succ, List.setIfInBounds_toArray, List.set_cons_zero, List.set_cons_succ]
          refine wpAnyH_take (i := 10) (v := ?v10) rfl (by kernel_rfl) (by kernel_rfl) (by kernel_rfl) (fun _ _ _ h => h) (Or.inl ⟨by rfl, ?h10⟩) (by assumption) ?r10
          case h10 => (intro W hSw; (try dsimp only at hSw); go_simp; all_goals (with_reducible rfl))
          try simp only [Act.put, List.getElem_toArray, List.getElem_cons_zero, List.getElem_cons_succ, List.setIfInBounds_toArray, List.set_cons_zero, List.set_cons_succ]
          refine wpAnyH_take (i := 11) (v := ?v11) rfl (by kernel_rfl) (by kernel_rfl) (by kernel_rfl) (fun _ _ _ h => h) (Or.inl ⟨by rfl, ?h11⟩) (by assumption) ?r11
          case h11 => (intro W hSw; (try dsimp only at hSw); go_simp; all_goals (with_reducible rfl))
          try simp only [Act.put, List.getElem_toArray, List.getElem_cons_zero, List.getElem_cons_succ, List.setIfInBounds_toArray, List.set_cons_zero, List.set_cons_succ]
          refine wpAnyH_ready (rs := [12]) (by kernel_rfl) (by simp) ?_
          refine AllReadyH.cons rfl (fun KK hKK => ?_) AllReadyH.nil
          refine wp_store_mid 65 _ _ rfl L (i * 32) (secA (X.cur i)) rfl rfl HTH.out HIN.out HON.out ?_
          rw [secA_toList]
          refine hKK.out _ _ ⟨e0, e1, el⟩ (fun hHeld2 => ?_)
          clear hKK hHeld
          refine wpAnyH_done (by kernel_rfl) ?_ _
          generalize wr.drew.setCells L (i * 32) (secL (X.cur i)) = W2 at HLAST HCE HBE ⊢
          go_wp2
          go_roundw
          case rel => exact ⟨k + 1, by omega, by go_num, HLAST.out.1, HBE.out, HCE.out⟩
          case measure => simp [RowKit.intOf]; omega
      · obtain rfl : k = n := by omega
        have HG : Hid (DskIn wr d L M (dGone X mask (dirtyL X).length)) := Lib.hid (by rw [← HNL.out]; exact HW.out)
        have c1 := HG.out.c1
        obtain ⟨D, hD, hown⟩ := HG.out.map
        obtain ⟨w2, hrun, hm, ht⟩ := run_clear wr M 140 D hown 0
        have HF := Lib.hid (HG.out.clean HOK.out hm ht)
        clear hD hown hm ht
        go_wp2_with fail
        refine bodyPost_end (results_none rfl _ _ _) rfl ?_
        exact ⟨rfl, HF.out.1, HBW.out.trans HF.out.2⟩

theorem bit_all (k : Nat) : bitD 18446744073709551615 k = true := by
  have h : ∀ j : Nat, j < 64 → 18446744073709551615 / 2 ^ j % 2 = 1 := by decide
  unfold bitD
  exact decide_eq_true (h _ (by omega))
/-- All last. -/
theorem crash_sync (X : Dsk) : dCrash X 18446744073709551615 = dSync X := by
  have e : crashC X 18446744073709551615 = X.cur := by
    funext i
    unfold crashC
    rw [if_neg (fun h => by have := h.2; unfold lastsD at this; rw [bit_all] at this; cases this)]
  unfold dCrash dSync
  rw [e]
set_option maxRecDepth 100000 in
theorem sync_any (d L M : Nat) (X : Dsk) (w : World) (h : DskIn w d L M X) :
    Calls Try.prog 12 #[.pointer (some ⟨d, 0, none⟩)] w fun e w' => e = .returned (.tuple #[]) ∧ DskIn w' d L M (dSync X) ∧ But (dF L M) w w' := by
  have HH := Lib.hid h
  clear h
  go_enter Try.func12, Try.ntmps12
  go_wp2_with fail
  refine (crash_any d L M X 18446744073709551615 _ HH.out (by decide)).mono ?_
  rintro r w' ⟨rfl, h1, h2⟩
  rw [crash_sync] at h1
  go_wp2_with fail
  refine bodyPost_end (results_none rfl _ _ _) rfl ?_
  exact ⟨rfl, h1, h2⟩
end Go.Proofs.Ytjnbnkaocoamlaa
