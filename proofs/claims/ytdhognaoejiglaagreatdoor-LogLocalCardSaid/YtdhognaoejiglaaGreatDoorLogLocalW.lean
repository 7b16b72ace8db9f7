/-
  The walk of 'packtrainkeep.LogLocal'.
-/
import Derived.Test.YtdhognaoejiglaaGreatDoorKb44
import Derived.Deep.RegionHeld3
import Derived.Test.YtdhognaoejiglaaGreatDoorKb13
import Derived.Test.YtdhognaoejiglaaGreatDoorKb08
import Derived.Test.YtdhognaoejiglaaGreatDoorKb16
import Derived.Test.YtdhognaoejiglaaGreatDoorKb06
import Derived.Test.YtdhognaoejiglaaGreatDoorKb00
namespace Go.Proofs.YtdhognaoejiglaaGreatDoor
open Go.RowKit

/-- One log of a company, and what it stands apart from. -/
theorem Logs.one {W w : World} {D : Nat → Prop} {L : List (Nat × LogS)} {i P : Nat} {s : LogS} (h : Logs W w D L) (hi : L[i]? = some (P, s)) :
    ∃ F, aQ w P F s ∧ aM s ∧ (∀ k, F k → W.heap.size ≤ k) ∧ ∀ k, D k → ¬ F k := by
  obtain ⟨⟨Fs, h1, _, h3⟩, _, h5, _⟩ := h
  exact ⟨Fs i, (h1 i P s hi).1, h5 _ (List.mem_of_getElem? hi), (h1 i P s hi).2, fun k hk => h3 i k (List.getElem?_eq_some_iff.1 hi).1 hk⟩
/-- A call of a log that leaves the data as they were. -/
theorem Logs.but {W w w' : World} {D D' : Nat → Prop} {L L' : List (Nat × LogS)} (h : Logs W w D L) (h' : Logs W w' D' L') (hd : ∀ k, D k → w'.heap[k]? = w.heap[k]?) (hs : w.heap.size ≤ w'.heap.size) : But (fun k => ¬ D k) w w' :=
  ⟨h'.bel.os.trans h.bel.os.symm, h'.bel.tape.trans h.bel.tape.symm, h'.bel.output.trans h.bel.output.symm, hs, fun k _ hn => hd k (Classical.byContradiction hn)⟩
theorem local_facts {s : LogS} (ok : aM s) {w : Wr} (he : lcE s w = 0) : (lcS s w).ws = s.ws ++ [lcW s w] ∧ ofF (lcS s w).hv s.rep = maxT s.hv + 1 ∧ covB (lcS s w).hv s.hv = true := by
  have h1 := (nP he).2.2.2
  have h2 := kZ ok he
  refine ⟨rfl, ?_, ?_⟩
  · show ofF (lcJ s).2 s.rep = _
    rw [kW ok h1, if_pos rfl]
  · refine (fu h2.hv ok.hv).2 fun r => ?_
    show _ ≤ ofF (lcJ s).2 r
    rw [kW ok h1]
    split
    · have := fc s.hv r; omega
    · exact Int.le_refl _
theorem LwT {w : World} {P : Nat} {F : Nat → Prop} {s : LogS} (h : aQ w P F s) (ok : aM s) (l : List Wr) (n : Nat) (hl : s.ws = l) (hn : l.length = n) :
    Calls Tryz.prog 16 #[.pointer (some ⟨P, 0, none⟩)] w fun e w' => ∃ a c, e = .returned (.slice a n c) ∧ az w' (.slice a n c) l ∧ Below w.heap.size w w' := by
  subst hl hn
  refine (sA P s F w h ok).mono ?_
  rintro e w' ⟨u, rfl, ho, hb⟩
  obtain ⟨a, c, rfl, _⟩ := ho.is.form
  exact ⟨a, c, rfl, ho.is, hb⟩
theorem LhT {w : World} {P : Nat} {F : Nat → Prop} {s : LogS} (h : aQ w P F s) (ok : aM s) (n : Nat) (hn : s.hv.length = n) :
    Calls Tryz.prog 17 #[.pointer (some ⟨P, 0, none⟩)] w fun e w' => ∃ a c, e = .returned (.slice a n c) ∧ ae w' (.slice a n c) s.hv ∧ Below w.heap.size w w' := by
  subst hn
  refine (kX P s F w h ok).mono ?_
  rintro e w' ⟨u, rfl, ho, hb⟩
  obtain ⟨a, c, rfl, _⟩ := ho.is.form
  exact ⟨a, c, rfl, ho.is, hb⟩
theorem equalE_b (v1 v2 : Value) (l : List Ent) (w : World) (h1 : ae w v1 l) (h2 : ae w v2 l) (hl : l.length ≤ 9223372036854775807) :
    Calls Tryz.prog 29 #[v1, v2] w fun e w' => e = .returned (.bool true) ∧ Below w.heap.size w w' :=
  (kr v1 v2 l l true w h1 h2 hl hl (by simp)).mono fun _ _ ⟨h1, q, h2⟩ => ⟨h1, by rw [h2]; exact fW (Below.refl _ _) q⟩
theorem equalW_b (v1 v2 : Value) (l : List Wr) (w : World) (h1 : az w v1 l) (h2 : az w v2 l) (hl : l.length ≤ 9223372036854775807) :
    Calls Tryz.prog 24 #[v1, v2] w fun e w' => e = .returned (.bool true) ∧ Below w.heap.size w w' :=
  (mY v1 v2 l l true w h1 h2 hl hl (by simp)).mono fun _ _ ⟨h1, q, h2⟩ => ⟨h1, by rw [h2]; exact fW (Below.refl _ _) q⟩
set_option maxRecDepth 100000 in
set_option maxHeartbeats 16000000 in
theorem logLocal_walk (W : World) (a0 : Int) (_h0 : -9223372036854775808 ≤ a0) (_h1 : a0 ≤ 9223372036854775807) (v : Value) (l : List Actn) (h : cV W v l) (hl : l.length ≤ 9223372036854775807) (hok : ∀ x ∈ l, WrOk x.w) (x : Wr) (hx : WrOk x) (hg : errT W) :
    Calls Tryz.prog 6 #[.int .i64 a0, v, wrV x] W fun e w' => e = .returned (.bool true) ∧ Below W.heap.size W w' := by
  have HG := Lib.hid hg
  have HA := Lib.hid h
  have HOK := Lib.hid hok
  obtain ⟨q, hq⟩ : ∃ q : Nat, cK a0 5 = (q : Int) := ⟨(cK a0 5).toNat, by have := dW (a := a0) (n := 5) (by omega); omega⟩
  have hq5 : q < 5 := by have := dW (a := a0) (n := 5) (by omega); omega
  have HQ := Lib.hid hq
  obtain ⟨n, hn⟩ : ∃ n : Nat, n = 1 + q := ⟨_, rfl⟩
  have hn1 : (1 : Int) + (q : Int) = (n : Int) := by omega
  have hn2 : IntKind.i64.wrap ((1 : Int) + (q : Int)) = (n : Int) := by rw [hn1]; exact IntWalk.i64_in _ (by omega)
  have hn3 : 1 ≤ n ∧ n ≤ 5 := by omega
  have HN := Lib.hid hn3
  obtain ⟨hn4, hn5⟩ := hn3
  clear hq hn hq5 h hok hg
  obtain ⟨T, Re, K, key, val, N⟩ := x
  obtain ⟨n0, n1, hks, hvs⟩ := hx
  simp only at n0 n1 hks hvs
  show Calls _ _ #[.int .i64 a0, v, .agg #[.int .i64 T, .int .i64 Re, .int .i64 K, .string key, .string val, .int .i64 N]] W _
  obtain ⟨m, hm⟩ : ∃ m : Nat, m = key.size + val.size := ⟨_, rfl⟩
  have hm1 : (key.size : Int) + (val.size : Int) = (m : Int) := by omega
  have hm2 : IntKind.i64.wrap ((key.size : Int) + (val.size : Int)) = (m : Int) := by rw [hm1]; exact IntWalk.i64_in _ (by omega)
  clear hm
  go_enter Tryz.func6, Tryz.ntmps6
  go_wp2_with fail
  obtain ⟨W0, hW0⟩ : ∃ W0, W0 = W.alloc (.cells #[.int .i64 T, .int .i64 Re, .int .i64 K, .string key, .string val, .int .i64 N] 38) := ⟨_, rfl⟩
  have HB0 : Hid (Below W.heap.size W W0) := Lib.hid (by rw [hW0]; exact (Below.refl _ _).alloc (Nat.le_refl _) _)
  have HR0 : Hid (W0.heap[W.heap.size]? = some (.cells #[.int .i64 T, .int .i64 Re, .int .i64 K, .string key, .string val, .int .i64 N] 38 (0, 0))) := Lib.hid (by rw [hW0]; exact heap_alloc_new _ _)
  have HA0 := Lib.hid (HA.out.below HB0.out)
  have HG0 := Lib.hid (HG.out.below HB0.out)
  have HLT : Hid (W.heap.size < W0.heap.size) := Lib.hid (by rw [hW0]; simp)
  rw [← hW0]
  clear hW0
  by_cases hs : dZ l = true
  · have HS := Lib.hid hs
    clear hs
    by_cases hbig : 400 < m
    · have bb : decide ((400 : Int) < (m : Int)) = true := by simp; omega
      clear hbig
      go_wp2_with (first
        | (go_at_call 11; refine (gf W0 HG0.out).mono ?_; rintro r w1 ⟨rfl, hb1⟩; have HB1 := Lib.hid hb1; clear hb1)
        | (go_at_call 12; refine (gj w1).mono ?_; rintro r w2 ⟨rfl, hb2⟩; have HB2 := Lib.hid (HB1.out.trans (hb2.mono HB1.out.size)); clear hb2)
        | (go_at_call 13; (with_reducible refine (gt _ l w2 (HA0.out.below HB2.out) hl HOK.out true HS.out).mono ?_); rintro r w3 ⟨rfl, hb3⟩; have HB3 := Lib.hid (HB2.out.trans (hb3.mono HB2.out.size)); have HLT3 : Hid (W.heap.size < w3.heap.size) := Lib.hid (Nat.lt_of_lt_of_le HLT.out HB3.out.size); have HR3 := Lib.hid ((HB3.out.block _ HLT.out).trans HR0.out); have q3 : w3.cell? ⟨W.heap.size, 3, none⟩ = some (.string key) := cell_of_row _ _ 3 _ _ _ HR3.out; have q4 : w3.cell? ⟨W.heap.size, 4, none⟩ = some (.string val) := cell_of_row _ _ 4 _ _ _ HR3.out; clear hb3)
        | fail)
      go_ret
      exact ⟨rfl, HB0.out.trans (HB3.out.mono HB0.out.size)⟩
    · have bb : decide ((400 : Int) < (m : Int)) = false := by simp; omega
      clear hbig
      go_wp2_with (first
        | (go_at_call 11; refine (gf W0 HG0.out).mono ?_; rintro r w1 ⟨rfl, hb1⟩; have HB1 := Lib.hid hb1; clear hb1)
        | (go_at_call 12; refine (gj w1).mono ?_; rintro r w2 ⟨rfl, hb2⟩; have HB2 := Lib.hid (HB1.out.trans (hb2.mono HB1.out.size)); clear hb2)
        | (go_at_call 13; (with_reducible refine (gt _ l w2 (HA0.out.below HB2.out) hl HOK.out true HS.out).mono ?_); rintro r w3 ⟨rfl, hb3⟩; have HB3 := Lib.hid (HB2.out.trans (hb3.mono HB2.out.size)); have HLT3 : Hid (W.heap.size < w3.heap.size) := Lib.hid (Nat.lt_of_lt_of_le HLT.out HB3.out.size); have HR3 := Lib.hid ((HB3.out.block _ HLT.out).trans HR0.out); have q3 : w3.cell? ⟨W.heap.size, 3, none⟩ = some (.string key) := cell_of_row _ _ 3 _ _ _ HR3.out; have q4 : w3.cell? ⟨W.heap.size, 4, none⟩ = some (.string val) := cell_of_row _ _ 4 _ _ _ HR3.out; clear hb3)
        | (go_at_call 14; (with_reducible refine (eL a0 5 w3 (by omega) (by omega)).mono ?_); rintro r w4 ⟨rfl, rfl⟩; rw [HQ.out])
        | (go_at_call 15; (with_reducible refine (od n HN.out _ l w3 (HA0.out.below HB3.out) HS.out HOK.out (HG0.out.below HB3.out)).mono ?_); rintro r w5 ⟨g, c, L, U, rfl, hp⟩; have HP := Lib.hid hp; obtain ⟨P, s, hL, hg1, hc1⟩ := HP.out.cell (q := 0) (by have := HN.out; omega); have HL := Lib.hid hL; have HOKS := Lib.hid (HP.out.pt.logs.ok _ (List.mem_of_getElem? hL)); have HV16 : Hid (s.hv.length ≤ 16) := Lib.hid HOKS.out.hv.1; have HREP : Hid (s.rep = 0) := Lib.hid (HP.out.party.rep 0 s (gu hL)); clear hp hL)
        | fail)
      obtain ⟨ns, hns⟩ : ∃ m, m = s.ws.length := ⟨_, rfl⟩
      obtain ⟨nv, hnv⟩ : ∃ m, m = s.hv.length := ⟨_, rfl⟩
      have HNS := Lib.hid hns
      have HNV := Lib.hid hnv
      have hns3 : ns ≤ 300 := by rw [hns]; exact HOKS.out.len
      have HNS3 := Lib.hid hns3
      clear hns hnv hns3 q3 q4
      by_cases he : lcE s ⟨T, Re, K, key, val, N⟩ = 0
      · obtain ⟨t, ht⟩ : ∃ t, maxT s.hv + 1 = t := ⟨_, rfl⟩
        obtain ⟨s', hs'⟩ : ∃ s', lcS s ⟨T, Re, K, key, val, N⟩ = s' := ⟨_, rfl⟩
        obtain ⟨lf1, lf2, lf3⟩ := local_facts HOKS.out he
        have hlw : lcW s ⟨T, Re, K, key, val, N⟩ = ⟨t, 0, K, key, val, N⟩ := by unfold lcW; rw [ht, HREP.out]
        rw [hs'] at lf1 lf2 lf3
        rw [hlw] at lf1
        rw [HREP.out, ht] at lf2
        obtain ⟨nw, hnw⟩ : ∃ m, m = (s.ws ++ [(⟨t, 0, K, key, val, N⟩ : Wr)]).length := ⟨_, rfl⟩
        obtain ⟨nv', hnv'⟩ : ∃ m, m = s'.hv.length := ⟨_, rfl⟩
        have HT := Lib.hid ht
        have HE := Lib.hid he
        have HSP := Lib.hid hs'
        have HF1 := Lib.hid lf1
        have HF2 := Lib.hid lf2
        have HF3 := Lib.hid lf3
        have HNW := Lib.hid hnw
        have HNVP := Lib.hid hnv'
        have bt : (t == t) = true := by simp
        clear ht he hs' lf1 lf2 lf3 hlw hnw hnv'
        go_wp2_with (first
          | (go_at_call 16; (with_reducible refine (iq HP.out.pt.logs HL.out s.ws ns rfl HNS.out.symm).mono ?_); rintro r w6 ⟨a6, c6, rfl, o6, hb6⟩; have HL6 := Lib.hid (HP.out.pt.logs.call (D' := fun q => w5.heap.size ≤ q ∧ q < w6.heap.size) hb6 (fun _ h => .inr h)); have HO6 := Lib.hid o6; have HS6 := Lib.hid hb6.size; clear o6 hb6)
          | (go_at_call 17; (with_reducible refine (bH HL6.out HL.out nv HNV.out.symm).mono ?_); rintro r w7 ⟨a7, c7, rfl, o7, hb7⟩; have HL7 := Lib.hid (HL6.out.call (D' := fun q => w5.heap.size ≤ q ∧ q < w7.heap.size) hb7 (fun q h => by rcases Nat.lt_or_ge q w6.heap.size with h2 | h2; exact .inl ⟨h.1, h2⟩; exact .inr ⟨h2, h.2⟩)); have HO6B := Lib.hid (HO6.out.below hb7); have HO7 := Lib.hid o7; have HS7 := Lib.hid hb7.size; have hr7 := (HL7.out.bel.block _ HLT3.out).trans HR3.out; have r0 := cell_of_row _ _ 0 _ _ _ hr7; have r1 := cell_of_row _ _ 1 _ _ _ hr7; have r2 := cell_of_row _ _ 2 _ _ _ hr7; have r3 := cell_of_row _ _ 3 _ _ _ hr7; have r4 := cell_of_row _ _ 4 _ _ _ hr7; have r5 := cell_of_row _ _ 5 _ _ _ hr7; simp only [List.getElem?_toArray, List.getElem?_cons_zero, List.getElem?_cons_succ] at r0 r1 r2 r3 r4 r5; clear o7 hb7 hr7)
          | (go_at_call 30; (with_reducible refine (ms HL7.out HL.out T Re K key val N hks hvs (HG0.out.below (HB3.out.trans (HL7.out.bel.mono HB3.out.size))) HE.out t 0 s' HT.out HREP.out HSP.out).mono ?_); rintro r w8 ⟨rfl, h8, hd8, hs8⟩; have HLB := Lib.hid (Logs.but HL7.out h8 hd8 hs8); have HD8 := Lib.hid hd8; have HS8 := Lib.hid hs8; have HL8 := Lib.hid h8; have HR8 := Lib.hid ((h8.bel.block _ HLT3.out).trans HR3.out); have HR9 := Lib.hid (((Below.refl _ w8).alloc (Nat.le_refl _) (.cells #[.int .i64 t, .int .i64 0] 36)).block _ (Nat.lt_of_lt_of_le HLT3.out h8.bel.size) |>.trans HR8.out); have z0 : (w8.alloc (.cells #[.int .i64 t, .int .i64 0] 36)).cell? ⟨W.heap.size, 0, none⟩ = some (.int .i64 T) := cell_of_row _ _ 0 _ _ _ HR9.out; have z1 : (w8.alloc (.cells #[.int .i64 t, .int .i64 0] 36)).cell? ⟨W.heap.size, 1, none⟩ = some (.int .i64 Re) := cell_of_row _ _ 1 _ _ _ HR9.out; have f0 := Lib.frozen_of_heap HR9.out 0; have f1 := Lib.frozen_of_heap HR9.out 1; have z2 : ¬ W.heap.size = w8.heap.size := (by have := HLT3.out; have := h8.bel.size; omega); clear h8 hd8 hs8 r0 r1 r2 r3 r4 r5)
          | fail)
        obtain ⟨w10, hw10⟩ : ∃ w10, w10 = ((w8.alloc (.cells #[.int .i64 t, .int .i64 0] 36)).setCell ⟨W.heap.size, 0, none⟩ (.int .i64 t)).setCell ⟨W.heap.size, 1, none⟩ (.int .i64 0) := ⟨_, rfl⟩
        obtain ⟨F, hla, hok', hFb, hFD⟩ := Logs.one HL8.out (i := 0) (P := P) (s := s') (by rw [List.getElem?_set_self (List.getElem?_eq_some_iff.1 HL.out).1])
        have hBU : But (fun k => k = W.heap.size) (w8.alloc (.cells #[.int .i64 t, .int .i64 0] 36)) w10 := by rw [hw10]; exact ((But.refl (fun k => k = W.heap.size) _).setCell (.inl (show W.heap.size = W.heap.size from rfl)) _).setCell (.inl (show W.heap.size = W.heap.size from rfl)) _
        have hR10 : w10.heap[W.heap.size]? = some (.cells #[.int .i64 t, .int .i64 0, .int .i64 K, .string key, .string val, .int .i64 N] 38 (0, 0)) := by rw [hw10]; exact heap_setCell_same _ _ 1 _ _ (.int .i64 0) (heap_setCell_same _ _ 0 _ _ (.int .i64 t) HR9.out)
        have hI10 : w10.heap[w8.heap.size]? = some (.cells #[.int .i64 t, .int .i64 0] 36 (0, 0)) := (hBU.block _ (by simp) (fun e => z2 e.symm)).trans (heap_alloc_new _ _)
        have hb8 : Below W.heap.size W w8 := HB0.out.trans ((HB3.out.trans (HL8.out.bel.mono HB3.out.size)).mono HB0.out.size)
        have HBW : Hid (Below W.heap.size W w10) := Lib.hid (by rw [hw10]; exact ((hb8.alloc hb8.size _).setCell (Nat.le_refl _) _).setCell (Nat.le_refl _) _)
        have s35 := HP.out.pt.logs.bel.size
        have s03 := HLT3.out
        have s56 := HS6.out
        have s67 := HS7.out
        have s78 := HS8.out
        have l10 := (Array.getElem?_eq_some_iff.1 hR10).1
        have l11 := (Array.getElem?_eq_some_iff.1 hI10).1
        have h610 : ak w10 w5.heap.size (.slice a6 ns c6) s.ws := cT ((cT HO6B.out HLB.out (fun k e hn => hn ⟨(HO6.out.lt k e).1, Nat.lt_of_lt_of_le (HO6.out.lt k e).2 HS7.out⟩) : ak w8 w5.heap.size (.slice a6 ns c6) s.ws).alloc (.cells #[.int .i64 t, .int .i64 0] 36)) hBU (fun k e e2 => by have := (HO6.out.lt k e).1; omega)
        have h710 : ae w10 (.slice a7 nv c7) s.hv := ae.at ((ae.at HO7.out.is HS8.out (fun k e => HD8.out k ⟨Nat.le_trans s56 (HO7.out.lt k e).1, (HO7.out.lt k e).2⟩)).alloc (.cells #[.int .i64 t, .int .i64 0] 36)) hBU.size (fun k e => hBU.block k (by have := (HO7.out.lt k e).2; simp; omega) (fun e2 => by have := (HO7.out.lt k e).1; omega))
        have hla10 := (hla.alloc (.cells #[.int .i64 t, .int .i64 0] 36)).but hBU (fun k hk e => by have := hFb k hk; omega)
        have HO10 := Lib.hid h610
        have UP : Hid (∀ u, But (fun k => Value.ownBlock (.slice a6 ns c6) = some k) w10 u → (u.cell? ⟨W.heap.size, 0, none⟩ = some (.int .i64 t) ∧ u.cell? ⟨W.heap.size, 1, none⟩ = some (.int .i64 0) ∧ u.cell? ⟨W.heap.size, 2, none⟩ = some (.int .i64 K) ∧ u.cell? ⟨W.heap.size, 3, none⟩ = some (.string key) ∧ u.cell? ⟨W.heap.size, 4, none⟩ = some (.string val) ∧ u.cell? ⟨W.heap.size, 5, none⟩ = some (.int .i64 N) ∧ u.cell? ⟨w8.heap.size, 0, none⟩ = some (.int .i64 t) ∧ u.cell? ⟨w8.heap.size, 1, none⟩ = some (.int .i64 0)) ∧ aQ u P F s' ∧ ae u (.slice a7 nv c7) s.hv) := Lib.hid (fun u hb => by
          have g1 := (hb.block _ l10 (fun e => by have := (HO6.out.lt _ e).1; omega)).trans hR10
          have g2 := (hb.block _ l11 (fun e => by have := (HO6.out.lt _ e).2; omega)).trans hI10
          exact ⟨⟨cell_of_row _ _ 0 _ _ _ g1, cell_of_row _ _ 1 _ _ _ g1, cell_of_row _ _ 2 _ _ _ g1, cell_of_row _ _ 3 _ _ _ g1, cell_of_row _ _ 4 _ _ _ g1, cell_of_row _ _ 5 _ _ _ g1, cell_of_row _ _ 0 _ _ _ g2, cell_of_row _ _ 1 _ _ _ g2⟩,
            hla10.but hb (fun k hk e => hFD k ⟨(HO6.out.lt k e).1, Nat.lt_of_lt_of_le (HO6.out.lt k e).2 s67⟩ hk),
            ae.at h710 hb.size (fun k e => hb.block k (by have := (HO7.out.lt k e).2; have := hBU.size; simp at this; omega) (fun e2 => by have := (HO6.out.lt k e2).2; have := (HO7.out.lt k e).1; omega))⟩)
        have HOKP := Lib.hid hok'
        have HP16 : Hid (s'.hv.length ≤ 16) := Lib.hid hok'.hv.1
        have HBZ : Hid (∀ u, But (fun k => Value.ownBlock (.slice a6 ns c6) = some k) w10 u → Below W.heap.size W u) := Lib.hid (fun u hb => HBW.out.trans (hb.below HBW.out.size (fun k e => by have := (HO6.out.lt k e).1; omega)))
        have HS10 : Hid (w5.heap.size ≤ w10.heap.size) := Lib.hid (by omega)
        rw [← hw10]
        clear hw10 z0 z1 z2 f0 f1 hla hok' hFb hFD hBU hR10 hI10 hb8 s35 s03 s56 s67 s78 l10 l11 h610 h710 hla10 hg1 hc1
        have HB10 : Hid (But (fun k => Value.ownBlock (.slice a6 ns c6) = some k) w10 w10.drew) := Lib.hid (But.refl _ _).drew
        have HB11 : Hid (But (fun k => Value.ownBlock (.slice a6 ns c6) = some k) w10 (w10.drew.alloc (.cells #[.int .i64 t, .int .i64 0, .int .i64 K, .string key, .string val, .int .i64 N] 38))) := Lib.hid (HB10.out.alloc _)
        have HOA : Hid (ak (w10.drew.alloc (.cells #[.int .i64 t, .int .i64 0, .int .i64 K, .string key, .string val, .int .i64 N] 38)) w5.heap.size (.slice a6 ns c6) s.ws) := Lib.hid (HO10.out.below ((Below.refl _ w10).drew.alloc (Nat.le_refl _) _))
        have k0 := (UP.out _ HB10.out).1
        have kA := (UP.out _ HB11.out).1
        go_region_held3 (fun w' => w'.cell? ⟨W.heap.size, 0, none⟩ = some (.int .i64 t) ∧ w'.cell? ⟨W.heap.size, 1, none⟩ = some (.int .i64 0) ∧ w'.cell? ⟨W.heap.size, 2, none⟩ = some (.int .i64 K) ∧ w'.cell? ⟨W.heap.size, 3, none⟩ = some (.string key) ∧ w'.cell? ⟨W.heap.size, 4, none⟩ = some (.string val) ∧ w'.cell? ⟨W.heap.size, 5, none⟩ = some (.int .i64 N) ∧ w'.cell? ⟨w8.heap.size, 0, none⟩ = some (.int .i64 t) ∧ w'.cell? ⟨w8.heap.size, 1, none⟩ = some (.int .i64 0)) (first | exact k0 | exact kA | exact k12 | exact k13 | exact k14 | exact k15 | exact k16 | exact k17 | exact k18 | fail) (first
          | (refine tU rfl _ _ rfl w5.heap.size (.slice a6 ns c6) s.ws rfl HOA.out w10.heap.size 1 rfl ⟨t, 0, K, key, val, N⟩ (heap_alloc_new _ _) (by have := HNS3.out; have := HNS.out; omega) (by have := HS10.out; simp; omega) ?_; rintro v12 w12 ho12 hg12 _; obtain ⟨a12, c12, rfl, _⟩ := ho12.is.form; rw [← HNW.out] at ho12 ⊢; have HB12 := Lib.hid (HB11.out.grown hg12 (fun k e => .inl e)); have k12 := (UP.out _ HB12.out).1; have HW12 := Lib.hid ho12.is; clear ho12 hg12)
          | (go_at_call 16; ((with_reducible refine (LwT (UP.out _ HB12.out).2.1 HOKP.out _ nw HF1.out HNW.out.symm).mono ?_); rintro r' w13 ⟨a13, c13, rfl, ho13, hb13⟩; have HB13 := Lib.hid (HB12.out.below_on hb13); have k13 := (UP.out _ HB13.out).1; have HW13 := Lib.hid ho13; have HX13 := Lib.hid (HW12.out.below hb13); clear ho13 hb13))
          | (go_at_call 24; ((with_reducible refine (equalW_b (.slice a12 nw c12) (.slice a13 nw c13) (s.ws ++ [⟨t, 0, K, key, val, N⟩]) w13 HX13.out HW13.out (by rw [List.length_append, List.length_singleton]; have := HOKS.out.len; omega)).mono ?_); rintro r' w14 ⟨rfl, hb14⟩; have HB14 := Lib.hid (HB13.out.below_on hb14); have k14 := (UP.out _ HB14.out).1; clear hb14))
          | (go_at_call 17; ((with_reducible refine (LhT (UP.out w14 HB14.out).2.1 HOKP.out nv' HNVP.out.symm).mono ?_); rintro r' w15 ⟨a15, c15, rfl, ho15, hb15⟩; have HB15 := Lib.hid (HB14.out.below_on hb15); have k15 := (UP.out _ HB15.out).1; have HW15 := Lib.hid ho15; clear ho15 hb15))
          | (go_at_call 19; ((with_reducible refine (fJ (.slice a15 nv' c15) s'.hv 0 t w15 HW15.out (Nat.le_trans HP16.out (by decide)) HF2.out).mono ?_); rintro r' w16 ⟨rfl, hb16⟩; have HB16 := Lib.hid (HB15.out.below_on hb16); have k16 := (UP.out _ HB16.out).1; clear hb16))
          | (go_at_call 17; ((with_reducible refine (LhT (UP.out w16 HB16.out).2.1 HOKP.out nv' HNVP.out.symm).mono ?_); rintro r' w17 ⟨a17, c17, rfl, ho17, hb17⟩; have HB17 := Lib.hid (HB16.out.below_on hb17); have k17 := (UP.out _ HB17.out).1; have HW17 := Lib.hid ho17; clear ho17 hb17))
          | (go_at_call 26; ((with_reducible refine (dn (.slice a17 nv' c17) (.slice a7 nv c7) s'.hv s.hv true w17 HW17.out (UP.out _ HB17.out).2.2 (Nat.le_trans HP16.out (by decide)) (Nat.le_trans HV16.out (by decide)) HF3.out).mono ?_); rintro r' w18 ⟨rfl, hb18⟩; have HB18 := Lib.hid (HB17.out.below_on hb18); have k18 := (UP.out _ HB18.out).1; clear hb18))
          | fail)
        go_wp2
        go_ret
        exact ⟨rfl, HBZ.out _ HB18.out⟩
      · obtain ⟨e, hee⟩ : ∃ e, lcE s ⟨T, Re, K, key, val, N⟩ = e := ⟨_, rfl⟩
        have he0 : e ≠ 0 := by rw [← hee]; exact he
        have HE := Lib.hid hee
        have HE0 := Lib.hid he0
        clear he hee he0
        go_wp2_with (first
          | (go_at_call 16; (with_reducible refine (iq HP.out.pt.logs HL.out s.ws ns rfl HNS.out.symm).mono ?_); rintro r w6 ⟨a6, c6, rfl, o6, hb6⟩; have HL6 := Lib.hid (HP.out.pt.logs.call (D' := fun q => w5.heap.size ≤ q ∧ q < w6.heap.size) hb6 (fun _ h => .inr h)); have HO6 := Lib.hid o6; have HS6 := Lib.hid hb6.size; clear o6 hb6)
          | (go_at_call 17; (with_reducible refine (bH HL6.out HL.out nv HNV.out.symm).mono ?_); rintro r w7 ⟨a7, c7, rfl, o7, hb7⟩; have HL7 := Lib.hid (HL6.out.call (D' := fun q => w5.heap.size ≤ q ∧ q < w7.heap.size) hb7 (fun q h => by rcases Nat.lt_or_ge q w6.heap.size with h2 | h2; exact .inl ⟨h.1, h2⟩; exact .inr ⟨h2, h.2⟩)); have HO6B := Lib.hid (HO6.out.below hb7); have HO7 := Lib.hid o7; have HS7 := Lib.hid hb7.size; have hr7 := (HL7.out.bel.block _ HLT3.out).trans HR3.out; have r0 := cell_of_row _ _ 0 _ _ _ hr7; have r1 := cell_of_row _ _ 1 _ _ _ hr7; have r2 := cell_of_row _ _ 2 _ _ _ hr7; have r3 := cell_of_row _ _ 3 _ _ _ hr7; have r4 := cell_of_row _ _ 4 _ _ _ hr7; have r5 := cell_of_row _ _ 5 _ _ _ hr7; simp only [List.getElem?_toArray, List.getElem?_cons_zero, List.getElem?_cons_succ] at r0 r1 r2 r3 r4 r5; clear o7 hb7 hr7)
          | (go_at_call 30; (with_reducible refine (pI HL7.out HL.out T Re K key val N hks hvs (HG0.out.below (HB3.out.trans (HL7.out.bel.mono HB3.out.size))) HE.out HE0.out).mono ?_); rintro r w8 ⟨rfl, h8, hb8⟩; have HL9 := Lib.hid (h8.keep ((Below.refl _ _).alloc (Nat.le_refl _) (.cells #[.int .i64 0, .int .i64 0] 36))); have HO9 := Lib.hid ((HO6B.out.is.below hb8).alloc (.cells #[.int .i64 0, .int .i64 0] 36)); have HV9 := Lib.hid ((HO7.out.is.below hb8).alloc (.cells #[.int .i64 0, .int .i64 0] 36)); clear h8 hb8 r0 r1 r2 r3 r4 r5)
          | (go_at_call 16; (with_reducible refine (iq HL9.out HL.out s.ws ns rfl HNS.out.symm).mono ?_); rintro r w10 ⟨a10, c10, rfl, o10, hb10⟩; have HL10 := Lib.hid (HL9.out.keep hb10); have HO10 := Lib.hid (HO9.out.below hb10); have HV10 := Lib.hid (HV9.out.below hb10); have HW10 := Lib.hid o10.is; clear o10 hb10)
          | (go_at_call 24; (with_reducible refine (equalW_b (.slice a6 ns c6) (.slice a10 ns c10) s.ws w10 HO10.out HW10.out (Nat.le_trans HOKS.out.len (by decide))).mono ?_); rintro r w11 ⟨rfl, hb11⟩; have HL11 := Lib.hid (HL10.out.keep hb11); have HV11 := Lib.hid (HV10.out.below hb11); clear hb11)
          | (go_at_call 17; (with_reducible refine (bH HL11.out HL.out nv HNV.out.symm).mono ?_); rintro r w12 ⟨a12, c12, rfl, o12, hb12⟩; have HL12 := Lib.hid (HL11.out.keep hb12); have HV12 := Lib.hid (HV11.out.below hb12); have HW12 := Lib.hid o12.is; clear o12 hb12)
          | (go_at_call 29; (with_reducible refine (equalE_b (.slice a7 nv c7) (.slice a12 nv c12) s.hv w12 HV12.out HW12.out (Nat.le_trans HV16.out (by decide))).mono ?_); rintro r w13 ⟨rfl, hb13⟩; have HL13 := Lib.hid (HL12.out.keep hb13); clear hb13)
          | fail)
        go_ret
        exact ⟨rfl, HB0.out.trans ((HB3.out.trans (HL13.out.bel.mono HB3.out.size)).mono HB0.out.size)⟩
  · have HS : Hid (dZ l = false) := Lib.hid (by simpa using hs)
    clear hs
    go_wp2_with (first
      | (go_at_call 11; refine (gf W0 HG0.out).mono ?_; rintro r w1 ⟨rfl, hb1⟩; have HB1 := Lib.hid hb1; clear hb1)
      | (go_at_call 12; refine (gj w1).mono ?_; rintro r w2 ⟨rfl, hb2⟩; have HB2 := Lib.hid (HB1.out.trans (hb2.mono HB1.out.size)); clear hb2)
      | (go_at_call 13; (with_reducible refine (gt _ l w2 (HA0.out.below HB2.out) hl HOK.out false HS.out).mono ?_); rintro r w3 ⟨rfl, hb3⟩; have HB3 := Lib.hid (HB2.out.trans (hb3.mono HB2.out.size)); clear hb3)
      | fail)
    go_ret
    exact ⟨rfl, HB0.out.trans (HB3.out.mono HB0.out.size)⟩
end Go.Proofs.YtdhognaoejiglaaGreatDoor
