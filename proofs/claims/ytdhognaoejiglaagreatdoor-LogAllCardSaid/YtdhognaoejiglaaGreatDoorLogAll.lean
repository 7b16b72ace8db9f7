/-
  The walk of 'packtrainkeep.LogAll'.
-/
import Derived.Test.YtdhognaoejiglaaGreatDoorKa45
import Derived.StillTailTactics
import Derived.Deep.RegionHeld3
import Derived.Test.YtdhognaoejiglaaGreatDoorKa14
import Derived.Test.YtdhognaoejiglaaGreatDoorKa34
import Derived.Test.YtdhognaoejiglaaGreatDoorKa08
import Derived.Test.YtdhognaoejiglaaGreatDoorKa06
namespace Go.Proofs.YtdhognaoejiglaaGreatDoor
open Go.RowKit

/-- A party in the middle of its laps. -/
structure RL (W w : World) (n g c : Nat) (U : List Wr) (T : Nat → Int) (L : List (Nat × LogS)) : Prop where
  ps : PS W w n 60 g c L U
  ring : Ring U (L.map Prod.snd) T
theorem RL.len {W w : World} {n g c : Nat} {U : List Wr} {T : Nat → Int} {L : List (Nat × LogS)} (h : RL W w n g c U T L) : (L.map Prod.snd).length = n := by rw [List.length_map]; exact h.ps.len
theorem PS.cell0 {W w : World} {n k g c : Nat} {L : List (Nat × LogS)} {U : List Wr} (h : PS W w n k g c L U) {q P : Nat} {s : LogS} (hq : L[q]? = some (P, s)) : w.cell? ⟨g, q, none⟩ = some (.pointer (some ⟨P, 0, none⟩)) := by
  obtain ⟨P', s', e, _, h2⟩ := h.cell (q := q) (by rw [← h.len]; exact (List.getElem?_eq_some_iff.1 hq).1)
  rw [hq] at e
  obtain ⟨rfl, rfl⟩ := Prod.mk.inj (Option.some.inj e)
  exact h2
/-- One meeting of the first lap; of the second one. -/
theorem RL.met {W w w' : World} {n g c : Nat} {U : List Wr} {T : Nat → Int} {L : List (Nat × LogS)} (h : RL W w n g c U T L) {i j Pi Pj : Nat} {s t t' : LogS} (hi : L[i]? = some (Pi, s)) (hj : L[j]? = some (Pj, t)) (hp : PT W w' (fun i => g = i) (.slice (some ⟨g, 0, none⟩) n c) (L.set j (Pj, t'))) (hq : b7 U ((L.map Prod.snd).set j t')) (hm : ∀ r, ofF t'.hv r = max (ofF t.hv r) (ofF s.hv r)) : RL W w' n g c U T (L.set j (Pj, t')) :=
  ⟨h.ps.met hp hq, by rw [fc]; exact h.ring.step (cV (bQ hi)) (bQ hj) hq hm⟩
theorem RL.lapA {W w : World} {n g c : Nat} {U : List Wr} {T : Nat → Int} {L : List (Nat × LogS)} (h : RL W w n g c U T L) {i Pi Pj : Nat} {s t t' : LogS} (hin : i < n) (hi : L[i]? = some (Pi, s)) (hj : L[(i + 1) % n]? = some (Pj, t)) (hA : LapA (L.map Prod.snd) T i) (hm : ∀ r, ofF t'.hv r = max (ofF t.hv r) (ofF s.hv r)) : LapA ((L.set ((i + 1) % n) (Pj, t')).map Prod.snd) T (i + 1) := by
  have hl := h.len
  have := Bk (t' := t') h.ring (by omega) hA (bQ hi) (by rw [hl]; exact bQ hj) hm
  rw [hl] at this
  rw [fc]; exact this
theorem RL.lapB {W w : World} {n g c : Nat} {U : List Wr} {T : Nat → Int} {L : List (Nat × LogS)} (h : RL W w n g c U T L) {i Pi Pj : Nat} {s t t' : LogS} (hi : L[i]? = some (Pi, s)) (hj : L[(i + 1) % n]? = some (Pj, t)) (hB : LapB (L.map Prod.snd) T i) (hm : ∀ r, ofF t'.hv r = max (ofF t.hv r) (ofF s.hv r)) : LapB ((L.set ((i + 1) % n) (Pj, t')).map Prod.snd) T (i + 1) := by
  have hl := h.len
  have := Bm (t' := t') h.ring hB (bQ hi) (by rw [hl]; exact bQ hj) hm
  rw [hl] at this
  rw [fc]; exact this
set_option maxRecDepth 100000 in
set_option maxHeartbeats 16000000 in
theorem logAll_walk (W : World) (a0 : Int) (_h0 : -9223372036854775808 ≤ a0) (_h1 : a0 ≤ 9223372036854775807) (v : Value) (l : List Actn) (h : cD W v l) (hl : l.length ≤ 9223372036854775807) (hok : ∀ x ∈ l, WrOk x.w) (hg : errT W) :
    Calls Tryz.prog 10 #[.int .i64 a0, v] W fun e w' => e = .returned (.bool true) ∧ Below W.heap.size W w' := by
  have HG := Lib.hid hg
  have HA := Lib.hid h
  have HOK := Lib.hid hok
  obtain ⟨q, hq⟩ : ∃ q : Nat, bD a0 5 = (q : Int) := ⟨(bD a0 5).toNat, by have := bX (a := a0) (n := 5) (by omega); omega⟩
  have hq5 : q < 5 := by have := bX (a := a0) (n := 5) (by omega); omega
  have HQ := Lib.hid hq
  obtain ⟨n, hn⟩ : ∃ n : Nat, n = 1 + q := ⟨_, rfl⟩
  have hn1 : (1 : Int) + (q : Int) = (n : Int) := by omega
  have hn2 : IntKind.i64.wrap ((1 : Int) + (q : Int)) = (n : Int) := by rw [hn1]; exact IntWalk.i64_in _ (by omega)
  have hn3 : 1 ≤ n ∧ n ≤ 5 := by omega
  have HN := Lib.hid hn3
  obtain ⟨hn4, hn5⟩ := hn3
  clear hq hn hq5 h hok hg
  by_cases hs : dg l = true
  · have HS := Lib.hid hs
    clear hs
    go_enter Tryz.func10, Tryz.ntmps10
    go_wp2_with (first
      | (go_at_call 11; refine (eW W HG.out).mono ?_; rintro r w1 ⟨rfl, hb1⟩; have HB1 := Lib.hid hb1; clear hb1)
      | (go_at_call 13; (with_reducible refine (fd _ l w1 (HA.out.below HB1.out) hl HOK.out true HS.out).mono ?_); rintro r w3 ⟨rfl, hb3⟩; have HB3 := Lib.hid (HB1.out.trans (hb3.mono HB1.out.size)); clear hb3)
      | (go_at_call 14; (with_reducible refine (dK a0 5 w3 (by omega) (by omega)).mono ?_); rintro r w4 ⟨rfl, rfl⟩; rw [HQ.out])
      | (go_at_call 15; (with_reducible refine (jH n HN.out _ l w3 (HA.out.below HB3.out) HS.out HOK.out (HG.out.below HB3.out)).mono ?_); rintro r w5 ⟨g, c, L, U, rfl, hp⟩; have HP := Lib.hid hp; clear hp)
      | fail)
    obtain ⟨T, hT⟩ := Ei HP.out.party
    have HR : Hid (RL w3 w5 n g c U T L) := Lib.hid ⟨HP.out, hT⟩
    clear hT
    go_loopw [26] (fun i wr => ∃ r : Nat, r ≤ 2 ∧ i = .int .i64 r ∧ ∃ L, RL w3 wr n g c U T L ∧ (r = 1 → LapB (L.map Prod.snd) T 0) ∧ (r = 2 → LapB (L.map Prod.snd) T n)) (fun i _ => 2 - (intOf i).toNat)
    case atStart => exact ⟨0, by omega, rfl, _, HR.out, fun h => by omega, fun h => by omega⟩
    case round =>
      obtain ⟨r, hr2, rfl, L, hrl, hB1, hB2⟩ := hrel
      have HR1 := Lib.hid hrl
      have HB1L := Lib.hid hB1
      have HB2L := Lib.hid hB2
      clear hrl hB1 hB2 HR HP
      by_cases hlt : r < 2
      · have b1 : decide ((r : Int) < 2) = true := by simp; omega
        go_wp2
        go_loopw [30] (fun i wr => ∃ k : Nat, k ≤ n ∧ i = .int .i64 k ∧ ∃ L, RL w3 wr n g c U T L ∧ (r = 0 → LapA (L.map Prod.snd) T k) ∧ (r = 1 → LapB (L.map Prod.snd) T k)) (fun i _ => n - (intOf i).toNat)
        case atStart => exact ⟨0, by omega, rfl, L, HR1.out, fun _ => Bj HR1.out.ring, HB1L.out⟩
        case round =>
          obtain ⟨k, hk, rfl, L2, hrl, hA, hB⟩ := hrel
          have HR2 := Lib.hid hrl
          have HLA := Lib.hid hA
          have HLB := Lib.hid hB
          clear hrl hA hB HR1 HB1L HB2L
          by_cases hltk : k < n
          · have b2 : decide ((k : Int) < (n : Int)) = true := by simpa using hltk
            obtain ⟨j, hj⟩ : ∃ j, j = (k + 1) % n := ⟨_, rfl⟩
            have hjn : j < n := by rw [hj]; exact Nat.mod_lt _ (by omega)
            have hrem : ((k : Int) + 1).tmod (n : Int) = (j : Int) := by rw [Int.tmod_eq_emod_of_nonneg (by omega), hj]; simp
            have hn0 : ((n : Int) == 0) = false := by simp; omega
            have hnz : n ≠ 0 := by omega
            have hnz2 : (n = 0) = False := eq_false hnz
            have hw1 : IntKind.i64.wrap ((k : Int) + 1) = (k : Int) + 1 := IntWalk.i64_in _ (by omega)
            have hw2 : IntKind.i64.wrap (j : Int) = (j : Int) := IntWalk.i64_in _ (by omega)
            obtain ⟨P1, s1, hL1, hg1, hc1⟩ := HR2.out.ps.cell hltk
            obtain ⟨P2, s2, hL2, _, hc2⟩ := HR2.out.ps.cell hjn
            have HJ := Lib.hid hj
            have HL1 := Lib.hid hL1
            have HL2 := Lib.hid hL2
            have HRD : Hid (RL w3 wr.drew n g c U T L2) := Lib.hid ⟨HR2.out.ps.keep (Below.refl _ wr).drew, HR2.out.ring⟩
            clear hj hL1 hL2
            go_wp2
            go_still_tail 11, (by kernel_rfl)
            change wpList _ _ _ _ _ wr.drew
            generalize wr.drew = wd at HRD ⊢
            go_wp2_with (go_at_call 36; (with_reducible refine (oC HRD.out.ps.pt HRD.out.ps.party HRD.out.ps.few (by have := HRD.out.ps.len; omega) HL1.out HL2.out (HG.out.below HB3.out)).mono ?_); rintro r' w6 ⟨rfl, t', hp6, hq6, hm6⟩; have HR6 := Lib.hid (HRD.out.met HL1.out HL2.out hp6 hq6 hm6); have HM6 := Lib.hid hm6; clear hp6 hq6 hm6)
            go_roundw
            · refine ⟨k + 1, by omega, by simp, _, HR6.out, fun h => ?_, fun h => ?_⟩
              · have := HRD.out.lapA hltk HL1.out (by rw [← HJ.out]; exact HL2.out) (HLA.out h) HM6.out
                rw [← HJ.out] at this
                exact this
              · have := HRD.out.lapB HL1.out (by rw [← HJ.out]; exact HL2.out) (HLB.out h) HM6.out
                rw [← HJ.out] at this
                exact this
            · simp [intOf]; omega
          · have b2 : decide ((k : Int) < (n : Int)) = false := by simp; omega
            obtain rfl : k = n := by omega
            go_wp2
            go_roundw
            · refine ⟨r + 1, by omega, by simp, L2, HR2.out, fun h => ?_, fun h => ?_⟩
              · exact Bl (by rw [HR2.out.len]; exact HLA.out (by omega))
              · exact HLB.out (by omega)
            · simp [intOf]; omega
      · have b1 : decide ((r : Int) < 2) = false := by simp; omega
        have HPE := Lib.hid HR1.out.ps
        have HFU : Hid (∀ (i j Pi Pj : Nat) (si sj : LogS), L[i]? = some (Pi, si) → L[j]? = some (Pj, sj) → si.hv = sj.hv ∧ si.ws = sj.ws) := Lib.hid (fun i j Pi Pj si sj hi hj => by
          have hB := HB2L.out (by omega)
          have hl := HR1.out.len
          have il : i < n := by rw [← HR1.out.ps.len]; exact (List.getElem?_eq_some_iff.1 hi).1
          have jl : j < n := by rw [← HR1.out.ps.len]; exact (List.getElem?_eq_some_iff.1 hj).1
          exact Ab HR1.out.ring (cV (bQ hi)) (cV (bQ hj)) (hB i (by omega) si (bQ hi)) (hB j (by omega) sj (bQ hj)))
        obtain ⟨P0, s0, hL0, _, _⟩ := HPE.out.cell (q := 0) (by omega)
        have HL0 := Lib.hid hL0
        clear hL0 HR1 HB1L HB2L
        go_wp2
        go_loopw [50] (fun i wr => ∃ k : Nat, k ≤ n ∧ i = .int .i64 k ∧ PS w3 wr n 60 g c L U) (fun i _ => n - (intOf i).toNat)
        case atStart => exact ⟨0, by omega, rfl, HPE.out⟩
        case round =>
          obtain ⟨k, hk, rfl, hp⟩ := hrel
          have HP2 := Lib.hid hp
          clear hp HPE
          by_cases hltk : k < n
          · have b2 : decide ((k : Int) < (n : Int)) = true := by simpa using hltk
            have hi0 : (0 : Int) < (n : Int) := by omega
            have hi1 : decide ((0 : Int) < (n : Int)) = true := by simp; omega
            have hi2 : 0 < n := by omega
            obtain ⟨P, s1, hL, hg1, hc1⟩ := HP2.out.cell hltk
            have hc0 := HP2.out.cell0 HL0.out
            have HL := Lib.hid hL
            have HE := Lib.hid (HFU.out k 0 P P0 s1 s0 hL HL0.out)
            have HOK1 := Lib.hid (HP2.out.pt.logs.ok _ (List.mem_of_getElem? hL))
            have HH16 := Lib.hid HOK1.out.hv.1
            have HPD := Lib.hid (HP2.out.keep (Below.refl _ wr).drew)
            have k0 := HPD.out.cell0 HL0.out
            obtain ⟨nh, hnh⟩ : ∃ m, m = s1.hv.length := ⟨_, rfl⟩
            obtain ⟨nw, hnw⟩ : ∃ m, m = s1.ws.length := ⟨_, rfl⟩
            have HNH := Lib.hid hnh
            have HNW := Lib.hid hnw
            clear hL hnh hnw
            go_wp2
            go_region_held3 (fun w' => w'.cell? ⟨g, 0, none⟩ = some (.pointer (some ⟨P0, 0, none⟩))) (first | exact k0 | exact k1 | exact k2 | exact k3 | exact k4 | exact k5 | exact k6 | exact k7 | exact k8 | exact k9 | fail) (first
              | (go_at_call 16; ((with_reducible refine (fD HPD.out.pt.logs HL.out s1.ws nw rfl HNW.out.symm).mono ?_); rintro r' u1 ⟨b1', d1, rfl, o1, hb1⟩; have HU1 := Lib.hid (HPD.out.keep hb1); have HO1 := Lib.hid o1.is; have k1 := HU1.out.cell0 HL0.out; clear o1 hb1))
              | (go_at_call 16; ((with_reducible refine (fD HU1.out.pt.logs HL0.out s1.ws nw HE.out.2.symm HNW.out.symm).mono ?_); rintro r' u2 ⟨b2', d2, rfl, o2, hb2⟩; have HU2 := Lib.hid (HU1.out.keep hb2); have HO1B := Lib.hid (HO1.out.below hb2); have HO2 := Lib.hid o2.is; have k2 := HU2.out.cell0 HL0.out; clear o2 hb2))
              | (go_at_call 24; ((with_reducible refine (iY _ _ s1.ws s1.ws true u2 HO1B.out HO2.out (Nat.le_trans HOK1.out.len (by decide)) (Nat.le_trans HOK1.out.len (by decide)) (by simp)).mono ?_); rintro r' u3 ⟨rfl, q3, hq3⟩; have HU3 := Lib.hid (HU2.out.keep (w' := u3) (by rw [hq3]; exact ed (Below.refl _ _) q3)); have k3 := HU3.out.cell0 HL0.out; clear hq3))
              | (go_at_call 17; ((with_reducible refine (bH HU3.out.pt.logs HL.out nh HNH.out.symm).mono ?_); rintro r' u4 ⟨b4, d4, rfl, o4, hb4⟩; have HU4 := Lib.hid (HU3.out.keep hb4); have HO4 := Lib.hid o4.is; have k4 := HU4.out.cell0 HL0.out; clear o4 hb4))
              | (go_at_call 17; ((with_reducible refine (bH HU4.out.pt.logs HL0.out nh (by rw [← HE.out.1]; exact HNH.out.symm)).mono ?_); rintro r' u5 ⟨b5, d5, rfl, o5, hb5⟩; have HU5 := Lib.hid (HU4.out.keep hb5); have HO4B := Lib.hid (HO4.out.below hb5); have HO5 : Hid (ag u5 (.slice b5 nh d5) s1.hv) := Lib.hid (by have := o5.is; rwa [← HE.out.1] at this); have k5 := HU5.out.cell0 HL0.out; clear o5 hb5))
              | (go_at_call 29; ((with_reducible refine (rD _ _ s1.hv s1.hv true u5 HO4B.out HO5.out (Nat.le_trans HH16.out (by decide)) (Nat.le_trans HH16.out (by decide)) (by simp)).mono ?_); rintro r' u6 ⟨rfl, q6, hq6⟩; have HU6 := Lib.hid (HU5.out.keep (w' := u6) (by rw [hq6]; exact ed (Below.refl _ _) q6)); have k6 := HU6.out.cell0 HL0.out; clear hq6))
              | (go_at_call 34; ((with_reducible refine (gI HU6.out.pt.logs HL.out).mono ?_); rintro r' u7 ⟨v7, rfl, hv7, hb7, _⟩; have HU7 := Lib.hid (HU6.out.keep hb7); have HV7 := Lib.hid hv7; have k7 := HU7.out.cell0 HL0.out; clear hv7 hb7))
              | (go_at_call 34; ((with_reducible refine (gI HU7.out.pt.logs HL0.out).mono ?_); rintro r' u8 ⟨v8, rfl, hv8, hb8, _⟩; have HU8 := Lib.hid (HU7.out.keep hb8); have HV7B := Lib.hid (HV7.out.below hb8); have HV8 : Hid (bS u8 v8 (aY s1.ws)) := Lib.hid (by rw [HE.out.2]; exact hv8); have k8 := HU8.out.cell0 HL0.out; clear hv8 hb8))
              | (go_at_call 33; ((with_reducible refine (oY _ _ s1.ws u8 HV7B.out HV8.out (Nat.le_trans HOK1.out.len (by decide))).mono ?_); rintro r' u9 ⟨rfl, hb9⟩; have HU9 := Lib.hid (HU8.out.keep hb9); have k9 := HU9.out.cell0 HL0.out; clear hb9))
              | fail)
            all_goals
              go_wp2
              go_roundw
              · exact ⟨k + 1, by omega, by simp, HU9.out⟩
              · simp [intOf]; omega
          · have b2 : decide ((k : Int) < (n : Int)) = false := by simp; omega
            obtain rfl : k = n := by omega
            go_wp2
            go_ret
            exact ⟨rfl, HB3.out.trans (HP2.out.pt.logs.bel.mono HB3.out.size)⟩
  · have HS : Hid (dg l = false) := Lib.hid (by simpa using hs)
    clear hs
    go_enter Tryz.func10, Tryz.ntmps10
    go_wp2_with (first
      | (go_at_call 11; refine (eW W HG.out).mono ?_; rintro r w1 ⟨rfl, hb1⟩; have HB1 := Lib.hid hb1; clear hb1)
      | (go_at_call 13; (with_reducible refine (fd _ l w1 (HA.out.below HB1.out) hl HOK.out false HS.out).mono ?_); rintro r w3 ⟨rfl, hb3⟩; have HB3 := Lib.hid (HB1.out.trans (hb3.mono HB1.out.size)); clear hb3)
      | fail)
    go_ret
    exact ⟨rfl, HB3.out⟩
end Go.Proofs.YtdhognaoejiglaaGreatDoor
