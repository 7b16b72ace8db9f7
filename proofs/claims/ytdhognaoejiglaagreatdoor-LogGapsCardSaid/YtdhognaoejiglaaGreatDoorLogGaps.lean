/-
  The walk of 'packtrainkeep.LogGaps'.
-/
import Derived.Test.YtdhognaoejiglaaGreatDoorKa45
namespace Go.Proofs.YtdhognaoejiglaaGreatDoor
open Go.RowKit

set_option maxRecDepth 100000 in
set_option maxHeartbeats 16000000 in
theorem logGaps_walk (W : World) (a0 : Int) (_h0 : -9223372036854775808 ≤ a0) (_h1 : a0 ≤ 9223372036854775807) (v : Value) (l : List Actn) (h : cD W v l) (hl : l.length ≤ 9223372036854775807) (hok : ∀ x ∈ l, WrOk x.w) (a1 : Int) (_h2 : -9223372036854775808 ≤ a1) (_h3 : a1 ≤ 9223372036854775807) (hg : errT W) :
    Calls Tryz.prog 8 #[.int .i64 a0, v, .int .i64 a1] W fun e w' => e = .returned (.bool true) ∧ Below W.heap.size W w' := by
  have HG := Lib.hid hg
  have HA := Lib.hid h
  have HOK := Lib.hid hok
  obtain ⟨q, hq⟩ : ∃ q : Nat, bD a0 5 = (q : Int) := ⟨(bD a0 5).toNat, by have := bX (a := a0) (n := 5) (by omega); omega⟩
  have hq5 : q < 5 := by have := bX (a := a0) (n := 5) (by omega); omega
  have HQ := Lib.hid hq
  obtain ⟨n, hn⟩ : ∃ n : Nat, n = 1 + q := ⟨_, rfl⟩
  have hn1 : (1 : Int) + (q : Int) = (n : Int) := by omega
  have hn2 : IntKind.i64.wrap ((1 : Int) + (q : Int)) = (n : Int) := by rw [hn1]; exact IntWalk.i64_in _ (by omega)
  have hn3 : 1 ≤ n ∧ n ≤ 5 := by omega
  have HN := Lib.hid hn3
  obtain ⟨hn4, hn5⟩ := hn3
  clear hq hn hq5 h hok hg
  by_cases hs : dg l = true
  · have HS := Lib.hid hs
    clear hs
    go_enter Tryz.func8, Tryz.ntmps8
    go_wp2_with (first
      | (go_at_call 11; refine (eW W HG.out).mono ?_; rintro r w1 ⟨rfl, hb1⟩; have HB1 := Lib.hid hb1; clear hb1)
      | (go_at_call 13; (with_reducible refine (fd _ l w1 (HA.out.below HB1.out) hl HOK.out true HS.out).mono ?_); rintro r w3 ⟨rfl, hb3⟩; have HB3 := Lib.hid (HB1.out.trans (hb3.mono HB1.out.size)); clear hb3)
      | (go_at_call 14; (with_reducible refine (dK a0 5 w3 (by omega) (by omega)).mono ?_); rintro r w4 ⟨rfl, rfl⟩; rw [HQ.out])
      | (go_at_call 15; (with_reducible refine (jH n HN.out _ l w3 (HA.out.below HB3.out) HS.out HOK.out (HG.out.below HB3.out)).mono ?_); rintro r w5 ⟨g, c, L, U, rfl, hp⟩; have HP := Lib.hid hp; clear hp)
      | (go_at_call 21; (with_reducible refine (Gnew HP.out.pt.logs 9 (by omega)).mono ?_); rintro r w6 ⟨rfl, h6, hb6⟩; have HL6 := Lib.hid h6; obtain ⟨P, s, hL, hg1, hc1⟩ := HP.out.cell (q := 0) (by have := HN.out; omega); have hc2 := (hb6.cell (p := ⟨g, 0, none⟩) hg1).trans hc1; have hg2 : g < w6.heap.size := aK hc2; have HL := Lib.hid (qi hL (w5.heap.size, (⟨9, [], []⟩ : LogS))); have HOKS := Lib.hid (HP.out.pt.logs.ok _ (List.mem_of_getElem? hL)); have HC2 := Lib.hid hc2; clear h6 hb6 hL hg1 hc1; obtain ⟨nv, hnv⟩ : ∃ m, m = s.hv.length := ⟨_, rfl⟩; have HNV := Lib.hid hnv; clear hnv)
      | fail)
    by_cases hz : nv = 0
    · have b1 : ((nv : Int) == 0) = true := by simp; omega
      clear hz
      go_wp2_with (first
        | (go_at_call 17; (with_reducible refine (bH HL6.out HL.out nv HNV.out.symm).mono ?_); rintro r w7 ⟨a7, c7, rfl, ho7, hb7⟩; have HL7 := Lib.hid (HL6.out.keep hb7); have HO7 := Lib.hid ho7.is; have hc7 := (hb7.cell (p := ⟨g, 0, none⟩) (aK HC2.out)).trans HC2.out; have hg7 : g < w7.heap.size := aK hc7; have HC7 := Lib.hid hc7; clear ho7 hb7 hc2 hg2)
        | fail)
      go_ret
      exact ⟨rfl, HB3.out.trans (HL7.out.bel.mono HB3.out.size)⟩
    · have b1 : ((nv : Int) == 0) = false := by simp; omega
      have hnv0 : 0 < nv := by omega
      clear hz
      go_wp2_with (first
        | (go_at_call 17; (with_reducible refine (bH HL6.out HL.out nv HNV.out.symm).mono ?_); rintro r w7 ⟨a7, c7, rfl, ho7, hb7⟩; have HL7 := Lib.hid (HL6.out.keep hb7); have HO7 := Lib.hid ho7.is; have hc7 := (hb7.cell (p := ⟨g, 0, none⟩) (aK HC2.out)).trans HC2.out; have hg7 : g < w7.heap.size := aK hc7; have HC7 := Lib.hid hc7; clear ho7 hb7 hc2 hg2)
        | fail)
      have hnv16 : nv ≤ 16 := by rw [HNV.out]; exact HOKS.out.hv.1
      obtain ⟨j, hj⟩ : ∃ j : Nat, bD a1 nv = (j : Int) := ⟨(bD a1 nv).toNat, by have := bX (a := a1) (n := (nv : Int)) (by omega); omega⟩
      have hjn : j < nv := by have := bX (a := a1) (n := (nv : Int)) (by omega); omega
      have HJ := Lib.hid hj
      obtain ⟨e, he⟩ : ∃ e, s.hv[j]? = some e := ⟨_, List.getElem?_eq_getElem (by rw [← HNV.out]; exact hjn)⟩
      obtain ⟨k1, k2, k3⟩ := D3 HOKS.out (List.mem_of_getElem? he)
      have hso := jP HOKS.out k1 (by
        unfold bj at k2
        split at k2
        · rename_i hn; exact absurd k2 hn
        · split at k2
          · cases k2
          · rename_i hc; simpa using hc)
      have hrb := mi HOKS.out k1 hso
      obtain ⟨sh, hsh⟩ : ∃ sh, ay s [e] = sh := ⟨_, rfl⟩
      obtain ⟨sb, hsb⟩ : ∃ sb, ak s [e] = sb := ⟨_, rfl⟩
      rw [hsh, hsb] at hrb hso
      have hrw := dx.1 hrb
      have hacc : accE ⟨9, [], []⟩ [e] sh sb = (10, -1) := q9 hrb k3
      obtain ⟨nh, hnh⟩ : ∃ m, m = sh.length := ⟨_, rfl⟩
      obtain ⟨nb, hnb⟩ : ∃ m, m = sb.length := ⟨_, rfl⟩
      obtain ⟨a', c', e0, hf⟩ := HO7.out.form
      simp only [Value.slice.injEq] at e0
      obtain ⟨rfl, e1, e2⟩ := e0
      clear e1 e2
      obtain ⟨b', off, rfl, hbl, x0, x1⟩ := hf j e he
      have HE := Lib.hid k2
      have HSH := Lib.hid hsh
      have HSB := Lib.hid hsb
      have HNH := Lib.hid hnh
      have HNB := Lib.hid hnb
      have HRW := Lib.hid hrw
      have HAC := Lib.hid hacc
      obtain ⟨er, et⟩ := e
      simp only at x0 x1
      have HL7A := Lib.hid (HL7.out.keep ((Below.refl _ _).alloc (Nat.le_refl _) (.cells #[.int .i64 er, .int .i64 et] 58)))
      have HI7 : Hid (ag (w7.alloc (.cells #[.int .i64 er, .int .i64 et] 58)) (.slice (some ⟨w7.heap.size, 0, none⟩) 1 1) [⟨er, et⟩]) := Lib.hid (rz (heap_alloc_new _ _))
      clear hj he k1 k2 k3 hso hrb hsh hsb hrw hacc hnh hnb hf
      go_wp2_with (first
        | (go_at_call 14; (with_reducible refine (dK a1 nv w7 (by omega) (by omega)).mono ?_); rintro r w4 ⟨rfl, rfl⟩; rw [HJ.out])
        | (go_at_call 22; (with_reducible refine (eE HL7A.out HL.out _ [⟨er, et⟩] HI7.out (by simp) (HG.out.below (HB3.out.trans (HL7A.out.bel.mono HB3.out.size))) HE.out 1 nh nb sh sb rfl HSH.out HSB.out HNH.out.symm HNB.out.symm).mono ?_); rintro r w8 ⟨a1', c1, a2, c2, a3, c3, rfl, o1, o2, o3, hb8⟩; have HL8 := Lib.hid ((HL7A.out.keep hb8).keep ((Below.refl _ _).alloc (Nat.le_refl _) (.cells #[.slice a1' 1 c1, .slice a2 nh c2, .slice a3 nb c3] 47))); have HX8 := Lib.hid ((eJ o1 o2 o3 (by simp) (by have := HRW.out.1.2.1.1; omega) (by have := HRW.out.2.1; omega) (fun x hx => (HRW.out.2.2.1 x hx).1)).alloc (.cells #[.slice a1' 1 c1, .slice a2 nh c2, .slice a3 nb c3] 47)); clear o1 o2 o3 hb8)
        | (go_at_call 23; (with_reducible refine (xf HL8.out (kH L _) _ _ _ [⟨er, et⟩] sh sb HX8.out (HG.out.below (HB3.out.trans (HL8.out.bel.mono HB3.out.size))) HAC.out (by omega)).mono ?_); rintro r w9 ⟨et', eu, rfl, ha9, h9, _⟩; have HL9 := Lib.hid h9; have HI9 := Lib.hid (ha9.isErr (by omega)); clear ha9 h9)
        | (go_at_call 35; (with_reducible refine (dM _ 10 _ (HG.out.below (HB3.out.trans (HL9.out.bel.mono HB3.out.size))) HI9.out).mono ?_); rintro r w10 ⟨rfl, hb10⟩; have HL10 := Lib.hid (HL9.out.keep hb10); clear hb10)
        | (go_at_call 16; (with_reducible refine (fD HL10.out (kH L _) [] 0 rfl rfl).mono ?_); rintro r w11 ⟨a11, c11, rfl, _, hb11⟩; have HL11 := Lib.hid (HL10.out.keep hb11); clear hb11)
        | (go_at_call 17; (with_reducible refine (bH HL11.out (kH L _) 0 rfl).mono ?_); rintro r w12 ⟨a12, c12, rfl, _, hb12⟩; have HL12 := Lib.hid (HL11.out.keep hb12); clear hb12)
        | fail)
      go_ret
      exact ⟨rfl, HB3.out.trans (HL12.out.bel.mono HB3.out.size)⟩
  · have HS : Hid (dg l = false) := Lib.hid (by simpa using hs)
    clear hs
    go_enter Tryz.func8, Tryz.ntmps8
    go_wp2_with (first
      | (go_at_call 11; refine (eW W HG.out).mono ?_; rintro r w1 ⟨rfl, hb1⟩; have HB1 := Lib.hid hb1; clear hb1)
      | (go_at_call 13; (with_reducible refine (fd _ l w1 (HA.out.below HB1.out) hl HOK.out false HS.out).mono ?_); rintro r w3 ⟨rfl, hb3⟩; have HB3 := Lib.hid (HB1.out.trans (hb3.mono HB1.out.size)); clear hb3)
      | fail)
    go_ret
    exact ⟨rfl, HB3.out⟩
end Go.Proofs.YtdhognaoejiglaaGreatDoor
