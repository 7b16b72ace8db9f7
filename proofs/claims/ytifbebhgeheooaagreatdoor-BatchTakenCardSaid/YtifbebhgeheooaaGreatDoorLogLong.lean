/-
  The walk of 'packtrainkeep.LogLong'.
-/
import Derived.Test.YtifbebhgeheooaaGreatDoorKl21
import Derived.Test.YtifbebhgeheooaaGreatDoorKl04
import Derived.Test.YtifbebhgeheooaaGreatDoorKl01
namespace Go.Proofs.YtifbebhgeheooaaGreatDoor
open Go.RowKit

/-- How far the one has come, the other one. -/
structure LL (W wr : World) (Pa Pb : Nat) (d : Int) (n m : Nat) (sa sb : LogS) : Prop where
  logs : Logs W wr (fun _ => False) [(Pa, sa), (Pb, sb)]
  ra : sa.rep = 1
  rb : sb.rep = 2
  ha : sa.hv = oneV 1 n
  wa : sa.ws = addL d n
  hb : sb.hv = oneV 1 m
  wb : sb.ws = addL d m
theorem LL.oka {W wr : World} {Pa Pb n m : Nat} {d : Int} {sa sb : LogS} (h : LL W wr Pa Pb d n m sa sb) : LogOk sa := h.logs.ok (Pa, sa) (by simp)
theorem LL.okb {W wr : World} {Pa Pb n m : Nat} {d : Int} {sa sb : LogS} (h : LL W wr Pa Pb d n m sa sb) : LogOk sb := h.logs.ok (Pb, sb) (by simp)
theorem ll_times (n t : Nat) (h1 : min (60 * t) n = n) (h2 : t = 0 ∨ 60 * (t - 1) < n) : ((n : Int) + 60 - 1).tdiv 60 = (t : Int) := by
  rw [Int.tdiv_eq_ediv_of_nonneg (by omega)]
  omega

theorem GwritesT {W w : World} {D : Nat → Prop} {L : List (Nat × LogS)} (h : Logs W w D L) {i P : Nat} {s : LogS} (hi : L[i]? = some (P, s)) (l : List Wr) (n : Nat) (hl : s.ws = l) (hn : l.length = n) :
    Calls Tryz.prog 15 #[.pointer (some ⟨P, 0, none⟩)] w fun e w' => ∃ a c, e = .returned (.slice a n c) ∧ ownsW w' w.heap.size (.slice a n c) l ∧ Below w.heap.size w w' := by
  subst hl hn
  exact Gwrites h hi
theorem cells_sum {w : World} {a : Option Addr} {c : Nat} {l : List (ByteArray × Cel)} {k : ByteArray} {S : Int} (h : IsCells w (.slice a 1 c) l) (hl : l = [(k, ⟨false, ⟨#[]⟩, S, []⟩)]) : ∃ b off, a = some ⟨b, off, none⟩ ∧ w.cell? ⟨b, off + 3, none⟩ = some (.int .i64 S) := by
  obtain ⟨zs, hv, hlen, hc⟩ := h
  obtain ⟨a', c', e, hf⟩ := hv.form
  rw [hl] at hlen
  have hl1 : zs.length = 1 := hlen
  obtain ⟨z, hz⟩ : ∃ z, zs[0]? = some z := ⟨zs[0]'(by omega), List.getElem?_eq_getElem _⟩
  obtain ⟨p, hp, e1, e2, e3, e4, e5⟩ := hc 0 z hz
  rw [hl] at hp
  obtain rfl : (k, (⟨false, ⟨#[]⟩, S, []⟩ : Cel)) = p := Option.some.inj hp
  obtain ⟨b, off, ha, _, _, _, _, c3, _⟩ := hf 0 z hz
  obtain ⟨e6, _, _⟩ := Value.slice.inj e
  rw [e4] at c3
  simp only [Nat.zero_mul, Nat.add_zero] at c3
  exact ⟨b, off, by rw [e6, ha], c3⟩

set_option maxRecDepth 100000 in
set_option maxHeartbeats 16000000 in
theorem logLong_walk (a0 : Int) (_h0 : -9223372036854775808 ≤ a0) (_h1 : a0 ≤ 9223372036854775807) (a1 : Int) (_h2 : -9223372036854775808 ≤ a1) (_h3 : a1 ≤ 9223372036854775807) (W : World) (hg : errT W) :
    Calls Tryz.prog 5 #[.int .i64 a0, .int .i64 a1] W fun e w' => e = .returned (.bool true) ∧ Below W.heap.size W w' := by
  have HG := Lib.hid hg
  clear hg
  obtain ⟨n, hn⟩ : ∃ n : Nat, pickN a0 200 = (n : Int) := ⟨(pickN a0 200).toNat, by have := pickN_pos (a := a0) (n := 200) (by omega); omega⟩
  have hn2 : n < 200 := by have := pickN_pos (a := a0) (n := 200) (by omega); omega
  have HN := Lib.hid hn
  obtain ⟨q, hq⟩ : ∃ q : Int, pickN a1 9 = q := ⟨_, rfl⟩
  have hq2 : 0 ≤ q ∧ q < 9 := by rw [← hq]; exact pickN_pos (by omega)
  have HQ := Lib.hid hq
  obtain ⟨d, hd⟩ : ∃ d : Int, 1 + q = d := ⟨_, rfl⟩
  have hd2 : IntKind.i64.wrap (1 + q) = d := by rw [hd]; exact IntWalk.i64_in _ (by omega)
  have hd3 : 1 ≤ d ∧ d ≤ 9 := by omega
  obtain ⟨hd4, hd5⟩ := hd3
  clear hn hq hq2
  go_enter Tryz.func5, Tryz.ntmps5
  go_wp2_with (first
    | (go_at_call 8; refine (logged_any W HG.out).mono ?_; rintro r w1 ⟨rfl, hb1⟩; have HB1 := Lib.hid hb1; clear hb1)
    | (go_at_call 16; (with_reducible refine (pick_any a0 200 w1 (by omega) (by omega)).mono ?_); rintro r w2 ⟨rfl, rfl⟩; rw [HN.out])
    | (go_at_call 16; (with_reducible refine (pick_any a1 9 w1 (by omega) (by omega)).mono ?_); rintro r w2 ⟨rfl, rfl⟩; rw [HQ.out])
    | (go_at_call 10; (with_reducible refine (Gnew (Logs.keep (Logs.nil W) HB1.out) 1 (by omega)).mono ?_); rintro r w3 ⟨rfl, h3, hb3⟩; have HL3 : Hid (Logs W w3 (fun _ => False) [(w1.heap.size, ⟨1, [], []⟩)]) := Lib.hid h3; clear h3 hb3)
    | (go_at_call 10; (with_reducible refine (Gnew HL3.out 2 (by omega)).mono ?_); rintro r w4 ⟨rfl, h4, hb4⟩; have HF4 : Hid (LL W w4 w1.heap.size w3.heap.size d 0 0 ⟨1, [], []⟩ ⟨2, [], []⟩) := Lib.hid ⟨h4, rfl, rfl, rfl, rfl, rfl, rfl⟩; clear h4 hb4)
    | fail)
  obtain ⟨Pa, hPa⟩ : ∃ P, P = w1.heap.size := ⟨_, rfl⟩
  obtain ⟨Pb, hPb⟩ : ∃ P, P = w3.heap.size := ⟨_, rfl⟩
  rw [← hPa, ← hPb] at HF4 ⊢
  clear hPa hPb HL3
  go_loopw [47] (fun i wr => ∃ k : Nat, k ≤ n ∧ i = .int .i64 k ∧ ∃ sa sb, LL W wr Pa Pb d k 0 sa sb) (fun i _ => n - (intOf i).toNat)
  case atStart => exact ⟨0, by omega, rfl, _, _, HF4.out⟩
  case round =>
    obtain ⟨k, hk, rfl, sa, sb, hf⟩ := hrel
    have HF := Lib.hid hf
    clear hf HF4
    by_cases hlt : k < n
    · have b1 : decide ((k : Int) < (n : Int)) = true := by simpa using hlt
      have hwE : wE (lcW sa ⟨0, 0, 3, ⟨#[107]⟩, ⟨#[]⟩, d⟩) = 0 := own_wE (i := k) (by rw [HF.out.ra]; omega) (by rw [HF.out.ra]; exact HF.out.ha) (by omega) 0 0 (by
        rw [wriE_fits (by omega) (by decide) (by decide) (by simp [hasN]; intro h; exact absurd h (by decide))]
        rw [if_neg]
        unfold fitsN
        simp; omega)
      have hst := own_step (s := sa) (i := k) (w := ⟨0, 0, 3, ⟨#[107]⟩, ⟨#[]⟩, d⟩) (by rw [HF.out.ra]; omega) (by rw [HF.out.ra]; exact HF.out.ha) (by omega) hwE (by rw [HF.out.wa, addL_len]; omega)
      have HWL : Hid (lcW sa ⟨0, 0, 3, ⟨#[107]⟩, ⟨#[]⟩, d⟩ = addW d k) := Lib.hid (by unfold lcW addW; rw [hst.2.1, HF.out.ra])
      have HST := Lib.hid hst
      clear hwE hst
      go_wp2_with (go_at_call 17; refine (GlocalT (i := 0) HF.out.logs rfl 0 0 3 ⟨#[107]⟩ ⟨#[]⟩ d (by decide) (by decide) (HG.out.below HF.out.logs.bel) HST.out.1 ((k + 1 : Nat) : Int) 1 _ HST.out.2.1 HF.out.ra rfl).mono ?_; rintro r w3 ⟨rfl, h3, _, _⟩; have HL3 := Lib.hid h3; clear h3)
      go_roundw
      · refine ⟨k + 1, by omega, by simp, lcS sa ⟨0, 0, 3, ⟨#[107]⟩, ⟨#[]⟩, d⟩, sb, Logs.keep HL3.out ((Below.refl _ _).alloc (Nat.le_refl _) _), HF.out.ra, HF.out.rb, ?_, ?_, HF.out.hb, HF.out.wb⟩
        · rw [HST.out.2.2.1, HF.out.ra]
        · rw [HST.out.2.2.2.2, HWL.out, HF.out.wa, addL_s]
      · simp [intOf]; omega
    · have b1 : decide ((k : Int) < (n : Int)) = false := by simp; omega
      obtain rfl : k = n := by omega
      have HF0 : Hid (LL W wr Pa Pb d k (min (60 * 0) k) sa sb) := Lib.hid (by rw [show min (60 * 0) k = 0 by omega]; exact HF.out)
      go_wp2
      go_loopw [11] (fun i wr => ∃ t : Nat, t ≤ 4 ∧ i = .int .i64 t ∧ (t = 0 ∨ 60 * (t - 1) < k) ∧ ∃ sa sb, LL W wr Pa Pb d k (min (60 * t) k) sa sb) (fun i _ => 5 - (intOf i).toNat)
      case atStart => exact ⟨0, by omega, rfl, .inl rfl, _, _, HF0.out⟩
      case round =>
        obtain ⟨t, ht, rfl, ht2, sa, sb, hf⟩ := hrel
        have HF2 := Lib.hid hf
        have HT2 := Lib.hid ht2
        have hm := hf.hb
        obtain ⟨m, hm⟩ : ∃ m, m = min (60 * t) k := ⟨_, rfl⟩
        rw [← hm] at HF2
        have HM := Lib.hid hm
        have hmk : m ≤ k := by omega
        have b10 : decide ((t : Int) < 10) = true := by simp; omega
        have HCV := Lib.hid (add_cov hmk (by omega : k ≤ 300))
        have hlm : (oneV 1 m).length ≤ 1 := by unfold oneV; split <;> simp
        have hlk : (oneV 1 k).length ≤ 1 := by unfold oneV; split <;> simp
        have HLM := Lib.hid hlm
        have HLK := Lib.hid hlk
        clear hf ht2 hm hlm hlk HF HF0
        by_cases hc : k ≤ m
        · have HC : Hid (covB sb.hv sa.hv = true) := Lib.hid (by rw [HF2.out.hb, HF2.out.ha, HCV.out]; simpa using hc)
          obtain rfl : m = k := by omega
          have htd : ((m : Int) + 60 - 1).tdiv 60 = (t : Int) := ll_times m t HM.out.symm HT2.out
          have HWA := Lib.hid HF2.out.wa
          have HWB := Lib.hid HF2.out.wb
          obtain ⟨nm, hnm⟩ : ∃ nm, nm = sb.hv.length := ⟨_, rfl⟩
          have HNM := Lib.hid hnm
          obtain ⟨nk, hnk⟩ : ∃ nk, nk = sa.hv.length := ⟨_, rfl⟩
          have HNK := Lib.hid hnk
          have hnm1 : nm ≤ 1 := by rw [hnm, HF2.out.hb]; exact HLM.out
          have hnk1 : nk ≤ 1 := by rw [hnk, HF2.out.ha]; exact HLK.out
          have hz1 : IntKind.i64.wrap ((m : Int) + 60) = (m : Int) + 60 := IntWalk.i64_in _ (by omega)
          have hz2 : IntKind.i64.wrap ((m : Int) + 60 - 1) = (m : Int) + 60 - 1 := IntWalk.i64_in _ (by omega)
          clear hnm hnk hc
          by_cases h0 : m = 0
          · have hm0 : ((m : Int) == 0) = true := by simp; omega
            have HCN : Hid ((cellsF sb.ws).length = 0) := Lib.hid (by rw [HF2.out.wb, add_cells ⟨hd4, by omega⟩ m (by omega), if_pos h0]; rfl)
            clear h0
            go_wp2_with (first
              | (go_at_call 19; (with_reducible refine (GhaveT (i := 1) HF2.out.logs rfl nm HNM.out.symm).mono ?_); rintro r w9 ⟨a9, c9, rfl, ho9, hb9⟩; have HL9 := Lib.hid (HF2.out.logs.keep hb9); have HO9 := Lib.hid ho9; clear hb9 ho9)
              | (go_at_call 19; (with_reducible refine (GhaveT (i := 0) HL9.out rfl nk HNK.out.symm).mono ?_); rintro r w10 ⟨a10, c10, rfl, ho10, hb10⟩; have HL10 := Lib.hid (HL9.out.keep hb10); have HO10 := Lib.hid ho10; have HO9B := Lib.hid (HO9.out.below hb10); clear hb10 ho10)
              | (go_at_call 18; (with_reducible refine (bcov_as _ _ sb.hv sa.hv true w10 HO9B.out.is HO10.out.is (by have := HNM.out; omega) (by have := HNK.out; omega) HC.out).mono ?_); rintro r w11 ⟨rfl, hb11⟩; have HL11 := Lib.hid (HL10.out.keep hb11); clear hb11)
              | (go_at_call 21; (with_reducible refine (GcellsT (i := 1) HL11.out rfl 0 HCN.out).mono ?_); rintro r w12 ⟨a12, c12, rfl, hu12, hb12, _⟩; have HL12 := Lib.hid (HL11.out.keep hb12); clear hb12 hu12)
              | (go_at_call 15; (with_reducible refine (GwritesT (i := 0) HL12.out rfl (addL d m) m HWA.out (addL_len d m)).mono ?_); rintro r w13 ⟨a13, c13, rfl, ho13, hb13⟩; have HL13 := Lib.hid (HL12.out.keep hb13); have HO13 := Lib.hid ho13; clear hb13 ho13)
              | (go_at_call 15; (with_reducible refine (GwritesT (i := 1) HL13.out rfl (addL d m) m HWB.out (addL_len d m)).mono ?_); rintro r w14 ⟨a14, c14, rfl, ho14, hb14⟩; have HL14 := Lib.hid (HL13.out.keep hb14); have HO14 := Lib.hid ho14; have HO13B := Lib.hid (HO13.out.below hb14); clear hb14 ho14)
              | (go_at_call 14; (with_reducible refine (equalw_as _ _ (addL d m) (addL d m) true w14 HO13B.out.is HO14.out.is (by rw [addL_len]; omega) (by rw [addL_len]; omega) (by simp)).mono ?_); rintro r w15 ⟨rfl, q15, hq15⟩; have HL15 := Lib.hid (HL14.out.keep (w' := w15) (by rw [hq15]; exact below_drewq (Below.refl _ _) q15)); clear hq15)
              | fail)
            go_ret
            exact ⟨rfl, HL15.out.bel⟩
          · have hm0 : ((m : Int) == 0) = false := by simp; omega
            have hcl := add_cells (a := d) ⟨hd4, by omega⟩ m (by omega)
            rw [if_neg h0] at hcl
            have HCL : Hid (cellsF sb.ws = [(⟨#[107]⟩, ⟨false, ⟨#[]⟩, (m : Int) * d, []⟩)]) := Lib.hid (by rw [HF2.out.wb, hcl])
            have HCN : Hid ((cellsF sb.ws).length = 1) := Lib.hid (by rw [HCL.out]; rfl)
            obtain ⟨S, hS⟩ : ∃ S, S = (m : Int) * d := ⟨_, rfl⟩
            have hmd : (m : Int) * d = S := hS.symm
            have hsb : 0 ≤ S ∧ S ≤ 300 * 100 := by
              rw [hS]
              exact ⟨Int.mul_nonneg (by omega) (by omega), Int.mul_le_mul (by omega) (by omega) (by omega) (by omega)⟩
            have hmd2 : IntKind.i64.wrap ((m : Int) * d) = S := by rw [hmd]; exact IntWalk.i64_in _ (by omega)
            rw [← hS] at HCL
            have hss : IntKind.i64.wrap S = S := IntWalk.i64_in _ (by omega)
            clear h0 hcl hS hsb
            go_wp2_with (first
              | (go_at_call 19; (with_reducible refine (GhaveT (i := 1) HF2.out.logs rfl nm HNM.out.symm).mono ?_); rintro r w9 ⟨a9, c9, rfl, ho9, hb9⟩; have HL9 := Lib.hid (HF2.out.logs.keep hb9); have HO9 := Lib.hid ho9; clear hb9 ho9)
              | (go_at_call 19; (with_reducible refine (GhaveT (i := 0) HL9.out rfl nk HNK.out.symm).mono ?_); rintro r w10 ⟨a10, c10, rfl, ho10, hb10⟩; have HL10 := Lib.hid (HL9.out.keep hb10); have HO10 := Lib.hid ho10; have HO9B := Lib.hid (HO9.out.below hb10); clear hb10 ho10)
              | (go_at_call 18; (with_reducible refine (bcov_as _ _ sb.hv sa.hv true w10 HO9B.out.is HO10.out.is (by have := HNM.out; omega) (by have := HNK.out; omega) HC.out).mono ?_); rintro r w11 ⟨rfl, hb11⟩; have HL11 := Lib.hid (HL10.out.keep hb11); clear hb11)
              | (go_at_call 21; (with_reducible refine (GcellsT (i := 1) HL11.out rfl 1 HCN.out).mono ?_); rintro r w12 ⟨a12, c12, rfl, hu12, hb12, _⟩; have HL12 := Lib.hid (HL11.out.keep hb12); obtain ⟨b12, o12, rfl, g3⟩ := cells_sum hu12 HCL.out; clear hb12 hu12)
              | (go_at_call 15; (with_reducible refine (GwritesT (i := 0) HL12.out rfl (addL d m) m HWA.out (addL_len d m)).mono ?_); rintro r w13 ⟨a13, c13, rfl, ho13, hb13⟩; have HL13 := Lib.hid (HL12.out.keep hb13); have HO13 := Lib.hid ho13; clear hb13 ho13)
              | (go_at_call 15; (with_reducible refine (GwritesT (i := 1) HL13.out rfl (addL d m) m HWB.out (addL_len d m)).mono ?_); rintro r w14 ⟨a14, c14, rfl, ho14, hb14⟩; have HL14 := Lib.hid (HL13.out.keep hb14); have HO14 := Lib.hid ho14; have HO13B := Lib.hid (HO13.out.below hb14); clear hb14 ho14)
              | (go_at_call 14; (with_reducible refine (equalw_as _ _ (addL d m) (addL d m) true w14 HO13B.out.is HO14.out.is (by rw [addL_len]; omega) (by rw [addL_len]; omega) (by simp)).mono ?_); rintro r w15 ⟨rfl, q15, hq15⟩; have HL15 := Lib.hid (HL14.out.keep (w' := w15) (by rw [hq15]; exact below_drewq (Below.refl _ _) q15)); clear hq15)
              | fail)
            go_ret
            exact ⟨rfl, HL15.out.bel⟩
        · have HC : Hid (covB sb.hv sa.hv = false) := Lib.hid (by rw [HF2.out.hb, HF2.out.ha, HCV.out]; simpa using hc)
          have hba := add_batch HF2.out.oka HF2.out.ha HF2.out.wa hmk (by omega)
          have hta := add_take HF2.out.oka HF2.out.okb HF2.out.ha HF2.out.wa hmk (by omega) HF2.out.hb HF2.out.wb
          obtain ⟨B, hB⟩ : ∃ B, B = ((addL d k).drop m).take 60 := ⟨_, rfl⟩
          obtain ⟨nb, hnb⟩ : ∃ nb, nb = B.length := ⟨_, rfl⟩
          have hnb2 : nb = min 60 (k - m) := by rw [hnb, hB, List.length_take, List.length_drop, addL_len]
          have HBW : Hid (∀ x ∈ B, wE x = 0) := Lib.hid (fun x hx => (HF2.out.oka.mem x (by rw [HF2.out.wa]; rw [hB] at hx; exact List.mem_of_mem_drop (List.mem_of_mem_take hx))).1)
          rw [← hB] at hba hta
          rw [← hnb2] at hta
          obtain ⟨H, hH⟩ : ∃ H, H = oneV 1 (min (m + 60) k) := ⟨_, rfl⟩
          have hHl : H.length ≤ 1 := by rw [hH]; unfold oneV; split <;> simp
          rw [← hH] at hba hta
          have HBA := Lib.hid hba
          have HTA := Lib.hid hta
          have HNB := Lib.hid hnb
          have HHL := Lib.hid hHl
          have HHH := Lib.hid hH
          obtain ⟨nh, hnh⟩ : ∃ nh, nh = H.length := ⟨_, rfl⟩
          have HNH := Lib.hid hnh
          obtain ⟨nm, hnm⟩ : ∃ nm, nm = sb.hv.length := ⟨_, rfl⟩
          have HNM := Lib.hid hnm
          obtain ⟨nk, hnk⟩ : ∃ nk, nk = sa.hv.length := ⟨_, rfl⟩
          have HNK := Lib.hid hnk
          have hnm1 : nm ≤ 1 := by rw [hnm, HF2.out.hb]; exact HLM.out
          have hnk1 : nk ≤ 1 := by rw [hnk, HF2.out.ha]; exact HLK.out
          have hnb60 : nb ≤ 60 := by omega
          have HKM := Lib.hid hc
          clear hba hta hB hnb hnb2 hH hHl hnh hnm hnk hc
          go_wp2_with (first
            | (go_at_call 19; (with_reducible refine (GhaveT (i := 1) HF2.out.logs rfl nm HNM.out.symm).mono ?_); rintro r w9 ⟨a9, c9, rfl, ho9, hb9⟩; have HL9 := Lib.hid (HF2.out.logs.keep hb9); have HO9 := Lib.hid ho9; clear hb9 ho9)
            | (go_at_call 19; (with_reducible refine (GhaveT (i := 0) HL9.out rfl nk HNK.out.symm).mono ?_); rintro r w10 ⟨a10, c10, rfl, ho10, hb10⟩; have HL10 := Lib.hid (HL9.out.keep hb10); have HO10 := Lib.hid ho10; have HO9B := Lib.hid (HO9.out.below hb10); clear hb10 ho10)
            | (go_at_call 18; (with_reducible refine (bcov_as _ _ sb.hv sa.hv false w10 HO9B.out.is HO10.out.is (by have := HNM.out; omega) (by have := HNK.out; omega) HC.out).mono ?_); rintro r w11 ⟨rfl, hb11⟩; have HL11 := Lib.hid (HL10.out.keep hb11); clear hb11)
            | (go_at_call 19; (with_reducible refine (GhaveT (i := 1) HL11.out rfl nm HNM.out.symm).mono ?_); rintro r w12 ⟨a12, c12, rfl, ho12, hb12⟩; have HL12 := Lib.hid (HL11.out.keep hb12); have HO12 := Lib.hid ho12; clear hb12 ho12)
            | (go_at_call 20; (with_reducible refine (GsinceT (i := 0) HL12.out rfl _ sb.hv HO12.out.is (by have := HNM.out; omega) (HG.out.below HL12.out.bel) (by rw [HF2.out.hb]; exact HBA.out.1) nm nh nb H B HNM.out.symm (by rw [HF2.out.hb]; exact HBA.out.2.1) (by rw [HF2.out.hb]; exact HBA.out.2.2) HNH.out.symm HNB.out.symm).mono ?_); rintro r w13 ⟨a1, c1, a2, c2, a3, c3, rfl, o1, o2, o3, hb13⟩;
                have HL13 : Hid (Logs W (w13.alloc (.cells #[.slice a1 nm c1, .slice a2 nh c2, .slice a3 nb c3] 38)) (fun k => k = w13.heap.size) [(Pa, sa), (Pb, sb)]) := Lib.hid (Logs.call (HL12.out.keep hb13) ((Below.refl _ _).alloc (Nat.le_refl _) _) (fun k (e : k = _) => .inr (by rw [e]; simp)));
                have HBT : Hid (BatIs (w13.alloc (.cells #[.slice a1 nm c1, .slice a2 nh c2, .slice a3 nb c3] 38)) (.slice a1 nm c1) (.slice a2 nh c2) (.slice a3 nb c3) sb.hv H B) := Lib.hid (BatIs.alloc (batIs_of o1 o2 o3 (by have := HNM.out; omega) (by have := HHL.out; omega) (by have := HNB.out; omega) HBW.out) _); clear o1 o2 o3 hb13)
            | (go_at_call 12; (with_reducible refine (GacceptT (i := 1) HL13.out rfl _ _ _ sb.hv H B HBT.out (HG.out.below HL13.out.bel) (by rw [HF2.out.hb, HTA.out.1]) nb _ HTA.out.2.1 HTA.out.2.2).mono ?_); rintro r w14 ⟨rfl, h14, hd14, hs14⟩; have HL14 := Lib.hid h14; have hr14 := (hd14 w13.heap.size rfl).trans (heap_alloc_new _ _); have x2 : w14.cell? ⟨w13.heap.size, 2, none⟩ = some (.slice a3 nb c3) := cell_of_row _ _ 2 _ _ _ hr14; clear h14 hd14 hs14 hr14)
            | fail)
          refine ⟨⟨t + 1, by have := HM.out; have := HKM.out; omega, by simp, .inr (by have := HM.out; have := HKM.out; omega), sa, ⟨sb.rep, H, addL d (min (m + 60) k)⟩, ?_⟩, by have := HM.out; have := HKM.out; simp [intOf]; omega⟩
          have e : min (60 * (t + 1)) k = min (m + 60) k := by have := HM.out; omega
          rw [e]
          exact ⟨Logs.call HL14.out (Below.refl _ _) (fun k h => h.elim), HF2.out.ra, HF2.out.rb, HF2.out.ha, HF2.out.wa, HHH.out, rfl⟩
end Go.Proofs.YtifbebhgeheooaaGreatDoor
