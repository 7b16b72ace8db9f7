/-
  The walk of 'packtrainkeep.BodyValues'.
-/
import Derived.Test.YtgelfjcmggicdaaGreatDoorPk17
import Derived.Test.YtgelfjcmggicdaaGreatDoorBodVal
import Derived.Test.YtgelfjcmggicdaaGreatDoorBodClone
import Derived.Test.YtgelfjcmggicdaaGreatDoorPk01
import Derived.Deep.QuietTactic
import Derived.BigQuiet
namespace Go.Proofs.YtgelfjcmggicdaaGreatDoor
open Go.RowKit

/-- One byte, as often as a value has bytes. -/
def repV (c : UInt8) (x : Wr) : ByteArray := ⟨(Lib.repeatL [c] x.value.size).toArray⟩
theorem repV_size (c : UInt8) (x : Wr) : (repV c x).size = x.value.size := by
  rw [size_data]
  show (Lib.repeatL [c] x.value.size).toArray.toList.length = _
  rw [List.toList_toArray, Lib.repeatL_length]
  simp

theorem wrOk_withV {V : Wr → ByteArray} (hV : ∀ x, (V x).size = x.value.size) {x : Wr} (h : WrOk x) : WrOk (withV V x) := by
  unfold WrOk at h ⊢
  simpa only [withV, hV x] using h
theorem one_conv (C : UInt8) (w : World) : (convert 58 9 (.slice (some ⟨w.heap.size, 0, none⟩) 1 1)).run Tryz.prog (w.alloc (.cells #[.int .u8 (C.toNat : Int)] 5)).drew = .ok (.string ⟨#[C]⟩) (w.alloc (.cells #[.int .u8 (C.toNat : Int)] 5)).drew := by
  refine run_convert_bytes_back _ _ _ _ _ _ [C] Tryz.underlying58 Tryz.underlying5 Tryz.underlying9 fun j hj => ?_
  obtain rfl : j = 0 := by simp at hj; omega
  have hadd : (⟨w.heap.size, 0, none⟩ : Addr).add 0 = ⟨w.heap.size, 0, none⟩ := rfl
  rw [hadd, cell_of_row _ _ _ _ _ _ (show (w.alloc (.cells #[.int .u8 (C.toNat : Int)] 5)).drew.heap[w.heap.size]? = _ from heap_alloc_new w _)]
  simp

set_option maxRecDepth 100000 in
set_option maxHeartbeats 8000000 in
theorem bodyValues_walk (w : World) (vf vh vw : Value) (f h : List Ent) (l : List Wr) (hx : BatIs w vf vh vw f h l) (c : Int) (hc0 : 0 ≤ c) (hc1 : c ≤ 255) (hg : errT w) :
    Calls Tryz.prog 10 #[.agg #[vf, vh, vw], .int .u8 c] w fun e w' => e = .returned (.bool true) ∧ Below w.heap.size w w' := by
  have HX := Lib.hid hx
  have HG := Lib.hid hg
  obtain ⟨hf, hh, hv, _⟩ := hx
  obtain ⟨af, cf, rfl, _⟩ := hf.form
  obtain ⟨ah, ch, rfl, _⟩ := hh.form
  obtain ⟨aw, cw, rfl, _⟩ := hv.form
  have HA := Lib.hid (batAt_new w (.slice af f.length cf) (.slice ah h.length ch) (.slice aw l.length cw) 25)
  have HW0 : Hid (Below w.heap.size w (w.alloc (.cells #[.slice af f.length cf, .slice ah h.length ch, .slice aw l.length cw] 25))) := Lib.hid ((Below.refl _ _).alloc (Nat.le_refl _) _)
  have HZ : Hid (w.heap.size < (w.alloc (.cells #[.slice af f.length cf, .slice ah h.length ch, .slice aw l.length cw] 25)).heap.size) := Lib.hid (by simp)
  generalize hnf : f.length = nf at HX HA HW0 HZ ⊢
  generalize hnh : h.length = nh at HX HA HW0 HZ ⊢
  generalize hn : l.length = n at HX HA HW0 HZ ⊢
  have HN := Lib.hid hn
  clear hf hh hv hg hnf hnh hn
  go_enter Tryz.func10, Tryz.ntmps10
  go_wp2_with fail
  generalize w.alloc (.cells #[.slice af nf cf, .slice ah nh ch, .slice aw n cw] 25) = W at HA HW0 HZ ⊢
  have HE : Hid (∀ w', Below W.heap.size W w' → Below w.heap.size w w') := Lib.hid (fun w' hx => HW0.out.trans (hx.mono HW0.out.size))
  refine (bodied_any _ (HG.out.below HW0.out)).mono ?_
  rintro r w1 ⟨rfl, hb1⟩
  have HB1 := Lib.hid hb1
  clear hb1
  obtain ⟨d0, d1, d2⟩ := HA.out.below HB1.out HZ.out
  go_wp2_with fail
  refine (held_any _ _ _ f h l _ (HX.out.below (HE.out _ HB1.out)) (HG.out.below (HE.out _ HB1.out))).mono ?_
  rintro r w2 ⟨q, rfl, hq, hb2⟩
  have HB2 : Hid (Below W.heap.size W w2) := HB1.out.trans (hb2.mono HB1.out.size)
  have HC := Lib.hid hq
  clear hb2 hq d0 d1 d2
  cases q with
  | false =>
    go_wp2
    go_ret
    exact ⟨rfl, HE.out _ HB2.out⟩
  | true =>
    have hr := HC.out rfl
    have HR := Lib.hid hr
    have hn60 : n ≤ 60 := by
      obtain ⟨_, h2, _⟩ := rightB_iff.1 hr
      rw [HN.out] at h2
      exact h2
    clear hr
    have HB3 : Hid (Below W.heap.size W (w2.alloc (.cells #[.slice af nf cf, .slice ah nh ch, .slice aw n cw] 25))) := Lib.hid (HB2.out.alloc HB2.out.size _)
    have HZ2 : Hid (w.heap.size < w2.heap.size) := Lib.hid (Nat.lt_of_lt_of_le HZ.out HB2.out.size)
    have HZ3 : Hid (w2.heap.size < (w2.alloc (.cells #[.slice af nf cf, .slice ah nh ch, .slice aw n cw] 25)).heap.size) := Lib.hid (by simp)
    obtain ⟨d0, d1, d2⟩ := HA.out.below HB2.out HZ.out
    obtain ⟨e0, e1, e2⟩ := HA.out.below HB3.out HZ.out
    have HD := Lib.hid (rowB3.new w2 (.slice af nf cf) (.slice ah nh ch) (.slice aw n cw))
    go_wp2_with fail
    generalize w2.alloc (.cells #[.slice af nf cf, .slice ah nh ch, .slice aw n cw] 25) = w3 at HB3 HD HZ3 e0 e1 e2 ⊢
    refine (clone_wr _ l w3 (HX.out.below (HE.out _ HB3.out)).2.2.1 (by rw [HN.out]; omega)).mono ?_
    rintro r w4 ⟨v', rfl, ho4, hb4⟩
    clear d0 d1 d2 e0 e1 e2
    obtain ⟨a4, c4, rfl⟩ := ho4.slice
    rw [HN.out] at ho4 ⊢
    have HD4 := Lib.hid (HD.out.below hb4 HZ3.out)
    obtain ⟨d0, d1, d2⟩ := HD4.out.at
    have d3 := HD4.out.frozen 2
    have HO4 := Lib.hid ho4
    have HB4 : Hid (Below W.heap.size W w4) := HB3.out.trans (hb4.mono HB3.out.size)
    have HZ4 : Hid (W.heap.size ≤ w2.heap.size ∧ w2.heap.size < w3.heap.size ∧ w3.heap.size ≤ w4.heap.size) := Lib.hid ⟨HB2.out.size, HZ3.out, hb4.size⟩
    clear ho4 hb4
    go_wp2
    have HB5 : Hid (Below W.heap.size W (w4.setCell ⟨w2.heap.size, 2, none⟩ (.slice a4 n c4))) := Lib.hid (HB4.out.setCell (p := ⟨w2.heap.size, 2, none⟩) HZ4.out.1 _)
    have HD5 := Lib.hid (HD4.out.set2 (.slice a4 n c4))
    have HO5 := Lib.hid (HO4.out.other w2.heap.size 2 HZ4.out.2.1 (.slice a4 n c4))
    have HZ5 : Hid (W.heap.size ≤ w2.heap.size ∧ w2.heap.size < w3.heap.size ∧ w3.heap.size ≤ (w4.setCell ⟨w2.heap.size, 2, none⟩ (.slice a4 n c4)).heap.size) := Lib.hid ⟨HZ4.out.1, HZ4.out.2.1, by simpa using HZ4.out.2.2⟩
    clear HB1 HB2 HB3 HB4 HD HD4 HO4 HZ2 HZ3 HZ4 HC d0 d1 d2 d3
    generalize w4.setCell ⟨w2.heap.size, 2, none⟩ (.slice a4 n c4) = W5 at HB5 HD5 HO5 HZ5 ⊢
    generalize w2.heap.size = B5 at HD5 HZ5 ⊢
    generalize w3.heap.size = base at HO5 HZ5
    obtain ⟨C, hC⟩ : ∃ C : UInt8, C = UInt8.ofNat c.toNat := ⟨_, rfl⟩
    have HCC := Lib.hid hC
    clear hC
    go_loopw [25] (fun i wr => ∃ k : Nat, k ≤ n ∧ i = .int .i64 k ∧ Below W.heap.size W wr ∧ rowB3 wr B5 (.slice af nf cf) (.slice ah nh ch) (.slice a4 n c4) ∧ ownsW wr base (.slice a4 n c4) (mapTo (withV (repV C)) l k) ∧ base ≤ wr.heap.size) (fun i _ => n - (intOf i).toNat)
    case atStart => exact ⟨0, Nat.zero_le _, rfl, HB5.out, HD5.out, by rw [mapTo_zero]; exact HO5.out, HZ5.out.2.2⟩
    case round =>
      obtain ⟨k, hk, rfl, hb6, hd6, ho6, hz6⟩ := hrel
      have HB6 := Lib.hid hb6
      have HD6 := Lib.hid hd6
      have HO6 := Lib.hid ho6
      have HZ6 := Lib.hid hz6
      clear hb6 hd6 ho6 hz6
      by_cases hlt : k < n
      · have hk1 : (k : Int) < (n : Int) := by omega
        have hk0 : (0 : Int) ≤ (k : Int) := by omega
        obtain ⟨x, hx⟩ : ∃ x, l[k]? = some x := ⟨l[k]'(by have := HN.out; omega), List.getElem?_eq_getElem _⟩
        have HXX := Lib.hid hx
        clear hx
        obtain ⟨g, rfl, hg1, hg2⟩ := HO6.out.some (by rw [mapTo_len, HN.out]; omega)
        have HGG : Hid (base ≤ g ∧ g < wr.heap.size) := Lib.hid ⟨hg1, hg2⟩
        clear hg1 hg2
        obtain ⟨d0, d1, d2⟩ := HD6.out.at
        have hat := mapTo_at (G := withV (repV C)) HXX.out
        have d3 : wr.cell? ⟨g, k * 6 + 4, none⟩ = some (.string x.value) := by
          rw [HO6.out.cellAt (by rw [mapTo_len, HN.out]) hat (by omega)]; rfl
        have d4 : wr.frozen? ⟨g, k * 6 + 4, none⟩ = false := HO6.out.frozenAt (by rw [mapTo_len, HN.out]) _
        clear hat
        have hconv := one_conv C wr
        rw [show ((C.toNat : Nat) : Int) = c from by rw [HCC.out]; simp; omega] at hconv
        have HSV : Hid (x.value.size ≤ 300) := Lib.hid ((wriE_good ((rightB_iff.1 HR.out).2.2.1 x (List.mem_of_getElem? HXX.out)).1).2.2.2.1)
        have HRP : Hid (∀ w, Calls Tryz.prog 29 #[.string ⟨#[C]⟩, .int .i64 x.value.size] w fun e w' => e = .returned (.string (repV C x)) ∧ Below w.heap.size w w') := Lib.hid (fun w => Tryz.strings_Repeat ⟨#[C]⟩ x.value.size w (by have := HSV.out; omega) (by have := HSV.out; show 1 * _ ≤ _; omega))
        have HBA : Hid (Below W.heap.size W (wr.alloc (.cells #[.int .u8 c] 5)).drew) := Lib.hid ((HB6.out.alloc HB6.out.size _).drew)
        have HGA : Hid (g < (wr.alloc (.cells #[.int .u8 c] 5)).drew.heap.size) := Lib.hid (by have := HGG.out.2; show g < (wr.alloc (.cells #[.int .u8 c] 5)).heap.size; simp; omega)
        have HBQ : Hid (Below wr.heap.size wr (wr.alloc (.cells #[.int .u8 c] 5)).drew) := Lib.hid (((Below.refl _ _).alloc (Nat.le_refl _) _).drew)
        have d5 := (HBQ.out.cell (p := ⟨g, k * 6 + 4, none⟩) HGG.out.2).trans d3
        have d6 := (HBQ.out.frozen (p := ⟨g, k * 6 + 4, none⟩) HGG.out.2).trans d4
        go_wp2
        go_region_with (first | (go_at_call 29; ((with_reducible refine (HRP.out _).mono ?_); rintro r w7 ⟨rfl, hb7⟩; have HB7 := Lib.hid hb7; have e0 := (HB7.out.cell (p := ⟨g, k * 6 + 4, none⟩) HGA.out).trans d5; have e1 := (HB7.out.frozen (p := ⟨g, k * 6 + 4, none⟩) HGA.out).trans d6; clear hb7)))
        all_goals
          have HBR : Hid (Below wr.heap.size wr w7) := HBQ.out.trans (HB7.out.mono HBQ.out.size)
          have HZ7 : Hid (wr.heap.size ≤ w7.heap.size) := Lib.hid HBR.out.size
          have HSW : Hid (B5 < wr.heap.size) := Lib.hid (by have := HZ5.out; have := HZ6.out; omega)
          have HO8 : Hid (ownsW (w7.setCell ⟨g, k * 6 + 4, none⟩ (.string (repV C x))) base (.slice (some ⟨g, 0, none⟩) n c4) (mapTo (withV (repV C)) l (k + 1))) := Lib.hid (by
            rw [← mapTo_set HXX.out]
            exact ((HO6.out.below HBR.out).stored (by rw [mapTo_len, HN.out]) (mapTo_at HXX.out) (by omega) rfl).1)
          have HD8 : Hid (rowB3 (w7.setCell ⟨g, k * 6 + 4, none⟩ (.string (repV C x))) B5 (.slice af nf cf) (.slice ah nh ch) (.slice (some ⟨g, 0, none⟩) n c4)) := Lib.hid ((HD6.out.below HBR.out HSW.out).other g _ (by have := HZ5.out; have := HGG.out; omega) _)
          have HB8 : Hid (Below W.heap.size W (w7.setCell ⟨g, k * 6 + 4, none⟩ (.string (repV C x)))) := Lib.hid (Below.setCell (p := ⟨g, k * 6 + 4, none⟩) (HB6.out.trans (HBR.out.mono HB6.out.size)) (by have := HZ5.out; have := HGG.out; show W.heap.size ≤ g; omega) _)
          have HZ8 : Hid (base ≤ (w7.setCell ⟨g, k * 6 + 4, none⟩ (.string (repV C x))).heap.size) := Lib.hid (by have := HZ6.out; have := HZ7.out; simp; omega)
          generalize w7.setCell ⟨g, k * 6 + 4, none⟩ (.string (repV C x)) = w8 at HO8 HD8 HB8 HZ8 ⊢
          clear e0 e1 d0 d1 d2 d3 d4 d5 d6 hconv HB7 HBR HZ7 HBA HBQ HGA HRP
          go_wp2
          go_roundw
          case rel => exact ⟨k + 1, by omega, by go_num, HB8.out, HD8.out, HO8.out, HZ8.out⟩
          case measure => simp [intOf]; omega
      · obtain rfl : k = n := by omega
        have HB7 := HB6
        have HM : Hid (mapTo (withV (repV C)) l k = l.map (withV (repV C))) := Lib.hid (by
          have e := mapTo_all (withV (repV C)) l
          rw [HN.out] at e
          exact e)
        have HX7 := Lib.hid (HX.out.below (HE.out _ HB7.out))
        obtain ⟨l2, hl2⟩ : ∃ l2, l.map (withV (repV C)) = l2 := ⟨_, rfl⟩
        have HR2 : Hid (rightB f h l2) := Lib.hid (by rw [← hl2]; exact right_withV (repV_size C) HR.out)
        have HL2 : Hid ((bodyL f h l2).length = (bodyL f h l).length) := Lib.hid (by rw [← hl2]; exact body_withV (repV_size C) f h l)
        have HY7 : Hid (BatIs wr (.slice af nf cf) (.slice ah nh ch) (.slice a4 k c4) f h l2) := Lib.hid (by
          have ho := HO6.out
          rw [HM.out] at ho
          refine ⟨HX7.out.1, HX7.out.2.1, hl2 ▸ ho.is, HX7.out.2.2.2.1, HX7.out.2.2.2.2.1, ?_, ?_⟩
          · rw [← hl2, List.length_map]
            exact HX7.out.2.2.2.2.2.1
          · intro t ht
            rw [← hl2] at ht
            obtain ⟨y, hy, rfl⟩ := List.mem_map.1 ht
            exact wrOk_withV (repV_size C) (HX7.out.2.2.2.2.2.2 y hy))
        obtain ⟨S, hS⟩ : ∃ S : ByteArray, bodyL f h l = S.data.toList := ⟨⟨(bodyL f h l).toArray⟩, by simp⟩
        obtain ⟨U, hU⟩ : ∃ S : ByteArray, bodyL f h l2 = S.data.toList := ⟨⟨(bodyL f h l2).toArray⟩, by simp⟩
        have hsu : U.size = S.size := by rw [size_data, size_data, ← hS, ← hU]; exact HL2.out
        have HS := Lib.hid hS
        have HU := Lib.hid hU
        clear hS hU hl2
        have HSW : Hid (B5 < wr.heap.size) := Lib.hid (by have := HZ5.out; have := HZ6.out; omega)
        obtain ⟨d0, d1, d2⟩ := HA.out.below HB7.out HZ.out
        by_cases hs : S.size ≤ 20000
        · have hs2 : U.size ≤ 20000 := by omega
          go_wp2_with fail
          refine (bwrite_ok _ _ _ f h l S _ HX7.out (HG.out.below (HE.out _ HB7.out)) HR.out HS.out hs).mono ?_
          rintro r w8 ⟨rfl, hb8⟩
          have HB8 : Hid (Below W.heap.size W w8) := HB7.out.trans (hb8.mono HB7.out.size)
          have HY8 := Lib.hid (HY7.out.below hb8)
          have HD8 := Lib.hid (HD6.out.below hb8 HSW.out)
          clear hb8 d0 d1 d2
          obtain ⟨d0, d1, d2⟩ := HD8.out.at
          go_wp2_with fail
          refine (bwrite_ok _ _ _ f h l2 U _ HY8.out (HG.out.below (HE.out _ HB8.out)) HR2.out HU.out hs2).mono ?_
          rintro r w9 ⟨rfl, hb9⟩
          have HB9 : Hid (Below W.heap.size W w9) := HB8.out.trans (hb9.mono HB8.out.size)
          clear hb9 d0 d1 d2 hs hs2
          go_wp2
          go_quiet (fail)
          go_wp2
          go_ret
          exact ⟨by first | rfl | simp, HE.out _ (below_drewq HB9.out _)⟩
        · have hs2 : ¬ U.size ≤ 20000 := by omega
          go_wp2_with fail
          refine (bwrite_err _ _ _ f h l _ HX7.out (HG.out.below (HE.out _ HB7.out)) (fun q => hs (by rw [size_data, ← HS.out]; exact q.2))).mono ?_
          rintro r w8 ⟨t, u, x, rfl, _, _, hb8⟩
          have HB8 : Hid (Below W.heap.size W w8) := HB7.out.trans (hb8.mono HB7.out.size)
          have HY8 := Lib.hid (HY7.out.below hb8)
          have HD8 := Lib.hid (HD6.out.below hb8 HSW.out)
          clear hb8 d0 d1 d2
          obtain ⟨d0, d1, d2⟩ := HD8.out.at
          go_wp2_with fail
          refine (bwrite_err _ _ _ f h l2 _ HY8.out (HG.out.below (HE.out _ HB8.out)) (fun q => hs2 (by rw [size_data, ← HU.out]; exact q.2))).mono ?_
          rintro r w9 ⟨t2, u2, x2, rfl, _, _, hb9⟩
          have HB9 : Hid (Below W.heap.size W w9) := HB8.out.trans (hb9.mono HB8.out.size)
          clear hb9 d0 d1 d2 hs hs2
          go_wp2
          go_quiet (fail)
          go_wp2
          go_ret
          exact ⟨by first | rfl | simp, HE.out _ (below_drewq HB9.out _)⟩
end Go.Proofs.YtgelfjcmggicdaaGreatDoor
