/-
  The walk of 'packtrainkeep.BodyKeys'.
-/
import Derived.Test.YtgelfjcmggicdaaGreatDoorPk17
import Derived.Test.YtgelfjcmggicdaaGreatDoorBodKey
import Derived.Test.YtgelfjcmggicdaaGreatDoorBodClone
import Derived.Deep.QuietTactic
import Derived.BigQuiet
namespace Go.Proofs.YtgelfjcmggicdaaGreatDoor
open Go.RowKit

/-- Two batches' blocks, new. -/
def K2 (w : World) (P Q : Nat) (a b c : Value) (w' : World) : Prop :=
  rowB3 w' P a b c ∧ rowB3 w' Q a b c ∧ P ≠ Q ∧ w.heap.size ≤ P ∧ w.heap.size ≤ Q ∧ P < w'.heap.size ∧ Q < w'.heap.size ∧ Below w.heap.size w w'
theorem k2_newA (w : World) (a b c : Value) : K2 w w.heap.size (w.heap.size + 1) a b c ((w.alloc (.cells #[a, b, c] 25)).alloc (.cells #[a, b, c] 25)).drew :=
  ⟨heap_alloc2_old w _ _, heap_alloc2_new w _ _, by omega, Nat.le_refl _, by omega, by show _ < ((w.alloc _).alloc _).heap.size; simp; omega, by show _ < ((w.alloc _).alloc _).heap.size; simp, (((Below.refl _ _).alloc (Nat.le_refl _) _).alloc (by simp) _).drew⟩
theorem k2_newB (w : World) (a b c : Value) : K2 w (w.heap.size + 1) w.heap.size a b c ((w.alloc (.cells #[a, b, c] 25)).alloc (.cells #[a, b, c] 25)).drew := by
  obtain ⟨h1, h2, h3, h4, h5, h6, h7, h8⟩ := k2_newA w a b c
  exact ⟨h2, h1, h3.symm, h5, h4, h7, h6, h8⟩

/-- Two batches' blocks, each with writes of the call's own. -/
def KS (W : World) (m P Q : Nat) (a b va vb : Value) (la lb : List Wr) (w' : World) : Prop :=
  rowB3 w' P a b va ∧ rowB3 w' Q a b vb ∧ ownsW w' m va la ∧ ownsW w' m vb lb ∧ (∀ g, va.ownBlock = some g → vb.ownBlock ≠ some g) ∧ Below W.heap.size W w'
theorem ownsW.off {w : World} {base : Nat} {v : Value} {l : List Wr} (h : ownsW w base v l) (B j : Nat) (hB : v.ownBlock ≠ Option.some B) (u : Value) : ownsW (w.setCell ⟨B, j, none⟩ u) base v l :=
  ownsRow_setCell_other h (a := ⟨B, j, none⟩) hB u
section
variable {W w9 : World} {m P Q : Nat} {a b c va vb : Value} {la lb : List Wr}
theorem ks_put (hP : rowB3 w9 P a b c) (hQ : rowB3 w9 Q a b c) (hva : ownsW w9 m va la) (hvb : ownsW w9 m vb lb) (hd : ∀ g, va.ownBlock = some g → vb.ownBlock ≠ some g) (hB : Below W.heap.size W w9) (hPQ : P ≠ Q) (hPm : P < m) (hQm : Q < m) (hPW : W.heap.size ≤ P) (hQW : W.heap.size ≤ Q) :
    KS W m P Q a b va vb la lb ((w9.setCell ⟨P, 2, none⟩ va).setCell ⟨Q, 2, none⟩ vb) :=
  ⟨(hP.set2 va).other Q 2 hPQ vb, (hQ.other P 2 hPQ.symm va).set2 vb, (hva.other P 2 hPm va).other Q 2 hQm vb, (hvb.other P 2 hPm va).other Q 2 hQm vb, hd, Below.setCell (p := ⟨Q, 2, none⟩) (Below.setCell (p := ⟨P, 2, none⟩) hB hPW va) hQW vb⟩
end
theorem KS.store {W wr : World} {m P Q g g2 n ca cb k : Nat} {a b : Value} {l : List Wr} {G H : Wr → Wr} {x : Wr} {u1 u2 : Value} (h : KS W m P Q a b (.slice (some ⟨g, 0, none⟩) n ca) (.slice (some ⟨g2, 0, none⟩) n cb) (mapTo G l k) (mapTo H l k) wr)
    (hn : n = l.length) (hx : l[k]? = some x) (h1 : wrC (G x) = (wrC x).set 3 u1) (h2 : wrC (H x) = (wrC x).set 3 u2) (hPm : P < m) (hQm : Q < m) (hWm : W.heap.size ≤ m) :
    KS W m P Q a b (.slice (some ⟨g, 0, none⟩) n ca) (.slice (some ⟨g2, 0, none⟩) n cb) (mapTo G l (k + 1)) (mapTo H l (k + 1)) ((wr.setCell ⟨g, k * 6 + 3, none⟩ u1).setCell ⟨g2, k * 6 + 3, none⟩ u2) := by
  obtain ⟨r1, r2, r3, r4, r5, r6⟩ := h
  have hg := (r3.lt g rfl).1
  have hg2 := (r4.lt g2 rfl).1
  have hne : g ≠ g2 := fun e => r5 g rfl (by rw [e]; rfl)
  refine ⟨(r1.other g _ (by omega) u1).other g2 _ (by omega) u2, (r2.other g _ (by omega) u1).other g2 _ (by omega) u2, ?_, ?_, r5, Below.setCell (p := ⟨g2, k * 6 + 3, none⟩) (Below.setCell (p := ⟨g, k * 6 + 3, none⟩) r6 (by show W.heap.size ≤ g; omega) u1) (by show W.heap.size ≤ g2; omega) u2⟩
  · rw [← mapTo_set hx]
    exact (r3.stored (by rw [mapTo_len, hn]) (mapTo_at hx) (by omega) h1).1.off g2 _ (fun e => hne (Option.some.inj (show Option.some g = Option.some g2 from e))) u2
  · rw [← mapTo_set hx]
    exact ((r4.off g _ (fun e => hne (Option.some.inj (show Option.some g2 = Option.some g from e)).symm) u1).stored (by rw [mapTo_len, hn]) (mapTo_at hx) (by omega) h2).1

theorem KS.drew {W w' : World} {m P Q : Nat} {a b va vb : Value} {la lb : List Wr} (h : KS W m P Q a b va vb la lb w') : KS W m P Q a b va vb la lb w'.drew :=
  ⟨h.1, h.2.1, h.2.2.1.drew, h.2.2.2.1.drew, h.2.2.2.2.1, h.2.2.2.2.2.drew⟩

set_option maxRecDepth 100000 in
set_option maxHeartbeats 8000000 in
theorem bodyKeys_walk (w : World) (vf vh vw : Value) (f h : List Ent) (l : List Wr) (hx : BatIs w vf vh vw f h l) (key : ByteArray) (_ : key.size ≤ maxLen) (hg : errT w) :
    Calls Tryz.prog 8 #[.agg #[vf, vh, vw], .string key] w fun e w' => e = .returned (.bool true) ∧ Below w.heap.size w w' := by
  have HX := Lib.hid hx
  have HG := Lib.hid hg
  obtain ⟨hf, hh, hv, _⟩ := hx
  obtain ⟨af, cf, rfl, _⟩ := hf.form
  obtain ⟨ah, ch, rfl, _⟩ := hh.form
  obtain ⟨aw, cw, rfl, _⟩ := hv.form
  have HA := Lib.hid (batAt_new w (.slice af f.length cf) (.slice ah h.length ch) (.slice aw l.length cw) 25)
  have HW0 : Hid (Below w.heap.size w (w.alloc (.cells #[.slice af f.length cf, .slice ah h.length ch, .slice aw l.length cw] 25))) := Lib.hid ((Below.refl _ _).alloc (Nat.le_refl _) _)
  have HZ : Hid (w.heap.size < (w.alloc (.cells #[.slice af f.length cf, .slice ah h.length ch, .slice aw l.length cw] 25)).heap.size) := Lib.hid (by simp)
  generalize hnf : f.length = nf at HX HA HW0 HZ ⊢
  generalize hnh : h.length = nh at HX HA HW0 HZ ⊢
  generalize hn : l.length = n at HX HA HW0 HZ ⊢
  have HN := Lib.hid hn
  clear hf hh hv hg hnf hnh hn
  go_enter Tryz.func8, Tryz.ntmps8
  go_wp2_with fail
  generalize w.alloc (.cells #[.slice af nf cf, .slice ah nh ch, .slice aw n cw] 25) = W at HA HW0 HZ ⊢
  have HE : Hid (∀ w', Below W.heap.size W w' → Below w.heap.size w w') := Lib.hid (fun w' hx => HW0.out.trans (hx.mono HW0.out.size))
  refine (bodied_any _ (HG.out.below HW0.out)).mono ?_
  rintro r w1 ⟨rfl, hb1⟩
  have HB1 := Lib.hid hb1
  clear hb1
  obtain ⟨d0, d1, d2⟩ := HA.out.below HB1.out HZ.out
  go_wp2_with fail
  refine (held_any _ _ _ f h l _ (HX.out.below (HE.out _ HB1.out)) (HG.out.below (HE.out _ HB1.out))).mono ?_
  rintro r w3 ⟨q, rfl, hq, hb3⟩
  have HB3 : Hid (Below W.heap.size W w3) := HB1.out.trans (hb3.mono HB1.out.size)
  have HC := Lib.hid hq
  clear hb3 hq d0 d1 d2
  cases q with
  | false =>
    go_wp2
    go_ret
    exact ⟨rfl, HE.out _ HB3.out⟩
  | true =>
    by_cases hk : key.size ≤ 40
    · have hk' : (key.size : Int) ≤ 40 := by omega
      have HKS := Lib.hid hk
      have HR : Hid (rightB f h l) := Lib.hid (HC.out (by trivial))
      have hn60 : n ≤ 60 := by
        obtain ⟨_, h2, _⟩ := rightB_iff.1 HR.out
        rw [HN.out] at h2
        exact h2
      clear HC hk
      obtain ⟨d0, d1, d2⟩ := HA.out.below HB3.out HZ.out
      have HW3 : Hid (w.heap.size < w3.heap.size) := Lib.hid (Nat.lt_of_lt_of_le HZ.out HB3.out.size)
      have hlt3 := HW3.out
      go_wp2
      go_region
      · have hp := k2_newA w3 (.slice af nf cf) (.slice ah nh ch) (.slice aw n cw)
        obtain ⟨W7, hW7⟩ : ∃ W7, W7 = ((w3.alloc (.cells #[.slice af nf cf, .slice ah nh ch, .slice aw n cw] 25)).alloc (.cells #[.slice af nf cf, .slice ah nh ch, .slice aw n cw] 25)).drew := ⟨_, rfl⟩
        rw [← hW7] at hp ⊢
        obtain ⟨Q, hq1⟩ : ∃ q, q = w3.heap.size + 1 := ⟨_, rfl⟩
        rw [← hq1] at hp ⊢
        obtain ⟨P, hq2⟩ : ∃ q, q = w3.heap.size := ⟨_, rfl⟩
        rw [← hq2] at hp ⊢
        clear hW7 hq1 hq2
        --TAIL
        obtain ⟨x1, x2, x3, x4, x5, x6, x7, x8⟩ := hp
        have HP1 := Lib.hid x1
        have HP2 := Lib.hid x2
        have HPM : Hid (P < W7.heap.size ∧ Q < W7.heap.size) := Lib.hid ⟨x6, x7⟩
        have HPW : Hid (W.heap.size ≤ P ∧ W.heap.size ≤ Q) := Lib.hid ⟨Nat.le_trans HB3.out.size x4, Nat.le_trans HB3.out.size x5⟩
        have HPQ := Lib.hid x3
        have HB7 : Hid (Below W.heap.size W W7) := HB3.out.trans (x8.mono HB3.out.size)
        clear x1 x2 x4 x5 x6 x7 x8 d0 d1 d2 hlt3
        have hpq : ¬ P = Q := x3
        have hqp : ¬ Q = P := fun e => x3 e.symm
        clear x3
        have HZ7 : Hid (w.heap.size < W7.heap.size) := Lib.hid (Nat.lt_of_lt_of_le HZ.out HB7.out.size)
        have HIW : Hid (IsWrs W7 (.slice aw n cw) l) := Lib.hid (HX.out.below (HE.out _ HB7.out)).2.2.1
        have HIWd : Hid (IsWrs W7.drew (.slice aw n cw) l) := Lib.hid (HIW.out.drewN 1)
        have HN6 : Hid (l.length ≤ 1000000) := Lib.hid (by have := HN.out; omega)
        obtain ⟨d0, d1, d2⟩ := HA.out.below HB7.out HZ.out
        have hcp := HP1.out.at.2.2
        have hcq := HP2.out.at.2.2
        have hfp := HP1.out.frozen 2
        have hfq := HP2.out.frozen 2
        go_wp2
        go_region_with (first
          | (go_at_call 25; (with_reducible refine (clone_wr (.slice aw n cw) l W7.drew HIWd.out HN6.out).mono ?_); rintro r w8 ⟨v8, rfl, ho8, hb8⟩; have HB8 : Hid (Below W7.heap.size W7 w8) := Lib.hid (undrew3 hb8); have HO8 : Hid (ownsW w8 W7.heap.size v8 l) := Lib.hid ho8; have e2 := (HB8.out.cell (p := ⟨w.heap.size, 2, none⟩) HZ7.out).trans d2; clear ho8 hb8)
          | (go_at_call 25; (with_reducible refine (clone_wr (.slice aw n cw) l w8 (HIW.out.below HB8.out) HN6.out).mono ?_); rintro r w9 ⟨v9, rfl, ho9, hb9⟩; have HB9 : Hid (Below W7.heap.size W7 w9) := HB8.out.trans (hb9.mono HB8.out.size); have HO9 : Hid (ownsW w9 w8.heap.size v9 l) := Lib.hid ho9; have HO8b : Hid (ownsW w9 W7.heap.size v8 l) := Lib.hid (HO8.out.below hb9); obtain ⟨a8, c8, rfl⟩ := HO8.out.slice; obtain ⟨a9, c9, rfl⟩ := HO9.out.slice; rw [HN.out]; have f1 := (HB9.out.cell (p := ⟨P, 2, none⟩) HPM.out.1).trans hcp; have f2 := (HB9.out.cell (p := ⟨Q, 2, none⟩) HPM.out.2).trans hcq; have f3 := (HB9.out.frozen (p := ⟨P, 2, none⟩) HPM.out.1).trans hfp; have f4 := (HB9.out.frozen (p := ⟨Q, 2, none⟩) HPM.out.2).trans hfq; clear ho9 hb9))
        all_goals
          have HDJ : Hid (∀ g, (Value.slice a8 n c8).ownBlock = some g → (Value.slice a9 n c9).ownBlock ≠ some g) := Lib.hid (fun g e1 e2 => by
            have k1 := (HO8.out.lt g (by rw [HN.out]; exact e1)).2
            have k2 := (HO9.out.lt g (by rw [HN.out]; exact e2)).1
            omega)
          have HO9b : Hid (ownsW w9 W7.heap.size (.slice a9 n c9) l) := Lib.hid (by
            have k := HO9.out.mono HB8.out.size
            rw [HN.out] at k
            exact k)
          have HO8c : Hid (ownsW w9 W7.heap.size (.slice a8 n c8) l) := Lib.hid (by
            have k := HO8b.out
            rw [HN.out] at k
            exact k)
          have HQ1 := Lib.hid (HP1.out.below HB9.out HPM.out.1)
          have HQ2 := Lib.hid (HP2.out.below HB9.out HPM.out.2)
          have HBW : Hid (Below W.heap.size W w9) := HB7.out.trans (HB9.out.mono HB7.out.size)
          have HMW : Hid (W.heap.size ≤ W7.heap.size) := Lib.hid HB7.out.size
          have HK : Hid (KS W W7.heap.size P Q (.slice af nf cf) (.slice ah nh ch) (.slice a8 n c8) (.slice a9 n c9) l l ((w9.setCell ⟨P, 2, none⟩ (.slice a8 n c8)).setCell ⟨Q, 2, none⟩ (.slice a9 n c9))) := Lib.hid (ks_put HQ1.out HQ2.out HO8c.out HO9b.out HDJ.out HBW.out HPQ.out HPM.out.1 HPM.out.2 HPW.out.1 HPW.out.2)
          clear HO8 HO9 HO8b HO8c HO9b HQ1 HQ2 HBW HDJ HP1 HP2 HB7 HB8 HB9 HIW HIWd HN6 HZ7 d0 d1 d2 e2 f1 f2 f3 f4 hcp hcq hfp hfq
          generalize (w9.setCell ⟨P, 2, none⟩ (.slice a8 n c8)).setCell ⟨Q, 2, none⟩ (.slice a9 n c9) = W10 at HK ⊢
          generalize W7.heap.size = m at HK HPM HMW
          have d2 := HK.out.1.at.2.2
          go_wp2
          clear d2
          go_loopw [35] (fun i wr => ∃ k : Nat, k ≤ n ∧ i = .int .i64 k ∧ KS W m P Q (.slice af nf cf) (.slice ah nh ch) (.slice a8 n c8) (.slice a9 n c9) (mapTo (withK key) l k) (mapTo (withK ⟨#[]⟩) l k) wr) (fun i _ => n - (intOf i).toNat)
          case atStart => exact ⟨0, Nat.zero_le _, rfl, by rw [mapTo_zero, mapTo_zero]; exact HK.out⟩
          case round =>
            obtain ⟨k, hk, rfl, hs⟩ := hrel
            have HS := Lib.hid hs
            clear hs
            by_cases hlt : k < n
            · have hk1 : (k : Int) < (n : Int) := by omega
              have hk0 : (0 : Int) ≤ (k : Int) := by omega
              obtain ⟨x, hx⟩ : ∃ x, l[k]? = some x := ⟨l[k]'(by have := HN.out; omega), List.getElem?_eq_getElem _⟩
              have HXX := Lib.hid hx
              clear hx
              obtain ⟨g1, rfl, _⟩ := HS.out.2.2.1.some (by rw [mapTo_len, HN.out]; omega)
              obtain ⟨g2, rfl, _⟩ := HS.out.2.2.2.1.some (by rw [mapTo_len, HN.out]; omega)
              have hne : ¬ g1 = g2 := fun e => HS.out.2.2.2.2.1 g1 rfl (by rw [e]; rfl)
              have hen : ¬ g2 = g1 := fun e => hne e.symm
              have d1 := HS.out.1.at.2.2
              have d2 := HS.out.2.1.at.2.2
              have d3 : wr.cell? ⟨g1, k * 6 + 3, none⟩ = some (.string x.key) := by
                rw [HS.out.2.2.1.cellAt (by rw [mapTo_len, HN.out]) (mapTo_at HXX.out) (by omega)]; rfl
              have d4 : wr.frozen? ⟨g1, k * 6 + 3, none⟩ = false := HS.out.2.2.1.frozenAt (by rw [mapTo_len, HN.out]) _
              have d5 : wr.cell? ⟨g2, k * 6 + 3, none⟩ = some (.string x.key) := by
                rw [HS.out.2.2.2.1.cellAt (by rw [mapTo_len, HN.out]) (mapTo_at HXX.out) (by omega)]; rfl
              have d6 : wr.frozen? ⟨g2, k * 6 + 3, none⟩ = false := HS.out.2.2.2.1.frozenAt (by rw [mapTo_len, HN.out]) _
              go_wp2
              go_region
              have HS2 := Lib.hid (HS.out.store HN.out.symm HXX.out (u1 := .string key) (u2 := .string ⟨#[]⟩) rfl rfl HPM.out.1 HPM.out.2 HMW.out).drew
              generalize ((wr.setCell ⟨g1, k * 6 + 3, none⟩ (.string key)).setCell ⟨g2, k * 6 + 3, none⟩ (.string ⟨#[]⟩)).drew = w11 at HS2 ⊢
              clear d1 d2 d3 d4 d5 d6 hne hen
              go_wp2
              go_roundw
              case rel => exact ⟨k + 1, by omega, by go_num, HS2.out⟩
              case measure => simp [intOf]; omega
            · obtain rfl : k = n := by omega
              have hm1 := mapTo_all (withK key) l
              have hm2 := mapTo_all (withK ⟨#[]⟩) l
              rw [HN.out] at hm1 hm2
              have HS2 := HS.out
              rw [hm1, hm2] at HS2
              clear hm1 hm2
              obtain ⟨r1, r2, r3, r4, _, r6⟩ := HS2
              have HR1 := Lib.hid r1
              have HR2 := Lib.hid r2
              have HBW := Lib.hid r6
              have HXR := Lib.hid (HX.out.below (HE.out _ HBW.out))
              have mk : ∀ (j : ByteArray) (a9 : Option Addr) (c9 : Nat), j.size ≤ 40 → ownsW wr m (.slice a9 k c9) (l.map (withK j)) → BatIs wr (.slice af nf cf) (.slice ah nh ch) (.slice a9 k c9) f h (l.map (withK j)) := by
                intro j a9 c9 hj ho
                refine ⟨HXR.out.1, HXR.out.2.1, ho.is, HXR.out.2.2.2.1, HXR.out.2.2.2.2.1, ?_, ?_⟩
                · rw [List.length_map]
                  exact HXR.out.2.2.2.2.2.1
                · intro t ht
                  obtain ⟨y, hy, rfl⟩ := List.mem_map.1 ht
                  exact wrOk_withK hj (HXR.out.2.2.2.2.2.2 y hy)
              have HC1 := Lib.hid (mk key a8 c8 HKS.out r3)
              have HC2 := Lib.hid (mk ⟨#[]⟩ a9 c9 (by decide) r4)
              clear mk r1 r2 r3 r4 r6 HS
              have HB1' := HBW
              have HRR1 : Hid (rightB f h (l.map (withK key))) := Lib.hid (right_withK HKS.out HR.out)
              have HRR2 : Hid (rightB f h (l.map (withK ⟨#[]⟩))) := Lib.hid (right_withK (by decide) HR.out)
              obtain ⟨S, hS⟩ : ∃ S : ByteArray, bodyL f h (l.map (withK key)) = S.data.toList := ⟨⟨(bodyL f h (l.map (withK key))).toArray⟩, by simp⟩
              obtain ⟨U, hU⟩ : ∃ S : ByteArray, bodyL f h (l.map (withK ⟨#[]⟩)) = S.data.toList := ⟨⟨(bodyL f h (l.map (withK ⟨#[]⟩))).toArray⟩, by simp⟩
              have hsu : 0 < k → S.size = U.size + key.size := by
                intro h0
                rw [size_data, size_data, ← hS, ← hU]
                exact body_withK key HKS.out f h l (by rw [HN.out]; exact h0)
              have hsz : k = 0 → S = U := by
                intro h0
                rw [body_noneK l (by rw [HN.out]; exact h0) key ⟨#[]⟩, hU] at hS
                exact (bytes_ext hS).symm
              have HS := Lib.hid hS
              have HU := Lib.hid hU
              have HSU := Lib.hid hsu
              have HSZ := Lib.hid hsz
              clear hS hU hsu hsz
              have HPR : Hid (P < wr.heap.size ∧ Q < wr.heap.size) := Lib.hid ⟨(Array.getElem?_eq_some_iff.1 HR1.out).1, (Array.getElem?_eq_some_iff.1 HR2.out).1⟩
              have HZR : Hid (w.heap.size < wr.heap.size) := Lib.hid (Nat.lt_of_lt_of_le HZ.out HBW.out.size)
              obtain ⟨d0, d1, d2⟩ := HR1.out.at
              go_wp2_with fail
              by_cases hs : S.size ≤ 20000
              · have hs2 : U.size ≤ 20000 := by
                  rcases Nat.eq_zero_or_pos k with h0 | h0
                  · rw [← HSZ.out h0]; exact hs
                  · have := HSU.out h0; omega
                refine (bwrite_ok _ _ _ f h _ S _ HC1.out (HG.out.below (HE.out _ HBW.out)) HRR1.out HS.out hs).mono ?_
                rintro r w12 ⟨rfl, hb12⟩
                have HB12 : Hid (Below W.heap.size W w12) := HBW.out.trans (hb12.mono HBW.out.size)
                have HC12 := Lib.hid (HC2.out.below hb12)
                have HR12 := Lib.hid (HR2.out.below hb12 HPR.out.2)
                clear hb12 d0 d1 d2
                obtain ⟨d0, d1, d2⟩ := HR12.out.at
                go_wp2_with fail
                refine (bwrite_ok _ _ _ f h _ U _ HC12.out (HG.out.below (HE.out _ HB12.out)) HRR2.out HU.out hs2).mono ?_
                rintro r w13 ⟨rfl, hb13⟩
                have HB13 : Hid (Below W.heap.size W w13) := HB12.out.trans (hb13.mono HB12.out.size)
                clear hb13 d0 d1 d2
                obtain ⟨d0, d1, d2⟩ := HA.out.below HB13.out HZ.out
                by_cases h0 : k = 0
                · have hkz : (k : Int) = 0 := by omega
                  have hse := HSZ.out h0
                  subst hse
                  go_wp2
                  go_ret
                  exact ⟨by first | rfl | simp, HE.out _ HB13.out⟩
                · have hkz : ¬ (k : Int) = 0 := by omega
                  have HSI : Hid ((U.size : Int) + (key.size : Int) = (S.size : Int)) := Lib.hid (by have := HSU.out (by omega); omega)
                  have hadd : ((U.size : Int) + (key.size : Int)) ≤ 9223372036854775807 := by omega
                  go_wp2
                  go_ret
                  exact ⟨by first | rfl | (have h5 := HSI.out; simp; omega) | (have h5 := HSI.out; simp [h5]) | (have h5 := HSI.out; simp [IntKind.wrap_i64]; omega), HE.out _ HB13.out⟩
              · refine (bwrite_err _ _ _ f h _ _ HC1.out (HG.out.below (HE.out _ HBW.out)) (fun q => hs (by rw [size_data, ← HS.out]; exact q.2))).mono ?_
                rintro r w12 ⟨t, u, x, rfl, _, _, hb12⟩
                have HB12 : Hid (Below W.heap.size W w12) := HBW.out.trans (hb12.mono HBW.out.size)
                have HC12 := Lib.hid (HC2.out.below hb12)
                have HR12 := Lib.hid (HR2.out.below hb12 HPR.out.2)
                clear hb12 d0 d1 d2
                obtain ⟨d0, d1, d2⟩ := HR12.out.at
                go_wp2_with fail
                refine (bwrite_any _ _ _ f h _ _ HC12.out (HG.out.below (HE.out _ HB12.out))).mono ?_
                rintro r w13 ⟨err, rfl, _, hb13⟩
                have HB13 : Hid (Below W.heap.size W w13) := HB12.out.trans (hb13.mono HB12.out.size)
                clear hb13 d0 d1 d2
                go_wp2
                go_ret
                exact ⟨rfl, HE.out _ HB13.out⟩
      · have hp := k2_newB w3 (.slice af nf cf) (.slice ah nh ch) (.slice aw n cw)
        obtain ⟨W7, hW7⟩ : ∃ W7, W7 = ((w3.alloc (.cells #[.slice af nf cf, .slice ah nh ch, .slice aw n cw] 25)).alloc (.cells #[.slice af nf cf, .slice ah nh ch, .slice aw n cw] 25)).drew := ⟨_, rfl⟩
        rw [← hW7] at hp ⊢
        obtain ⟨P, hq1⟩ : ∃ q, q = w3.heap.size + 1 := ⟨_, rfl⟩
        rw [← hq1] at hp ⊢
        obtain ⟨Q, hq2⟩ : ∃ q, q = w3.heap.size := ⟨_, rfl⟩
        rw [← hq2] at hp ⊢
        clear hW7 hq1 hq2
        --TAIL
        obtain ⟨x1, x2, x3, x4, x5, x6, x7, x8⟩ := hp
        have HP1 := Lib.hid x1
        have HP2 := Lib.hid x2
        have HPM : Hid (P < W7.heap.size ∧ Q < W7.heap.size) := Lib.hid ⟨x6, x7⟩
        have HPW : Hid (W.heap.size ≤ P ∧ W.heap.size ≤ Q) := Lib.hid ⟨Nat.le_trans HB3.out.size x4, Nat.le_trans HB3.out.size x5⟩
        have HPQ := Lib.hid x3
        have HB7 : Hid (Below W.heap.size W W7) := HB3.out.trans (x8.mono HB3.out.size)
        clear x1 x2 x4 x5 x6 x7 x8 d0 d1 d2 hlt3
        have hpq : ¬ P = Q := x3
        have hqp : ¬ Q = P := fun e => x3 e.symm
        clear x3
        have HZ7 : Hid (w.heap.size < W7.heap.size) := Lib.hid (Nat.lt_of_lt_of_le HZ.out HB7.out.size)
        have HIW : Hid (IsWrs W7 (.slice aw n cw) l) := Lib.hid (HX.out.below (HE.out _ HB7.out)).2.2.1
        have HIWd : Hid (IsWrs W7.drew (.slice aw n cw) l) := Lib.hid (HIW.out.drewN 1)
        have HN6 : Hid (l.length ≤ 1000000) := Lib.hid (by have := HN.out; omega)
        obtain ⟨d0, d1, d2⟩ := HA.out.below HB7.out HZ.out
        have hcp := HP1.out.at.2.2
        have hcq := HP2.out.at.2.2
        have hfp := HP1.out.frozen 2
        have hfq := HP2.out.frozen 2
        go_wp2
        go_region_with (first
          | (go_at_call 25; (with_reducible refine (clone_wr (.slice aw n cw) l W7.drew HIWd.out HN6.out).mono ?_); rintro r w8 ⟨v8, rfl, ho8, hb8⟩; have HB8 : Hid (Below W7.heap.size W7 w8) := Lib.hid (undrew3 hb8); have HO8 : Hid (ownsW w8 W7.heap.size v8 l) := Lib.hid ho8; have e2 := (HB8.out.cell (p := ⟨w.heap.size, 2, none⟩) HZ7.out).trans d2; clear ho8 hb8)
          | (go_at_call 25; (with_reducible refine (clone_wr (.slice aw n cw) l w8 (HIW.out.below HB8.out) HN6.out).mono ?_); rintro r w9 ⟨v9, rfl, ho9, hb9⟩; have HB9 : Hid (Below W7.heap.size W7 w9) := HB8.out.trans (hb9.mono HB8.out.size); have HO9 : Hid (ownsW w9 w8.heap.size v9 l) := Lib.hid ho9; have HO8b : Hid (ownsW w9 W7.heap.size v8 l) := Lib.hid (HO8.out.below hb9); obtain ⟨a8, c8, rfl⟩ := HO8.out.slice; obtain ⟨a9, c9, rfl⟩ := HO9.out.slice; rw [HN.out]; have f1 := (HB9.out.cell (p := ⟨P, 2, none⟩) HPM.out.1).trans hcp; have f2 := (HB9.out.cell (p := ⟨Q, 2, none⟩) HPM.out.2).trans hcq; have f3 := (HB9.out.frozen (p := ⟨P, 2, none⟩) HPM.out.1).trans hfp; have f4 := (HB9.out.frozen (p := ⟨Q, 2, none⟩) HPM.out.2).trans hfq; clear ho9 hb9))
        all_goals
          have HDJ : Hid (∀ g, (Value.slice a8 n c8).ownBlock = some g → (Value.slice a9 n c9).ownBlock ≠ some g) := Lib.hid (fun g e1 e2 => by
            have k1 := (HO8.out.lt g (by rw [HN.out]; exact e1)).2
            have k2 := (HO9.out.lt g (by rw [HN.out]; exact e2)).1
            omega)
          have HO9b : Hid (ownsW w9 W7.heap.size (.slice a9 n c9) l) := Lib.hid (by
            have k := HO9.out.mono HB8.out.size
            rw [HN.out] at k
            exact k)
          have HO8c : Hid (ownsW w9 W7.heap.size (.slice a8 n c8) l) := Lib.hid (by
            have k := HO8b.out
            rw [HN.out] at k
            exact k)
          have HQ1 := Lib.hid (HP1.out.below HB9.out HPM.out.1)
          have HQ2 := Lib.hid (HP2.out.below HB9.out HPM.out.2)
          have HBW : Hid (Below W.heap.size W w9) := HB7.out.trans (HB9.out.mono HB7.out.size)
          have HMW : Hid (W.heap.size ≤ W7.heap.size) := Lib.hid HB7.out.size
          have HK : Hid (KS W W7.heap.size P Q (.slice af nf cf) (.slice ah nh ch) (.slice a8 n c8) (.slice a9 n c9) l l ((w9.setCell ⟨P, 2, none⟩ (.slice a8 n c8)).setCell ⟨Q, 2, none⟩ (.slice a9 n c9))) := Lib.hid (ks_put HQ1.out HQ2.out HO8c.out HO9b.out HDJ.out HBW.out HPQ.out HPM.out.1 HPM.out.2 HPW.out.1 HPW.out.2)
          clear HO8 HO9 HO8b HO8c HO9b HQ1 HQ2 HBW HDJ HP1 HP2 HB7 HB8 HB9 HIW HIWd HN6 HZ7 d0 d1 d2 e2 f1 f2 f3 f4 hcp hcq hfp hfq
          generalize (w9.setCell ⟨P, 2, none⟩ (.slice a8 n c8)).setCell ⟨Q, 2, none⟩ (.slice a9 n c9) = W10 at HK ⊢
          generalize W7.heap.size = m at HK HPM HMW
          have d2 := HK.out.1.at.2.2
          go_wp2
          clear d2
          go_loopw [35] (fun i wr => ∃ k : Nat, k ≤ n ∧ i = .int .i64 k ∧ KS W m P Q (.slice af nf cf) (.slice ah nh ch) (.slice a8 n c8) (.slice a9 n c9) (mapTo (withK key) l k) (mapTo (withK ⟨#[]⟩) l k) wr) (fun i _ => n - (intOf i).toNat)
          case atStart => exact ⟨0, Nat.zero_le _, rfl, by rw [mapTo_zero, mapTo_zero]; exact HK.out⟩
          case round =>
            obtain ⟨k, hk, rfl, hs⟩ := hrel
            have HS := Lib.hid hs
            clear hs
            by_cases hlt : k < n
            · have hk1 : (k : Int) < (n : Int) := by omega
              have hk0 : (0 : Int) ≤ (k : Int) := by omega
              obtain ⟨x, hx⟩ : ∃ x, l[k]? = some x := ⟨l[k]'(by have := HN.out; omega), List.getElem?_eq_getElem _⟩
              have HXX := Lib.hid hx
              clear hx
              obtain ⟨g1, rfl, _⟩ := HS.out.2.2.1.some (by rw [mapTo_len, HN.out]; omega)
              obtain ⟨g2, rfl, _⟩ := HS.out.2.2.2.1.some (by rw [mapTo_len, HN.out]; omega)
              have hne : ¬ g1 = g2 := fun e => HS.out.2.2.2.2.1 g1 rfl (by rw [e]; rfl)
              have hen : ¬ g2 = g1 := fun e => hne e.symm
              have d1 := HS.out.1.at.2.2
              have d2 := HS.out.2.1.at.2.2
              have d3 : wr.cell? ⟨g1, k * 6 + 3, none⟩ = some (.string x.key) := by
                rw [HS.out.2.2.1.cellAt (by rw [mapTo_len, HN.out]) (mapTo_at HXX.out) (by omega)]; rfl
              have d4 : wr.frozen? ⟨g1, k * 6 + 3, none⟩ = false := HS.out.2.2.1.frozenAt (by rw [mapTo_len, HN.out]) _
              have d5 : wr.cell? ⟨g2, k * 6 + 3, none⟩ = some (.string x.key) := by
                rw [HS.out.2.2.2.1.cellAt (by rw [mapTo_len, HN.out]) (mapTo_at HXX.out) (by omega)]; rfl
              have d6 : wr.frozen? ⟨g2, k * 6 + 3, none⟩ = false := HS.out.2.2.2.1.frozenAt (by rw [mapTo_len, HN.out]) _
              go_wp2
              go_region
              have HS2 := Lib.hid (HS.out.store HN.out.symm HXX.out (u1 := .string key) (u2 := .string ⟨#[]⟩) rfl rfl HPM.out.1 HPM.out.2 HMW.out).drew
              generalize ((wr.setCell ⟨g1, k * 6 + 3, none⟩ (.string key)).setCell ⟨g2, k * 6 + 3, none⟩ (.string ⟨#[]⟩)).drew = w11 at HS2 ⊢
              clear d1 d2 d3 d4 d5 d6 hne hen
              go_wp2
              go_roundw
              case rel => exact ⟨k + 1, by omega, by go_num, HS2.out⟩
              case measure => simp [intOf]; omega
            · obtain rfl : k = n := by omega
              have hm1 := mapTo_all (withK key) l
              have hm2 := mapTo_all (withK ⟨#[]⟩) l
              rw [HN.out] at hm1 hm2
              have HS2 := HS.out
              rw [hm1, hm2] at HS2
              clear hm1 hm2
              obtain ⟨r1, r2, r3, r4, _, r6⟩ := HS2
              have HR1 := Lib.hid r1
              have HR2 := Lib.hid r2
              have HBW := Lib.hid r6
              have HXR := Lib.hid (HX.out.below (HE.out _ HBW.out))
              have mk : ∀ (j : ByteArray) (a9 : Option Addr) (c9 : Nat), j.size ≤ 40 → ownsW wr m (.slice a9 k c9) (l.map (withK j)) → BatIs wr (.slice af nf cf) (.slice ah nh ch) (.slice a9 k c9) f h (l.map (withK j)) := by
                intro j a9 c9 hj ho
                refine ⟨HXR.out.1, HXR.out.2.1, ho.is, HXR.out.2.2.2.1, HXR.out.2.2.2.2.1, ?_, ?_⟩
                · rw [List.length_map]
                  exact HXR.out.2.2.2.2.2.1
                · intro t ht
                  obtain ⟨y, hy, rfl⟩ := List.mem_map.1 ht
                  exact wrOk_withK hj (HXR.out.2.2.2.2.2.2 y hy)
              have HC1 := Lib.hid (mk key a8 c8 HKS.out r3)
              have HC2 := Lib.hid (mk ⟨#[]⟩ a9 c9 (by decide) r4)
              clear mk r1 r2 r3 r4 r6 HS
              have HB1' := HBW
              have HRR1 : Hid (rightB f h (l.map (withK key))) := Lib.hid (right_withK HKS.out HR.out)
              have HRR2 : Hid (rightB f h (l.map (withK ⟨#[]⟩))) := Lib.hid (right_withK (by decide) HR.out)
              obtain ⟨S, hS⟩ : ∃ S : ByteArray, bodyL f h (l.map (withK key)) = S.data.toList := ⟨⟨(bodyL f h (l.map (withK key))).toArray⟩, by simp⟩
              obtain ⟨U, hU⟩ : ∃ S : ByteArray, bodyL f h (l.map (withK ⟨#[]⟩)) = S.data.toList := ⟨⟨(bodyL f h (l.map (withK ⟨#[]⟩))).toArray⟩, by simp⟩
              have hsu : 0 < k → S.size = U.size + key.size := by
                intro h0
                rw [size_data, size_data, ← hS, ← hU]
                exact body_withK key HKS.out f h l (by rw [HN.out]; exact h0)
              have hsz : k = 0 → S = U := by
                intro h0
                rw [body_noneK l (by rw [HN.out]; exact h0) key ⟨#[]⟩, hU] at hS
                exact (bytes_ext hS).symm
              have HS := Lib.hid hS
              have HU := Lib.hid hU
              have HSU := Lib.hid hsu
              have HSZ := Lib.hid hsz
              clear hS hU hsu hsz
              have HPR : Hid (P < wr.heap.size ∧ Q < wr.heap.size) := Lib.hid ⟨(Array.getElem?_eq_some_iff.1 HR1.out).1, (Array.getElem?_eq_some_iff.1 HR2.out).1⟩
              have HZR : Hid (w.heap.size < wr.heap.size) := Lib.hid (Nat.lt_of_lt_of_le HZ.out HBW.out.size)
              obtain ⟨d0, d1, d2⟩ := HR1.out.at
              go_wp2_with fail
              by_cases hs : S.size ≤ 20000
              · have hs2 : U.size ≤ 20000 := by
                  rcases Nat.eq_zero_or_pos k with h0 | h0
                  · rw [← HSZ.out h0]; exact hs
                  · have := HSU.out h0; omega
                refine (bwrite_ok _ _ _ f h _ S _ HC1.out (HG.out.below (HE.out _ HBW.out)) HRR1.out HS.out hs).mono ?_
                rintro r w12 ⟨rfl, hb12⟩
                have HB12 : Hid (Below W.heap.size W w12) := HBW.out.trans (hb12.mono HBW.out.size)
                have HC12 := Lib.hid (HC2.out.below hb12)
                have HR12 := Lib.hid (HR2.out.below hb12 HPR.out.2)
                clear hb12 d0 d1 d2
                obtain ⟨d0, d1, d2⟩ := HR12.out.at
                go_wp2_with fail
                refine (bwrite_ok _ _ _ f h _ U _ HC12.out (HG.out.below (HE.out _ HB12.out)) HRR2.out HU.out hs2).mono ?_
                rintro r w13 ⟨rfl, hb13⟩
                have HB13 : Hid (Below W.heap.size W w13) := HB12.out.trans (hb13.mono HB12.out.size)
                clear hb13 d0 d1 d2
                obtain ⟨d0, d1, d2⟩ := HA.out.below HB13.out HZ.out
                by_cases h0 : k = 0
                · have hkz : (k : Int) = 0 := by omega
                  have hse := HSZ.out h0
                  subst hse
                  go_wp2
                  go_ret
                  exact ⟨by first | rfl | simp, HE.out _ HB13.out⟩
                · have hkz : ¬ (k : Int) = 0 := by omega
                  have HSI : Hid ((U.size : Int) + (key.size : Int) = (S.size : Int)) := Lib.hid (by have := HSU.out (by omega); omega)
                  have hadd : ((U.size : Int) + (key.size : Int)) ≤ 9223372036854775807 := by omega
                  go_wp2
                  go_ret
                  exact ⟨by first | rfl | (have h5 := HSI.out; simp; omega) | (have h5 := HSI.out; simp [h5]) | (have h5 := HSI.out; simp [IntKind.wrap_i64]; omega), HE.out _ HB13.out⟩
              · refine (bwrite_err _ _ _ f h _ _ HC1.out (HG.out.below (HE.out _ HBW.out)) (fun q => hs (by rw [size_data, ← HS.out]; exact q.2))).mono ?_
                rintro r w12 ⟨t, u, x, rfl, _, _, hb12⟩
                have HB12 : Hid (Below W.heap.size W w12) := HBW.out.trans (hb12.mono HBW.out.size)
                have HC12 := Lib.hid (HC2.out.below hb12)
                have HR12 := Lib.hid (HR2.out.below hb12 HPR.out.2)
                clear hb12 d0 d1 d2
                obtain ⟨d0, d1, d2⟩ := HR12.out.at
                go_wp2_with fail
                refine (bwrite_any _ _ _ f h _ _ HC12.out (HG.out.below (HE.out _ HB12.out))).mono ?_
                rintro r w13 ⟨err, rfl, _, hb13⟩
                have HB13 : Hid (Below W.heap.size W w13) := HB12.out.trans (hb13.mono HB12.out.size)
                clear hb13 d0 d1 d2
                go_wp2
                go_ret
                exact ⟨rfl, HE.out _ HB13.out⟩
    · have hk' : 40 < (key.size : Int) := by omega
      go_wp2
      go_ret
      exact ⟨rfl, HE.out _ HB3.out⟩
end Go.Proofs.YtgelfjcmggicdaaGreatDoor
