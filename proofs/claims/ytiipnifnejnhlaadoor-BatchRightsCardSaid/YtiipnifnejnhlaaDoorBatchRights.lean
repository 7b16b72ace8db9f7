/-
  The walk of 'packtrainlaw.BatchRights'.
-/
import Derived.Test.YtiipnifnejnhlaaDoorBatRef
import Derived.Test.YtiipnifnejnhlaaDoorBatBigL
import Derived.Test.YtiipnifnejnhlaaDoorPlace
namespace Go.Proofs.YtiipnifnejnhlaaDoor
open Go.RowKit

theorem bright_as (vf vh vw : Value) (f h : List Ent) (l : List Wr) (e : Nat) (pl : Int) (w : World) (hx : BatIs w vf vh vw f h l) (hg : errT w) (hb : batF f h l = (e, pl)) :
    Calls Tryd.prog 10 #[.agg #[vf, vh, vw]] w (VRightIs w (e, pl)) := by
  rw [← hb]; exact bright_any vf vh vw f h l w hx.1 hx.2.1 hx.2.2.1 hx.2.2.2.1 hx.2.2.2.2.1 hx.2.2.2.2.2.2 hg
theorem rbright_as (vf vh vw : Value) (f h : List Ent) (l : List Wr) (e : Nat) (pl : Int) (w : World) (hx : BatIs w vf vh vw f h l) (hb : batF f h l = (e, pl)) :
    Calls Tryd.prog 11 #[.agg #[vf, vh, vw]] w fun r w' => r = .returned (.agg #[.int .i64 (e : Int), .int .i64 pl]) ∧ Below w.heap.size w w' :=
  (rbright_any vf vh vw f h l w hx.1 hx.2.1 hx.2.2.1 hx.2.2.2.1 hx.2.2.2.2.1 hx.2.2.2.2.2.2).mono fun r w' ⟨h1, h2⟩ => ⟨by rw [h1, hb]; rfl, h2⟩

set_option maxRecDepth 100000 in
set_option maxHeartbeats 4000000 in
theorem batchRights_walk (w : World) (vf vh vw : Value) (f h : List Ent) (l : List Wr) (hx : BatIs w vf vh vw f h l) (hg : errT w) :
    Calls Tryd.prog 3 #[.agg #[vf, vh, vw]] w fun e w' => e = .returned (.bool true) ∧ Below w.heap.size w w' := by
  have HX := Lib.hid hx
  have HG := Lib.hid hg
  obtain ⟨hf, hh, hv, _⟩ := hx
  obtain ⟨af, cf, rfl, _⟩ := hf.form
  obtain ⟨ah, ch, rfl, _⟩ := hh.form
  obtain ⟨aw, cw, rfl, _⟩ := hv.form
  have HA := Lib.hid (batAt_new w (.slice af f.length cf) (.slice ah h.length ch) (.slice aw l.length cw) 25)
  have HW0 : Hid (Below w.heap.size w (w.alloc (.cells #[.slice af f.length cf, .slice ah h.length ch, .slice aw l.length cw] 25))) := Lib.hid ((Below.refl _ _).alloc (Nat.le_refl _) _)
  have HZ : Hid (w.heap.size < (w.alloc (.cells #[.slice af f.length cf, .slice ah h.length ch, .slice aw l.length cw] 25)).heap.size) := Lib.hid (by simp)
  generalize f.length = nf at HX HA HW0 HZ ⊢
  generalize h.length = nh at HX HA HW0 HZ ⊢
  generalize l.length = n at HX HA HW0 HZ ⊢
  obtain ⟨e, pl, hb⟩ : ∃ e pl, batF f h l = (e, pl) := ⟨_, _, rfl⟩
  have HBF := Lib.hid hb
  clear hf hh hv hg hb
  go_enter Tryd.func3, Tryd.ntmps3
  go_wp2
  generalize w.alloc (.cells #[.slice af nf cf, .slice ah nh ch, .slice aw n cw] 25) = W at HA HW0 HZ ⊢
  have hA0 := HA.out
  unfold batAt at hA0
  have HB0 : Hid (Below W.heap.size W W.drew) := Lib.hid (Below.refl _ _).drew
  have HE : Hid (∀ w', Below W.heap.size W w' → Below w.heap.size w w') := Lib.hid (fun w' hx => HW0.out.trans (hx.mono HW0.out.size))
  obtain ⟨c, hc⟩ : ∃ c, bigV 300 f h l = c := ⟨_, rfl⟩
  have HC := Lib.hid hc
  clear hc
  cases c with
  | true =>
    obtain ⟨d0, d1, d2⟩ := HA.out
    go_region_with (first
      | (go_at_call 8; ((with_reducible refine (bigL_as _ _ _ f h l true _ (HX.out.below (HE.out _ HB0.out)) HC.out).mono ?_); rintro r w1 ⟨rfl, hb1⟩; have HB1 : Hid (Below W.heap.size W w1) := Lib.hid (undrew3 hb1); clear hb1)))
    all_goals
      go_wp2
      go_ret
      exact ⟨rfl, HE.out _ HB1.out⟩
  | false =>
    go_region_held3 (fun w' => w'.cell? ⟨w.heap.size, 0, none⟩ = some (.slice af nf cf) ∧ w'.cell? ⟨w.heap.size, 1, none⟩ = some (.slice ah nh ch) ∧ w'.cell? ⟨w.heap.size, 2, none⟩ = some (.slice aw n cw)) (first | exact hA0 | exact k1 | exact k2 | exact k3 | exact k4 | fail) (first
      | (go_at_call 8; ((with_reducible refine (bigL_as _ _ _ f h l false W.drew (HX.out.below (HE.out _ HB0.out)) HC.out).mono ?_); rintro r w1 ⟨rfl, hb1⟩; have HB1 : Hid (Below W.heap.size W w1) := Lib.hid (undrew3 hb1); have k1 := HA.out.below HB1.out HZ.out; unfold batAt at k1; clear hb1))
      | (go_at_call 10; ((with_reducible refine (bright_as _ _ _ f h l e pl w1 (HX.out.below (HE.out _ HB1.out)) (HG.out.below (HE.out _ HB1.out)) HBF.out).mono ?_); rintro r w2 ⟨err, rfl, hat, hb2⟩; have HB2 : Hid (Below W.heap.size W w2) := HB1.out.trans (hb2.mono HB1.out.size); have HAT := Lib.hid hat; have k2 := HA.out.below HB2.out HZ.out; unfold batAt at k2; clear hb2 hat))
      | (go_at_call 11; ((with_reducible refine (rbright_as _ _ _ f h l e pl w2 (HX.out.below (HE.out _ HB2.out)) HBF.out).mono ?_); rintro r w3 ⟨rfl, hb3⟩; have HB3 : Hid (Below W.heap.size W w3) := HB2.out.trans (hb3.mono HB2.out.size); have HAT3 := Lib.hid (HAT.out.below hb3); have k3 := HA.out.below HB3.out HZ.out; unfold batAt at k3; clear hb3))
      | (go_at_call 9; ((with_reducible refine (placed_ok _ e pl w3 (HG.out.below (HE.out _ HB3.out)) HAT3.out.place).mono ?_); rintro r w4 ⟨rfl, hb4⟩; have HB4 : Hid (Below W.heap.size W w4) := HB3.out.trans (hb4.mono HB3.out.size); have k4 := HA.out.below HB4.out HZ.out; unfold batAt at k4; clear hb4))
      | fail)
    go_wp2
    go_ret
    exact ⟨rfl, HE.out _ HB4.out⟩
end Go.Proofs.YtiipnifnejnhlaaDoor
