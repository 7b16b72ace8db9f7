/-
  The walk of 'packtrainlaw.BatchSames'.
-/
import Derived.Test.YtiipnifnejnhlaaBatSame
import Derived.Test.YtiipnifnejnhlaaBatRefSame
import Derived.Test.YtiipnifnejnhlaaBatBigL
import Derived.Deep.RegionHeld3
import Derived.RegionTactic
namespace Go.Proofs.Ytiipnifnejnhlaa
open Go.RowKit

theorem undrew3s {w w' : World} (h : Below w.drew.heap.size w.drew w') : Below w.heap.size w w' := ((Below.refl _ _).drew).trans h

set_option maxRecDepth 100000 in
set_option maxHeartbeats 8000000 in
theorem batchSames_walk (w : World) (vf vh vw : Value) (f h : List Ent) (l : List Wr) (hx : BatIs w vf vh vw f h l) (uf uh uw : Value) (f2 h2 : List Ent) (l2 : List Wr) (hy : BatIs w uf uh uw f2 h2 l2) :
    Calls Try.prog 3 #[.agg #[vf, vh, vw], .agg #[uf, uh, uw]] w fun e w' => e = .returned (.bool true) ∧ Below w.heap.size w w' := by
  have HX := Lib.hid hx
  have HY := Lib.hid hy
  obtain ⟨hf, hh, hv, _⟩ := hx
  obtain ⟨af, cf, rfl, _⟩ := hf.form
  obtain ⟨ah, ch, rfl, _⟩ := hh.form
  obtain ⟨aw, cw, rfl, _⟩ := hv.form
  obtain ⟨hf2, hh2, hv2, _⟩ := hy
  obtain ⟨bf, df, rfl, _⟩ := hf2.form
  obtain ⟨bh, dh, rfl, _⟩ := hh2.form
  obtain ⟨bw, dw, rfl, _⟩ := hv2.form
  clear hf hh hv hf2 hh2 hv2
  obtain ⟨nf, hn1⟩ : ∃ n, n = f.length := ⟨_, rfl⟩
  obtain ⟨nh, hn2⟩ : ∃ n, n = h.length := ⟨_, rfl⟩
  obtain ⟨n, hn3⟩ : ∃ n, n = l.length := ⟨_, rfl⟩
  obtain ⟨mf, hn4⟩ : ∃ n, n = f2.length := ⟨_, rfl⟩
  obtain ⟨mh, hn5⟩ : ∃ n, n = h2.length := ⟨_, rfl⟩
  obtain ⟨m, hn6⟩ : ∃ n, n = l2.length := ⟨_, rfl⟩
  rw [← hn1, ← hn2, ← hn3] at HX ⊢
  rw [← hn4, ← hn5, ← hn6] at HY ⊢
  obtain ⟨c1, e1⟩ : ∃ c, bigV 300 f h l = c := ⟨_, rfl⟩
  obtain ⟨c2, e2⟩ : ∃ c, bigV 300 f2 h2 l2 = c := ⟨_, rfl⟩
  obtain ⟨c3, e3⟩ : ∃ c, sameV f h l f2 h2 l2 = c := ⟨_, rfl⟩
  have H1 := Lib.hid e1
  have H2 := Lib.hid e2
  have H3 := Lib.hid e3
  have HW0 : Hid (Below w.heap.size w ((w.alloc (.cells #[.slice af nf cf, .slice ah nh ch, .slice aw n cw] 25)).alloc (.cells #[.slice bf mf df, .slice bh mh dh, .slice bw m dw] 25))) := Lib.hid (((Below.refl _ _).alloc (Nat.le_refl _) _).alloc (by simp) _)
  have HA : Hid (bat2 ((w.alloc (.cells #[.slice af nf cf, .slice ah nh ch, .slice aw n cw] 25)).alloc (.cells #[.slice bf mf df, .slice bh mh dh, .slice bw m dw] 25)) w.heap.size (.slice af nf cf) (.slice ah nh ch) (.slice aw n cw) (.slice bf mf df) (.slice bh mh dh) (.slice bw m dw)) := Lib.hid (bat2_new _ _ _ _ _ _ _ _ _)
  have HZ : Hid (w.heap.size + 1 < ((w.alloc (.cells #[.slice af nf cf, .slice ah nh ch, .slice aw n cw] 25)).alloc (.cells #[.slice bf mf df, .slice bh mh dh, .slice bw m dw] 25)).heap.size) := Lib.hid (by simp)
  clear hn1 hn2 hn3 hn4 hn5 hn6 e1 e2 e3
  go_enter Try.func3, Try.ntmps3
  go_wp2
  generalize (w.alloc (.cells #[.slice af nf cf, .slice ah nh ch, .slice aw n cw] 25)).alloc (.cells #[.slice bf mf df, .slice bh mh dh, .slice bw m dw] 25) = W at HA HW0 HZ ⊢
  have HB0 : Hid (Below W.heap.size W W.drew) := Lib.hid (Below.refl _ _).drew
  have HE : Hid (∀ w', Below W.heap.size W w' → Below w.heap.size w w') := Lib.hid (fun w' hx => HW0.out.trans (hx.mono HW0.out.size))
  have hA0 := HA.out
  unfold bat2 at hA0
  cases c1 with
  | true =>
    obtain ⟨d0, d1, d2, d3, d4, d5⟩ := hA0
    go_region_with (first
      | (go_at_call 4; ((with_reducible refine (bigL_as _ _ _ f h l true _ (HX.out.below (HE.out _ HB0.out)) H1.out).mono ?_); rintro r w1 ⟨rfl, hb1⟩; have HB1 : Hid (Below W.heap.size W w1) := Lib.hid (undrew3s hb1); clear hb1)))
    all_goals
      go_wp2
      go_ret
      exact ⟨rfl, HE.out _ HB1.out⟩
  | false =>
    cases c2 with
    | true =>
      obtain ⟨d0, d1, d2, d3, d4, d5⟩ := hA0
      go_region_with (first
        | (go_at_call 4; ((with_reducible refine (bigL_as _ _ _ f h l false _ (HX.out.below (HE.out _ HB0.out)) H1.out).mono ?_); rintro r w1 ⟨rfl, hb1⟩; have HB1 : Hid (Below W.heap.size W w1) := Lib.hid (undrew3s hb1); obtain ⟨g0, g1, g2, g3, g4, g5⟩ := HA.out.below HB1.out HZ.out; clear hb1))
        | (go_at_call 4; ((with_reducible refine (bigL_as _ _ _ f2 h2 l2 true _ (HY.out.below (HE.out _ HB1.out)) H2.out).mono ?_); rintro r w2 ⟨rfl, hb2⟩; have HB2 : Hid (Below W.heap.size W w2) := HB1.out.trans (hb2.mono HB1.out.size); clear hb2)))
      all_goals
        go_wp2
        go_ret
        exact ⟨rfl, HE.out _ HB2.out⟩
    | false =>
      go_region_held3 (fun w' => w'.cell? ⟨w.heap.size, 0, none⟩ = some (.slice af nf cf) ∧ w'.cell? ⟨w.heap.size, 1, none⟩ = some (.slice ah nh ch) ∧ w'.cell? ⟨w.heap.size, 2, none⟩ = some (.slice aw n cw) ∧ w'.cell? ⟨w.heap.size + 1, 0, none⟩ = some (.slice bf mf df) ∧ w'.cell? ⟨w.heap.size + 1, 1, none⟩ = some (.slice bh mh dh) ∧ w'.cell? ⟨w.heap.size + 1, 2, none⟩ = some (.slice bw m dw)) (first | exact hA0 | exact k1 | exact k2 | exact k3 | exact k4 | fail) (first
        | (go_at_call 4; ((with_reducible refine (bigL_as _ _ _ f h l false W.drew (HX.out.below (HE.out _ HB0.out)) H1.out).mono ?_); rintro r w1 ⟨rfl, hb1⟩; have HB1 : Hid (Below W.heap.size W w1) := Lib.hid (undrew3s hb1); have k1 := HA.out.below HB1.out HZ.out; unfold bat2 at k1; clear hb1))
        | (go_at_call 4; ((with_reducible refine (bigL_as _ _ _ f2 h2 l2 false w1 (HY.out.below (HE.out _ HB1.out)) H2.out).mono ?_); rintro r w2 ⟨rfl, hb2⟩; have HB2 : Hid (Below W.heap.size W w2) := HB1.out.trans (hb2.mono HB1.out.size); have k2 := HA.out.below HB2.out HZ.out; unfold bat2 at k2; clear hb2))
        | (go_at_call 5; ((with_reducible refine (bsame_as _ _ _ _ _ _ f h l f2 h2 l2 c3 w2 (HX.out.below (HE.out _ HB2.out)) (HY.out.below (HE.out _ HB2.out)) H3.out).mono ?_); rintro r w3 ⟨rfl, hb3⟩; have HB3 : Hid (Below W.heap.size W w3) := HB2.out.trans (hb3.mono HB2.out.size); have k3 := HA.out.below HB3.out HZ.out; unfold bat2 at k3; clear hb3))
        | (go_at_call 6; ((with_reducible refine (rbsame_as _ _ _ _ _ _ f h l f2 h2 l2 c3 w3 (HX.out.below (HE.out _ HB3.out)) (HY.out.below (HE.out _ HB3.out)) H3.out).mono ?_); rintro r w4 ⟨rfl, hb4⟩; have HB4 : Hid (Below W.heap.size W w4) := HB3.out.trans (hb4.mono HB3.out.size); have k4 := HA.out.below HB4.out HZ.out; unfold bat2 at k4; clear hb4))
        | fail)
      go_wp2
      go_ret
      exact ⟨by first | rfl | simp, HE.out _ HB4.out⟩
end Go.Proofs.Ytiipnifnejnhlaa
