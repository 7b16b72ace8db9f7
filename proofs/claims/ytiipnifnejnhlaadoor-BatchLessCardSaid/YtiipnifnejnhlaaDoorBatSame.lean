/-
  The contract of batch.Same.
-/
import Derived.Test.YtiipnifnejnhlaaDoorBatSameM
import Derived.Test.YtiipnifnejnhlaaDoorEntEq
import Derived.Test.YtiipnifnejnhlaaDoorBatArg
namespace Go.Proofs.YtiipnifnejnhlaaDoor
open Go.RowKit

set_option maxRecDepth 100000 in
set_option maxHeartbeats 4000000 in
theorem bsame_as (vf vh vw uf uh uw : Value) (f h : List Ent) (l : List Wr) (f2 h2 : List Ent) (l2 : List Wr) (c : Bool) (w : World) (hx : BatIs w vf vh vw f h l) (hy : BatIs w uf uh uw f2 h2 l2) (hc : sameV f h l f2 h2 l2 = c) :
    Calls Tryd.prog 23 #[.agg #[vf, vh, vw], .agg #[uf, uh, uw]] w fun e w' => e = .returned (.bool c) ∧ Below w.heap.size w w' := by
  subst hc
  have HX := Lib.hid hx
  have HY := Lib.hid hy
  obtain ⟨hf, hh, hv, _⟩ := hx
  obtain ⟨af, cf, rfl, _⟩ := hf.form
  obtain ⟨ah, ch, rfl, _⟩ := hh.form
  obtain ⟨aw, cw, rfl, _⟩ := hv.form
  obtain ⟨hf2, hh2, hv2, _⟩ := hy
  obtain ⟨bf, df, rfl, _⟩ := hf2.form
  obtain ⟨bh, dh, rfl, _⟩ := hh2.form
  obtain ⟨bw, dw, rfl, _⟩ := hv2.form
  clear hf hh hv hf2 hh2 hv2
  obtain ⟨nf, hn1⟩ : ∃ n, n = f.length := ⟨_, rfl⟩
  obtain ⟨nh, hn2⟩ : ∃ n, n = h.length := ⟨_, rfl⟩
  obtain ⟨n, hn3⟩ : ∃ n, n = l.length := ⟨_, rfl⟩
  obtain ⟨mf, hn4⟩ : ∃ n, n = f2.length := ⟨_, rfl⟩
  obtain ⟨mh, hn5⟩ : ∃ n, n = h2.length := ⟨_, rfl⟩
  obtain ⟨m, hn6⟩ : ∃ n, n = l2.length := ⟨_, rfl⟩
  rw [← hn1, ← hn2, ← hn3] at HX ⊢
  rw [← hn4, ← hn5, ← hn6] at HY ⊢
  obtain ⟨c1, e1⟩ : ∃ c, decide (f = f2) = c := ⟨_, rfl⟩
  obtain ⟨c2, e2⟩ : ∃ c, decide (h = h2) = c := ⟨_, rfl⟩
  obtain ⟨c3, e3⟩ : ∃ c, decide (l = l2) = c := ⟨_, rfl⟩
  have HR : Hid (sameV f h l f2 h2 l2 = (c1 && c2 && c3)) := Lib.hid (by unfold sameV; rw [e1, e2, e3])
  have H1 := Lib.hid e1
  have H2 := Lib.hid e2
  have H3 := Lib.hid e3
  have HW0 : Hid (Below w.heap.size w ((w.alloc (.cells #[.slice af nf cf, .slice ah nh ch, .slice aw n cw] 25)).alloc (.cells #[.slice bf mf df, .slice bh mh dh, .slice bw m dw] 25))) := Lib.hid (((Below.refl _ _).alloc (Nat.le_refl _) _).alloc (by simp) _)
  have HA : Hid (bat2 ((w.alloc (.cells #[.slice af nf cf, .slice ah nh ch, .slice aw n cw] 25)).alloc (.cells #[.slice bf mf df, .slice bh mh dh, .slice bw m dw] 25)) w.heap.size (.slice af nf cf) (.slice ah nh ch) (.slice aw n cw) (.slice bf mf df) (.slice bh mh dh) (.slice bw m dw)) := Lib.hid (bat2_new _ _ _ _ _ _ _ _ _)
  clear hn1 hn2 hn3 hn4 hn5 hn6 e1 e2 e3
  rw [HR.out]
  go_enter Tryd.func23, Tryd.ntmps23
  go_wp2_with fail
  generalize (w.alloc (.cells #[.slice af nf cf, .slice ah nh ch, .slice aw n cw] 25)).alloc (.cells #[.slice bf mf df, .slice bh mh dh, .slice bw m dw] 25) = W at HA HW0 ⊢
  have HX0 := Lib.hid (HX.out.below HW0.out)
  have HY0 := Lib.hid (HY.out.below HW0.out)
  refine (equal_asL _ _ f f2 c1 _ HX0.out.1 HY0.out.1 HX0.out.2.2.2.1 HY0.out.2.2.2.1 H1.out).mono ?_
  rintro r w1 ⟨rfl, q1, rfl⟩
  cases c1 with
  | false =>
    go_wp2
    go_ret
    exact ⟨rfl, below_drewN HW0.out _⟩
  | true =>
    obtain ⟨d0, d1, d2, d3, d4, d5⟩ := HA.out.drewN q1
    go_wp2_with fail
    refine (equal_asL _ _ h h2 c2 _ (HX0.out.2.1.drewN q1) (HY0.out.2.1.drewN q1) HX0.out.2.2.2.2.1 HY0.out.2.2.2.2.1 H2.out).mono ?_
    rintro r w2 ⟨rfl, q2, rfl⟩
    rw [World.drewN_drewN]
    clear d0 d1 d2 d3 d4 d5
    cases c2 with
    | false =>
      go_wp2
      go_ret
      exact ⟨rfl, below_drewN HW0.out _⟩
    | true =>
      obtain ⟨d0, d1, d2, d3, d4, d5⟩ := HA.out.drewN (q1 + q2)
      go_wp2_with fail
      refine (equalw_as _ _ l l2 c3 _ (HX0.out.2.2.1.drewN (q1 + q2)) (HY0.out.2.2.1.drewN (q1 + q2)) HX0.out.2.2.2.2.2.1 HY0.out.2.2.2.2.2.1 H3.out).mono ?_
      rintro r w3 ⟨rfl, q3, rfl⟩
      rw [World.drewN_drewN]
      clear d0 d1 d2 d3 d4 d5
      go_wp2
      go_ret
      exact ⟨by first | rfl | simp, below_drewN HW0.out _⟩
end Go.Proofs.YtiipnifnejnhlaaDoor
