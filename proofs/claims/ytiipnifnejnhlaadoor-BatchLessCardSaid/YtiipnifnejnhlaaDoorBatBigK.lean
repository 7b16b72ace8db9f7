/-
  The contract of the laws' 'big' (keep) and 'held': it ends, and writes nothing.
-/
import Derived.Test.YtiipnifnejnhlaaDoorBatBigM
import Derived.Lib.Hide
import Derived.Outline
import Derived.Test.YtiipnifnejnhlaaDoorBatRight
namespace Go.Proofs.YtiipnifnejnhlaaDoor
open Go.RowKit

set_option maxRecDepth 100000 in
set_option maxHeartbeats 4000000 in
theorem bigK_any (vf vh vw : Value) (f h : List Ent) (l : List Wr) (w : World) (hx : BatIs w vf vh vw f h l) :
    Calls Tryd.prog 22 #[.agg #[vf, vh, vw]] w fun e w' => e = .returned (.bool (bigV 200 f h l)) ∧ Below w.heap.size w w' := by
  obtain ⟨hf, hh, hv, hlf, hlh, hlw, hok⟩ := hx
  obtain ⟨af, cf, rfl, _⟩ := hf.form
  obtain ⟨ah, ch, rfl, _⟩ := hh.form
  obtain ⟨aw, cw, rfl, fw⟩ := hv.form
  have FW := Lib.hid fw
  obtain ⟨nf, hnf⟩ : ∃ n, n = f.length := ⟨_, rfl⟩
  obtain ⟨nh, hnh⟩ : ∃ n, n = h.length := ⟨_, rfl⟩
  obtain ⟨n, hn⟩ : ∃ n, n = l.length := ⟨_, rfl⟩
  rw [← hnf, ← hnh, ← hn]
  rw [← hn] at hlw
  have HN := Lib.hid hn
  have hbv : bigV 200 f h l = decide (200 < bigS (IntKind.i64.wrap (IntKind.i64.wrap ((nf : Int) + (nh : Int)) + (n : Int))) l) := by rw [hnf, hnh, hn]; rfl
  obtain ⟨s1, hs1⟩ : ∃ s, IntKind.i64.wrap ((nf : Int) + (nh : Int)) = s := ⟨_, rfl⟩
  obtain ⟨s2, hs2⟩ : ∃ s, IntKind.i64.wrap (s1 + (n : Int)) = s := ⟨_, rfl⟩
  rw [hs1, hs2] at hbv
  have HBV := Lib.hid hbv
  clear hf hh hv hlf hlh hnf hnh hn fw hok hbv
  go_enter Tryd.func22, Tryd.ntmps22
  go_wp2
  clear hs1 hs2
  go_loopw [3, 20] (fun s i wr => ∃ (x : Int) (k : Nat), s = .int .i64 x ∧ k ≤ n ∧ i = .int .i64 k ∧ bigS s2 l = bigS x (l.drop k) ∧ Below w.heap.size w wr) (fun _ i _ => n - (intOf i).toNat)
  case atStart => exact ⟨_, 0, rfl, by omega, rfl, rfl, (Below.refl _ _).alloc (Nat.le_refl _) _⟩
  case round =>
    obtain ⟨x, k, rfl, hk, rfl, heq, hbel⟩ := hrel
    have HEQ := Lib.hid heq
    clear heq
    have HB := Lib.hid hbel
    have hzr := hbel.size
    clear hbel
    by_cases hlt : k < n
    · obtain ⟨t, ht⟩ : ∃ t, l[k]? = some t := ⟨l[k]'(by have := HN.out; omega), List.getElem?_eq_getElem _⟩
      obtain ⟨b1, o1, rfl, hb1, p0, p1, p2, p3, p4, p5⟩ := FW.out k t ht
      have q0 := (HB.out.cell (p := ⟨b1, o1 + k * 6, none⟩) hb1).trans p0
      have q1 := (HB.out.cell (p := ⟨b1, o1 + k * 6 + 1, none⟩) hb1).trans p1
      have q2 := (HB.out.cell (p := ⟨b1, o1 + k * 6 + 2, none⟩) hb1).trans p2
      have q3 := (HB.out.cell (p := ⟨b1, o1 + k * 6 + 3, none⟩) hb1).trans p3
      have q4 := (HB.out.cell (p := ⟨b1, o1 + k * 6 + 4, none⟩) hb1).trans p4
      have q5 := (HB.out.cell (p := ⟨b1, o1 + k * 6 + 5, none⟩) hb1).trans p5
      have hd := bigS_drop x ht
      obtain ⟨T, R, K, key, val, N⟩ := t
      simp only at q0 q1 q2 q3 q4 q5 hd
      obtain ⟨u, hu⟩ : ∃ u, IntKind.i64.wrap ((key.size : Int) + (val.size : Int)) = u := ⟨_, rfl⟩
      obtain ⟨y, hy⟩ : ∃ y, IntKind.i64.wrap (u.tdiv 8) = y := ⟨_, rfl⟩
      obtain ⟨z, hz⟩ : ∃ z, IntKind.i64.wrap (x + y) = z := ⟨_, rfl⟩
      rw [hu, hy, hz] at hd
      have HD : Hid (bigS s2 l = bigS z (l.drop (k + 1))) := Lib.hid (HEQ.out.trans hd)
      clear hd
      clear p0 p1 p2 p3 p4 p5 ht
      go_wp2
      go_roundw
      case rel => exact ⟨_, k + 1, rfl, by omega, by go_num, HD.out, HB.out.alloc hzr _⟩
      case measure => simp [intOf]; omega
    · have HD : Hid (bigV 200 f h l = decide (200 < x)) := Lib.hid (by rw [HBV.out, HEQ.out, List.drop_eq_nil_of_le (by have := HN.out; omega)]; rfl)
      go_wp2
      go_ret
      exact ⟨by rw [HD.out]; rfl, HB.out⟩

theorem bigK_as (vf vh vw : Value) (f h : List Ent) (l : List Wr) (c : Bool) (w : World) (hx : BatIs w vf vh vw f h l) (hc : bigV 200 f h l = c) :
    Calls Tryd.prog 22 #[.agg #[vf, vh, vw]] w fun e w' => e = .returned (.bool c) ∧ Below w.heap.size w w' := by
  subst hc; exact bigK_any vf vh vw f h l w hx
theorem brightB (vf vh vw : Value) (f h : List Ent) (l : List Wr) (w : World) (hx : BatIs w vf vh vw f h l) (hg : errT w) :
    Calls Tryd.prog 10 #[.agg #[vf, vh, vw]] w (VRightIs w (batF f h l)) :=
  bright_any vf vh vw f h l w hx.1 hx.2.1 hx.2.2.1 hx.2.2.2.1 hx.2.2.2.2.1 hx.2.2.2.2.2.2 hg

set_option maxRecDepth 100000 in
set_option maxHeartbeats 4000000 in
theorem held_any (vf vh vw : Value) (f h : List Ent) (l : List Wr) (w : World) (hx : BatIs w vf vh vw f h l) (hg : errT w) :
    Calls Tryd.prog 13 #[.agg #[vf, vh, vw]] w fun e w' => ∃ c, e = .returned (.bool c) ∧ (c = true → rightB f h l) ∧ Below w.heap.size w w' := by
  have HX := Lib.hid hx
  have HG := Lib.hid hg
  obtain ⟨hf, hh, hv, _⟩ := hx
  obtain ⟨af, cf, rfl, _⟩ := hf.form
  obtain ⟨ah, ch, rfl, _⟩ := hh.form
  obtain ⟨aw, cw, rfl, _⟩ := hv.form
  have HA := Lib.hid (batAt_new w (.slice af f.length cf) (.slice ah h.length ch) (.slice aw l.length cw) 25)
  have HW0 : Hid (Below w.heap.size w (w.alloc (.cells #[.slice af f.length cf, .slice ah h.length ch, .slice aw l.length cw] 25))) := Lib.hid ((Below.refl _ _).alloc (Nat.le_refl _) _)
  have HZ : Hid (w.heap.size < (w.alloc (.cells #[.slice af f.length cf, .slice ah h.length ch, .slice aw l.length cw] 25)).heap.size) := Lib.hid (by simp)
  generalize f.length = nf at HX HA HW0 HZ ⊢
  generalize h.length = nh at HX HA HW0 HZ ⊢
  generalize l.length = n at HX HA HW0 HZ ⊢
  clear hf hh hv hg
  go_enter Tryd.func13, Tryd.ntmps13
  go_wp2_with fail
  generalize w.alloc (.cells #[.slice af nf cf, .slice ah nh ch, .slice aw n cw] 25) = W at HA HW0 HZ ⊢
  obtain ⟨c, hc⟩ : ∃ c, bigV 200 f h l = c := ⟨_, rfl⟩
  refine (bigK_as _ _ _ f h l c _ (HX.out.below HW0.out) hc).mono ?_
  clear hc
  rintro r w1 ⟨rfl, hb1⟩
  have HB1 : Hid (Below w.heap.size w w1) := Lib.hid (HW0.out.trans (hb1.mono HW0.out.size))
  obtain ⟨d0, d1, d2⟩ := HA.out.below hb1 HZ.out
  clear hb1
  cases c with
  | true =>
    go_wp2
    go_ret
    exact ⟨_, rfl, (fun hq => by cases hq), HB1.out⟩
  | false =>
    go_wp2_with fail
    refine (brightB _ _ _ f h l _ (HX.out.below HB1.out) (HG.out.below HB1.out)).mono ?_
    rintro r w2 ⟨err, rfl, hat, hb2⟩
    have HB2 : Hid (Below w.heap.size w w2) := HB1.out.trans (hb2.mono HB1.out.size)
    clear hb2 d0 d1 d2
    by_cases h0 : (batF f h l).1 = 0
    · have H0 := Lib.hid h0
      obtain rfl := hat.nil h0
      clear hat h0
      go_wp2
      go_ret
      exact ⟨_, rfl, fun _ => H0.out, HB2.out⟩
    · obtain ⟨t, u, rfl⟩ := hat.iface h0
      clear hat h0
      go_wp2
      go_ret
      exact ⟨_, rfl, (fun hq => by simp at hq), HB2.out⟩
end Go.Proofs.YtiipnifnejnhlaaDoor
