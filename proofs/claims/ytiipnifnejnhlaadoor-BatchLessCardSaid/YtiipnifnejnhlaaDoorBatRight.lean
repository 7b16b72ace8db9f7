/-
  The contracts of batch.bounds and batch.Right.
-/
import Derived.Test.YtiipnifnejnhlaaDoorBatWrong
namespace Go.Proofs.YtiipnifnejnhlaaDoor
open Go.RowKit

theorem idxB_0 (x y : Value) (w : World) : (Instr.index 82 (.agg #[x, y]) (.int .i64 0)).run Tryd.prog w = .ok x w := by kernel_rfl
theorem idxB_1 (x y : Value) (w : World) : (Instr.index 82 (.agg #[x, y]) (.int .i64 1)).run Tryd.prog w = .ok y w := by kernel_rfl
theorem bcov_as (va vb : Value) (a b : List Ent) (x : Bool) (w : World) (ha : IsEnts w va a) (hb : IsEnts w vb b) (hla : a.length ≤ 9223372036854775807) (hlb : b.length ≤ 9223372036854775807) (hx : covB a b = x) :
    Calls Tryd.prog 21 #[va, vb] w fun r w' => r = .returned (.bool x) ∧ Below w.heap.size w w' := by
  subst hx; exact vcov_any va vb a b w ha hb hla hlb

set_option maxRecDepth 100000 in
set_option maxHeartbeats 4000000 in
theorem bbounds_any (vf vh vw : Value) (f h : List Ent) (l : List Wr) (w : World) (hf : IsEnts w vf f) (hh : IsEnts w vh h) (hv : IsWrs w vw l) (hlf : f.length ≤ 9223372036854775807) (hlh : h.length ≤ 9223372036854775807) (hg : errT w) :
    Calls Tryd.prog 27 #[.agg #[vf, vh, vw]] w fun r w' => r = .returned (errV (bbE f h)) ∧ Below w.heap.size w w' := by
  have HF := Lib.hid hf
  have HH := Lib.hid hh
  have HG := Lib.hid hg
  have HLF := Lib.hid hlf
  have HLH := Lib.hid hlh
  obtain ⟨af, cf, rfl, _⟩ := hf.form
  obtain ⟨ah, ch, rfl, _⟩ := hh.form
  obtain ⟨aw, cw, rfl, _⟩ := hv.form
  obtain ⟨nf, hnf⟩ : ∃ n, n = f.length := ⟨_, rfl⟩
  obtain ⟨nh, hnh⟩ : ∃ n, n = h.length := ⟨_, rfl⟩
  obtain ⟨n, hn⟩ : ∃ n, n = l.length := ⟨_, rfl⟩
  rw [← hnf] at HF ⊢
  rw [← hnh] at HH ⊢
  rw [← hn]
  have HA := Lib.hid (batAt_new w (.slice af nf cf) (.slice ah nh ch) (.slice aw n cw) 25)
  have HW0 : Hid (Below w.heap.size w (w.alloc (.cells #[.slice af nf cf, .slice ah nh ch, .slice aw n cw] 25))) := Lib.hid ((Below.refl _ _).alloc (Nat.le_refl _) _)
  have HZ : Hid (w.heap.size < (w.alloc (.cells #[.slice af nf cf, .slice ah nh ch, .slice aw n cw] 25)).heap.size) := Lib.hid (by simp)
  have i0 := idxB_0
  have i1 := idxB_1
  clear hf hh hv hg hlf hlh hnf hnh hn
  go_enter Tryd.func27, Tryd.ntmps27
  go_wp2
  generalize w.alloc (.cells #[.slice af nf cf, .slice ah nh ch, .slice aw n cw] 25) = W at HA HW0 HZ ⊢
  have HE : Hid (∀ w', Below W.heap.size W w' → Below w.heap.size w w') := Lib.hid (fun w' hx => HW0.out.trans (hx.mono HW0.out.size))
  go_loopw [11] (fun i wr => ∃ k : Nat, k ≤ 2 ∧ i = .int .i64 k ∧ (k = 0 ∨ (k = 1 ∧ (vrightF f).1 = 0) ∨ (k = 2 ∧ (vrightF f).1 = 0 ∧ (vrightF h).1 = 0)) ∧ Below W.heap.size W wr) (fun i _ => 2 - (intOf i).toNat)
  case atStart => exact ⟨0, by omega, rfl, .inl rfl, Below.refl _ _⟩
  case round =>
    obtain ⟨k, hk, rfl, hj, hbel⟩ := hrel
    have HB := Lib.hid hbel
    clear hbel
    rcases hj with rfl | ⟨rfl, h1⟩ | ⟨rfl, h1, h2⟩
    · by_cases h1 : (vrightF f).1 = 0
      · have H1 := Lib.hid h1
        clear h1
        go_wp2_with fail
        refine (vright_any _ f _ (HF.out.below (HE.out _ HB.out)) HLF.out).mono ?_
        rintro r w1 ⟨err, rfl, hat, hb1⟩
        obtain rfl := hat.nil H1.out
        have HB1 : Hid (Below W.heap.size W w1) := HB.out.trans (hb1.mono HB.out.size)
        clear hat hb1
        go_wp2
        go_roundw
        case rel => exact ⟨1, by omega, by go_num, .inr (.inl ⟨rfl, H1.out⟩), HB1.out⟩
        case measure => simp [intOf]
      · have H1 := Lib.hid h1
        have HR : Hid (bbE f h = (vrightF f).1) := Lib.hid (by unfold bbE; rw [if_pos h1])
        have HQ := Lib.hid (errV_no h1)
        clear h1
        go_wp2_with fail
        refine (vright_any _ f _ (HF.out.below (HE.out _ HB.out)) HLF.out).mono ?_
        rintro r w1 ⟨err, rfl, hat, hb1⟩
        have HER := Lib.hid (hat.isErr H1.out)
        obtain ⟨t, u, rfl⟩ := hat.iface H1.out
        have HB1 : Hid (Below W.heap.size W w1) := HB.out.trans (hb1.mono HB.out.size)
        clear hat hb1
        go_wp2_with fail
        refine (tell_err _ _ _ (HG.out.below (HE.out _ HB1.out)) HER.out).mono ?_
        rintro r w2 ⟨rfl, hb2⟩
        have HB2 : Hid (Below W.heap.size W w2) := HB1.out.trans (hb2.mono HB1.out.size)
        clear hb2
        go_wp2
        go_ret
        exact ⟨by rw [HR.out, HQ.out]; rfl, HE.out _ HB2.out⟩
    · by_cases h2 : (vrightF h).1 = 0
      · have H2 := Lib.hid h2
        have H1 := Lib.hid h1
        clear h2 h1
        go_wp2_with fail
        refine (vright_any _ h _ (HH.out.below (HE.out _ HB.out)) HLH.out).mono ?_
        rintro r w1 ⟨err, rfl, hat, hb1⟩
        obtain rfl := hat.nil H2.out
        have HB1 : Hid (Below W.heap.size W w1) := HB.out.trans (hb1.mono HB.out.size)
        clear hat hb1
        go_wp2
        go_roundw
        case rel => exact ⟨2, by omega, by go_num, .inr (.inr ⟨rfl, H1.out, H2.out⟩), HB1.out⟩
        case measure => simp [intOf]
      · have H2 := Lib.hid h2
        have HR : Hid (bbE f h = (vrightF h).1) := Lib.hid (by unfold bbE; rw [if_neg (by simpa using h1), if_pos h2])
        have HQ := Lib.hid (errV_no h2)
        clear h2 h1
        go_wp2_with fail
        refine (vright_any _ h _ (HH.out.below (HE.out _ HB.out)) HLH.out).mono ?_
        rintro r w1 ⟨err, rfl, hat, hb1⟩
        have HER := Lib.hid (hat.isErr H2.out)
        obtain ⟨t, u, rfl⟩ := hat.iface H2.out
        have HB1 : Hid (Below W.heap.size W w1) := HB.out.trans (hb1.mono HB.out.size)
        clear hat hb1
        go_wp2_with fail
        refine (tell_err _ _ _ (HG.out.below (HE.out _ HB1.out)) HER.out).mono ?_
        rintro r w2 ⟨rfl, hb2⟩
        have HB2 : Hid (Below W.heap.size W w2) := HB1.out.trans (hb2.mono HB1.out.size)
        clear hb2
        go_wp2
        go_ret
        exact ⟨by rw [HR.out, HQ.out]; rfl, HE.out _ HB2.out⟩
    · obtain ⟨c, hc⟩ : ∃ c, covB h f = c := ⟨_, rfl⟩
      have HC := Lib.hid hc
      have HR : Hid (bbE f h = if c = false then 13 else 0) := Lib.hid (by unfold bbE; rw [if_neg (by simpa using h1), if_neg (by simpa using h2), hc])
      obtain ⟨d0, d1, d2⟩ := HA.out.below HB.out HZ.out
      clear h1 h2 hc
      go_wp2_with fail
      refine (bcov_as _ _ h f c _ (HH.out.below (HE.out _ HB.out)) (HF.out.below (HE.out _ HB.out)) HLH.out HLF.out HC.out).mono ?_
      rintro r w1 ⟨rfl, hb1⟩
      have HB1 : Hid (Below W.heap.size W w1) := HB.out.trans (hb1.mono HB.out.size)
      clear hb1 d0 d1 d2
      cases c with
      | true =>
        go_wp2
        go_ret
        exact ⟨by rw [HR.out]; rfl, HE.out _ HB1.out⟩
      | false =>
        go_wp2
        go_ret
        exact ⟨by rw [HR.out]; rfl, HE.out _ HB1.out⟩

theorem bbounds_as (vf vh vw : Value) (f h : List Ent) (l : List Wr) (e : Nat) (w : World) (hf : IsEnts w vf f) (hh : IsEnts w vh h) (hv : IsWrs w vw l) (hlf : f.length ≤ 9223372036854775807) (hlh : h.length ≤ 9223372036854775807) (hg : errT w) (he : bbE f h = e) :
    Calls Tryd.prog 27 #[.agg #[vf, vh, vw]] w fun r w' => r = .returned (errV e) ∧ Below w.heap.size w w' := by
  subst he; exact bbounds_any vf vh vw f h l w hf hh hv hlf hlh hg

set_option maxRecDepth 100000 in
set_option maxHeartbeats 4000000 in
theorem bright_any (vf vh vw : Value) (f h : List Ent) (l : List Wr) (w : World) (hf : IsEnts w vf f) (hh : IsEnts w vh h) (hv : IsWrs w vw l) (hlf : f.length ≤ 9223372036854775807) (hlh : h.length ≤ 9223372036854775807) (hok : ∀ t ∈ l, WrOk t) (hg : errT w) :
    Calls Tryd.prog 10 #[.agg #[vf, vh, vw]] w (VRightIs w (batF f h l)) := by
  have HF := Lib.hid hf
  have HH := Lib.hid hh
  have HV := Lib.hid hv
  have HG := Lib.hid hg
  have HLF := Lib.hid hlf
  have HLH := Lib.hid hlh
  have HOK := Lib.hid hok
  obtain ⟨af, cf, rfl, _⟩ := hf.form
  obtain ⟨ah, ch, rfl, _⟩ := hh.form
  obtain ⟨aw, cw, rfl, _⟩ := hv.form
  obtain ⟨nf, hnf⟩ : ∃ n, n = f.length := ⟨_, rfl⟩
  obtain ⟨nh, hnh⟩ : ∃ n, n = h.length := ⟨_, rfl⟩
  obtain ⟨n, hn⟩ : ∃ n, n = l.length := ⟨_, rfl⟩
  rw [← hnf] at HF ⊢
  rw [← hnh] at HH ⊢
  rw [← hn] at HV ⊢
  have HN := Lib.hid hn
  have HA := Lib.hid (batAt_new w (.slice af nf cf) (.slice ah nh ch) (.slice aw n cw) 25)
  have HW0 : Hid (Below w.heap.size w (w.alloc (.cells #[.slice af nf cf, .slice ah nh ch, .slice aw n cw] 25))) := Lib.hid ((Below.refl _ _).alloc (Nat.le_refl _) _)
  have HZ : Hid (w.heap.size < (w.alloc (.cells #[.slice af nf cf, .slice ah nh ch, .slice aw n cw] 25)).heap.size) := Lib.hid (by simp)
  obtain ⟨eb, heb⟩ : ∃ e, bbE f h = e := ⟨_, rfl⟩
  have HEB := Lib.hid heb
  clear hf hh hv hg hlf hlh hnf hnh hn hok heb
  go_enter Tryd.func10, Tryd.ntmps10
  go_wp2_with fail
  generalize w.alloc (.cells #[.slice af nf cf, .slice ah nh ch, .slice aw n cw] 25) = W at HA HW0 HZ ⊢
  have HE : Hid (∀ w', Below W.heap.size W w' → Below w.heap.size w w') := Lib.hid (fun w' hx => HW0.out.trans (hx.mono HW0.out.size))
  refine (bbounds_as _ _ _ f h l eb _ (HF.out.below HW0.out) (HH.out.below HW0.out) (HV.out.below HW0.out) HLF.out HLH.out (HG.out.below HW0.out) HEB.out).mono ?_
  rintro r w1 ⟨rfl, hb1⟩
  have HB1 : Hid (Below W.heap.size W w1) := Lib.hid hb1
  clear hb1
  by_cases h0 : eb = 0
  · subst h0
    rw [errV_ok]
    obtain ⟨d0, d1, d2⟩ := HA.out.below HB1.out HZ.out
    by_cases h6 : 60 < n
    · have HR := Lib.hid (batF_many HEB.out (show 60 < l.length by rw [← HN.out]; exact h6))
      have h6' : (60 : Int) < (n : Int) := by omega
      go_wp2
      go_ret
      rw [HR.out]
      exact ⟨_, rfl, .inr ⟨by decide, rfl, rfl⟩, HE.out _ HB1.out⟩
    · have HR := Lib.hid (batF_rest (ws := l) HEB.out (show ¬ 60 < l.length by rw [← HN.out]; exact h6))
      have h6' : ¬ (60 : Int) < (n : Int) := by omega
      have hn6 : n ≤ 60 := by omega
      clear h6
      go_wp2
      clear d0 d1 d2
      go_loopw [19] (fun i wr => ∃ (k : Nat) (p : Option Wr), k ≤ n ∧ i = .int .i64 k ∧ ((k = 0 ∧ p = none) ∨ ∃ j q, k = j + 1 ∧ l[j]? = some q ∧ p = some q) ∧ bwr f h l 0 none = bwr f h (l.drop k) k p ∧ Below W.heap.size W wr) (fun i _ => n - (intOf i).toNat)
      case atStart => exact ⟨0, none, by omega, rfl, .inl ⟨rfl, rfl⟩, rfl, HB1.out⟩
      case round =>
        obtain ⟨k, p, hk, rfl, hla, heq, hbel⟩ := hrel
        have HEQ := Lib.hid heq
        have HLA := Lib.hid hla
        have HB := Lib.hid hbel
        clear heq hbel hla
        by_cases hlt : k < n
        · have hkl : k < l.length := by have := HN.out; omega
          obtain ⟨t, ht⟩ : ∃ t, l[k]? = some t := ⟨l[k], List.getElem?_eq_getElem hkl⟩
          have hd : l.drop k = t :: l.drop (k + 1) := by
            rw [List.drop_eq_getElem_cons hkl]; congr 1
            rw [List.getElem?_eq_getElem hkl] at ht; exact Option.some.inj ht
          have HD := Lib.hid hd
          have HT := Lib.hid ht
          obtain ⟨e, he⟩ : ∃ e, bwE f h p t = e := ⟨_, rfl⟩
          have HEE := Lib.hid he
          obtain ⟨d0, d1, d2⟩ := HA.out.below HB.out HZ.out
          clear ht hkl hd he
          go_wp2_with fail
          refine (bwrong_any _ _ _ f h l k t p e _ (HF.out.below (HE.out _ HB.out)) (HH.out.below (HE.out _ HB.out)) (HV.out.below (HE.out _ HB.out)) HLF.out HLH.out (by have := HN.out; omega) HT.out HLA.out HOK.out (HG.out.below (HE.out _ HB.out)) HEE.out).mono ?_
          rintro r w2 ⟨rfl, hb2⟩
          have HB2 : Hid (Below W.heap.size W w2) := HB.out.trans (hb2.mono HB.out.size)
          clear hb2 d0 d1 d2
          by_cases hz : e = 0
          · subst hz
            have HN2 : Hid (bwr f h l 0 none = bwr f h (l.drop (k + 1)) (k + 1) (some t)) := Lib.hid (show bwr f h l 0 none = bwr f h (l.drop (k + 1)) (k + 1) (some t) by rw [HEQ.out, HD.out, bwr_good HEE.out])
            go_wp2
            go_roundw
            case rel => exact ⟨k + 1, some t, by omega, by go_num, .inr ⟨k, t, rfl, HT.out, rfl⟩, HN2.out, HB2.out⟩
            case measure => simp [intOf]; omega
          · have HN2 : Hid (bwr f h l 0 none = (e, (k : Int))) := Lib.hid (show bwr f h l 0 none = (e, (k : Int)) by rw [HEQ.out, HD.out, bwr_bad HEE.out hz])
            have hne : ((e : Int) != 0) = true := by simp; omega
            have H0 := Lib.hid hz
            have hz2 := HB2.out.size
            clear hz
            go_wp2
            go_ret
            rw [HR.out, HN2.out]
            exact ⟨_, rfl, .inl (atIs.new w2 e k H0.out), HE.out _ (HB2.out.alloc hz2 _)⟩
        · have HN2 : Hid (bwr f h l 0 none = (0, -1)) := Lib.hid (show bwr f h l 0 none = (0, -1) by rw [HEQ.out, List.drop_eq_nil_of_le (by have := HN.out; omega)]; rfl)
          go_wp2
          go_ret
          exact ⟨_, rfl, .inl (.inl ⟨HR.out.trans HN2.out, rfl⟩), HE.out _ HB.out⟩
  · have HR := Lib.hid (batF_bb (ws := l) HEB.out h0)
    have H0 := Lib.hid h0
    rw [errV_no h0]
    clear h0
    go_wp2
    go_ret
    rw [HR.out]
    exact ⟨_, rfl, .inr ⟨H0.out, rfl, rfl⟩, HE.out _ HB1.out⟩
end Go.Proofs.YtiipnifnejnhlaaDoor
