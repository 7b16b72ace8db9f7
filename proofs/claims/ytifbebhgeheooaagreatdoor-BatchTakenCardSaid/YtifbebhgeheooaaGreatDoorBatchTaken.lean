/-
  The walk of 'packtrainkeep.BatchTaken'.
-/
import Derived.Test.YtifbebhgeheooaaGreatDoorKl18
import Derived.Test.YtifbebhgeheooaaGreatDoorKl21
import Derived.Test.YtifbebhgeheooaaGreatDoorLogLong
import Derived.Test.YtifbebhgeheooaaGreatDoorKl04
import Derived.Test.YtifbebhgeheooaaGreatDoorKl03
namespace Go.Proofs.YtifbebhgeheooaaGreatDoor
open Go.RowKit

/-- A right batch that brings new writes alone. -/
theorem take_right {s : LogS} {f h hh : List Ent} {b : List Wr} (hb : rightB f h b) (hc : covB s.hv f = true) (hj : joinR s.hv h = (0, hh)) (hn : ∀ x ∈ b, ∀ y ∈ s.ws, wid y ≠ wid x) (hl : s.ws.length + b.length ≤ 300) :
    accE s f h b = (0, -1) ∧ freshW s.ws b = b ∧ accS s h b = ⟨s.rep, hh, sortW (s.ws ++ b)⟩ := by
  have h2 : freshW s.ws b = b := by
    unfold freshW
    rw [List.filter_eq_self]
    intro x hx
    simpa using fun y hy => hn x hx y hy
  refine ⟨?_, h2, by unfold accS; rw [hj, h2]⟩
  rw [accE_t hb hc (by rw [hj])]
  unfold togE
  rw [(twA_none b 0).2 (fun x hx ⟨y, hy, e, _⟩ => hn x hx y hy e), h2]
  show (if 300 < s.ws.length + b.length then _ else _) = _
  rw [if_neg (by omega)]
theorem sortW_self {l : List Wr} (h : l.Pairwise late) : sortW l = l := late_ext (sortW_late (late_idsOk h)) h (fun _ => sortW_mem)
theorem joinR_up {a b : List Ent} (ha : rightV a) (hb : rightV b) (hc : covB b a = true) : joinR a b = (0, b) := by
  have h1 := (covB_iff hb ha).1 hc
  have h3 : joinL a b = b := ok_ext (join_okV ha.2 hb.2) hb.2 (fun r => by rw [join_of ha.2 hb.2]; have := h1 r; omega)
  rw [joinR_ok ((vright_ok _).2 ha) ((vright_ok _).2 hb) (by rw [h3]; have := hb.1; omega), h3]
theorem nilV : rightV ([] : List Ent) := ⟨by simp, trivial⟩
theorem equal_entsT (v1 v2 : Value) (l : List Ent) (w : World) (h1 : IsEnts w v1 l) (h2 : IsEnts w v2 l) (hl : l.length ≤ 9223372036854775807) :
    Calls Tryz.prog 28 #[v1, v2] w fun e w' => e = .returned (.bool true) ∧ ∃ q, w' = w.drewN q :=
  (equal_entsL v1 v2 l l w h1 h2 hl hl).mono fun e w' ⟨g1, g2⟩ => ⟨by rw [g1]; simp, g2⟩
/-- In parts, or at once. -/
theorem taken_parts {h l1 : List Ent} {l : List Wr} (hr : rightB [] h l) (h1 : rightV l1) (hz : covB h l1 = true) :
    (accE ⟨0, [], []⟩ [] h l = (0, -1) ∧ (freshW ([] : List Wr) l).length = l.length ∧ accS ⟨0, [], []⟩ h l = ⟨0, h, l⟩) ∧
    (accE ⟨0, [], []⟩ [] l1 (l.filter fun x => wiF (wid x) [] l1) = (0, -1) ∧ (freshW ([] : List Wr) (l.filter fun x => wiF (wid x) [] l1)).length = (l.filter fun x => wiF (wid x) [] l1).length ∧ accS ⟨0, [], []⟩ l1 (l.filter fun x => wiF (wid x) [] l1) = ⟨0, l1, l.filter fun x => wiF (wid x) [] l1⟩) ∧
    (accE ⟨0, l1, l.filter fun x => wiF (wid x) [] l1⟩ l1 h (l.filter fun x => !wiF (wid x) [] l1) = (0, -1) ∧ (freshW (l.filter fun x => wiF (wid x) [] l1) (l.filter fun x => !wiF (wid x) [] l1)).length = (l.filter fun x => !wiF (wid x) [] l1).length ∧ accS ⟨0, l1, l.filter fun x => wiF (wid x) [] l1⟩ h (l.filter fun x => !wiF (wid x) [] l1) = ⟨0, h, l⟩) := by
  obtain ⟨⟨_, hh, hcv⟩, hlen, hmem, hsrt⟩ := rightB_iff.1 hr
  have c1 : covB l1 [] = true := (covB_iff h1 nilV).2 (fun r => by have := ofF_bd h1.2 r; show (0 : Int) ≤ _; omega)
  have c0 : covB (⟨0, [], []⟩ : LogS).hv [] = true := (covB_iff nilV nilV).2 (fun _ => Int.le_refl _)
  have ch : covB h [] = true := hcv
  have r1 := right_part1 hr h1 c1
  have r2 : rightB l1 h (l.filter fun x => !wiF (wid x) [] l1) := by
    have e : (l.filter fun x => !wiF (wid x) [] l1) = l.filter fun x => wiF (wid x) l1 h := List.filter_congr (fun x hx => (wi_partsB (wid x) nilV h1 hh c1 hz (hmem x hx).2).symm)
    rw [e]; exact right_part2 hr h1 hz
  have n1 : (l.filter fun x => wiF (wid x) [] l1).length ≤ 60 := Nat.le_trans (List.length_filter_le _ _) hlen
  have hsum := filter_both (p := fun x => wiF (wid x) [] l1) (q := fun x => !wiF (wid x) [] l1) l (fun _ _ => rfl)
  obtain ⟨a1, a2, a3⟩ := take_right (s := ⟨0, [], []⟩) hr c0 (joinR_up nilV hh ch) (fun x _ y hy => by cases hy) (by show 0 + l.length ≤ 300; omega)
  obtain ⟨b1, b2, b3⟩ := take_right (s := ⟨0, [], []⟩) r1 c0 (joinR_up nilV h1 c1) (fun x _ y hy => by cases hy) (by show 0 + _ ≤ 300; omega)
  obtain ⟨d1, d2, d3⟩ := take_right (s := ⟨0, l1, l.filter fun x => wiF (wid x) [] l1⟩) r2 ((covB_iff h1 h1).2 (fun _ => Int.le_refl _)) (joinR_up h1 hh hz) (fun x hx y hy e => by
    have hx' := List.mem_filter.1 hx
    have hy' := List.mem_filter.1 hy
    have := late_ids hsrt hy'.1 hx'.1 e
    subst this
    simp only [hy'.2] at hx'
    exact absurd hx'.2 (by decide)) (by show (l.filter _).length + (l.filter _).length ≤ 300; omega)
  have s1 : sortW ([] ++ l) = l := by rw [List.nil_append]; exact sortW_self hsrt
  have s2 : sortW ([] ++ l.filter fun x => wiF (wid x) [] l1) = l.filter fun x => wiF (wid x) [] l1 := by rw [List.nil_append]; exact sortW_self (hsrt.filter _)
  have s3 : sortW ((l.filter fun x => wiF (wid x) [] l1) ++ l.filter fun x => !wiF (wid x) [] l1) = l := by
    refine late_ext (sortW_late ?_) hsrt (fun c => ?_)
    · show List.Pairwise _ _
      rw [List.pairwise_append]
      refine ⟨late_idsOk (hsrt.filter _), late_idsOk (hsrt.filter _), fun y hy x hx e => ?_⟩
      have hx' := List.mem_filter.1 hx
      have hy' := List.mem_filter.1 hy
      have := late_ids hsrt hy'.1 hx'.1 e
      subst this
      simp only [hy'.2] at hx'
      exact absurd hx'.2 (by decide)
    · rw [sortW_mem, List.mem_append, List.mem_filter, List.mem_filter]
      constructor
      · rintro (h | h)
        · exact h.1
        · exact h.1
      · intro h
        cases hc : wiF (wid c) [] l1 with
        | true => exact .inl ⟨h, rfl⟩
        | false => exact .inr ⟨h, rfl⟩
  exact ⟨⟨a1, by rw [show freshW ([] : List Wr) l = l from a2], by rw [a3]; show (⟨0, h, sortW ([] ++ l)⟩ : LogS) = _; rw [s1]⟩,
    ⟨b1, by rw [show freshW ([] : List Wr) _ = _ from b2], by rw [b3]; show (⟨0, l1, sortW ([] ++ _)⟩ : LogS) = _; rw [s2]⟩,
    ⟨d1, by rw [show freshW (l.filter fun x => wiF (wid x) [] l1) _ = _ from d2], by rw [d3, s3]⟩⟩

set_option maxRecDepth 100000 in
set_option maxHeartbeats 16000000 in
theorem batchTaken_walk (w : World) (vf vh vw : Value) (f h : List Ent) (l : List Wr) (hx : BatIs w vf vh vw f h l)
    (a1 : Option Addr) (len1 cap1 : Nat) (l1 : List Ent) (hv1 : IsEnts w (.slice a1 len1 cap1) l1) (hn1 : l1.length = len1) (hc1 : len1 ≤ cap1) (hm1 : cap1 ≤ maxLen) (hg : errT w) :
    Calls Tryz.prog 6 #[.agg #[vf, vh, vw], .slice a1 len1 cap1] w fun e w' => e = .returned (.bool true) ∧ Below w.heap.size w w' := by
  have HL1 : Hid (l1.length ≤ 9223372036854775807) := Lib.hid (show l1.length ≤ 9223372036854775807 by unfold maxLen at hm1; omega)
  have HX := Lib.hid hx
  have HG := Lib.hid hg
  have HV1 := Lib.hid hv1
  obtain ⟨hf, hh, hv, _⟩ := hx
  obtain ⟨af, cf, rfl, _⟩ := hf.form
  obtain ⟨ah, ch, rfl, _⟩ := hh.form
  obtain ⟨aw, cw, rfl, fw⟩ := hv.form
  have FW := Lib.hid fw
  obtain ⟨n, hn⟩ : ∃ n, n = l.length := ⟨_, rfl⟩
  have HN := Lib.hid hn
  rw [← hn] at HX ⊢
  obtain ⟨nf, hnf⟩ : ∃ n, n = f.length := ⟨_, rfl⟩
  obtain ⟨nh, hnh⟩ : ∃ n, n = h.length := ⟨_, rfl⟩
  rw [← hnf, ← hnh] at HX ⊢
  have HNF := Lib.hid hnf
  have hnf2 : nf ≤ 9223372036854775807 := by rw [hnf]; exact HX.out.2.2.2.1
  have HXF : Hid (f.length ≤ 9223372036854775807 ∧ h.length ≤ 9223372036854775807 ∧ l.length ≤ 9223372036854775807) := Lib.hid ⟨HX.out.2.2.2.1, HX.out.2.2.2.2.1, HX.out.2.2.2.2.2.1⟩
  have HA := Lib.hid (batAt_new w (.slice af nf cf) (.slice ah nh ch) (.slice aw n cw) 38)
  have HW0 : Hid (Below w.heap.size w (w.alloc (.cells #[.slice af nf cf, .slice ah nh ch, .slice aw n cw] 38))) := Lib.hid ((Below.refl _ _).alloc (Nat.le_refl _) _)
  have HZ : Hid (w.heap.size < (w.alloc (.cells #[.slice af nf cf, .slice ah nh ch, .slice aw n cw] 38)).heap.size) := Lib.hid (by simp)
  clear hf hh hv hg hv1 hm1 fw hn hnf hnh
  obtain ⟨x, hx⟩ : ∃ x, allR [l1] = x := ⟨_, rfl⟩
  obtain ⟨z, hzz⟩ : ∃ z, covB h l1 = z := ⟨_, rfl⟩
  have HXX := Lib.hid hx
  have HZZ := Lib.hid hzz
  clear hx hzz
  go_enter Tryz.func6, Tryz.ntmps6
  go_wp2_with fail
  generalize w.alloc (.cells #[.slice af nf cf, .slice ah nh ch, .slice aw n cw] 38) = W at HA HW0 HZ ⊢
  have HE : Hid (∀ w', Below W.heap.size W w' → Below w.heap.size w w') := Lib.hid (fun w' hx => HW0.out.trans (hx.mono HW0.out.size))
  refine (gathered_any _ (HG.out.below HW0.out)).mono ?_
  rintro r w1 ⟨rfl, hb1⟩
  have HB1 := Lib.hid hb1
  clear hb1
  go_wp2_with fail
  refine (logged_any _ (HG.out.below (HE.out _ HB1.out))).mono ?_
  rintro r w1b ⟨rfl, hb2⟩
  have HB1b : Hid (Below W.heap.size W w1b) := HB1.out.trans (hb2.mono HB1.out.size)
  clear hb2
  go_wp2_with fail
  refine (known_any _ (HG.out.below (HE.out _ HB1b.out))).mono ?_
  rintro r w2 ⟨rfl, hb2⟩
  have HB2 : Hid (Below W.heap.size W w2) := HB1b.out.trans (hb2.mono HB1b.out.size)
  clear hb2
  go_wp2_with fail
  refine (ordered_any _).mono ?_
  rintro r w2b ⟨rfl, hb2⟩
  have HB2b : Hid (Below W.heap.size W w2b) := HB2.out.trans (hb2.mono HB2.out.size)
  clear hb2
  obtain ⟨d0, d1, d2⟩ := HA.out.below HB2b.out HZ.out
  go_wp2_with fail
  refine (held_any _ _ _ f h l _ (HX.out.below (HE.out _ HB2b.out)) (HG.out.below (HE.out _ HB2b.out))).mono ?_
  rintro r w3 ⟨c, rfl, hc, hb3⟩
  have HB3 : Hid (Below W.heap.size W w3) := HB2b.out.trans (hb3.mono HB2b.out.size)
  have HC := Lib.hid hc
  clear hb3 hc d0 d1 d2
  cases c with
  | false =>
    go_wp2
    go_ret
    exact ⟨rfl, HE.out _ HB3.out⟩
  | true =>
    go_wp2_with fail
    refine (few_one _ l1 x _ (HV1.out.below (HE.out _ HB3.out)) HL1.out HXX.out).mono ?_
    rintro r w4 ⟨rfl, hb4⟩
    have HB4 : Hid (Below W.heap.size W w4) := HB3.out.trans (hb4.mono HB3.out.size)
    clear hb4
    cases x with
    | false =>
      go_wp2
      go_ret
      exact ⟨rfl, HE.out _ HB4.out⟩
    | true =>
      have hr := allR_iff.1 HXX.out
      have HR1 := Lib.hid (hr l1 (by simp))
      clear hr
      obtain ⟨d0, d1, d2⟩ := HA.out.below HB4.out HZ.out
      by_cases hf0 : nf = 0
      · subst hf0
        go_wp2_with fail
        refine (bcov_as _ _ h l1 z _ (HX.out.below (HE.out _ HB4.out)).2.1 (HV1.out.below (HE.out _ HB4.out)) HXF.out.2.1 HL1.out HZZ.out).mono ?_
        rintro r w6 ⟨rfl, hb6⟩
        have HB6 : Hid (Below W.heap.size W w6) := HB4.out.trans (hb6.mono HB4.out.size)
        clear hb6 d0 d1 d2
        cases z with
        | false =>
          go_wp2
          go_ret
          exact ⟨rfl, HE.out _ HB6.out⟩
        | true =>
          have hf1 : f = [] := List.length_eq_zero_iff.1 HNF.out.symm
          have HRB : Hid (rightB [] h l) := Lib.hid (by rw [← hf1]; exact HC.out (by trivial))
          have HXE : Hid (BatIs w (.slice af 0 cf) (.slice ah nh ch) (.slice aw n cw) [] h l) := Lib.hid (by rw [← hf1]; exact HX.out)
          obtain ⟨d0, d1, d2⟩ := HA.out.below HB6.out HZ.out
          have hlt6 : w.heap.size < w6.heap.size := Nat.lt_of_lt_of_le HZ.out HB6.out.size
          clear hf1
          go_wp2
          go_region
          · skip
            have hp := pt_newA w6 (.slice none 0 0) (.slice a1 len1 cap1) (.slice a1 len1 cap1) (.slice ah nh ch)
            obtain ⟨W7, hW7⟩ : ∃ W7, W7 = ((w6.alloc (.cells #[.slice none 0 0, .slice a1 len1 cap1, .slice none 0 0] 38)).alloc (.cells #[.slice a1 len1 cap1, .slice ah nh ch, .slice none 0 0] 38)).drew := ⟨_, rfl⟩
            obtain ⟨base, hbs⟩ : ∃ b, b = w6.heap.size + 1 + 1 := ⟨_, rfl⟩
            rw [← hW7, ← hbs] at hp
            rw [← hW7]
            obtain ⟨Q, hq1⟩ : ∃ q, q = w6.heap.size + 1 := ⟨_, rfl⟩
            rw [← hq1] at hp ⊢
            obtain ⟨P, hq2⟩ : ∃ q, q = w6.heap.size := ⟨_, rfl⟩
            rw [← hq2] at hp ⊢
            have HPB : Hid (P < base) := Lib.hid (by omega)
            have HQB : Hid (Q < base) := Lib.hid (by omega)
            have HPQ : Hid (P ≠ Q) := Lib.hid (by omega)
            have HP0 : Hid (w6.heap.size ≤ P) := Lib.hid (by omega)
            have HQ0 : Hid (w6.heap.size ≤ Q) := Lib.hid (by omega)
            clear hW7 hbs hq1 hq2
            have HP := Lib.hid hp
            have HBW7 : Hid (Below W.heap.size W W7) := HB6.out.trans (hp.2.2.2.2.2.2.2.2.mono HB6.out.size)
            clear hp d0 d1 d2
            obtain ⟨d0, d1, d2⟩ := HA.out.below HBW7.out HZ.out
            have hlt7 : w.heap.size < W7.heap.size := Nat.lt_of_lt_of_le HZ.out HBW7.out.size
            go_wp2
            clear d0 d1 d2 hlt7 hlt6
            go_loopw [64] (fun i wr => ∃ (k : Nat) (v1 v2 : Value), k ≤ n ∧ i = .int .i64 k ∧ PT w6 base P Q (.slice none 0 0) (.slice a1 len1 cap1) (.slice a1 len1 cap1) (.slice ah nh ch) ((l.take k).filter fun x => wiF (wid x) [] l1) ((l.take k).filter fun x => !wiF (wid x) [] l1) v1 v2 wr) (fun i _ => n - (intOf i).toNat)
            case atStart => exact ⟨0, _, _, by omega, rfl, by simpa using HP.out⟩
            case round =>
              obtain ⟨k, v1, v2, hk, rfl, hp⟩ := hrel
              obtain ⟨L1, hL1⟩ : ∃ L, L = (l.take k).filter fun x => wiF (wid x) [] l1 := ⟨_, rfl⟩
              obtain ⟨L2, hL2⟩ : ∃ L, L = (l.take k).filter fun x => !wiF (wid x) [] l1 := ⟨_, rfl⟩
              rw [← hL1, ← hL2] at hp
              have HL1F := Lib.hid hL1
              have HL2F := Lib.hid hL2
              have HPT := Lib.hid hp
              have HBR : Hid (Below W.heap.size W wr) := HB6.out.trans (hp.2.2.2.2.2.2.2.2.mono HB6.out.size)
              have HOWN1 := Lib.hid hp.2.2.2.2.1
              have HOWN2 := Lib.hid hp.2.2.2.2.2.1
              have h60 := (rightB_iff.1 HRB.out).2.1
              have HLN1 : Hid (L1.length ≤ 60) := Lib.hid (by rw [hL1]; exact Nat.le_trans (List.length_filter_le _ _) (Nat.le_trans (List.length_take_le _ _) (by have := HN.out; omega)))
              have HLN2 : Hid (L2.length ≤ 60) := Lib.hid (by rw [hL2]; exact Nat.le_trans (List.length_filter_le _ _) (Nat.le_trans (List.length_take_le _ _) (by have := HN.out; omega)))
              clear hL1 hL2 hp
              by_cases hlt : k < n
              · obtain ⟨t, ht⟩ : ∃ t, l[k]? = some t := ⟨l[k]'(by have := HN.out; omega), List.getElem?_eq_getElem _⟩
                obtain ⟨b1, o1, rfl, hb1, p0, p1, p2, p3, p4, p5⟩ := FW.out k t ht
                have hBw := HE.out _ HBR.out
                have q0 := (hBw.cell (p := ⟨b1, o1 + k * 6, none⟩) hb1).trans p0
                have q1 := (hBw.cell (p := ⟨b1, o1 + k * 6 + 1, none⟩) hb1).trans p1
                have q2 := (hBw.cell (p := ⟨b1, o1 + k * 6 + 2, none⟩) hb1).trans p2
                have q3 := (hBw.cell (p := ⟨b1, o1 + k * 6 + 3, none⟩) hb1).trans p3
                have q4 := (hBw.cell (p := ⟨b1, o1 + k * 6 + 4, none⟩) hb1).trans p4
                have q5 := (hBw.cell (p := ⟨b1, o1 + k * 6 + 5, none⟩) hb1).trans p5
                have hfa := filter_snoc (p := fun x => wiF (wid x) [] l1) ht
                have hfb := filter_snoc (p := fun x => !wiF (wid x) [] l1) ht
                obtain ⟨cc, hcc⟩ : ∃ c, wiF (wid t) [] l1 = c := ⟨_, rfl⟩
                try simp only at hfa hfb
                rw [hcc, ← HL1F.out] at hfa
                rw [hcc, ← HL2F.out] at hfb
                have HFA := Lib.hid hfa
                have HFB := Lib.hid hfb
                obtain ⟨T, R, K, key, val, N⟩ := t
                simp only at q0 q1 q2 q3 q4 q5
                have HW1 : Hid (wiF (T, R) [] l1 = cc) := Lib.hid hcc
                have hn60 : n ≤ 60 := by rw [HN.out]; exact h60
                clear p0 p1 p2 p3 p4 p5 hBw ht hfa hfb hcc h60
                go_wp2_with fail
                refine (within_as T R _ _ [] l1 cc _ (IsEnts.nil _) ((HV1.out.below (HE.out _ HBR.out)).alloc _) (by simp) HL1.out HW1.out).mono ?_
                rintro r w9 ⟨rfl, hb9⟩
                have HC9 : Hid (wrAt w9 wr.heap.size T R K key val N) := Lib.hid ((wrAt_new wr T R K key val N 25).below hb9 (by simp))
                have HPT9 := Lib.hid ((HPT.out.alloc (.cells #[.int .i64 T, .int .i64 R, .int .i64 K, .string key, .string val, .int .i64 N] 25) HPB.out HQB.out).below hb9 HPB.out HQB.out)
                clear hb9 q0 q1 q2 q3 q4 q5
                cases cc with
                | true =>
                  have hpp := HPT9.out
                  obtain ⟨c0, c1, c2, c3, c4, c5⟩ := HC9.out
                  have hb2 := hpp.1.2.2
                  go_wp2_with (at_builtin; refine wpList_append_wr2 rfl _ _ rfl base v1 L1 rfl (hpp.2.2.2.2.1.alloc _) w9.heap.size 1 rfl ⟨T, R, K, key, val, N⟩ ?ca18x ?cb18x ?cc18x ?_)
                  case ca18x => exact heap_alloc_new _ _
                  case cb18x => have := HLN1.out; omega
                  case cc18x => have := hpp.2.2.2.2.2.2.2.1; simp; omega
                  intro g cap w10 ho hg hw3
                  have hpa := (hpp.alloc (.cells #[.int .i64 T, .int .i64 R, .int .i64 K, .string key, .string val, .int .i64 N] 25) HPB.out HQB.out)
                  obtain ⟨g1, g2⟩ := hpa.grown HPB.out hg
                  have HPX := Lib.hid (hpa.push HPB.out HQB.out (by first | exact HPQ.out | exact HPQ.out.symm) HP0.out ho hg (hw3.imp_right fun e => e.trans (World.size_alloc _ _).symm))
                  clear ho hg hw3 hpa hpp c0 c1 c2 c3 c4 c5 hb2
                  obtain ⟨ln, hln⟩ : ∃ ln, ln = L1.length := ⟨_, rfl⟩
                  rw [← hln] at HPX ⊢
                  clear hln
                  go_wp2
                  go_roundw
                  case rel => exact ⟨k + 1, _, v2, by omega, by go_num, by rw [HFA.out, HFB.out]; exact HPX.out⟩
                  case measure => simp [intOf]; omega
                | false =>
                  have hpp := HPT9.out.swap
                  obtain ⟨c0, c1, c2, c3, c4, c5⟩ := HC9.out
                  have hb2 := hpp.1.2.2
                  go_wp2_with (at_builtin; refine wpList_append_wr2 rfl _ _ rfl base v2 L2 rfl (hpp.2.2.2.2.1.alloc _) w9.heap.size 1 rfl ⟨T, R, K, key, val, N⟩ ?dax ?dbx ?dcx ?_)
                  case dax => exact heap_alloc_new _ _
                  case dbx => have := HLN2.out; omega
                  case dcx => have := hpp.2.2.2.2.2.2.2.1; simp; omega
                  intro g cap w10 ho hg hw3
                  have hpa := (hpp.alloc (.cells #[.int .i64 T, .int .i64 R, .int .i64 K, .string key, .string val, .int .i64 N] 25) HQB.out HPB.out)
                  obtain ⟨g1, g2⟩ := hpa.grown HQB.out hg
                  have HPX := Lib.hid (hpa.push HQB.out HPB.out HPQ.out.symm HQ0.out ho hg (hw3.imp_right fun e => e.trans (World.size_alloc _ _).symm))
                  clear ho hg hw3 hpa hpp c0 c1 c2 c3 c4 c5 hb2
                  obtain ⟨ln, hln⟩ : ∃ ln, ln = L2.length := ⟨_, rfl⟩
                  rw [← hln] at HPX ⊢
                  clear hln
                  go_wp2
                  go_roundw
                  case rel => exact ⟨k + 1, v1, _, by omega, by go_num, by rw [HFA.out, HFB.out]; exact HPX.out.swap⟩
                  case measure => simp [intOf]; omega
              · have hkn : k = n := by omega
                have hL1 : L1 = l.filter fun x => wiF (wid x) [] l1 := by rw [HL1F.out, hkn, HN.out, List.take_length]
                have hL2 : L2 = l.filter fun x => !wiF (wid x) [] l1 := by rw [HL2F.out, hkn, HN.out, List.take_length]
                have htp := taken_parts HRB.out HR1.out HZZ.out
                have hsum := filter_both (p := fun x => wiF (wid x) [] l1) (q := fun x => !wiF (wid x) [] l1) l (fun _ _ => rfl)
                have HO1 : Hid (∀ t ∈ L1, WrOk t) := Lib.hid (fun t ht => HX.out.2.2.2.2.2.2 t (by rw [hL1, List.mem_filter] at ht; exact ht.1))
                have HO2 : Hid (∀ t ∈ L2, WrOk t) := Lib.hid (fun t ht => HX.out.2.2.2.2.2.2 t (by rw [hL2, List.mem_filter] at ht; exact ht.1))
                rw [← hL1, ← hL2] at htp
                have hsum' : L1.length + L2.length = n := by rw [hL1, hL2, HN.out]; exact hsum
                have HI1 := Lib.hid HOWN1.out.is
                have HI2 := Lib.hid HOWN2.out.is
                obtain ⟨av1, cv1, hv1, _⟩ := HI1.out.form
                obtain ⟨av2, cv2, hv2, _⟩ := HI2.out.form
                subst hv1 hv2
                obtain ⟨m1, hm1⟩ : ∃ m, m = L1.length := ⟨_, rfl⟩
                obtain ⟨m2, hm2⟩ : ∃ m, m = L2.length := ⟨_, rfl⟩
                rw [← hm1, ← hm2] at hsum'
                rw [← hm1] at HPT HI1
                rw [← hm2] at HPT HI2
                obtain ⟨⟨tA1, tA2, tA3⟩, ⟨tB1, tB2, tB3⟩, ⟨tC1, tC2, tC3⟩⟩ := htp
                rw [← HN.out] at tA2
                rw [← hm1] at tB2
                rw [← hm2] at tC2
                have HTA := Lib.hid tA1
                have HTA2 := Lib.hid tA2
                have HTA3 := Lib.hid tA3
                have HTB := Lib.hid tB1
                have HTB2 := Lib.hid tB2
                have HTB3 := Lib.hid tB3
                have HTC := Lib.hid tC1
                have HTC2 := Lib.hid tC2
                have HTC3 := Lib.hid tC3
                have hsi : (m1 : Int) + (m2 : Int) = (n : Int) := by omega
                have hn60 : n ≤ 60 := by rw [HN.out]; exact (rightB_iff.1 HRB.out).2.1
                have hws : IntKind.i64.wrap ((m1 : Int) + (m2 : Int)) = (n : Int) := by rw [hsi]; exact IntWalk.i64_in _ (by omega)
                have hwn : IntKind.i64.wrap (n : Int) = (n : Int) := IntWalk.i64_in _ (by omega)
                have HNL : Hid (l.length ≤ 60) := Lib.hid (by rw [← HN.out]; exact hn60)
                have HBA : Hid (∀ w', Below wr.heap.size wr w' → BatIs w' (.slice af 0 cf) (.slice ah nh ch) (.slice aw n cw) [] h l ∧ BatIs w' (.slice none 0 0) (.slice a1 len1 cap1) (.slice av1 m1 cv1) [] l1 L1 ∧ BatIs w' (.slice a1 len1 cap1) (.slice ah nh ch) (.slice av2 m2 cv2) l1 h L2 ∧ batAt w' w.heap.size (.slice af 0 cf) (.slice ah nh ch) (.slice aw n cw) ∧ batAt w' P (.slice none 0 0) (.slice a1 len1 cap1) (.slice av1 m1 cv1) ∧ batAt w' Q (.slice a1 len1 cap1) (.slice ah nh ch) (.slice av2 m2 cv2)) := Lib.hid (fun w' hb => by
                  have hbW := HBR.out.trans (hb.mono HBR.out.size)
                  have hbw := HE.out _ hbW
                  have hpt := HPT.out.below hb HPB.out HQB.out
                  exact ⟨HXE.out.below hbw, ⟨IsEnts.nil _, HV1.out.below hbw, HI1.out.below hb, by simp, HL1.out, by have := HLN1.out; omega, HO1.out⟩, ⟨HV1.out.below hbw, (HX.out.below hbw).2.1, HI2.out.below hb, HL1.out, HXF.out.2.1, by have := HLN2.out; omega, HO2.out⟩, HA.out.below hbW HZ.out, hpt.1, hpt.2.1⟩)
                have HGR : Hid (∀ w', Below wr.heap.size wr w' → errT w') := Lib.hid (fun w' hb => HG.out.below (HE.out _ (HBR.out.trans (hb.mono HBR.out.size))))
                obtain ⟨hw, hhw⟩ : ∃ q, q = h.length := ⟨_, rfl⟩
                clear hkn hL1 hL2 hsum hsum' hm1 hm2 tA1 tA2 tA3 tB1 tB2 tB3 tC1 tC2 tC3 hhw HOWN1 HOWN2 HL1F HL2F
                go_wp2_with (first
                  | (go_at_call 10; (with_reducible refine (Gnew (Logs.nil wr) 0 (by omega)).mono ?_); rintro r w11 ⟨rfl, h11, hb11⟩; have HL11 : Hid (Logs wr w11 (fun _ => False) [(wr.heap.size, ⟨0, [], []⟩)]) := Lib.hid h11; clear h11 hb11)
                  | (go_at_call 10; (with_reducible refine (Gnew HL11.out 0 (by omega)).mono ?_); rintro r w12 ⟨rfl, h12, hb12⟩; have HL12 : Hid (Logs wr w12 (fun _ => False) [(wr.heap.size, ⟨0, [], []⟩), (w11.heap.size, ⟨0, [], []⟩)]) := Lib.hid h12; obtain ⟨x0, x1, x2⟩ := (HBA.out w12 HL12.out.bel).2.2.2.1; clear h12 hb12)
                  | (go_at_call 12; (with_reducible refine (GacceptT (i := 0) HL12.out rfl _ _ _ [] h l (HBA.out w12 HL12.out.bel).1 (HGR.out _ HL12.out.bel) (by rw [HTA.out]) n _ HTA2.out HTA3.out).mono ?_); rintro r w13 ⟨rfl, h13, _, _⟩; have HL13 : Hid (Logs wr w13 (fun _ => False) [(wr.heap.size, ⟨0, h, l⟩), (w11.heap.size, ⟨0, [], []⟩)]) := Lib.hid h13; clear h13 x0 x1 x2; obtain ⟨x0, x1, x2⟩ := (HBA.out w13 HL13.out.bel).2.2.2.2.1)
                  | (go_at_call 12; (with_reducible refine (GacceptT (i := 1) HL13.out rfl _ _ _ [] l1 L1 (HBA.out w13 HL13.out.bel).2.1 (HGR.out _ HL13.out.bel) (by rw [HTB.out]) m1 _ HTB2.out HTB3.out).mono ?_); rintro r w14 ⟨rfl, h14, _, _⟩; have HL14 : Hid (Logs wr w14 (fun _ => False) [(wr.heap.size, ⟨0, h, l⟩), (w11.heap.size, ⟨0, l1, L1⟩)]) := Lib.hid h14; clear h14 x0 x1 x2; obtain ⟨x0, x1, x2⟩ := (HBA.out w14 HL14.out.bel).2.2.2.2.2)
                  | (go_at_call 12; (with_reducible refine (GacceptT (i := 1) HL14.out rfl _ _ _ l1 h L2 (HBA.out w14 HL14.out.bel).2.2.1 (HGR.out _ HL14.out.bel) (by rw [HTC.out]) m2 _ HTC2.out HTC3.out).mono ?_); rintro r w15 ⟨rfl, h15, _, _⟩; have HL15 : Hid (Logs wr w15 (fun _ => False) [(wr.heap.size, ⟨0, h, l⟩), (w11.heap.size, ⟨0, h, l⟩)]) := Lib.hid h15; clear h15 x0 x1 x2)
                  | fail)
                have HD15 : Hid (Logs wr w15.drew (fun _ => False) [(wr.heap.size, ⟨0, h, l⟩), (w11.heap.size, ⟨0, h, l⟩)]) := Lib.hid (HL15.out.keep (Below.refl _ _).drew)
                have HK : Hid (∀ w', Below wr.heap.size wr w' → w'.cell? ⟨w.heap.size, 2, none⟩ = some (.slice aw n cw)) := Lib.hid (fun w' hb => (HBA.out w' hb).2.2.2.1.2.2)
                have k0 := HK.out _ HD15.out.bel
                have HHL : Hid (h.length ≤ 1000000) := Lib.hid (by have := (rightB_iff.1 HRB.out).1.2.1.1; omega)
                clear HL11 HL12 HL13 HL14
                go_region_held3 (fun w' => w'.cell? ⟨w.heap.size, 2, none⟩ = some (.slice aw n cw)) (first | exact k0 | exact k1 | exact k2 | exact k3 | exact k4 | exact k5 | exact k6 | exact k7 | exact k8 | fail) (first
                  | (go_at_call 15; ((with_reducible refine (GwritesT (i := 0) HD15.out rfl l n rfl HN.out.symm).mono ?_); rintro r u1 ⟨c1a, c1c, rfl, o1, hq⟩; have HU1 := Lib.hid (HD15.out.keep hq); have HO1A := Lib.hid o1.is; have k1 := HK.out _ HU1.out.bel; clear o1 hq))
                  | (go_at_call 15; ((with_reducible refine (GwritesT (i := 1) HU1.out rfl l n rfl HN.out.symm).mono ?_); rintro r u2 ⟨c2a, c2c, rfl, o2, hq⟩; have HU2 := Lib.hid (HU1.out.keep hq); have HO2A := Lib.hid o2.is; have HO1B := Lib.hid (HO1A.out.below hq); have k2 := HK.out _ HU2.out.bel; clear o2 hq))
                  | (go_at_call 14; ((with_reducible refine (equalw_as _ _ l l true u2 HO1B.out HO2A.out (by have := HNL.out; omega) (by have := HNL.out; omega) (by simp)).mono ?_); rintro r u3 ⟨rfl, q3, hq3⟩; have HU3 := Lib.hid (HU2.out.keep (w' := u3) (by rw [hq3]; exact below_drewq (Below.refl _ _) q3)); have k3 := HK.out _ HU3.out.bel; clear hq3))
                  | (go_at_call 19; ((with_reducible refine (GhaveT (i := 0) HU3.out rfl h.length rfl).mono ?_); rintro r u4 ⟨c4a, c4c, rfl, o4, hq⟩; have HU4 := Lib.hid (HU3.out.keep hq); have HO4A : Hid (IsEnts u4 (.slice c4a h.length c4c) h) := Lib.hid o4.is; have k4 := HK.out _ HU4.out.bel; clear o4 hq))
                  | (go_at_call 19; ((with_reducible refine (GhaveT (i := 1) HU4.out rfl h.length rfl).mono ?_); rintro r u5 ⟨c5a, c5c, rfl, o5, hq⟩; have HU5 := Lib.hid (HU4.out.keep hq); have HO5A : Hid (IsEnts u5 (.slice c5a h.length c5c) h) := Lib.hid o5.is; have HO4B := Lib.hid (HO4A.out.below hq); have k5 := HK.out _ HU5.out.bel; clear o5 hq))
                  | (go_at_call 28; ((with_reducible refine (equal_entsT _ _ h u5 HO4B.out HO5A.out (by have := HHL.out; omega)).mono ?_); rintro r u6 ⟨rfl, q6, hq6⟩; have HU6 := Lib.hid (HU5.out.keep (w' := u6) (by rw [hq6]; exact below_drewq (Below.refl _ _) q6)); have k6 := HK.out _ HU6.out.bel; clear hq6))
                  | (go_at_call 15; ((with_reducible refine (GwritesT (i := 0) HU6.out rfl l n rfl HN.out.symm).mono ?_); rintro r u7 ⟨c7a, c7c, rfl, o7, hq⟩; have HU7 := Lib.hid (HU6.out.keep hq); have HO7A := Lib.hid o7.is; have k7 := HK.out _ HU7.out.bel; have HI7 := Lib.hid (HBA.out u7 HU7.out.bel).1.2.2.1; clear o7 hq))
                  | (go_at_call 14; ((with_reducible refine (equalw_as _ _ l l true u7 HO7A.out HI7.out (by have := HNL.out; omega) (by have := HNL.out; omega) (by simp)).mono ?_); rintro r u8 ⟨rfl, q8, hq8⟩; have HU8 := Lib.hid (HU7.out.keep (w' := u8) (by rw [hq8]; exact below_drewq (Below.refl _ _) q8)); have k8 := HK.out _ HU8.out.bel; clear hq8))
                  | fail)
                go_wp2
                go_ret
                exact ⟨rfl, HE.out _ (HBR.out.trans (HU8.out.bel.mono HBR.out.size))⟩
          · skip
            have hp := pt_newB w6 (.slice none 0 0) (.slice a1 len1 cap1) (.slice a1 len1 cap1) (.slice ah nh ch)
            obtain ⟨W7, hW7⟩ : ∃ W7, W7 = ((w6.alloc (.cells #[.slice a1 len1 cap1, .slice ah nh ch, .slice none 0 0] 38)).alloc (.cells #[.slice none 0 0, .slice a1 len1 cap1, .slice none 0 0] 38)).drew := ⟨_, rfl⟩
            obtain ⟨base, hbs⟩ : ∃ b, b = w6.heap.size + 1 + 1 := ⟨_, rfl⟩
            rw [← hW7, ← hbs] at hp
            rw [← hW7]
            obtain ⟨P, hq1⟩ : ∃ q, q = w6.heap.size + 1 := ⟨_, rfl⟩
            rw [← hq1] at hp ⊢
            obtain ⟨Q, hq2⟩ : ∃ q, q = w6.heap.size := ⟨_, rfl⟩
            rw [← hq2] at hp ⊢
            have HPB : Hid (P < base) := Lib.hid (by omega)
            have HQB : Hid (Q < base) := Lib.hid (by omega)
            have HPQ : Hid (P ≠ Q) := Lib.hid (by omega)
            have HP0 : Hid (w6.heap.size ≤ P) := Lib.hid (by omega)
            have HQ0 : Hid (w6.heap.size ≤ Q) := Lib.hid (by omega)
            clear hW7 hbs hq1 hq2
            have HP := Lib.hid hp
            have HBW7 : Hid (Below W.heap.size W W7) := HB6.out.trans (hp.2.2.2.2.2.2.2.2.mono HB6.out.size)
            clear hp d0 d1 d2
            obtain ⟨d0, d1, d2⟩ := HA.out.below HBW7.out HZ.out
            have hlt7 : w.heap.size < W7.heap.size := Nat.lt_of_lt_of_le HZ.out HBW7.out.size
            go_wp2
            clear d0 d1 d2 hlt7 hlt6
            go_loopw [64] (fun i wr => ∃ (k : Nat) (v1 v2 : Value), k ≤ n ∧ i = .int .i64 k ∧ PT w6 base P Q (.slice none 0 0) (.slice a1 len1 cap1) (.slice a1 len1 cap1) (.slice ah nh ch) ((l.take k).filter fun x => wiF (wid x) [] l1) ((l.take k).filter fun x => !wiF (wid x) [] l1) v1 v2 wr) (fun i _ => n - (intOf i).toNat)
            case atStart => exact ⟨0, _, _, by omega, rfl, by simpa using HP.out⟩
            case round =>
              obtain ⟨k, v1, v2, hk, rfl, hp⟩ := hrel
              obtain ⟨L1, hL1⟩ : ∃ L, L = (l.take k).filter fun x => wiF (wid x) [] l1 := ⟨_, rfl⟩
              obtain ⟨L2, hL2⟩ : ∃ L, L = (l.take k).filter fun x => !wiF (wid x) [] l1 := ⟨_, rfl⟩
              rw [← hL1, ← hL2] at hp
              have HL1F := Lib.hid hL1
              have HL2F := Lib.hid hL2
              have HPT := Lib.hid hp
              have HBR : Hid (Below W.heap.size W wr) := HB6.out.trans (hp.2.2.2.2.2.2.2.2.mono HB6.out.size)
              have HOWN1 := Lib.hid hp.2.2.2.2.1
              have HOWN2 := Lib.hid hp.2.2.2.2.2.1
              have h60 := (rightB_iff.1 HRB.out).2.1
              have HLN1 : Hid (L1.length ≤ 60) := Lib.hid (by rw [hL1]; exact Nat.le_trans (List.length_filter_le _ _) (Nat.le_trans (List.length_take_le _ _) (by have := HN.out; omega)))
              have HLN2 : Hid (L2.length ≤ 60) := Lib.hid (by rw [hL2]; exact Nat.le_trans (List.length_filter_le _ _) (Nat.le_trans (List.length_take_le _ _) (by have := HN.out; omega)))
              clear hL1 hL2 hp
              by_cases hlt : k < n
              · obtain ⟨t, ht⟩ : ∃ t, l[k]? = some t := ⟨l[k]'(by have := HN.out; omega), List.getElem?_eq_getElem _⟩
                obtain ⟨b1, o1, rfl, hb1, p0, p1, p2, p3, p4, p5⟩ := FW.out k t ht
                have hBw := HE.out _ HBR.out
                have q0 := (hBw.cell (p := ⟨b1, o1 + k * 6, none⟩) hb1).trans p0
                have q1 := (hBw.cell (p := ⟨b1, o1 + k * 6 + 1, none⟩) hb1).trans p1
                have q2 := (hBw.cell (p := ⟨b1, o1 + k * 6 + 2, none⟩) hb1).trans p2
                have q3 := (hBw.cell (p := ⟨b1, o1 + k * 6 + 3, none⟩) hb1).trans p3
                have q4 := (hBw.cell (p := ⟨b1, o1 + k * 6 + 4, none⟩) hb1).trans p4
                have q5 := (hBw.cell (p := ⟨b1, o1 + k * 6 + 5, none⟩) hb1).trans p5
                have hfa := filter_snoc (p := fun x => wiF (wid x) [] l1) ht
                have hfb := filter_snoc (p := fun x => !wiF (wid x) [] l1) ht
                obtain ⟨cc, hcc⟩ : ∃ c, wiF (wid t) [] l1 = c := ⟨_, rfl⟩
                try simp only at hfa hfb
                rw [hcc, ← HL1F.out] at hfa
                rw [hcc, ← HL2F.out] at hfb
                have HFA := Lib.hid hfa
                have HFB := Lib.hid hfb
                obtain ⟨T, R, K, key, val, N⟩ := t
                simp only at q0 q1 q2 q3 q4 q5
                have HW1 : Hid (wiF (T, R) [] l1 = cc) := Lib.hid hcc
                have hn60 : n ≤ 60 := by rw [HN.out]; exact h60
                clear p0 p1 p2 p3 p4 p5 hBw ht hfa hfb hcc h60
                go_wp2_with fail
                refine (within_as T R _ _ [] l1 cc _ (IsEnts.nil _) ((HV1.out.below (HE.out _ HBR.out)).alloc _) (by simp) HL1.out HW1.out).mono ?_
                rintro r w9 ⟨rfl, hb9⟩
                have HC9 : Hid (wrAt w9 wr.heap.size T R K key val N) := Lib.hid ((wrAt_new wr T R K key val N 25).below hb9 (by simp))
                have HPT9 := Lib.hid ((HPT.out.alloc (.cells #[.int .i64 T, .int .i64 R, .int .i64 K, .string key, .string val, .int .i64 N] 25) HPB.out HQB.out).below hb9 HPB.out HQB.out)
                clear hb9 q0 q1 q2 q3 q4 q5
                cases cc with
                | true =>
                  have hpp := HPT9.out
                  obtain ⟨c0, c1, c2, c3, c4, c5⟩ := HC9.out
                  have hb2 := hpp.1.2.2
                  go_wp2_with (at_builtin; refine wpList_append_wr2 rfl _ _ rfl base v1 L1 rfl (hpp.2.2.2.2.1.alloc _) w9.heap.size 1 rfl ⟨T, R, K, key, val, N⟩ ?ca18x ?cb18x ?cc18x ?_)
                  case ca18x => exact heap_alloc_new _ _
                  case cb18x => have := HLN1.out; omega
                  case cc18x => have := hpp.2.2.2.2.2.2.2.1; simp; omega
                  intro g cap w10 ho hg hw3
                  have hpa := (hpp.alloc (.cells #[.int .i64 T, .int .i64 R, .int .i64 K, .string key, .string val, .int .i64 N] 25) HPB.out HQB.out)
                  obtain ⟨g1, g2⟩ := hpa.grown HPB.out hg
                  have HPX := Lib.hid (hpa.push HPB.out HQB.out (by first | exact HPQ.out | exact HPQ.out.symm) HP0.out ho hg (hw3.imp_right fun e => e.trans (World.size_alloc _ _).symm))
                  clear ho hg hw3 hpa hpp c0 c1 c2 c3 c4 c5 hb2
                  obtain ⟨ln, hln⟩ : ∃ ln, ln = L1.length := ⟨_, rfl⟩
                  rw [← hln] at HPX ⊢
                  clear hln
                  go_wp2
                  go_roundw
                  case rel => exact ⟨k + 1, _, v2, by omega, by go_num, by rw [HFA.out, HFB.out]; exact HPX.out⟩
                  case measure => simp [intOf]; omega
                | false =>
                  have hpp := HPT9.out.swap
                  obtain ⟨c0, c1, c2, c3, c4, c5⟩ := HC9.out
                  have hb2 := hpp.1.2.2
                  go_wp2_with (at_builtin; refine wpList_append_wr2 rfl _ _ rfl base v2 L2 rfl (hpp.2.2.2.2.1.alloc _) w9.heap.size 1 rfl ⟨T, R, K, key, val, N⟩ ?dax ?dbx ?dcx ?_)
                  case dax => exact heap_alloc_new _ _
                  case dbx => have := HLN2.out; omega
                  case dcx => have := hpp.2.2.2.2.2.2.2.1; simp; omega
                  intro g cap w10 ho hg hw3
                  have hpa := (hpp.alloc (.cells #[.int .i64 T, .int .i64 R, .int .i64 K, .string key, .string val, .int .i64 N] 25) HQB.out HPB.out)
                  obtain ⟨g1, g2⟩ := hpa.grown HQB.out hg
                  have HPX := Lib.hid (hpa.push HQB.out HPB.out HPQ.out.symm HQ0.out ho hg (hw3.imp_right fun e => e.trans (World.size_alloc _ _).symm))
                  clear ho hg hw3 hpa hpp c0 c1 c2 c3 c4 c5 hb2
                  obtain ⟨ln, hln⟩ : ∃ ln, ln = L2.length := ⟨_, rfl⟩
                  rw [← hln] at HPX ⊢
                  clear hln
                  go_wp2
                  go_roundw
                  case rel => exact ⟨k + 1, v1, _, by omega, by go_num, by rw [HFA.out, HFB.out]; exact HPX.out.swap⟩
                  case measure => simp [intOf]; omega
              · have hkn : k = n := by omega
                have hL1 : L1 = l.filter fun x => wiF (wid x) [] l1 := by rw [HL1F.out, hkn, HN.out, List.take_length]
                have hL2 : L2 = l.filter fun x => !wiF (wid x) [] l1 := by rw [HL2F.out, hkn, HN.out, List.take_length]
                have htp := taken_parts HRB.out HR1.out HZZ.out
                have hsum := filter_both (p := fun x => wiF (wid x) [] l1) (q := fun x => !wiF (wid x) [] l1) l (fun _ _ => rfl)
                have HO1 : Hid (∀ t ∈ L1, WrOk t) := Lib.hid (fun t ht => HX.out.2.2.2.2.2.2 t (by rw [hL1, List.mem_filter] at ht; exact ht.1))
                have HO2 : Hid (∀ t ∈ L2, WrOk t) := Lib.hid (fun t ht => HX.out.2.2.2.2.2.2 t (by rw [hL2, List.mem_filter] at ht; exact ht.1))
                rw [← hL1, ← hL2] at htp
                have hsum' : L1.length + L2.length = n := by rw [hL1, hL2, HN.out]; exact hsum
                have HI1 := Lib.hid HOWN1.out.is
                have HI2 := Lib.hid HOWN2.out.is
                obtain ⟨av1, cv1, hv1, _⟩ := HI1.out.form
                obtain ⟨av2, cv2, hv2, _⟩ := HI2.out.form
                subst hv1 hv2
                obtain ⟨m1, hm1⟩ : ∃ m, m = L1.length := ⟨_, rfl⟩
                obtain ⟨m2, hm2⟩ : ∃ m, m = L2.length := ⟨_, rfl⟩
                rw [← hm1, ← hm2] at hsum'
                rw [← hm1] at HPT HI1
                rw [← hm2] at HPT HI2
                obtain ⟨⟨tA1, tA2, tA3⟩, ⟨tB1, tB2, tB3⟩, ⟨tC1, tC2, tC3⟩⟩ := htp
                rw [← HN.out] at tA2
                rw [← hm1] at tB2
                rw [← hm2] at tC2
                have HTA := Lib.hid tA1
                have HTA2 := Lib.hid tA2
                have HTA3 := Lib.hid tA3
                have HTB := Lib.hid tB1
                have HTB2 := Lib.hid tB2
                have HTB3 := Lib.hid tB3
                have HTC := Lib.hid tC1
                have HTC2 := Lib.hid tC2
                have HTC3 := Lib.hid tC3
                have hsi : (m1 : Int) + (m2 : Int) = (n : Int) := by omega
                have hn60 : n ≤ 60 := by rw [HN.out]; exact (rightB_iff.1 HRB.out).2.1
                have hws : IntKind.i64.wrap ((m1 : Int) + (m2 : Int)) = (n : Int) := by rw [hsi]; exact IntWalk.i64_in _ (by omega)
                have hwn : IntKind.i64.wrap (n : Int) = (n : Int) := IntWalk.i64_in _ (by omega)
                have HNL : Hid (l.length ≤ 60) := Lib.hid (by rw [← HN.out]; exact hn60)
                have HBA : Hid (∀ w', Below wr.heap.size wr w' → BatIs w' (.slice af 0 cf) (.slice ah nh ch) (.slice aw n cw) [] h l ∧ BatIs w' (.slice none 0 0) (.slice a1 len1 cap1) (.slice av1 m1 cv1) [] l1 L1 ∧ BatIs w' (.slice a1 len1 cap1) (.slice ah nh ch) (.slice av2 m2 cv2) l1 h L2 ∧ batAt w' w.heap.size (.slice af 0 cf) (.slice ah nh ch) (.slice aw n cw) ∧ batAt w' P (.slice none 0 0) (.slice a1 len1 cap1) (.slice av1 m1 cv1) ∧ batAt w' Q (.slice a1 len1 cap1) (.slice ah nh ch) (.slice av2 m2 cv2)) := Lib.hid (fun w' hb => by
                  have hbW := HBR.out.trans (hb.mono HBR.out.size)
                  have hbw := HE.out _ hbW
                  have hpt := HPT.out.below hb HPB.out HQB.out
                  exact ⟨HXE.out.below hbw, ⟨IsEnts.nil _, HV1.out.below hbw, HI1.out.below hb, by simp, HL1.out, by have := HLN1.out; omega, HO1.out⟩, ⟨HV1.out.below hbw, (HX.out.below hbw).2.1, HI2.out.below hb, HL1.out, HXF.out.2.1, by have := HLN2.out; omega, HO2.out⟩, HA.out.below hbW HZ.out, hpt.1, hpt.2.1⟩)
                have HGR : Hid (∀ w', Below wr.heap.size wr w' → errT w') := Lib.hid (fun w' hb => HG.out.below (HE.out _ (HBR.out.trans (hb.mono HBR.out.size))))
                obtain ⟨hw, hhw⟩ : ∃ q, q = h.length := ⟨_, rfl⟩
                clear hkn hL1 hL2 hsum hsum' hm1 hm2 tA1 tA2 tA3 tB1 tB2 tB3 tC1 tC2 tC3 hhw HOWN1 HOWN2 HL1F HL2F
                go_wp2_with (first
                  | (go_at_call 10; (with_reducible refine (Gnew (Logs.nil wr) 0 (by omega)).mono ?_); rintro r w11 ⟨rfl, h11, hb11⟩; have HL11 : Hid (Logs wr w11 (fun _ => False) [(wr.heap.size, ⟨0, [], []⟩)]) := Lib.hid h11; clear h11 hb11)
                  | (go_at_call 10; (with_reducible refine (Gnew HL11.out 0 (by omega)).mono ?_); rintro r w12 ⟨rfl, h12, hb12⟩; have HL12 : Hid (Logs wr w12 (fun _ => False) [(wr.heap.size, ⟨0, [], []⟩), (w11.heap.size, ⟨0, [], []⟩)]) := Lib.hid h12; obtain ⟨x0, x1, x2⟩ := (HBA.out w12 HL12.out.bel).2.2.2.1; clear h12 hb12)
                  | (go_at_call 12; (with_reducible refine (GacceptT (i := 0) HL12.out rfl _ _ _ [] h l (HBA.out w12 HL12.out.bel).1 (HGR.out _ HL12.out.bel) (by rw [HTA.out]) n _ HTA2.out HTA3.out).mono ?_); rintro r w13 ⟨rfl, h13, _, _⟩; have HL13 : Hid (Logs wr w13 (fun _ => False) [(wr.heap.size, ⟨0, h, l⟩), (w11.heap.size, ⟨0, [], []⟩)]) := Lib.hid h13; clear h13 x0 x1 x2; obtain ⟨x0, x1, x2⟩ := (HBA.out w13 HL13.out.bel).2.2.2.2.1)
                  | (go_at_call 12; (with_reducible refine (GacceptT (i := 1) HL13.out rfl _ _ _ [] l1 L1 (HBA.out w13 HL13.out.bel).2.1 (HGR.out _ HL13.out.bel) (by rw [HTB.out]) m1 _ HTB2.out HTB3.out).mono ?_); rintro r w14 ⟨rfl, h14, _, _⟩; have HL14 : Hid (Logs wr w14 (fun _ => False) [(wr.heap.size, ⟨0, h, l⟩), (w11.heap.size, ⟨0, l1, L1⟩)]) := Lib.hid h14; clear h14 x0 x1 x2; obtain ⟨x0, x1, x2⟩ := (HBA.out w14 HL14.out.bel).2.2.2.2.2)
                  | (go_at_call 12; (with_reducible refine (GacceptT (i := 1) HL14.out rfl _ _ _ l1 h L2 (HBA.out w14 HL14.out.bel).2.2.1 (HGR.out _ HL14.out.bel) (by rw [HTC.out]) m2 _ HTC2.out HTC3.out).mono ?_); rintro r w15 ⟨rfl, h15, _, _⟩; have HL15 : Hid (Logs wr w15 (fun _ => False) [(wr.heap.size, ⟨0, h, l⟩), (w11.heap.size, ⟨0, h, l⟩)]) := Lib.hid h15; clear h15 x0 x1 x2)
                  | fail)
                have HD15 : Hid (Logs wr w15.drew (fun _ => False) [(wr.heap.size, ⟨0, h, l⟩), (w11.heap.size, ⟨0, h, l⟩)]) := Lib.hid (HL15.out.keep (Below.refl _ _).drew)
                have HK : Hid (∀ w', Below wr.heap.size wr w' → w'.cell? ⟨w.heap.size, 2, none⟩ = some (.slice aw n cw)) := Lib.hid (fun w' hb => (HBA.out w' hb).2.2.2.1.2.2)
                have k0 := HK.out _ HD15.out.bel
                have HHL : Hid (h.length ≤ 1000000) := Lib.hid (by have := (rightB_iff.1 HRB.out).1.2.1.1; omega)
                clear HL11 HL12 HL13 HL14
                go_region_held3 (fun w' => w'.cell? ⟨w.heap.size, 2, none⟩ = some (.slice aw n cw)) (first | exact k0 | exact k1 | exact k2 | exact k3 | exact k4 | exact k5 | exact k6 | exact k7 | exact k8 | fail) (first
                  | (go_at_call 15; ((with_reducible refine (GwritesT (i := 0) HD15.out rfl l n rfl HN.out.symm).mono ?_); rintro r u1 ⟨c1a, c1c, rfl, o1, hq⟩; have HU1 := Lib.hid (HD15.out.keep hq); have HO1A := Lib.hid o1.is; have k1 := HK.out _ HU1.out.bel; clear o1 hq))
                  | (go_at_call 15; ((with_reducible refine (GwritesT (i := 1) HU1.out rfl l n rfl HN.out.symm).mono ?_); rintro r u2 ⟨c2a, c2c, rfl, o2, hq⟩; have HU2 := Lib.hid (HU1.out.keep hq); have HO2A := Lib.hid o2.is; have HO1B := Lib.hid (HO1A.out.below hq); have k2 := HK.out _ HU2.out.bel; clear o2 hq))
                  | (go_at_call 14; ((with_reducible refine (equalw_as _ _ l l true u2 HO1B.out HO2A.out (by have := HNL.out; omega) (by have := HNL.out; omega) (by simp)).mono ?_); rintro r u3 ⟨rfl, q3, hq3⟩; have HU3 := Lib.hid (HU2.out.keep (w' := u3) (by rw [hq3]; exact below_drewq (Below.refl _ _) q3)); have k3 := HK.out _ HU3.out.bel; clear hq3))
                  | (go_at_call 19; ((with_reducible refine (GhaveT (i := 0) HU3.out rfl h.length rfl).mono ?_); rintro r u4 ⟨c4a, c4c, rfl, o4, hq⟩; have HU4 := Lib.hid (HU3.out.keep hq); have HO4A : Hid (IsEnts u4 (.slice c4a h.length c4c) h) := Lib.hid o4.is; have k4 := HK.out _ HU4.out.bel; clear o4 hq))
                  | (go_at_call 19; ((with_reducible refine (GhaveT (i := 1) HU4.out rfl h.length rfl).mono ?_); rintro r u5 ⟨c5a, c5c, rfl, o5, hq⟩; have HU5 := Lib.hid (HU4.out.keep hq); have HO5A : Hid (IsEnts u5 (.slice c5a h.length c5c) h) := Lib.hid o5.is; have HO4B := Lib.hid (HO4A.out.below hq); have k5 := HK.out _ HU5.out.bel; clear o5 hq))
                  | (go_at_call 28; ((with_reducible refine (equal_entsT _ _ h u5 HO4B.out HO5A.out (by have := HHL.out; omega)).mono ?_); rintro r u6 ⟨rfl, q6, hq6⟩; have HU6 := Lib.hid (HU5.out.keep (w' := u6) (by rw [hq6]; exact below_drewq (Below.refl _ _) q6)); have k6 := HK.out _ HU6.out.bel; clear hq6))
                  | (go_at_call 15; ((with_reducible refine (GwritesT (i := 0) HU6.out rfl l n rfl HN.out.symm).mono ?_); rintro r u7 ⟨c7a, c7c, rfl, o7, hq⟩; have HU7 := Lib.hid (HU6.out.keep hq); have HO7A := Lib.hid o7.is; have k7 := HK.out _ HU7.out.bel; have HI7 := Lib.hid (HBA.out u7 HU7.out.bel).1.2.2.1; clear o7 hq))
                  | (go_at_call 14; ((with_reducible refine (equalw_as _ _ l l true u7 HO7A.out HI7.out (by have := HNL.out; omega) (by have := HNL.out; omega) (by simp)).mono ?_); rintro r u8 ⟨rfl, q8, hq8⟩; have HU8 := Lib.hid (HU7.out.keep (w' := u8) (by rw [hq8]; exact below_drewq (Below.refl _ _) q8)); have k8 := HK.out _ HU8.out.bel; clear hq8))
                  | fail)
                go_wp2
                go_ret
                exact ⟨rfl, HE.out _ (HBR.out.trans (HU8.out.bel.mono HBR.out.size))⟩
      · have hf2 : decide ((0 : Int) < (nf : Int)) = true := by simp; omega
        go_wp2
        go_ret
        exact ⟨rfl, HE.out _ HB4.out⟩
end Go.Proofs.YtifbebhgeheooaaGreatDoor
