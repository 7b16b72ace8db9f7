/-
  The walk of 'packtrainkeep.BatchLess'.
-/
import Derived.Test.YtiipnifnejnhlaaDoorBatOne
import Derived.Test.YtiipnifnejnhlaaDoorWrIns
import Derived.Test.YtiipnifnejnhlaaDoorPick
namespace Go.Proofs.YtiipnifnejnhlaaDoor
open Go.RowKit

/-- Two batches in two blocks, whose writes may be stored. -/
def C2 (W0 : World) (P Q : Nat) (a b c : Value) (wr : World) : Prop :=
  batAt wr P a b c ∧ batAt wr Q a b c ∧ wr.frozen? ⟨P, 2, none⟩ = false ∧ wr.frozen? ⟨Q, 2, none⟩ = false ∧ P < wr.heap.size ∧ Q < wr.heap.size ∧ P ≠ Q ∧ W0.heap.size ≤ P ∧ W0.heap.size ≤ Q ∧ Below W0.heap.size W0 wr
theorem c2_newA (w : World) (a b c : Value) : C2 w w.heap.size (w.heap.size + 1) a b c ((w.alloc (.cells #[a, b, c] 25)).alloc (.cells #[a, b, c] 25)).drew :=
  ⟨⟨by simp, by simp, by simp⟩, ⟨by simp, by simp, by simp⟩, by simp, by simp, by simp; omega, by simp, by omega, Nat.le_refl _, by omega, (((Below.refl _ _).alloc (Nat.le_refl _) _).alloc (by simp) _).drew⟩
theorem c2_newB (w : World) (a b c : Value) : C2 w (w.heap.size + 1) w.heap.size a b c ((w.alloc (.cells #[a, b, c] 25)).alloc (.cells #[a, b, c] 25)).drew := by
  obtain ⟨h1, h2, h3, h4, h5, h6, h7, h8, h9, h10⟩ := c2_newA w a b c
  exact ⟨h2, h1, h4, h3, h6, h5, h7.symm, h9, h8, h10⟩
theorem wrBlk_new (w : World) (T R K : Int) (key val : ByteArray) (N : Int) : wrBlk (w.alloc (.cells #[.int .i64 T, .int .i64 R, .int .i64 K, .string key, .string val, .int .i64 N] 41)) w.heap.size ⟨T, R, K, key, val, N⟩ := heap_alloc_new w _
/-- One more of the same, right behind itself. -/
theorem split_at {l : List Wr} {i : Nat} {x : Wr} (h : l[i]? = some x) : l = l.take i ++ x :: l.drop (i + 1) ∧ l.take i ++ x :: l.drop i = l.take i ++ x :: x :: l.drop (i + 1) := by
  obtain ⟨hi, hx⟩ := List.getElem?_eq_some_iff.1 h
  have hd : l.drop i = x :: l.drop (i + 1) := by rw [List.drop_eq_getElem_cons hi, hx]
  constructor
  · rw [← hd, List.take_append_drop]
  · rw [hd]

theorem tell_of2 (v : Value) (e : Nat) (pl : Int) (w : World) (hg : errT w) (hv : anyErr w v (e, pl)) : Calls Tryd.prog 18 #[v] w fun r w' => r = .returned (.int .i64 (e : Int)) ∧ Below w.heap.size w w' := by
  by_cases h0 : e = 0
  · subst h0
    obtain rfl := hv.nil rfl
    exact (tell_nil w).mono fun _ _ ⟨h1, h2⟩ => ⟨h1, h2 ▸ Below.refl _ _⟩
  · exact tell_err v e w hg (hv.isErr h0)
/-- One write less keeps the batch right; one twice does not. -/
theorem less_facts {f h : List Ent} {l : List Wr} {i q n : Nat} {x : Wr} (hr : rightB f h l) (hx : l[i]? = some x) (hq : q = i + 1) (hn : n = l.length) :
    batF f h (l.take i ++ l.drop q) = (0, -1) ∧ ∃ e pl, batF f h (l.take i ++ x :: l.drop i) = (e, pl) ∧ ((e = 4 ∧ n = 60) ∨ (e = 10 ∧ n ≠ 60)) := by
  subst hq
  have hs := split_at hx
  refine ⟨batF_place (rightB_sub hr ?_), (batF f h (l.take i ++ x :: l.drop i)).1, (batF f h (l.take i ++ x :: l.drop i)).2, rfl, ?_⟩
  · conv => rhs; rw [hs.1]
    exact (List.sublist_cons_self _ _).append_left _
  · have h2 := batF_dup hr hs.1
    rw [← hs.2, ← hn] at h2
    rw [h2]
    by_cases h6 : n = 60
    · rw [if_pos h6]; exact .inl ⟨rfl, h6⟩
    · rw [if_neg h6]; exact .inr ⟨rfl, h6⟩
/-- The parts of a batch with another row of writes out of the same. -/
theorem BatIs.writes {w : World} {vf vh vw u : Value} {f h : List Ent} {l m : List Wr} (hx : BatIs w vf vh vw f h l) (hu : IsWrs w u m) (hl : m.length ≤ 9223372036854775807) (hm : ∀ t ∈ m, t ∈ l) : BatIs w vf vh u f h m :=
  ⟨hx.1, hx.2.1, hu, hx.2.2.2.1, hx.2.2.2.2.1, hl, fun t ht => hx.2.2.2.2.2.2 t (hm t ht)⟩
theorem less_mem {l : List Wr} {i q : Nat} : ∀ t ∈ l.take i ++ l.drop q, t ∈ l := by
  intro t ht
  rcases List.mem_append.1 ht with h | h
  · exact List.mem_of_mem_take h
  · exact List.mem_of_mem_drop h
theorem more_mem {l : List Wr} {i : Nat} {x : Wr} (hx : l[i]? = some x) : ∀ t ∈ l.take i ++ x :: l.drop i, t ∈ l := by
  intro t ht
  rcases List.mem_append.1 ht with h | h
  · exact List.mem_of_mem_take h
  · rcases List.mem_cons.1 h with rfl | h
    · exact List.mem_of_getElem? hx
    · exact List.mem_of_mem_drop h

set_option maxRecDepth 100000 in
set_option maxHeartbeats 8000000 in
theorem batchLess_walk (w : World) (vf vh vw : Value) (f h : List Ent) (l : List Wr) (hx : BatIs w vf vh vw f h l) (a1 : Int) (_hb0 : -9223372036854775808 ≤ a1) (_hb1 : a1 ≤ 9223372036854775807) (hg : errT w) :
    Calls Tryd.prog 4 #[.agg #[vf, vh, vw], .int .i64 a1] w fun e w' => e = .returned (.bool true) ∧ Below w.heap.size w w' := by
  have HX := Lib.hid hx
  have HG := Lib.hid hg
  obtain ⟨hf, hh, hv, _⟩ := hx
  obtain ⟨af, cf, rfl, _⟩ := hf.form
  obtain ⟨ah, ch, rfl, _⟩ := hh.form
  obtain ⟨aw, cw, rfl, fw⟩ := hv.form
  have FW := Lib.hid fw
  obtain ⟨n, hn⟩ : ∃ n, n = l.length := ⟨_, rfl⟩
  have HN := Lib.hid hn
  rw [← hn] at HX ⊢
  have HA := Lib.hid (batAt_new w (.slice af f.length cf) (.slice ah h.length ch) (.slice aw n cw) 25)
  have HW0 : Hid (Below w.heap.size w (w.alloc (.cells #[.slice af f.length cf, .slice ah h.length ch, .slice aw n cw] 25))) := Lib.hid ((Below.refl _ _).alloc (Nat.le_refl _) _)
  have HZ : Hid (w.heap.size < (w.alloc (.cells #[.slice af f.length cf, .slice ah h.length ch, .slice aw n cw] 25)).heap.size) := Lib.hid (by simp)
  generalize f.length = nf at HX HA HW0 HZ ⊢
  generalize h.length = nh at HX HA HW0 HZ ⊢
  clear hf hh hv hg fw hn _hb0 _hb1
  go_enter Tryd.func4, Tryd.ntmps4
  go_wp2_with fail
  generalize w.alloc (.cells #[.slice af nf cf, .slice ah nh ch, .slice aw n cw] 25) = W at HA HW0 HZ ⊢
  have HE : Hid (∀ w', Below W.heap.size W w' → Below w.heap.size w w') := Lib.hid (fun w' hx => HW0.out.trans (hx.mono HW0.out.size))
  refine (gathered_any _ (HG.out.below HW0.out)).mono ?_
  rintro r w1 ⟨rfl, hb1⟩
  have HB1 := Lib.hid hb1
  clear hb1
  obtain ⟨d0, d1, d2⟩ := HA.out.below HB1.out HZ.out
  go_wp2_with fail
  refine (held_any _ _ _ f h l _ (HX.out.below (HE.out _ HB1.out)) (HG.out.below (HE.out _ HB1.out))).mono ?_
  rintro r w3 ⟨c, rfl, hc, hb3⟩
  have HB3 : Hid (Below W.heap.size W w3) := HB1.out.trans (hb3.mono HB1.out.size)
  have HC := Lib.hid hc
  clear hb3 hc d0 d1 d2
  cases c with
  | false =>
    go_wp2
    go_ret
    exact ⟨rfl, HE.out _ HB3.out⟩
  | true =>
    have HRB : Hid (rightB f h l) := Lib.hid (HC.out (by trivial))
    have h60 : n ≤ 60 := by rw [HN.out]; exact (rightB_iff.1 HRB.out).2.1
    obtain ⟨d0, d1, d2⟩ := HA.out.below HB3.out HZ.out
    by_cases hn0 : n = 0
    · subst hn0
      go_wp2
      go_ret
      exact ⟨rfl, HE.out _ HB3.out⟩
    · have hz1 : ((n : Int) == 0) = false := by simp; omega
      have hz2 : ¬ (n : Int) = 0 := by omega
      have hpk := pickN_pos (a := a1) (n := (n : Int)) (by omega)
      obtain ⟨i, hi⟩ := Int.eq_ofNat_of_zero_le hpk.1
      rw [hi] at hpk
      have hin : i < n := by omega
      have HI := Lib.hid hi
      clear hi hpk
      go_wp2_with fail
      refine (pick_any a1 (n : Int) _ (by omega) (by omega)).mono ?_
      rintro r w' ⟨rfl, rfl⟩
      rw [HI.out]
      have hlt3 : w.heap.size < w3.heap.size := Nat.lt_of_lt_of_le HZ.out HB3.out.size
      go_wp2
      go_region
      · skip
        have hp := c2_newA w3 (.slice af nf cf) (.slice ah nh ch) (.slice aw n cw)
        obtain ⟨W7, hW7⟩ : ∃ W7, W7 = ((w3.alloc (.cells #[.slice af nf cf, .slice ah nh ch, .slice aw n cw] 25)).alloc (.cells #[.slice af nf cf, .slice ah nh ch, .slice aw n cw] 25)).drew := ⟨_, rfl⟩
        rw [← hW7] at hp ⊢
        obtain ⟨Q, hq1⟩ : ∃ q, q = w3.heap.size + 1 := ⟨_, rfl⟩
        rw [← hq1] at hp ⊢
        obtain ⟨P, hq2⟩ : ∃ q, q = w3.heap.size := ⟨_, rfl⟩
        rw [← hq2] at hp ⊢
        clear hW7 hq1 hq2
        obtain ⟨x1, x2, x3, x4, x5, x6, x7, x8, x9, x10⟩ := hp
        have HP1 := Lib.hid x1
        have HP2 := Lib.hid x2
        have HP3 := Lib.hid x3
        have HP4 := Lib.hid x4
        have HP5 := Lib.hid x5
        have HP6 := Lib.hid x6
        have HP7 := Lib.hid x7
        have HPW : Hid (W.heap.size ≤ P) := Lib.hid (Nat.le_trans HB3.out.size x8)
        have HQW : Hid (W.heap.size ≤ Q) := Lib.hid (Nat.le_trans HB3.out.size x9)
        have HB7 : Hid (Below W.heap.size W W7) := HB3.out.trans (x10.mono HB3.out.size)
        clear x1 x2 x3 x4 x5 x6 x7 x8 x9 x10 d0 d1 d2 hlt3
        obtain ⟨q, hq⟩ : ∃ q, q = i + 1 := ⟨_, rfl⟩
        have HQI := Lib.hid hq
        have s1 : IntKind.i64.wrap ((i : Int) + 1) = (q : Int) := by rw [show (i : Int) + 1 = (q : Int) by omega]; exact IntWalk.i64_in _ (by omega)
        have s2 : (i : Int) + 1 = (q : Int) := by omega
        have s3 : IntKind.i64.wrap (q : Int) = (q : Int) := IntWalk.i64_in _ (by omega)
        clear hq
        obtain ⟨d0, d1, d2⟩ := HA.out.below HB7.out HZ.out
        go_wp2_with fail
        refine (clone_wrs _ l _ (HX.out.below (HE.out _ HB7.out)).2.2.1 (by have := HN.out; omega) (by have := HN.out; omega)).mono ?_
        rintro r w8 ⟨v1, rfl, ho8, hb8⟩
        have HO8 := Lib.hid ho8
        have HB8 : Hid (Below W.heap.size W w8) := HB7.out.trans (hb8.mono HB7.out.size)
        have HB8b := Lib.hid hb8
        clear ho8 hb8 d0 d1 d2
        go_wp2_with fail
        refine (del_any v1 i q n l _ W7.heap.size HO8.out HN.out HQI.out hin).mono ?_
        rintro r w9 ⟨u1, rfl, hu9, ⟨ua, uc, rfl⟩, hub, hb9⟩
        have hB9 : Below W7.heap.size W7 w9 := HB8b.out.trans hb9
        have HB9 : Hid (Below W.heap.size W w9) := HB7.out.trans (hB9.mono HB7.out.size)
        have HU9 := Lib.hid hu9
        have HUB : Hid (Value.ownBlock (.slice ua (i + (n - q)) uc) ≠ some P) := Lib.hid (fun e => by have := hub _ e; have := HP5.out; omega)
        have HUC : Hid (Value.ownBlock (.slice ua (i + (n - q)) uc) ≠ some Q) := Lib.hid (fun e => by have := hub _ e; have := HP6.out; omega)
        have HA9 := Lib.hid (HP1.out.below hB9 HP5.out)
        have HC9 := Lib.hid (HP2.out.below hB9 HP6.out)
        have hf9 := (hB9.frozen (p := ⟨P, 2, none⟩) HP5.out).trans HP3.out
        have HG9 : Hid (w9.frozen? ⟨Q, 2, none⟩ = false) := Lib.hid ((hB9.frozen (p := ⟨Q, 2, none⟩) HP6.out).trans HP4.out)
        have hs9 := hB9.size
        have HS9P : Hid (P < w9.heap.size) := Lib.hid (by have := HP5.out; omega)
        have HS9Q : Hid (Q < w9.heap.size) := Lib.hid (by have := HP6.out; omega)
        have hc9 := HA9.out.2.2
        have HZ9 : Hid (w.heap.size < w9.heap.size) := Lib.hid (Nat.lt_of_lt_of_le HZ.out HB9.out.size)
        have HWP : Hid (P ≠ w.heap.size) := Lib.hid (by have := HPW.out; have := HZ.out; omega)
        have HWQ : Hid (Q ≠ w.heap.size) := Lib.hid (by have := HQW.out; have := HZ.out; omega)
        clear hu9 hub hb9 hB9 hs9
        go_wp2
        clear hc9 hf9
        obtain ⟨w10, hw10⟩ : ∃ x, x = w9.setCell ⟨P, 2, none⟩ (.slice ua (i + (n - q)) uc) := ⟨_, rfl⟩
        rw [← hw10]
        have HU10 : Hid (IsWrs w10 (.slice ua (i + (n - q)) uc) (l.take i ++ l.drop q)) := Lib.hid (by rw [hw10]; exact HU9.out.set _ HUB.out)
        have HA10 : Hid (batAt w10 P (.slice af nf cf) (.slice ah nh ch) (.slice ua (i + (n - q)) uc)) := Lib.hid (by rw [hw10]; exact HA9.out.put _)
        have HC10 : Hid (batAt w10 Q (.slice af nf cf) (.slice ah nh ch) (.slice aw n cw)) := Lib.hid (by rw [hw10]; exact HC9.out.set _ HP7.out)
        have HD10 : Hid (batAt w10 w.heap.size (.slice af nf cf) (.slice ah nh ch) (.slice aw n cw)) := Lib.hid (by rw [hw10]; exact (HA.out.below HB9.out HZ.out).set _ HWP.out)
        have HG10 : Hid (w10.frozen? ⟨Q, 2, none⟩ = false) := Lib.hid (by rw [hw10, World.frozen?_setCell]; exact HG9.out)
        have HB10 : Hid (Below W.heap.size W w10) := Lib.hid (by rw [hw10]; exact HB9.out.setCell HPW.out _)
        have HSP : Hid (P < w10.heap.size) := Lib.hid (by rw [hw10]; simpa using HS9P.out)
        have HSQ : Hid (Q < w10.heap.size) := Lib.hid (by rw [hw10]; simpa using HS9Q.out)
        have hlt10 : w.heap.size < w10.heap.size := by rw [hw10]; simpa using HZ9.out
        have HZ10 := Lib.hid hlt10
        clear hw10
        obtain ⟨t, ht⟩ : ∃ t, l[i]? = some t := ⟨l[i]'(by have := HN.out; omega), List.getElem?_eq_getElem _⟩
        obtain ⟨b1, o1, rfl, hb1, p0, p1, p2, p3, p4, p5⟩ := FW.out i t ht
        have hBw := HE.out _ HB10.out
        have q0 := (hBw.cell (p := ⟨b1, o1 + i * 6, none⟩) hb1).trans p0
        have q1 := (hBw.cell (p := ⟨b1, o1 + i * 6 + 1, none⟩) hb1).trans p1
        have q2 := (hBw.cell (p := ⟨b1, o1 + i * 6 + 2, none⟩) hb1).trans p2
        have q3 := (hBw.cell (p := ⟨b1, o1 + i * 6 + 3, none⟩) hb1).trans p3
        have q4 := (hBw.cell (p := ⟨b1, o1 + i * 6 + 4, none⟩) hb1).trans p4
        have q5 := (hBw.cell (p := ⟨b1, o1 + i * 6 + 5, none⟩) hb1).trans p5
        have hb10 : b1 < w10.heap.size := Nat.lt_of_lt_of_le hb1 hBw.size
        have HTI := Lib.hid ht
        obtain ⟨T, R, K, key, val, N⟩ := t
        simp only at q0 q1 q2 q3 q4 q5
        obtain ⟨d0, d1, d2⟩ := HD10.out
        clear p0 p1 p2 p3 p4 p5 hBw ht
        obtain ⟨p, hp⟩ : ∃ p, p = l.length + 1 := ⟨_, rfl⟩
        have HPL := Lib.hid hp
        have HIW := Lib.hid (HX.out.below (HE.out _ HB10.out)).2.2.1
        have HIWd : Hid (IsWrs w10.drew (.slice (some ⟨b1, o1, none⟩) n cw) l) := Lib.hid (HIW.out.drewN 1)
        have HIWa : Hid (IsWrs ((w10.alloc (.cells #[.int .i64 T, .int .i64 R, .int .i64 K, .string key, .string val, .int .i64 N] 41)).drew) (.slice (some ⟨b1, o1, none⟩) n cw) l) := Lib.hid ((HIW.out.alloc (.cells #[.int .i64 T, .int .i64 R, .int .i64 K, .string key, .string val, .int .i64 N] 41)).drewN 1)
        have HN0 : Hid (0 < l.length) := Lib.hid (by have := HN.out; omega)
        have HN6 : Hid (l.length ≤ 1000000) := Lib.hid (by have := HN.out; omega)
        have HN7 : Hid (n ≤ 1000000) := Lib.hid (by omega)
        clear hp
        go_region_with (first
          | (go_at_call 16; (first
            | (((with_reducible refine (clone_wrs (.slice (some ⟨b1, o1, none⟩) n cw) l w10.drew HIWd.out HN0.out HN6.out).mono ?_)); rintro r w11 ⟨v2, rfl, ho11, hb11⟩; have HB11 : Hid (Below w10.heap.size w10 w11) := Lib.hid (undrew3 hb11); have HO11 : Hid (ownsW w11 w10.heap.size v2 l) := Lib.hid ho11; have e0 := (HB11.out.cell (p := ⟨w.heap.size, 0, none⟩) HZ10.out).trans d0; have e1 := (HB11.out.cell (p := ⟨w.heap.size, 1, none⟩) HZ10.out).trans d1; have e2 := (HB11.out.cell (p := ⟨w.heap.size, 2, none⟩) HZ10.out).trans d2; have r0 := (HB11.out.cell (p := ⟨b1, o1 + i * 6, none⟩) hb10).trans q0; have r1 := (HB11.out.cell (p := ⟨b1, o1 + i * 6 + 1, none⟩) hb10).trans q1; have r2 := (HB11.out.cell (p := ⟨b1, o1 + i * 6 + 2, none⟩) hb10).trans q2; have r3 := (HB11.out.cell (p := ⟨b1, o1 + i * 6 + 3, none⟩) hb10).trans q3; have r4 := (HB11.out.cell (p := ⟨b1, o1 + i * 6 + 4, none⟩) hb10).trans q4; have r5 := (HB11.out.cell (p := ⟨b1, o1 + i * 6 + 5, none⟩) hb10).trans q5; clear ho11 hb11)
            | (((with_reducible refine (clone_wrs (.slice (some ⟨b1, o1, none⟩) n cw) l ((w10.alloc (.cells #[.int .i64 T, .int .i64 R, .int .i64 K, .string key, .string val, .int .i64 N] 41)).drew) HIWa.out HN0.out HN6.out).mono ?_)); rintro r w11 ⟨v2, rfl, ho11, hb11⟩; have HB11b := Lib.hid (undrew3 hb11); have HB11 : Hid (Below w10.heap.size w10 w11) := Lib.hid (((Below.refl _ _).alloc (Nat.le_refl _) (.cells #[.int .i64 T, .int .i64 R, .int .i64 K, .string key, .string val, .int .i64 N] 41)).trans (HB11b.out.mono (by simp))); have HO11 : Hid (ownsW w11 (w10.heap.size + 1) v2 l) := Lib.hid (by simpa using ho11); have HK11 : Hid (wrBlk w11 w10.heap.size ⟨T, R, K, key, val, N⟩) := Lib.hid (wrBlk.below (w := w10.alloc (.cells #[.int .i64 T, .int .i64 R, .int .i64 K, .string key, .string val, .int .i64 N] 41)) (wrBlk_new w10 T R K key val N) HB11b.out (by simp)); have e0 := (HB11.out.cell (p := ⟨w.heap.size, 0, none⟩) HZ10.out).trans d0; have e1 := (HB11.out.cell (p := ⟨w.heap.size, 1, none⟩) HZ10.out).trans d1; have e2 := (HB11.out.cell (p := ⟨w.heap.size, 2, none⟩) HZ10.out).trans d2; have r0 := (HB11.out.cell (p := ⟨b1, o1 + i * 6, none⟩) hb10).trans q0; have r1 := (HB11.out.cell (p := ⟨b1, o1 + i * 6 + 1, none⟩) hb10).trans q1; have r2 := (HB11.out.cell (p := ⟨b1, o1 + i * 6 + 2, none⟩) hb10).trans q2; have r3 := (HB11.out.cell (p := ⟨b1, o1 + i * 6 + 3, none⟩) hb10).trans q3; have r4 := (HB11.out.cell (p := ⟨b1, o1 + i * 6 + 4, none⟩) hb10).trans q4; have r5 := (HB11.out.cell (p := ⟨b1, o1 + i * 6 + 5, none⟩) hb10).trans q5; clear ho11 hb11)))
          | (go_at_call 17; (first
            | (((with_reducible refine (ins_as v2 i n w11.heap.size p l ⟨T, R, K, key, val, N⟩ (w11.alloc (.cells #[.int .i64 T, .int .i64 R, .int .i64 K, .string key, .string val, .int .i64 N] 41)) w10.heap.size (HO11.out.alloc _) HN.out hin HN7.out (wrBlk_new w11 T R K key val N) (fun e => by have := (HO11.out.lt _ e).2; omega) (by have := HB11.out.size; simp; omega) HPL.out).mono ?_)); rintro r w12 ⟨a3, c3, rfl, hu12, hk12, hb12⟩; have HB12 : Hid (Below w10.heap.size w10 w12) := Lib.hid ((HB11.out.alloc HB11.out.size _).trans hb12); have HU12 := Lib.hid hu12; have HUQ : Hid (Value.ownBlock (.slice a3 p c3) ≠ some Q) := Lib.hid (fun e => by have := hk12 _ e; have := HSQ.out; omega); have s5 := (HB12.out.cell (p := ⟨Q, 2, none⟩) HSQ.out).trans HC10.out.2.2; have s6 := (HB12.out.frozen (p := ⟨Q, 2, none⟩) HSQ.out).trans HG10.out; clear hu12 hk12 hb12)
            | (((with_reducible refine (ins_as v2 i n w10.heap.size p l ⟨T, R, K, key, val, N⟩ w11 w10.heap.size (HO11.out.mono (Nat.le_succ _)) HN.out hin HN7.out HK11.out (fun e => by have := (HO11.out.lt _ e).1; omega) (by have := HB11.out.size; omega) HPL.out).mono ?_)); rintro r w12 ⟨a3, c3, rfl, hu12, hk12, hb12⟩; have HB12 : Hid (Below w10.heap.size w10 w12) := Lib.hid (HB11.out.trans hb12); have HU12 := Lib.hid hu12; have HUQ : Hid (Value.ownBlock (.slice a3 p c3) ≠ some Q) := Lib.hid (fun e => by have := hk12 _ e; have := HSQ.out; omega); have s5 := (HB12.out.cell (p := ⟨Q, 2, none⟩) HSQ.out).trans HC10.out.2.2; have s6 := (HB12.out.frozen (p := ⟨Q, 2, none⟩) HSQ.out).trans HG10.out; clear hu12 hk12 hb12))))
        all_goals
          obtain ⟨w13, hw13⟩ : ∃ x, x = w12.setCell ⟨Q, 2, none⟩ (.slice a3 p c3) := ⟨_, rfl⟩
          rw [← hw13]
          have HC13 : Hid (batAt w13 Q (.slice af nf cf) (.slice ah nh ch) (.slice a3 p c3)) := Lib.hid (by rw [hw13]; exact (HC10.out.below HB12.out HSQ.out).put _)
          have HA13 : Hid (batAt w13 P (.slice af nf cf) (.slice ah nh ch) (.slice ua (i + (n - q)) uc)) := Lib.hid (by rw [hw13]; exact (HA10.out.below HB12.out HSP.out).set _ HP7.out.symm)
          have HD13 : Hid (batAt w13 w.heap.size (.slice af nf cf) (.slice ah nh ch) (.slice (some ⟨b1, o1, none⟩) n cw)) := Lib.hid (by rw [hw13]; exact (HD10.out.below HB12.out HZ10.out).set _ HWQ.out)
          have HU13 : Hid (IsWrs w13 (.slice a3 p c3) (l.take i ++ ⟨T, R, K, key, val, N⟩ :: l.drop i)) := Lib.hid (by rw [hw13]; exact HU12.out.set _ HUQ.out)
          have HV13 : Hid (IsWrs w13 (.slice ua (i + (n - q)) uc) (l.take i ++ l.drop q)) := Lib.hid (by rw [hw13]; exact (HU10.out.below HB12.out).set _ HUC.out)
          have HB13 : Hid (Below W.heap.size W w13) := Lib.hid (by rw [hw13]; exact (HB10.out.trans (HB12.out.mono HB10.out.size)).setCell HQW.out _)
          have HS13 : Hid (P < w13.heap.size ∧ Q < w13.heap.size ∧ w.heap.size < w13.heap.size) := Lib.hid (by have h1 := HB12.out.size; have h2 := HSP.out; have h3 := HSQ.out; have h4 := HZ10.out; rw [hw13]; simp; omega)
          clear hw13
          obtain ⟨hf1, e, pl, hf2, hcase⟩ := less_facts HRB.out HTI.out HQI.out HN.out
          have HF1 := Lib.hid hf1
          have HF2 := Lib.hid hf2
          have HCS := Lib.hid hcase
          have HYQ : Hid (BatIs w13 (.slice af nf cf) (.slice ah nh ch) (.slice a3 p c3) f h (l.take i ++ ⟨T, R, K, key, val, N⟩ :: l.drop i)) := Lib.hid ((HX.out.below (HE.out _ HB13.out)).writes HU13.out (by have h1 := HN.out; have h2 := HN7.out; rw [List.length_append, List.length_take, List.length_cons, List.length_drop]; omega) (more_mem HTI.out))
          have HYP : Hid (BatIs w13 (.slice af nf cf) (.slice ah nh ch) (.slice ua (i + (n - q)) uc) f h (l.take i ++ l.drop q)) := Lib.hid ((HX.out.below (HE.out _ HB13.out)).writes HV13.out (by have h1 := HN.out; have h2 := HN7.out; rw [List.length_append, List.length_take, List.length_drop]; omega) less_mem)
          clear hf1 hf2 hcase
          obtain ⟨d0, d1, d2⟩ := HC13.out
          go_wp2_with fail
          refine (brightB_as _ _ _ f h _ e pl w13 HYQ.out (HG.out.below (HE.out _ HB13.out)) HF2.out).mono ?_
          rintro r w14 ⟨er, rfl, hat, hb14⟩
          have HB14 : Hid (Below W.heap.size W w14) := HB13.out.trans (hb14.mono HB13.out.size)
          have HB14b := Lib.hid hb14
          have HAT := Lib.hid hat
          clear hb14 hat d0 d1 d2
          go_wp2_with fail
          refine (tell_of2 er e pl w14 (HG.out.below (HE.out _ HB14.out)) HAT.out).mono ?_
          rintro r w15 ⟨rfl, hb15⟩
          have HB15 : Hid (Below W.heap.size W w15) := HB14.out.trans (hb15.mono HB14.out.size)
          have HB15b : Hid (Below w13.heap.size w13 w15) := HB14b.out.trans (hb15.mono HB14b.out.size)
          clear hb15
          obtain ⟨d0, d1, d2⟩ := HA13.out.below HB15b.out HS13.out.1
          go_wp2_with fail
          refine (brightB_as _ _ _ f h _ 0 (-1) w15 (HYP.out.below HB15b.out) (HG.out.below (HE.out _ HB15.out)) HF1.out).mono ?_
          rintro r w16 ⟨er2, rfl, hat2, hb16⟩
          obtain rfl := hat2.nil rfl
          have HB16 : Hid (Below W.heap.size W w16) := HB15.out.trans (hb16.mono HB15.out.size)
          have HB16b : Hid (Below w13.heap.size w13 w16) := HB15b.out.trans (hb16.mono HB15b.out.size)
          clear hb16 hat2 d0 d1 d2
          obtain ⟨d0, d1, d2⟩ := HD13.out.below HB16b.out HS13.out.2.2
          rcases HCS.out with ⟨rfl, h66⟩ | ⟨rfl, h66⟩
          · have h67 : ((n : Int) == 60) = true := by simp; omega
            go_wp2
            go_ret
            exact ⟨by first | rfl | simp, HE.out _ HB16.out⟩
          · go_wp2
            go_ret
            exact ⟨by first | rfl | simp, HE.out _ HB16.out⟩
      · skip
        have hp := c2_newB w3 (.slice af nf cf) (.slice ah nh ch) (.slice aw n cw)
        obtain ⟨W7, hW7⟩ : ∃ W7, W7 = ((w3.alloc (.cells #[.slice af nf cf, .slice ah nh ch, .slice aw n cw] 25)).alloc (.cells #[.slice af nf cf, .slice ah nh ch, .slice aw n cw] 25)).drew := ⟨_, rfl⟩
        rw [← hW7] at hp ⊢
        obtain ⟨P, hq1⟩ : ∃ q, q = w3.heap.size + 1 := ⟨_, rfl⟩
        rw [← hq1] at hp ⊢
        obtain ⟨Q, hq2⟩ : ∃ q, q = w3.heap.size := ⟨_, rfl⟩
        rw [← hq2] at hp ⊢
        clear hW7 hq1 hq2
        obtain ⟨x1, x2, x3, x4, x5, x6, x7, x8, x9, x10⟩ := hp
        have HP1 := Lib.hid x1
        have HP2 := Lib.hid x2
        have HP3 := Lib.hid x3
        have HP4 := Lib.hid x4
        have HP5 := Lib.hid x5
        have HP6 := Lib.hid x6
        have HP7 := Lib.hid x7
        have HPW : Hid (W.heap.size ≤ P) := Lib.hid (Nat.le_trans HB3.out.size x8)
        have HQW : Hid (W.heap.size ≤ Q) := Lib.hid (Nat.le_trans HB3.out.size x9)
        have HB7 : Hid (Below W.heap.size W W7) := HB3.out.trans (x10.mono HB3.out.size)
        clear x1 x2 x3 x4 x5 x6 x7 x8 x9 x10 d0 d1 d2 hlt3
        obtain ⟨q, hq⟩ : ∃ q, q = i + 1 := ⟨_, rfl⟩
        have HQI := Lib.hid hq
        have s1 : IntKind.i64.wrap ((i : Int) + 1) = (q : Int) := by rw [show (i : Int) + 1 = (q : Int) by omega]; exact IntWalk.i64_in _ (by omega)
        have s2 : (i : Int) + 1 = (q : Int) := by omega
        have s3 : IntKind.i64.wrap (q : Int) = (q : Int) := IntWalk.i64_in _ (by omega)
        clear hq
        obtain ⟨d0, d1, d2⟩ := HA.out.below HB7.out HZ.out
        go_wp2_with fail
        refine (clone_wrs _ l _ (HX.out.below (HE.out _ HB7.out)).2.2.1 (by have := HN.out; omega) (by have := HN.out; omega)).mono ?_
        rintro r w8 ⟨v1, rfl, ho8, hb8⟩
        have HO8 := Lib.hid ho8
        have HB8 : Hid (Below W.heap.size W w8) := HB7.out.trans (hb8.mono HB7.out.size)
        have HB8b := Lib.hid hb8
        clear ho8 hb8 d0 d1 d2
        go_wp2_with fail
        refine (del_any v1 i q n l _ W7.heap.size HO8.out HN.out HQI.out hin).mono ?_
        rintro r w9 ⟨u1, rfl, hu9, ⟨ua, uc, rfl⟩, hub, hb9⟩
        have hB9 : Below W7.heap.size W7 w9 := HB8b.out.trans hb9
        have HB9 : Hid (Below W.heap.size W w9) := HB7.out.trans (hB9.mono HB7.out.size)
        have HU9 := Lib.hid hu9
        have HUB : Hid (Value.ownBlock (.slice ua (i + (n - q)) uc) ≠ some P) := Lib.hid (fun e => by have := hub _ e; have := HP5.out; omega)
        have HUC : Hid (Value.ownBlock (.slice ua (i + (n - q)) uc) ≠ some Q) := Lib.hid (fun e => by have := hub _ e; have := HP6.out; omega)
        have HA9 := Lib.hid (HP1.out.below hB9 HP5.out)
        have HC9 := Lib.hid (HP2.out.below hB9 HP6.out)
        have hf9 := (hB9.frozen (p := ⟨P, 2, none⟩) HP5.out).trans HP3.out
        have HG9 : Hid (w9.frozen? ⟨Q, 2, none⟩ = false) := Lib.hid ((hB9.frozen (p := ⟨Q, 2, none⟩) HP6.out).trans HP4.out)
        have hs9 := hB9.size
        have HS9P : Hid (P < w9.heap.size) := Lib.hid (by have := HP5.out; omega)
        have HS9Q : Hid (Q < w9.heap.size) := Lib.hid (by have := HP6.out; omega)
        have hc9 := HA9.out.2.2
        have HZ9 : Hid (w.heap.size < w9.heap.size) := Lib.hid (Nat.lt_of_lt_of_le HZ.out HB9.out.size)
        have HWP : Hid (P ≠ w.heap.size) := Lib.hid (by have := HPW.out; have := HZ.out; omega)
        have HWQ : Hid (Q ≠ w.heap.size) := Lib.hid (by have := HQW.out; have := HZ.out; omega)
        clear hu9 hub hb9 hB9 hs9
        go_wp2
        clear hc9 hf9
        obtain ⟨w10, hw10⟩ : ∃ x, x = w9.setCell ⟨P, 2, none⟩ (.slice ua (i + (n - q)) uc) := ⟨_, rfl⟩
        rw [← hw10]
        have HU10 : Hid (IsWrs w10 (.slice ua (i + (n - q)) uc) (l.take i ++ l.drop q)) := Lib.hid (by rw [hw10]; exact HU9.out.set _ HUB.out)
        have HA10 : Hid (batAt w10 P (.slice af nf cf) (.slice ah nh ch) (.slice ua (i + (n - q)) uc)) := Lib.hid (by rw [hw10]; exact HA9.out.put _)
        have HC10 : Hid (batAt w10 Q (.slice af nf cf) (.slice ah nh ch) (.slice aw n cw)) := Lib.hid (by rw [hw10]; exact HC9.out.set _ HP7.out)
        have HD10 : Hid (batAt w10 w.heap.size (.slice af nf cf) (.slice ah nh ch) (.slice aw n cw)) := Lib.hid (by rw [hw10]; exact (HA.out.below HB9.out HZ.out).set _ HWP.out)
        have HG10 : Hid (w10.frozen? ⟨Q, 2, none⟩ = false) := Lib.hid (by rw [hw10, World.frozen?_setCell]; exact HG9.out)
        have HB10 : Hid (Below W.heap.size W w10) := Lib.hid (by rw [hw10]; exact HB9.out.setCell HPW.out _)
        have HSP : Hid (P < w10.heap.size) := Lib.hid (by rw [hw10]; simpa using HS9P.out)
        have HSQ : Hid (Q < w10.heap.size) := Lib.hid (by rw [hw10]; simpa using HS9Q.out)
        have hlt10 : w.heap.size < w10.heap.size := by rw [hw10]; simpa using HZ9.out
        have HZ10 := Lib.hid hlt10
        clear hw10
        obtain ⟨t, ht⟩ : ∃ t, l[i]? = some t := ⟨l[i]'(by have := HN.out; omega), List.getElem?_eq_getElem _⟩
        obtain ⟨b1, o1, rfl, hb1, p0, p1, p2, p3, p4, p5⟩ := FW.out i t ht
        have hBw := HE.out _ HB10.out
        have q0 := (hBw.cell (p := ⟨b1, o1 + i * 6, none⟩) hb1).trans p0
        have q1 := (hBw.cell (p := ⟨b1, o1 + i * 6 + 1, none⟩) hb1).trans p1
        have q2 := (hBw.cell (p := ⟨b1, o1 + i * 6 + 2, none⟩) hb1).trans p2
        have q3 := (hBw.cell (p := ⟨b1, o1 + i * 6 + 3, none⟩) hb1).trans p3
        have q4 := (hBw.cell (p := ⟨b1, o1 + i * 6 + 4, none⟩) hb1).trans p4
        have q5 := (hBw.cell (p := ⟨b1, o1 + i * 6 + 5, none⟩) hb1).trans p5
        have hb10 : b1 < w10.heap.size := Nat.lt_of_lt_of_le hb1 hBw.size
        have HTI := Lib.hid ht
        obtain ⟨T, R, K, key, val, N⟩ := t
        simp only at q0 q1 q2 q3 q4 q5
        obtain ⟨d0, d1, d2⟩ := HD10.out
        clear p0 p1 p2 p3 p4 p5 hBw ht
        obtain ⟨p, hp⟩ : ∃ p, p = l.length + 1 := ⟨_, rfl⟩
        have HPL := Lib.hid hp
        have HIW := Lib.hid (HX.out.below (HE.out _ HB10.out)).2.2.1
        have HIWd : Hid (IsWrs w10.drew (.slice (some ⟨b1, o1, none⟩) n cw) l) := Lib.hid (HIW.out.drewN 1)
        have HIWa : Hid (IsWrs ((w10.alloc (.cells #[.int .i64 T, .int .i64 R, .int .i64 K, .string key, .string val, .int .i64 N] 41)).drew) (.slice (some ⟨b1, o1, none⟩) n cw) l) := Lib.hid ((HIW.out.alloc (.cells #[.int .i64 T, .int .i64 R, .int .i64 K, .string key, .string val, .int .i64 N] 41)).drewN 1)
        have HN0 : Hid (0 < l.length) := Lib.hid (by have := HN.out; omega)
        have HN6 : Hid (l.length ≤ 1000000) := Lib.hid (by have := HN.out; omega)
        have HN7 : Hid (n ≤ 1000000) := Lib.hid (by omega)
        clear hp
        go_region_with (first
          | (go_at_call 16; (first
            | (((with_reducible refine (clone_wrs (.slice (some ⟨b1, o1, none⟩) n cw) l w10.drew HIWd.out HN0.out HN6.out).mono ?_)); rintro r w11 ⟨v2, rfl, ho11, hb11⟩; have HB11 : Hid (Below w10.heap.size w10 w11) := Lib.hid (undrew3 hb11); have HO11 : Hid (ownsW w11 w10.heap.size v2 l) := Lib.hid ho11; have e0 := (HB11.out.cell (p := ⟨w.heap.size, 0, none⟩) HZ10.out).trans d0; have e1 := (HB11.out.cell (p := ⟨w.heap.size, 1, none⟩) HZ10.out).trans d1; have e2 := (HB11.out.cell (p := ⟨w.heap.size, 2, none⟩) HZ10.out).trans d2; have r0 := (HB11.out.cell (p := ⟨b1, o1 + i * 6, none⟩) hb10).trans q0; have r1 := (HB11.out.cell (p := ⟨b1, o1 + i * 6 + 1, none⟩) hb10).trans q1; have r2 := (HB11.out.cell (p := ⟨b1, o1 + i * 6 + 2, none⟩) hb10).trans q2; have r3 := (HB11.out.cell (p := ⟨b1, o1 + i * 6 + 3, none⟩) hb10).trans q3; have r4 := (HB11.out.cell (p := ⟨b1, o1 + i * 6 + 4, none⟩) hb10).trans q4; have r5 := (HB11.out.cell (p := ⟨b1, o1 + i * 6 + 5, none⟩) hb10).trans q5; clear ho11 hb11)
            | (((with_reducible refine (clone_wrs (.slice (some ⟨b1, o1, none⟩) n cw) l ((w10.alloc (.cells #[.int .i64 T, .int .i64 R, .int .i64 K, .string key, .string val, .int .i64 N] 41)).drew) HIWa.out HN0.out HN6.out).mono ?_)); rintro r w11 ⟨v2, rfl, ho11, hb11⟩; have HB11b := Lib.hid (undrew3 hb11); have HB11 : Hid (Below w10.heap.size w10 w11) := Lib.hid (((Below.refl _ _).alloc (Nat.le_refl _) (.cells #[.int .i64 T, .int .i64 R, .int .i64 K, .string key, .string val, .int .i64 N] 41)).trans (HB11b.out.mono (by simp))); have HO11 : Hid (ownsW w11 (w10.heap.size + 1) v2 l) := Lib.hid (by simpa using ho11); have HK11 : Hid (wrBlk w11 w10.heap.size ⟨T, R, K, key, val, N⟩) := Lib.hid (wrBlk.below (w := w10.alloc (.cells #[.int .i64 T, .int .i64 R, .int .i64 K, .string key, .string val, .int .i64 N] 41)) (wrBlk_new w10 T R K key val N) HB11b.out (by simp)); have e0 := (HB11.out.cell (p := ⟨w.heap.size, 0, none⟩) HZ10.out).trans d0; have e1 := (HB11.out.cell (p := ⟨w.heap.size, 1, none⟩) HZ10.out).trans d1; have e2 := (HB11.out.cell (p := ⟨w.heap.size, 2, none⟩) HZ10.out).trans d2; have r0 := (HB11.out.cell (p := ⟨b1, o1 + i * 6, none⟩) hb10).trans q0; have r1 := (HB11.out.cell (p := ⟨b1, o1 + i * 6 + 1, none⟩) hb10).trans q1; have r2 := (HB11.out.cell (p := ⟨b1, o1 + i * 6 + 2, none⟩) hb10).trans q2; have r3 := (HB11.out.cell (p := ⟨b1, o1 + i * 6 + 3, none⟩) hb10).trans q3; have r4 := (HB11.out.cell (p := ⟨b1, o1 + i * 6 + 4, none⟩) hb10).trans q4; have r5 := (HB11.out.cell (p := ⟨b1, o1 + i * 6 + 5, none⟩) hb10).trans q5; clear ho11 hb11)))
          | (go_at_call 17; (first
            | (((with_reducible refine (ins_as v2 i n w11.heap.size p l ⟨T, R, K, key, val, N⟩ (w11.alloc (.cells #[.int .i64 T, .int .i64 R, .int .i64 K, .string key, .string val, .int .i64 N] 41)) w10.heap.size (HO11.out.alloc _) HN.out hin HN7.out (wrBlk_new w11 T R K key val N) (fun e => by have := (HO11.out.lt _ e).2; omega) (by have := HB11.out.size; simp; omega) HPL.out).mono ?_)); rintro r w12 ⟨a3, c3, rfl, hu12, hk12, hb12⟩; have HB12 : Hid (Below w10.heap.size w10 w12) := Lib.hid ((HB11.out.alloc HB11.out.size _).trans hb12); have HU12 := Lib.hid hu12; have HUQ : Hid (Value.ownBlock (.slice a3 p c3) ≠ some Q) := Lib.hid (fun e => by have := hk12 _ e; have := HSQ.out; omega); have s5 := (HB12.out.cell (p := ⟨Q, 2, none⟩) HSQ.out).trans HC10.out.2.2; have s6 := (HB12.out.frozen (p := ⟨Q, 2, none⟩) HSQ.out).trans HG10.out; clear hu12 hk12 hb12)
            | (((with_reducible refine (ins_as v2 i n w10.heap.size p l ⟨T, R, K, key, val, N⟩ w11 w10.heap.size (HO11.out.mono (Nat.le_succ _)) HN.out hin HN7.out HK11.out (fun e => by have := (HO11.out.lt _ e).1; omega) (by have := HB11.out.size; omega) HPL.out).mono ?_)); rintro r w12 ⟨a3, c3, rfl, hu12, hk12, hb12⟩; have HB12 : Hid (Below w10.heap.size w10 w12) := Lib.hid (HB11.out.trans hb12); have HU12 := Lib.hid hu12; have HUQ : Hid (Value.ownBlock (.slice a3 p c3) ≠ some Q) := Lib.hid (fun e => by have := hk12 _ e; have := HSQ.out; omega); have s5 := (HB12.out.cell (p := ⟨Q, 2, none⟩) HSQ.out).trans HC10.out.2.2; have s6 := (HB12.out.frozen (p := ⟨Q, 2, none⟩) HSQ.out).trans HG10.out; clear hu12 hk12 hb12))))
        all_goals
          obtain ⟨w13, hw13⟩ : ∃ x, x = w12.setCell ⟨Q, 2, none⟩ (.slice a3 p c3) := ⟨_, rfl⟩
          rw [← hw13]
          have HC13 : Hid (batAt w13 Q (.slice af nf cf) (.slice ah nh ch) (.slice a3 p c3)) := Lib.hid (by rw [hw13]; exact (HC10.out.below HB12.out HSQ.out).put _)
          have HA13 : Hid (batAt w13 P (.slice af nf cf) (.slice ah nh ch) (.slice ua (i + (n - q)) uc)) := Lib.hid (by rw [hw13]; exact (HA10.out.below HB12.out HSP.out).set _ HP7.out.symm)
          have HD13 : Hid (batAt w13 w.heap.size (.slice af nf cf) (.slice ah nh ch) (.slice (some ⟨b1, o1, none⟩) n cw)) := Lib.hid (by rw [hw13]; exact (HD10.out.below HB12.out HZ10.out).set _ HWQ.out)
          have HU13 : Hid (IsWrs w13 (.slice a3 p c3) (l.take i ++ ⟨T, R, K, key, val, N⟩ :: l.drop i)) := Lib.hid (by rw [hw13]; exact HU12.out.set _ HUQ.out)
          have HV13 : Hid (IsWrs w13 (.slice ua (i + (n - q)) uc) (l.take i ++ l.drop q)) := Lib.hid (by rw [hw13]; exact (HU10.out.below HB12.out).set _ HUC.out)
          have HB13 : Hid (Below W.heap.size W w13) := Lib.hid (by rw [hw13]; exact (HB10.out.trans (HB12.out.mono HB10.out.size)).setCell HQW.out _)
          have HS13 : Hid (P < w13.heap.size ∧ Q < w13.heap.size ∧ w.heap.size < w13.heap.size) := Lib.hid (by have h1 := HB12.out.size; have h2 := HSP.out; have h3 := HSQ.out; have h4 := HZ10.out; rw [hw13]; simp; omega)
          clear hw13
          obtain ⟨hf1, e, pl, hf2, hcase⟩ := less_facts HRB.out HTI.out HQI.out HN.out
          have HF1 := Lib.hid hf1
          have HF2 := Lib.hid hf2
          have HCS := Lib.hid hcase
          have HYQ : Hid (BatIs w13 (.slice af nf cf) (.slice ah nh ch) (.slice a3 p c3) f h (l.take i ++ ⟨T, R, K, key, val, N⟩ :: l.drop i)) := Lib.hid ((HX.out.below (HE.out _ HB13.out)).writes HU13.out (by have h1 := HN.out; have h2 := HN7.out; rw [List.length_append, List.length_take, List.length_cons, List.length_drop]; omega) (more_mem HTI.out))
          have HYP : Hid (BatIs w13 (.slice af nf cf) (.slice ah nh ch) (.slice ua (i + (n - q)) uc) f h (l.take i ++ l.drop q)) := Lib.hid ((HX.out.below (HE.out _ HB13.out)).writes HV13.out (by have h1 := HN.out; have h2 := HN7.out; rw [List.length_append, List.length_take, List.length_drop]; omega) less_mem)
          clear hf1 hf2 hcase
          obtain ⟨d0, d1, d2⟩ := HC13.out
          go_wp2_with fail
          refine (brightB_as _ _ _ f h _ e pl w13 HYQ.out (HG.out.below (HE.out _ HB13.out)) HF2.out).mono ?_
          rintro r w14 ⟨er, rfl, hat, hb14⟩
          have HB14 : Hid (Below W.heap.size W w14) := HB13.out.trans (hb14.mono HB13.out.size)
          have HB14b := Lib.hid hb14
          have HAT := Lib.hid hat
          clear hb14 hat d0 d1 d2
          go_wp2_with fail
          refine (tell_of2 er e pl w14 (HG.out.below (HE.out _ HB14.out)) HAT.out).mono ?_
          rintro r w15 ⟨rfl, hb15⟩
          have HB15 : Hid (Below W.heap.size W w15) := HB14.out.trans (hb15.mono HB14.out.size)
          have HB15b : Hid (Below w13.heap.size w13 w15) := HB14b.out.trans (hb15.mono HB14b.out.size)
          clear hb15
          obtain ⟨d0, d1, d2⟩ := HA13.out.below HB15b.out HS13.out.1
          go_wp2_with fail
          refine (brightB_as _ _ _ f h _ 0 (-1) w15 (HYP.out.below HB15b.out) (HG.out.below (HE.out _ HB15.out)) HF1.out).mono ?_
          rintro r w16 ⟨er2, rfl, hat2, hb16⟩
          obtain rfl := hat2.nil rfl
          have HB16 : Hid (Below W.heap.size W w16) := HB15.out.trans (hb16.mono HB15.out.size)
          have HB16b : Hid (Below w13.heap.size w13 w16) := HB15b.out.trans (hb16.mono HB15b.out.size)
          clear hb16 hat2 d0 d1 d2
          obtain ⟨d0, d1, d2⟩ := HD13.out.below HB16b.out HS13.out.2.2
          rcases HCS.out with ⟨rfl, h66⟩ | ⟨rfl, h66⟩
          · have h67 : ((n : Int) == 60) = true := by simp; omega
            go_wp2
            go_ret
            exact ⟨by first | rfl | simp, HE.out _ HB16.out⟩
          · go_wp2
            go_ret
            exact ⟨by first | rfl | simp, HE.out _ HB16.out⟩
end Go.Proofs.YtiipnifnejnhlaaDoor
