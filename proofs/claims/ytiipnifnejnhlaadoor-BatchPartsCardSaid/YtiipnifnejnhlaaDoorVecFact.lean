/-
  The facts that the laws ask first: 'few' and 'known'.
-/
import Derived.Test.YtiipnifnejnhlaaDoorVecJoin
import Derived.Test.YtiipnifnejnhlaaDoorVecCov
import Derived.Test.YtiipnifnejnhlaaDoorVecWrite
import Derived.Test.YtiipnifnejnhlaaDoorEntEq
import Derived.Test.YtiipnifnejnhlaaDoorRuns
namespace Go.Proofs.YtiipnifnejnhlaaDoor
open Go.RowKit

/-- All are right. -/
def allR (ls : List (List Ent)) : Bool := ls.all fun l => decide ((vrightF l).1 = 0)
theorem allR_drop {ls : List (List Ent)} {k : Nat} {l : List Ent} (h : ls[k]? = some l) : allR (ls.drop k) = (decide ((vrightF l).1 = 0) && allR (ls.drop (k + 1))) := by
  obtain ⟨hk, ht⟩ := List.getElem?_eq_some_iff.1 h
  rw [List.drop_eq_getElem_cons hk, ht]; rfl
theorem allR_iff {ls : List (List Ent)} : allR ls = true ↔ ∀ l ∈ ls, rightV l := by
  unfold allR
  rw [List.all_eq_true]
  exact ⟨fun h l hl => (vright_ok l).1 (by simpa using h l hl), fun h l hl => by simpa using (vright_ok l).2 (h l hl)⟩

set_option maxRecDepth 100000 in
set_option maxHeartbeats 2000000 in
theorem few_any (B n c : Nat) (vs : List Value) (ls : List (List Ent)) (w : World) (hn : vs.length = n) (hB : B < w.heap.size) (hrow : ∀ i v, vs[i]? = some v → w.cell? ⟨B, i, none⟩ = some v) (hare : areE w vs ls) (hl : ∀ l ∈ ls, l.length ≤ 9223372036854775807) (hnn : n ≤ 1000) :
    Calls Tryd.prog 20 #[.slice (some ⟨B, 0, none⟩) n c] w fun e w' => e = .returned (.bool (allR ls)) ∧ Below w.heap.size w w' := by
  have HA := Lib.hid hare
  have HR := Lib.hid hrow
  have HL := Lib.hid hl
  have HN := Lib.hid hn
  have HLL := Lib.hid (areE_len hare)
  clear hn hrow hare hl
  go_enter Tryd.func20, Tryd.ntmps20
  go_wp2
  go_loopw [7] (fun i wr => ∃ k : Nat, k ≤ n ∧ i = .int .i64 k ∧ allR ls = allR (ls.drop k) ∧ Below w.heap.size w wr) (fun i _ => n - (intOf i).toNat)
  case atStart => exact ⟨0, by omega, rfl, rfl, Below.refl _ _⟩
  case round =>
    obtain ⟨k, hk, rfl, heq, hbel⟩ := hrel
    have HEQ := Lib.hid heq
    have HB := Lib.hid hbel
    clear heq hbel
    by_cases hlt : k < n
    · obtain ⟨l, hls⟩ : ∃ l, ls[k]? = some l := ⟨ls[k]'(by have := HN.out; have := HLL.out; omega), List.getElem?_eq_getElem _⟩
      obtain ⟨v, hv, hi⟩ := areE_at HA.out hls
      have hd := allR_drop hls
      have hlm := HL.out l (List.mem_of_getElem? hls)
      have q0 := (HB.out.cell (p := ⟨B, k, none⟩) hB).trans (HR.out k v hv)
      have HI := Lib.hid hi
      have HLM := Lib.hid hlm
      obtain ⟨a, c2, rfl, _⟩ := hi.form
      obtain ⟨m, hm⟩ : ∃ m, m = l.length := ⟨_, rfl⟩
      rw [← hm] at q0 HI
      have HM := Lib.hid hm
      by_cases h16 : 16 < m
      · have HW : Hid (allR ls = false) := Lib.hid (show allR ls = false by
          have h4 : (vrightF l).1 = 4 := by unfold vrightF; rw [if_pos (by rw [← hm]; exact h16)]
          rw [HEQ.out, hd, decide_eq_false (by rw [h4]; decide), Bool.false_and])
        have h16' : 16 < (m : Int) := by omega
        clear hls hv hi hd hlm hm
        go_wp2
        go_ret
        exact ⟨by rw [HW.out]; rfl, HB.out⟩
      · have h16' : (m : Int) ≤ 16 := by omega
        by_cases h0 : (vrightF l).1 = 0
        · have HW : Hid (allR ls = allR (ls.drop (k + 1))) := Lib.hid (show allR ls = allR (ls.drop (k + 1)) by rw [HEQ.out, hd, decide_eq_true h0, Bool.true_and])
          have H0 := Lib.hid h0
          clear hls hv hi hd hlm hm h0
          go_wp2_with fail
          refine (vright_any _ l _ (HI.out.below HB.out) HLM.out).mono ?_
          rintro r w1 ⟨err, rfl, hat, hb1⟩
          obtain rfl := hat.nil H0.out
          have HB1 : Hid (Below w.heap.size w w1) := HB.out.trans (hb1.mono HB.out.size)
          clear hat hb1
          go_wp2
          go_roundw
          case rel => exact ⟨k + 1, by omega, by go_num, HW.out, HB1.out⟩
          case measure => simp [intOf]; omega
        · have HW : Hid (allR ls = false) := Lib.hid (show allR ls = false by rw [HEQ.out, hd, decide_eq_false h0, Bool.false_and])
          have H0 := Lib.hid h0
          clear hls hv hi hd hlm hm h0
          go_wp2_with fail
          refine (vright_any _ l _ (HI.out.below HB.out) HLM.out).mono ?_
          rintro r w1 ⟨err, rfl, hat, hb1⟩
          obtain ⟨t, u, rfl⟩ := hat.iface H0.out
          have HB1 : Hid (Below w.heap.size w w1) := HB.out.trans (hb1.mono HB.out.size)
          clear hat hb1
          go_wp2
          go_ret
          exact ⟨by rw [HW.out]; rfl, HB1.out⟩
    · have HW : Hid (allR ls = true) := Lib.hid (show allR ls = true by rw [HEQ.out, List.drop_eq_nil_of_le (by have := HN.out; have := HLL.out; omega)]; rfl)
      go_wp2
      go_ret
      exact ⟨by rw [HW.out]; rfl, HB.out⟩

/-- As its callers meet it: two, or three, in a row just made. -/
theorem few_three (va vb vc : Value) (a b c : List Ent) (x : Bool) (w : World) (ha : IsEnts w va a) (hb : IsEnts w vb b) (hc : IsEnts w vc c) (hla : a.length ≤ 9223372036854775807) (hlb : b.length ≤ 9223372036854775807) (hlc : c.length ≤ 9223372036854775807) (hx : allR [a, b, c] = x) :
    Calls Tryd.prog 20 #[.slice (some ⟨w.heap.size, 0, none⟩) 3 3] (w.alloc (.cells #[va, vb, vc] 22)) fun e w' => e = .returned (.bool x) ∧ Below w.heap.size w w' := by
  subst hx
  refine (few_any w.heap.size 3 3 [va, vb, vc] [a, b, c] _ rfl (by simp) ?_ ⟨ha.alloc _, hb.alloc _, hc.alloc _, trivial⟩ ?_ (by decide)).mono fun e w' ⟨h1, h2⟩ => ⟨h1, ((Below.refl _ _).alloc (Nat.le_refl _) _).trans (h2.mono (by simp))⟩
  · intro i v hv
    rw [cell_of_row _ _ i _ _ (0, 0) (heap_alloc_new w (.cells #[va, vb, vc] 22))]
    simpa using hv
  · intro l hl
    simp only [List.mem_cons, List.not_mem_nil, or_false] at hl
    rcases hl with rfl | rfl | rfl <;> assumption
theorem few_two (va vb : Value) (a b : List Ent) (x : Bool) (w : World) (ha : IsEnts w va a) (hb : IsEnts w vb b) (hla : a.length ≤ 9223372036854775807) (hlb : b.length ≤ 9223372036854775807) (hx : allR [a, b] = x) :
    Calls Tryd.prog 20 #[.slice (some ⟨w.heap.size, 0, none⟩) 2 2] (w.alloc (.cells #[va, vb] 22)) fun e w' => e = .returned (.bool x) ∧ Below w.heap.size w w' := by
  subst hx
  refine (few_any w.heap.size 2 2 [va, vb] [a, b] _ rfl (by simp) ?_ ⟨ha.alloc _, hb.alloc _, trivial⟩ ?_ (by decide)).mono fun e w' ⟨h1, h2⟩ => ⟨h1, ((Below.refl _ _).alloc (Nat.le_refl _) _).trans (h2.mono (by simp))⟩
  · intro i v hv
    rw [cell_of_row _ _ i _ _ (0, 0) (heap_alloc_new w (.cells #[va, vb] 22))]
    simpa using hv
  · intro l hl
    simp only [List.mem_cons, List.not_mem_nil, or_false] at hl
    rcases hl with rfl | rfl <;> assumption

/-- A row of entries that was written out. -/
theorem ents_lit {w : World} {B : Nat} {cs : Array Value} {l : List Ent} {n : Nat} (h : w.heap[B]? = some (.cells cs 70 (0, 0))) (hc : cs = (entsC l).toArray) (hn : l.length = n) (h0 : 0 < n) : IsEnts w (.slice (some ⟨B, 0, none⟩) n n) l := by
  subst hn
  refine .inr ⟨B, 0, l.length, rfl, ⟨h0, Nat.le_refl _⟩, (Array.getElem?_eq_some_iff.1 h).1, fun j u hj => ?_⟩
  rw [Nat.zero_add, cell_of_row _ _ j _ _ (0, 0) h, hc]
  simpa using hj

theorem vjoin_good (va vb : Value) (a b j : List Ent) (w : World) (ha : IsEnts w va a) (hb : IsEnts w vb b) (hla : a.length ≤ 9223372036854775807) (hlb : b.length ≤ 9223372036854775807) (hg : errT w) (hj : joinR a b = (0, j)) :
    Calls Tryd.prog 41 #[va, vb] w fun e w' => ∃ v, e = .returned (.tuple #[v, .nilIface]) ∧ IsEnts w' v j ∧ Below w.heap.size w w' :=
  (vjoin_any va vb a b w ha hb hla hlb hg).mono fun e w' ⟨v, h1, h2, h3⟩ => by
    rw [hj] at h1 h2
    exact ⟨v, h1, h2.is, h3⟩
theorem vjoin_bad (va vb : Value) (a b j : List Ent) (x : Nat) (w : World) (ha : IsEnts w va a) (hb : IsEnts w vb b) (hla : a.length ≤ 9223372036854775807) (hlb : b.length ≤ 9223372036854775807) (hg : errT w) (hj : joinR a b = (x, j)) (hx : x ≠ 0) :
    Calls Tryd.prog 41 #[va, vb] w fun e w' => ∃ v, e = .returned (.tuple #[v, .iface 31 (.int .i64 (x : Nat))]) ∧ IsEnts w' v j ∧ Below w.heap.size w w' :=
  (vjoin_any va vb a b w ha hb hla hlb hg).mono fun e w' ⟨v, h1, h2, h3⟩ => by
    rw [hj] at h1 h2
    simp only at h1
    rw [noV_e hx] at h1
    exact ⟨v, h1, h2.is, h3⟩
theorem vwrite_good (v : Value) (l : List Ent) (T : ByteArray) (w : World) (hv : IsEnts w v l) (hl : l.length ≤ 9223372036854775807) (hr : rightV l) (hT : vwriteL l = T.data.toList) :
    Calls Tryd.prog 42 #[v] w fun e w' => e = .returned (.tuple #[.string T, .nilIface]) ∧ Below w.heap.size w w' :=
  (vwrite_any v l w hv hl).mono fun e w' ⟨err, h1, h2, h3⟩ => by
    have h0 := (vright_ok l).2 hr
    obtain rfl := h2.nil h0
    refine ⟨?_, h3⟩
    rw [h1, show vwriteF l = vwriteL l by unfold vwriteF; rw [if_pos h0], hT, bs_of]
theorem vcov_as (va vb : Value) (a b : List Ent) (x : Bool) (w : World) (ha : IsEnts w va a) (hb : IsEnts w vb b) (hla : a.length ≤ 9223372036854775807) (hlb : b.length ≤ 9223372036854775807) (hx : covB a b = x) :
    Calls Tryd.prog 21 #[va, vb] w fun r w' => r = .returned (.bool x) ∧ Below w.heap.size w w' := by
  subst hx; exact vcov_any va vb a b w ha hb hla hlb

def knownA : List Ent := [⟨1, 5⟩, ⟨2, 3⟩]
def knownB : List Ent := [⟨2, 9⟩, ⟨7, 1⟩]
def knownC : List Ent := [⟨1, 5⟩, ⟨2, 9⟩, ⟨7, 1⟩]
theorem known_join : joinR knownA knownB = (0, knownC) := by decide +kernel
theorem known_cov : covB knownA knownB = false := by decide +kernel
theorem known_right : (vrightF knownC).1 = 0 := by decide +kernel
theorem known_runs : runsL knownC = [[⟨1, 5⟩, ⟨2, 9⟩], [⟨7, 1⟩]] := by decide +kernel
theorem known_write : vwriteL knownC = [2, 1, 1, 5, 9, 3, 0, 1] := by
  unfold vwriteL
  rw [known_runs]
  simp only [runsB, runB, timesB, List.flatMap_cons, List.flatMap_nil, List.length_cons, List.length_nil, List.headD_cons, List.getLastD_cons]
  rw [putL_small (by decide), putL_small (by decide), putL_small (by decide), putL_small (by decide), putL_small (by decide), putL_small (by decide), putL_small (by decide), putL_small (by decide)]
  rfl

set_option maxRecDepth 100000 in
set_option maxHeartbeats 2000000 in
theorem known_any (w : World) (hg : errT w) : Calls Tryd.prog 19 #[] w fun e w' => e = .returned (.bool true) ∧ Below w.heap.size w w' := by
  have HG := Lib.hid hg
  clear hg
  go_enter Tryd.func19, Tryd.ntmps19
  go_wp2_with fail
  have hia : IsEnts (w.alloc (.cells #[.int .i64 1, .int .i64 5, .int .i64 2, .int .i64 3] 70)) (.slice (some ⟨w.heap.size, 0, none⟩) 2 2) knownA := ents_lit (heap_alloc_new w _) rfl rfl (by decide)
  have hib : IsEnts ((w.alloc (.cells #[.int .i64 1, .int .i64 5, .int .i64 2, .int .i64 3] 70)).alloc (.cells #[.int .i64 2, .int .i64 9, .int .i64 7, .int .i64 1] 70)) (.slice (some ⟨w.heap.size + 1, 0, none⟩) 2 2) knownB := by
    have h := ents_lit (heap_alloc_new (w.alloc (.cells #[.int .i64 1, .int .i64 5, .int .i64 2, .int .i64 3] 70)) (.cells #[.int .i64 2, .int .i64 9, .int .i64 7, .int .i64 1] 70)) (l := knownB) rfl rfl (by decide)
    rw [World.size_alloc] at h
    exact h
  have HIA := Lib.hid (hia.alloc (.cells #[.int .i64 2, .int .i64 9, .int .i64 7, .int .i64 1] 70))
  have HIB := Lib.hid hib
  have HB0 : Hid (Below w.heap.size w ((w.alloc (.cells #[.int .i64 1, .int .i64 5, .int .i64 2, .int .i64 3] 70)).alloc (.cells #[.int .i64 2, .int .i64 9, .int .i64 7, .int .i64 1] 70))) := Lib.hid (((Below.refl _ _).alloc (Nat.le_refl _) _).alloc (by simp) _)
  clear hia hib
  refine (vjoin_good _ _ knownA knownB knownC _ HIA.out HIB.out (by decide) (by decide) (HG.out.below HB0.out) known_join).mono ?_
  rintro r w1 ⟨v3, rfl, hi3, hb1⟩
  have HI3 := Lib.hid hi3
  have HIA1 := Lib.hid (HIA.out.below hb1)
  have HIB1 := Lib.hid (HIB.out.below hb1)
  have HB1 : Hid (Below w.heap.size w w1) := HB0.out.trans (hb1.mono (by simp; omega))
  clear hb1 hi3
  go_wp2_with fail
  refine (vwrite_good v3 knownC ⟨#[2, 1, 1, 5, 9, 3, 0, 1]⟩ _ HI3.out (by decide) ((vright_ok _).1 known_right) known_write).mono ?_
  rintro r w2 ⟨rfl, hb2⟩
  have HB2 : Hid (Below w.heap.size w w2) := HB1.out.trans (hb2.mono HB1.out.size)
  have HI32 := Lib.hid ((HI3.out.below hb2).alloc (.cells #[.int .i64 1, .int .i64 5, .int .i64 2, .int .i64 9, .int .i64 7, .int .i64 1] 70))
  have HIA2 := Lib.hid ((HIA1.out.below hb2).alloc (.cells #[.int .i64 1, .int .i64 5, .int .i64 2, .int .i64 9, .int .i64 7, .int .i64 1] 70))
  have HIB2 := Lib.hid ((HIB1.out.below hb2).alloc (.cells #[.int .i64 1, .int .i64 5, .int .i64 2, .int .i64 9, .int .i64 7, .int .i64 1] 70))
  have HIC : Hid (IsEnts (w2.alloc (.cells #[.int .i64 1, .int .i64 5, .int .i64 2, .int .i64 9, .int .i64 7, .int .i64 1] 70)) (.slice (some ⟨w2.heap.size, 0, none⟩) 3 3) knownC) := Lib.hid (ents_lit (heap_alloc_new w2 _) rfl rfl (by decide))
  have HB3 : Hid (Below w.heap.size w (w2.alloc (.cells #[.int .i64 1, .int .i64 5, .int .i64 2, .int .i64 9, .int .i64 7, .int .i64 1] 70))) := Lib.hid (HB2.out.alloc HB2.out.size _)
  clear hb2
  go_wp2_with fail
  refine (equal_same _ _ knownC _ HI32.out HIC.out (by decide)).mono ?_
  rintro r w' ⟨rfl, q, rfl⟩
  have HB4 := Lib.hid (below_drewq HB3.out q)
  have HI4 := Lib.hid (HI32.out.drewN q)
  have HIA4 := Lib.hid (HIA2.out.drewN q)
  have HIB4 := Lib.hid (HIB2.out.drewN q)
  obtain ⟨w4, hw4⟩ : ∃ w4, (w2.alloc (.cells #[.int .i64 1, .int .i64 5, .int .i64 2, .int .i64 9, .int .i64 7, .int .i64 1] 70)).drewN q = w4 := ⟨_, rfl⟩
  rw [hw4] at HB4 HI4 HIA4 HIB4 ⊢
  clear hw4
  go_wp2_with fail
  refine (vof_as _ knownC 2 9 _ HI4.out (by decide) (by decide +kernel)).mono ?_
  rintro r w5 ⟨rfl, hb5⟩
  have HB5 : Hid (Below w.heap.size w w5) := HB4.out.trans (hb5.mono HB4.out.size)
  have HIA5 := Lib.hid (HIA4.out.below hb5)
  have HIB5 := Lib.hid (HIB4.out.below hb5)
  clear hb5
  go_wp2_with fail
  refine (vcov_as _ _ knownA knownB false _ HIA5.out HIB5.out (by decide) (by decide) known_cov).mono ?_
  rintro r w6 ⟨rfl, hb6⟩
  have HB6 : Hid (Below w.heap.size w w6) := HB5.out.trans (hb6.mono HB5.out.size)
  clear hb6
  go_wp2
  go_ret
  exact ⟨by first | rfl | simp, HB6.out⟩
end Go.Proofs.YtiipnifnejnhlaaDoor
