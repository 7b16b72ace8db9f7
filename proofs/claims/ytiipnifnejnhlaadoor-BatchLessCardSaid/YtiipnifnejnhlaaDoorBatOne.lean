/-
  The fact that the laws of batches ask first: 'one' and 'gathered'.
-/
import Derived.Test.YtiipnifnejnhlaaDoorBatBigK
import Derived.Test.YtiipnifnejnhlaaDoorBatSame
import Derived.KernelRfl
import Derived.Laws.Rows
import Derived.Deep.RegionHeld3
namespace Go.Proofs.YtiipnifnejnhlaaDoor
open Go.RowKit

def oneH : List Ent := [⟨3, 7⟩]
def oneW : List Wr := [⟨7, 3, 1, ⟨#[107]⟩, ⟨#[118]⟩, 0⟩]
theorem one_right : batF [] oneH oneW = (0, -1) := by decide +kernel
theorem one_state : batF oneH oneH oneW = (6, 0) := by decide +kernel
theorem one_same : sameV [] oneH oneW [] oneH oneW = true := sameV_self _ _ _
theorem one_other : sameV [] oneH oneW oneH oneH oneW = false := by decide +kernel
theorem one_ok : ∀ t ∈ oneW, WrOk t := by
  intro t ht
  simp only [oneW, List.mem_singleton] at ht
  subst ht
  refine ⟨by decide, by decide, ?_, ?_⟩
  · show (1 : Nat) ≤ _; decide
  · show (1 : Nat) ≤ _; decide
theorem ents_one {w : World} {B : Nat} {t : Ent} (h : w.heap[B]? = some (.cells #[.int .i64 t.rep, .int .i64 t.time] 70 (0, 0))) : IsEnts w (.slice (some ⟨B, 0, none⟩) 1 1) [t] := by
  refine .inr ⟨B, 0, 1, rfl, ⟨Nat.zero_lt_one, Nat.le_refl 1⟩, (Array.getElem?_eq_some_iff.1 h).1, fun j u hj => ?_⟩
  rw [Nat.zero_add, cell_of_row _ _ j _ _ (0, 0) h]
  simpa [entsC, entC] using hj
theorem bat_one {w : World} {P Q : Nat} (hp : w.heap[P]? = some (.cells #[.int .i64 3, .int .i64 7] 70 (0, 0))) (hq : w.heap[Q]? = some (.cells #[.int .i64 7, .int .i64 3, .int .i64 1, .string ⟨#[107]⟩, .string ⟨#[118]⟩, .int .i64 0] 41 (0, 0))) :
    BatIs w (.slice none 0 0) (.slice (some ⟨P, 0, none⟩) 1 1) (.slice (some ⟨Q, 0, none⟩) 1 1) [] oneH oneW :=
  ⟨IsEnts.nil _, ents_one hp, wrBlk_is hq, by decide, by decide, by decide, one_ok⟩

set_option maxRecDepth 100000 in
set_option maxHeartbeats 4000000 in
theorem one_any (w : World) : Calls Tryd.prog 37 #[] w fun e w' => ∃ P Q, e = .returned (.agg #[.slice none 0 0, .slice (some ⟨P, 0, none⟩) 1 1, .slice (some ⟨Q, 0, none⟩) 1 1]) ∧ BatIs w' (.slice none 0 0) (.slice (some ⟨P, 0, none⟩) 1 1) (.slice (some ⟨Q, 0, none⟩) 1 1) [] oneH oneW ∧ Below w.heap.size w w' := by
  go_enter Tryd.func37, Tryd.ntmps37
  go_wp2
  refine bodyPost_ret (v := .agg #[.slice none 0 0, .slice (some ⟨w.heap.size + 1, 0, none⟩) 1 1, .slice (some ⟨w.heap.size + 1 + 1, 0, none⟩) 1 1]) (by simp [results, Tryd.results37, go_sem]) rfl ?_
  refine ⟨_, _, rfl, bat_one ?_ ?_, (((Below.refl _ _).alloc (Nat.le_refl _) _).alloc (by simp) _).alloc (by simp; omega) _⟩
  · have h := heap_alloc2_old (w.alloc (.cells #[.slice none 0 0, .slice (some ⟨w.heap.size + 1, 0, none⟩) 1 1, .slice (some ⟨w.heap.size + 1 + 1, 0, none⟩) 1 1] 25)) (.cells #[.int .i64 3, .int .i64 7] 70) (.cells #[.int .i64 7, .int .i64 3, .int .i64 1, .string ⟨#[107]⟩, .string ⟨#[118]⟩, .int .i64 0] 41)
    rw [World.size_alloc] at h
    exact h
  · have h := heap_alloc2_new (w.alloc (.cells #[.slice none 0 0, .slice (some ⟨w.heap.size + 1, 0, none⟩) 1 1, .slice (some ⟨w.heap.size + 1 + 1, 0, none⟩) 1 1] 25)) (.cells #[.int .i64 3, .int .i64 7] 70) (.cells #[.int .i64 7, .int .i64 3, .int .i64 1, .string ⟨#[107]⟩, .string ⟨#[118]⟩, .int .i64 0] 41)
    rw [World.size_alloc] at h
    exact h

/-- Two batches' cells, in two blocks. -/
def two2 (w : World) (B C : Nat) (a b c d e g : Value) : Prop :=
  w.cell? ⟨B, 0, none⟩ = some a ∧ w.cell? ⟨B, 1, none⟩ = some b ∧ w.cell? ⟨B, 2, none⟩ = some c ∧ w.cell? ⟨C, 0, none⟩ = some d ∧ w.cell? ⟨C, 1, none⟩ = some e ∧ w.cell? ⟨C, 2, none⟩ = some g
theorem two2.below {w w' : World} {B C : Nat} {a b c d e g : Value} {m : Nat} (h : two2 w B C a b c d e g) (hb : Below m w w') (hm : B < m) (hm2 : C < m) : two2 w' B C a b c d e g :=
  ⟨(hb.cell hm).trans h.1, (hb.cell hm).trans h.2.1, (hb.cell hm).trans h.2.2.1, (hb.cell hm2).trans h.2.2.2.1, (hb.cell hm2).trans h.2.2.2.2.1, (hb.cell hm2).trans h.2.2.2.2.2⟩
theorem two2_of {w : World} {B C : Nat} {a b c d e g : Value} (h1 : batAt w B a b c) (h2 : batAt w C d e g) : two2 w B C a b c d e g := ⟨h1.1, h1.2.1, h1.2.2, h2⟩

theorem brightB_as (vf vh vw : Value) (f h : List Ent) (l : List Wr) (e : Nat) (pl : Int) (w : World) (hx : BatIs w vf vh vw f h l) (hg : errT w) (hb : batF f h l = (e, pl)) :
    Calls Tryd.prog 10 #[.agg #[vf, vh, vw]] w (VRightIs w (e, pl)) := by
  rw [← hb]; exact brightB vf vh vw f h l w hx hg

set_option maxRecDepth 100000 in
set_option maxHeartbeats 8000000 in
theorem gathered_any (w : World) (hg : errT w) : Calls Tryd.prog 12 #[] w fun e w' => e = .returned (.bool true) ∧ Below w.heap.size w w' := by
  have HG := Lib.hid hg
  clear hg
  go_enter Tryd.func12, Tryd.ntmps12
  go_wp2_with fail
  refine (one_any _).mono ?_
  rintro r w1 ⟨P1, Q1, rfl, hx1, hb1⟩
  have HX1 := Lib.hid hx1
  have HB1 := Lib.hid hb1
  clear hx1 hb1
  go_wp2_with fail
  refine (one_any _).mono ?_
  rintro r w2 ⟨P2, Q2, rfl, hx2, hb2⟩
  have hA1 : batAt w2 w1.heap.size (.slice none 0 0) (.slice (some ⟨P1, 0, none⟩) 1 1) (.slice (some ⟨Q1, 0, none⟩) 1 1) := (batAt_new w1 _ _ _ 25).below hb2 (by simp)
  have HA1 := Lib.hid hA1
  have HX1b := Lib.hid ((HX1.out.alloc (.cells #[.slice none 0 0, .slice (some ⟨P1, 0, none⟩) 1 1, .slice (some ⟨Q1, 0, none⟩) 1 1] 25)).below hb2)
  have HX2 := Lib.hid hx2
  have HB2 : Hid (Below w.heap.size w w2) := Lib.hid ((HB1.out.alloc HB1.out.size _).trans (hb2.mono (by have := HB1.out.size; simp; omega)))
  have HZ2 : Hid (w1.heap.size < w2.heap.size) := Lib.hid (by have := hb2.size; simp at this; exact this)
  clear hx2 hb2 hA1
  go_wp2
  have HA : Hid (two2 (w2.alloc (.cells #[.slice (some ⟨P2, 0, none⟩) 1 1, .slice (some ⟨P2, 0, none⟩) 1 1, .slice (some ⟨Q2, 0, none⟩) 1 1] 25)) w1.heap.size w2.heap.size (.slice none 0 0) (.slice (some ⟨P1, 0, none⟩) 1 1) (.slice (some ⟨Q1, 0, none⟩) 1 1) (.slice (some ⟨P2, 0, none⟩) 1 1) (.slice (some ⟨P2, 0, none⟩) 1 1) (.slice (some ⟨Q2, 0, none⟩) 1 1)) := Lib.hid (two2_of (HA1.out.below ((Below.refl _ _).alloc (Nat.le_refl _) _) HZ2.out) (batAt_new _ _ _ _ _))
  have HX : Hid (BatIs (w2.alloc (.cells #[.slice (some ⟨P2, 0, none⟩) 1 1, .slice (some ⟨P2, 0, none⟩) 1 1, .slice (some ⟨Q2, 0, none⟩) 1 1] 25)) (.slice none 0 0) (.slice (some ⟨P1, 0, none⟩) 1 1) (.slice (some ⟨Q1, 0, none⟩) 1 1) [] oneH oneW) := Lib.hid (HX1b.out.alloc _)
  have HY : Hid (BatIs (w2.alloc (.cells #[.slice (some ⟨P2, 0, none⟩) 1 1, .slice (some ⟨P2, 0, none⟩) 1 1, .slice (some ⟨Q2, 0, none⟩) 1 1] 25)) (.slice (some ⟨P2, 0, none⟩) 1 1) (.slice (some ⟨P2, 0, none⟩) 1 1) (.slice (some ⟨Q2, 0, none⟩) 1 1) oneH oneH oneW) := Lib.hid ((show BatIs w2 (.slice (some ⟨P2, 0, none⟩) 1 1) (.slice (some ⟨P2, 0, none⟩) 1 1) (.slice (some ⟨Q2, 0, none⟩) 1 1) oneH oneH oneW from ⟨HX2.out.2.1, HX2.out.2.1, HX2.out.2.2.1, by decide, by decide, by decide, one_ok⟩).alloc _)
  have HW0 : Hid (Below w.heap.size w (w2.alloc (.cells #[.slice (some ⟨P2, 0, none⟩) 1 1, .slice (some ⟨P2, 0, none⟩) 1 1, .slice (some ⟨Q2, 0, none⟩) 1 1] 25))) := Lib.hid (HB2.out.alloc HB2.out.size _)
  have HZB : Hid (w1.heap.size < (w2.alloc (.cells #[.slice (some ⟨P2, 0, none⟩) 1 1, .slice (some ⟨P2, 0, none⟩) 1 1, .slice (some ⟨Q2, 0, none⟩) 1 1] 25)).heap.size) := Lib.hid (by have := HZ2.out; simp; omega)
  have HZC : Hid (w2.heap.size < (w2.alloc (.cells #[.slice (some ⟨P2, 0, none⟩) 1 1, .slice (some ⟨P2, 0, none⟩) 1 1, .slice (some ⟨Q2, 0, none⟩) 1 1] 25)).heap.size) := Lib.hid (by simp)
  clear HA1 HX1 HX1b HX2 HB1 HB2 HZ2
  generalize w2.alloc (.cells #[.slice (some ⟨P2, 0, none⟩) 1 1, .slice (some ⟨P2, 0, none⟩) 1 1, .slice (some ⟨Q2, 0, none⟩) 1 1] 25) = W at HA HX HY HW0 HZB HZC ⊢
  generalize w1.heap.size = B at HA HZB ⊢
  generalize w2.heap.size = C at HA HZC ⊢
  have HB0 : Hid (Below W.heap.size W W.drew) := Lib.hid (Below.refl _ _).drew
  have HE : Hid (∀ w', Below W.heap.size W w' → Below w.heap.size w w') := Lib.hid (fun w' hx => HW0.out.trans (hx.mono HW0.out.size))
  have hA0 := HA.out
  unfold two2 at hA0
  go_region_held3 (fun w' => w'.cell? ⟨B, 0, none⟩ = some (.slice none 0 0) ∧ w'.cell? ⟨B, 1, none⟩ = some (.slice (some ⟨P1, 0, none⟩) 1 1) ∧ w'.cell? ⟨B, 2, none⟩ = some (.slice (some ⟨Q1, 0, none⟩) 1 1) ∧ w'.cell? ⟨C, 0, none⟩ = some (.slice (some ⟨P2, 0, none⟩) 1 1) ∧ w'.cell? ⟨C, 1, none⟩ = some (.slice (some ⟨P2, 0, none⟩) 1 1) ∧ w'.cell? ⟨C, 2, none⟩ = some (.slice (some ⟨Q2, 0, none⟩) 1 1)) (first | exact hA0 | exact k1 | exact k2 | exact k3 | exact k4 | exact k5 | exact k6 | fail) (first
    | (go_at_call 10; ((with_reducible refine (brightB_as _ _ _ [] oneH oneW 0 (-1) W.drew (HX.out.below HB0.out) (HG.out.below (HE.out _ HB0.out)) one_right).mono ?_); rintro r w3 ⟨err, rfl, hat, hb3⟩; have HB3 : Hid (Below W.heap.size W w3) := Lib.hid (undrew3 hb3); obtain rfl := hat.nil rfl; have k1 := HA.out.below HB3.out HZB.out HZC.out; unfold two2 at k1; clear hb3 hat))
    | (go_at_call 10; ((with_reducible refine (brightB_as _ _ _ oneH oneH oneW 6 0 w3 (HY.out.below HB3.out) (HG.out.below (HE.out _ HB3.out)) one_state).mono ?_); rintro r w4 ⟨err, rfl, hat, hb4⟩; have HB4 : Hid (Below W.heap.size W w4) := HB3.out.trans (hb4.mono HB3.out.size); have HER := Lib.hid (hat.isErr (by decide)); obtain ⟨t, u, rfl⟩ := hat.iface (by decide); have k2 := HA.out.below HB4.out HZB.out HZC.out; unfold two2 at k2; clear hb4 hat))
    | (go_at_call 18; ((with_reducible refine (tell_err _ _ w4 (HG.out.below (HE.out _ HB4.out)) HER.out).mono ?_); rintro r w5 ⟨rfl, hb5⟩; have HB5 : Hid (Below W.heap.size W w5) := HB4.out.trans (hb5.mono HB4.out.size); have k3 := HA.out.below HB5.out HZB.out HZC.out; unfold two2 at k3; clear hb5))
    | (go_at_call 37; ((with_reducible refine (one_any w5).mono ?_); rintro r w6 ⟨P3, Q3, rfl, hx6, hb6⟩; have HX6 := Lib.hid hx6; have HB6 : Hid (Below W.heap.size W w6) := HB5.out.trans (hb6.mono HB5.out.size); have k4 := HA.out.below HB6.out HZB.out HZC.out; unfold two2 at k4; clear hb6 hx6))
    | (go_at_call 23; ((with_reducible refine (bsame_as _ _ _ _ _ _ [] oneH oneW [] oneH oneW true w6 (HX.out.below HB6.out) HX6.out one_same).mono ?_); rintro r w7 ⟨rfl, hb7⟩; have HB7 : Hid (Below W.heap.size W w7) := HB6.out.trans (hb7.mono HB6.out.size); have k5 := HA.out.below HB7.out HZB.out HZC.out; unfold two2 at k5; clear hb7))
    | (go_at_call 23; ((with_reducible refine (bsame_as _ _ _ _ _ _ [] oneH oneW oneH oneH oneW false w7 (HX.out.below HB7.out) (HY.out.below HB7.out) one_other).mono ?_); rintro r w8 ⟨rfl, hb8⟩; have HB8 : Hid (Below W.heap.size W w8) := HB7.out.trans (hb8.mono HB7.out.size); have k6 := HA.out.below HB8.out HZB.out HZC.out; unfold two2 at k6; clear hb8))
    | fail)
  go_wp2
  go_ret
  exact ⟨rfl, HE.out _ HB8.out⟩
end Go.Proofs.YtiipnifnejnhlaaDoor
