/-
  The walk of 'packtrainlaw.MatchTexts'.
-/
import Derived.Test.YtoimmdkfgepdeaaDoorMatchRefText
import Derived.Test.YtoimmdkfgepdeaaDoorPlace
import Derived.Deep.RegionHeld3
namespace Go.Proofs.YtoimmdkfgepdeaaDoor
open Go.RowKit

/-- 'heavy' answers one or the other. -/
def HeavyIs (w : World) (e : Ending) (w' : World) : Prop := ∃ b : Bool, e = .returned (.bool b) ∧ Below w.heap.size w w'

set_option maxRecDepth 100000 in
set_option maxHeartbeats 2000000 in
theorem heavy_any (v : Value) (l : List Tok) (w : World) (hv : IsToks w v l) (hl : l.length ≤ 9223372036854775807) :
    Calls Tryd.prog 4 #[v] w (HeavyIs w) := by
  obtain ⟨a1, c1, rfl, f1⟩ := hv.form
  have F1 := Lib.hid f1
  obtain ⟨n, hn⟩ : ∃ n, n = l.length := ⟨_, rfl⟩
  rw [← hn] at hl ⊢
  have HN := Lib.hid hn
  clear hv f1 hn
  go_enter Tryd.func4, Tryd.ntmps4
  go_wp2
  go_loopw [3, 10] (fun s i wr => ∃ (k : Nat) (x : Int), k ≤ n ∧ i = .int .i64 k ∧ s = .int .i64 x ∧ Below w.heap.size w wr) (fun _ i _ => n - (intOf i).toNat)
  case atStart => exact ⟨0, n, by omega, rfl, rfl, Below.refl _ _⟩
  case round =>
    obtain ⟨k, x, hk, rfl, rfl, hbel⟩ := hrel
    have HB := Lib.hid hbel
    have hzr := hbel.size
    clear hbel
    by_cases hlt : k < n
    · obtain ⟨t, ht⟩ : ∃ t, l[k]? = some t := ⟨l[k]'(by have := HN.out; omega), List.getElem?_eq_getElem _⟩
      obtain ⟨b1, o1, rfl, hb1, p0, p1, p2⟩ := F1.out k t ht
      obtain ⟨own, back, size⟩ := t
      simp only at p0 p1 p2
      have q0 := (HB.out.cell (p := ⟨b1, o1 + k * 3, none⟩) hb1).trans p0
      have q1 := (HB.out.cell (p := ⟨b1, o1 + k * 3 + 1, none⟩) hb1).trans p1
      have q2 := (HB.out.cell (p := ⟨b1, o1 + k * 3 + 2, none⟩) hb1).trans p2
      clear p0 p1 p2 ht
      go_wp2
      go_roundw
      case rel => exact ⟨k + 1, _, by omega, by go_num, rfl, HB.out.alloc hzr _⟩
      case measure => simp [intOf]; omega
    · go_wp2
      all_goals
        go_ret
        exact ⟨_, rfl, HB.out⟩

theorem atIs.place {w : World} {v : Value} {e : Nat} {pl : Int} (h : atIs w v (e, pl)) : placeIs w v e pl := by
  rcases h with ⟨h1, h2⟩ | ⟨_, b, h1, _, h3, h4⟩
  · simp only [Prod.mk.injEq] at h1
    exact .inl ⟨h2, by omega, h1.2⟩
  · exact .inr (.inr ⟨b, 0, h1, h3, h4⟩)

theorem undrew3 {w w' : World} (h : Below w.drew.heap.size w.drew w') : Below w.heap.size w w' := ((Below.refl _ _).drew).trans h

set_option maxRecDepth 100000 in
set_option maxHeartbeats 4000000 in
theorem matchTexts_walk (w : World) (a : Option Addr) (len cap : Nat) (l : List Tok) (hv : IsToks w (.slice a len cap) l) (hn : l.length = len) (hc : len ≤ cap) (hm : cap ≤ maxLen) (hz : ∀ t ∈ l, t.own.size ≤ 140737488351232) (hg : errT w) :
    Calls Tryd.prog 3 #[.slice a len cap] w fun e w' => e = .returned (.bool true) ∧ Below w.heap.size w w' := by
  unfold maxLen at hm
  have HV := Lib.hid hv
  have HZ := Lib.hid hz
  have HG := Lib.hid hg
  have HLL : Hid (l.length ≤ 9223372036854775807) := by have h : l.length ≤ 9223372036854775807 := by omega
                                                        exact h
  obtain ⟨e, pl, hr⟩ : ∃ e pl, rightF l 0 0 = (e, pl) := ⟨_, _, rfl⟩
  have HR := Lib.hid hr
  have HFV : Hid (faultV (rightF l 0 0) = .agg #[.int .i64 e, .int .i64 pl]) := by
    have h : faultV (rightF l 0 0) = .agg #[.int .i64 e, .int .i64 pl] := by rw [hr]; rfl
    exact h
  obtain ⟨T, hT⟩ : ∃ T : ByteArray, ⟨(textF l).toArray⟩ = T := ⟨_, rfl⟩
  have HT := Lib.hid hT
  clear hv hz hg hr hn hT
  go_enter Tryd.func3, Tryd.ntmps3
  go_wp2_with fail
  refine (heavy_any _ l _ HV.out HLL.out).mono ?_
  rintro r w1 ⟨b, rfl, hb1⟩
  have HB1 := Lib.hid hb1
  have HV1 := Lib.hid (HV.out.below hb1)
  have HG1 := Lib.hid (HG.out.below hb1)
  clear hb1
  cases b with
  | true =>
    go_wp2
    go_ret
    exact ⟨rfl, HB1.out⟩
  | false =>
    go_wp2_with fail
    refine (rtext_any _ l _ HV1.out HLL.out HZ.out).mono ?_
    rintro r w2 ⟨rfl, hb2⟩
    rw [HFV.out, HT.out]
    have HB2 : Hid (Below w.heap.size w w2) := HB1.out.trans (hb2.mono HB1.out.size)
    have HV2 := Lib.hid ((HV1.out.below hb2).alloc (.cells #[.int .i64 e, .int .i64 pl] 26))
    have HG2 := Lib.hid ((HG1.out.below hb2).alloc (.cells #[.int .i64 e, .int .i64 pl] 26))
    clear hb2
    go_wp2_with fail
    refine (text_any _ l _ HV2.out HLL.out HZ.out).mono ?_
    rintro r w3 ⟨err, rfl, hat, hb3⟩
    rw [HT.out]
    rw [HR.out] at hat
    have HP3 := Lib.hid hat.place
    have hlt3 : w2.heap.size < (w2.alloc (.cells #[.int .i64 e, .int .i64 pl] 26)).heap.size := by simp
    have u0 : w3.cell? ⟨w2.heap.size, 0, none⟩ = some (.int .i64 e) := (hb3.cell hlt3).trans (by simp)
    have u1 : w3.cell? ⟨w2.heap.size, 1, none⟩ = some (.int .i64 pl) := (hb3.cell hlt3).trans (by simp)
    have HB3 : Hid (Below w.heap.size w w3) := (HB2.out.alloc HB2.out.size _).trans (hb3.mono (by simp; have := HB2.out.size; omega))
    have HV3 := Lib.hid (HV2.out.below hb3)
    have HG3 := Lib.hid (HG2.out.below hb3)
    have HLT : Hid (w2.heap.size < w3.heap.size) := Nat.lt_of_lt_of_le hlt3 hb3.size
    clear hat hb3 hlt3
    have HG3d : Hid (errT w3.drew) := by have h : errT w3.drew := HG3.out
                                         exact h
    have HP3d : Hid (placeIs w3.drew err e pl) := by have h : placeIs w3.drew err e pl := HP3.out
                                                     exact h
    go_wp2
    go_region_held3 (fun w' => w'.cell? ⟨w2.heap.size, 0, none⟩ = some (.int .i64 e) ∧ w'.cell? ⟨w2.heap.size, 1, none⟩ = some (.int .i64 pl)) (first | exact ⟨u0, u1⟩ | exact ⟨c40, c41⟩ | exact ⟨c50, c51⟩ | exact ⟨c60, c61⟩) (first | (go_at_call 7; (with_reducible refine (placed_ok err e pl w3.drew HG3d.out HP3d.out).mono ?_); rintro r w4 ⟨rfl, hb4⟩; have c40 : w4.cell? ⟨w2.heap.size, 0, none⟩ = some (.int .i64 e) := (hb4.cell HLT.out).trans u0; have c41 : w4.cell? ⟨w2.heap.size, 1, none⟩ = some (.int .i64 pl) := (hb4.cell HLT.out).trans u1; have HB4 : Hid (Below w3.heap.size w3 w4) := undrew3 hb4; clear hb4) | (go_at_call 7; (with_reducible refine (placed_ok err e pl w3 HG3.out HP3.out).mono ?_); rintro r w4 ⟨rfl, hb4⟩; have c40 : w4.cell? ⟨w2.heap.size, 0, none⟩ = some (.int .i64 e) := (hb4.cell HLT.out).trans u0; have c41 : w4.cell? ⟨w2.heap.size, 1, none⟩ = some (.int .i64 pl) := (hb4.cell HLT.out).trans u1; have HB4 : Hid (Below w3.heap.size w3 w4) := hb4; clear hb4) | (go_at_call 8; (with_reducible refine (right_any _ l w4 (HV3.out.below HB4.out) HLL.out HZ.out).mono ?_); rintro r w5 ⟨err2, rfl, hat, hb5⟩; rw [HR.out] at hat; have HP5 := Lib.hid hat.place; have HG5 := Lib.hid ((HG3.out.below HB4.out).below hb5); have HLT4 : Hid (w2.heap.size < w4.heap.size) := Nat.lt_of_lt_of_le HLT.out HB4.out.size; have c50 : w5.cell? ⟨w2.heap.size, 0, none⟩ = some (.int .i64 e) := (hb5.cell HLT4.out).trans c40; have c51 : w5.cell? ⟨w2.heap.size, 1, none⟩ = some (.int .i64 pl) := (hb5.cell HLT4.out).trans c41; have HB5 : Hid (Below w3.heap.size w3 w5) := HB4.out.trans (hb5.mono HB4.out.size); clear hb5 hat) | (go_at_call 7; (with_reducible refine (placed_ok err2 e pl w5 HG5.out HP5.out).mono ?_); rintro r w6 ⟨rfl, hb6⟩; have HLT5 : Hid (w2.heap.size < w5.heap.size) := Nat.lt_of_lt_of_le HLT.out HB5.out.size; have c60 : w6.cell? ⟨w2.heap.size, 0, none⟩ = some (.int .i64 e) := (hb6.cell HLT5.out).trans c50; have c61 : w6.cell? ⟨w2.heap.size, 1, none⟩ = some (.int .i64 pl) := (hb6.cell HLT5.out).trans c51; have HB6 : Hid (Below w.heap.size w w6) := HB3.out.trans ((HB5.out.trans (hb6.mono HB5.out.size)).mono HB3.out.size); clear hb6))
    all_goals
      go_wp2
      go_ret
      exact ⟨rfl, HB6.out⟩
end Go.Proofs.YtoimmdkfgepdeaaDoor
