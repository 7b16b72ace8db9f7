/-
  The walk of 'packtrainkeep.LogSince'.
-/
import Derived.Test.YtdhognaoejiglaaGreatDoorKb44
import Derived.Deep.RegionHeld3
import Derived.Test.YtdhognaoejiglaaGreatDoorKb13
import Derived.Test.YtdhognaoejiglaaGreatDoorKb10
import Derived.Test.YtdhognaoejiglaaGreatDoorKb08
import Derived.Test.YtdhognaoejiglaaGreatDoorKb16
import Derived.Test.YtdhognaoejiglaaGreatDoorKb06
namespace Go.Proofs.YtdhognaoejiglaaGreatDoor
open Go.RowKit

theorem nil_bat (w : World) : aC w (.slice none 0 0) (.slice none 0 0) (.slice none 0 0) [] [] [] :=
  ⟨ae.nil _, ae.nil _, (eK w 0).is, by simp, by simp, by simp, fun t h => by cases h⟩
/-- What a batch tells of is just what is within its vectors. -/
theorem within_is {s : LogS} (ok : aM s) {f h : List Ent} {b : List Wr} (ho : gC s f h b) : s.ws.filter (fun x => wiF (wid x) f h) = b :=
  kU (ok.srt.filter _) ho.srt (fun x => by
    rw [List.mem_filter, ho.mem x]
    unfold wiF wid
    simp)
theorem sinceE_no {s : LogS} {f : List Ent} {e : Nat} (he : bo s f = e) (h0 : e ≠ 0) : (aq f).1 ≠ 0 ∨ (aq f).1 = 0 ∧ covB s.hv f = false := by
  unfold bo at he
  split at he
  · rename_i h; exact .inl h
  · rename_i h
    split at he
    · rename_i h2; exact .inr ⟨Classical.byContradiction h, h2⟩
    · omega
theorem sinceE_yes {s : LogS} {f : List Ent} (he : bo s f = 0) : aB f ∧ covB s.hv f = true := by
  unfold bo at he
  split at he
  · rename_i h; exact absurd he h
  · rename_i h
    split at he
    · cases he
    · rename_i h2; exact ⟨(bO _).1 (Classical.byContradiction h), by simpa using h2⟩
theorem equalE_b (v1 v2 : Value) (l : List Ent) (w : World) (h1 : ae w v1 l) (h2 : ae w v2 l) (hl : l.length ≤ 9223372036854775807) :
    Calls Tryz.prog 29 #[v1, v2] w fun e w' => e = .returned (.bool true) ∧ Below w.heap.size w w' :=
  (kr v1 v2 l l true w h1 h2 hl hl (by simp)).mono fun _ _ ⟨h1, q, h2⟩ => ⟨h1, by rw [h2]; exact fW (Below.refl _ _) q⟩
theorem equalW_b (v1 v2 : Value) (l : List Wr) (w : World) (h1 : az w v1 l) (h2 : az w v2 l) (hl : l.length ≤ 9223372036854775807) :
    Calls Tryz.prog 24 #[v1, v2] w fun e w' => e = .returned (.bool true) ∧ Below w.heap.size w w' :=
  (mY v1 v2 l l true w h1 h2 hl hl (by simp)).mono fun _ _ ⟨h1, q, h2⟩ => ⟨h1, by rw [h2]; exact fW (Below.refl _ _) q⟩
theorem bright_nil (vf vh vw : Value) (f h : List Ent) (l : List Wr) (w : World) (hf : ae w vf f) (hh : ae w vh h) (hv : az w vw l) (hlf : f.length ≤ 9223372036854775807) (hlh : h.length ≤ 9223372036854775807) (hg : errT w) (hr : aY f h l) :
    Calls Tryz.prog 28 #[.agg #[vf, vh, vw]] w fun e w' => e = .returned .nilIface ∧ Below w.heap.size w w' := by
  refine (mJ vf vh vw f h l w hf hh hv hlf hlh (fun x hx => vS ((dX.1 hr).2.2.1 x hx).1) hg).mono ?_
  rintro e w' ⟨u, rfl, ha, hb⟩
  obtain rfl := ha.nil hr
  exact ⟨rfl, hb⟩
theorem vright_nilS (v : Value) (l : List Ent) (w : World) (hv : ae w v l) (hl : l.length ≤ 9223372036854775807) (hr : (aq l).1 = 0) :
    Calls Tryz.prog 20 #[v] w fun e w' => e = .returned .nilIface ∧ Below w.heap.size w w' := by
  refine (cC v l w hv hl).mono ?_
  rintro e w' ⟨u, rfl, ha, hb⟩
  obtain rfl := ha.nil hr
  exact ⟨rfl, hb⟩
theorem vright_some (v : Value) (l : List Ent) (w : World) (hv : ae w v l) (hl : l.length ≤ 9223372036854775807) (hr : (aq l).1 ≠ 0) :
    Calls Tryz.prog 20 #[v] w fun e w' => ∃ t u, e = .returned (.iface t u) ∧ Below w.heap.size w w' := by
  refine (cC v l w hv hl).mono ?_
  rintro e w' ⟨u, rfl, ha, hb⟩
  obtain ⟨t, x, rfl⟩ := ha.iface hr
  exact ⟨t, x, rfl, hb⟩
theorem filter_snoc {f h : List Ent} {l : List Wr} {k : Nat} {x : Wr} (hx : l[k]? = some x) :
    (l.take (k + 1)).filter (fun x => wiF (wid x) f h) = (l.take k).filter (fun x => wiF (wid x) f h) ++ (if wiF (wid x) f h = true then [x] else []) := by
  rw [List.take_add_one, hx]
  show (l.take k ++ [x]).filter _ = _
  rw [List.filter_append]
  by_cases hb : wiF (wid x) f h = true
  · simp [hb]
  · simp [hb]
set_option maxRecDepth 100000 in
set_option maxHeartbeats 16000000 in
theorem logSince_walk (W : World) (a0 : Int) (_h0 : -9223372036854775808 ≤ a0) (_h1 : a0 ≤ 9223372036854775807) (v : Value) (l : List Actn) (h : cV W v l) (hl : l.length ≤ 9223372036854775807) (hok : ∀ x ∈ l, WrOk x.w) (af : Option Addr) (nf cf : Nat) (f : List Ent) (hf : ae W (.slice af nf cf) f) (hnf : f.length = nf) (hcf : nf ≤ cf) (hmf : cf ≤ maxLen) (hg : errT W) :
    Calls Tryz.prog 5 #[.int .i64 a0, v, .slice af nf cf] W fun e w' => e = .returned (.bool true) ∧ Below W.heap.size W w' := by
  have HG := Lib.hid hg
  have HA := Lib.hid h
  have HOK := Lib.hid hok
  obtain ⟨q, hq⟩ : ∃ q : Nat, cK a0 5 = (q : Int) := ⟨(cK a0 5).toNat, by have := dW (a := a0) (n := 5) (by omega); omega⟩
  have hq5 : q < 5 := by have := dW (a := a0) (n := 5) (by omega); omega
  have HQ := Lib.hid hq
  obtain ⟨n, hn⟩ : ∃ n : Nat, n = 1 + q := ⟨_, rfl⟩
  have hn1 : (1 : Int) + (q : Int) = (n : Int) := by omega
  have hn2 : IntKind.i64.wrap ((1 : Int) + (q : Int)) = (n : Int) := by rw [hn1]; exact IntWalk.i64_in _ (by omega)
  have hn3 : 1 ≤ n ∧ n ≤ 5 := by omega
  have HN := Lib.hid hn3
  obtain ⟨hn4, hn5⟩ := hn3
  clear hq hn hq5 h hok hg
  have HF := Lib.hid hf
  have HNF := Lib.hid hnf
  have HFL : Hid (f.length ≤ 9223372036854775807) := Lib.hid (by unfold maxLen at hmf; omega)
  clear hf hnf hcf hmf
  by_cases hs : dZ l = true
  · have HS := Lib.hid hs
    clear hs
    go_enter Tryz.func5, Tryz.ntmps5
    go_wp2_with (first
      | (go_at_call 11; refine (gf W HG.out).mono ?_; rintro r w1 ⟨rfl, hb1⟩; have HB1 := Lib.hid hb1; clear hb1)
      | (go_at_call 12; refine (gj w1).mono ?_; rintro r w2 ⟨rfl, hb2⟩; have HB2 := Lib.hid (HB1.out.trans (hb2.mono HB1.out.size)); clear hb2)
      | (go_at_call 13; (with_reducible refine (gt _ l w2 (HA.out.below HB2.out) hl HOK.out true HS.out).mono ?_); rintro r w3 ⟨rfl, hb3⟩; have HB3 := Lib.hid (HB2.out.trans (hb3.mono HB2.out.size)); clear hb3)
      | (go_at_call 14; (with_reducible refine (eL a0 5 w3 (by omega) (by omega)).mono ?_); rintro r w4 ⟨rfl, rfl⟩; rw [HQ.out])
      | (go_at_call 15; (with_reducible refine (od n HN.out _ l w3 (HA.out.below HB3.out) HS.out HOK.out (HG.out.below HB3.out)).mono ?_); rintro r w5 ⟨g, c, L, U, rfl, hp⟩; have HP := Lib.hid hp; obtain ⟨P, s, hL, hg1, hc1⟩ := HP.out.cell (q := 0) (by have := HN.out; omega); have HL := Lib.hid hL; have HOKS := Lib.hid (HP.out.pt.logs.ok _ (List.mem_of_getElem? hL)); have HV16 : Hid (s.hv.length ≤ 16) := Lib.hid HOKS.out.hv.1; have HF5 := Lib.hid (HF.out.below (HB3.out.trans (HP.out.pt.logs.bel.mono HB3.out.size))); have HG5 := Lib.hid (HG.out.below (HB3.out.trans (HP.out.pt.logs.bel.mono HB3.out.size))); clear hp hL)
      | fail)
    by_cases he : bo s f = 0
    · obtain ⟨hrv, hcv⟩ := sinceE_yes he
      have hso := oD HOKS.out hrv hcv
      have hrb := oE HOKS.out hrv hso
      obtain ⟨sh, hsh⟩ : ∃ x, aT s f = x := ⟨_, rfl⟩
      obtain ⟨sb, hsb⟩ : ∃ x, aD s f = x := ⟨_, rfl⟩
      rw [hsh, hsb] at hso hrb
      obtain ⟨nh, hnh⟩ : ∃ m, m = sh.length := ⟨_, rfl⟩
      obtain ⟨nb, hnb⟩ : ∃ m, m = sb.length := ⟨_, rfl⟩
      obtain ⟨ns, hns⟩ : ∃ m, m = s.ws.length := ⟨_, rfl⟩
      obtain ⟨nv, hnv⟩ : ∃ m, m = s.hv.length := ⟨_, rfl⟩
      have HE := Lib.hid he
      have HSO := Lib.hid hso
      have HRB := Lib.hid hrb
      have HSH := Lib.hid hsh
      have HSB := Lib.hid hsb
      have HNH := Lib.hid hnh
      have HNB := Lib.hid hnb
      have HNS := Lib.hid hns
      have HNV := Lib.hid hnv
      have HCV : Hid (covB s.hv sh = true) := Lib.hid ((fu HOKS.out.hv hso.right).2 hso.hi)
      have HH16 : Hid (sh.length ≤ 16) := Lib.hid hso.right.1
      have HB60 : Hid (sb.length ≤ 60) := Lib.hid hso.len
      have hnb60 : nb ≤ 60 := by rw [hnb]; exact hso.len
      have hns3 : ns ≤ 300 := by rw [hns]; exact HOKS.out.len
      have HNS3 := Lib.hid hns3
      clear he hrv hcv hso hrb hsh hsb hnh hnb hns hnv
      go_wp2_with (first
        | (go_at_call 22; (with_reducible refine (fm HP.out.pt.logs HL.out _ f HF5.out HFL.out HG5.out HE.out nf nh nb sh sb HNF.out HSH.out HSB.out HNH.out.symm HNB.out.symm).mono ?_); rintro r w6 ⟨a1, c1, a2, c2, a3, c3, rfl, o1, o2, o3, hb6⟩; have HP6 := Lib.hid ((HP.out.keep hb6).keep ((Below.refl _ _).alloc (Nat.le_refl _) (.cells #[.slice a1 nf c1, .slice a2 nh c2, .slice a3 nb c3] 47))); have HB6 := Lib.hid (hb6.alloc hb6.size (.cells #[.slice a1 nf c1, .slice a2 nh c2, .slice a3 nb c3] 47)); have HR6 := Lib.hid (heap_alloc_new w6 (.cells #[.slice a1 nf c1, .slice a2 nh c2, .slice a3 nb c3] 47)); have HO1 := Lib.hid (o1.is.alloc (.cells #[.slice a1 nf c1, .slice a2 nh c2, .slice a3 nb c3] 47)); have HO2 := Lib.hid (o2.is.alloc (.cells #[.slice a1 nf c1, .slice a2 nh c2, .slice a3 nb c3] 47)); have HO3 := Lib.hid (o3.is.alloc (.cells #[.slice a1 nf c1, .slice a2 nh c2, .slice a3 nb c3] 47)); clear o1 o2 o3 hb6)
        | fail)
      obtain ⟨w7, hw7⟩ : ∃ w7, w7 = w6.alloc (.cells #[.slice a1 nf c1, .slice a2 nh c2, .slice a3 nb c3] 47) := ⟨_, rfl⟩
      rw [← hw7] at HP6 HB6 HR6 HO1 HO2 HO3 ⊢
      clear hw7
      obtain ⟨BB, hBB⟩ : ∃ b, b = w6.heap.size := ⟨_, rfl⟩
      rw [← hBB] at HR6 ⊢
      clear hBB
      go_wp2_with (first
        | (go_at_call 16; (with_reducible refine (iq HP6.out.pt.logs HL.out s.ws ns rfl HNS.out.symm).mono ?_); rintro r w8 ⟨a8, c8, rfl, o8, hb8⟩; have HP8 := Lib.hid (HP6.out.keep hb8); have HR8 := Lib.hid ((hb8.block _ (Array.getElem?_eq_some_iff.1 HR6.out).1).trans HR6.out); have HX1 := Lib.hid (HO1.out.below hb8); have HX2 := Lib.hid (HO2.out.below hb8); have HX3 := Lib.hid (HO3.out.below hb8); have HF8 := Lib.hid ((HF5.out.below HB6.out).below hb8); have HW8 := Lib.hid o8.is; clear o8 hb8)
        | fail)
      go_loopw [12, 64] (fun lv i wr => ∃ k : Nat, k ≤ ns ∧ i = .int .i64 k ∧ ak wr w8.heap.size lv ((s.ws.take k).filter (fun x => wiF (wid x) f sh)) ∧ Below w8.heap.size w8 wr) (fun _ i _ => ns - (intOf i).toNat)
      case atStart => exact ⟨0, by omega, rfl, by rw [List.take_zero]; exact eK _ _, Below.refl _ _⟩
      case round =>
        obtain ⟨k, hk, rfl, ho, hb⟩ := hrel
        have HO := Lib.hid ho
        have HB := Lib.hid hb
        have HSR := Lib.hid hb.size
        clear ho hb
        by_cases hlt : k < ns
        · have b1 : decide ((k : Int) < (ns : Int)) = true := by simpa using hlt
          obtain ⟨x, hx⟩ : ∃ x, s.ws[k]? = some x := ⟨_, List.getElem?_eq_getElem (by rw [← HNS.out]; exact hlt)⟩
          obtain ⟨a', c', e0, hff⟩ := HW8.out.form
          simp only [Value.slice.injEq] at e0
          obtain ⟨rfl, e1, e2⟩ := e0
          clear e1 e2
          obtain ⟨b, off, rfl, hbl, x0, x1, x2, x3, x4, x5⟩ := hff k x hx
          obtain ⟨L, hL⟩ : ∃ L, L = (s.ws.take k).filter (fun x => wiF (wid x) f sh) := ⟨_, rfl⟩
          have hts := filter_snoc (f := f) (h := sh) hx
          rw [← hL] at hts HO
          have HKL : Hid (L.length ≤ 300) := Lib.hid (by rw [hL]; have h1 := List.length_filter_le (fun x : Wr => wiF (wid x) f sh) (s.ws.take k); rw [List.length_take] at h1; omega)
          obtain ⟨z, hz⟩ : ∃ z, wiF (wid x) f sh = z := ⟨_, rfl⟩
          rw [hz] at hts
          obtain ⟨T, Re, K, key, val, N⟩ := x
          simp only at x0 x1 x2 x3 x4 x5
          have HZ : Hid (wiF (T, Re) f sh = z) := Lib.hid hz
          have HTS := Lib.hid hts
          have d : ∀ j u, w8.cell? ⟨b, j, none⟩ = some u → wr.cell? ⟨b, j, none⟩ = some u := fun j u hu => (HB.out.cell (p := ⟨b, j, none⟩) hbl).trans hu
          have e0 := d _ _ x0
          have e1 := d _ _ x1
          have e2 := d _ _ x2
          have e3 := d _ _ x3
          have e4 := d _ _ x4
          have e5 := d _ _ x5
          clear hx x0 x1 x2 x3 x4 x5 d hbl hL hz hts hff
          have hrB : (wr.alloc (.cells #[.int .i64 T, .int .i64 Re, .int .i64 K, .string key, .string val, .int .i64 N] 38)).heap[wr.heap.size]? = some (.cells #[.int .i64 T, .int .i64 Re, .int .i64 K, .string key, .string val, .int .i64 N] 38 (0, 0)) := heap_alloc_new _ _
          have HRB := Lib.hid hrB
          have HBB : Hid (Below w8.heap.size w8 (wr.alloc (.cells #[.int .i64 T, .int .i64 Re, .int .i64 K, .string key, .string val, .int .i64 N] 38))) := Lib.hid (HB.out.alloc HSR.out _)
          have HOB : Hid (ak (wr.alloc (.cells #[.int .i64 T, .int .i64 Re, .int .i64 K, .string key, .string val, .int .i64 N] 38)) w8.heap.size u12 L) := Lib.hid (HO.out.alloc _)
          have HSB : Hid (wr.heap.size < (wr.alloc (.cells #[.int .i64 T, .int .i64 Re, .int .i64 K, .string key, .string val, .int .i64 N] 38)).heap.size) := Lib.hid (by simp)
          have HFB := Lib.hid (HF8.out.below HBB.out)
          have HX2B := Lib.hid (HX2.out.below HBB.out)
          have y1 : (wr.alloc (.cells #[.int .i64 T, .int .i64 Re, .int .i64 K, .string key, .string val, .int .i64 N] 38)).cell? ⟨BB, 1, none⟩ = some (.slice a2 nh c2) := cell_of_row _ _ 1 _ _ _ ((HBB.out.block _ (Array.getElem?_eq_some_iff.1 HR8.out).1).trans HR8.out)
          have y2 : wr.cell? ⟨BB, 1, none⟩ = some (.slice a2 nh c2) := cell_of_row _ _ 1 _ _ _ ((HB.out.block _ (Array.getElem?_eq_some_iff.1 HR8.out).1).trans HR8.out)
          have y3 : BB < wr.heap.size := bg y2
          have y4 : ¬ BB = wr.heap.size := by omega
          clear hrB
          cases z with
          | true =>
            go_wp2_with (first
              | (go_at_call 27; (with_reducible refine (ii T Re (.slice af nf cf) (.slice a2 nh c2) f sh _ (wr.alloc (.cells #[.int .i64 T, .int .i64 Re, .int .i64 K, .string key, .string val, .int .i64 N] 38)) HFB.out HX2B.out HFL.out (Nat.le_trans HH16.out (by decide)) HZ.out).mono ?_); rintro r w2 ⟨rfl, hb2⟩; have HB2 := Lib.hid (HBB.out.trans (hb2.mono HBB.out.size)); have HO2 := Lib.hid (HOB.out.below hb2); have HR2 := Lib.hid ((hb2.block _ HSB.out).trans HRB.out); have g0 : w2.cell? ⟨wr.heap.size, 0, none⟩ = some (.int .i64 T) := cell_of_row _ _ 0 _ _ _ HR2.out; have g1 : w2.cell? ⟨wr.heap.size, 1, none⟩ = some (.int .i64 Re) := cell_of_row _ _ 1 _ _ _ HR2.out; have g2 : w2.cell? ⟨wr.heap.size, 2, none⟩ = some (.int .i64 K) := cell_of_row _ _ 2 _ _ _ HR2.out; have g3 : w2.cell? ⟨wr.heap.size, 3, none⟩ = some (.string key) := cell_of_row _ _ 3 _ _ _ HR2.out; have g4 : w2.cell? ⟨wr.heap.size, 4, none⟩ = some (.string val) := cell_of_row _ _ 4 _ _ _ HR2.out; have g5 : w2.cell? ⟨wr.heap.size, 5, none⟩ = some (.int .i64 N) := cell_of_row _ _ 5 _ _ _ HR2.out; clear hb2 y1 y2 y3 y4)
              | (at_builtin; refine jE rfl _ _ rfl w8.heap.size _ L rfl (HO2.out.alloc _) w2.heap.size 1 rfl ⟨T, Re, K, key, val, N⟩ (heap_alloc_new _ _) (by have := HKL.out; omega) (by have := HB2.out.size; simp; omega) ?_; intro g cap w4 ho4 hg4; have HO4 := Lib.hid ho4; have HG4 := Lib.hid hg4; clear ho4 hg4)
              | fail)
            go_roundw
            · refine ⟨k + 1, by omega, by simp, ?_, ?_⟩
              · rw [HTS.out]; exact HO4.out
              · exact (HB2.out.alloc HB2.out.size _).grown HG4.out (by have := HB2.out.size; simp; omega) (fun g hg => (HO2.out.lt g hg).1)
            · simp [intOf]; omega
          | false =>
            go_wp2_with (first
              | (go_at_call 27; (with_reducible refine (ii T Re (.slice af nf cf) (.slice a2 nh c2) f sh _ (wr.alloc (.cells #[.int .i64 T, .int .i64 Re, .int .i64 K, .string key, .string val, .int .i64 N] 38)) HFB.out HX2B.out HFL.out (Nat.le_trans HH16.out (by decide)) HZ.out).mono ?_); rintro r w2 ⟨rfl, hb2⟩; have HB2 := Lib.hid (HBB.out.trans (hb2.mono HBB.out.size)); have HO2 := Lib.hid (HOB.out.below hb2); have HR2 := Lib.hid ((hb2.block _ HSB.out).trans HRB.out); have g0 : w2.cell? ⟨wr.heap.size, 0, none⟩ = some (.int .i64 T) := cell_of_row _ _ 0 _ _ _ HR2.out; have g1 : w2.cell? ⟨wr.heap.size, 1, none⟩ = some (.int .i64 Re) := cell_of_row _ _ 1 _ _ _ HR2.out; have g2 : w2.cell? ⟨wr.heap.size, 2, none⟩ = some (.int .i64 K) := cell_of_row _ _ 2 _ _ _ HR2.out; have g3 : w2.cell? ⟨wr.heap.size, 3, none⟩ = some (.string key) := cell_of_row _ _ 3 _ _ _ HR2.out; have g4 : w2.cell? ⟨wr.heap.size, 4, none⟩ = some (.string val) := cell_of_row _ _ 4 _ _ _ HR2.out; have g5 : w2.cell? ⟨wr.heap.size, 5, none⟩ = some (.int .i64 N) := cell_of_row _ _ 5 _ _ _ HR2.out; clear hb2 y1 y2 y3 y4)
              | fail)
            go_roundw
            · exact ⟨k + 1, by omega, by simp, by rw [HTS.out]; simpa using HO2.out, HB2.out⟩
            · simp [intOf]; omega
        · have b1 : decide ((k : Int) < (ns : Int)) = false := by simp; omega
          obtain rfl : k = ns := by omega
          have hwant : ak wr w8.heap.size u12 sb := by
            have h1 := HO.out
            rw [List.take_of_length_le (by rw [HNS.out]; exact Nat.le_refl _), within_is HOKS.out HSO.out] at h1
            exact h1
          obtain ⟨a12, c12, rfl, _⟩ := hwant.is.form
          rw [← HNB.out] at hwant ⊢
          have HWT := Lib.hid hwant.is
          have HX1R := Lib.hid (HX1.out.below HB.out)
          have HX2R := Lib.hid (HX2.out.below HB.out)
          have HX3R := Lib.hid (HX3.out.below HB.out)
          have HFR := Lib.hid (HF8.out.below HB.out)
          have HPR := Lib.hid (HP8.out.keep HB.out)
          have hrr := (HB.out.block _ (Array.getElem?_eq_some_iff.1 HR8.out).1).trans HR8.out
          have HRR := Lib.hid hrr
          have HGR := Lib.hid (HG.out.below (HB3.out.trans (HPR.out.pt.logs.bel.mono HB3.out.size)))
          have HKF : Hid (∀ u, Below wr.heap.size wr u → u.cell? ⟨BB, 0, none⟩ = some (.slice a1 nf c1) ∧ u.cell? ⟨BB, 1, none⟩ = some (.slice a2 nh c2) ∧ u.cell? ⟨BB, 2, none⟩ = some (.slice a3 nb c3)) := Lib.hid (fun u hb => by
            have h1 := (hb.block _ (Array.getElem?_eq_some_iff.1 HRR.out).1).trans HRR.out
            exact ⟨cell_of_row _ _ 0 _ _ _ h1, cell_of_row _ _ 1 _ _ _ h1, cell_of_row _ _ 2 _ _ _ h1⟩)
          have HQ0 : Hid (Below wr.heap.size wr wr.drew) := Lib.hid (Below.refl _ _).drew
          clear hwant hrr
          by_cases h60 : nb = 60
          · have b6 : ((nb : Int) == 60) = true := by rw [h60]; rfl
            clear h60
            go_wp2
            have k0 := HKF.out _ HQ0.out
            refine wp_region_held_drew (S := (fun w' => w'.cell? ⟨BB, 0, none⟩ = some (.slice a1 nf c1) ∧ w'.cell? ⟨BB, 1, none⟩ = some (.slice a2 nh c2) ∧ w'.cell? ⟨BB, 2, none⟩ = some (.slice a3 nb c3))) (by kernel_rfl) k0 (fun hHeld => ?_)
            refine wpAnyH_take (i := 0) (v := ?v0) rfl (by kernel_rfl) (by kernel_rfl) (by kernel_rfl) (fun _ _ _ h => h) (Or.inl ⟨by rfl, ?h0⟩) (by assumption) ?r0
            case h0 => (intro W hSw; (try dsimp only at hSw); go_simp; all_goals (with_reducible rfl))
            try simp only [Act.put, List.getElem_toArray, List.getElem_cons_zero, List.setIfInBounds_toArray, List.set_cons_zero, List.set_cons_succ]
            refine wpAnyH_ready (rs := [1]) (by kernel_rfl) (by simp) ?_
            refine AllReadyH.cons rfl (fun K hK => ?_) AllReadyH.nil
            go_simp
            refine (bright_nil _ _ _ f sh sb wr.drew (HX1R.out.below HQ0.out) (HX2R.out.below HQ0.out) (HX3R.out.below HQ0.out) HFL.out (Nat.le_trans HH16.out (by decide)) (HGR.out.below HQ0.out) HRB.out).mono ?_
            rintro r' u1 ⟨rfl, hb⟩
            have HQ1 := Lib.hid (HQ0.out.trans (hb.mono HQ0.out.size))
            have k1 := HKF.out _ HQ1.out
            clear hb
            refine hK.out _ _ k1 (fun hHeld1 => ?_)
            clear hK hHeld
            try simp only [Act.put, List.getElem_toArray, List.getElem_cons_zero, List.getElem_cons_succ, List.setIfInBounds_toArray, List.set_cons_zero, List.set_cons_succ]
            refine wpAnyH_take (i := 2) (v := ?v2) rfl (by kernel_rfl) (by kernel_rfl) (by kernel_rfl) (fun _ _ _ h => h) (Or.inl ⟨by rfl, ?h2⟩) (by assumption) ?r2
            case h2 => (intro W hSw; (try dsimp only at hSw); go_simp; all_goals (with_reducible rfl))
            try simp only [Act.put, List.getElem_toArray, List.getElem_cons_zero, List.getElem_cons_succ, List.setIfInBounds_toArray, List.set_cons_zero, List.set_cons_succ]
            refine wpAnyH_take (i := 3) (v := ?v3) rfl (by kernel_rfl) (by kernel_rfl) (by kernel_rfl) (fun _ _ _ h => h) (Or.inl ⟨by rfl, ?h3⟩) (by assumption) ?r3
            case h3 => (intro W hSw; (try dsimp only at hSw); go_simp; all_goals (with_reducible rfl))
            try simp only [Act.put, List.getElem_toArray, List.getElem_cons_zero, List.getElem_cons_succ, List.setIfInBounds_toArray, List.set_cons_zero, List.set_cons_succ]
            refine wpAnyH_take (i := 4) (v := ?v4) rfl (by kernel_rfl) (by kernel_rfl) (by kernel_rfl) (fun _ _ _ h => h) (Or.inl ⟨by rfl, ?h4⟩) (by assumption) ?r4
            case h4 => (intro W hSw; (try dsimp only at hSw); go_simp; all_goals (with_reducible rfl))
            try simp only [Act.put, List.getElem_toArray, List.getElem_cons_zero, List.getElem_cons_succ, List.setIfInBounds_toArray, List.set_cons_zero, List.set_cons_succ]
            refine wpAnyH_take (i := 5) (v := ?v5) rfl (by kernel_rfl) (by kernel_rfl) (by kernel_rfl) (fun _ _ _ h => h) (Or.inl ⟨by rfl, ?h5⟩) (by assumption) ?r5
            case h5 => (intro W hSw; (try dsimp only at hSw); go_simp; all_goals (with_reducible rfl))
            try simp only [Act.put, List.getElem_toArray, List.getElem_cons_zero, List.getElem_cons_succ, List.setIfInBounds_toArray, List.set_cons_zero, List.set_cons_succ]
            refine wpAnyH_take (i := 6) (v := ?v6) rfl (by kernel_rfl) (by kernel_rfl) (by kernel_rfl) (fun _ _ _ h => h) (Or.inl ⟨by rfl, ?h6⟩) (by assumption) ?r6
            case h6 => (intro W hSw; (try dsimp only at hSw); go_simp; all_goals (with_reducible rfl))
            try simp only [Act.put, List.getElem_toArray, List.getElem_cons_zero, List.getElem_cons_succ, List.setIfInBounds_toArray, List.set_cons_zero, List.set_cons_succ]
            refine wpAnyH_ready (rs := [7]) (by kernel_rfl) (by simp) ?_
            refine AllReadyH.cons rfl (fun K hK => ?_) AllReadyH.nil
            go_simp
            refine (equalE_b (.slice a1 nf c1) (.slice af nf cf) f u1 (HX1R.out.below HQ1.out) (HFR.out.below HQ1.out) HFL.out).mono ?_
            rintro r' u2 ⟨rfl, hb⟩
            have HQ2 := Lib.hid (HQ1.out.trans (hb.mono HQ1.out.size))
            have k2 := HKF.out _ HQ2.out
            clear hb
            refine hK.out _ _ k2 (fun hHeld7 => ?_)
            clear hK hHeld1
            try simp only [Act.put, List.getElem_toArray, List.getElem_cons_zero, List.getElem_cons_succ, List.setIfInBounds_toArray, List.set_cons_zero, List.set_cons_succ]
            refine wpAnyH_take (i := 8) (v := ?v8) rfl (by kernel_rfl) (by kernel_rfl) (by kernel_rfl) (fun _ _ _ h => h) (Or.inl ⟨by rfl, ?h8⟩) (by assumption) ?r8
            case h8 => (intro W hSw; (try dsimp only at hSw); go_simp; all_goals (with_reducible rfl))
            try simp only [Act.put, List.getElem_toArray, List.getElem_cons_zero, List.getElem_cons_succ, List.setIfInBounds_toArray, List.set_cons_zero, List.set_cons_succ]
            refine wpAnyH_take (i := 9) (v := ?v9) rfl (by kernel_rfl) (by kernel_rfl) (by kernel_rfl) (fun _ _ _ h => h) (Or.inl ⟨by rfl, ?h9⟩) (by assumption) ?r9
            case h9 => (intro W hSw; (try dsimp only at hSw); go_simp; all_goals (with_reducible rfl))
            try simp only [Act.put, List.getElem_toArray, List.getElem_cons_zero, List.getElem_cons_succ, List.setIfInBounds_toArray, List.set_cons_zero, List.set_cons_succ]
            refine wpAnyH_take (i := 10) (v := ?v10) rfl (by kernel_rfl) (by kernel_rfl) (by kernel_rfl) (fun _ _ _ h => h) (Or.inl ⟨by rfl, ?h10⟩) (by assumption) ?r10
            case h10 => (intro W hSw; (try dsimp only at hSw); go_simp; all_goals (with_reducible rfl))
            try simp only [Act.put, List.getElem_toArray, List.getElem_cons_zero, List.getElem_cons_succ, List.setIfInBounds_toArray, List.set_cons_zero, List.set_cons_succ]
            refine wpAnyH_take (i := 11) (v := ?v11) rfl (by kernel_rfl) (by kernel_rfl) (by kernel_rfl) (fun _ _ _ h => h) (Or.inl ⟨by rfl, ?h11⟩) (by assumption) ?r11
            case h11 => (intro W hSw; (try dsimp only at hSw); go_simp; all_goals (with_reducible rfl))
            try simp only [Act.put, List.getElem_toArray, List.getElem_cons_zero, List.getElem_cons_succ, List.setIfInBounds_toArray, List.set_cons_zero, List.set_cons_succ]
            refine wpAnyH_take (i := 12) (v := ?v12) rfl (by kernel_rfl) (by kernel_rfl) (by kernel_rfl) (fun _ _ _ h => h) (Or.inl ⟨by rfl, ?h12⟩) (by assumption) ?r12
            case h12 => (intro W hSw; (try dsimp only at hSw); go_simp; all_goals (with_reducible rfl))
            try simp only [Act.put, List.getElem_toArray, List.getElem_cons_zero, List.getElem_cons_succ, List.setIfInBounds_toArray, List.set_cons_zero, List.set_cons_succ]
            refine wpAnyH_ready (rs := [13]) (by kernel_rfl) (by simp) ?_
            refine AllReadyH.cons rfl (fun K hK => ?_) AllReadyH.nil
            go_simp
            refine (equalW_b (.slice a3 nb c3) (.slice a12 nb c12) sb u2 (HX3R.out.below HQ2.out) (HWT.out.below HQ2.out) (Nat.le_trans HB60.out (by decide))).mono ?_
            rintro r' u3 ⟨rfl, hb⟩
            have HQ3 := Lib.hid (HQ2.out.trans (hb.mono HQ2.out.size))
            have k3 := HKF.out _ HQ3.out
            clear hb
            refine hK.out _ _ k3 (fun hHeld13 => ?_)
            clear hK hHeld7
            try simp only [Act.put, List.getElem_toArray, List.getElem_cons_zero, List.getElem_cons_succ, List.setIfInBounds_toArray, List.set_cons_zero, List.set_cons_succ]
            refine wpAnyH_take (i := 14) (v := ?v14) rfl (by kernel_rfl) (by kernel_rfl) (by kernel_rfl) (fun _ _ _ h => h) (Or.inl ⟨by rfl, ?h14⟩) (by assumption) ?r14
            case h14 => (intro W hSw; (try dsimp only at hSw); go_simp; all_goals (with_reducible rfl))
            try simp only [Act.put, List.getElem_toArray, List.getElem_cons_zero, List.getElem_cons_succ, List.setIfInBounds_toArray, List.set_cons_zero, List.set_cons_succ]
            refine wpAnyH_take (i := 15) (v := ?v15) rfl (by kernel_rfl) (by kernel_rfl) (by kernel_rfl) (fun _ _ _ h => h) (Or.inl ⟨by rfl, ?h15⟩) (by assumption) ?r15
            case h15 => (intro W hSw; (try dsimp only at hSw); go_simp; all_goals (with_reducible rfl))
            try simp only [Act.put, List.getElem_toArray, List.getElem_cons_zero, List.getElem_cons_succ, List.setIfInBounds_toArray, List.set_cons_zero, List.set_cons_succ]
            refine wpAnyH_take (i := 16) (v := ?v16) rfl (by kernel_rfl) (by kernel_rfl) (by kernel_rfl) (fun _ _ _ h => h) (Or.inl ⟨by rfl, ?h16⟩) (by assumption) ?r16
            case h16 => (intro W hSw; (try dsimp only at hSw); go_simp; all_goals (with_reducible rfl))
            try simp only [Act.put, List.getElem_toArray, List.getElem_cons_zero, List.getElem_cons_succ, List.setIfInBounds_toArray, List.set_cons_zero, List.set_cons_succ]
            refine wpAnyH_take (i := 18) (v := ?v18) rfl (by kernel_rfl) (by kernel_rfl) (by kernel_rfl) (fun _ _ _ h => h) (Or.inl ⟨by rfl, ?h18⟩) (by assumption) ?r18
            case h18 => (intro W hSw; (try dsimp only at hSw); go_simp; all_goals (with_reducible rfl))
            try simp only [Act.put, List.getElem_toArray, List.getElem_cons_zero, List.getElem_cons_succ, List.setIfInBounds_toArray, List.set_cons_zero, List.set_cons_succ]
            refine wpAnyH_take (i := 19) (v := ?v19) rfl (by kernel_rfl) (by kernel_rfl) (by kernel_rfl) (fun _ _ _ h => h) (Or.inl ⟨by rfl, ?h19⟩) (by assumption) ?r19
            case h19 => (intro W hSw; (try dsimp only at hSw); go_simp; all_goals (with_reducible rfl))
            try simp only [Act.put, List.getElem_toArray, List.getElem_cons_zero, List.getElem_cons_succ, List.setIfInBounds_toArray, List.set_cons_zero, List.set_cons_succ]
            refine wpAnyH_ready (rs := [17]) (by kernel_rfl) (by simp) ?_
            refine AllReadyH.cons rfl (fun K hK => ?_) AllReadyH.nil
            go_simp
            refine (bH (HPR.out.keep HQ3.out).pt.logs HL.out nv HNV.out.symm).mono ?_
            rintro r' u4 ⟨a14, c14, rfl, ho14, hb⟩
            have HQ4 := Lib.hid (HQ3.out.trans (hb.mono HQ3.out.size))
            have k4 := HKF.out _ HQ4.out
            have HH14 := Lib.hid ho14.is
            clear ho14
            clear hb
            refine hK.out _ _ k4 (fun hHeld17 => ?_)
            clear hK hHeld13
            try simp only [Act.put, List.getElem_toArray, List.getElem_cons_zero, List.getElem_cons_succ, List.setIfInBounds_toArray, List.set_cons_zero, List.set_cons_succ]
            refine wpAnyH_ready (rs := [20]) (by kernel_rfl) (by simp) ?_
            refine AllReadyH.cons rfl (fun K hK => ?_) AllReadyH.nil
            go_simp
            refine (dn (.slice a14 nv c14) (.slice a2 nh c2) s.hv sh true u4 HH14.out (HX2R.out.below HQ4.out) (Nat.le_trans HV16.out (by decide)) (Nat.le_trans HH16.out (by decide)) HCV.out).mono ?_
            rintro r' u5 ⟨rfl, hb⟩
            have HQ5 := Lib.hid (HQ4.out.trans (hb.mono HQ4.out.size))
            have k5 := HKF.out _ HQ5.out
            clear hb
            refine hK.out _ _ k5 (fun hHeld20 => ?_)
            clear hK hHeld17
            try simp only [Act.put, List.getElem_toArray, List.getElem_cons_zero, List.getElem_cons_succ, List.setIfInBounds_toArray, List.set_cons_zero, List.set_cons_succ]
            refine wpAnyH_take (i := 21) (v := ?v21) rfl (by kernel_rfl) (by kernel_rfl) (by kernel_rfl) (fun _ _ _ h => h) (Or.inl ⟨by rfl, ?h21⟩) (by assumption) ?r21
            case h21 => (intro W hSw; (try dsimp only at hSw); go_simp; all_goals (with_reducible rfl))
            try simp only [Act.put, List.getElem_toArray, List.getElem_cons_zero, List.getElem_cons_succ, List.setIfInBounds_toArray, List.set_cons_zero, List.set_cons_succ]
            refine wpAnyH_take (i := 22) (v := ?v22) rfl (by kernel_rfl) (by kernel_rfl) (by kernel_rfl) (fun _ _ _ h => h) (Or.inl ⟨by rfl, ?h22⟩) (by assumption) ?r22
            case h22 => (intro W hSw; (try dsimp only at hSw); go_simp; all_goals (with_reducible rfl))
            try simp only [Act.put, List.getElem_toArray, List.getElem_cons_zero, List.getElem_cons_succ, List.setIfInBounds_toArray, List.set_cons_zero, List.set_cons_succ]
            refine wpAnyH_take (i := 23) (v := ?v23) rfl (by kernel_rfl) (by kernel_rfl) (by kernel_rfl) (fun _ _ _ h => h) (Or.inl ⟨by rfl, ?h23⟩) (by assumption) ?r23
            case h23 => (intro W hSw; (try dsimp only at hSw); go_simp; all_goals (with_reducible rfl))
            try simp only [Act.put, List.getElem_toArray, List.getElem_cons_zero, List.getElem_cons_succ, List.setIfInBounds_toArray, List.set_cons_zero, List.set_cons_succ]
            refine wpAnyH_take (i := 24) (v := ?v24) rfl (by kernel_rfl) (by kernel_rfl) (by kernel_rfl) (fun _ _ _ h => h) (Or.inl ⟨by rfl, ?h24⟩) (by assumption) ?r24
            case h24 => (intro W hSw; (try dsimp only at hSw); go_simp; all_goals (with_reducible rfl))
            try simp only [Act.put, List.getElem_toArray, List.getElem_cons_zero, List.getElem_cons_succ, List.setIfInBounds_toArray, List.set_cons_zero, List.set_cons_succ]
            refine wpAnyH_take (i := 25) (v := ?v25) rfl (by kernel_rfl) (by kernel_rfl) (by kernel_rfl) (fun _ _ _ h => h) (Or.inl ⟨by rfl, ?h25⟩) (by assumption) ?r25
            case h25 => (intro W hSw; (try dsimp only at hSw); go_simp; all_goals (with_reducible rfl))
            try simp only [Act.put, List.getElem_toArray, List.getElem_cons_zero, List.getElem_cons_succ, List.setIfInBounds_toArray, List.set_cons_zero, List.set_cons_succ]
            refine wpAnyH_take (i := 26) (v := ?v26) rfl (by kernel_rfl) (by kernel_rfl) (by kernel_rfl) (fun _ _ _ h => h) (Or.inl ⟨by rfl, ?h26⟩) (by assumption) ?r26
            case h26 => (intro W hSw; (try dsimp only at hSw); go_simp; all_goals (with_reducible rfl))
            try simp only [Act.put, List.getElem_toArray, List.getElem_cons_zero, List.getElem_cons_succ, List.setIfInBounds_toArray, List.set_cons_zero, List.set_cons_succ]
            refine wpAnyH_take (i := 27) (v := ?v27) rfl (by kernel_rfl) (by kernel_rfl) (by kernel_rfl) (fun _ _ _ h => h) (Or.inl ⟨by rfl, ?h27⟩) (by assumption) ?r27
            case h27 => (intro W hSw; (try dsimp only at hSw); go_simp; all_goals (with_reducible rfl))
            try simp only [Act.put, List.getElem_toArray, List.getElem_cons_zero, List.getElem_cons_succ, List.setIfInBounds_toArray, List.set_cons_zero, List.set_cons_succ]
            refine wpAnyH_take (i := 28) (v := undef) rfl (by kernel_rfl) (by kernel_rfl) (by kernel_rfl) (fun _ _ _ h => h) (Or.inr ⟨by rfl, rfl⟩) (by assumption) ?_
            try simp only [Act.put, List.getElem_toArray, List.getElem_cons_zero, List.getElem_cons_succ, List.setIfInBounds_toArray, List.set_cons_zero, List.set_cons_succ]
            refine wpAnyH_take (i := 29) (v := undef) rfl (by kernel_rfl) (by kernel_rfl) (by kernel_rfl) (fun _ _ _ h => h) (Or.inr ⟨by rfl, rfl⟩) (by assumption) ?_
            try simp only [Act.put, List.getElem_toArray, List.getElem_cons_zero, List.getElem_cons_succ, List.setIfInBounds_toArray, List.set_cons_zero, List.set_cons_succ]
            refine wpAnyH_take (i := 30) (v := undef) rfl (by kernel_rfl) (by kernel_rfl) (by kernel_rfl) (fun _ _ _ h => h) (Or.inr ⟨by rfl, rfl⟩) (by assumption) ?_
            try simp only [Act.put, List.getElem_toArray, List.getElem_cons_zero, List.getElem_cons_succ, List.setIfInBounds_toArray, List.set_cons_zero, List.set_cons_succ]
            refine wpAnyH_take (i := 31) (v := undef) rfl (by kernel_rfl) (by kernel_rfl) (by kernel_rfl) (fun _ _ _ h => h) (Or.inr ⟨by rfl, rfl⟩) (by assumption) ?_
            try simp only [Act.put, List.getElem_toArray, List.getElem_cons_zero, List.getElem_cons_succ, List.setIfInBounds_toArray, List.set_cons_zero, List.set_cons_succ]
            refine wpAnyH_take (i := 32) (v := undef) rfl (by kernel_rfl) (by kernel_rfl) (by kernel_rfl) (fun _ _ _ h => h) (Or.inr ⟨by rfl, rfl⟩) (by assumption) ?_
            try simp only [Act.put, List.getElem_toArray, List.getElem_cons_zero, List.getElem_cons_succ, List.setIfInBounds_toArray, List.set_cons_zero, List.set_cons_succ]
            refine wpAnyH_take (i := 33) (v := ?v33) rfl (by kernel_rfl) (by kernel_rfl) (by kernel_rfl) (fun _ _ _ h => h) (Or.inl ⟨by rfl, ?h33⟩) (by assumption) ?r33
            case h33 => (intro W hSw; (try dsimp only at hSw); go_simp; all_goals (with_reducible rfl))
            try simp only [Act.put, List.getElem_toArray, List.getElem_cons_zero, List.getElem_cons_succ, List.setIfInBounds_toArray, List.set_cons_zero, List.set_cons_succ]
            refine wpAnyH_take (i := 34) (v := ?v34) rfl (by kernel_rfl) (by kernel_rfl) (by kernel_rfl) (fun _ _ _ h => h) (Or.inl ⟨by rfl, ?h34⟩) (by assumption) ?r34
            case h34 => (intro W hSw; (try dsimp only at hSw); go_simp; all_goals (with_reducible rfl))
            try simp only [Act.put, List.getElem_toArray, List.getElem_cons_zero, List.getElem_cons_succ, List.setIfInBounds_toArray, List.set_cons_zero, List.set_cons_succ]
            refine wpAnyH_take (i := 35) (v := ?v35) rfl (by kernel_rfl) (by kernel_rfl) (by kernel_rfl) (fun _ _ _ h => h) (Or.inl ⟨by rfl, ?h35⟩) (by assumption) ?r35
            case h35 => (intro W hSw; (try dsimp only at hSw); go_simp; all_goals (with_reducible rfl))
            try simp only [Act.put, List.getElem_toArray, List.getElem_cons_zero, List.getElem_cons_succ, List.setIfInBounds_toArray, List.set_cons_zero, List.set_cons_succ]
            refine wpAnyH_done (by kernel_rfl) ?_ _
            go_wp2
            go_ret
            exact ⟨rfl, HB3.out.trans ((HPR.out.pt.logs.bel.trans (HQ5.out.mono HPR.out.pt.logs.bel.size)).mono HB3.out.size)⟩
          · have b6 : ((nb : Int) == 60) = false := by simp; omega
            have hsv : sh = s.hv := by
              rcases HSO.out.full with h | h
              · exact absurd (HNB.out.trans h) h60
              · exact h
            have HSV := Lib.hid hsv
            clear h60 hsv
            go_wp2
            have k0 := HKF.out _ HQ0.out
            go_region_held3 (fun w' => w'.cell? ⟨BB, 0, none⟩ = some (.slice a1 nf c1) ∧ w'.cell? ⟨BB, 1, none⟩ = some (.slice a2 nh c2) ∧ w'.cell? ⟨BB, 2, none⟩ = some (.slice a3 nb c3)) (first | exact k0 | exact k1 | exact k2 | exact k3 | exact k4 | exact k5 | exact k6 | exact k7 | fail) (first
              | (go_at_call 28; ((with_reducible refine (bright_nil _ _ _ f sh sb wr.drew (HX1R.out.below HQ0.out) (HX2R.out.below HQ0.out) (HX3R.out.below HQ0.out) HFL.out (Nat.le_trans HH16.out (by decide)) (HGR.out.below HQ0.out) HRB.out).mono ?_); rintro r' u1 ⟨rfl, hb⟩; have HQ1 := Lib.hid (HQ0.out.trans (hb.mono HQ0.out.size)); have k1 := HKF.out _ HQ1.out; clear hb))
              | (go_at_call 29; ((with_reducible refine (equalE_b (.slice a1 nf c1) (.slice af nf cf) f u1 (HX1R.out.below HQ1.out) (HFR.out.below HQ1.out) HFL.out).mono ?_); rintro r' u2 ⟨rfl, hb⟩; have HQ2 := Lib.hid (HQ1.out.trans (hb.mono HQ1.out.size)); have k2 := HKF.out _ HQ2.out; clear hb))
              | (go_at_call 24; ((with_reducible refine (equalW_b (.slice a3 nb c3) (.slice a12 nb c12) sb u2 (HX3R.out.below HQ2.out) (HWT.out.below HQ2.out) (Nat.le_trans HB60.out (by decide))).mono ?_); rintro r' u3 ⟨rfl, hb⟩; have HQ3 := Lib.hid (HQ2.out.trans (hb.mono HQ2.out.size)); have k3 := HKF.out _ HQ3.out; clear hb))
              | (go_at_call 17; ((with_reducible refine (bH (HPR.out.keep HQ3.out).pt.logs HL.out nv HNV.out.symm).mono ?_); rintro r' u4 ⟨a14, c14, rfl, ho14, hb⟩; have HQ4 := Lib.hid (HQ3.out.trans (hb.mono HQ3.out.size)); have k4 := HKF.out _ HQ4.out; have HH14 := Lib.hid ho14.is; clear ho14; clear hb))
              | (go_at_call 26; ((with_reducible refine (dn (.slice a14 nv c14) (.slice a2 nh c2) s.hv sh true u4 HH14.out (HX2R.out.below HQ4.out) (Nat.le_trans HV16.out (by decide)) (Nat.le_trans HH16.out (by decide)) HCV.out).mono ?_); rintro r' u5 ⟨rfl, hb⟩; have HQ5 := Lib.hid (HQ4.out.trans (hb.mono HQ4.out.size)); have k5 := HKF.out _ HQ5.out; clear hb))
              | (go_at_call 17; ((with_reducible refine (bH (HPR.out.keep HQ5.out).pt.logs HL.out nv HNV.out.symm).mono ?_); rintro r' u6 ⟨a16, c16, rfl, ho16, hb⟩; have HQ6 := Lib.hid (HQ5.out.trans (hb.mono HQ5.out.size)); have k6 := HKF.out _ HQ6.out; have HH16X : Hid (ae u6 (.slice a16 nv c16) sh) := Lib.hid (by rw [HSV.out]; exact ho16.is); clear ho16; clear hb))
              | (go_at_call 29; ((with_reducible refine (equalE_b (.slice a2 nh c2) (.slice a16 nv c16) sh u6 (HX2R.out.below HQ6.out) HH16X.out (Nat.le_trans HH16.out (by decide))).mono ?_); rintro r' u7 ⟨rfl, hb⟩; have HQ7 := Lib.hid (HQ6.out.trans (hb.mono HQ6.out.size)); have k7 := HKF.out _ HQ7.out; clear hb))
              | fail)
            go_wp2
            go_ret
            exact ⟨rfl, HB3.out.trans ((HPR.out.pt.logs.bel.trans (HQ7.out.mono HPR.out.pt.logs.bel.size)).mono HB3.out.size)⟩
    · obtain ⟨e, hee⟩ : ∃ e, bo s f = e := ⟨_, rfl⟩
      have he0 : e ≠ 0 := by rw [← hee]; exact he
      obtain ⟨nv, hnv⟩ : ∃ m, m = s.hv.length := ⟨_, rfl⟩
      have HNV := Lib.hid hnv
      have HE := Lib.hid hee
      have HE0 := Lib.hid he0
      have hno := sinceE_no hee he0
      clear he hee he0 hnv
      rcases hno with hno | ⟨hno, hcov⟩
      · have HNO := Lib.hid hno
        clear hno
        go_wp2_with (first
          | (go_at_call 22; (with_reducible refine (mt HP.out.pt.logs HL.out _ f HF5.out HFL.out HG5.out HE.out HE0.out).mono ?_); rintro r w6 ⟨rfl, hb6⟩; have HP6 := Lib.hid ((HP.out.keep hb6).keep ((Below.refl _ _).alloc (Nat.le_refl _) (.cells #[.slice none 0 0, .slice none 0 0, .slice none 0 0] 47))); have HF6 := Lib.hid ((HF5.out.below hb6).below ((Below.refl _ _).alloc (Nat.le_refl _) (.cells #[.slice none 0 0, .slice none 0 0, .slice none 0 0] 47))); clear hb6)
          | (go_at_call 25; (with_reducible refine (iF _ _ _ _ _ _ [] [] [] [] [] [] true _ (nil_bat _) (nil_bat _) rfl).mono ?_); rintro r w8 ⟨rfl, hb8⟩; have HP8 := Lib.hid (HP6.out.keep hb8); have HF8 := Lib.hid (HF6.out.below hb8); clear hb8)
          | (go_at_call 20; (with_reducible refine (vright_some _ f w8 HF8.out HFL.out HNO.out).mono ?_); rintro r w9 ⟨t9, u9, rfl, hb9⟩; have HP9 := Lib.hid (HP8.out.keep hb9); clear hb9)
          | fail)
        go_ret
        exact ⟨rfl, HB3.out.trans (HP9.out.pt.logs.bel.mono HB3.out.size)⟩
      · have HNO := Lib.hid hno
        have HCOV := Lib.hid hcov
        clear hno hcov
        go_wp2_with (first
          | (go_at_call 22; (with_reducible refine (mt HP.out.pt.logs HL.out _ f HF5.out HFL.out HG5.out HE.out HE0.out).mono ?_); rintro r w6 ⟨rfl, hb6⟩; have HP6 := Lib.hid ((HP.out.keep hb6).keep ((Below.refl _ _).alloc (Nat.le_refl _) (.cells #[.slice none 0 0, .slice none 0 0, .slice none 0 0] 47))); have HF6 := Lib.hid ((HF5.out.below hb6).below ((Below.refl _ _).alloc (Nat.le_refl _) (.cells #[.slice none 0 0, .slice none 0 0, .slice none 0 0] 47))); clear hb6)
          | (go_at_call 25; (with_reducible refine (iF _ _ _ _ _ _ [] [] [] [] [] [] true _ (nil_bat _) (nil_bat _) rfl).mono ?_); rintro r w8 ⟨rfl, hb8⟩; have HP8 := Lib.hid (HP6.out.keep hb8); have HF8 := Lib.hid (HF6.out.below hb8); clear hb8)
          | (go_at_call 20; (with_reducible refine (vright_nilS _ f w8 HF8.out HFL.out HNO.out).mono ?_); rintro r w9 ⟨rfl, hb9⟩; have HP9 := Lib.hid (HP8.out.keep hb9); have HF9 := Lib.hid (HF8.out.below hb9); clear hb9)
          | (go_at_call 17; (with_reducible refine (bH HP9.out.pt.logs HL.out nv HNV.out.symm).mono ?_); rintro r w10 ⟨a10, c10, rfl, ho10, hb10⟩; have HP10 := Lib.hid (HP9.out.keep hb10); have HF10 := Lib.hid (HF9.out.below hb10); have HH10 := Lib.hid ho10.is; clear ho10 hb10)
          | (go_at_call 26; (with_reducible refine (dn _ _ s.hv f false w10 HH10.out HF10.out (Nat.le_trans HV16.out (by decide)) HFL.out HCOV.out).mono ?_); rintro r w11 ⟨rfl, hb11⟩; have HP11 := Lib.hid (HP10.out.keep hb11); clear hb11)
          | fail)
        go_ret
        exact ⟨rfl, HB3.out.trans (HP11.out.pt.logs.bel.mono HB3.out.size)⟩
  · have HS : Hid (dZ l = false) := Lib.hid (by simpa using hs)
    clear hs
    go_enter Tryz.func5, Tryz.ntmps5
    go_wp2_with (first
      | (go_at_call 11; refine (gf W HG.out).mono ?_; rintro r w1 ⟨rfl, hb1⟩; have HB1 := Lib.hid hb1; clear hb1)
      | (go_at_call 12; refine (gj w1).mono ?_; rintro r w2 ⟨rfl, hb2⟩; have HB2 := Lib.hid (HB1.out.trans (hb2.mono HB1.out.size)); clear hb2)
      | (go_at_call 13; (with_reducible refine (gt _ l w2 (HA.out.below HB2.out) hl HOK.out false HS.out).mono ?_); rintro r w3 ⟨rfl, hb3⟩; have HB3 := Lib.hid (HB2.out.trans (hb3.mono HB2.out.size)); clear hb3)
      | fail)
    go_ret
    exact ⟨rfl, HB3.out⟩
end Go.Proofs.YtdhognaoejiglaaGreatDoor
