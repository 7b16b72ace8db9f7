/-
  The walk of 'packtrainkeep.LogOnce'.
-/
import Derived.Test.YtdhognaoejiglaaGreatDoorKa45
import Derived.Test.YtdhognaoejiglaaGreatDoorKa08
namespace Go.Proofs.YtdhognaoejiglaaGreatDoor
open Go.RowKit

theorem sortW_self {l : List Wr} (h : l.Pairwise late) : cO l = l := jr (p8 (js h)) h (fun _ => jQ)
theorem joinR_self {h : List Ent} (hr : az h) : aQ h h = (0, h) := by
  have hj : cL h h = h := jB (jk hr.2 hr.2) hr.2 (fun r => by rw [jj hr.2 hr.2]; omega)
  rw [gZ ((br _).2 hr) ((br _).2 hr) (by rw [hj]; have := hr.1; omega), hj]
/-- A log's batch from nothing, and another one that takes it twice. -/
theorem once_facts {s : LogS} (ok : aH s) : bj s [] = 0 ∧ aZ [] (ay s []) (ak s []) ∧ (ak s []).length ≤ 60 ∧
    (accE ⟨9, [], []⟩ [] (ay s []) (ak s [])).1 = 0 ∧ aP [] (ak s []) = ak s [] ∧ accS ⟨9, [], []⟩ (ay s []) (ak s []) = ⟨9, ay s [], ak s []⟩ ∧
    (accE ⟨9, ay s [], ak s []⟩ [] (ay s []) (ak s [])).1 = 0 ∧ aP (ak s []) (ak s []) = [] ∧ accS ⟨9, ay s [], ak s []⟩ (ay s []) (ak s []) = ⟨9, ay s [], ak s []⟩ := by
  have h0 : az [] := ⟨by simp, trivial⟩
  have hz : ∀ z, ofF [] z = 0 := fun _ => rfl
  have hc : covB s.hv [] = true := (dp ok.hv h0).2 (fun z => by rw [hz]; exact (bR ok.hv.2 z).1)
  have ho := jP ok h0 hc
  have hrb := mi ok h0 ho
  have hn := jv (r := 9) (by omega)
  obtain ⟨_, g2, g3, g4⟩ := m7 ok hn ho
  have hfr : aP (ak s []) (ak s []) = [] := by
    unfold aP
    rw [List.filter_eq_nil_iff]
    intro x hx
    have h1 : (ak s []).any (fun y => decide (wid y = wid x)) = true := List.any_eq_true.2 ⟨x, hx, by simp⟩
    rw [h1]; simp
  have hch : covB (ay s []) [] = true := (dp ho.right h0).2 (fun z => by rw [hz]; exact (bR ho.right.2 z).1)
  have hj := joinR_self ho.right
  have htw : twA (ak s []) (ak s []) 0 = none := (jY _ 0).2 (fun x hx ⟨y, hy, e, hne⟩ => hne (oq ho.srt hy hx e))
  refine ⟨?_, hrb, ho.len, ?_, g2, ?_, ?_, hfr, ?_⟩
  · unfold bj
    rw [if_neg (by rw [(br _).2 h0]; simp), if_neg (by rw [hc]; simp)]
  · have : accE ⟨9, [], []⟩ [] (ay s []) (ak s []) = if 300 < 0 + (ak s []).length then (12, -1) else (0, -1) := g4
    rw [this, if_neg (by have := ho.len; omega)]
  · unfold accS
    rw [show (aQ (LogS.mk 9 [] []).hv (ay s [])) = (0, ay s []) from g3, show aP (LogS.mk 9 [] []).ws (ak s []) = ak s [] from g2]
    exact congrArg (LogS.mk 9 (ay s [])) ((congrArg cO (List.nil_append _)).trans (sortW_self ho.srt))
  · unfold accE
    rw [if_neg (by rw [show (batF [] (ay s []) (ak s [])).1 = 0 from hrb]; simp), if_neg (by rw [hch]; simp), if_neg (by rw [hj]; simp)]
    dsimp only
    rw [htw, hfr]
    simp only [List.length_nil]
    rw [if_neg (by have := ho.len; omega)]
  · unfold accS
    dsimp only
    rw [hj, hfr, List.append_nil, sortW_self ho.srt]
theorem app_set {α : Type} (L : List α) (x y : α) : ((L ++ [x]).set L.length y)[L.length]? = some y := by simp
theorem app_set2 {α : Type} (L : List α) (x y z : α) : (((L ++ [x]).set L.length y).set L.length z)[L.length]? = some z := by simp
theorem aB.at {w w' : World} {vf vh vw : Value} {f hh : List Ent} {l : List Wr} (h : aB w vf vh vw f hh l) (hs : w.heap.size ≤ w'.heap.size) (h1 : ∀ k, vf.ownBlock = some k → w'.heap[k]? = w.heap[k]?) (h2 : ∀ k, vh.ownBlock = some k → w'.heap[k]? = w.heap[k]?) (h3 : ∀ k, vw.ownBlock = some k → w'.heap[k]? = w.heap[k]?) : aB w' vf vh vw f hh l :=
  ⟨ag.at h.1 hs h1, ag.at h.2.1 hs h2, aD.at h.2.2.1 hs h3, h.2.2.2⟩
set_option maxRecDepth 100000 in
set_option maxHeartbeats 16000000 in
theorem logOnce_walk (W : World) (a0 : Int) (_h0 : -9223372036854775808 ≤ a0) (_h1 : a0 ≤ 9223372036854775807) (v : Value) (l : List Actn) (h : cD W v l) (hl : l.length ≤ 9223372036854775807) (hok : ∀ x ∈ l, WrOk x.w) (hg : errT W) :
    Calls Tryz.prog 4 #[.int .i64 a0, v] W fun e w' => e = .returned (.bool true) ∧ Below W.heap.size W w' := by
  have HG := Lib.hid hg
  have HA := Lib.hid h
  have HOK := Lib.hid hok
  obtain ⟨q, hq⟩ : ∃ q : Nat, bD a0 5 = (q : Int) := ⟨(bD a0 5).toNat, by have := bX (a := a0) (n := 5) (by omega); omega⟩
  have hq5 : q < 5 := by have := bX (a := a0) (n := 5) (by omega); omega
  have HQ := Lib.hid hq
  obtain ⟨n, hn⟩ : ∃ n : Nat, n = 1 + q := ⟨_, rfl⟩
  have hn1 : (1 : Int) + (q : Int) = (n : Int) := by omega
  have hn2 : IntKind.i64.wrap ((1 : Int) + (q : Int)) = (n : Int) := by rw [hn1]; exact IntWalk.i64_in _ (by omega)
  have hn3 : 1 ≤ n ∧ n ≤ 5 := by omega
  have HN := Lib.hid hn3
  obtain ⟨hn4, hn5⟩ := hn3
  clear hq hn hq5 h hok hg
  by_cases hs : dg l = true
  · have HS := Lib.hid hs
    clear hs
    go_enter Tryz.func4, Tryz.ntmps4
    go_wp2_with (first
      | (go_at_call 11; refine (eW W HG.out).mono ?_; rintro r w1 ⟨rfl, hb1⟩; have HB1 := Lib.hid hb1; clear hb1)
      | (go_at_call 13; (with_reducible refine (fd _ l w1 (HA.out.below HB1.out) hl HOK.out true HS.out).mono ?_); rintro r w3 ⟨rfl, hb3⟩; have HB3 := Lib.hid (HB1.out.trans (hb3.mono HB1.out.size)); clear hb3)
      | (go_at_call 14; (with_reducible refine (dK a0 5 w3 (by omega) (by omega)).mono ?_); rintro r w4 ⟨rfl, rfl⟩; rw [HQ.out])
      | (go_at_call 15; (with_reducible refine (jH n HN.out _ l w3 (HA.out.below HB3.out) HS.out HOK.out (HG.out.below HB3.out)).mono ?_); rintro r w5 ⟨g, c, L, U, rfl, hp⟩; have HP := Lib.hid hp; clear hp)
      | (go_at_call 21; (with_reducible refine (Gnew HP.out.pt.logs 9 (by omega)).mono ?_); rintro r w6 ⟨rfl, h6, hb6⟩; have HL6 := Lib.hid h6; obtain ⟨P, s, hL, hg1, hc1⟩ := HP.out.cell (q := 0) (by have := HN.out; omega); have hc2 := (hb6.cell (p := ⟨g, 0, none⟩) hg1).trans hc1; have hg2 : g < w6.heap.size := aK hc2; have HL := Lib.hid (qi hL (w5.heap.size, (⟨9, [], []⟩ : LogS))); have HOKS := Lib.hid (HP.out.pt.logs.ok _ (List.mem_of_getElem? hL)); have HC2 := Lib.hid hc2; have HLL := Lib.hid HP.out.len; clear h6 hb6 hL hg1 hc1; obtain ⟨sh, hsh⟩ : ∃ x, ay s [] = x := ⟨_, rfl⟩; obtain ⟨sb, hsb⟩ : ∃ x, ak s [] = x := ⟨_, rfl⟩; have hof := once_facts HOKS.out; rw [hsh, hsb] at hof; have HSH := Lib.hid hsh; have HSB := Lib.hid hsb; have HOF := Lib.hid hof; obtain ⟨nh, hnh⟩ : ∃ m, m = sh.length := ⟨_, rfl⟩; obtain ⟨nb, hnb⟩ : ∃ m, m = sb.length := ⟨_, rfl⟩; have HNH := Lib.hid hnh; have HNB := Lib.hid hnb; clear hsh hsb hof hnh hnb)
      | (go_at_call 22; (with_reducible refine (eE HL6.out HL.out _ [] (ag.nil w6) (by simp) (HG.out.below (HB3.out.trans (HL6.out.bel.mono HB3.out.size))) HOF.out.1 0 nh nb sh sb rfl HSH.out HSB.out HNH.out.symm HNB.out.symm).mono ?_); rintro r w8 ⟨a1, c1, a2, c2, a3, c3, rfl, o1, o2, o3, hb8⟩; have HL8 := Lib.hid (HL6.out.call (D' := fun q => g = q ∨ (w6.heap.size ≤ q ∧ q < (w8.alloc (.cells #[.slice a1 0 c1, .slice a2 nh c2, .slice a3 nb c3] 47)).heap.size)) (hb8.alloc hb8.size (.cells #[.slice a1 0 c1, .slice a2 nh c2, .slice a3 nb c3] 47)) (fun _ h => h)); have HO1 := Lib.hid o1; have HO2 := Lib.hid o2; have HO3 := Lib.hid o3; have HR8 := Lib.hid (heap_alloc_new w8 (.cells #[.slice a1 0 c1, .slice a2 nh c2, .slice a3 nb c3] 47)); have HS8 := Lib.hid hb8.size; have HX8 := Lib.hid ((eJ o1 o2 o3 (by simp) (by have := (dx.1 HOF.out.2.1).1.2.1.1; omega) (by have := HOF.out.2.2.1; omega) (fun x hx => ((dx.1 HOF.out.2.1).2.2.1 x hx).1)).alloc (.cells #[.slice a1 0 c1, .slice a2 nh c2, .slice a3 nb c3] 47)); clear o1 o2 o3 hb8 hc2 hg2)
      | (go_at_call 23; (with_reducible refine (fZ HL8.out (kH L _) _ _ _ [] sh sb HX8.out (HG.out.below (HB3.out.trans (HL8.out.bel.mono HB3.out.size))) HOF.out.2.2.2.1 nb _ (by rw [HOF.out.2.2.2.2.1]; exact HNB.out.symm) HOF.out.2.2.2.2.2.1).mono ?_); rintro r w9 ⟨rfl, h9, hd9, hs9⟩; have HL9 := Lib.hid h9; have hd9' : ∀ q, w6.heap.size ≤ q → q < (w8.alloc (.cells #[.slice a1 0 c1, .slice a2 nh c2, .slice a3 nb c3] 47)).heap.size → w9.heap[q]? = (w8.alloc (.cells #[.slice a1 0 c1, .slice a2 nh c2, .slice a3 nb c3] 47)).heap[q]? := fun q h1 h2 => hd9 q (.inr ⟨h1, h2⟩); have hr9 := (hd9' w8.heap.size HS8.out (by simp)).trans HR8.out; have x0 := cell_of_row _ _ 0 _ _ _ hr9; have x1 := cell_of_row _ _ 1 _ _ _ hr9; have x2 := cell_of_row _ _ 2 _ _ _ hr9; simp only [List.getElem?_toArray, List.getElem?_cons_zero, List.getElem?_cons_succ] at x0 x1 x2; have hl9 : w8.heap.size < w9.heap.size := aK x0; have HR9 := Lib.hid hr9; have HX9 := Lib.hid (aB.at HX8.out hs9 (fun q hq => hd9' q (HO1.out.lt q hq).1 (by have := (HO1.out.lt q hq).2; simp; omega)) (fun q hq => hd9' q (HO2.out.lt q hq).1 (by have := (HO2.out.lt q hq).2; simp; omega)) (fun q hq => hd9' q (HO3.out.lt q hq).1 (by have := (HO3.out.lt q hq).2; simp; omega))); have HS9 := Lib.hid (show w6.heap.size ≤ w9.heap.size by have := HS8.out; omega); have HOB := Lib.hid (show ∀ q, (Value.slice a1 0 c1).ownBlock = some q ∨ (Value.slice a2 nh c2).ownBlock = some q ∨ (Value.slice a3 nb c3).ownBlock = some q → q < w9.heap.size from fun q hq => by rcases hq with h | h | h; have := (HO1.out.lt q h).2; omega; have := (HO2.out.lt q h).2; omega; have := (HO3.out.lt q h).2; omega); clear h9 hd9 hd9' hs9 hr9)
      | (go_at_call 16; (with_reducible refine (fD HL9.out (app_set L _ _) sb nb rfl HNB.out.symm).mono ?_); rintro r w10 ⟨a10, c10, rfl, o10, hb10⟩; have HL10 := Lib.hid (HL9.out.call (D' := fun q => (w6.heap.size ≤ q ∧ q < (w8.alloc (.cells #[.slice a1 0 c1, .slice a2 nh c2, .slice a3 nb c3] 47)).heap.size) ∨ (w9.heap.size ≤ q ∧ q < w10.heap.size)) hb10 (fun q hq => by rcases hq with h | h; exact .inl (.inr h); exact .inr h)); have HX10 := Lib.hid (HX9.out.below hb10); have HR10 := Lib.hid ((hb10.block _ (Array.getElem?_eq_some_iff.1 HR9.out).1).trans HR9.out); have hr10 := HR10.out; clear x0 x1 x2 hl9; have x0 := cell_of_row _ _ 0 _ _ _ hr10; have x1 := cell_of_row _ _ 1 _ _ _ hr10; have x2 := cell_of_row _ _ 2 _ _ _ hr10; simp only [List.getElem?_toArray, List.getElem?_cons_zero, List.getElem?_cons_succ] at x0 x1 x2; have hl10 : w8.heap.size < w10.heap.size := aK x0; have HO10 := Lib.hid o10; have HS10 := Lib.hid hb10.size; clear o10 hb10 hr10)
      | (go_at_call 23; (with_reducible refine (fZ HL10.out (app_set L _ _) _ _ _ [] sh sb HX10.out (HG.out.below (HB3.out.trans (HL10.out.bel.mono HB3.out.size))) HOF.out.2.2.2.2.2.2.1 0 _ (by rw [HOF.out.2.2.2.2.2.2.2.1]; exact List.length_nil) HOF.out.2.2.2.2.2.2.2.2).mono ?_); rintro r w11 ⟨rfl, h11, hd11, hs11⟩; have HL11 := Lib.hid h11; have hr11 := (hd11 w8.heap.size (.inl ⟨HS8.out, by simp⟩)).trans HR10.out; clear x0 x1 x2 hl10; have x0 := cell_of_row _ _ 0 _ _ _ hr11; have x1 := cell_of_row _ _ 1 _ _ _ hr11; have x2 := cell_of_row _ _ 2 _ _ _ hr11; simp only [List.getElem?_toArray, List.getElem?_cons_zero, List.getElem?_cons_succ] at x0 x1 x2; have hl11 : w8.heap.size < w11.heap.size := aK x0; have HR11 := Lib.hid hr11; have HV11 := Lib.hid (aD.at HX10.out.2.2.1 hs11 (fun q hq => hd11 q (.inl ⟨(HO3.out.lt q hq).1, by have := (HO3.out.lt q hq).2; simp; omega⟩))); have HW11 := Lib.hid (aD.at HO10.out.is hs11 (fun q hq => hd11 q (.inr (HO10.out.lt q hq)))); clear h11 hd11 hs11 hr11)
      | (go_at_call 16; (with_reducible refine (fD HL11.out (app_set2 L _ _ _) sb nb rfl HNB.out.symm).mono ?_); rintro r w12 ⟨a12, c12, rfl, o12, hb12⟩; have HL12 := Lib.hid (HL11.out.keep hb12); have HV12 := Lib.hid (HV11.out.below hb12); have HW12 := Lib.hid (HW11.out.below hb12); have HO12 := Lib.hid o12.is; have hr12 := (hb12.block _ (Array.getElem?_eq_some_iff.1 HR11.out).1).trans HR11.out; clear x0 x1 x2 hl11; have x0 := cell_of_row _ _ 0 _ _ _ hr12; have x1 := cell_of_row _ _ 1 _ _ _ hr12; have x2 := cell_of_row _ _ 2 _ _ _ hr12; simp only [List.getElem?_toArray, List.getElem?_cons_zero, List.getElem?_cons_succ] at x0 x1 x2; have hl12 : w8.heap.size < w12.heap.size := aK x0; clear o12 hb12 hr12)
      | (go_at_call 24; (with_reducible refine (iY _ _ sb sb true w12 HW12.out HO12.out (by have := HOF.out.2.2.1; omega) (by have := HOF.out.2.2.1; omega) (by simp)).mono ?_); rintro r w13 ⟨rfl, q13, rfl⟩; have HL13 := Lib.hid (HL12.out.keep (ed (Below.refl _ _) q13)))
      | (go_at_call 24; (with_reducible refine (iY _ _ sb sb true (w12.drewN q13) (HW12.out.drewN q13) (HV12.out.drewN q13) (by have := HOF.out.2.2.1; omega) (by have := HOF.out.2.2.1; omega) (by simp)).mono ?_); rintro r w14 ⟨rfl, q14, rfl⟩; have HL14 := Lib.hid (HL13.out.keep (ed (Below.refl _ _) q14)))
      | fail)
    go_ret
    exact ⟨rfl, HB3.out.trans ((ed HL12.out.bel _).mono HB3.out.size)⟩
  · have HS : Hid (dg l = false) := Lib.hid (by simpa using hs)
    clear hs
    go_enter Tryz.func4, Tryz.ntmps4
    go_wp2_with (first
      | (go_at_call 11; refine (eW W HG.out).mono ?_; rintro r w1 ⟨rfl, hb1⟩; have HB1 := Lib.hid hb1; clear hb1)
      | (go_at_call 13; (with_reducible refine (fd _ l w1 (HA.out.below HB1.out) hl HOK.out false HS.out).mono ?_); rintro r w3 ⟨rfl, hb3⟩; have HB3 := Lib.hid (HB1.out.trans (hb3.mono HB1.out.size)); clear hb3)
      | fail)
    go_ret
    exact ⟨rfl, HB3.out⟩
end Go.Proofs.YtdhognaoejiglaaGreatDoor
