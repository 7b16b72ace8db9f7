/-
  The walk of 'packtrainkeep.KeysFew'.
-/
import Derived.Test.YtimaddmgooefdaaDoorKeyCat
import Derived.Test.YtimaddmgooefdaaDoorKeysBack
import Derived.Deep.RegionHeld3
import Derived.IntWalk
namespace Go.Proofs.YtimaddmgooefdaaDoor
open Go.RowKit

theorem take_new {T : List ByteArray} (hn : T.Nodup) {k : Nat} {s : ByteArray} (h : T[k]? = some s) : s ∉ T.take k := by
  intro hc
  obtain ⟨m, hm⟩ := List.mem_iff_getElem?.1 hc
  have hmk : m < k := by have := (List.getElem?_eq_some_iff.1 hm).1; simp at this; omega
  rw [List.getElem?_take_of_lt hmk] at hm
  have e1 := idxB_at hn hm
  have e2 := idxB_at hn h
  omega

theorem take_is {w : World} {a : Option Addr} {N cap : Nat} {l : List ByteArray} (h : IsTexts w (.slice a N cap) l) (hN : N = l.length) (i c : Nat) (hi : i ≤ N) (hc : i ≤ c) : IsTexts w (.slice a i c) (l.take i) := by
  subst hN; exact h.take i c hi hc

set_option maxRecDepth 100000 in
set_option maxHeartbeats 4000000 in
theorem keysFew_walk (w : World) (v : Value) (l : List ByteArray) (hv : IsTexts w v l) (hl : l.length ≤ 140737488351232) (hs : ∀ s ∈ l, s.size ≤ 140737488351232) (u : Value) (r : List ByteArray) (hu : IsTexts w u r) (hr : r.length ≤ 140737488351232)
    (hz : ∀ s ∈ r, s.size ≤ 140737488351232) (hg : errT w) :
    Calls Tryd.prog 6 #[v, u] w fun e w' => e = .returned (.bool true) ∧ Below w.heap.size w w' := by
  obtain ⟨a1, c1, rfl⟩ := hv.form
  obtain ⟨a2, c2, rfl⟩ := hu.form
  have HV := Lib.hid hv
  have HU := Lib.hid hu
  have HS := Lib.hid hs
  have HZ := Lib.hid hz
  have HG := Lib.hid hg
  obtain ⟨n, hn⟩ : ∃ n, n = l.length := ⟨_, rfl⟩
  obtain ⟨m, hm⟩ : ∃ m, m = r.length := ⟨_, rfl⟩
  rw [← hn] at hl HV ⊢
  rw [← hm] at hr HU ⊢
  have HN := Lib.hid hn
  have HM := Lib.hid hm
  clear hv hu hs hz hg hn hm
  go_enter Tryd.func6, Tryd.ntmps6
  go_wp2_with fail
  refine (tabled_any w HG.out).mono ?_
  rintro e w0 ⟨rfl, hb0⟩
  have HB0 := Lib.hid hb0
  have HV0 := Lib.hid (HV.out.below hb0)
  have HU0 := Lib.hid (HU.out.below hb0)
  clear hb0 HV HU HG
  by_cases hbig : 100 < n + m
  · have hb : (100 : Int) < (n : Int) + m := by omega
    go_wp2
    go_ret
    exact ⟨rfl, HB0.out⟩
  · have hb : ¬ (100 : Int) < (n : Int) + m := by omega
    have HL6 : Hid (l.length ≤ 100) := Lib.hid (by rw [← HN.out]; omega)
    have HLR : Hid ((l ++ r).length ≤ 100) := Lib.hid (by rw [List.length_append, ← HN.out, ← HM.out]; omega)
    go_wp2_with fail
    refine (ktab_any _ l w0 HV0.out (Nat.le_trans HL6.out (by decide)) HS.out).mono ?_
    rintro e w1 ⟨v1, v2, rfl, ho1, ho2, hb1⟩
    obtain ⟨at1, ct1, rfl⟩ := ho1.isTexts.form
    obtain ⟨K, hK⟩ : ∃ K, K = (tabK [] l).length := ⟨_, rfl⟩
    have HT1 := Lib.hid ho1.isTexts
    rw [← hK] at HT1 ⊢
    have HK := Lib.hid hK
    have HKL : Hid (K ≤ 100) := Lib.hid (by rw [hK]; exact Nat.le_trans (tabK_len l []) (by have := HL6.out; simp; omega))
    have HV1 := Lib.hid (HV0.out.below hb1)
    have HU1 := Lib.hid (HU0.out.below hb1)
    have HB1 := Lib.hid (HB0.out.trans (hb1.mono HB0.out.size))
    clear ho1 ho2 hb1 hK HV0 HU0 HB0
    go_wp2_with fail
    obtain ⟨W, hW⟩ : ∃ W, W = (w1.alloc (.cells #[.slice at1 K ct1] 22)).alloc (.cells #[.slice a1 n c1, .slice a2 m c2] 22) := ⟨_, rfl⟩
    rw [← hW]
    obtain ⟨B, hB⟩ : ∃ B, B = w1.heap.size := ⟨_, rfl⟩
    rw [← hB]
    have hbW : Below w1.heap.size w1 W := by rw [hW]; exact ((Below.refl _ _).alloc (Nat.le_refl _) _).alloc (by simp) _
    have c0 : W.cell? ⟨B, 0, none⟩ = some (.slice at1 K ct1) := by rw [hW, hB]; simp
    have d0 : W.cell? ⟨B + 1, 0, none⟩ = some (.slice a1 n c1) := by rw [hW, hB]; simp
    have d1 : W.cell? ⟨B + 1, 1, none⟩ = some (.slice a2 m c2) := by rw [hW, hB]; simp
    have hBW : B + 1 < W.heap.size := by rw [hW, hB]; simp
    have HBW := Lib.hid hBW
    have HV2 := Lib.hid (HV1.out.below hbW)
    have HU2 := Lib.hid (HU1.out.below hbW)
    have HT2 := Lib.hid (HT1.out.below hbW)
    have HB2 := Lib.hid (HB1.out.trans (hbW.mono HB1.out.size))
    clear hW hB hbW hBW HV1 HU1 HT1 HB1
    refine (kcat_any _ _ l r (B + 1) _ W HV2.out HU2.out (by have := HLR.out; rw [List.length_append] at this; omega) HBW.out d0 d1).mono ?_
    rintro e w2 ⟨v3, rfl, ho3, hb3⟩
    obtain ⟨a3, c3, rfl⟩ := ho3.isTexts.form
    obtain ⟨X, hX⟩ : ∃ X, X = (l ++ r).length := ⟨_, rfl⟩
    have HX := Lib.hid ho3.isTexts
    rw [← hX] at HX ⊢
    have C0 := Lib.hid ((hb3.cell (p := ⟨B, 0, none⟩) (Nat.lt_of_succ_lt HBW.out)).trans c0)
    have HBX := Lib.hid (Nat.lt_of_lt_of_le (Nat.lt_of_succ_lt HBW.out) hb3.size)
    have HV3 := Lib.hid (HV2.out.below hb3)
    have HT3 := Lib.hid (HT2.out.below hb3)
    have HB3 := Lib.hid (HB2.out.trans (hb3.mono HB2.out.size))
    clear ho3 hb3 c0 d0 d1 hX HBW HV2 HU2 HT2 HB2
    go_wp2_with fail
    have hsz : ∀ s ∈ l ++ r, s.size ≤ 140737488351232 := fun s hs => (List.mem_append.1 hs).elim (HS.out s) (HZ.out s)
    have hln : (l ++ r).length ≤ 1000000 := Nat.le_trans HLR.out (by decide)
    refine (ktab_any _ (l ++ r) w2 HX.out hln hsz).mono ?_
    rintro e w3 ⟨v4, v5, rfl, ho4, ho5, hb4⟩
    have c0 : w3.cell? ⟨B, 0, none⟩ = some (.slice at1 K ct1) := (hb4.cell (p := ⟨B, 0, none⟩) HBX.out).trans C0.out
    have HU4 := Lib.hid ho4.isTexts
    have HN5 := Lib.hid ho5.isNums
    have HV4 := Lib.hid (HV3.out.below hb4)
    have HT4 := Lib.hid (HT3.out.below hb4)
    have HB4 := Lib.hid (HB3.out.trans (hb4.mono HB3.out.size))
    obtain ⟨a4, c4, rfl⟩ := ho4.isTexts.form
    obtain ⟨a5, c5, rfl⟩ := ho5.isNums.form
    obtain ⟨M, hM⟩ : ∃ M, M = (tabK [] (l ++ r)).length := ⟨_, rfl⟩
    obtain ⟨Z, hZ⟩ : ∃ Z, Z = ((atK [] (l ++ r)).map Int.ofNat).length := ⟨_, rfl⟩
    rw [← hM] at HU4 ⊢
    rw [← hZ] at HN5 ⊢
    have HMM := Lib.hid hM
    have hZ2 : Z = n + m := by rw [hZ, List.length_map, atK_len, List.length_append, ← HN.out, ← HM.out]
    subst hZ2
    clear ho4 ho5 hb4 hM hZ C0 HBX HV3 HT3 HB3 HX
    go_wp2_with fail
    have HND : Hid ((tabK [] l).Nodup) := Lib.hid (tabK_nodup l [] (by simp))
    go_loop [34] (fun i => ∃ k : Nat, k ≤ K ∧ i = .int .i64 k) (fun i => K - (intOf i).toNat)
    case atStart => exact ⟨0, Nat.zero_le _, rfl⟩
    case round =>
      obtain ⟨k, hk, rfl⟩ := hrel
      by_cases hlt : k < K
      · have hkl := HKL.out
        obtain ⟨s, hs⟩ : ∃ s, (tabK [] l)[k]? = some s := ⟨(tabK [] l)[k]'(by have := HK.out; omega), List.getElem?_eq_getElem _⟩
        have hkc : K ≤ ct1 := by obtain ⟨_, _, e, hle, _⟩ := HT4.out; cases e; have := HK.out; omega
        obtain ⟨b1, o1, ea, hb1, p0⟩ : ∃ b off, at1 = some ⟨b, off, none⟩ ∧ b < w3.heap.size ∧ w3.cell? ⟨b, off + k, none⟩ = some (.string s) := by
          obtain ⟨_, _, e, _, F1⟩ := HT4.out
          cases e
          exact F1 k s hs
        have HTK := Lib.hid (take_is HT4.out HK.out k ct1 (by omega) (by omega))
        have HNO := Lib.hid (take_new HND.out hs)
        have HIN : Hid (s ∈ l) := Lib.hid ((tabK_sub l [] s (List.mem_of_getElem? hs)).elim (fun h => by cases h) id)
        rw [ea] at c0 HTK ⊢
        have EA := Lib.hid ea
        have hkc1 : k ≤ ct1 := by omega
        clear hs ea
        go_wp2_with fail
        refine (kcont_any _ _ s w3 HTK.out (by rw [List.length_take]; have := HK.out; have := HKL.out; omega) false (decide_eq_false HNO.out)).mono ?_
        rintro e w' ⟨rfl, rfl⟩
        go_wp2_with fail
        refine (kcont_any _ _ s w3 HV4.out (by rw [← HN.out]; omega) true (decide_eq_true HIN.out)).mono ?_
        rintro e w' ⟨rfl, rfl⟩
        go_wp2
        go_round
        case rel => exact ⟨k + 1, by omega, by go_num⟩
        case measure => simp [intOf]; omega
      · obtain rfl : k = K := by omega
        go_wp2
        have hpre : tabK [] l <+: tabK [] (l ++ r) := by rw [tabK_app]; exact tabK_pre r _
        have HKM : Hid (k ≤ M) := Lib.hid (by rw [HK.out, HMM.out]; exact hpre.length_le)
        have HMC : Hid (M ≤ c4) := Lib.hid (by obtain ⟨_, _, e, hle, _⟩ := HU4.out; cases e; rw [HMM.out]; exact hle)
        have HU5 : Hid (IsTexts w3 (.slice a4 k c4) (tabK [] l)) := Lib.hid (by
          have h := take_is HU4.out HMM.out k c4 HKM.out (Nat.le_trans HKM.out HMC.out)
          have h2 := List.prefix_iff_eq_take.1 hpre
          rw [← HK.out] at h2
          rw [h2]; exact h)
        have hkm : (k : Int) ≤ M := by have := HKM.out; omega
        have hkc : (k : Int) ≤ c4 := by have := HKM.out; have := HMC.out; omega
        have hkn : (0 : Int) ≤ (k : Int) := by omega
        have hmf : ∀ (fn : Fn) (first cap : Array Value) (w : World), (Instr.makeFunc fn first cap).run Tryd.prog w = .ok (.func fn first cap) w := fun _ _ _ _ => rfl
        have HUD := Lib.hid HU5.out.drew
        have HTD := Lib.hid HT4.out.drew
        have HVD := Lib.hid HV4.out.drew
        have HBD : Hid (Below w.heap.size w w3.drew) := Lib.hid HB4.out.drew
        have HKD : Hid (k ≤ 9223372036854775807) := Lib.hid (by have := HKL.out; omega)
        have HSUB : Hid (∀ s ∈ l, s ∈ tabK [] l) := Lib.hid (fun s hs => tabK_has l [] s hs)
        clear hpre hk hlt
        go_region_held3 (fun w' => w'.cell? ⟨B, 0, none⟩ = some (.slice at1 k ct1)) (first | exact c0 | exact k5 | fail) (first
          | (go_at_call 19; ((refine (kcontf_any _ (.slice at1 k ct1) l (tabK [] l) B w3.drew HVD.out HTD.out (Nat.le_trans HL6.out (by decide)) (by rw [← HK.out]; exact HKD.out) c0 HSUB.out).mono ?_); rintro e w' ⟨rfl, rfl⟩))
          | (go_at_call 13; ((refine (teq_same _ _ (tabK [] l) w3.drew HUD.out HTD.out (by rw [← HK.out]; exact HKD.out)).mono ?_); rintro e w5 ⟨rfl, hq5⟩; have k5 : w5.cell? ⟨B, 0, none⟩ = some (.slice at1 k ct1) := (by obtain ⟨q, rfl⟩ := hq5; exact c0); have HB5 : Hid (Below w.heap.size w w5) := Lib.hid (HBD.out.trans ((by obtain ⟨q, rfl⟩ := hq5; exact drewN_below _ q : Below w3.drew.heap.size w3.drew w5).mono HBD.out.size)); clear hq5))
          | fail)
        go_wp2
        go_ret
        refine ⟨?_, HB5.out⟩
        have hwr : IntKind.i64.wrap ((n : Int) + m) = (n : Int) + m := IntWalk.i64_in _ (by omega)
        simp [hwr]
end Go.Proofs.YtimaddmgooefdaaDoor
