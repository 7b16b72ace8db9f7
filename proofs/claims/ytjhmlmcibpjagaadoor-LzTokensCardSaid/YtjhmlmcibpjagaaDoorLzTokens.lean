/-
  The walk of 'packtrainkeep.LzTokens'.
-/
import Derived.Test.YtjhmlmcibpjagaaDoorLzFact
import Derived.Test.YtjhmlmcibpjagaaDoorToksEq
namespace Go.Proofs.YtjhmlmcibpjagaaDoor
open Go.RowKit

theorem below_drew' {w w' : World} {B : Nat} (h : Below B w w') (q : Nat) : Below B w (w'.drewN q) := by
  induction q with
  | zero => exact h
  | succ q ih => exact ⟨ih.os, ih.tape, ih.output, ih.size, ih.block⟩
set_option maxRecDepth 100000 in
set_option maxHeartbeats 4000000 in
theorem lzTokens_walk (w : World) (a : Option Addr) (len cap : Nat) (l : List Tok) (hv : IsToks w (.slice a len cap) l) (hn : l.length = len) (hc : len ≤ cap) (hm : cap ≤ maxLen) (hz : ∀ t ∈ l, t.own.size ≤ 140737488351232) (s : ByteArray) (hs : s.size ≤ maxLen) (hg : errT w) :
    Calls Tryd.prog 7 #[.slice a len cap, .string s] w fun e w' => e = .returned (.bool true) ∧ Below w.heap.size w w' := by
  unfold maxLen at hm hs
  have HV := Lib.hid hv
  have HZ := Lib.hid hz
  have HG := Lib.hid hg
  have HNL := Lib.hid hn
  have HLL : Hid (l.length ≤ 9223372036854775807) := Lib.hid (show l.length ≤ 9223372036854775807 by omega)
  have hl0 : len ≤ 9223372036854775807 := by omega
  obtain ⟨a1, c1, he, f1⟩ := hv.form
  have F1 := Lib.hid f1
  have HE := Lib.hid he
  clear hv hz hg hn he f1
  by_cases h60 : len ≤ 60
  · by_cases h600 : s.size ≤ 600
    · have d1 : (len : Int) ≤ 60 := by omega
      have d2 : (s.size : Int) ≤ 600 := by omega
      go_enter Tryd.func7, Tryd.ntmps7
      go_wp2_with fail
      refine (squeezed_any _ HG.out).mono ?_
      rintro r w1 ⟨rfl, hb1⟩
      have HB1 := Lib.hid hb1
      clear hb1
      go_wp2
      go_loopw [5, 26] (fun nv iv wr => ∃ (k : Nat) (x : Int), k ≤ len ∧ iv = .int .i64 k ∧ nv = .int .i64 x ∧ 0 ≤ x ∧ x ≤ (k : Int) * 140737488351232 ∧ Below w.heap.size w wr) (fun _ iv _ => len - (intOf iv).toNat)
      case atStart => exact ⟨0, 0, by omega, rfl, rfl, by omega, by omega, HB1.out⟩
      case round =>
        obtain ⟨k, x, hk, rfl, rfl, hx0, hx1, hbel⟩ := hrel
        have HB := Lib.hid hbel
        have hzr := hbel.size
        clear hbel
        by_cases hlt : k < len
        · obtain ⟨t, ht⟩ : ∃ t, l[k]? = some t := ⟨l[k]'(by have := HNL.out; omega), List.getElem?_eq_getElem _⟩
          obtain ⟨b1, o1, rfl, hb1, p0, p1, p2⟩ := F1.out k t ht
          have hsz : t.own.size ≤ 140737488351232 := HZ.out t (List.mem_of_getElem? ht)
          obtain ⟨own, back, size⟩ := t
          simp only at p0 p1 p2 hsz
          obtain rfl : a = some ⟨b1, o1, none⟩ := by have h := HE.out; injection h
          have q0 := (HB.out.cell (p := ⟨b1, o1 + k * 3, none⟩) hb1).trans p0
          have q1 := (HB.out.cell (p := ⟨b1, o1 + k * 3 + 1, none⟩) hb1).trans p1
          have q2 := (HB.out.cell (p := ⟨b1, o1 + k * 3 + 2, none⟩) hb1).trans p2
          have hx2 : x ≤ 9223372036854775807 - 140737488351232 := by omega
          clear p0 p1 p2 ht
          go_wp2
          go_roundw
          case rel => exact ⟨k + 1, x + own.size, by omega, by go_num, rfl, by omega, by omega, HB.out.alloc hzr _⟩
          case measure => simp [intOf]; omega
        · have HV1 := Lib.hid (HV.out.below HB.out)
          have HG1 := Lib.hid (HG.out.below HB.out)
          clear hx1
          by_cases hx : x ≤ 1500
          · by_cases hr : (rightF l 0 0).1 = 0
            · obtain ⟨T, hT⟩ : ∃ T : ByteArray, ⟨(writeF l).toArray⟩ = T := ⟨_, rfl⟩
              obtain ⟨_, k2, _⟩ := right_few hr
              have hTd : T.data.toList = writeL l := by rw [← hT]; show writeF l = _; unfold writeF; rw [if_pos hr]
              have HT := Lib.hid hT
              have HTZ : Hid (T.size ≤ 400000) := Lib.hid (show T.size ≤ 400000 by rw [size_data, hTd]; unfold cost at k2; omega)
              have HRD : Hid (readF T.data.toList = ((0, -1), l)) := Lib.hid (show readF T.data.toList = ((0, -1), l) by rw [hTd]; exact read_write hr)
              have HR := Lib.hid hr
              clear hr hT hTd k2
              go_wp2_with fail
              refine (lzwrite_any _ l _ HV1.out HLL.out HZ.out).mono ?_
              rintro r w2 ⟨err, rfl, hat, hb2⟩
              obtain rfl := hat.nil HR.out
              rw [HT.out]
              have HB2 : Hid (Below w.heap.size w w2) := HB.out.trans (hb2.mono hzr)
              have HV2 := Lib.hid (HV1.out.below hb2)
              have HG2 := Lib.hid (HG1.out.below hb2)
              clear hat hb2
              go_wp2_with fail
              refine (right_any _ l _ HV2.out HLL.out HZ.out).mono ?_
              rintro r w3 ⟨err, rfl, hat, hb3⟩
              obtain rfl := hat.nil HR.out
              have HB3 : Hid (Below w.heap.size w w3) := HB2.out.trans (hb3.mono HB2.out.size)
              have HV3 := Lib.hid (HV2.out.below hb3)
              have HG3 := Lib.hid (HG2.out.below hb3)
              clear hat hb3
              go_wp2_with fail
              refine (lzread_any T _ HTZ.out HG3.out).mono ?_
              rintro r w4 ⟨v, err, rfl, hok, hat, hb4⟩
              rw [HRD.out] at hok hat
              obtain rfl := hat.nil rfl
              have HB4 : Hid (Below w.heap.size w w4) := HB3.out.trans (hb4.mono HB3.out.size)
              have HV4 := Lib.hid (HV3.out.below hb4)
              have HG4 := Lib.hid (HG3.out.below hb4)
              have HK4 := Lib.hid hok
              clear hok hat hb4
              go_wp2_with fail
              refine (equal_toks _ v l _ HV4.out HK4.out.is (by have := HNL.out; omega)).mono ?_
              rintro r w5 ⟨rfl, q, rfl⟩
              have HB5 : Hid (Below w.heap.size w (w4.drewN q)) := below_drew' HB4.out q
              have HG5 : Hid (errT (w4.drewN q)) := HG4
              by_cases hrs : (readF s.data.toList).1.1 = 0
              · obtain ⟨m1, m2⟩ := read_only hrs
                obtain ⟨ks, hks⟩ : ∃ ks, (readF s.data.toList).2 = ks := ⟨_, rfl⟩
                rw [hks] at m1 m2
                obtain ⟨j1, _, _⟩ := right_few m1
                have HKS := Lib.hid hks
                have HM1 := Lib.hid m1
                have HWS : Hid ((⟨(writeF ks).toArray⟩ : ByteArray) = s) := Lib.hid (show (⟨(writeF ks).toArray⟩ : ByteArray) = s by unfold writeF; rw [if_pos m1, m2, bs_of])
                have HJ1 : Hid (ks.length ≤ 9223372036854775807) := Lib.hid (show ks.length ≤ 9223372036854775807 by omega)
                have HJ2 : Hid (∀ t ∈ ks, t.own.size ≤ 140737488351232) := Lib.hid (show ∀ t ∈ ks, t.own.size ≤ 140737488351232 from fun t ht => by have := right_own m1 t ht; omega)
                have HR0 := Lib.hid hrs
                clear m1 m2 hks hrs j1
                go_wp2_with fail
                refine (lzread_any s _ (by omega) HG5.out).mono ?_
                rintro r w6 ⟨v', err, rfl, hok, hat, hb6⟩
                obtain rfl := hat.nil HR0.out
                rw [HKS.out] at hok
                have HB6 : Hid (Below w.heap.size w w6) := HB5.out.trans (hb6.mono HB5.out.size)
                have HK6 := Lib.hid hok
                clear hok hat hb6
                go_wp2_with fail
                refine (lzwrite_any v' ks _ HK6.out.is HJ1.out HJ2.out).mono ?_
                rintro r w7 ⟨err, rfl, hat, hb7⟩
                obtain rfl := hat.nil HM1.out
                rw [HWS.out]
                have HB7 : Hid (Below w.heap.size w w7) := HB6.out.trans (hb7.mono HB6.out.size)
                clear hat hb7
                go_wp2
                go_ret
                exact ⟨by first | rfl | simp, HB7.out⟩
              · have HR0 := Lib.hid hrs
                have HRB := Lib.hid (read_bad hrs)
                clear hrs
                go_wp2_with fail
                refine (lzread_any s _ (by omega) HG5.out).mono ?_
                rintro r w6 ⟨v', err, rfl, hok, hat, hb6⟩
                obtain ⟨ty, u, rfl⟩ := hat.iface HR0.out
                rw [HRB.out] at hok
                obtain ⟨a6, c6, rfl, _⟩ := hok.is.form
                have HB6 : Hid (Below w.heap.size w w6) := HB5.out.trans (hb6.mono HB5.out.size)
                clear hok hat hb6
                go_wp2
                go_ret
                exact ⟨by first | rfl | simp, HB6.out⟩
            · have HR := Lib.hid hr
              have HW : Hid (writeF l = []) := Lib.hid (show writeF l = [] by unfold writeF; rw [if_neg hr])
              clear hr
              go_wp2_with fail
              refine (lzwrite_any _ l _ HV1.out HLL.out HZ.out).mono ?_
              rintro r w2 ⟨err, rfl, hat, hb2⟩
              obtain ⟨ty, u, rfl⟩ := hat.iface HR.out
              rw [HW.out]
              have HB2 : Hid (Below w.heap.size w w2) := HB.out.trans (hb2.mono hzr)
              have HV2 := Lib.hid (HV1.out.below hb2)
              clear hat hb2
              go_wp2_with fail
              refine (right_any _ l _ HV2.out HLL.out HZ.out).mono ?_
              rintro r w3 ⟨err, rfl, hat, hb3⟩
              obtain ⟨ty', u', rfl⟩ := hat.iface HR.out
              have HB3 : Hid (Below w.heap.size w w3) := HB2.out.trans (hb3.mono HB2.out.size)
              clear hat hb3
              go_wp2
              go_ret
              exact ⟨by first | rfl | simp, HB3.out⟩
          · have hx' : 1500 < x := by omega
            go_wp2
            go_ret
            exact ⟨rfl, HB.out⟩
    · have d1 : (len : Int) ≤ 60 := by omega
      have d2 : 600 < (s.size : Int) := by omega
      go_enter Tryd.func7, Tryd.ntmps7
      go_wp2_with fail
      refine (squeezed_any _ HG.out).mono ?_
      rintro r w1 ⟨rfl, hb1⟩
      have HB1 := Lib.hid hb1
      clear hb1
      go_wp2
      go_ret
      exact ⟨rfl, HB1.out⟩
  · have d1 : 60 < (len : Int) := by omega
    go_enter Tryd.func7, Tryd.ntmps7
    go_wp2_with fail
    refine (squeezed_any _ HG.out).mono ?_
    rintro r w1 ⟨rfl, hb1⟩
    have HB1 := Lib.hid hb1
    clear hb1
    go_wp2
    go_ret
    exact ⟨rfl, HB1.out⟩
end Go.Proofs.YtjhmlmcibpjagaaDoor
