/-
  The walk of 'packtrainkeep.LzLong'.
-/
import Derived.Test.YtjhmlmcibpjagaaDoorLzFact
import Derived.Test.YtjhmlmcibpjagaaDoorMatchFound
namespace Go.Proofs.YtjhmlmcibpjagaaDoor
open Go.RowKit

theorem sumT_take (l : List Tok) (k : Nat) (t : Tok) (h : l[k]? = some t) : sumT (l.take (k + 1)) = sumT (l.take k) + lenT t := by
  obtain ⟨hk, e⟩ := List.getElem?_eq_some_iff.1 h
  rw [List.take_succ_eq_append_getElem hk, sumT_app, e]; rfl

set_option maxRecDepth 100000 in
set_option maxHeartbeats 4000000 in
theorem lzLong_walk (s : ByteArray) (hs : s.size ≤ maxLen) (w : World) (hg : errT w) :
    Calls Tryd.prog 10 #[.string s] w fun e w' => e = .returned (.bool true) ∧ Below w.heap.size w w' := by
  have HG := Lib.hid hg
  unfold maxLen at hs
  clear hg
  by_cases h1 : s.size ≤ 600
  · have d1 : (s.size : Int) ≤ 600 := by omega
    by_cases hr : (readF s.data.toList).1.1 = 0
    · have HR0 := Lib.hid hr
      have hr2 := (read_only hr).1
      obtain ⟨f1, f2, f3⟩ := right_few hr2
      obtain ⟨l, hl⟩ : ∃ l, (readF s.data.toList).2 = l := ⟨_, rfl⟩
      rw [hl] at hr2 f1 f2 f3
      have HL := Lib.hid hl
      have HR2 := Lib.hid hr2
      have HOW := Lib.hid (right_own hr2)
      have HFI := Lib.hid (right_fine hr2)
      obtain ⟨T, hT⟩ : ∃ T : ByteArray, ⟨(swellF s.data.toList).toArray⟩ = T := ⟨_, rfl⟩
      have HTS : Hid (T.size = sumT l) := Lib.hid (show T.size = sumT l by rw [size_data, ← hT, bs_data, swell_ok hr, hl, textL_sum]; simp)
      have HT := Lib.hid hT
      clear hr hr2 hl hT f2
      go_enter Tryd.func10, Tryd.ntmps10
      go_wp2_with fail
      refine (squeezed_any _ HG.out).mono ?_
      rintro r w1 ⟨rfl, hb1⟩
      have HB1 := Lib.hid hb1
      have HG1 := Lib.hid (HG.out.below hb1)
      clear hb1
      go_wp2_with fail
      refine (found_any _).mono ?_
      rintro r w2 ⟨rfl, hb2⟩
      have HB2 : Hid (Below w.heap.size w w2) := HB1.out.trans (hb2.mono HB1.out.size)
      have HG2 := Lib.hid (HG1.out.below hb2)
      clear hb2
      go_wp2_with fail
      refine (lzread_any s _ (by omega) HG2.out).mono ?_
      rintro r w3 ⟨v, err, rfl, hok, hat, hb3⟩
      obtain rfl := hat.nil HR0.out
      rw [HL.out] at hok
      obtain ⟨a1, c1, rfl, F⟩ := hok.is.form
      have F1 := Lib.hid F
      have HIS := Lib.hid hok.is
      have HB3 : Hid (Below w.heap.size w w3) := HB2.out.trans (hb3.mono HB2.out.size)
      have HG3 := Lib.hid (HG2.out.below hb3)
      obtain ⟨n, hn⟩ : ∃ n, n = l.length := ⟨_, rfl⟩
      rw [← hn] at f1 HIS ⊢
      have HN := Lib.hid hn
      clear hok hat hb3 F hn
      go_wp2
      go_loopw [7, 41] (fun nv iv wr => ∃ k : Nat, k ≤ n ∧ iv = .int .i64 k ∧ nv = .int .i64 ((sumT (l.take k) : Nat) : Int) ∧ Below w3.heap.size w3 wr) (fun _ iv _ => n - (intOf iv).toNat)
      case atStart => exact ⟨0, by omega, rfl, rfl, Below.refl _ _⟩
      case round =>
        obtain ⟨k, hk, rfl, rfl, hbel⟩ := hrel
        have HB := Lib.hid hbel
        have hzr := hbel.size
        clear hbel
        by_cases hlt : k < n
        · obtain ⟨t, ht⟩ : ∃ t, l[k]? = some t := ⟨l[k]'(by have := HN.out; omega), List.getElem?_eq_getElem _⟩
          obtain ⟨b1, o1, rfl, hb1, p0, p1, p2⟩ := F1.out k t ht
          have HST := Lib.hid (sumT_take l k t ht)
          have hsl : sumT (l.take (k + 1)) ≤ 20000 := by
            have h := sumT_app (l.take (k + 1)) (l.drop (k + 1))
            rw [List.take_append_drop] at h; omega
          have hsz : t.own.size ≤ 20000 := HOW.out t (List.mem_of_getElem? ht)
          obtain ⟨z, hz⟩ : ∃ z : Nat, t.size = (z : Int) ∧ z ≤ 67 := by
            rcases (HFI.out t (List.mem_of_getElem? ht)).1 with ⟨_, h, _⟩ | ⟨_, h, h', _⟩
            · exact ⟨0, h, by omega⟩
            · exact ⟨t.size.toNat, by omega, by omega⟩
          obtain ⟨hz, hz2⟩ := hz
          have hln : ((sumT (l.take (k + 1)) : Nat) : Int) = ((sumT (l.take k) : Nat) : Int) + ((t.own.size : Int) + (z : Int)) := by
            rw [HST.out]; unfold lenT; rw [hz]; omega
          obtain ⟨own, back, size⟩ := t
          simp only at p0 p1 p2 hsz hz hln
          subst hz
          obtain ⟨x, hx⟩ : ∃ x, sumT (l.take k) = x := ⟨_, rfl⟩
          rw [hx] at hln ⊢
          have hxl : x ≤ 20000 := by rw [← hx]; have := HST.out; omega
          have HLN := Lib.hid hln
          have q0 := (HB.out.cell (p := ⟨b1, o1 + k * 3, none⟩) hb1).trans p0
          have q1 := (HB.out.cell (p := ⟨b1, o1 + k * 3 + 1, none⟩) hb1).trans p1
          have q2 := (HB.out.cell (p := ⟨b1, o1 + k * 3 + 2, none⟩) hb1).trans p2
          clear p0 p1 p2 ht hln hx hsl
          go_wp2
          go_roundw
          case rel => exact ⟨k + 1, by omega, by go_num, by rw [HLN.out], HB.out.alloc hzr _⟩
          case measure => simp [intOf]; omega
        · have hkn : k = n := by omega
          have hsum : sumT (l.take k) = T.size := by rw [hkn, HN.out, List.take_length, HTS.out]
          rw [hsum]
          have HIS2 := Lib.hid (HIS.out.below HB.out)
          have HGR := Lib.hid (HG3.out.below HB.out)
          have HBR : Hid (Below w.heap.size w wr) := HB3.out.trans (HB.out.mono HB3.out.size)
          have hts : T.size ≤ 20000 := by have := HTS.out; omega
          clear hkn hsum
          go_wp2_with fail
          refine (lzswell_any s _ (by omega) HGR.out).mono ?_
          rintro r w4 ⟨err, rfl, hat, hb4⟩
          obtain rfl := hat.nil HR0.out
          rw [HT.out]
          have HB4 : Hid (Below w.heap.size w w4) := HBR.out.trans (hb4.mono HBR.out.size)
          have HIS4 := Lib.hid (HIS2.out.below hb4)
          clear hat hb4
          go_wp2_with fail
          refine (right_any _ l _ HIS4.out (by have := HN.out; omega) (fun t ht => by have := HOW.out t ht; omega)).mono ?_
          rintro r w5 ⟨err, rfl, hat, hb5⟩
          obtain rfl := hat.nil HR2.out
          have HB5 : Hid (Below w.heap.size w w5) := HB4.out.trans (hb5.mono HB4.out.size)
          clear hat hb5
          go_wp2
          go_ret
          exact ⟨by first | rfl | simp, HB5.out⟩
    · have HR0 := Lib.hid hr
      have HSB := Lib.hid (swell_bad hr)
      clear hr
      go_enter Tryd.func10, Tryd.ntmps10
      go_wp2_with fail
      refine (squeezed_any _ HG.out).mono ?_
      rintro r w1 ⟨rfl, hb1⟩
      have HB1 := Lib.hid hb1
      have HG1 := Lib.hid (HG.out.below hb1)
      clear hb1
      go_wp2_with fail
      refine (found_any _).mono ?_
      rintro r w2 ⟨rfl, hb2⟩
      have HB2 : Hid (Below w.heap.size w w2) := HB1.out.trans (hb2.mono HB1.out.size)
      have HG2 := Lib.hid (HG1.out.below hb2)
      clear hb2
      go_wp2_with fail
      refine (lzread_any s _ (by omega) HG2.out).mono ?_
      rintro r w3 ⟨v, err, rfl, hok, hat, hb3⟩
      obtain ⟨ty, u, rfl⟩ := hat.iface HR0.out
      have HB3 : Hid (Below w.heap.size w w3) := HB2.out.trans (hb3.mono HB2.out.size)
      have HG3 := Lib.hid (HG2.out.below hb3)
      clear hok hat hb3
      go_wp2_with fail
      refine (lzswell_any s _ (by omega) HG3.out).mono ?_
      rintro r w4 ⟨err, rfl, hat, hb4⟩
      obtain ⟨ty', u', rfl⟩ := hat.iface HR0.out
      rw [HSB.out]
      have HB4 : Hid (Below w.heap.size w w4) := HB3.out.trans (hb4.mono HB3.out.size)
      clear hat hb4
      go_wp2
      go_ret
      exact ⟨by first | rfl | simp, HB4.out⟩
  · have d1 : 600 < (s.size : Int) := by omega
    go_enter Tryd.func10, Tryd.ntmps10
    go_wp2_with fail
    refine (squeezed_any _ HG.out).mono ?_
    rintro r w1 ⟨rfl, hb1⟩
    have HB1 := Lib.hid hb1
    have HG1 := Lib.hid (HG.out.below hb1)
    clear hb1
    go_wp2_with fail
    refine (found_any _).mono ?_
    rintro r w2 ⟨rfl, hb2⟩
    have HB2 : Hid (Below w.heap.size w w2) := HB1.out.trans (hb2.mono HB1.out.size)
    clear hb2
    go_wp2
    go_ret
    exact ⟨rfl, HB2.out⟩
end Go.Proofs.YtjhmlmcibpjagaaDoor
