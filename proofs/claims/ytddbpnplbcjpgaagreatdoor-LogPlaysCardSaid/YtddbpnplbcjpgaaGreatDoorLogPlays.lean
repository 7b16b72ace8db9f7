/-
  The walk of 'packtrainlaw.LogPlays': whatever is done with a log is the document's.
-/
import Derived.Test.YtddbpnplbcjpgaaGreatDoorLp31
import Derived.Test.YtddbpnplbcjpgaaGreatDoorLp06
import Derived.Test.YtddbpnplbcjpgaaGreatDoorLp12
import Derived.Test.YtddbpnplbcjpgaaGreatDoorLp07
import Derived.Test.YtddbpnplbcjpgaaGreatDoorLp29
import Derived.Test.YtddbpnplbcjpgaaGreatDoorLp09
import Derived.Test.YtddbpnplbcjpgaaGreatDoorLp28
import Derived.Test.YtddbpnplbcjpgaaGreatDoorLp04
import Derived.Test.YtddbpnplbcjpgaaGreatDoorLp05
namespace Go.Proofs.YtddbpnplbcjpgaaGreatDoor
open Go.RowKit

theorem ref_new (w : World) (rep : Int) : RefAt (w.alloc (.cells #[.int .i64 rep, .slice none 0 0, .slice none 0 0] 43)) w.heap.size (fun k => k = w.heap.size) ⟨rep, [], []⟩ :=
  ⟨[], _, _, heap_alloc_new _ _, ownsE_nil _ _, ownsW_nil _ _, List.Perm.refl _, rfl, fun k e => (by cases e), fun k e => (by cases e), fun k (e : k = _) => (by rw [e]; simp)⟩
theorem logOk_new {rep : Int} (h : 0 ≤ rep ∧ rep ≤ 200) : LogOk ⟨rep, [], []⟩ := log_new h

set_option maxRecDepth 100000 in
set_option maxHeartbeats 16000000 in
theorem logPlays_walk (w : World) (rep : Int) (_ : -9223372036854775808 ≤ rep) (_ : rep ≤ 9223372036854775807) (v : Value) (l : List Deed) (hl : IsDeeds w v l) (_ : l.length ≤ 9223372036854775807) (hok : ∀ t ∈ l, DeedOk w t) (hg : errT w) :
    Calls Tryz.prog 3 #[.int .i64 rep, v] w fun e w' => e = .returned (.bool true) ∧ Below w.heap.size w w' := by
  obtain ⟨av, cv, rfl, hf⟩ := hl.form
  obtain ⟨nd, hnd⟩ : ∃ nd, nd = l.length := ⟨_, rfl⟩
  rw [← hnd]
  have HN := Lib.hid hnd
  have HF := Lib.hid hf
  have HOKS := Lib.hid hok
  have HG := Lib.hid hg
  have hnd9 : nd ≤ 9223372036854775807 := by omega
  clear hl hf hok hg hnd
  go_enter Tryz.func3, Tryz.ntmps3
  go_wp2
  go_loopw [5, 27] (fun n i wr => ∃ (k : Nat) (x : Int), k ≤ nd ∧ i = .int .i64 k ∧ n = .int .i64 x ∧ Below w.heap.size w wr) (fun _ i _ => nd - (intOf i).toNat)
  case atStart => exact ⟨0, 0, by omega, rfl, rfl, Below.refl _ _⟩
  case round =>
    obtain ⟨k, x, hk, rfl, rfl, hb⟩ := hrel
    rename World => wq
    have HB := Lib.hid hb
    clear hb
    by_cases hlt : k < nd
    · have bt : decide ((k : Int) < (nd : Int)) = true := by simpa using hlt
      obtain ⟨d, hd⟩ : ∃ d, l[k]? = some d := ⟨l[k]'(by rw [← HN.out]; exact hlt), List.getElem?_eq_getElem _⟩
      obtain ⟨bb, boff, rfl, hbb, f0, f1, f2, f3, f4, f5, f6, f7, f8, f9⟩ := HF.out k d hd
      have HDO := Lib.hid (HOKS.out d (List.mem_of_getElem? hd))
      obtain ⟨K0, ⟨T, Rp, K, key, val, N⟩, vf, vh, vw, f, h, b⟩ := d
      simp only at f0 f1 f2 f3 f4 f5 f6 f7 f8 f9
      obtain ⟨⟨_, _, hkz, hvz⟩, hbat⟩ := HDO.out
      simp only at hkz hvz hbat
      have HBAT := Lib.hid hbat
      have HKV : Hid (key.size ≤ 140737488351232 ∧ val.size ≤ 140737488351232) := Lib.hid ⟨hkz, hvz⟩
      obtain ⟨af, cf, rfl, _⟩ := hbat.1.form
      obtain ⟨ah, ch, rfl, _⟩ := hbat.2.1.form
      obtain ⟨aw, cw, rfl, _⟩ := hbat.2.2.1.form
      obtain ⟨nf, hnf⟩ : ∃ nf, nf = f.length := ⟨_, rfl⟩
      rw [← hnf] at HBAT f7
      obtain ⟨nh, hnh⟩ : ∃ nh, nh = h.length := ⟨_, rfl⟩
      rw [← hnh] at HBAT f8
      obtain ⟨nb, hnb⟩ : ∃ nb, nb = b.length := ⟨_, rfl⟩
      rw [← hnb] at HBAT f9
      clear hbat hd hkz hvz hnf hnh hnb HDO
      have e0 := (HB.out.cell (p := ⟨bb, boff + k * 10, none⟩) hbb).trans f0
      have e1 := (HB.out.cell (p := ⟨bb, boff + k * 10 + 1, none⟩) hbb).trans f1
      have e2 := (HB.out.cell (p := ⟨bb, boff + k * 10 + 2, none⟩) hbb).trans f2
      have e3 := (HB.out.cell (p := ⟨bb, boff + k * 10 + 3, none⟩) hbb).trans f3
      have e4 := (HB.out.cell (p := ⟨bb, boff + k * 10 + 4, none⟩) hbb).trans f4
      have e5 := (HB.out.cell (p := ⟨bb, boff + k * 10 + 5, none⟩) hbb).trans f5
      have e6 := (HB.out.cell (p := ⟨bb, boff + k * 10 + 6, none⟩) hbb).trans f6
      have e7 := (HB.out.cell (p := ⟨bb, boff + k * 10 + 7, none⟩) hbb).trans f7
      have e8 := (HB.out.cell (p := ⟨bb, boff + k * 10 + 8, none⟩) hbb).trans f8
      have e9 := (HB.out.cell (p := ⟨bb, boff + k * 10 + 9, none⟩) hbb).trans f9
      clear f0 f1 f2 f3 f4 f5 f6 f7 f8 f9
      obtain ⟨cb, hcb⟩ : ∃ cb, bigV 300 f h b = cb := ⟨_, rfl⟩
      have HCB := Lib.hid hcb
      have HBA : Hid (Below w.heap.size w (wq.alloc (.cells #[.int .i64 K0, .int .i64 T, .int .i64 Rp, .int .i64 K, .string key, .string val, .int .i64 N, .slice af nf cf, .slice ah nh ch, .slice aw nb cw] 32))) := Lib.hid (HB.out.alloc HB.out.size _)
      have HROW : Hid ((wq.alloc (.cells #[.int .i64 K0, .int .i64 T, .int .i64 Rp, .int .i64 K, .string key, .string val, .int .i64 N, .slice af nf cf, .slice ah nh ch, .slice aw nb cw] 32)).heap[wq.heap.size]? = some (.cells #[.int .i64 K0, .int .i64 T, .int .i64 Rp, .int .i64 K, .string key, .string val, .int .i64 N, .slice af nf cf, .slice ah nh ch, .slice aw nb cw] 32 (0, 0))) := Lib.hid (heap_alloc_new _ _)
      have HQZ : Hid (wq.heap.size < (wq.alloc (.cells #[.int .i64 K0, .int .i64 T, .int .i64 Rp, .int .i64 K, .string key, .string val, .int .i64 N, .slice af nf cf, .slice ah nh ch, .slice aw nb cw] 32)).heap.size) := Lib.hid (by simp)
      clear hcb
      have x0 := cell_of_row _ _ 0 _ _ _ HROW.out
      have x1 := cell_of_row _ _ 1 _ _ _ HROW.out
      have x2 := cell_of_row _ _ 2 _ _ _ HROW.out
      have x3 := cell_of_row _ _ 3 _ _ _ HROW.out
      have x4 := cell_of_row _ _ 4 _ _ _ HROW.out
      have x5 := cell_of_row _ _ 5 _ _ _ HROW.out
      have x6 := cell_of_row _ _ 6 _ _ _ HROW.out
      have x7 := cell_of_row _ _ 7 _ _ _ HROW.out
      have x8 := cell_of_row _ _ 8 _ _ _ HROW.out
      have x9 := cell_of_row _ _ 9 _ _ _ HROW.out
      simp only [List.getElem?_toArray, List.getElem?_cons_zero, List.getElem?_cons_succ] at x0 x1 x2 x3 x4 x5 x6 x7 x8 x9
      go_wp2_with fail
      generalize wq.alloc (.cells #[.int .i64 K0, .int .i64 T, .int .i64 Rp, .int .i64 K, .string key, .string val, .int .i64 N, .slice af nf cf, .slice ah nh ch, .slice aw nb cw] 32) = wA at HBA HROW HQZ x0 x1 x2 x3 x4 x5 x6 x7 x8 x9 ⊢
      obtain ⟨Q, hQ⟩ : ∃ Q, Q = wq.heap.size := ⟨_, rfl⟩
      rw [← hQ] at HROW HQZ x0 x1 x2 x3 x4 x5 x6 x7 x8 x9 ⊢
      clear hQ e0 e1 e2 e3 e4 e5 e6 e7 e8 e9 x0 x1 x2 x3 x4 x5 x6 x7 x8 x9
      refine (bigL_as _ _ _ f h b cb wA (HBAT.out.below HBA.out) HCB.out).mono ?_
      rintro r w1 ⟨rfl, hb⟩
      have HB1 : Hid (Below w.heap.size w w1) := Lib.hid (HBA.out.trans (hb.mono HBA.out.size))
      have hrow := (hb.block _ HQZ.out).trans HROW.out
      clear hb
      have x0 := cell_of_row _ _ 0 _ _ _ hrow
      have x1 := cell_of_row _ _ 1 _ _ _ hrow
      have x2 := cell_of_row _ _ 2 _ _ _ hrow
      have x3 := cell_of_row _ _ 3 _ _ _ hrow
      have x4 := cell_of_row _ _ 4 _ _ _ hrow
      have x5 := cell_of_row _ _ 5 _ _ _ hrow
      have x6 := cell_of_row _ _ 6 _ _ _ hrow
      have x7 := cell_of_row _ _ 7 _ _ _ hrow
      have x8 := cell_of_row _ _ 8 _ _ _ hrow
      have x9 := cell_of_row _ _ 9 _ _ _ hrow
      simp only [List.getElem?_toArray, List.getElem?_cons_zero, List.getElem?_cons_succ] at x0 x1 x2 x3 x4 x5 x6 x7 x8 x9
      cases cb with
      | true =>
        go_wp2
        go_ret
        exact ⟨rfl, HB1.out⟩
      | false =>
        have hkz := HKV.out.1
        have hvz := HKV.out.2
        by_cases h9 : 900 < key.size + val.size
        · have h9' : (900 : Int) < (key.size : Int) + (val.size : Int) := by omega
          go_wp2
          go_ret
          exact ⟨rfl, HB1.out⟩
        · have h9' : (key.size : Int) + (val.size : Int) ≤ 900 := by omega
          go_wp2
          go_roundw
          · exact ⟨k + 1, _, by omega, by go_num, rfl, HB1.out⟩
          · simp [intOf]; omega
    · have bt : decide ((k : Int) < (nd : Int)) = false := by simp; omega
      by_cases h7 : 700 < x
      · go_wp2
        go_ret
        exact ⟨rfl, HB.out⟩
      · by_cases hr : 0 ≤ rep ∧ rep ≤ 200
        · have r1 : ¬ rep < 0 := by omega
          have r2 : ¬ 200 < rep := by omega
          have HR := Lib.hid hr
          go_wp2_with fail
          refine (lnew_any rep wq hr).mono ?_
          rintro r w1 ⟨rfl, hlog, hb⟩
          have HP0 : Hid (Play w (w1.alloc (.cells #[.int .i64 rep, .slice none 0 0, .slice none 0 0] 43)) wq.heap.size w1.heap.size (fun k => k = wq.heap.size) (fun k => k = w1.heap.size) ⟨rep, [], []⟩ ⟨rep, [], []⟩) := Lib.hid
            ⟨hlog.below ((Below.refl _ _).alloc (Nat.le_refl _) _), ref_new w1 rep, fun k (e1 : k = _) (e2 : k = _) => (by have := hlog.plt; omega),
              fun k hk => hk.elim (fun (e : k = _) => (by have := HB.out.size; omega)) (fun (e : k = _) => (by have := HB.out.size; have := hb.size; omega)), (HB.out.trans (hb.mono HB.out.size)).alloc (Nat.le_trans HB.out.size hb.size) _, logOk_new hr, logOk_new hr⟩
          clear hlog hb hr
          go_wp2_with fail
          generalize w1.alloc (.cells #[.int .i64 rep, .slice none 0 0, .slice none 0 0] 43) = w2 at HP0 ⊢
          obtain ⟨P, hP⟩ : ∃ P, P = wq.heap.size := ⟨_, rfl⟩
          obtain ⟨R, hR⟩ : ∃ R, R = w1.heap.size := ⟨_, rfl⟩
          rw [← hP, ← hR] at HP0
          rw [← hP, ← hR]
          clear hP hR r1 r2 h7 hk HR bt hlt
          go_loopw [94] (fun i wr => ∃ (k : Nat) (F G : Nat → Prop) (s : LogS), k ≤ nd ∧ i = .int .i64 k ∧ Play w wr P R F G s s) (fun i _ => nd - (intOf i).toNat)
          case atStart => exact ⟨0, _, _, _, by omega, rfl, HP0.out⟩
          case round =>
            obtain ⟨k, F, G, s, hk, rfl, hplay⟩ := hrel
            rename World => wp
            have HP := Lib.hid hplay
            have HB2 := Lib.hid hplay.bel
            clear hplay HP0
            by_cases hlt : k < nd
            · have bt : decide ((k : Int) < (nd : Int)) = true := by simpa using hlt
              obtain ⟨d, hd⟩ : ∃ d, l[k]? = some d := ⟨l[k]'(by rw [← HN.out]; exact hlt), List.getElem?_eq_getElem _⟩
              obtain ⟨bb, boff, rfl, hbb, f0, f1, f2, f3, f4, f5, f6, f7, f8, f9⟩ := HF.out k d hd
              have HDO := Lib.hid (HOKS.out d (List.mem_of_getElem? hd))
              obtain ⟨K0, ⟨T, Rp, K, key, val, N⟩, vf, vh, vw, f, h, b⟩ := d
              simp only at f0 f1 f2 f3 f4 f5 f6 f7 f8 f9
              obtain ⟨⟨_, _, hkz, hvz⟩, hbat⟩ := HDO.out
              simp only at hkz hvz hbat
              have HBAT := Lib.hid hbat
              have HKV : Hid (key.size ≤ 140737488351232 ∧ val.size ≤ 140737488351232) := Lib.hid ⟨hkz, hvz⟩
              obtain ⟨af, cf, rfl, _⟩ := hbat.1.form
              obtain ⟨ah, ch, rfl, _⟩ := hbat.2.1.form
              obtain ⟨aw, cw, rfl, _⟩ := hbat.2.2.1.form
              obtain ⟨nf, hnf⟩ : ∃ nf, nf = f.length := ⟨_, rfl⟩
              rw [← hnf] at HBAT f7
              obtain ⟨nh, hnh⟩ : ∃ nh, nh = h.length := ⟨_, rfl⟩
              rw [← hnh] at HBAT f8
              obtain ⟨nb, hnb⟩ : ∃ nb, nb = b.length := ⟨_, rfl⟩
              rw [← hnb] at HBAT f9
              clear hbat hd hkz hvz hnf hnh hnb HDO
              have e0 := (HB2.out.cell (p := ⟨bb, boff + k * 10, none⟩) hbb).trans f0
              have e1 := (HB2.out.cell (p := ⟨bb, boff + k * 10 + 1, none⟩) hbb).trans f1
              have e2 := (HB2.out.cell (p := ⟨bb, boff + k * 10 + 2, none⟩) hbb).trans f2
              have e3 := (HB2.out.cell (p := ⟨bb, boff + k * 10 + 3, none⟩) hbb).trans f3
              have e4 := (HB2.out.cell (p := ⟨bb, boff + k * 10 + 4, none⟩) hbb).trans f4
              have e5 := (HB2.out.cell (p := ⟨bb, boff + k * 10 + 5, none⟩) hbb).trans f5
              have e6 := (HB2.out.cell (p := ⟨bb, boff + k * 10 + 6, none⟩) hbb).trans f6
              have e7 := (HB2.out.cell (p := ⟨bb, boff + k * 10 + 7, none⟩) hbb).trans f7
              have e8 := (HB2.out.cell (p := ⟨bb, boff + k * 10 + 8, none⟩) hbb).trans f8
              have e9 := (HB2.out.cell (p := ⟨bb, boff + k * 10 + 9, none⟩) hbb).trans f9
              clear f0 f1 f2 f3 f4 f5 f6 f7 f8 f9
              have HPA := Lib.hid (HP.out.call ((Below.refl _ _).alloc (Nat.le_refl _) (.cells #[.int .i64 K0, .int .i64 T, .int .i64 Rp, .int .i64 K, .string key, .string val, .int .i64 N, .slice af nf cf, .slice ah nh ch, .slice aw nb cw] 32)))
              have HROW : Hid ((wp.alloc (.cells #[.int .i64 K0, .int .i64 T, .int .i64 Rp, .int .i64 K, .string key, .string val, .int .i64 N, .slice af nf cf, .slice ah nh ch, .slice aw nb cw] 32)).heap[wp.heap.size]? = some (.cells #[.int .i64 K0, .int .i64 T, .int .i64 Rp, .int .i64 K, .string key, .string val, .int .i64 N, .slice af nf cf, .slice ah nh ch, .slice aw nb cw] 32 (0, 0))) := Lib.hid (heap_alloc_new _ _)
              have HQZ : Hid (wp.heap.size < (wp.alloc (.cells #[.int .i64 K0, .int .i64 T, .int .i64 Rp, .int .i64 K, .string key, .string val, .int .i64 N, .slice af nf cf, .slice ah nh ch, .slice aw nb cw] 32)).heap.size) := Lib.hid (by simp)
              have HQF : Hid (¬ F wp.heap.size) := Lib.hid (fun h => Nat.lt_irrefl _ (HP.out.lg.lt _ h))
              have HQG : Hid (¬ G wp.heap.size) := Lib.hid (fun h => Nat.lt_irrefl _ (HP.out.rf.lt _ h))
              have x0 := cell_of_row _ _ 0 _ _ _ HROW.out
              have x1 := cell_of_row _ _ 1 _ _ _ HROW.out
              have x2 := cell_of_row _ _ 2 _ _ _ HROW.out
              have x3 := cell_of_row _ _ 3 _ _ _ HROW.out
              have x4 := cell_of_row _ _ 4 _ _ _ HROW.out
              have x5 := cell_of_row _ _ 5 _ _ _ HROW.out
              have x6 := cell_of_row _ _ 6 _ _ _ HROW.out
              have x7 := cell_of_row _ _ 7 _ _ _ HROW.out
              have x8 := cell_of_row _ _ 8 _ _ _ HROW.out
              have x9 := cell_of_row _ _ 9 _ _ _ HROW.out
              simp only [List.getElem?_toArray, List.getElem?_cons_zero, List.getElem?_cons_succ] at x0 x1 x2 x3 x4 x5 x6 x7 x8 x9
              by_cases hk0 : K0 = 0
              · subst hk0
                obtain ⟨ia, ib, e, t, hL⟩ : ∃ ia ib e t, locR s ⟨T, Rp, K, key, val, N⟩ = (ia, ib, e, t) := ⟨_, _, _, _, rfl⟩
                have HL := Lib.hid hL
                clear hL
                go_wp2_with fail
                generalize wp.alloc (.cells #[.int .i64 0, .int .i64 T, .int .i64 Rp, .int .i64 K, .string key, .string val, .int .i64 N, .slice af nf cf, .slice ah nh ch, .slice aw nb cw] 32) = wA at HPA HROW HQZ x0 x1 x2 x3 x4 x5 x6 x7 x8 x9 ⊢
                obtain ⟨Q, hQ⟩ : ∃ Q, Q = wp.heap.size := ⟨_, rfl⟩
                rw [← hQ] at HROW HQZ HQF HQG x0 x1 x2 x3 x4 x5 x6 x7 x8 x9 ⊢
                clear hQ e0 e1 e2 e3 e4 e5 e6 e7 e8 e9 x0 x1 x2 x3 x4 x5 x6 x7 x8 x9
                refine (HPA.out.rlocal T Rp K key val N HKV.out.1 HKV.out.2 HL.out).mono ?_
                rintro r w3 ⟨rfl, ⟨G2, hp3⟩, hsz3, hkp3⟩
                have hrow := (hkp3 Q HQZ.out HQG.out).trans HROW.out
                have HP4 := Lib.hid (hp3.call ((Below.refl _ _).alloc (Nat.le_refl _) (.cells #[.int .i64 ia, .int .i64 ib] 24)))
                have HROW4 : Hid ((w3.alloc (.cells #[.int .i64 ia, .int .i64 ib] 24)).heap[Q]? = some (.cells #[.int .i64 0, .int .i64 T, .int .i64 Rp, .int .i64 K, .string key, .string val, .int .i64 N, .slice af nf cf, .slice ah nh ch, .slice aw nb cw] 32 (0, 0))) := Lib.hid ((((Below.refl w3.heap.size w3).alloc (Nat.le_refl _) _).block Q (Nat.lt_of_lt_of_le HQZ.out hsz3)).trans hrow)
                have HID4 : Hid ((w3.alloc (.cells #[.int .i64 ia, .int .i64 ib] 24)).heap[w3.heap.size]? = some (.cells #[.int .i64 ia, .int .i64 ib] 24 (0, 0))) := Lib.hid (heap_alloc_new _ _)
                have HIZ4 : Hid (w3.heap.size < (w3.alloc (.cells #[.int .i64 ia, .int .i64 ib] 24)).heap.size) := Lib.hid (by simp)
                have HIF4 : Hid (¬ F w3.heap.size) := Lib.hid (fun h => Nat.lt_irrefl _ (hp3.lg.lt _ h))
                clear hp3 hsz3 hkp3 hrow
                have x0 := cell_of_row _ _ 0 _ _ _ HROW4.out
                have x1 := cell_of_row _ _ 1 _ _ _ HROW4.out
                have x2 := cell_of_row _ _ 2 _ _ _ HROW4.out
                have x3 := cell_of_row _ _ 3 _ _ _ HROW4.out
                have x4 := cell_of_row _ _ 4 _ _ _ HROW4.out
                have x5 := cell_of_row _ _ 5 _ _ _ HROW4.out
                have x6 := cell_of_row _ _ 6 _ _ _ HROW4.out
                have x7 := cell_of_row _ _ 7 _ _ _ HROW4.out
                have x8 := cell_of_row _ _ 8 _ _ _ HROW4.out
                have x9 := cell_of_row _ _ 9 _ _ _ HROW4.out
                simp only [List.getElem?_toArray, List.getElem?_cons_zero, List.getElem?_cons_succ] at x0 x1 x2 x3 x4 x5 x6 x7 x8 x9
                go_wp2_with fail
                generalize w3.alloc (.cells #[.int .i64 ia, .int .i64 ib] 24) = w4 at HP4 HROW4 HID4 HIZ4 x0 x1 x2 x3 x4 x5 x6 x7 x8 x9 ⊢
                obtain ⟨B, hB⟩ : ∃ B, B = w3.heap.size := ⟨_, rfl⟩
                rw [← hB] at HID4 HIZ4 HIF4 ⊢
                clear hB x0 x1 x2 x3 x4 x5 x6 x7 x8 x9
                refine (HP4.out.llocal T Rp K key val N HKV.out.1 HKV.out.2 (HG.out.below HP4.out.bel) HL.out).mono ?_
                rintro r w5 ⟨err, rfl, hpl, ⟨F2, hp5⟩, hsz5, hkp5⟩
                have hid5 := (hkp5 B HIZ4.out HIF4.out).trans HID4.out
                have HP6 := Lib.hid (hp5.call ((Below.refl _ _).alloc (Nat.le_refl _) (.cells #[.int .i64 ia, .int .i64 ib] 24)))
                have HPL6 := Lib.hid (hpl.alloc (.cells #[.int .i64 ia, .int .i64 ib] 24))
                have HIDa : Hid ((w5.alloc (.cells #[.int .i64 ia, .int .i64 ib] 24)).heap[B]? = some (.cells #[.int .i64 ia, .int .i64 ib] 24 (0, 0))) := Lib.hid ((((Below.refl w5.heap.size w5).alloc (Nat.le_refl _) _).block B (Nat.lt_of_lt_of_le HIZ4.out hsz5)).trans hid5)
                have HIDb : Hid ((w5.alloc (.cells #[.int .i64 ia, .int .i64 ib] 24)).heap[w5.heap.size]? = some (.cells #[.int .i64 ia, .int .i64 ib] 24 (0, 0))) := Lib.hid (heap_alloc_new _ _)
                have HZa : Hid (B < (w5.alloc (.cells #[.int .i64 ia, .int .i64 ib] 24)).heap.size) := Lib.hid (by have := HIZ4.out; simp; omega)
                have HZb : Hid (w5.heap.size < (w5.alloc (.cells #[.int .i64 ia, .int .i64 ib] 24)).heap.size) := Lib.hid (by simp)
                clear hpl hp5 hsz5 hkp5 hid5
                go_wp2_with fail
                generalize w5.alloc (.cells #[.int .i64 ia, .int .i64 ib] 24) = w6 at HP6 HPL6 HIDa HIDb HZa HZb ⊢
                obtain ⟨C, hC⟩ : ∃ C, C = w5.heap.size := ⟨_, rfl⟩
                rw [← hC] at HIDb HZb ⊢
                clear hC
                refine (bare_ok err e w6 (HG.out.below HP6.out.bel) HPL6.out).mono ?_
                rintro r w7 ⟨rfl, hb7⟩
                have HP7 := Lib.hid (HP6.out.call hb7)
                have ha := (hb7.block _ HZa.out).trans HIDa.out
                have hc := (hb7.block _ HZb.out).trans HIDb.out
                have a0 := cell_of_row _ _ 0 _ _ _ ha
                have a1 := cell_of_row _ _ 1 _ _ _ ha
                have c0 := cell_of_row _ _ 0 _ _ _ hc
                have c1 := cell_of_row _ _ 1 _ _ _ hc
                simp only [List.getElem?_toArray, List.getElem?_cons_zero, List.getElem?_cons_succ] at a0 a1 c0 c1
                clear hb7 ha hc
                obtain ⟨uu, vhh, vll, hrf⟩ := HP7.out.rf
                obtain ⟨ar, cr, rfl, _⟩ := hrf.ents.is.form
                obtain ⟨nr, hnr⟩ : ∃ nr, nr = t.hv.length := ⟨_, rfl⟩
                rw [← hnr] at hrf
                clear hnr
                have HRF := Lib.hid hrf
                clear hrf
                have HPD := Lib.hid (HP7.out.call (Below.refl _ _).drew)
                have HLH : Hid (t.hv.length ≤ 1000000) := Lib.hid (by have := HP7.out.okt.hv.1; omega)
                have k0 : w7.drew.cell? ⟨R, 1, none⟩ = some (.slice ar nr cr) := (HRF.out.below (Below.refl _ _).drew).c1
                go_wp2_with fail
                go_region_held3 (fun w' => w'.cell? ⟨R, 1, none⟩ = some (.slice ar nr cr)) (first | exact k0 | exact k1 | exact k2 | fail) (first
                  | (go_at_call 16; ((with_reducible refine (lhave_any P t F2 w7.drew HPD.out.lg HPD.out.oks).mono ?_); rintro r wH ⟨vH, rfl, hoH, hbH⟩; have HBH : Hid (Below w7.heap.size w7 wH) := Lib.hid (undrewR hbH); have HRH := Lib.hid (HRF.out.below HBH.out); have HEH := Lib.hid hoH.is; have HIH := Lib.hid HRH.out.ents.is; have k1 : wH.cell? ⟨R, 1, none⟩ = some (.slice ar nr cr) := HRH.out.c1; clear hbH hoH))
                  | (go_at_call 15; ((with_reducible refine (equal_same vH (.slice ar nr cr) t.hv wH HEH.out HIH.out HLH.out).mono ?_); rintro r wE ⟨rfl, qE, rfl⟩; have k2 : (wH.drewN qE).cell? ⟨R, 1, none⟩ = some (.slice ar nr cr) := k1)))
                go_wp2
                go_roundw
                · exact ⟨k + 1, F2, G2, t, by omega, by go_num, HP7.out.call (below_drewN HBH.out _)⟩
                · simp [intOf]; omega
              · have kb0 : (K0 == 0) = false := by simpa using hk0
                by_cases hk1 : K0 = 1
                · subst hk1
                  obtain ⟨n, e, pl, t, hA⟩ : ∃ n e pl t, accR s f h b = (n, (e, pl), t) := ⟨_, _, _, _, rfl⟩
                  have HA := Lib.hid hA
                  clear hA
                  go_wp2_with fail
                  generalize wp.alloc (.cells #[.int .i64 1, .int .i64 T, .int .i64 Rp, .int .i64 K, .string key, .string val, .int .i64 N, .slice af nf cf, .slice ah nh ch, .slice aw nb cw] 32) = wA at HPA HROW HQZ x0 x1 x2 x3 x4 x5 x6 x7 x8 x9 ⊢
                  obtain ⟨Q, hQ⟩ : ∃ Q, Q = wp.heap.size := ⟨_, rfl⟩
                  rw [← hQ] at HROW HQZ HQF HQG x0 x1 x2 x3 x4 x5 x6 x7 x8 x9 ⊢
                  clear hQ e0 e1 e2 e3 e4 e5 e6 e7 e8 e9 x0 x1 x2 x3 x4 x5 x6 x7 x8 x9
                  refine (HPA.out.raccept _ _ _ f h b (HBAT.out.below HPA.out.bel) HA.out).mono ?_
                  rintro r w3 ⟨rfl, ⟨G2, hp3⟩, hsz3, hkp3⟩
                  have hrow := (hkp3 Q HQZ.out HQG.out).trans HROW.out
                  have HP4 := Lib.hid (hp3.call ((Below.refl _ _).alloc (Nat.le_refl _) (.cells #[.int .i64 (e : Int), .int .i64 pl] 49)))
                  have HROW4 : Hid ((w3.alloc (.cells #[.int .i64 (e : Int), .int .i64 pl] 49)).heap[Q]? = some (.cells #[.int .i64 1, .int .i64 T, .int .i64 Rp, .int .i64 K, .string key, .string val, .int .i64 N, .slice af nf cf, .slice ah nh ch, .slice aw nb cw] 32 (0, 0))) := Lib.hid ((((Below.refl w3.heap.size w3).alloc (Nat.le_refl _) _).block Q (Nat.lt_of_lt_of_le HQZ.out hsz3)).trans hrow)
                  have HID4 : Hid ((w3.alloc (.cells #[.int .i64 (e : Int), .int .i64 pl] 49)).heap[w3.heap.size]? = some (.cells #[.int .i64 (e : Int), .int .i64 pl] 49 (0, 0))) := Lib.hid (heap_alloc_new _ _)
                  have HIZ4 : Hid (w3.heap.size < (w3.alloc (.cells #[.int .i64 (e : Int), .int .i64 pl] 49)).heap.size) := Lib.hid (by simp)
                  have HIF4 : Hid (¬ F w3.heap.size) := Lib.hid (fun h => Nat.lt_irrefl _ (hp3.lg.lt _ h))
                  clear hp3 hsz3 hkp3 hrow
                  have x0 := cell_of_row _ _ 0 _ _ _ HROW4.out
                  have x1 := cell_of_row _ _ 1 _ _ _ HROW4.out
                  have x2 := cell_of_row _ _ 2 _ _ _ HROW4.out
                  have x3 := cell_of_row _ _ 3 _ _ _ HROW4.out
                  have x4 := cell_of_row _ _ 4 _ _ _ HROW4.out
                  have x5 := cell_of_row _ _ 5 _ _ _ HROW4.out
                  have x6 := cell_of_row _ _ 6 _ _ _ HROW4.out
                  have x7 := cell_of_row _ _ 7 _ _ _ HROW4.out
                  have x8 := cell_of_row _ _ 8 _ _ _ HROW4.out
                  have x9 := cell_of_row _ _ 9 _ _ _ HROW4.out
                  simp only [List.getElem?_toArray, List.getElem?_cons_zero, List.getElem?_cons_succ] at x0 x1 x2 x3 x4 x5 x6 x7 x8 x9
                  go_wp2_with fail
                  generalize w3.alloc (.cells #[.int .i64 (e : Int), .int .i64 pl] 49) = w4 at HP4 HROW4 HID4 HIZ4 x0 x1 x2 x3 x4 x5 x6 x7 x8 x9 ⊢
                  obtain ⟨B, hB⟩ : ∃ B, B = w3.heap.size := ⟨_, rfl⟩
                  rw [← hB] at HID4 HIZ4 HIF4 ⊢
                  clear hB x0 x1 x2 x3 x4 x5 x6 x7 x8 x9
                  refine (HP4.out.laccept _ _ _ f h b (HBAT.out.below HP4.out.bel) (HG.out.below HP4.out.bel) HA.out).mono ?_
                  rintro r w5 ⟨err, rfl, hpl, ⟨F2, hp5⟩, hsz5, hkp5⟩
                  have hid5 := (hkp5 B HIZ4.out HIF4.out).trans HID4.out
                  have HP5 := Lib.hid hp5
                  have HPL5 := Lib.hid hpl
                  have a0 := cell_of_row _ _ 0 _ _ _ hid5
                  have a1 := cell_of_row _ _ 1 _ _ _ hid5
                  simp only [List.getElem?_toArray, List.getElem?_cons_zero, List.getElem?_cons_succ] at a0 a1
                  clear hpl hp5 hsz5 hkp5 hid5
                  go_wp2_with fail
                  refine (placed_ok err e pl w5 (HG.out.below HP5.out.bel) HPL5.out).mono ?_
                  rintro r w7 ⟨rfl, hb7⟩
                  have HP7 := Lib.hid (HP5.out.call hb7)
                  clear hb7 a0 a1
                  obtain ⟨uu, vhh, vll, hrf⟩ := HP7.out.rf
                  obtain ⟨ar, cr, rfl, _⟩ := hrf.ents.is.form
                  obtain ⟨nr, hnr⟩ : ∃ nr, nr = t.hv.length := ⟨_, rfl⟩
                  rw [← hnr] at hrf
                  clear hnr
                  have HRF := Lib.hid hrf
                  clear hrf
                  have HPD := Lib.hid (HP7.out.call (Below.refl _ _).drew)
                  have HLH : Hid (t.hv.length ≤ 1000000) := Lib.hid (by have := HP7.out.okt.hv.1; omega)
                  have k0 : w7.drew.cell? ⟨R, 1, none⟩ = some (.slice ar nr cr) := (HRF.out.below (Below.refl _ _).drew).c1
                  go_wp2_with fail
                  go_region_held3 (fun w' => w'.cell? ⟨R, 1, none⟩ = some (.slice ar nr cr)) (first | exact k0 | exact k1 | exact k2 | fail) (first
                    | (go_at_call 16; ((with_reducible refine (lhave_any P t F2 w7.drew HPD.out.lg HPD.out.oks).mono ?_); rintro r wH ⟨vH, rfl, hoH, hbH⟩; have HBH : Hid (Below w7.heap.size w7 wH) := Lib.hid (undrewR hbH); have HRH := Lib.hid (HRF.out.below HBH.out); have HEH := Lib.hid hoH.is; have HIH := Lib.hid HRH.out.ents.is; have k1 : wH.cell? ⟨R, 1, none⟩ = some (.slice ar nr cr) := HRH.out.c1; clear hbH hoH))
                    | (go_at_call 15; ((with_reducible refine (equal_same vH (.slice ar nr cr) t.hv wH HEH.out HIH.out HLH.out).mono ?_); rintro r wE ⟨rfl, qE, rfl⟩; have k2 : (wH.drewN qE).cell? ⟨R, 1, none⟩ = some (.slice ar nr cr) := k1)))
                  go_wp2
                  go_roundw
                  · exact ⟨k + 1, F2, G2, t, by omega, by go_num, HP7.out.call (below_drewN HBH.out _)⟩
                  · simp [intOf]; omega
                · have kb1 : (K0 == 1) = false := by simpa using hk1
                  by_cases hk2 : K0 = 2
                  · subst hk2
                    obtain ⟨f1, h1, b1, e, hS⟩ : ∃ f1 h1 b1 e, sinR s f = (f1, h1, b1, e) := ⟨_, _, _, _, rfl⟩
                    have HS := Lib.hid hS
                    clear hS
                    go_wp2_with fail
                    generalize wp.alloc (.cells #[.int .i64 2, .int .i64 T, .int .i64 Rp, .int .i64 K, .string key, .string val, .int .i64 N, .slice af nf cf, .slice ah nh ch, .slice aw nb cw] 32) = wA at HPA HROW HQZ x0 x1 x2 x3 x4 x5 x6 x7 x8 x9 ⊢
                    obtain ⟨Q, hQ⟩ : ∃ Q, Q = wp.heap.size := ⟨_, rfl⟩
                    rw [← hQ] at HROW HQZ HQF HQG x0 x1 x2 x3 x4 x5 x6 x7 x8 x9 ⊢
                    clear hQ e0 e1 e2 e3 e4 e5 e6 e7 e8 e9 x0 x1 x2 x3 x4 x5 x6 x7 x8 x9
                    refine (HPA.out.rsince _ f (HBAT.out.below HPA.out.bel).1 HBAT.out.2.2.2.1 HS.out).mono ?_
                    rintro r w3 ⟨va, vb, vc, rfl, hx3, hb3⟩
                    obtain ⟨a1, c1, rfl, _⟩ := hx3.1.form
                    obtain ⟨n1, hnn1⟩ : ∃ n, n = f1.length := ⟨_, rfl⟩
                    rw [← hnn1] at hx3
                    obtain ⟨a2, c2, rfl, _⟩ := hx3.2.1.form
                    obtain ⟨n2, hnn2⟩ : ∃ n, n = h1.length := ⟨_, rfl⟩
                    rw [← hnn2] at hx3
                    obtain ⟨a3, c3, rfl, _⟩ := hx3.2.2.1.form
                    obtain ⟨n3, hnn3⟩ : ∃ n, n = b1.length := ⟨_, rfl⟩
                    rw [← hnn3] at hx3
                    rw [← hnn1, ← hnn2, ← hnn3]
                    clear hnn1 hnn2 hnn3
                    have HP4 := Lib.hid ((HPA.out.call hb3).call ((Below.refl _ _).alloc (Nat.le_refl _) (.cells #[.slice a1 n1 c1, .slice a2 n2 c2, .slice a3 n3 c3] 30)))
                    have HX4 := Lib.hid (hx3.alloc (.cells #[.slice a1 n1 c1, .slice a2 n2 c2, .slice a3 n3 c3] 30))
                    have HROW4 : Hid ((w3.alloc (.cells #[.slice a1 n1 c1, .slice a2 n2 c2, .slice a3 n3 c3] 30)).heap[Q]? = some (.cells #[.int .i64 2, .int .i64 T, .int .i64 Rp, .int .i64 K, .string key, .string val, .int .i64 N, .slice af nf cf, .slice ah nh ch, .slice aw nb cw] 32 (0, 0))) := Lib.hid ((((Below.refl w3.heap.size w3).alloc (Nat.le_refl _) _).block Q (Nat.lt_of_lt_of_le HQZ.out hb3.size)).trans ((hb3.block _ HQZ.out).trans HROW.out))
                    have HID4 : Hid ((w3.alloc (.cells #[.slice a1 n1 c1, .slice a2 n2 c2, .slice a3 n3 c3] 30)).heap[w3.heap.size]? = some (.cells #[.slice a1 n1 c1, .slice a2 n2 c2, .slice a3 n3 c3] 30 (0, 0))) := Lib.hid (heap_alloc_new _ _)
                    have HIZ4 : Hid (w3.heap.size < (w3.alloc (.cells #[.slice a1 n1 c1, .slice a2 n2 c2, .slice a3 n3 c3] 30)).heap.size) := Lib.hid (by simp)
                    clear hx3 hb3
                    have x0 := cell_of_row _ _ 0 _ _ _ HROW4.out
                    have x1 := cell_of_row _ _ 1 _ _ _ HROW4.out
                    have x2 := cell_of_row _ _ 2 _ _ _ HROW4.out
                    have x3 := cell_of_row _ _ 3 _ _ _ HROW4.out
                    have x4 := cell_of_row _ _ 4 _ _ _ HROW4.out
                    have x5 := cell_of_row _ _ 5 _ _ _ HROW4.out
                    have x6 := cell_of_row _ _ 6 _ _ _ HROW4.out
                    have x7 := cell_of_row _ _ 7 _ _ _ HROW4.out
                    have x8 := cell_of_row _ _ 8 _ _ _ HROW4.out
                    have x9 := cell_of_row _ _ 9 _ _ _ HROW4.out
                    simp only [List.getElem?_toArray, List.getElem?_cons_zero, List.getElem?_cons_succ] at x0 x1 x2 x3 x4 x5 x6 x7 x8 x9
                    go_wp2_with fail
                    generalize w3.alloc (.cells #[.slice a1 n1 c1, .slice a2 n2 c2, .slice a3 n3 c3] 30) = w4 at HP4 HX4 HROW4 HID4 HIZ4 x0 x1 x2 x3 x4 x5 x6 x7 x8 x9 ⊢
                    obtain ⟨B, hB⟩ : ∃ B, B = w3.heap.size := ⟨_, rfl⟩
                    rw [← hB] at HID4 HIZ4 ⊢
                    clear hB x0 x1 x2 x3 x4 x5 x6 x7 x8 x9
                    refine (HP4.out.lsince _ f (HBAT.out.below HP4.out.bel).1 HBAT.out.2.2.2.1 (HG.out.below HP4.out.bel) HS.out).mono ?_
                    rintro r w5 ⟨ua, ub, uc, err, rfl, hpl, hy5, hb5⟩
                    obtain ⟨a4, c4, rfl, _⟩ := hy5.1.form
                    obtain ⟨n4, hnn4⟩ : ∃ n, n = f1.length := ⟨_, rfl⟩
                    rw [← hnn4] at hy5
                    obtain ⟨a5, c5, rfl, _⟩ := hy5.2.1.form
                    obtain ⟨n5, hnn5⟩ : ∃ n, n = h1.length := ⟨_, rfl⟩
                    rw [← hnn5] at hy5
                    obtain ⟨a6, c6, rfl, _⟩ := hy5.2.2.1.form
                    obtain ⟨n6, hnn6⟩ : ∃ n, n = b1.length := ⟨_, rfl⟩
                    rw [← hnn6] at hy5
                    rw [← hnn4, ← hnn5, ← hnn6]
                    clear hnn4 hnn5 hnn6
                    have HP6 := Lib.hid ((HP4.out.call hb5).call ((Below.refl _ _).alloc (Nat.le_refl _) (.cells #[.slice a4 n4 c4, .slice a5 n5 c5, .slice a6 n6 c6] 30)))
                    have HX6 := Lib.hid ((HX4.out.below hb5).alloc (.cells #[.slice a4 n4 c4, .slice a5 n5 c5, .slice a6 n6 c6] 30))
                    have HY6 := Lib.hid (hy5.alloc (.cells #[.slice a4 n4 c4, .slice a5 n5 c5, .slice a6 n6 c6] 30))
                    have HPL6 := Lib.hid (hpl.alloc (.cells #[.slice a4 n4 c4, .slice a5 n5 c5, .slice a6 n6 c6] 30))
                    have HIDa : Hid ((w5.alloc (.cells #[.slice a4 n4 c4, .slice a5 n5 c5, .slice a6 n6 c6] 30)).heap[B]? = some (.cells #[.slice a1 n1 c1, .slice a2 n2 c2, .slice a3 n3 c3] 30 (0, 0))) := Lib.hid ((((Below.refl w5.heap.size w5).alloc (Nat.le_refl _) _).block B (Nat.lt_of_lt_of_le HIZ4.out hb5.size)).trans ((hb5.block _ HIZ4.out).trans HID4.out))
                    have HIDb : Hid ((w5.alloc (.cells #[.slice a4 n4 c4, .slice a5 n5 c5, .slice a6 n6 c6] 30)).heap[w5.heap.size]? = some (.cells #[.slice a4 n4 c4, .slice a5 n5 c5, .slice a6 n6 c6] 30 (0, 0))) := Lib.hid (heap_alloc_new _ _)
                    have HZa : Hid (B < (w5.alloc (.cells #[.slice a4 n4 c4, .slice a5 n5 c5, .slice a6 n6 c6] 30)).heap.size) := Lib.hid (by have := HIZ4.out; have := hb5.size; simp; omega)
                    have HZb : Hid (w5.heap.size < (w5.alloc (.cells #[.slice a4 n4 c4, .slice a5 n5 c5, .slice a6 n6 c6] 30)).heap.size) := Lib.hid (by simp)
                    clear hpl hy5 hb5
                    go_wp2_with fail
                    generalize w5.alloc (.cells #[.slice a4 n4 c4, .slice a5 n5 c5, .slice a6 n6 c6] 30) = w6 at HP6 HX6 HY6 HPL6 HIDa HIDb HZa HZb ⊢
                    obtain ⟨C, hC⟩ : ∃ C, C = w5.heap.size := ⟨_, rfl⟩
                    rw [← hC] at HIDb HZb ⊢
                    clear hC
                    refine (bare_ok err e w6 (HG.out.below HP6.out.bel) HPL6.out).mono ?_
                    rintro r w7 ⟨rfl, hb7⟩
                    have HP7 := Lib.hid (HP6.out.call hb7)
                    have HX7 := Lib.hid (HX6.out.below hb7)
                    have HY7 := Lib.hid (HY6.out.below hb7)
                    have ha := (hb7.block _ HZa.out).trans HIDa.out
                    have hc := (hb7.block _ HZb.out).trans HIDb.out
                    have d0 := cell_of_row _ _ 0 _ _ _ ha
                    have d1 := cell_of_row _ _ 1 _ _ _ ha
                    have d2 := cell_of_row _ _ 2 _ _ _ ha
                    have d3 := cell_of_row _ _ 0 _ _ _ hc
                    have d4 := cell_of_row _ _ 1 _ _ _ hc
                    have d5 := cell_of_row _ _ 2 _ _ _ hc
                    simp only [List.getElem?_toArray, List.getElem?_cons_zero, List.getElem?_cons_succ] at d0 d1 d2 d3 d4 d5
                    clear hb7 ha hc
                    go_wp2_with fail
                    refine (rbsame_as _ _ _ _ _ _ f1 h1 b1 f1 h1 b1 true w7 HX7.out HY7.out (sameV_self _ _ _)).mono ?_
                    rintro r w8 ⟨rfl, hb8⟩
                    have HP8 := Lib.hid (HP7.out.call hb8)
                    clear hb8 d0 d1 d2 d3 d4 d5
                    obtain ⟨uu, vhh, vll, hrf⟩ := HP8.out.rf
                    obtain ⟨ar, cr, rfl, _⟩ := hrf.ents.is.form
                    obtain ⟨nr, hnr⟩ : ∃ nr, nr = s.hv.length := ⟨_, rfl⟩
                    rw [← hnr] at hrf
                    clear hnr
                    have HRF := Lib.hid hrf
                    clear hrf
                    have HPD := Lib.hid (HP8.out.call (Below.refl _ _).drew)
                    have HLH : Hid (s.hv.length ≤ 1000000) := Lib.hid (by have := HP8.out.okt.hv.1; omega)
                    have k0 : w8.drew.cell? ⟨R, 1, none⟩ = some (.slice ar nr cr) := (HRF.out.below (Below.refl _ _).drew).c1
                    go_wp2_with fail
                    go_region_held3 (fun w' => w'.cell? ⟨R, 1, none⟩ = some (.slice ar nr cr)) (first | exact k0 | exact k1 | exact k2 | fail) (first
                      | (go_at_call 16; ((with_reducible refine (lhave_any P s F w8.drew HPD.out.lg HPD.out.oks).mono ?_); rintro r wH ⟨vH, rfl, hoH, hbH⟩; have HBH : Hid (Below w8.heap.size w8 wH) := Lib.hid (undrewR hbH); have HRH := Lib.hid (HRF.out.below HBH.out); have HEH := Lib.hid hoH.is; have HIH := Lib.hid HRH.out.ents.is; have k1 : wH.cell? ⟨R, 1, none⟩ = some (.slice ar nr cr) := HRH.out.c1; clear hbH hoH))
                      | (go_at_call 15; ((with_reducible refine (equal_same vH (.slice ar nr cr) s.hv wH HEH.out HIH.out HLH.out).mono ?_); rintro r wE ⟨rfl, qE, rfl⟩; have k2 : (wH.drewN qE).cell? ⟨R, 1, none⟩ = some (.slice ar nr cr) := k1)))
                    go_wp2
                    go_roundw
                    · exact ⟨k + 1, F, G, s, by omega, by go_num, HP8.out.call (below_drewN HBH.out _)⟩
                    · simp [intOf]; omega
                  · have kb2 : (K0 == 2) = false := by simpa using hk2
                    go_wp2_with fail
                    generalize wp.alloc (.cells #[.int .i64 K0, .int .i64 T, .int .i64 Rp, .int .i64 K, .string key, .string val, .int .i64 N, .slice af nf cf, .slice ah nh ch, .slice aw nb cw] 32) = wA at HPA HROW HQZ x0 x1 x2 x3 x4 x5 x6 x7 x8 x9 ⊢
                    obtain ⟨Q, hQ⟩ : ∃ Q, Q = wp.heap.size := ⟨_, rfl⟩
                    rw [← hQ] at HROW HQZ HQF HQG x0 x1 x2 x3 x4 x5 x6 x7 x8 x9 ⊢
                    clear hQ e0 e1 e2 e3 e4 e5 e6 e7 e8 e9 x0 x1 x2 x3 x4 x5 x6 x7 x8 x9
                    obtain ⟨uu, vhh, vll, hrf⟩ := HPA.out.rf
                    obtain ⟨ar, cr, rfl, _⟩ := hrf.ents.is.form
                    obtain ⟨nr, hnr⟩ : ∃ nr, nr = s.hv.length := ⟨_, rfl⟩
                    rw [← hnr] at hrf
                    clear hnr
                    have HRF := Lib.hid hrf
                    clear hrf
                    have HPD := Lib.hid (HPA.out.call (Below.refl _ _).drew)
                    have HLH : Hid (s.hv.length ≤ 1000000) := Lib.hid (by have := HPA.out.okt.hv.1; omega)
                    have k0 : wA.drew.cell? ⟨R, 1, none⟩ = some (.slice ar nr cr) := (HRF.out.below (Below.refl _ _).drew).c1
                    go_region_held3 (fun w' => w'.cell? ⟨R, 1, none⟩ = some (.slice ar nr cr)) (first | exact k0 | exact k1 | exact k2 | fail) (first
                      | (go_at_call 16; ((with_reducible refine (lhave_any P s F wA.drew HPD.out.lg HPD.out.oks).mono ?_); rintro r wH ⟨vH, rfl, hoH, hbH⟩; have HBH : Hid (Below wA.heap.size wA wH) := Lib.hid (undrewR hbH); have HRH := Lib.hid (HRF.out.below HBH.out); have HEH := Lib.hid hoH.is; have HIH := Lib.hid HRH.out.ents.is; have k1 : wH.cell? ⟨R, 1, none⟩ = some (.slice ar nr cr) := HRH.out.c1; clear hbH hoH))
                      | (go_at_call 15; ((with_reducible refine (equal_same vH (.slice ar nr cr) s.hv wH HEH.out HIH.out HLH.out).mono ?_); rintro r wE ⟨rfl, qE, rfl⟩; have k2 : (wH.drewN qE).cell? ⟨R, 1, none⟩ = some (.slice ar nr cr) := k1)))
                    go_wp2
                    go_roundw
                    · exact ⟨k + 1, F, G, s, by omega, by go_num, HPA.out.call (below_drewN HBH.out _)⟩
                    · simp [intOf]; omega
            · have bt : decide ((k : Int) < (nd : Int)) = false := by simp; omega
              have HL3 : Hid (s.ws.length ≤ 300) := Lib.hid HP.out.oks.len
              go_wp2_with fail
              refine (lwrites_any P s F wp HP.out.lg HP.out.oks).mono ?_
              rintro r w3 ⟨u1, rfl, ho1, hb1⟩
              have HP3 := Lib.hid (HP.out.call hb1)
              have HI1 := Lib.hid ho1.is
              clear ho1 hb1
              obtain ⟨uu, vhh, vll, hrf⟩ := HP3.out.rf
              have HRF := Lib.hid hrf
              clear hrf
              go_wp2_with fail
              refine (rwrites_any R G s uu vhh vll w3 HRF.out HP3.out.okt).mono ?_
              rintro r w4 ⟨a2, c2, rfl, hi2, hb2⟩
              have HP4 := Lib.hid (HP3.out.call hb2)
              have HRF4 := Lib.hid (HRF.out.below hb2)
              have HI1b := Lib.hid (HI1.out.below hb2)
              have HI2 := Lib.hid hi2
              clear hi2 hb2
              go_wp2_with fail
              refine (equalw_as _ _ s.ws s.ws true w4 HI1b.out HI2.out (by have := HL3.out; omega) (by have := HL3.out; omega) (by simp)).mono ?_
              rintro r w5 ⟨rfl, q, rfl⟩
              have HBQ : Hid (Below w4.heap.size w4 (w4.drewN q)) := Lib.hid (below_drewN (Below.refl _ _) q)
              have HP5 := Lib.hid (HP4.out.call HBQ.out)
              have HRF5 := Lib.hid (HRF4.out.below HBQ.out)
              go_wp2_with fail
              refine (lcells_any P s F _ HP5.out.lg HP5.out.oks).mono ?_
              rintro r w6 ⟨u3, rfl, hc3, hb6, _⟩
              have HP6 := Lib.hid (HP5.out.call hb6)
              have HRF6 := Lib.hid (HRF5.out.below hb6)
              have HC3 := Lib.hid hc3
              clear hb6 hc3
              go_wp2_with fail
              refine (rwrites_any R G s uu vhh vll w6 HRF6.out HP6.out.okt).mono ?_
              rintro r w7 ⟨a4, c4, rfl, hi4, hb7⟩
              have HP7 := Lib.hid (HP6.out.call hb7)
              have HC4 := Lib.hid (HC3.out.below hb7)
              have HI4 := Lib.hid hi4
              clear hi4 hb7
              go_wp2_with fail
              refine (rcells_any _ s.ws w7 HI4.out (fun x hx => (HP7.out.oks.mem x hx).1) (by have := HL3.out; omega)).mono ?_
              rintro r w8 ⟨u5, rfl, hc5, hb8⟩
              have HP8 := Lib.hid (HP7.out.call hb8)
              have HC5 := Lib.hid (HC4.out.below hb8)
              have HC6 := Lib.hid hc5
              clear hc5 hb8
              go_wp2_with fail
              refine (same_any u3 u5 (cellsF s.ws) w8 HC5.out HC6.out (by have := HL3.out; have := cellsF_len s.ws; omega) (fun p hp => by have := HL3.out; have := cellsF_lists s.ws p hp; omega)).mono ?_
              rintro r w9 ⟨rfl, hb9⟩
              have HP9 := Lib.hid (HP8.out.call hb9)
              clear hb9
              go_wp2
              go_ret
              exact ⟨rfl, HP9.out.bel⟩
        · have HLB := Lib.hid (lnew_bad rep wq hr)
          have HPI : Hid (placeIs wq (.iface 40 (.int .i64 2)) (2 : Nat) (-1)) := Lib.hid (placeIs_errN wq 2)
          by_cases hr0 : rep < 0
          · go_wp2_with fail
            refine HLB.out.mono ?_
            rintro r w1 ⟨rfl, rfl⟩
            go_wp2_with fail
            refine (bare_ok _ 2 wq (HG.out.below HB.out) HPI.out).mono ?_
            rintro r w1 ⟨rfl, hb⟩
            have HB1 : Hid (Below w.heap.size w w1) := Lib.hid (HB.out.trans (hb.mono HB.out.size))
            clear hb
            go_wp2
            go_ret
            exact ⟨rfl, HB1.out⟩
          · have hr2 : 200 < rep := by omega
            go_wp2_with fail
            refine HLB.out.mono ?_
            rintro r w1 ⟨rfl, rfl⟩
            go_wp2_with fail
            refine (bare_ok _ 2 wq (HG.out.below HB.out) HPI.out).mono ?_
            rintro r w1 ⟨rfl, hb⟩
            have HB1 : Hid (Below w.heap.size w w1) := Lib.hid (HB.out.trans (hb.mono HB.out.size))
            clear hb
            go_wp2
            go_ret
            exact ⟨rfl, HB1.out⟩
end Go.Proofs.YtddbpnplbcjpgaaGreatDoor
