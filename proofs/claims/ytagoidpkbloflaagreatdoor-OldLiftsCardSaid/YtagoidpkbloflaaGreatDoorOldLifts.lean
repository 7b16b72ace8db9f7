/-
  The walk of 'packtrainlaw.OldLifts'.
-/
import Derived.Test.YtagoidpkbloflaaGreatDoorKl47
import Derived.Test.YtagoidpkbloflaaGreatDoorKl10
import Derived.Test.YtagoidpkbloflaaGreatDoorKl11
namespace Go.Proofs.YtagoidpkbloflaaGreatDoor
open Go.RowKit

theorem unf_ne {s : List UInt8} {x : Nat} {pl : Int} (h : unfF s = .inl (x, pl)) : x ≠ 0 := by
  obtain ⟨v, i, e, h0⟩ : ∃ v i e, opnF s = (v, i, e) := ⟨_, _, _, rfl⟩
  by_cases he : e = 0
  · subst he
    by_cases hv : v = 3
    · subst hv
      obtain ⟨b, e2, h1⟩ : ∃ b e, unpF i = (b, e) := ⟨_, _, rfl⟩
      by_cases he2 : e2 = 0
      · subst he2
        match h2 : unbF b with
        | .inl (y, q) => rw [kZ h0 h1 h2] at h; injection h with h; injection h with h3 _; rw [← h3]; exact gD h2
        | .inr (f, g, l) =>
          by_cases h3 : frmL b = s
          · rw [l7 h0 h1 h2 h3] at h; cases h
          · rw [l5 h0 h1 h2 h3] at h; injection h with h; injection h with h3 _; rw [← h3]; decide
      · rw [fR h0 h1 he2] at h; injection h with h; injection h with h3 _; rw [← h3]; exact he2
    · rw [nV h0 hv] at h; injection h with h; injection h with h3 _; rw [← h3]; decide
  · rw [nT h0 he] at h; injection h with h; injection h with h3 _; rw [← h3]; exact he
theorem old_ne {s : List UInt8} {x : Nat} {pl : Int} (h : oldF s = .inl (x, pl)) : x ≠ 0 := by
  obtain ⟨v, i, e, h0⟩ : ∃ v i e, opnF s = (v, i, e) := ⟨_, _, _, rfl⟩
  by_cases he : e = 0
  · subst he
    by_cases hv : v = 3
    · subst hv; rw [mD h0] at h; injection h with h; injection h with h3 _; rw [← h3]; decide
    · by_cases hv2 : v = 2
      · subst hv2; rw [jT h0] at h; exact gD h
      · match h1 : unO i with
        | .inl e => rw [mz h0 hv hv2 h1] at h; injection h with h; injection h with h3 _; rw [← h3]; exact sa h1
        | .inr b => rw [mB h0 hv hv2 h1] at h; cases h
  · rw [mC h0 he] at h; injection h with h; injection h with h3 _; rw [← h3]; exact he
theorem any_ne {s : List UInt8} {x : Nat} {pl : Int} (h : anyF s = .inl (x, pl)) : x ≠ 0 := by
  obtain ⟨v, i, e, h0⟩ : ∃ v i e, opnF s = (v, i, e) := ⟨_, _, _, rfl⟩
  by_cases he : e = 0
  · subst he
    by_cases hv : v = 3
    · subst hv; rw [lB h0] at h; exact unf_ne h
    · rw [lz h0 hv] at h; exact old_ne h
  · rw [lA h0 he] at h; injection h with h; injection h with h3 _; rw [← h3]; exact he

set_option maxRecDepth 100000 in
set_option maxHeartbeats 4000000 in
theorem oldLifts_walk (s : ByteArray) (hs0 : s.size ≤ 140737488351232) (w : World) (hg : errT w) :
    Calls Tryz.prog 3 #[.string s] w fun e w' => e = .returned (.bool true) ∧ Below w.heap.size w w' := by
  have HG := Lib.hid hg
  clear hg
  by_cases hbig : 2000 < s.size
  · have d1 : (2000 : Int) < (s.size : Int) := by omega
    go_enter Tryz.func3, Tryz.ntmps3
    go_wp2
    go_ret
    exact ⟨rfl, Below.refl _ _⟩
  have d1 : (s.size : Int) ≤ 2000 := by omega
  have HS : Hid (s.size ≤ 400000) := Lib.hid (by omega)
  obtain ⟨x, pl, f, h, l, hr⟩ := xM (anyF s.data.toList)
  have HR := Lib.hid hr
  clear hr
  obtain ⟨nf, hnf⟩ : ∃ nf, nf = f.length := ⟨_, rfl⟩
  obtain ⟨nh, hnh⟩ : ∃ nh, nh = h.length := ⟨_, rfl⟩
  obtain ⟨n, hn⟩ : ∃ n, n = l.length := ⟨_, rfl⟩
  have HU : Hid (∀ w, Calls Tryz.prog 4 #[.string s] w fun r w' => ∃ a1 c1 a2 c2 a3 c3, r = .returned (.tuple #[.agg #[.slice a1 nf c1, .slice a2 nh c2, .slice a3 n c3], .agg #[.int .i64 (x : Int), .int .i64 pl]]) ∧ aR w' (.slice a1 nf c1) (.slice a2 nh c2) (.slice a3 n c3) f h l ∧ Below w.heap.size w w') := Lib.hid (fun w => by
    rw [hnf, hnh, hn]
    refine (zh s w HS.out).mono ?_
    intro r w' hq
    obtain ⟨a1, c1, a2, c2, a3, c3, h1, h2, h3⟩ := hq x pl f h l HR.out
    exact ⟨a1, c1, a2, c2, a3, c3, h1, h2.bat, h3⟩)
  have HRD : Hid (∀ w, errT w → Calls Tryz.prog 5 #[.string s] w fun r w' => ∃ a1 c1 a2 c2 a3 c3 err, r = .returned (.tuple #[.agg #[.slice a1 nf c1, .slice a2 nh c2, .slice a3 n c3], err]) ∧ aR w' (.slice a1 nf c1) (.slice a2 nh c2) (.slice a3 n c3) f h l ∧ az w' err (x, pl) ∧ Below w.heap.size w w') := Lib.hid (fun w hg => by
    rw [hnf, hnh, hn]
    exact (qk s w HS.out hg).mono (fun r w' hq => zt hq HR.out))
  clear hnf hnh hn hs0 hbig
  go_enter Tryz.func3, Tryz.ntmps3
  go_wp2_with fail
  refine (HU.out _).mono ?_
  rintro r w1 ⟨a1, c1, a2, c2, a3, c3, rfl, hx1, hb1⟩
  have HX1 := Lib.hid ((hx1.alloc (.cells #[.slice a1 nf c1, .slice a2 nh c2, .slice a3 n c3] 25)).alloc (.cells #[.int .i64 (x : Int), .int .i64 pl] 28))
  have HB1 : Hid (Below w.heap.size w ((w1.alloc (.cells #[.slice a1 nf c1, .slice a2 nh c2, .slice a3 n c3] 25)).alloc (.cells #[.int .i64 (x : Int), .int .i64 pl] 28))) := Lib.hid ((hb1.alloc hb1.size _).alloc (by have := hb1.size; simp; omega) _)
  have HA1 := Lib.hid ((cy w1 (.slice a1 nf c1) (.slice a2 nh c2) (.slice a3 n c3) 25).below ((Below.refl _ _).alloc (Nat.le_refl _) (.cells #[.int .i64 (x : Int), .int .i64 pl] 28)) (by simp))
  have HF1 : Hid (rowF ((w1.alloc (.cells #[.slice a1 nf c1, .slice a2 nh c2, .slice a3 n c3] 25)).alloc (.cells #[.int .i64 (x : Int), .int .i64 pl] 28)) (w1.heap.size + 1) (x : Int) pl) := Lib.hid (heap_alloc2_new w1 _ _)
  have HZ1 : Hid (w1.heap.size + 1 < ((w1.alloc (.cells #[.slice a1 nf c1, .slice a2 nh c2, .slice a3 n c3] 25)).alloc (.cells #[.int .i64 (x : Int), .int .i64 pl] 28)).heap.size) := Lib.hid (by simp)
  clear hx1 hb1
  go_wp2_with fail
  refine (HRD.out _ (HG.out.below HB1.out)).mono ?_
  generalize (w1.alloc (.cells #[.slice a1 nf c1, .slice a2 nh c2, .slice a3 n c3] 25)).alloc (.cells #[.int .i64 (x : Int), .int .i64 pl] 28) = W at HX1 HB1 HA1 HF1 HZ1 ⊢
  rintro r w2 ⟨e1, d1', e2, d2', e3, d3', err, rfl, hx2, hat, hb2⟩
  have HX2 := Lib.hid (hx2.alloc (.cells #[.slice e1 nf d1', .slice e2 nh d2', .slice e3 n d3'] 25))
  have HE2 : Hid (Below W.heap.size W (w2.alloc (.cells #[.slice e1 nf d1', .slice e2 nh d2', .slice e3 n d3'] 25))) := Lib.hid (hb2.alloc hb2.size _)
  have HAT := Lib.hid (hat.below (w' := w2.alloc (.cells #[.slice e1 nf d1', .slice e2 nh d2', .slice e3 n d3'] 25)) ((Below.refl _ _).alloc (Nat.le_refl _) _))
  have HA2 := Lib.hid (cy w2 (.slice e1 nf d1') (.slice e2 nh d2') (.slice e3 n d3') 25)
  have HZ2 : Hid (w2.heap.size < (w2.alloc (.cells #[.slice e1 nf d1', .slice e2 nh d2', .slice e3 n d3'] 25)).heap.size) := Lib.hid (by simp)
  have HX1b := Lib.hid (HX1.out.below HE2.out)
  have HA1b := Lib.hid (HA1.out.below HE2.out (by have := HZ1.out; omega))
  have HF1b := Lib.hid (rowF.below HF1.out HE2.out HZ1.out)
  have HB2 : Hid (Below w.heap.size w (w2.alloc (.cells #[.slice e1 nf d1', .slice e2 nh d2', .slice e3 n d3'] 25))) := HB1.out.trans (HE2.out.mono HB1.out.size)
  have HZ1b : Hid (w1.heap.size + 1 < (w2.alloc (.cells #[.slice e1 nf d1', .slice e2 nh d2', .slice e3 n d3'] 25)).heap.size) := Lib.hid (Nat.lt_of_lt_of_le HZ1.out HE2.out.size)
  clear hx2 hat hb2 HX1 HA1 HF1 HB1 HE2
  obtain ⟨g0, g1⟩ := HF1b.out.at
  go_wp2
  generalize w2.alloc (.cells #[.slice e1 nf d1', .slice e2 nh d2', .slice e3 n d3'] 25) = W2 at HX2 HAT HA2 HZ2 HX1b HA1b HF1b HB2 HZ1b g0 g1 ⊢
  have hA8 : Below W2.heap.size W2 (W2.alloc (.cells #[.int .i64 0, .int .i64 0] 28)) := (Below.refl _ _).alloc (Nat.le_refl _) _
  have HF8 : Hid (rowF (W2.alloc (.cells #[.int .i64 0, .int .i64 0] 28)) (w1.heap.size + 1) (x : Int) pl) := Lib.hid (rowF.below HF1b.out hA8 HZ1b.out)
  have HN8 : Hid (rowF (W2.alloc (.cells #[.int .i64 0, .int .i64 0] 28)) W2.heap.size 0 0) := Lib.hid (heap_alloc_new W2 _)
  obtain ⟨j0, j1⟩ := HF8.out.at
  obtain ⟨j2, j3⟩ := HN8.out.at
  have j4 := HN8.out.frozen 0
  have j5 := HN8.out.frozen 1
  go_region
  have HB3 : Hid (Below W2.heap.size W2 (W2.alloc (.cells #[.int .i64 (x : Int), .int .i64 pl] 28)).drew) := Lib.hid ((Below.refl _ _).alloc (Nat.le_refl _) _).drew
  have HR3 : Hid (rowF (W2.alloc (.cells #[.int .i64 (x : Int), .int .i64 pl] 28)).drew W2.heap.size (x : Int) pl) := Lib.hid (heap_alloc_new W2 _)
  have HZ3 : Hid (W2.heap.size < (W2.alloc (.cells #[.int .i64 (x : Int), .int .i64 pl] 28)).drew.heap.size) := Lib.hid (show W2.heap.size < (W2.alloc _).heap.size by simp)
  clear g0 g1 hA8 HF8 HN8 j0 j1 j2 j3 j4 j5
  generalize (W2.alloc (.cells #[.int .i64 (x : Int), .int .i64 pl] 28)).drew = W3 at HB3 HR3 HZ3 ⊢
  obtain ⟨g0, g1⟩ := (rowF.below HF1b.out HB3.out HZ1b.out).at
  go_wp2_with fail
  refine (aH (x : Int) pl W3).mono ?_
  rintro r w4 ⟨rfl, hb4⟩
  have HB4 : Hid (Below W2.heap.size W2 w4) := Lib.hid (HB3.out.trans (hb4.mono HB3.out.size))
  have HR4 := Lib.hid (HR3.out.below hb4 HZ3.out)
  have HZ4 : Hid (W2.heap.size < w4.heap.size) := Lib.hid (Nat.lt_of_lt_of_le HZ3.out hb4.size)
  clear hb4 g0 g1
  by_cases hx0 : x = 0
  · have hz : ((x : Int) == 0) = true := by simp; omega
    obtain ⟨T, y, q, hfr⟩ : ∃ (T : ByteArray) (y : Nat) (q : Int), frmF f h l = (T.data.toList, y, q) := ⟨⟨(frmF f h l).1.toArray⟩, (frmF f h l).2.1, (frmF f h l).2.2, by simp⟩
    have HLF : Hid (fI s.data.toList = (T.data.toList, y, q)) := Lib.hid (by
      rcases HR.out with ⟨hu, _⟩ | ⟨hu, _⟩
      · exact absurd hx0 (any_ne hu)
      · rw [qa hu, hfr])
    have HFR := Lib.hid hfr
    clear hfr
    obtain ⟨p0, p1, p2⟩ := HA1b.out.below HB4.out (by have := HZ1b.out; omega)
    go_wp2_with fail
    clear hz hx0
    refine (mT _ _ _ f h l T y q w4 (HX1b.out.below HB4.out) HFR.out).mono ?_
    rintro r w5 ⟨rfl, hb5⟩
    have HB5 : Hid (Below W2.heap.size W2 w5) := Lib.hid (HB4.out.trans (hb5.mono HB4.out.size))
    have HR5 := Lib.hid (HR4.out.below hb5 HZ4.out)
    have HZ5 : Hid (W2.heap.size < w5.heap.size) := Lib.hid (Nat.lt_of_lt_of_le HZ4.out hb5.size)
    clear hb5 p0 p1 p2
    obtain ⟨j0, j1⟩ := HR5.out.at
    have j2 := HR5.out.frozen 0
    have j3 := HR5.out.frozen 1
    have HR6 := Lib.hid (HR5.out.put (y : Int) q)
    have HB6 := Lib.hid (eR HB5.out (Nat.le_refl _) (.int .i64 (y : Int)) (.int .i64 q))
    have HZ6 : Hid (W2.heap.size < ((w5.setCell ⟨W2.heap.size, 0, none⟩ (.int .i64 (y : Int))).setCell ⟨W2.heap.size, 1, none⟩ (.int .i64 q)).heap.size) := Lib.hid (by have := HZ5.out; simpa using this)
    go_wp2_with fail
    generalize (w5.setCell ⟨W2.heap.size, 0, none⟩ (.int .i64 (y : Int))).setCell ⟨W2.heap.size, 1, none⟩ (.int .i64 q) = w6 at HR6 HB6 HZ6 ⊢
    clear j0 j1 j2 j3
    refine (qs s T y q w6 HS.out (HG.out.below (HB2.out.trans (HB6.out.mono HB2.out.size))) HLF.out).mono ?_
    rintro r wa ⟨bad, rfl, hbt, hba⟩
    have HBa : Hid (Below W2.heap.size W2 wa) := Lib.hid (HB6.out.trans (hba.mono HB6.out.size))
    have HRa := Lib.hid (HR6.out.below hba HZ6.out)
    have HZa : Hid (W2.heap.size < wa.heap.size) := Lib.hid (Nat.lt_of_lt_of_le HZ6.out hba.size)
    have HBT := Lib.hid hbt
    clear hba hbt
    obtain ⟨g0, g1⟩ := (rowF.below HF1b.out HBa.out HZ1b.out).at
    go_wp2_with fail
    refine (jY _ x pl wa (HG.out.below (HB2.out.trans (HBa.out.mono HB2.out.size))) (HAT.out.below HBa.out).place).mono ?_
    rintro r wb ⟨rfl, hbb⟩
    have HBb : Hid (Below W2.heap.size W2 wb) := Lib.hid (HBa.out.trans (hbb.mono HBa.out.size))
    have HRb := Lib.hid (HRa.out.below hbb HZa.out)
    have HZb : Hid (W2.heap.size < wb.heap.size) := Lib.hid (Nat.lt_of_lt_of_le HZa.out hbb.size)
    have HBTb := Lib.hid (HBT.out.below hbb)
    clear hbb g0 g1
    obtain ⟨p0, p1, p2⟩ := HA1b.out.below HBb.out (by have := HZ1b.out; omega)
    obtain ⟨q0, q1, q2⟩ := HA2.out.below HBb.out HZ2.out
    go_wp2_with fail
    refine (qN _ _ _ _ _ _ f h l f h l true wb (HX1b.out.below HBb.out) (HX2.out.below HBb.out) (rm f h l)).mono ?_
    rintro r wc ⟨rfl, hbc⟩
    have HBc : Hid (Below W2.heap.size W2 wc) := Lib.hid (HBb.out.trans (hbc.mono HBb.out.size))
    have HRc := Lib.hid (HRb.out.below hbc HZb.out)
    have HBTc := Lib.hid (HBTb.out.below hbc)
    clear hbc p0 p1 p2 q0 q1 q2
    obtain ⟨g0, g1⟩ := HRc.out.at
    go_wp2_with fail
    refine (jY _ y q wc (HG.out.below (HB2.out.trans (HBc.out.mono HB2.out.size))) HBTc.out.place).mono ?_
    rintro r wd ⟨rfl, hbd⟩
    have HBd : Hid (Below W2.heap.size W2 wd) := Lib.hid (HBc.out.trans (hbd.mono HBc.out.size))
    clear hbd g0 g1
    go_wp2
    go_ret
    exact ⟨by simp, HB2.out.trans (HBd.out.mono HB2.out.size)⟩
  · have hz : ((x : Int) == 0) = false := by simp; omega
    have HLF : Hid (fI s.data.toList = ((⟨#[]⟩ : ByteArray).data.toList, x, pl)) := Lib.hid (by
      rcases HR.out with ⟨hu, _⟩ | ⟨_, h0, _⟩
      · exact pZ hu
      · exact absurd h0 hx0)
    go_wp2_with fail
    refine (qs s ⟨#[]⟩ x pl w4 HS.out (HG.out.below (HB2.out.trans (HB4.out.mono HB2.out.size))) HLF.out).mono ?_
    rintro r wa ⟨bad, rfl, hbt, hba⟩
    have HBa : Hid (Below W2.heap.size W2 wa) := Lib.hid (HB4.out.trans (hba.mono HB4.out.size))
    have HRa := Lib.hid (HR4.out.below hba HZ4.out)
    have HZa : Hid (W2.heap.size < wa.heap.size) := Lib.hid (Nat.lt_of_lt_of_le HZ4.out hba.size)
    have HBT := Lib.hid hbt
    clear hba hbt
    obtain ⟨g0, g1⟩ := (rowF.below HF1b.out HBa.out HZ1b.out).at
    go_wp2_with fail
    refine (jY _ x pl wa (HG.out.below (HB2.out.trans (HBa.out.mono HB2.out.size))) (HAT.out.below HBa.out).place).mono ?_
    rintro r wb ⟨rfl, hbb⟩
    have HBb : Hid (Below W2.heap.size W2 wb) := Lib.hid (HBa.out.trans (hbb.mono HBa.out.size))
    have HRb := Lib.hid (HRa.out.below hbb HZa.out)
    have HZb : Hid (W2.heap.size < wb.heap.size) := Lib.hid (Nat.lt_of_lt_of_le HZa.out hbb.size)
    have HBTb := Lib.hid (HBT.out.below hbb)
    clear hbb g0 g1
    obtain ⟨p0, p1, p2⟩ := HA1b.out.below HBb.out (by have := HZ1b.out; omega)
    obtain ⟨q0, q1, q2⟩ := HA2.out.below HBb.out HZ2.out
    go_wp2_with fail
    refine (qN _ _ _ _ _ _ f h l f h l true wb (HX1b.out.below HBb.out) (HX2.out.below HBb.out) (rm f h l)).mono ?_
    rintro r wc ⟨rfl, hbc⟩
    have HBc : Hid (Below W2.heap.size W2 wc) := Lib.hid (HBb.out.trans (hbc.mono HBb.out.size))
    have HRc := Lib.hid (HRb.out.below hbc HZb.out)
    have HBTc := Lib.hid (HBTb.out.below hbc)
    clear hbc p0 p1 p2 q0 q1 q2
    obtain ⟨g0, g1⟩ := HRc.out.at
    go_wp2_with fail
    refine (jY _ x pl wc (HG.out.below (HB2.out.trans (HBc.out.mono HB2.out.size))) HBTc.out.place).mono ?_
    rintro r wd ⟨rfl, hbd⟩
    have HBd : Hid (Below W2.heap.size W2 wd) := Lib.hid (HBc.out.trans (hbd.mono HBc.out.size))
    clear hbd g0 g1
    go_wp2
    go_ret
    exact ⟨by simp, HB2.out.trans (HBd.out.mono HB2.out.size)⟩
end Go.Proofs.YtagoidpkbloflaaGreatDoor
