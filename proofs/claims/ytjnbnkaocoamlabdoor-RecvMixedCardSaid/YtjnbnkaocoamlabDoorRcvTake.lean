/-
  The contract of (*recv.Receiver).Take.
-/
import Derived.Test.YtjnbnkaocoamlabDoorRcvOff
import Derived.Test.YtjnbnkaocoamlabDoorChkFill
import Derived.BigQuiet
import Derived.Deep.QuietTactic
namespace Go.Proofs.YtjnbnkaocoamlabDoor
open Go.RowKit

/-- What a text that comes does. -/
def takeS (X : Rcv) (s : List UInt8) : Rcv := if (creadF s).2 ≠ 0 then X else if takeE X (creadF s).1 ≠ 0 then X else rTake X (creadF s).1
def takeSE (X : Rcv) (s : List UInt8) : Nat := if (creadF s).2 ≠ 0 then (creadF s).2 else takeE X (creadF s).1
theorem take_put {X : Rcv} {c : Chk} (he : X.tot ≠ 0 → X.nm = c.nm ∧ (X.tot : Int) = c.tot) :
    rTake X c = rBytes (if X.tot = 0 then rBegin X c.nm c.tot.toNat else X) (putK X.came c.pos.toNat c.dat.data.toList c.dat.size) := by
  unfold rTake rBytes putK
  by_cases h : X.tot = 0
  · rw [if_pos h]
    rfl
  · rw [if_neg h]
    obtain ⟨e1, e2⟩ := he h
    rw [← e1, ← e2, Int.toNat_natCast]
theorem came_nil {X : Rcv} (h0 : ∀ i, X.tot ≤ i → X.came i = none) (h : X.tot = 0) : X.came = fun _ => none := by
  funext i
  exact h0 i (by omega)
theorem chk_size (c : Chk) : (Tryd.prog.info? 34).map (·.size) = some (#[.int .u32 c.nm, .int .i64 c.tot, .int .i64 c.pos, .string c.dat] : Array Value).size := by kernel_rfl
set_option maxRecDepth 100000 in
set_option maxHeartbeats 4000000 in
theorem take_any (r d L M DB TB : Nat) (vd vt : Value) (X : Rcv) (s : ByteArray) (w : World) (h : RcvIn w r d L M DB TB vd vt X) (hs : s.size ≤ 1000000) :
    Calls Tryd.prog 11 #[.pointer (some ⟨r, 0, none⟩), .string s] w fun e w' => ∃ DB2 TB2 vd2 vt2,
      e = .returned (errV (takeSE X s.data.toList)) ∧ RcvIn w' r d L M DB2 TB2 vd2 vt2 (takeS X s.data.toList) ∧ But (fun k => k = r ∨ (0 < X.tot ∧ (k = DB ∨ k = TB))) w w' ∧ (DB2 = DB ∨ w.heap.size ≤ DB2) ∧ (TB2 = TB ∨ w.heap.size ≤ TB2) ∧ (X.tot = 0 → (w.heap.size ≤ DB2 ∧ w.heap.size ≤ TB2) ∨ (takeS X s.data.toList).tot = 0) := by
  have HH := Lib.hid h
  have HRD := Lib.hid (cread_any s w hs)
  obtain ⟨c, e, hc⟩ : ∃ c e, creadF s.data.toList = (c, e) := ⟨_, _, rfl⟩
  rw [hc] at HRD
  by_cases he : e = 0
  · subst he
    obtain ⟨hnm, hok, _⟩ := cread_only hc
    have hcr := crE_ok.1 hok
    obtain ⟨ct, hct⟩ : ∃ t : Nat, c.tot = t := ⟨c.tot.toNat, by omega⟩
    obtain ⟨cp, hcp⟩ : ∃ t : Nat, c.pos = t := ⟨c.pos.toNat, by omega⟩
    obtain ⟨cn, ci, pi, cd⟩ := c
    simp only at hct hcp hnm hcr
    subst hct hcp
    have HE0 : Hid (errV 0 = .nilIface) := Lib.hid rfl
    simp only at HRD
    rw [HE0.out] at HRD
    have HTS : Hid (takeE X ⟨cn, (ct : Int), (cp : Int), cd⟩ = 0 → takeS X s.data.toList = rTake X ⟨cn, (ct : Int), (cp : Int), cd⟩ ∧ errV (takeSE X s.data.toList) = .nilIface) := Lib.hid (fun h => by
      unfold takeS takeSE
      rw [hc]
      simp only
      rw [h]
      exact ⟨rfl, rfl⟩)
    have HTF : Hid (takeE X ⟨cn, (ct : Int), (cp : Int), cd⟩ = 6 → takeS X s.data.toList = X ∧ errV (takeSE X s.data.toList) = .iface 43 (.int .i64 6)) := Lib.hid (fun h => by
      unfold takeS takeSE
      rw [hc]
      simp only
      rw [h]
      exact ⟨rfl, rfl⟩)
    have HNM := Lib.hid hnm
    have HCR : Hid (1 ≤ ct ∧ ct ≤ 4096 ∧ cp + cd.size ≤ ct) := Lib.hid (by omega)
    clear hc hok hnm hcr
    by_cases h0 : X.tot = 0
    · have HS := HTS.out (by unfold takeE; rw [if_neg (by omega)])
      have HP : Hid (rTake X ⟨cn, (ct : Int), (cp : Int), cd⟩ = rBytes (rBegin X cn ct) (putK (rBegin X cn ct).came cp cd.data.toList cd.size)) := Lib.hid (by
        have e1 := take_put (X := X) (c := ⟨cn, (ct : Int), (cp : Int), cd⟩) (fun h => absurd h0 h)
        rw [if_pos h0, came_nil h.none_ h0] at e1
        exact e1)
      rw [HS.1, HS.2, HP.out]
      have HC : Hid (decide (0 < X.tot) = false) := Lib.hid (decide_eq_false (by omega))
      have H0 := Lib.hid h0
      clear h h0 HS
      go_enter Tryd.func11, Tryd.ntmps11
      go_wp2_with fail
      refine HRD.out.mono ?_
      rintro q w1 ⟨rfl, hb⟩
      have HCK := Lib.hid (CkB.new (c := ⟨cn, (ct : Int), (cp : Int), cd⟩) hb)
      have HNE : Hid (w1.heap.size ≠ r) := Lib.hid (by have := HH.out.lr; have := hb.size; omega)
      have HLW : Hid (w.heap.size ≤ w1.heap.size) := Lib.hid hb.size
      clear hb
      unfold chkV
      go_wp2_with fail
      generalize w1.alloc (.cells #[.int .u32 cn, .int .i64 (ct : Int), .int .i64 (cp : Int), .string cd] 34) = w2 at HCK ⊢
      generalize w1.heap.size = B at HCK HNE HLW ⊢
      have HW2 := Lib.hid (HH.out.below HCK.out.2.1)
      refine (came_any r d L M DB TB vd vt X w2 HW2.out).mono ?_
      rintro q w' ⟨rfl, rfl⟩
      rw [HC.out]
      obtain ⟨k0, k1, k2, k3⟩ := HCK.out.cells.1
      go_wp2_with fail
      refine (begin_any r d L M DB TB vd vt X cn ct w' HW2.out HNM.out HCR.out.1 HCR.out.2.1).mono ?_
      rintro q w3 ⟨DB2, TB2, vd2, vt2, rfl, hw3, hb3, hd2, ht2⟩
      have HB2 : Hid (B < w'.heap.size) := Lib.hid HCK.out.cells.2.2.2.2.2
      have HW3 := Lib.hid hw3
      have HB3 : Hid (But (fun k => k = r) w w3) := Lib.hid ((But.of_below (F := fun k => k = r) HCK.out.2.1).trans hb3)
      have HD2 : Hid (w.heap.size ≤ DB2 ∧ w.heap.size ≤ TB2 ∧ B < DB2 ∧ B < TB2) := Lib.hid (by have := HCK.out.2.1.size; have := HB2.out; omega)
      have k0 : w3.cell? ⟨B, 0, none⟩ = some (.int .u32 (cn : Int)) := (hb3.cell (p := ⟨B, 0, none⟩) HB2.out HNE.out).trans k0
      have k1 : w3.cell? ⟨B, 1, none⟩ = some (.int .i64 (ct : Int)) := (hb3.cell (p := ⟨B, 1, none⟩) HB2.out HNE.out).trans k1
      have k2 : w3.cell? ⟨B, 2, none⟩ = some (.int .i64 (cp : Int)) := (hb3.cell (p := ⟨B, 2, none⟩) HB2.out HNE.out).trans k2
      have k3 : w3.cell? ⟨B, 3, none⟩ = some (.string cd) := (hb3.cell (p := ⟨B, 3, none⟩) HB2.out HNE.out).trans k3
      clear hw3 hb3 hd2 ht2
      rcases HW3.out.rows with ⟨h1, _, _⟩ | ⟨_, rfl, rfl, _⟩
      · exact absurd h1 (by have := HCR.out; show ¬ ct = 0; omega)
      have c1 : w3.cell? ⟨r, 1, none⟩ = some (.int .u32 (cn : Int)) := HW3.out.c1
      have c2 : w3.cell? ⟨r, 2, none⟩ = some (.slice (some ⟨DB2, 0, none⟩) ct ct) := HW3.out.c2
      go_wp2
      go_quiet (fail)
      have HW4 : Hid (RcvIn (w3.drewN nq) r d L M DB2 TB2 (.slice (some ⟨DB2, 0, none⟩) ct ct) (.slice (some ⟨TB2, 0, none⟩) ct ct) (rBegin X cn ct)) := Lib.hid (HW3.out.below (below_drewN (Below.refl _ _) _))
      go_wp2_with fail
      refine (rput_any r d L M DB2 TB2 _ _ (rBegin X cn ct) cp cd _ HW4.out HCR.out.2.2).mono ?_
      rintro q w5 ⟨rfl, hw5, hb5⟩
      have HW5 := Lib.hid hw5
      have HB5 : Hid (But (fun k => k = r) w w5) := Lib.hid (But.more (HB3.out.trans (But.of_below (below_drewN (Below.refl _ _) _))) hb5 (fun i hi => by have := HD2.out; rcases hi with e | e <;> omega))
      clear hw5 hb5
      go_wp2_with fail
      go_ret
      exact ⟨DB2, TB2, _, _, rfl, HW5.out, HB5.out.mono (fun k h => .inl h), .inr HD2.out.1, .inr HD2.out.2.1, fun _ => .inl ⟨HD2.out.1, HD2.out.2.1⟩⟩
    · have HC : Hid (decide (0 < X.tot) = true) := Lib.hid (decide_eq_true (by omega))
      rcases h.rows with ⟨h1, _, _⟩ | ⟨_, rfl, rfl, h3, h4, n1, n2, n3, _⟩
      · exact absurd h1 h0
      have HDT : Hid (DB < w.heap.size ∧ TB < w.heap.size) := Lib.hid ⟨(Array.getElem?_eq_some_iff.1 h3).1, (Array.getElem?_eq_some_iff.1 h4).1⟩
      have H0 := Lib.hid h0
      obtain ⟨n, hn⟩ : ∃ n, n = X.tot := ⟨_, rfl⟩
      obtain ⟨xn, hxn⟩ : ∃ n, n = X.nm := ⟨_, rfl⟩
      have HN := Lib.hid hn
      have HXN := Lib.hid hxn
      clear h3 h4 n1 n2 n3
      by_cases hn1 : cn = xn
      · by_cases ht1 : ct = n
        · have HS := HTS.out (by unfold takeE; rw [if_neg]; simp only; omega)
          have HP : Hid (rTake X ⟨cn, (ct : Int), (cp : Int), cd⟩ = rBytes X (putK X.came cp cd.data.toList cd.size)) := Lib.hid (by
            have e1 := take_put (X := X) (c := ⟨cn, (ct : Int), (cp : Int), cd⟩) (fun h => ⟨by rw [← hxn]; exact hn1.symm, by show (X.tot : Int) = (ct : Int); omega⟩)
            rw [if_neg h0] at e1
            exact e1)
          rw [HS.1, HS.2, HP.out]
          have hq1 : ((cn : Int) != (xn : Int)) = false := by rw [hn1]; simp
          have hq2 : ((ct : Int) != (n : Int)) = false := by rw [ht1]; simp
          have HPP : Hid (cp + cd.size ≤ X.tot) := Lib.hid (by have := HCR.out; omega)
          clear h h0 HS hn hxn hn1 ht1
          go_enter Tryd.func11, Tryd.ntmps11
          go_wp2_with fail
          refine HRD.out.mono ?_
          rintro q w1 ⟨rfl, hb⟩
          have HCK := Lib.hid (CkB.new (c := ⟨cn, (ct : Int), (cp : Int), cd⟩) hb)
          have HNE : Hid (w1.heap.size ≠ r) := Lib.hid (by have := HH.out.lr; have := hb.size; omega)
          have HLW : Hid (w.heap.size ≤ w1.heap.size) := Lib.hid hb.size
          clear hb
          unfold chkV
          go_wp2_with fail
          generalize w1.alloc (.cells #[.int .u32 cn, .int .i64 (ct : Int), .int .i64 (cp : Int), .string cd] 34) = w2 at HCK ⊢
          generalize w1.heap.size = B at HCK HNE HLW ⊢
          have HW2 := Lib.hid (HH.out.below HCK.out.2.1)
          have c1 := HW2.out.c1
          have c2 := HW2.out.c2
          rw [← HXN.out] at c1
          rw [← HN.out] at c2
          refine (came_any r d L M DB TB _ _ X w2 HW2.out).mono ?_
          rintro q w' ⟨rfl, rfl⟩
          rw [HC.out]
          obtain ⟨k0, k1, k2, k3⟩ := HCK.out.cells.1
          go_wp2_with fail
          go_quiet (fail)
          have HW4 := Lib.hid (HW2.out.below (below_drewN (Below.refl _ _) nq))
          go_wp2_with fail
          refine (rput_any r d L M DB TB _ _ X cp cd _ HW4.out HPP.out).mono ?_
          rintro q w5 ⟨rfl, hw5, hb5⟩
          have HW5 := Lib.hid hw5
          have HB5 : Hid (But (fun k => k = r ∨ (0 < X.tot ∧ (k = DB ∨ k = TB))) w w5) := Lib.hid ((But.of_below (HCK.out.2.1.trans ((below_drewN (Below.refl _ _) nq).mono HCK.out.2.1.size))).trans (hb5.mono (fun k hk => .inr ⟨by have := H0.out; omega, hk⟩)))
          clear hw5 hb5
          go_wp2_with fail
          go_ret
          exact ⟨DB, TB, _, _, rfl, HW5.out, HB5.out, .inl rfl, .inl rfl, fun h => absurd h H0.out⟩
        · have HS := HTF.out (by unfold takeE; rw [if_pos ⟨h0, .inr (by simp only; omega)⟩])
          rw [HS.1, HS.2]
          have hq1 : ((cn : Int) != (xn : Int)) = false := by rw [hn1]; simp
          have hq2 : ((ct : Int) != (n : Int)) = true := by simp; omega
          clear h h0 HS hn hxn hn1 ht1
          go_enter Tryd.func11, Tryd.ntmps11
          go_wp2_with fail
          refine HRD.out.mono ?_
          rintro q w1 ⟨rfl, hb⟩
          have HCK := Lib.hid (CkB.new (c := ⟨cn, (ct : Int), (cp : Int), cd⟩) hb)
          have HNE : Hid (w1.heap.size ≠ r) := Lib.hid (by have := HH.out.lr; have := hb.size; omega)
          have HLW : Hid (w.heap.size ≤ w1.heap.size) := Lib.hid hb.size
          clear hb
          unfold chkV
          go_wp2_with fail
          generalize w1.alloc (.cells #[.int .u32 cn, .int .i64 (ct : Int), .int .i64 (cp : Int), .string cd] 34) = w2 at HCK ⊢
          generalize w1.heap.size = B at HCK HNE HLW ⊢
          have HW2 := Lib.hid (HH.out.below HCK.out.2.1)
          have c1 := HW2.out.c1
          have c2 := HW2.out.c2
          rw [← HXN.out] at c1
          rw [← HN.out] at c2
          refine (came_any r d L M DB TB _ _ X w2 HW2.out).mono ?_
          rintro q w' ⟨rfl, rfl⟩
          rw [HC.out]
          obtain ⟨k0, k1, k2, k3⟩ := HCK.out.cells.1
          go_wp2_with fail
          go_quiet (fail)
          have HW4 := Lib.hid (HW2.out.below (below_drewN (Below.refl _ _) nq))
          have HB4 := Lib.hid (HCK.out.2.1.trans ((below_drewN (Below.refl _ _) nq).mono HCK.out.2.1.size))
          go_wp2_with fail
          go_ret
          exact ⟨DB, TB, _, _, rfl, HW4.out, But.of_below HB4.out, .inl rfl, .inl rfl, fun h => absurd h H0.out⟩
      · have HS := HTF.out (by unfold takeE; rw [if_pos ⟨h0, .inl (by simp only; omega)⟩])
        rw [HS.1, HS.2]
        have hq1 : ((cn : Int) != (xn : Int)) = true := by simp; omega
        clear h h0 HS hn hxn hn1
        go_enter Tryd.func11, Tryd.ntmps11
        go_wp2_with fail
        refine HRD.out.mono ?_
        rintro q w1 ⟨rfl, hb⟩
        have HCK := Lib.hid (CkB.new (c := ⟨cn, (ct : Int), (cp : Int), cd⟩) hb)
        have HNE : Hid (w1.heap.size ≠ r) := Lib.hid (by have := HH.out.lr; have := hb.size; omega)
        have HLW : Hid (w.heap.size ≤ w1.heap.size) := Lib.hid hb.size
        clear hb
        unfold chkV
        go_wp2_with fail
        generalize w1.alloc (.cells #[.int .u32 cn, .int .i64 (ct : Int), .int .i64 (cp : Int), .string cd] 34) = w2 at HCK ⊢
        generalize w1.heap.size = B at HCK HNE HLW ⊢
        have HW2 := Lib.hid (HH.out.below HCK.out.2.1)
        have c1 := HW2.out.c1
        have c2 := HW2.out.c2
        rw [← HXN.out] at c1
        rw [← HN.out] at c2
        refine (came_any r d L M DB TB _ _ X w2 HW2.out).mono ?_
        rintro q w' ⟨rfl, rfl⟩
        rw [HC.out]
        obtain ⟨k0, k1, k2, k3⟩ := HCK.out.cells.1
        go_wp2_with fail
        go_quiet (fail)
        have HW4 := Lib.hid (HW2.out.below (below_drewN (Below.refl _ _) nq))
        have HB4 := Lib.hid (HCK.out.2.1.trans ((below_drewN (Below.refl _ _) nq).mono HCK.out.2.1.size))
        go_wp2_with fail
        go_ret
        exact ⟨DB, TB, _, _, rfl, HW4.out, But.of_below HB4.out, .inl rfl, .inl rfl, fun h => absurd h H0.out⟩
  · have HS : Hid (takeS X s.data.toList = X ∧ takeSE X s.data.toList = e) := Lib.hid (by unfold takeS takeSE; rw [hc]; exact ⟨if_pos he, if_pos he⟩)
    have HE : Hid (errV e = .iface 43 (.int .i64 e)) := Lib.hid (by unfold errV; rw [if_neg he])
    rw [HS.out.1, HS.out.2, HE.out]
    simp only at HRD
    rw [HE.out] at HRD
    clear h hc he
    go_enter Tryd.func11, Tryd.ntmps11
    go_wp2_with fail
    refine HRD.out.mono ?_
    rintro q w1 ⟨rfl, hb⟩
    have HCK := Lib.hid (CkB.new (c := c) hb)
    have HNE : Hid (w1.heap.size ≠ r) := Lib.hid (by have := HH.out.lr; have := hb.size; omega)
    have HLW : Hid (w.heap.size ≤ w1.heap.size) := Lib.hid hb.size
    clear hb
    unfold chkV
    go_wp2_with fail
    generalize w1.alloc (.cells #[.int .u32 c.nm, .int .i64 c.tot, .int .i64 c.pos, .string c.dat] 34) = w2 at HCK ⊢
    generalize w1.heap.size = B at HCK HNE HLW ⊢
    go_ret
    exact ⟨DB, TB, vd, vt, rfl, HH.out.below HCK.out.2.1, But.of_below HCK.out.2.1, .inl rfl, .inl rfl, fun h => .inr h⟩
end Go.Proofs.YtjnbnkaocoamlabDoor
