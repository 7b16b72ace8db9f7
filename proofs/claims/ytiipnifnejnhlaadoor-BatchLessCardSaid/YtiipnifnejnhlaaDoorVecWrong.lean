/-
  The contracts of vector.wrong and vector.Right.
-/
import Derived.Test.YtiipnifnejnhlaaDoorEnts
import Derived.Test.YtiipnifnejnhlaaDoorAtIs
import Derived.BigQuiet
import Derived.Deep.QuietTactic
import Derived.Outline
namespace Go.Proofs.YtiipnifnejnhlaaDoor
open Go.RowKit

set_option maxRecDepth 100000 in
set_option maxHeartbeats 2000000 in
theorem vwrong_any (v : Value) (l : List Ent) (k : Nat) (e : Ent) (last : Int) (w : World) (hv : IsEnts w v l) (hl : l.length ≤ 1000000) (he : l[k]? = some e) (h0 : (k = 0 ∧ last = -1) ∨ ∃ j d, k = j + 1 ∧ l[j]? = some d ∧ last = d.rep) :
    Calls Tryd.prog 66 #[v, .int .i64 (k : Int)] w fun r w' => r = .returned (.int .i64 (wrE e last : Nat)) ∧ Below w.heap.size w w' := by
  obtain ⟨a1, c1, rfl, f1⟩ := hv.form
  obtain ⟨n, hn⟩ : ∃ n, n = l.length := ⟨_, rfl⟩
  have hkl : k < n := by rw [hn]; exact (List.getElem?_eq_some_iff.1 he).1
  rw [← hn] at hl ⊢
  obtain ⟨b1, o1, rfl, hb1, p0, p1⟩ := f1 k e he
  obtain ⟨rep, time⟩ := e
  simp only at p0 p1
  by_cases hr : rep < 0 ∨ 200 < rep ∨ time < 1 ∨ 1099511627776 < time
  · have HW : Hid (wrE ⟨rep, time⟩ last = 2) := Lib.hid (wrE_range hr)
    have HR := Lib.hid hr
    clear hv f1 hn he h0 hr
    rw [HW.out]
    by_cases h1 : rep < 0
    · go_enter Tryd.func66, Tryd.ntmps66
      go_wp2
      go_ret
      exact ⟨rfl, (Below.refl _ _).alloc (Nat.le_refl _) _⟩
    · by_cases h2 : 200 < rep
      · go_enter Tryd.func66, Tryd.ntmps66
        go_wp2
        go_ret
        exact ⟨rfl, (Below.refl _ _).alloc (Nat.le_refl _) _⟩
      · by_cases h3 : time < 1
        · go_enter Tryd.func66, Tryd.ntmps66
          go_wp2
          go_ret
          exact ⟨rfl, (Below.refl _ _).alloc (Nat.le_refl _) _⟩
        · have h4 : 1099511627776 < time := by have := HR.out; omega
          go_enter Tryd.func66, Tryd.ntmps66
          go_wp2
          go_ret
          exact ⟨rfl, (Below.refl _ _).alloc (Nat.le_refl _) _⟩
  · have g1 : 0 ≤ rep := by omega
    have g2 : rep ≤ 200 := by omega
    have g3 : 1 ≤ time := by omega
    have g4 : time ≤ 1099511627776 := by omega
    rcases h0 with ⟨hk0, rfl⟩ | ⟨j, d, rfl, hd, rfl⟩
    · have HW : Hid (wrE ⟨rep, time⟩ (-1) = 0) := Lib.hid (wrE_fine hr (by simp only; omega))
      have z1 : ¬ 0 < k := by omega
      have z2 : decide (0 < k) = false := by simp; omega
      have z3 : decide ((0 : Int) < (k : Int)) = false := by simp; omega
      clear hv f1 hn he hr hk0
      rw [HW.out]
      go_enter Tryd.func66, Tryd.ntmps66
      go_wp2
      go_quiet (fail)
      go_wp2
      go_ret
      exact ⟨rfl, below_drewN ((Below.refl _ _).alloc (Nat.le_refl _) _) _⟩
    · obtain ⟨b2, o2, hbo, _, q0, _⟩ := f1 j d hd
      simp only [Option.some.injEq, Addr.mk.injEq, and_true] at hbo
      obtain ⟨rfl, rfl⟩ := hbo
      obtain ⟨last, dt⟩ := d
      simp only at q0
      obtain ⟨k, hk⟩ : ∃ k, k = j + 1 := ⟨_, rfl⟩
      rw [← hk] at he hkl p0 p1 ⊢
      have hj1 : (k : Int) - 1 = (j : Int) := by omega
      have hj2 : IntKind.i64.wrap ((k : Int) - 1) = (j : Int) := by rw [hj1]; exact IntWalk.i64_in _ (by omega)
      have hk0 : (0 : Int) < (k : Int) := by omega
      have z1 : 0 < k := by omega
      have z2 : decide (0 < k) = true := by simp; omega
      have z3 : decide ((0 : Int) < (k : Int)) = true := by simp; omega
      have hjn : (j : Int) < (n : Int) := by omega
      have hjn' : j < n := by omega
      have hj0 : (0 : Int) ≤ (j : Int) := by omega
      have q0' := (World.cell?_alloc_lt w (.cells #[.int .i64 rep, .int .i64 time] 70) (⟨b1, o1 + j * 2, none⟩ : Addr) hb1).trans q0
      by_cases h5 : rep ≤ last
      · have HW : Hid (wrE ⟨rep, time⟩ (Ent.mk last dt).rep = 10) := Lib.hid (wrE_order hr h5)
        clear hv f1 hn he hr hd hk
        rw [HW.out]
        go_enter Tryd.func66, Tryd.ntmps66
        go_wp2
        go_quiet (fail)
        go_wp2
        go_ret
        exact ⟨rfl, below_drewN ((Below.refl _ _).alloc (Nat.le_refl _) _) _⟩
      · have HW : Hid (wrE ⟨rep, time⟩ (Ent.mk last dt).rep = 0) := Lib.hid (wrE_fine hr h5)
        clear hv f1 hn he hr hd hk
        rw [HW.out]
        go_enter Tryd.func66, Tryd.ntmps66
        go_wp2
        go_quiet (fail)
        go_wp2
        go_ret
        exact ⟨rfl, below_drewN ((Below.refl _ _).alloc (Nat.le_refl _) _) _⟩

set_option maxRecDepth 100000 in
set_option maxHeartbeats 2000000 in
theorem vright_few (v : Value) (l : List Ent) (w : World) (hv : IsEnts w v l) (hl : l.length ≤ 16) :
    Calls Tryd.prog 45 #[v] w (RightIs w (vr l 0 (-1))) := by
  have HV := Lib.hid hv
  obtain ⟨a1, c1, rfl, f1⟩ := hv.form
  obtain ⟨n, hn⟩ : ∃ n, n = l.length := ⟨_, rfl⟩
  rw [← hn] at hl HV ⊢
  have HN := Lib.hid hn
  clear hv f1 hn
  go_enter Tryd.func45, Tryd.ntmps45
  go_wp2
  go_loopw [11] (fun i wr => ∃ (k : Nat) (last : Int), k ≤ n ∧ i = .int .i64 k ∧ ((k = 0 ∧ last = -1) ∨ ∃ j d, k = j + 1 ∧ l[j]? = some d ∧ last = d.rep) ∧ vr l 0 (-1) = vr (l.drop k) k last ∧ Below w.heap.size w wr) (fun i _ => n - (intOf i).toNat)
  case atStart => exact ⟨0, -1, by omega, rfl, .inl ⟨rfl, rfl⟩, rfl, Below.refl _ _⟩
  case round =>
    obtain ⟨k, last, hk, rfl, hla, heq, hbel⟩ := hrel
    have HEQ := Lib.hid heq
    have HLA := Lib.hid hla
    have HB := Lib.hid hbel
    have hzr := hbel.size
    clear heq hbel hla
    by_cases hlt : k < n
    · have hkl : k < l.length := by have := HN.out; omega
      obtain ⟨t, ht⟩ : ∃ t, l[k]? = some t := ⟨l[k], List.getElem?_eq_getElem hkl⟩
      have hd : l.drop k = t :: l.drop (k + 1) := by
        rw [List.drop_eq_getElem_cons hkl]; congr 1
        rw [List.getElem?_eq_getElem hkl] at ht; exact Option.some.inj ht
      have HD := Lib.hid hd
      have HT := Lib.hid ht
      obtain ⟨e, he⟩ : ∃ e, wrE t last = e := ⟨_, rfl⟩
      have HE := Lib.hid he
      clear ht hkl hd he
      go_wp2_with fail
      refine (vwrong_any _ l k t last _ (HV.out.below (HB.out.mono (Nat.le_refl _))) (by have := HN.out; omega) HT.out HLA.out).mono ?_
      rintro r w1 ⟨rfl, hb1⟩
      rw [HE.out]
      have HB1 : Hid (Below w.heap.size w w1) := HB.out.trans (hb1.mono hzr)
      have hz1 := HB1.out.size
      clear hb1
      by_cases h0 : e = 0
      · subst h0
        have HN2 : Hid (vr l 0 (-1) = vr (l.drop (k + 1)) (k + 1) t.rep) := Lib.hid (show vr l 0 (-1) = vr (l.drop (k + 1)) (k + 1) t.rep by rw [HEQ.out, HD.out, vr_good HE.out])
        go_wp2
        go_roundw
        case rel => exact ⟨k + 1, t.rep, by omega, by go_num, .inr ⟨k, t, rfl, HT.out, rfl⟩, HN2.out, HB1.out⟩
        case measure => simp [intOf]; omega
      · have HN2 : Hid (vr l 0 (-1) = (e, (k : Int))) := Lib.hid (show vr l 0 (-1) = (e, (k : Int)) by rw [HEQ.out, HD.out, vr_bad (by rw [HE.out]; exact h0), HE.out])
        have hne : ((e : Int) != 0) = true := by simp; omega
        have H0 := Lib.hid h0
        clear h0
        go_wp2
        go_ret
        rw [HN2.out]
        exact ⟨_, rfl, atIs.new w1 e k H0.out, HB1.out.alloc hz1 _⟩
    · have HN2 : Hid (vr l 0 (-1) = (0, -1)) := Lib.hid (show vr l 0 (-1) = (0, -1) by rw [HEQ.out, List.drop_eq_nil_of_le (by have := HN.out; omega)]; rfl)
      go_wp2
      go_ret
      exact ⟨_, rfl, .inl ⟨HN2.out, rfl⟩, HB.out⟩

theorem vright_any (v : Value) (l : List Ent) (w : World) (hv : IsEnts w v l) (hl : l.length ≤ 9223372036854775807) :
    Calls Tryd.prog 45 #[v] w (VRightIs w (vrightF l)) := by
  by_cases h : 16 < l.length
  · have HW : Hid (vrightF l = (4, -1)) := Lib.hid (show vrightF l = (4, -1) by unfold vrightF; rw [if_pos h])
    obtain ⟨a1, c1, rfl, _⟩ := hv.form
    obtain ⟨n, hn⟩ : ∃ n, n = l.length := ⟨_, rfl⟩
    rw [← hn] at h hl ⊢
    clear hv hn
    rw [HW.out]
    have h2 : 16 < (n : Int) := by omega
    go_enter Tryd.func45, Tryd.ntmps45
    go_wp2
    go_ret
    exact ⟨_, rfl, .inr ⟨by decide, rfl, rfl⟩, Below.refl _ _⟩
  · refine (vright_few v l w hv (by omega)).mono ?_
    rintro e w' ⟨x, h1, h2, h3⟩
    refine ⟨x, h1, .inl ?_, h3⟩
    unfold vrightF; rw [if_neg h]; exact h2
end Go.Proofs.YtiipnifnejnhlaaDoor
