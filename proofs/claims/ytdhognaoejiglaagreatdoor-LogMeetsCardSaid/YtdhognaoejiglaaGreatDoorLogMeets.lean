/-
  The walk of 'packtrainkeep.LogMeets'.
-/
import Derived.Test.YtdhognaoejiglaaGreatDoorKa45
import Derived.Test.YtdhognaoejiglaaGreatDoorKa34
import Derived.Test.YtdhognaoejiglaaGreatDoorKa08
import Derived.Test.YtdhognaoejiglaaGreatDoorKa06
namespace Go.Proofs.YtdhognaoejiglaaGreatDoor
open Go.RowKit

set_option maxRecDepth 100000 in
set_option maxHeartbeats 16000000 in
theorem logMeets_walk (W : World) (a0 : Int) (_h0 : -9223372036854775808 ≤ a0) (_h1 : a0 ≤ 9223372036854775807) (v : Value) (l : List Actn) (h : cD W v l) (hl : l.length ≤ 9223372036854775807) (hok : ∀ x ∈ l, WrOk x.w) (a1 : Int) (_h2 : -9223372036854775808 ≤ a1) (_h3 : a1 ≤ 9223372036854775807) (a2 : Int) (_h4 : -9223372036854775808 ≤ a2) (_h5 : a2 ≤ 9223372036854775807) (hg : errT W) :
    Calls Tryz.prog 9 #[.int .i64 a0, v, .int .i64 a1, .int .i64 a2] W fun e w' => e = .returned (.bool true) ∧ Below W.heap.size W w' := by
  have HG := Lib.hid hg
  have HA := Lib.hid h
  have HOK := Lib.hid hok
  obtain ⟨q, hq⟩ : ∃ q : Nat, bD a0 5 = (q : Int) := ⟨(bD a0 5).toNat, by have := bX (a := a0) (n := 5) (by omega); omega⟩
  have hq5 : q < 5 := by have := bX (a := a0) (n := 5) (by omega); omega
  have HQ := Lib.hid hq
  obtain ⟨n, hn⟩ : ∃ n : Nat, n = 1 + q := ⟨_, rfl⟩
  have hn1 : (1 : Int) + (q : Int) = (n : Int) := by omega
  have hn2 : IntKind.i64.wrap ((1 : Int) + (q : Int)) = (n : Int) := by rw [hn1]; exact IntWalk.i64_in _ (by omega)
  have hn3 : 1 ≤ n ∧ n ≤ 5 := by omega
  have HN := Lib.hid hn3
  obtain ⟨hn4, hn5⟩ := hn3
  clear hq hn hq5 h hok hg
  by_cases hs : dg l = true
  · have HS := Lib.hid hs
    clear hs
    go_enter Tryz.func9, Tryz.ntmps9
    go_wp2_with (first
      | (go_at_call 11; refine (eW W HG.out).mono ?_; rintro r w1 ⟨rfl, hb1⟩; have HB1 := Lib.hid hb1; clear hb1)
      | (go_at_call 13; (with_reducible refine (fd _ l w1 (HA.out.below HB1.out) hl HOK.out true HS.out).mono ?_); rintro r w3 ⟨rfl, hb3⟩; have HB3 := Lib.hid (HB1.out.trans (hb3.mono HB1.out.size)); clear hb3)
      | (go_at_call 14; (with_reducible refine (dK a0 5 w3 (by omega) (by omega)).mono ?_); rintro r w4 ⟨rfl, rfl⟩; rw [HQ.out])
      | (go_at_call 15; (with_reducible refine (jH n HN.out _ l w3 (HA.out.below HB3.out) HS.out HOK.out (HG.out.below HB3.out)).mono ?_); rintro r w5 ⟨g, c, L, U, rfl, hp⟩; have HP := Lib.hid hp; clear hp)
      | fail)
    obtain ⟨q1, hq1⟩ : ∃ q : Nat, bD a1 n = (q : Int) := ⟨(bD a1 n).toNat, by have := bX (a := a1) (n := (n : Int)) (by omega); omega⟩
    obtain ⟨q2, hq2⟩ : ∃ q : Nat, bD a2 n = (q : Int) := ⟨(bD a2 n).toNat, by have := bX (a := a2) (n := (n : Int)) (by omega); omega⟩
    have hq1n : q1 < n := by have := bX (a := a1) (n := (n : Int)) (by omega); omega
    have hq2n : q2 < n := by have := bX (a := a2) (n := (n : Int)) (by omega); omega
    obtain ⟨P1, s1, hL1, hg1, hc1⟩ := HP.out.cell hq1n
    obtain ⟨P2, s2, hL2, _, hc2⟩ := HP.out.cell hq2n
    have HQ1 := Lib.hid hq1
    have HQ2 := Lib.hid hq2
    have HL1 := Lib.hid hL1
    have HL2 := Lib.hid hL2
    clear hq1 hq2 hL1 hL2
    go_quiet (first | (go_at_call 14; with_reducible exact fU a1 n q1 _ _ (by omega) (by omega) HQ1.out) | (go_at_call 14; with_reducible exact fU a2 n q2 _ _ (by omega) (by omega) HQ2.out))
    have HPX := Lib.hid (HP.out.keep (ed (Below.refl _ w5) nq))
    clear hg1 hc1 hc2
    go_wp2_with (first
      | (go_at_call 36; (with_reducible refine (oC HPX.out.pt HPX.out.party HPX.out.few (by have := HPX.out.len; omega) HL1.out HL2.out (HG.out.below HB3.out)).mono ?_); rintro r w6 ⟨rfl, t', hp6, hq6, hm6⟩; have HP6 := Lib.hid (HPX.out.met hp6 hq6); have HM6 := Lib.hid hm6; obtain ⟨s1', hs1'⟩ := m8 (t' := t') HL1.out HL2.out; have HL1' := Lib.hid hs1'; have HL2' : Hid ((L.set q2 (P2, t'))[q2]? = some (P2, t')) := Lib.hid (List.getElem?_set_self (List.getElem?_eq_some_iff.1 HL2.out).1); clear hp6 hq6 hm6 hs1')
      | (go_at_call 36; (with_reducible refine (oC HP6.out.pt HP6.out.party HP6.out.few (by have := HP6.out.len; omega) HL2'.out HL1'.out (HG.out.below HB3.out)).mono ?_); rintro r w7 ⟨rfl, s1'', hp7, hq7, hm7⟩; have HP7 := Lib.hid (HP6.out.met hp7 hq7); obtain ⟨t'', ht''⟩ := m8 (t' := s1'') HL2'.out HL1'.out; have HSM := Lib.hid (Cd HL1.out HL2.out HL1'.out ht'' hq7 HM6.out hm7); have HL1X : Hid (((L.set q2 (P2, t')).set q1 (P1, s1''))[q1]? = some (P1, s1'')) := Lib.hid (List.getElem?_set_self (List.getElem?_eq_some_iff.1 HL1'.out).1); have HL2X := Lib.hid ht''; have HOK1 := Lib.hid (HP7.out.pt.logs.ok _ (List.mem_of_getElem? HL1X.out)); have HH16 := Lib.hid HOK1.out.hv.1; obtain ⟨nh, hnh⟩ : ∃ m, m = s1''.hv.length := ⟨_, rfl⟩; obtain ⟨nw, hnw⟩ : ∃ m, m = s1''.ws.length := ⟨_, rfl⟩; have HNH := Lib.hid hnh; have HNW := Lib.hid hnw; clear hp7 hq7 hm7 ht'' hnh hnw)
      | (go_at_call 17; (with_reducible refine (bH HP7.out.pt.logs HL1X.out nh HNH.out.symm).mono ?_); rintro r u1 ⟨b1, d1, rfl, o1, hb1⟩; have HU1 := Lib.hid (HP7.out.keep hb1); have HO1 := Lib.hid o1.is; clear o1 hb1)
      | (go_at_call 17; (with_reducible refine (bH HU1.out.pt.logs HL2X.out nh (by rw [← HSM.out.1]; exact HNH.out.symm)).mono ?_); rintro r u2 ⟨b2, d2, rfl, o2, hb2⟩; have HU2 := Lib.hid (HU1.out.keep hb2); have HO1B := Lib.hid (HO1.out.below hb2); have HO2 : Hid (ag u2 (.slice b2 nh d2) s1''.hv) := Lib.hid (by have := o2.is; rwa [← HSM.out.1] at this); clear o2 hb2)
      | (go_at_call 29; (with_reducible refine (rD _ _ s1''.hv s1''.hv true u2 HO1B.out HO2.out (Nat.le_trans HH16.out (by decide)) (Nat.le_trans HH16.out (by decide)) (by simp)).mono ?_); rintro r u3 ⟨rfl, q3, rfl⟩; have HU3 := Lib.hid (HU2.out.keep (ed (Below.refl _ _) q3)))
      | (go_at_call 16; (with_reducible refine (fD HU3.out.pt.logs HL1X.out s1''.ws nw rfl HNW.out.symm).mono ?_); rintro r u4 ⟨b4, d4, rfl, o4, hb4⟩; have HU4 := Lib.hid (HU3.out.keep hb4); have HO4 := Lib.hid o4.is; clear o4 hb4)
      | (go_at_call 16; (with_reducible refine (fD HU4.out.pt.logs HL2X.out s1''.ws nw HSM.out.2.symm HNW.out.symm).mono ?_); rintro r u5 ⟨b5, d5, rfl, o5, hb5⟩; have HU5 := Lib.hid (HU4.out.keep hb5); have HO4B := Lib.hid (HO4.out.below hb5); have HO5 := Lib.hid o5.is; clear o5 hb5)
      | (go_at_call 24; (with_reducible refine (iY _ _ s1''.ws s1''.ws true u5 HO4B.out HO5.out (Nat.le_trans HOK1.out.len (by decide)) (Nat.le_trans HOK1.out.len (by decide)) (by simp)).mono ?_); rintro r u6 ⟨rfl, q6, rfl⟩; have HU6 := Lib.hid (HU5.out.keep (ed (Below.refl _ _) q6)))
      | (go_at_call 34; (with_reducible refine (gI HU6.out.pt.logs HL1X.out).mono ?_); rintro r u7 ⟨v7, rfl, hv7, hb7, _⟩; have HU7 := Lib.hid (HU6.out.keep hb7); have HV7 := Lib.hid hv7; clear hv7 hb7)
      | (go_at_call 34; (with_reducible refine (gI HU7.out.pt.logs HL2X.out).mono ?_); rintro r u8 ⟨v8, rfl, hv8, hb8, _⟩; have HU8 := Lib.hid (HU7.out.keep hb8); have HV7B := Lib.hid (HV7.out.below hb8); have HV8 : Hid (bS u8 v8 (aY s1''.ws)) := Lib.hid (by rw [HSM.out.2]; exact hv8); clear hv8 hb8)
      | (go_at_call 33; (with_reducible refine (oY _ _ s1''.ws u8 HV7B.out HV8.out (Nat.le_trans HOK1.out.len (by decide))).mono ?_); rintro r u9 ⟨rfl, hb9⟩; have HU9 := Lib.hid (HU8.out.keep hb9); clear hb9)
      | fail)
    go_ret
    exact ⟨rfl, HB3.out.trans (HU9.out.pt.logs.bel.mono HB3.out.size)⟩
  · have HS : Hid (dg l = false) := Lib.hid (by simpa using hs)
    clear hs
    go_enter Tryz.func9, Tryz.ntmps9
    go_wp2_with (first
      | (go_at_call 11; refine (eW W HG.out).mono ?_; rintro r w1 ⟨rfl, hb1⟩; have HB1 := Lib.hid hb1; clear hb1)
      | (go_at_call 13; (with_reducible refine (fd _ l w1 (HA.out.below HB1.out) hl HOK.out false HS.out).mono ?_); rintro r w3 ⟨rfl, hb3⟩; have HB3 := Lib.hid (HB1.out.trans (hb3.mono HB1.out.size)); clear hb3)
      | fail)
    go_ret
    exact ⟨rfl, HB3.out⟩
end Go.Proofs.YtdhognaoejiglaaGreatDoor
