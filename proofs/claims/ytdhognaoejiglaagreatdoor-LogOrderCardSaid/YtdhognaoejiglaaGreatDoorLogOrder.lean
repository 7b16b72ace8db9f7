/-
  The walk of 'packtrainkeep.LogOrder'.
-/
import Derived.Test.YtdhognaoejiglaaGreatDoorKb44
import Derived.Deep.RegionHeld3
import Derived.Test.YtdhognaoejiglaaGreatDoorKb13
import Derived.Test.YtdhognaoejiglaaGreatDoorKb06
import Derived.Test.YtdhognaoejiglaaGreatDoorKb09
import Derived.Test.YtdhognaoejiglaaGreatDoorKb05
import Derived.Test.YtdhognaoejiglaaGreatDoorKb16
namespace Go.Proofs.YtdhognaoejiglaaGreatDoor
open Go.RowKit

theorem late_at {l : List Wr} (h : l.Pairwise late) {i j : Nat} {a b : Wr} (hi : l[i]? = some a) (hj : l[j]? = some b) (hij : i < j) : late a b := by
  obtain ⟨h1, e1⟩ := List.getElem?_eq_some_iff.1 hi
  obtain ⟨h2, e2⟩ := List.getElem?_eq_some_iff.1 hj
  rw [← e1, ← e2]
  exact List.pairwise_iff_getElem.1 h i j h1 h2 hij
theorem vright_nil (v : Value) (l : List Ent) (w : World) (hv : ae w v l) (hr : aB l) :
    Calls Tryz.prog 20 #[v] w fun e w' => e = .returned .nilIface ∧ Below w.heap.size w w' := by
  refine (cC v l w hv (Nat.le_trans hr.1 (by decide))).mono ?_
  rintro e w' ⟨u, rfl, ha, hb⟩
  rw [po hr] at ha
  obtain rfl := ha.nil rfl
  exact ⟨rfl, hb⟩
theorem late_cI {a b : Wr} (h : late a b) : cI (a.time, a.rep) (b.time, b.rep) = -1 := by
  rw [eW, if_pos (eI.1 h)]
set_option maxRecDepth 100000 in
set_option maxHeartbeats 16000000 in
theorem logOrder_walk (W : World) (a0 : Int) (_h0 : -9223372036854775808 ≤ a0) (_h1 : a0 ≤ 9223372036854775807) (v : Value) (l : List Actn) (h : cV W v l) (hl : l.length ≤ 9223372036854775807) (hok : ∀ x ∈ l, WrOk x.w) (hg : errT W) :
    Calls Tryz.prog 3 #[.int .i64 a0, v] W fun e w' => e = .returned (.bool true) ∧ Below W.heap.size W w' := by
  have HG := Lib.hid hg
  have HA := Lib.hid h
  have HOK := Lib.hid hok
  obtain ⟨q, hq⟩ : ∃ q : Nat, cK a0 5 = (q : Int) := ⟨(cK a0 5).toNat, by have := dW (a := a0) (n := 5) (by omega); omega⟩
  have hq5 : q < 5 := by have := dW (a := a0) (n := 5) (by omega); omega
  have HQ := Lib.hid hq
  obtain ⟨n, hn⟩ : ∃ n : Nat, n = 1 + q := ⟨_, rfl⟩
  have hn1 : (1 : Int) + (q : Int) = (n : Int) := by omega
  have hn2 : IntKind.i64.wrap ((1 : Int) + (q : Int)) = (n : Int) := by rw [hn1]; exact IntWalk.i64_in _ (by omega)
  have hn3 : 1 ≤ n ∧ n ≤ 5 := by omega
  have HN := Lib.hid hn3
  obtain ⟨hn4, hn5⟩ := hn3
  clear hq hn hq5 h hok hg
  by_cases hs : dZ l = true
  · have HS := Lib.hid hs
    clear hs
    go_enter Tryz.func3, Tryz.ntmps3
    go_wp2_with (first
      | (go_at_call 11; refine (gf W HG.out).mono ?_; rintro r w1 ⟨rfl, hb1⟩; have HB1 := Lib.hid hb1; clear hb1)
      | (go_at_call 12; refine (gj w1).mono ?_; rintro r w2 ⟨rfl, hb2⟩; have HB2 := Lib.hid (HB1.out.trans (hb2.mono HB1.out.size)); clear hb2)
      | (go_at_call 13; (with_reducible refine (gt _ l w2 (HA.out.below HB2.out) hl HOK.out true HS.out).mono ?_); rintro r w3 ⟨rfl, hb3⟩; have HB3 := Lib.hid (HB2.out.trans (hb3.mono HB2.out.size)); clear hb3)
      | (go_at_call 14; (with_reducible refine (eL a0 5 w3 (by omega) (by omega)).mono ?_); rintro r w4 ⟨rfl, rfl⟩; rw [HQ.out])
      | (go_at_call 15; (with_reducible refine (od n HN.out _ l w3 (HA.out.below HB3.out) HS.out HOK.out (HG.out.below HB3.out)).mono ?_); rintro r w5 ⟨g, c, L, U, rfl, hp⟩; have HP := Lib.hid hp; clear hp)
      | fail)
    go_loopw [34] (fun i wr => ∃ k : Nat, k ≤ n ∧ i = .int .i64 k ∧ PS w3 wr n 60 g c L U) (fun i _ => n - (intOf i).toNat)
    case atStart => exact ⟨0, by omega, rfl, HP.out⟩
    case round =>
      obtain ⟨k, hk, rfl, hp⟩ := hrel
      have HP2 := Lib.hid hp
      clear hp
      by_cases hlt : k < n
      · have b1 : decide ((k : Int) < (n : Int)) = true := by simpa using hlt
        obtain ⟨P, s, hL, hg1, hc1⟩ := HP2.out.cell hlt
        have HL := Lib.hid hL
        have HOKS := Lib.hid (HP2.out.pt.logs.ok _ (List.mem_of_getElem? hL))
        have HH16 := Lib.hid HOKS.out.hv.1
        obtain ⟨ns, hns⟩ : ∃ m, m = s.ws.length := ⟨_, rfl⟩
        obtain ⟨nh, hnh⟩ : ∃ m, m = s.hv.length := ⟨_, rfl⟩
        have HNS := Lib.hid hns
        have HNH := Lib.hid hnh
        clear hL hns hnh
        go_wp2_with (first
          | (go_at_call 16; (with_reducible refine (iq HP2.out.pt.logs HL.out s.ws ns rfl HNS.out.symm).mono ?_); rintro r w6 ⟨a6, c6, rfl, ho6, hb6⟩; have HP6 := Lib.hid (HP2.out.keep hb6); have HO6 := Lib.hid ho6.is; clear ho6 hb6)
          | (go_at_call 17; (with_reducible refine (bH HP6.out.pt.logs HL.out nh HNH.out.symm).mono ?_); rintro r w7 ⟨a7, c7, rfl, ho7, hb7⟩; have HP7 := Lib.hid (HP6.out.keep hb7); have HW7 := Lib.hid (HO6.out.below hb7); have HH7 := Lib.hid ho7.is; clear ho7 hb7)
          | fail)
        go_loopw [44] (fun i wx => ∃ j : Nat, j ≤ ns ∧ i = .int .i64 j ∧ PS w3 wx n 60 g c L U ∧ az wx (.slice a6 ns c6) s.ws ∧ ae wx (.slice a7 nh c7) s.hv) (fun i _ => ns - (intOf i).toNat)
        case atStart => exact ⟨0, by omega, rfl, HP7.out, HW7.out, HH7.out⟩
        case round =>
          obtain ⟨j, hj, rfl, hp, hw, hh⟩ := hrel
          have HPJ := Lib.hid hp
          have HWJ := Lib.hid hw
          have HHJ := Lib.hid hh
          clear hp hw hh
          by_cases hltj : j < ns
          · have b2 : decide ((j : Int) < (ns : Int)) = true := by simpa using hltj
            obtain ⟨x, hx⟩ : ∃ x, s.ws[j]? = some x := ⟨_, List.getElem?_eq_getElem (by rw [← HNS.out]; exact hltj)⟩
            obtain ⟨a0', c0', e0, hf⟩ := HWJ.out.form
            simp only [Value.slice.injEq] at e0
            obtain ⟨rfl, e1, e2⟩ := e0
            clear e1 e2
            obtain ⟨b', off, rfl, hbl, x0, x1, _, _, _, _⟩ := hf j x hx
            have hmx := (HOKS.out.mem x (List.mem_of_getElem? hx)).2
            obtain ⟨y, hy⟩ : ∃ y, ofF s.hv x.rep = y := ⟨_, rfl⟩
            rw [hy] at hmx
            have b3 : decide (y < x.time) = false := by simp; omega
            have HY := Lib.hid hy
            have hns0 : (0 : Int) < (ns : Int) := by omega
            by_cases hj0 : j = 0
            · subst hj0
              have b4 : decide ((0 : Int) < ((0 : Nat) : Int)) = false := by decide
              obtain ⟨T, R, K, key, val, N⟩ := x
              simp only at x0 x1 b3 HY
              have HPD := Lib.hid (HPJ.out.keep (Below.refl _ wr).drew)
              have HWD := Lib.hid (HWJ.out.below (Below.refl _ wr).drew)
              have HHD := Lib.hid (HHJ.out.below (Below.refl _ wr).drew)
              have HBL := Lib.hid hbl
              have x0' : wr.cell? ⟨b', off, none⟩ = some (.int .i64 T) := by simpa using x0
              have x1' : wr.cell? ⟨b', off + 1, none⟩ = some (.int .i64 R) := by simpa using x1
              clear x0 x1
              have k0 : wr.drew.cell? ⟨b', off, none⟩ = some (.int .i64 T) ∧ wr.drew.cell? ⟨b', off + 1, none⟩ = some (.int .i64 R) := ⟨x0', x1'⟩
              have HK0 := Lib.hid k0
              clear hx hf hmx hy
              go_wp2
              refine wp_region_held_drew (S := (fun w' => w'.cell? ⟨b', off, none⟩ = some (.int .i64 T) ∧ w'.cell? ⟨b', off + 1, none⟩ = some (.int .i64 R))) (by kernel_rfl) k0 (fun hHeld => ?_)
              refine wpAnyH_take (i := 0) (v := ?v0) rfl (by kernel_rfl) (by kernel_rfl) (by kernel_rfl) (fun _ _ _ h => h) (Or.inl ⟨by rfl, ?h0⟩) (by assumption) ?r0
              case h0 => (intro W hSw; (try dsimp only at hSw); go_simp; all_goals (with_reducible rfl))
              try simp only [Act.put, List.getElem_toArray, List.getElem_cons_zero, List.setIfInBounds_toArray, List.set_cons_zero, List.set_cons_succ]
              refine wpAnyH_take (i := 1) (v := ?v1) rfl (by kernel_rfl) (by kernel_rfl) (by kernel_rfl) (fun _ _ _ h => h) (Or.inl ⟨by rfl, ?h1⟩) (by assumption) ?r1
              case h1 => (intro W hSw; (try dsimp only at hSw); go_simp; all_goals (with_reducible rfl))
              try simp only [Act.put, List.getElem_toArray, List.getElem_cons_zero, List.getElem_cons_succ, List.setIfInBounds_toArray, List.set_cons_zero, List.set_cons_succ]
              refine wpAnyH_take (i := 2) (v := ?v2) rfl (by kernel_rfl) (by kernel_rfl) (by kernel_rfl) (fun _ _ _ h => h) (Or.inl ⟨by rfl, ?h2⟩) (by assumption) ?r2
              case h2 => (intro W hSw; (try dsimp only at hSw); go_simp; all_goals (with_reducible rfl))
              try simp only [Act.put, List.getElem_toArray, List.getElem_cons_zero, List.getElem_cons_succ, List.setIfInBounds_toArray, List.set_cons_zero, List.set_cons_succ]
              refine wpAnyH_take (i := 3) (v := undef) rfl (by kernel_rfl) (by kernel_rfl) (by kernel_rfl) (fun _ _ _ h => h) (Or.inr ⟨by rfl, rfl⟩) (by assumption) ?_
              try simp only [Act.put, List.getElem_toArray, List.getElem_cons_zero, List.getElem_cons_succ, List.setIfInBounds_toArray, List.set_cons_zero, List.set_cons_succ]
              refine wpAnyH_take (i := 4) (v := undef) rfl (by kernel_rfl) (by kernel_rfl) (by kernel_rfl) (fun _ _ _ h => h) (Or.inr ⟨by rfl, rfl⟩) (by assumption) ?_
              try simp only [Act.put, List.getElem_toArray, List.getElem_cons_zero, List.getElem_cons_succ, List.setIfInBounds_toArray, List.set_cons_zero, List.set_cons_succ]
              refine wpAnyH_take (i := 5) (v := undef) rfl (by kernel_rfl) (by kernel_rfl) (by kernel_rfl) (fun _ _ _ h => h) (Or.inr ⟨by rfl, rfl⟩) (by assumption) ?_
              try simp only [Act.put, List.getElem_toArray, List.getElem_cons_zero, List.getElem_cons_succ, List.setIfInBounds_toArray, List.set_cons_zero, List.set_cons_succ]
              refine wpAnyH_take (i := 6) (v := undef) rfl (by kernel_rfl) (by kernel_rfl) (by kernel_rfl) (fun _ _ _ h => h) (Or.inr ⟨by rfl, rfl⟩) (by assumption) ?_
              try simp only [Act.put, List.getElem_toArray, List.getElem_cons_zero, List.getElem_cons_succ, List.setIfInBounds_toArray, List.set_cons_zero, List.set_cons_succ]
              refine wpAnyH_take (i := 7) (v := undef) rfl (by kernel_rfl) (by kernel_rfl) (by kernel_rfl) (fun _ _ _ h => h) (Or.inr ⟨by rfl, rfl⟩) (by assumption) ?_
              try simp only [Act.put, List.getElem_toArray, List.getElem_cons_zero, List.getElem_cons_succ, List.setIfInBounds_toArray, List.set_cons_zero, List.set_cons_succ]
              refine wpAnyH_take (i := 8) (v := undef) rfl (by kernel_rfl) (by kernel_rfl) (by kernel_rfl) (fun _ _ _ h => h) (Or.inr ⟨by rfl, rfl⟩) (by assumption) ?_
              try simp only [Act.put, List.getElem_toArray, List.getElem_cons_zero, List.getElem_cons_succ, List.setIfInBounds_toArray, List.set_cons_zero, List.set_cons_succ]
              refine wpAnyH_take (i := 9) (v := undef) rfl (by kernel_rfl) (by kernel_rfl) (by kernel_rfl) (fun _ _ _ h => h) (Or.inr ⟨by rfl, rfl⟩) (by assumption) ?_
              try simp only [Act.put, List.getElem_toArray, List.getElem_cons_zero, List.getElem_cons_succ, List.setIfInBounds_toArray, List.set_cons_zero, List.set_cons_succ]
              refine wpAnyH_take (i := 10) (v := undef) rfl (by kernel_rfl) (by kernel_rfl) (by kernel_rfl) (fun _ _ _ h => h) (Or.inr ⟨by rfl, rfl⟩) (by assumption) ?_
              try simp only [Act.put, List.getElem_toArray, List.getElem_cons_zero, List.getElem_cons_succ, List.setIfInBounds_toArray, List.set_cons_zero, List.set_cons_succ]
              refine wpAnyH_take (i := 11) (v := undef) rfl (by kernel_rfl) (by kernel_rfl) (by kernel_rfl) (fun _ _ _ h => h) (Or.inr ⟨by rfl, rfl⟩) (by assumption) ?_
              try simp only [Act.put, List.getElem_toArray, List.getElem_cons_zero, List.getElem_cons_succ, List.setIfInBounds_toArray, List.set_cons_zero, List.set_cons_succ]
              refine wpAnyH_take (i := 12) (v := undef) rfl (by kernel_rfl) (by kernel_rfl) (by kernel_rfl) (fun _ _ _ h => h) (Or.inr ⟨by rfl, rfl⟩) (by assumption) ?_
              try simp only [Act.put, List.getElem_toArray, List.getElem_cons_zero, List.getElem_cons_succ, List.setIfInBounds_toArray, List.set_cons_zero, List.set_cons_succ]
              refine wpAnyH_take (i := 13) (v := undef) rfl (by kernel_rfl) (by kernel_rfl) (by kernel_rfl) (fun _ _ _ h => h) (Or.inr ⟨by rfl, rfl⟩) (by assumption) ?_
              try simp only [Act.put, List.getElem_toArray, List.getElem_cons_zero, List.getElem_cons_succ, List.setIfInBounds_toArray, List.set_cons_zero, List.set_cons_succ]
              refine wpAnyH_take (i := 14) (v := undef) rfl (by kernel_rfl) (by kernel_rfl) (by kernel_rfl) (fun _ _ _ h => h) (Or.inr ⟨by rfl, rfl⟩) (by assumption) ?_
              try simp only [Act.put, List.getElem_toArray, List.getElem_cons_zero, List.getElem_cons_succ, List.setIfInBounds_toArray, List.set_cons_zero, List.set_cons_succ]
              refine wpAnyH_take (i := 15) (v := undef) rfl (by kernel_rfl) (by kernel_rfl) (by kernel_rfl) (fun _ _ _ h => h) (Or.inr ⟨by rfl, rfl⟩) (by assumption) ?_
              try simp only [Act.put, List.getElem_toArray, List.getElem_cons_zero, List.getElem_cons_succ, List.setIfInBounds_toArray, List.set_cons_zero, List.set_cons_succ]
              refine wpAnyH_take (i := 16) (v := ?v16) rfl (by kernel_rfl) (by kernel_rfl) (by kernel_rfl) (fun _ _ _ h => h) (Or.inl ⟨by rfl, ?h16⟩) (by assumption) ?r16
              case h16 => (intro W hSw; (try dsimp only at hSw); go_simp; all_goals (with_reducible rfl))
              try simp only [Act.put, List.getElem_toArray, List.getElem_cons_zero, List.getElem_cons_succ, List.setIfInBounds_toArray, List.set_cons_zero, List.set_cons_succ]
              refine wpAnyH_take (i := 17) (v := ?v17) rfl (by kernel_rfl) (by kernel_rfl) (by kernel_rfl) (fun _ _ _ h => h) (Or.inl ⟨by rfl, ?h17⟩) (by assumption) ?r17
              case h17 => (intro W hSw; (try dsimp only at hSw); go_simp; all_goals (with_reducible rfl))
              try simp only [Act.put, List.getElem_toArray, List.getElem_cons_zero, List.getElem_cons_succ, List.setIfInBounds_toArray, List.set_cons_zero, List.set_cons_succ]
              refine wpAnyH_take (i := 18) (v := ?v18) rfl (by kernel_rfl) (by kernel_rfl) (by kernel_rfl) (fun _ _ _ h => h) (Or.inl ⟨by rfl, ?h18⟩) (by assumption) ?r18
              case h18 => (intro W hSw; (try dsimp only at hSw); go_simp; all_goals (with_reducible rfl))
              try simp only [Act.put, List.getElem_toArray, List.getElem_cons_zero, List.getElem_cons_succ, List.setIfInBounds_toArray, List.set_cons_zero, List.set_cons_succ]
              refine wpAnyH_take (i := 19) (v := ?v19) rfl (by kernel_rfl) (by kernel_rfl) (by kernel_rfl) (fun _ _ _ h => h) (Or.inl ⟨by rfl, ?h19⟩) (by assumption) ?r19
              case h19 => (intro W hSw; (try dsimp only at hSw); go_simp; all_goals (with_reducible rfl))
              try simp only [Act.put, List.getElem_toArray, List.getElem_cons_zero, List.getElem_cons_succ, List.setIfInBounds_toArray, List.set_cons_zero, List.set_cons_succ]
              refine wpAnyH_take (i := 20) (v := ?v20) rfl (by kernel_rfl) (by kernel_rfl) (by kernel_rfl) (fun _ _ _ h => h) (Or.inl ⟨by rfl, ?h20⟩) (by assumption) ?r20
              case h20 => (intro W hSw; (try dsimp only at hSw); go_simp; all_goals (with_reducible rfl))
              try simp only [Act.put, List.getElem_toArray, List.getElem_cons_zero, List.getElem_cons_succ, List.setIfInBounds_toArray, List.set_cons_zero, List.set_cons_succ]
              refine wpAnyH_take (i := 21) (v := ?v21) rfl (by kernel_rfl) (by kernel_rfl) (by kernel_rfl) (fun _ _ _ h => h) (Or.inl ⟨by rfl, ?h21⟩) (by assumption) ?r21
              case h21 => (intro W hSw; (try dsimp only at hSw); go_simp; all_goals (with_reducible rfl))
              try simp only [Act.put, List.getElem_toArray, List.getElem_cons_zero, List.getElem_cons_succ, List.setIfInBounds_toArray, List.set_cons_zero, List.set_cons_succ]
              refine wpAnyH_take (i := 22) (v := ?v22) rfl (by kernel_rfl) (by kernel_rfl) (by kernel_rfl) (fun _ _ _ h => h) (Or.inl ⟨by rfl, ?h22⟩) (by assumption) ?r22
              case h22 => (intro W hSw; (try dsimp only at hSw); go_simp; all_goals (with_reducible rfl))
              try simp only [Act.put, List.getElem_toArray, List.getElem_cons_zero, List.getElem_cons_succ, List.setIfInBounds_toArray, List.set_cons_zero, List.set_cons_succ]
              refine wpAnyH_take (i := 23) (v := ?v23) rfl (by kernel_rfl) (by kernel_rfl) (by kernel_rfl) (fun _ _ _ h => h) (Or.inl ⟨by rfl, ?h23⟩) (by assumption) ?r23
              case h23 => (intro W hSw; (try dsimp only at hSw); go_simp; all_goals (with_reducible rfl))
              try simp only [Act.put, List.getElem_toArray, List.getElem_cons_zero, List.getElem_cons_succ, List.setIfInBounds_toArray, List.set_cons_zero, List.set_cons_succ]
              refine wpAnyH_take (i := 24) (v := ?v24) rfl (by kernel_rfl) (by kernel_rfl) (by kernel_rfl) (fun _ _ _ h => h) (Or.inl ⟨by rfl, ?h24⟩) (by assumption) ?r24
              case h24 => (intro W hSw; (try dsimp only at hSw); go_simp; all_goals (with_reducible rfl))
              try simp only [Act.put, List.getElem_toArray, List.getElem_cons_zero, List.getElem_cons_succ, List.setIfInBounds_toArray, List.set_cons_zero, List.set_cons_succ]
              refine wpAnyH_take (i := 26) (v := ?v26) rfl (by kernel_rfl) (by kernel_rfl) (by kernel_rfl) (fun _ _ _ h => h) (Or.inl ⟨by rfl, ?h26⟩) (by assumption) ?r26
              case h26 => (intro W hSw; (try dsimp only at hSw); go_simp; all_goals (with_reducible rfl))
              try simp only [Act.put, List.getElem_toArray, List.getElem_cons_zero, List.getElem_cons_succ, List.setIfInBounds_toArray, List.set_cons_zero, List.set_cons_succ]
              refine wpAnyH_take (i := 27) (v := ?v27) rfl (by kernel_rfl) (by kernel_rfl) (by kernel_rfl) (fun _ _ _ h => h) (Or.inl ⟨by rfl, ?h27⟩) (by assumption) ?r27
              case h27 => (intro W hSw; (try dsimp only at hSw); go_simp; all_goals (with_reducible rfl))
              try simp only [Act.put, List.getElem_toArray, List.getElem_cons_zero, List.getElem_cons_succ, List.setIfInBounds_toArray, List.set_cons_zero, List.set_cons_succ]
              refine wpAnyH_take (i := 28) (v := ?v28) rfl (by kernel_rfl) (by kernel_rfl) (by kernel_rfl) (fun _ _ _ h => h) (Or.inl ⟨by rfl, ?h28⟩) (by assumption) ?r28
              case h28 => (intro W hSw; (try dsimp only at hSw); go_simp; all_goals (with_reducible rfl))
              try simp only [Act.put, List.getElem_toArray, List.getElem_cons_zero, List.getElem_cons_succ, List.setIfInBounds_toArray, List.set_cons_zero, List.set_cons_succ]
              refine wpAnyH_take (i := 29) (v := ?v29) rfl (by kernel_rfl) (by kernel_rfl) (by kernel_rfl) (fun _ _ _ h => h) (Or.inl ⟨by rfl, ?h29⟩) (by assumption) ?r29
              case h29 => (intro W hSw; (try dsimp only at hSw); go_simp; all_goals (with_reducible rfl))
              try simp only [Act.put, List.getElem_toArray, List.getElem_cons_zero, List.getElem_cons_succ, List.setIfInBounds_toArray, List.set_cons_zero, List.set_cons_succ]
              refine wpAnyH_take (i := 30) (v := ?v30) rfl (by kernel_rfl) (by kernel_rfl) (by kernel_rfl) (fun _ _ _ h => h) (Or.inl ⟨by rfl, ?h30⟩) (by assumption) ?r30
              case h30 => (intro W hSw; (try dsimp only at hSw); go_simp; all_goals (with_reducible rfl))
              try simp only [Act.put, List.getElem_toArray, List.getElem_cons_zero, List.getElem_cons_succ, List.setIfInBounds_toArray, List.set_cons_zero, List.set_cons_succ]
              refine wpAnyH_take (i := 31) (v := ?v31) rfl (by kernel_rfl) (by kernel_rfl) (by kernel_rfl) (fun _ _ _ h => h) (Or.inl ⟨by rfl, ?h31⟩) (by assumption) ?r31
              case h31 => (intro W hSw; (try dsimp only at hSw); go_simp; all_goals (with_reducible rfl))
              try simp only [Act.put, List.getElem_toArray, List.getElem_cons_zero, List.getElem_cons_succ, List.setIfInBounds_toArray, List.set_cons_zero, List.set_cons_succ]
              refine wpAnyH_ready (rs := [25]) (by kernel_rfl) (by simp) ?_
              refine AllReadyH.cons rfl (fun K hK => ?_) AllReadyH.nil
              go_simp
              refine (fJ (.slice a7 nh c7) s.hv R y wr.drew HHD.out (Nat.le_trans HH16.out (by decide)) HY.out).mono ?_
              rintro r' u1 ⟨rfl, hb1⟩
              have HU1 := Lib.hid (HPD.out.keep hb1)
              have HWU := Lib.hid (HWD.out.below hb1)
              have HHU := Lib.hid (HHD.out.below hb1)
              have k1 : u1.cell? ⟨b', off, none⟩ = some (.int .i64 T) ∧ u1.cell? ⟨b', off + 1, none⟩ = some (.int .i64 R) := ⟨(hb1.cell (p := ⟨b', off, none⟩) HBL.out).trans HK0.out.1, (hb1.cell (p := ⟨b', off + 1, none⟩) HBL.out).trans HK0.out.2⟩
              clear hb1
              refine hK.out _ _ k1 (fun hHeld25 => ?_)
              clear hK hHeld
              try simp only [Act.put, List.getElem_toArray, List.getElem_cons_zero, List.getElem_cons_succ, List.setIfInBounds_toArray, List.set_cons_zero, List.set_cons_succ]
              refine wpAnyH_take (i := 32) (v := ?v32) rfl (by kernel_rfl) (by kernel_rfl) (by kernel_rfl) (fun _ _ _ h => h) (Or.inl ⟨by rfl, ?h32⟩) (by assumption) ?r32
              case h32 => (intro W hSw; (try dsimp only at hSw); go_simp; all_goals (with_reducible rfl))
              try simp only [Act.put, List.getElem_toArray, List.getElem_cons_zero, List.getElem_cons_succ, List.setIfInBounds_toArray, List.set_cons_zero, List.set_cons_succ]
              refine wpAnyH_take (i := 33) (v := ?v33) rfl (by kernel_rfl) (by kernel_rfl) (by kernel_rfl) (fun _ _ _ h => h) (Or.inl ⟨by rfl, ?h33⟩) (by assumption) ?r33
              case h33 => (intro W hSw; (try dsimp only at hSw); go_simp; all_goals (with_reducible rfl))
              try simp only [Act.put, List.getElem_toArray, List.getElem_cons_zero, List.getElem_cons_succ, List.setIfInBounds_toArray, List.set_cons_zero, List.set_cons_succ]
              refine wpAnyH_done (by kernel_rfl) ?_ _
              go_wp2
              go_roundw
              · exact ⟨0 + 1, by omega, by simp, HU1.out, HWU.out, HHU.out⟩
              · simp [intOf]; omega
            · obtain ⟨m, hm⟩ : ∃ m, j = m + 1 := ⟨j - 1, by omega⟩
              have b4 : decide ((0 : Int) < (j : Int)) = true := by simp; omega
              have hns3 : ns ≤ 300 := by rw [HNS.out]; exact HOKS.out.len
              have b5 : 0 < j := by omega
              have hm1 : IntKind.i64.wrap ((j : Int) - 1) = (m : Int) := by rw [show (j : Int) - 1 = (m : Int) by omega]; exact IntWalk.i64_in _ (by omega)
              have hm2 : (m : Int) < (ns : Int) := by omega
              obtain ⟨p, hpm⟩ : ∃ p, s.ws[m]? = some p := ⟨_, List.getElem?_eq_getElem (by rw [← HNS.out]; omega)⟩
              obtain ⟨b2', off2, e1, hbl2, y0, y1, _, _, _, _⟩ := hf m p hpm
              simp only [Option.some.injEq, Addr.mk.injEq, and_true] at e1
              obtain ⟨rfl, rfl⟩ := e1
              have hci := late_cI (late_at HOKS.out.srt hpm hx (by omega))
              obtain ⟨T, R, K, key, val, N⟩ := x
              obtain ⟨T2, R2, K2, key2, val2, N2⟩ := p
              simp only at x0 x1 b3 HY y0 y1 hci
              have HCI := Lib.hid hci
              have HMJ := Lib.hid hm
              have HPD := Lib.hid (HPJ.out.keep (Below.refl _ wr).drew)
              have HWD := Lib.hid (HWJ.out.below (Below.refl _ wr).drew)
              have HHD := Lib.hid (HHJ.out.below (Below.refl _ wr).drew)
              have HBL := Lib.hid hbl
              have k0 : wr.drew.cell? ⟨b', off + m * 6, none⟩ = some (.int .i64 T2) ∧ wr.drew.cell? ⟨b', off + m * 6 + 1, none⟩ = some (.int .i64 R2) ∧ wr.drew.cell? ⟨b', off + j * 6, none⟩ = some (.int .i64 T) ∧ wr.drew.cell? ⟨b', off + j * 6 + 1, none⟩ = some (.int .i64 R) := ⟨y0, y1, x0, x1⟩
              have HK0 := Lib.hid k0
              clear hx hf hmx hy hci hpm hbl2 hm hj0
              go_wp2
              go_region_held3 (fun w' => w'.cell? ⟨b', off + m * 6, none⟩ = some (.int .i64 T2) ∧ w'.cell? ⟨b', off + m * 6 + 1, none⟩ = some (.int .i64 R2) ∧ w'.cell? ⟨b', off + j * 6, none⟩ = some (.int .i64 T) ∧ w'.cell? ⟨b', off + j * 6 + 1, none⟩ = some (.int .i64 R)) (first | exact k0 | exact k1 | exact k2 | fail) (first
                | (go_at_call 18; ((with_reducible refine (gc T2 R2 T R (-1) wr.drew HCI.out).mono ?_); rintro r' u1 ⟨rfl, hb1⟩; have HU1 := Lib.hid (HPD.out.keep hb1); have HW1 := Lib.hid (HWD.out.below hb1); have HH1 := Lib.hid (HHD.out.below hb1); have k1 : u1.cell? ⟨b', off + m * 6, none⟩ = some (.int .i64 T2) ∧ u1.cell? ⟨b', off + m * 6 + 1, none⟩ = some (.int .i64 R2) ∧ u1.cell? ⟨b', off + j * 6, none⟩ = some (.int .i64 T) ∧ u1.cell? ⟨b', off + j * 6 + 1, none⟩ = some (.int .i64 R) := ⟨(hb1.cell (p := ⟨b', off + m * 6, none⟩) HBL.out).trans HK0.out.1, (hb1.cell (p := ⟨b', off + m * 6 + 1, none⟩) HBL.out).trans HK0.out.2.1, (hb1.cell (p := ⟨b', off + j * 6, none⟩) HBL.out).trans HK0.out.2.2.1, (hb1.cell (p := ⟨b', off + j * 6 + 1, none⟩) HBL.out).trans HK0.out.2.2.2⟩; have HK1 := Lib.hid k1; have HBL1 := Lib.hid (Nat.lt_of_lt_of_le HBL.out hb1.size); clear hb1))
                | (go_at_call 19; ((with_reducible refine (fJ (.slice a7 nh c7) s.hv R y u1 HH1.out (Nat.le_trans HH16.out (by decide)) HY.out).mono ?_); rintro r' u2 ⟨rfl, hb2⟩; have HU2 := Lib.hid (HU1.out.keep hb2); have HW2 := Lib.hid (HW1.out.below hb2); have HH2 := Lib.hid (HH1.out.below hb2); have k2 : u2.cell? ⟨b', off + m * 6, none⟩ = some (.int .i64 T2) ∧ u2.cell? ⟨b', off + m * 6 + 1, none⟩ = some (.int .i64 R2) ∧ u2.cell? ⟨b', off + j * 6, none⟩ = some (.int .i64 T) ∧ u2.cell? ⟨b', off + j * 6 + 1, none⟩ = some (.int .i64 R) := ⟨(hb2.cell (p := ⟨b', off + m * 6, none⟩) HBL1.out).trans HK1.out.1, (hb2.cell (p := ⟨b', off + m * 6 + 1, none⟩) HBL1.out).trans HK1.out.2.1, (hb2.cell (p := ⟨b', off + j * 6, none⟩) HBL1.out).trans HK1.out.2.2.1, (hb2.cell (p := ⟨b', off + j * 6 + 1, none⟩) HBL1.out).trans HK1.out.2.2.2⟩; clear hb2))
                | fail)
              all_goals
                go_wp2
                go_roundw
                · exact ⟨j + 1, by omega, by simp, HU2.out, HW2.out, HH2.out⟩
                · simp [intOf]; omega
          · have b2 : decide ((j : Int) < (ns : Int)) = false := by simp; omega
            obtain rfl : j = ns := by omega
            go_wp2_with (go_at_call 20; (with_reducible refine (vright_nil (.slice a7 nh c7) s.hv wr HHJ.out HOKS.out.hv).mono ?_); rintro r' u1 ⟨rfl, hb1⟩; have HU1 := Lib.hid (HPJ.out.keep hb1); clear hb1)
            go_roundw
            · exact ⟨k + 1, by omega, by simp, HU1.out⟩
            · simp [intOf]; omega
      · have b1 : decide ((k : Int) < (n : Int)) = false := by simp; omega
        obtain rfl : k = n := by omega
        go_wp2
        go_ret
        exact ⟨rfl, HB3.out.trans (HP2.out.pt.logs.bel.mono HB3.out.size)⟩
  · have HS : Hid (dZ l = false) := Lib.hid (by simpa using hs)
    clear hs
    go_enter Tryz.func3, Tryz.ntmps3
    go_wp2_with (first
      | (go_at_call 11; refine (gf W HG.out).mono ?_; rintro r w1 ⟨rfl, hb1⟩; have HB1 := Lib.hid hb1; clear hb1)
      | (go_at_call 12; refine (gj w1).mono ?_; rintro r w2 ⟨rfl, hb2⟩; have HB2 := Lib.hid (HB1.out.trans (hb2.mono HB1.out.size)); clear hb2)
      | (go_at_call 13; (with_reducible refine (gt _ l w2 (HA.out.below HB2.out) hl HOK.out false HS.out).mono ?_); rintro r w3 ⟨rfl, hb3⟩; have HB3 := Lib.hid (HB2.out.trans (hb3.mono HB2.out.size)); clear hb3)
      | fail)
    go_ret
    exact ⟨rfl, HB3.out⟩
end Go.Proofs.YtdhognaoejiglaaGreatDoor
