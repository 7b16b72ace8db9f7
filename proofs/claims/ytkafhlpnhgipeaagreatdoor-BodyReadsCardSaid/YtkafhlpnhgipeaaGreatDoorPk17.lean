import Derived.Test.YtkafhlpnhgipeaaGreatDoorPk16
import Derived.Test.YtkafhlpnhgipeaaGreatDoorPk10
/-
  The contract of the document's scanner's entries.
-/
namespace Go.Proofs.YtkafhlpnhgipeaaGreatDoor
open Go.RowKit

def EntriesIs (S : Nat) (s : ByteArray) (w : World) (e : Ending) (w' : World) : Prop :=
  w.grownBy w' (some S) ∧ ((∃ v n l, vreadF s.data.toList = (0, n, l) ∧ e = .returned v ∧ ownsE w' w.heap.size v l ∧ Sc w' S s n) ∨
    ∃ (x : Nat) (pl : Int), vreadF s.data.toList = (x, 0, []) ∧ x ≠ 0 ∧ e = .panicked [{ v := .iface 130 (.agg #[.int .i64 (x : Int), .int .i64 pl]), recovered := false }])
theorem grown_ne {w w' : World} {base S : Nat} {v : Value} {l : List Ent} (ho : ownsE w base v l) (hS : S < base) (hg : w.grownBy w' (some S)) : ownsE w' base v l :=
  World.ownsRow.kept ho hg (by
    cases hv : v.ownBlock with
    | none => exact .inl rfl
    | some k => exact .inr (fun e => by have := (ho.lt k hv).1; cases e; omega))

theorem grown_b {w w' : World} (h : Below w.heap.size w w') : w.grownBy w' none := ⟨h.os, h.tape, h.output, h.size, fun k hk _ => h.block k hk⟩
set_option maxRecDepth 100000 in
set_option maxHeartbeats 8000000 in
theorem entries_any (S : Nat) (s : ByteArray) (w : World) (h : Sc w S s 0) (hs : s.size ≤ 1000000) :
    Calls Tryz.prog 65 #[.pointer (some ⟨S, 0, none⟩)] w (EntriesIs S s w) := by
  obtain ⟨_, c1, _, hS⟩ := h.cells
  have H := Lib.hid h
  have c1' : w.cell? ⟨S, 1, none⟩ = some (.int .i64 0) := c1
  have HLL : Hid (s.data.toList.length = s.size) := Lib.hid (show s.data.toList.length = s.size from rfl)
  clear h c1
  have hz : s.data.toList.drop 0 = s.data.toList := List.drop_zero
  rcases intL_cases s.data.toList 16 with ⟨x, hi, hx, _⟩ | ⟨R0, j0, hi, hR0, _, hj0, hjl, _⟩
  · have HI := Lib.hid hi
    have HX := Lib.hid hx
    clear hi hx
    go_enter Tryz.func65, Tryz.ntmps65
    go_wp2_with fail
    refine (next_bad S s 0 x 16 _ H.out hs (by omega) (by decide) (by decide) (by rw [hz]; exact HI.out) HX.out).mono ?_
    rintro r w1 ⟨rfl, hg1⟩
    exact ⟨rfl, hg1, .inr ⟨x, _, vread_few HI.out HX.out, HX.out, rfl⟩⟩
  · have HI := Lib.hid hi
    have hR16 : R0 ≤ 16 := by omega
    rw [HLL.out] at hjl
    clear hi hR0
    go_enter Tryz.func65, Tryz.ntmps65
    go_wp2_with fail
    refine (next_ok S s 0 R0 j0 16 _ H.out hs (by omega) (by decide) (by decide) (by rw [hz]; exact HI.out) hj0).mono ?_
    rintro r w1 ⟨rfl, hsc1, hg1⟩
    rw [Nat.zero_add] at hsc1
    have HSC1 := Lib.hid hsc1
    have HG1 := Lib.hid hg1
    clear hsc1 hg1 hz
    go_wp2
    go_loopw [4, 5, 6] (fun ov rv iv wr => ∃ (R a : Nat) (rep least : Int) (acc : List Ent), iv = .int .i64 R ∧ rv = .int .i64 rep ∧ R ≤ 16 ∧ a ≤ s.size ∧ ((rep = -1 ∧ least = 0) ∨ (0 ≤ rep ∧ least = rep + 2)) ∧ rep + 300 * R ≤ 5000 ∧ acc.length + 20 * R ≤ 400 ∧ rdA R0 (s.data.toList.drop j0) j0 0 [] = rdA R (s.data.toList.drop a) a least acc ∧ ownsE wr w.heap.size ov acc ∧ Sc wr S s a ∧ w.grownBy wr (some S)) (fun _ _ iv _ => (intOf iv).toNat)
    case atStart => exact ⟨R0, j0, -1, 0, [], rfl, rfl, hR16, hjl, .inl ⟨rfl, rfl⟩, by omega, by simp; omega, rfl, ownsE_nil _ _, HSC1.out, HG1.out⟩
    case round =>
      obtain ⟨R, a, rep, least, acc, rfl, rfl, hR, ha, hrl, hb, hal, heq, hown, hsc, hgr⟩ := hrel
      have HEQ := Lib.hid heq
      have HOW := Lib.hid hown
      have HSC := Lib.hid hsc
      have HGR := Lib.hid hgr
      have HAL := Lib.hid hal
      obtain ⟨wo, rfl⟩ : ∃ wo, wo = wr := ⟨_, rfl⟩
      clear heq hown hsc hgr hal
      by_cases hR0 : 0 < R
      · obtain ⟨R', hR'⟩ : ∃ R', R = R' + 1 := ⟨R - 1, by omega⟩
        have HR' := Lib.hid hR'
        have hRr : (R : Int) - 1 = (R' : Int) := by omega
        have hRw : IntKind.i64.wrap (R' : Int) = (R' : Int) := IntWalk.i64_in _ (by omega)
        clear hR'
        rcases intL_cases (s.data.toList.drop a) 200 with ⟨x, hi, hx, _⟩ | ⟨g, j, hi, hg2, _, hj, hjl2, _⟩
        · have HV : Hid (vreadF s.data.toList = (x, 0, [])) := Lib.hid (show vreadF s.data.toList = (x, 0, []) from vread_bad HI.out (by rw [HEQ.out, HR'.out]; exact rdA_bad (getR_gap hi hx)))
          have HI2 := Lib.hid hi
          have HX := Lib.hid hx
          clear hi hx
          go_wp2_with fail
          refine (next_bad S s a x 200 _ HSC.out hs ha (by decide) (by decide) HI2.out HX.out).mono ?_
          rintro r w2 ⟨rfl, hg2⟩
          exact ⟨rfl, grown_on HGR.out hg2 (fun k hk => .inl (Option.some.inj hk).symm), .inr ⟨x, _, HV.out, HX.out, rfl⟩⟩
        · rw [List.length_drop, HLL.out] at hjl2
          have HI2 := Lib.hid hi
          have hdd : (s.data.toList.drop a).drop j = s.data.toList.drop (a + j) := by rw [List.drop_drop]
          obtain ⟨rp1, hrp1⟩ : ∃ rp1 : Int, rp1 = least + g - 1 := ⟨_, rfl⟩
          have HRP := Lib.hid hrp1
          rcases intL_cases (s.data.toList.drop (a + j)) 16 with ⟨x, hi2, hx, _⟩ | ⟨c, i, hi2, hc2, _, hi10, hil, _⟩
          · have HV : Hid (vreadF s.data.toList = (x, 0, [])) := Lib.hid (show vreadF s.data.toList = (x, 0, []) from vread_bad HI.out (by rw [HEQ.out, HR'.out]; exact rdA_bad (getR_many hi (by rw [hdd]; exact hi2) hx)))
            have HI3 := Lib.hid hi2
            have HX := Lib.hid hx
            clear hi2 hx hi hdd
            have hrpw : IntKind.i64.wrap rp1 = rp1 := IntWalk.i64_in _ (by omega)
            have hgw : IntKind.i64.wrap ((g : Int) + 1) = (g : Int) + 1 := IntWalk.i64_in _ (by omega)
            rcases hrl with ⟨rfl, hls⟩ | ⟨hr0, hls⟩
            · have e1 : (-1 : Int) + (g : Int) = rp1 := by omega
              have hl0 : 0 ≤ least ∧ least ≤ 5002 := by omega
              have hl1 : least ≤ -1 + 2 := by omega
              clear hrp1 hls
              go_wp2_with fail
              refine (next_ok S s a g j 200 _ HSC.out hs ha (by decide) (by decide) HI2.out hj).mono ?_
              rintro r w2 ⟨rfl, hsc2, hg3⟩
              have HSC2 := Lib.hid hsc2
              have HG2 := Lib.hid (grown_on HGR.out hg3 (fun k hk => .inl (Option.some.inj hk).symm))
              clear hsc2 hg3
              go_wp2_with fail
              refine (next_bad S s (a + j) x 16 _ HSC2.out hs (by omega) (by decide) (by decide) HI3.out HX.out).mono ?_
              rintro r w3 ⟨rfl, hg4⟩
              exact ⟨rfl, grown_on HG2.out hg4 (fun k hk => .inl (Option.some.inj hk).symm), .inr ⟨x, _, HV.out, HX.out, rfl⟩⟩
            · have e1 : rep + ((g : Int) + 1) = rp1 := by omega
              have hl0 : 0 ≤ least ∧ least ≤ 5002 := by omega
              have hl1 : least ≤ rep + 2 := by omega
              clear hrp1 hls
              go_wp2_with fail
              refine (next_ok S s a g j 200 _ HSC.out hs ha (by decide) (by decide) HI2.out hj).mono ?_
              rintro r w2 ⟨rfl, hsc2, hg3⟩
              have HSC2 := Lib.hid hsc2
              have HG2 := Lib.hid (grown_on HGR.out hg3 (fun k hk => .inl (Option.some.inj hk).symm))
              clear hsc2 hg3
              go_wp2_with fail
              refine (next_bad S s (a + j) x 16 _ HSC2.out hs (by omega) (by decide) (by decide) HI3.out HX.out).mono ?_
              rintro r w3 ⟨rfl, hg4⟩
              exact ⟨rfl, grown_on HG2.out hg4 (fun k hk => .inl (Option.some.inj hk).symm), .inr ⟨x, _, HV.out, HX.out, rfl⟩⟩
          · rw [List.length_drop, HLL.out] at hil
            have HGET : Hid (getR (s.data.toList.drop a) 0 least [] = tmA (c + 1) (s.data.toList.drop (a + j + i)) (0 + j + i) (least + g) []) := Lib.hid (show getR (s.data.toList.drop a) 0 least [] = tmA (c + 1) (s.data.toList.drop (a + j + i)) (0 + j + i) (least + g) [] by
              rw [getR_ok hi (by rw [hdd]; exact hi2), hdd, List.drop_drop])
            have HI3 := Lib.hid hi2
            clear hi2 hi hdd
            have hrpw : IntKind.i64.wrap rp1 = rp1 := IntWalk.i64_in _ (by omega)
            have hgw : IntKind.i64.wrap ((g : Int) + 1) = (g : Int) + 1 := IntWalk.i64_in _ (by omega)
            rcases hrl with ⟨rfl, hls⟩ | ⟨hr0, hls⟩
            · have e1 : (-1 : Int) + (g : Int) = rp1 := by omega
              have hl0 : 0 ≤ least ∧ least ≤ 5002 := by omega
              have hl1 : least ≤ -1 + 2 := by omega
              clear hrp1 hls
              go_wp2_with fail
              refine (next_ok S s a g j 200 _ HSC.out hs ha (by decide) (by decide) HI2.out hj).mono ?_
              rintro r w2 ⟨rfl, hsc2, hg3⟩
              have HSC2 := Lib.hid hsc2
              have HG2 := Lib.hid (grown_on HGR.out hg3 (fun k hk => .inl (Option.some.inj hk).symm))
              have HOW2 := Lib.hid (grown_ne HOW.out hS hg3)
              clear hsc2 hg3
              go_wp2_with fail
              refine (next_ok S s (a + j) c i 16 _ HSC2.out hs (by omega) (by decide) (by decide) HI3.out hi10).mono ?_
              rintro r w3 ⟨rfl, hsc3, hg4⟩
              have HSC3 := Lib.hid hsc3
              have HG3 := Lib.hid (grown_on HG2.out hg4 (fun k hk => .inl (Option.some.inj hk).symm))
              have HOW3 := Lib.hid (grown_ne HOW2.out hS hg4)
              clear hsc3 hg4
              go_wp2
              go_loopw [4, 5, 8] (fun ov rv kv wr => ∃ (T a2 : Nat) (K rep2 : Int) (racc : List Ent), kv = .int .i64 K ∧ K = (T : Int) - 1 ∧ rv = .int .i64 rep2 ∧ T ≤ c + 1 ∧ a2 ≤ s.size ∧ a ≤ a2 ∧ getR (s.data.toList.drop a) 0 least [] = tmA T (s.data.toList.drop a2) (a2 - a) (rep2 + 1) racc ∧ (T ≤ c → (racc.getLastD ⟨0, 0⟩).rep = rep2) ∧ rep2 + T = least + g + c ∧ racc.length + T = c + 1 ∧ ownsE wr w.heap.size ov (acc ++ racc) ∧ Sc wr S s a2 ∧ w.grownBy wr (some S)) (fun _ _ kv _ => (intOf kv + 1).toNat)
              case atStart =>
                refine ⟨c + 1, a + j + i, (c : Int), rp1, [], rfl, by omega, rfl, by omega, by omega, by omega, ?_, by omega, by have := HRP.out; omega, by simp, by rw [List.append_nil]; exact HOW3.out, HSC3.out, HG3.out⟩
                rw [HGET.out, show a + j + i - a = 0 + j + i by omega, show rp1 + 1 = least + g by have := HRP.out; omega]
              case round =>
                obtain ⟨T, a2, K, rep2, racc, rfl, hK, rfl, hT, ha2, haa, hgt, hlst, hrt, hrc, hown, hsc, hgr⟩ := hrel
                have HGT := Lib.hid hgt
                have HLST := Lib.hid hlst
                have HOW4 := Lib.hid hown
                have HSC4 := Lib.hid hsc
                have HGR4 := Lib.hid hgr
                have HK := Lib.hid hK
                have HRT := Lib.hid hrt
                have HRC := Lib.hid hrc
                have HACC := HAL.out
                have hkb : -1 ≤ K ∧ K ≤ 16 := by omega
                have hrb : -1 ≤ rep2 ∧ rep2 ≤ 6000 := by omega
                clear hgt hlst hown hsc hgr
                by_cases hT0 : 0 < T
                · obtain ⟨T', hT'⟩ : ∃ T', T = T' + 1 := ⟨T - 1, by omega⟩
                  have HT' := Lib.hid hT'
                  have hK0 : 0 ≤ K := by omega
                  have hKw : IntKind.i64.wrap (K - 1) = K - 1 := IntWalk.i64_in _ (by omega)
                  have hRw2 : IntKind.i64.wrap (rep2 + 1) = rep2 + 1 := IntWalk.i64_in _ (by omega)
                  rcases intL_cases (s.data.toList.drop a2) 1099511627776 with ⟨x, hi3, hx, _⟩ | ⟨n, m, hi3, hn3, _, hm10, hml, _⟩
                  · have HV : Hid (vreadF s.data.toList = (x, 0, [])) := Lib.hid (show vreadF s.data.toList = (x, 0, []) from vread_bad HI.out (by rw [HEQ.out, HR'.out]; exact rdA_bad (by rw [HGT.out, hT']; exact tmA_bad hi3 hx)))
                    have HI4 := Lib.hid hi3
                    have HX := Lib.hid hx
                    clear hi3 hx hK hT' hrt hrc
                    go_wp2_with fail
                    refine (next_bad S s a2 x 1099511627776 _ HSC4.out hs ha2 (by decide) (by decide) HI4.out HX.out).mono ?_
                    rintro r w5 ⟨rfl, hg5⟩
                    exact ⟨rfl, grown_on HGR4.out hg5 (fun k hk => .inl (Option.some.inj hk).symm), .inr ⟨x, _, HV.out, HX.out, rfl⟩⟩
                  · rw [List.length_drop, HLL.out] at hml
                    have HI4 := Lib.hid hi3
                    have HGT2 : Hid (getR (s.data.toList.drop a) 0 least [] = tmA T' (s.data.toList.drop (a2 + m)) (a2 + m - a) (rep2 + 1 + 1) (racc ++ [⟨rep2 + 1, n⟩])) := Lib.hid (show getR (s.data.toList.drop a) 0 least [] = tmA T' (s.data.toList.drop (a2 + m)) (a2 + m - a) (rep2 + 1 + 1) (racc ++ [⟨rep2 + 1, n⟩]) by
                      rw [HGT.out, hT', tmA_ok hi3, List.drop_drop, show a2 - a + m = a2 + m - a by omega])
                    have hlen : (acc ++ racc).length + 1 ≤ 1000000 := by rw [List.length_append]; omega
                    clear hi3 hK hT' hrt hrc
                    go_wp2_with fail
                    refine (next_ok S s a2 n m 1099511627776 _ HSC4.out hs ha2 (by decide) (by decide) HI4.out hm10).mono ?_
                    rintro r w5 ⟨rfl, hsc5, hg5⟩
                    have HSC5 := Lib.hid hsc5
                    have HG5 := Lib.hid (grown_on HGR4.out hg5 (fun k hk => .inl (Option.some.inj hk).symm))
                    have HOW5 := Lib.hid (grown_ne HOW4.out hS hg5)
                    have hz5 : w.heap.size ≤ w5.heap.size := HG5.out.size
                    clear hsc5 hg5
                    go_wp2_with (at_builtin; refine wpList_append_ent rfl _ _ rfl w.heap.size _ (acc ++ racc) rfl (HOW5.out.alloc _) w5.heap.size 1 rfl ⟨rep2 + 1, n⟩ ?c1 ?c2 ?c3 ?_)
                    case c1 => exact entBlk_new _ _ _
                    case c2 => exact hlen
                    case c3 => simp; omega
                    intro gg cap w6 ho6 hg6
                    have hne6 := (HOW5.out.alloc (.cells #[.int .i64 (rep2 + 1), .int .i64 n] 60)).lt
                    have HOW6 : Hid (ownsE w6 w.heap.size (.slice (some ⟨gg, 0, none⟩) (acc.length + racc.length + 1) cap) (acc ++ (racc ++ [⟨rep2 + 1, n⟩]))) := Lib.hid (by simpa using ho6)
                    have HG6 := Lib.hid (grown_on (grown_on HG5.out (World.grownBy_alloc w5 (.cells #[.int .i64 (rep2 + 1), .int .i64 n] 60) none) (fun k hk => by cases hk)) hg6 (fun k hk => .inr (hne6 k hk).1))
                    have HSC6 : Hid (Sc w6 S s (a2 + m)) := Lib.hid (show Sc w6 S s (a2 + m) from (HSC5.out.kept (World.grownBy_alloc w5 _ none) (by simp)).kept hg6 (fun e => by have := (hne6 S e).1; omega))
                    clear ho6 hg6 hne6 hlen
                    go_wp2
                    go_roundw
                    case rel =>
                      have hT' := HT'.out
                      have hK := HK.out
                      have hrt := HRT.out
                      have hrc := HRC.out
                      exact ⟨T', a2 + m, K - 1, rep2 + 1, racc ++ [⟨rep2 + 1, n⟩], rfl, by omega, rfl, by omega, by omega, by omega, HGT2.out, fun _ => by rw [getLastD_snoc], by omega, by rw [List.length_append]; simp; omega, HOW6.out, HSC6.out, HG6.out⟩
                    case measure => simp [intOf]; omega
                · have hT00 : T = 0 := by omega
                  have hK1 : K < 0 := by omega
                  have HE2 : Hid (rdA R0 (s.data.toList.drop j0) j0 0 [] = rdA R' (s.data.toList.drop a2) a2 (rep2 + 2) (acc ++ racc)) := Lib.hid (show rdA R0 (s.data.toList.drop j0) j0 0 [] = rdA R' (s.data.toList.drop a2) a2 (rep2 + 2) (acc ++ racc) by
                    have hg := HGT.out
                    rw [hT00] at hg
                    have hg3 : getR (s.data.toList.drop a) 0 least [] = .inr (racc, a2 - a) := hg
                    rw [HEQ.out, HR'.out, rdA_ok hg3, List.drop_drop, show a + (a2 - a) = a2 by omega, HLST.out (by omega)])
                  have hge : 0 ≤ rep2 := by omega
                  have hbb2 : rep2 + 300 * R' ≤ 5000 := by have := HR'.out; omega
                  have hal2 : (acc ++ racc).length + 20 * R' ≤ 400 := by have := HR'.out; rw [List.length_append]; omega
                  have hRR : R' < R := by have := HR'.out; omega
                  have HFIN : Hid (0 ≤ rep2 ∧ rep2 + 300 * R' ≤ 5000 ∧ (acc ++ racc).length + 20 * R' ≤ 400 ∧ R' < R) := Lib.hid ⟨hge, hbb2, hal2, hRR⟩
                  clear hT00 hK hrt hrc hbb2 hal2
                  go_wp2
                  go_roundw
                  case rel => exact ⟨R', a2, rep2, rep2 + 2, acc ++ racc, rfl, rfl, by have := HFIN.out; omega, ha2, .inr ⟨hge, rfl⟩, HFIN.out.2.1, HFIN.out.2.2.1, HE2.out, HOW4.out, HSC4.out, HGR4.out⟩
                  case measure => simp [intOf]; have := HFIN.out; omega
            · have e1 : rep + ((g : Int) + 1) = rp1 := by omega
              have hl0 : 0 ≤ least ∧ least ≤ 5002 := by omega
              have hl1 : least ≤ rep + 2 := by omega
              clear hrp1 hls
              go_wp2_with fail
              refine (next_ok S s a g j 200 _ HSC.out hs ha (by decide) (by decide) HI2.out hj).mono ?_
              rintro r w2 ⟨rfl, hsc2, hg3⟩
              have HSC2 := Lib.hid hsc2
              have HG2 := Lib.hid (grown_on HGR.out hg3 (fun k hk => .inl (Option.some.inj hk).symm))
              have HOW2 := Lib.hid (grown_ne HOW.out hS hg3)
              clear hsc2 hg3
              go_wp2_with fail
              refine (next_ok S s (a + j) c i 16 _ HSC2.out hs (by omega) (by decide) (by decide) HI3.out hi10).mono ?_
              rintro r w3 ⟨rfl, hsc3, hg4⟩
              have HSC3 := Lib.hid hsc3
              have HG3 := Lib.hid (grown_on HG2.out hg4 (fun k hk => .inl (Option.some.inj hk).symm))
              have HOW3 := Lib.hid (grown_ne HOW2.out hS hg4)
              clear hsc3 hg4
              go_wp2
              go_loopw [4, 5, 8] (fun ov rv kv wr => ∃ (T a2 : Nat) (K rep2 : Int) (racc : List Ent), kv = .int .i64 K ∧ K = (T : Int) - 1 ∧ rv = .int .i64 rep2 ∧ T ≤ c + 1 ∧ a2 ≤ s.size ∧ a ≤ a2 ∧ getR (s.data.toList.drop a) 0 least [] = tmA T (s.data.toList.drop a2) (a2 - a) (rep2 + 1) racc ∧ (T ≤ c → (racc.getLastD ⟨0, 0⟩).rep = rep2) ∧ rep2 + T = least + g + c ∧ racc.length + T = c + 1 ∧ ownsE wr w.heap.size ov (acc ++ racc) ∧ Sc wr S s a2 ∧ w.grownBy wr (some S)) (fun _ _ kv _ => (intOf kv + 1).toNat)
              case atStart =>
                refine ⟨c + 1, a + j + i, (c : Int), rp1, [], rfl, by omega, rfl, by omega, by omega, by omega, ?_, by omega, by have := HRP.out; omega, by simp, by rw [List.append_nil]; exact HOW3.out, HSC3.out, HG3.out⟩
                rw [HGET.out, show a + j + i - a = 0 + j + i by omega, show rp1 + 1 = least + g by have := HRP.out; omega]
              case round =>
                obtain ⟨T, a2, K, rep2, racc, rfl, hK, rfl, hT, ha2, haa, hgt, hlst, hrt, hrc, hown, hsc, hgr⟩ := hrel
                have HGT := Lib.hid hgt
                have HLST := Lib.hid hlst
                have HOW4 := Lib.hid hown
                have HSC4 := Lib.hid hsc
                have HGR4 := Lib.hid hgr
                have HK := Lib.hid hK
                have HRT := Lib.hid hrt
                have HRC := Lib.hid hrc
                have HACC := HAL.out
                have hkb : -1 ≤ K ∧ K ≤ 16 := by omega
                have hrb : -1 ≤ rep2 ∧ rep2 ≤ 6000 := by omega
                clear hgt hlst hown hsc hgr
                by_cases hT0 : 0 < T
                · obtain ⟨T', hT'⟩ : ∃ T', T = T' + 1 := ⟨T - 1, by omega⟩
                  have HT' := Lib.hid hT'
                  have hK0 : 0 ≤ K := by omega
                  have hKw : IntKind.i64.wrap (K - 1) = K - 1 := IntWalk.i64_in _ (by omega)
                  have hRw2 : IntKind.i64.wrap (rep2 + 1) = rep2 + 1 := IntWalk.i64_in _ (by omega)
                  rcases intL_cases (s.data.toList.drop a2) 1099511627776 with ⟨x, hi3, hx, _⟩ | ⟨n, m, hi3, hn3, _, hm10, hml, _⟩
                  · have HV : Hid (vreadF s.data.toList = (x, 0, [])) := Lib.hid (show vreadF s.data.toList = (x, 0, []) from vread_bad HI.out (by rw [HEQ.out, HR'.out]; exact rdA_bad (by rw [HGT.out, hT']; exact tmA_bad hi3 hx)))
                    have HI4 := Lib.hid hi3
                    have HX := Lib.hid hx
                    clear hi3 hx hK hT' hrt hrc
                    go_wp2_with fail
                    refine (next_bad S s a2 x 1099511627776 _ HSC4.out hs ha2 (by decide) (by decide) HI4.out HX.out).mono ?_
                    rintro r w5 ⟨rfl, hg5⟩
                    exact ⟨rfl, grown_on HGR4.out hg5 (fun k hk => .inl (Option.some.inj hk).symm), .inr ⟨x, _, HV.out, HX.out, rfl⟩⟩
                  · rw [List.length_drop, HLL.out] at hml
                    have HI4 := Lib.hid hi3
                    have HGT2 : Hid (getR (s.data.toList.drop a) 0 least [] = tmA T' (s.data.toList.drop (a2 + m)) (a2 + m - a) (rep2 + 1 + 1) (racc ++ [⟨rep2 + 1, n⟩])) := Lib.hid (show getR (s.data.toList.drop a) 0 least [] = tmA T' (s.data.toList.drop (a2 + m)) (a2 + m - a) (rep2 + 1 + 1) (racc ++ [⟨rep2 + 1, n⟩]) by
                      rw [HGT.out, hT', tmA_ok hi3, List.drop_drop, show a2 - a + m = a2 + m - a by omega])
                    have hlen : (acc ++ racc).length + 1 ≤ 1000000 := by rw [List.length_append]; omega
                    clear hi3 hK hT' hrt hrc
                    go_wp2_with fail
                    refine (next_ok S s a2 n m 1099511627776 _ HSC4.out hs ha2 (by decide) (by decide) HI4.out hm10).mono ?_
                    rintro r w5 ⟨rfl, hsc5, hg5⟩
                    have HSC5 := Lib.hid hsc5
                    have HG5 := Lib.hid (grown_on HGR4.out hg5 (fun k hk => .inl (Option.some.inj hk).symm))
                    have HOW5 := Lib.hid (grown_ne HOW4.out hS hg5)
                    have hz5 : w.heap.size ≤ w5.heap.size := HG5.out.size
                    clear hsc5 hg5
                    go_wp2_with (at_builtin; refine wpList_append_ent rfl _ _ rfl w.heap.size _ (acc ++ racc) rfl (HOW5.out.alloc _) w5.heap.size 1 rfl ⟨rep2 + 1, n⟩ ?c1 ?c2 ?c3 ?_)
                    case c1 => exact entBlk_new _ _ _
                    case c2 => exact hlen
                    case c3 => simp; omega
                    intro gg cap w6 ho6 hg6
                    have hne6 := (HOW5.out.alloc (.cells #[.int .i64 (rep2 + 1), .int .i64 n] 60)).lt
                    have HOW6 : Hid (ownsE w6 w.heap.size (.slice (some ⟨gg, 0, none⟩) (acc.length + racc.length + 1) cap) (acc ++ (racc ++ [⟨rep2 + 1, n⟩]))) := Lib.hid (by simpa using ho6)
                    have HG6 := Lib.hid (grown_on (grown_on HG5.out (World.grownBy_alloc w5 (.cells #[.int .i64 (rep2 + 1), .int .i64 n] 60) none) (fun k hk => by cases hk)) hg6 (fun k hk => .inr (hne6 k hk).1))
                    have HSC6 : Hid (Sc w6 S s (a2 + m)) := Lib.hid (show Sc w6 S s (a2 + m) from (HSC5.out.kept (World.grownBy_alloc w5 _ none) (by simp)).kept hg6 (fun e => by have := (hne6 S e).1; omega))
                    clear ho6 hg6 hne6 hlen
                    go_wp2
                    go_roundw
                    case rel =>
                      have hT' := HT'.out
                      have hK := HK.out
                      have hrt := HRT.out
                      have hrc := HRC.out
                      exact ⟨T', a2 + m, K - 1, rep2 + 1, racc ++ [⟨rep2 + 1, n⟩], rfl, by omega, rfl, by omega, by omega, by omega, HGT2.out, fun _ => by rw [getLastD_snoc], by omega, by rw [List.length_append]; simp; omega, HOW6.out, HSC6.out, HG6.out⟩
                    case measure => simp [intOf]; omega
                · have hT00 : T = 0 := by omega
                  have hK1 : K < 0 := by omega
                  have HE2 : Hid (rdA R0 (s.data.toList.drop j0) j0 0 [] = rdA R' (s.data.toList.drop a2) a2 (rep2 + 2) (acc ++ racc)) := Lib.hid (show rdA R0 (s.data.toList.drop j0) j0 0 [] = rdA R' (s.data.toList.drop a2) a2 (rep2 + 2) (acc ++ racc) by
                    have hg := HGT.out
                    rw [hT00] at hg
                    have hg3 : getR (s.data.toList.drop a) 0 least [] = .inr (racc, a2 - a) := hg
                    rw [HEQ.out, HR'.out, rdA_ok hg3, List.drop_drop, show a + (a2 - a) = a2 by omega, HLST.out (by omega)])
                  have hge : 0 ≤ rep2 := by omega
                  have hbb2 : rep2 + 300 * R' ≤ 5000 := by have := HR'.out; omega
                  have hal2 : (acc ++ racc).length + 20 * R' ≤ 400 := by have := HR'.out; rw [List.length_append]; omega
                  have hRR : R' < R := by have := HR'.out; omega
                  have HFIN : Hid (0 ≤ rep2 ∧ rep2 + 300 * R' ≤ 5000 ∧ (acc ++ racc).length + 20 * R' ≤ 400 ∧ R' < R) := Lib.hid ⟨hge, hbb2, hal2, hRR⟩
                  clear hT00 hK hrt hrc hbb2 hal2
                  go_wp2
                  go_roundw
                  case rel => exact ⟨R', a2, rep2, rep2 + 2, acc ++ racc, rfl, rfl, by have := HFIN.out; omega, ha2, .inr ⟨hge, rfl⟩, HFIN.out.2.1, HFIN.out.2.2.1, HE2.out, HOW4.out, HSC4.out, HGR4.out⟩
                  case measure => simp [intOf]; have := HFIN.out; omega
      · have hR00 : R = 0 := by omega
        have hR01 : ¬ 0 < (R : Int) := by omega
        have HEQ0 : Hid (rdA R0 (s.data.toList.drop j0) j0 0 [] = .inr (acc, a)) := Lib.hid (show rdA R0 (s.data.toList.drop j0) j0 0 [] = .inr (acc, a) by rw [HEQ.out, hR00]; rfl)
        obtain ⟨e, pl, hv⟩ : ∃ e pl, vrightF acc = (e, pl) := ⟨_, _, rfl⟩
        have HVR := Lib.hid hv
        have HACC : Hid (acc.length ≤ 9223372036854775807) := Lib.hid (show acc.length ≤ 9223372036854775807 by have := HAL.out; omega)
        clear hR00 hv
        go_wp2_with fail
        refine (rvright_as _ acc e pl _ HOW.out.is HACC.out HVR.out).mono ?_
        rintro r w2 ⟨rfl, hb2⟩
        have HB2 := Lib.hid hb2
        clear hb2
        go_wp2_with fail
        refine (is_any e pl _).mono ?_
        rintro r w3 ⟨rfl, hb3⟩
        have c0 : w3.cell? ⟨w2.heap.size, 0, none⟩ = some (.int .i64 e) := (hb3.cell (by simp)).trans (by simp)
        have HG3 : Hid (w.grownBy w3 (some S)) := Lib.hid (grown_on (grown_on (grown_on HGR.out (grown_b HB2.out) (fun k hk => by cases hk)) (World.grownBy_alloc w2 _ none) (fun k hk => by cases hk)) (grown_b hb3) (fun k hk => by cases hk))
        have HSC3 : Hid (Sc w3 S s a) := Lib.hid (((HSC.out.kept (grown_b HB2.out) (by simp)).kept (World.grownBy_alloc w2 _ none) (by simp)).kept (grown_b hb3) (by simp))
        have HOW3 := Lib.hid (((HOW.out.below HB2.out).alloc _).below hb3)
        clear hb3
        by_cases he : e = 0
        · have hbe : ((e : Int) == 0) = true := by simp; exact he
          have HV : Hid (vreadF s.data.toList = (0, a, acc)) := Lib.hid (vread_ok HI.out HEQ0.out (by rw [HVR.out]; exact he))
          rw [hbe]
          clear hbe he
          go_wp2
          go_ret
          exact ⟨HG3.out, .inl ⟨_, a, acc, HV.out, rfl, HOW3.out, HSC3.out⟩⟩
        · have hbe : ((e : Int) == 0) = false := by simp; exact he
          have HV : Hid (vreadF s.data.toList = (e, 0, [])) := Lib.hid (show vreadF s.data.toList = (e, 0, []) by
            have := vread_wrong HI.out HEQ0.out (by rw [HVR.out]; exact he)
            rw [HVR.out] at this; exact this)
          have HE := Lib.hid he
          rw [hbe]
          clear hbe he
          go_wp2_with fail
          refine (throw_any e 0 _).mono ?_
          rintro r w' ⟨rfl, rfl⟩
          exact ⟨rfl, HG3.out, .inr ⟨e, 0, HV.out, HE.out, rfl⟩⟩
end Go.Proofs.YtkafhlpnhgipeaaGreatDoor
/-
  The contract of the document's VectorRead: what it throws is caught.
-/
namespace Go.Proofs.YtkafhlpnhgipeaaGreatDoor
open Go.RowKit

/-- What the document's VectorRead answers. -/
def RVReadIs (w : World) (s : List UInt8) (e : Ending) (w' : World) : Prop :=
  ∃ v, e = .returned (.tuple #[v, .int .i64 ((vreadF s).2.1 : Nat), .agg #[.int .i64 ((vreadF s).1 : Nat), .int .i64 (-1)]]) ∧ ownsE w' w.heap.size v (vreadF s).2.2 ∧ Below w.heap.size w w'

/-- The three results in memory. -/
def D3 (w W : World) (lv : Value) (m x pl : Int) : Prop :=
  W.heap[w.heap.size]? = some (.cells #[lv] 22 (0, 0)) ∧ W.heap[w.heap.size + 1]? = some (.cells #[.int .i64 m] 3 (0, 0)) ∧ W.heap[w.heap.size + 2]? = some (.cells #[.int .i64 x, .int .i64 pl] 29 (0, 0)) ∧ Below w.heap.size w W ∧ w.heap.size + 3 ≤ W.heap.size
theorem D3.cells {w W : World} {lv : Value} {m x pl : Int} (h : D3 w W lv m x pl) :
    W.cell? ⟨w.heap.size, 0, none⟩ = some lv ∧ W.cell? ⟨w.heap.size + 1, 0, none⟩ = some (.int .i64 m) ∧ W.cell? ⟨w.heap.size + 2, 0, none⟩ = some (.int .i64 x) ∧ W.cell? ⟨w.heap.size + 2, 1, none⟩ = some (.int .i64 pl) ∧
      W.frozen? ⟨w.heap.size, 0, none⟩ = false ∧ W.frozen? ⟨w.heap.size + 1, 0, none⟩ = false ∧ W.frozen? ⟨w.heap.size + 2, 0, none⟩ = false ∧ W.frozen? ⟨w.heap.size + 2, 1, none⟩ = false := by
  obtain ⟨h1, h2, h3, _⟩ := h
  exact ⟨cell_of_row _ _ 0 _ _ (0, 0) h1, cell_of_row _ _ 0 _ _ (0, 0) h2, cell_of_row _ _ 0 _ _ (0, 0) h3, cell_of_row _ _ 1 _ _ (0, 0) h3, Lib.frozen_of_heap h1 0, Lib.frozen_of_heap h2 0, Lib.frozen_of_heap h3 0, Lib.frozen_of_heap h3 1⟩
theorem D3.kept {w W W2 : World} {lv : Value} {m x pl : Int} {row : Option Nat} (h : D3 w W lv m x pl) (hg : W.grownBy W2 row) (hr : ∀ k, row = some k → w.heap.size + 3 ≤ k) : D3 w W2 lv m x pl := by
  obtain ⟨h1, h2, h3, h4, h5⟩ := h
  have ne : ∀ k, k < w.heap.size + 3 → some k ≠ row := fun k hk e => by have := hr k e.symm; omega
  exact ⟨(hg.block _ (by omega) (ne _ (by omega))).trans h1, (hg.block _ (by omega) (ne _ (by omega))).trans h2, (hg.block _ (by omega) (ne _ (by omega))).trans h3, h4.grown hg (by omega) (fun k hk => by have := hr k hk; omega), Nat.le_trans h5 hg.size⟩

set_option maxRecDepth 100000 in
theorem vreset_good (F O N : Nat) (pl : Int) (u : FrameMode) (w : World) (c0 : w.cell? ⟨F, 0, none⟩ = some (.int .i64 0)) (c1 : w.cell? ⟨F, 1, none⟩ = some (.int .i64 pl)) :
    CallsD Tryz.prog 64 #[.pointer (some ⟨F, 0, none⟩), .pointer (some ⟨O, 0, none⟩), .pointer (some ⟨N, 0, none⟩)] u w fun r u' w' => u' = u ∧ (r = .returned (.tuple #[]) ∧ Below w.heap.size w w') := by
  go_enter_d Tryz.func64, Tryz.ntmps64
  go_wp2_with fail
  refine (is_any 0 pl _).mono ?_
  rintro r w1 ⟨rfl, hb1⟩
  have HB1 := Lib.hid hb1
  clear hb1
  go_wp2
  go_end0
  exact ⟨rfl, HB1.out⟩
set_option maxRecDepth 100000 in
theorem vreset_bad (F O N : Nat) (e pl m : Int) (v : Value) (u : FrameMode) (w : World) (he : (e == 0) = false) (c0 : w.cell? ⟨F, 0, none⟩ = some (.int .i64 e)) (c1 : w.cell? ⟨F, 1, none⟩ = some (.int .i64 pl)) (hF : F < w.heap.size) (hO : O < w.heap.size) (hN : N < w.heap.size) (hFO : F ≠ O) (hFN : F ≠ N) (hON : O ≠ N)
    (o0 : w.cell? ⟨O, 0, none⟩ = some v) (n0 : w.cell? ⟨N, 0, none⟩ = some (.int .i64 m)) (y0 : w.frozen? ⟨O, 0, none⟩ = false) (y1 : w.frozen? ⟨N, 0, none⟩ = false) (y2 : w.frozen? ⟨F, 0, none⟩ = false) (y3 : w.frozen? ⟨F, 1, none⟩ = false) :
    CallsD Tryz.prog 64 #[.pointer (some ⟨F, 0, none⟩), .pointer (some ⟨O, 0, none⟩), .pointer (some ⟨N, 0, none⟩)] u w fun r u' w' => u' = u ∧ (r = .returned (.tuple #[]) ∧ ∃ w1, Below w.heap.size w w1 ∧ w' = (((w1.setCell ⟨O, 0, none⟩ (.slice none 0 0)).setCell ⟨N, 0, none⟩ (.int .i64 0)).setCell ⟨F, 0, none⟩ (.int .i64 e)).setCell ⟨F, 1, none⟩ (.int .i64 (-1))) := by
  go_enter_d Tryz.func64, Tryz.ntmps64
  go_wp2_with fail
  refine (is_any e pl _).mono ?_
  rintro r w1 ⟨rfl, hb1⟩
  rw [he]
  have d0 : w1.cell? ⟨F, 0, none⟩ = some (.int .i64 e) := (hb1.cell hF).trans c0
  have HB1 := Lib.hid hb1
  have hz := hb1.size
  clear hb1
  go_wp2_with fail
  refine (baref_any e _).mono ?_
  rintro r w2 ⟨rfl, hb2⟩
  have hb3 := HB1.out.trans (hb2.mono hz)
  have e0 : w2.cell? ⟨F, 0, none⟩ = some (.int .i64 e) := (hb3.cell hF).trans c0
  have e1 : w2.cell? ⟨F, 1, none⟩ = some (.int .i64 pl) := (hb3.cell hF).trans c1
  have e2 : w2.cell? ⟨O, 0, none⟩ = some v := (hb3.cell hO).trans o0
  have e3 : w2.cell? ⟨N, 0, none⟩ = some (.int .i64 m) := (hb3.cell hN).trans n0
  have x0 : w2.frozen? ⟨F, 0, none⟩ = false := (hb3.frozen hF).trans y2
  have x1 : w2.frozen? ⟨F, 1, none⟩ = false := (hb3.frozen hF).trans y3
  have x2 : w2.frozen? ⟨O, 0, none⟩ = false := (hb3.frozen hO).trans y0
  have x3 : w2.frozen? ⟨N, 0, none⟩ = false := (hb3.frozen hN).trans y1
  have HB3 := Lib.hid hb3
  clear hb2 hb3 c0 c1 o0 n0 y0 y1 y2 y3 d0
  go_wp2
  go_end0
  exact ⟨rfl, w2, HB3.out, rfl⟩
end Go.Proofs.YtkafhlpnhgipeaaGreatDoor
/-
  The contract of the document's VectorRead: its door, and the whole.
-/
namespace Go.Proofs.YtkafhlpnhgipeaaGreatDoor
open Go.RowKit

/-- What stands at the door: the two deferred calls. -/
def vdoor (w : World) : List Deferred :=
  [{ target := .fn (Fn.func 28) #[], args := #[.pointer (some ⟨w.heap.size + 2, 0, none⟩)] },
    { target := .fn (Fn.func 64) #[.pointer (some ⟨w.heap.size + 2, 0, none⟩), .pointer (some ⟨w.heap.size, 0, none⟩), .pointer (some ⟨w.heap.size + 1, 0, none⟩)], args := #[] }]

set_option maxRecDepth 100000 in
set_option maxHeartbeats 1000000 in
theorem vdoor_bad {w W : World} {lv : Value} {m : Int} {s : List UInt8} (e : Nat) (pl : Int) (h : D3 w W lv m 0 (-1)) (he : e ≠ 0) (hrd : vreadF s = (e, 0, [])) (tmps : Array Value)
    (t2 : tmps[2]? = some (.pointer (some ⟨w.heap.size, 0, none⟩))) (t3 : tmps[3]? = some (.pointer (some ⟨w.heap.size + 1, 0, none⟩))) (t4 : tmps[4]? = some (.pointer (some ⟨w.heap.size + 2, 0, none⟩))) :
    Leaves Tryz.prog Tryz.f29 tmps (RVReadIs w s) (vdoor w) (.panicking [{ v := .iface 130 (.agg #[.int .i64 (e : Int), .int .i64 pl]), recovered := false }]) W := by
  obtain ⟨o0, n0, c0, c1, y0, y1, z0, z1⟩ := h.cells
  have hbel := h.2.2.2.1
  have hz := h.2.2.2.2
  have hbe : ((e : Int) == 0) = false := by simp; omega
  obtain ⟨W2, hW2⟩ : ∃ W2, (W.setCell ⟨w.heap.size + 2, 0, none⟩ (.int .i64 (e : Int))).setCell ⟨w.heap.size + 2, 1, none⟩ (.int .i64 pl) = W2 := ⟨_, rfl⟩
  have hz2 : W2.heap.size = W.heap.size := by rw [← hW2]; simp
  have h2 : D3 w W2 lv m e pl := by
    rw [← hW2]
    obtain ⟨r1, r2, r3, r4, r5⟩ := h
    refine ⟨?_, ?_, ?_, (r4.setCell (by simp) _).setCell (by simp) _, by simpa using r5⟩
    · simp [World.setCell, Array.getElem?_modify, r1]
    · simp [World.setCell, Array.getElem?_modify, r2]
    · simp [World.setCell, Array.getElem?_modify, r3]
  obtain ⟨W3, hW3⟩ : ∃ W3, W2.alloc (.cells #[.int .i64 (e : Int), .int .i64 pl] 130) = W3 := ⟨_, rfl⟩
  have h3 : D3 w W3 lv m e pl := by rw [← hW3]; exact h2.kept (World.grownBy_alloc W2 _ none) (fun k hk => by cases hk)
  have hz3 := h3.2.2.2.2
  obtain ⟨p0, p1, p2, p3, q0, q1, q2, q3⟩ := h3.cells
  unfold vdoor
  refine leaves_cons (f := 28) (args := #[.pointer (some ⟨w.heap.size + 2, 0, none⟩)]) (by simp) (by simp [go_sem]) ?_
  refine (caught_pan (w.heap.size + 2) e pl 0 (-1) [] W (by omega) c0 c1 z0 z1).mono ?_
  rintro r u' w2 ⟨rfl, rfl, rfl⟩
  rw [hW2, hW3]
  refine leaves_cons (f := 64) (args := #[.pointer (some ⟨w.heap.size + 2, 0, none⟩), .pointer (some ⟨w.heap.size, 0, none⟩), .pointer (some ⟨w.heap.size + 1, 0, none⟩)]) (by simp [settle]) (by simp [go_sem]) ?_
  refine (vreset_bad (w.heap.size + 2) w.heap.size (w.heap.size + 1) e pl m lv _ _ hbe p2 p3 (by omega) (by omega) (by omega) (by omega) (by omega) (by omega) p0 p1 q0 q1 q2 q3).mono ?_
  rintro r u' w4 ⟨rfl, rfl, w5, hb5, rfl⟩
  have h5 : D3 w w5 lv m e pl := h3.kept (grown_b hb5) (fun k hk => by cases hk)
  obtain ⟨r1, r2, r3, r4, r5⟩ := h5
  have h6 : D3 w ((((w5.setCell ⟨w.heap.size, 0, none⟩ (.slice none 0 0)).setCell ⟨w.heap.size + 1, 0, none⟩ (.int .i64 0)).setCell ⟨w.heap.size + 2, 0, none⟩ (.int .i64 e)).setCell ⟨w.heap.size + 2, 1, none⟩ (.int .i64 (-1))) (.slice none 0 0) 0 e (-1) := by
    refine ⟨?_, ?_, ?_, (((r4.setCell (by simp) _).setCell (by simp) _).setCell (by simp) _).setCell (by simp) _, by simpa using r5⟩
    · simp [World.setCell, Array.getElem?_modify, r1]
    · simp [World.setCell, Array.getElem?_modify, r2]
    · simp [World.setCell, Array.getElem?_modify, r3]
  obtain ⟨v0, v1, v2, v3, _⟩ := h6.cells
  refine ⟨.tuple #[.slice none 0 0, .int .i64 0, .agg #[.int .i64 (e : Int), .int .i64 (-1)]], by simp [results, Tryz.results29, go_sem, t2, t3, t4, v0, v1, v2, v3], .slice none 0 0, ?_, ?_, h6.2.2.2.1⟩
  · rw [hrd]; rfl
  · rw [hrd]; exact ownsE_nil _ _

set_option maxRecDepth 100000 in
set_option maxHeartbeats 1000000 in
theorem vdoor_good {w W : World} {lv : Value} {n : Nat} {l : List Ent} {s : List UInt8} (h : D3 w W lv n 0 (-1)) (ho : ownsE W (w.heap.size + 3) lv l) (hrd : vreadF s = (0, n, l)) (tmps : Array Value)
    (t2 : tmps[2]? = some (.pointer (some ⟨w.heap.size, 0, none⟩))) (t3 : tmps[3]? = some (.pointer (some ⟨w.heap.size + 1, 0, none⟩))) (t4 : tmps[4]? = some (.pointer (some ⟨w.heap.size + 2, 0, none⟩))) :
    Leaves Tryz.prog Tryz.f29 tmps (RVReadIs w s) (vdoor w) .returning W := by
  obtain ⟨_, _, c0, c1, _⟩ := h.cells
  unfold vdoor
  refine leaves_cons (f := 28) (args := #[.pointer (some ⟨w.heap.size + 2, 0, none⟩)]) (by simp) (by simp [go_sem]) ?_
  refine (caught_idle _ W).mono ?_
  rintro r u' w2 ⟨rfl, rfl, rfl⟩
  refine leaves_cons (f := 64) (args := #[.pointer (some ⟨w.heap.size + 2, 0, none⟩), .pointer (some ⟨w.heap.size, 0, none⟩), .pointer (some ⟨w.heap.size + 1, 0, none⟩)]) (by simp [settle]) (by simp [go_sem]) ?_
  refine (vreset_good (w.heap.size + 2) w.heap.size (w.heap.size + 1) (-1) _ _ c0 c1).mono ?_
  rintro r u' w3 ⟨rfl, rfl, hb3⟩
  have h3 := h.kept (grown_b hb3) (fun k hk => by cases hk)
  obtain ⟨v0, v1, v2, v3, _⟩ := h3.cells
  refine ⟨.tuple #[lv, .int .i64 (n : Int), .agg #[.int .i64 0, .int .i64 (-1)]], by simp [results, Tryz.results29, go_sem, t2, t3, t4, v0, v1, v2, v3], lv, ?_, ?_, h3.2.2.2.1⟩
  · rw [hrd]; rfl
  · rw [hrd]; exact (ho.below hb3).mono (by omega)

theorem grown_set (W : World) (b o : Nat) (x : Value) : W.grownBy (W.setCell ⟨b, o, none⟩ x) (some b) :=
  ⟨rfl, rfl, rfl, by simp, fun k hk hne => by
    have hk2 : b ≠ k := fun e => hne (by rw [e])
    simp only [World.setCell, Array.getElem?_modify, if_neg hk2]⟩
theorem own_set {W : World} {base b o : Nat} {v x : Value} {l : List Ent} (ho : ownsE W base v l) (hb : b < base) : ownsE (W.setCell ⟨b, o, none⟩ x) base v l :=
  grown_ne ho hb (grown_set W b o x)
theorem D3.over {w W : World} {lv lv' : Value} {m m' x pl : Int} (h : D3 w W lv m x pl) : D3 w ((((W.setCell ⟨w.heap.size, 0, none⟩ lv').setCell ⟨w.heap.size + 1, 0, none⟩ (.int .i64 m')).setCell ⟨w.heap.size + 2, 0, none⟩ (.int .i64 x)).setCell ⟨w.heap.size + 2, 1, none⟩ (.int .i64 pl)) lv' m' x pl := by
  obtain ⟨r1, r2, r3, r4, r5⟩ := h
  refine ⟨?_, ?_, ?_, (((r4.setCell (by simp) _).setCell (by simp) _).setCell (by simp) _).setCell (by simp) _, by simpa using r5⟩
  · simp [World.setCell, Array.getElem?_modify, r1]
  · simp [World.setCell, Array.getElem?_modify, r2]
  · simp [World.setCell, Array.getElem?_modify, r3]

set_option maxRecDepth 100000 in
set_option maxHeartbeats 4000000 in
theorem rvread_any (s : ByteArray) (w : World) (hs : s.size ≤ 1000000) :
    Calls Tryz.prog 29 #[.string s] w (RVReadIs w s.data.toList) := by
  have hmf : ∀ (fn : Fn) (first cap : Array Value) (w : World), (Instr.makeFunc fn first cap).run Tryz.prog w = .ok (.func fn first cap) w := fun _ _ _ _ => rfl
  go_enter_defers Tryz.func29, Tryz.ntmps29
  go_wp2_with fail
  refine (good_any _).mono ?_
  rintro r w1 ⟨rfl, hb1⟩
  have hz1 : w.heap.size + 3 ≤ w1.heap.size := by have := hb1.size; simpa using this
  have hA : D3 w (((w.alloc (.cells #[.slice none 0 0] 22)).alloc (.cells #[.int .i64 0] 3)).alloc (.cells #[.int .i64 0, .int .i64 0] 29)) (.slice none 0 0) 0 0 0 := by
    refine ⟨?_, ?_, ?_, (((Below.refl _ _).alloc (Nat.le_refl _) _).alloc (by simp) _).alloc (by simp only [World.size_alloc]; omega) _, by simp⟩
    · rw [Below.heap_alloc _ _ _ (by simp only [World.size_alloc]; omega), Below.heap_alloc _ _ _ (by simp only [World.size_alloc]; omega)]; exact heap_alloc_new w _
    · rw [Below.heap_alloc _ _ _ (by simp only [World.size_alloc]; omega)]; have h := heap_alloc_new (w.alloc (.cells #[.slice none 0 0] 22)) (.cells #[.int .i64 0] 3); simpa using h
    · have h := heap_alloc_new ((w.alloc (.cells #[.slice none 0 0] 22)).alloc (.cells #[.int .i64 0] 3)) (.cells #[.int .i64 0, .int .i64 0] 29); simpa using h
  have h1 := hA.kept (grown_b hb1) (fun k hk => by cases hk)
  obtain ⟨_, _, c0, c1, _, _, f0, f1⟩ := h1.cells
  have h2 : D3 w ((w1.setCell ⟨w.heap.size + 2, 0, none⟩ (.int .i64 0)).setCell ⟨w.heap.size + 2, 1, none⟩ (.int .i64 (-1))) (.slice none 0 0) 0 0 (-1) := by
    obtain ⟨r1, r2, r3, r4, r5⟩ := h1
    refine ⟨?_, ?_, ?_, (r4.setCell (by simp) _).setCell (by simp) _, by simpa using r5⟩
    · simp [World.setCell, Array.getElem?_modify, r1]
    · simp [World.setCell, Array.getElem?_modify, r2]
    · simp [World.setCell, Array.getElem?_modify, r3]
  have H2 := Lib.hid h2
  clear hb1 hA h1 h2
  have HS0 : Hid (Sc (((w1.setCell ⟨w.heap.size + 1 + 1, 0, none⟩ (.int .i64 0)).setCell ⟨w.heap.size + 1 + 1, 1, none⟩ (.int .i64 (-1))).alloc (.cells #[.string s, .int .i64 0] 75)) w1.heap.size s 0) := Lib.hid (by
    have h := heap_alloc_new ((w1.setCell ⟨w.heap.size + 1 + 1, 0, none⟩ (.int .i64 0)).setCell ⟨w.heap.size + 1 + 1, 1, none⟩ (.int .i64 (-1))) (.cells #[.string s, .int .i64 0] 75)
    unfold Sc
    simpa using h)
  have H3 := Lib.hid (H2.out.kept (World.grownBy_alloc _ (.cells #[.string s, .int .i64 0] 75) none) (fun k hk => by cases hk))
  go_wp2_with fail
  refine (entries_any w1.heap.size s _ HS0.out hs).mono ?_
  rintro r w2 ⟨hg, hc⟩
  have h4 := H3.out.kept hg (fun k hk => by cases hk; exact hz1)
  have H4 := Lib.hid h4
  rcases hc with ⟨v, n, l, hv, rfl, ho, hsc⟩ | ⟨x, pl, hv, hx, rfl⟩
  · obtain ⟨ad, cc, rfl⟩ : ∃ ad cc, v = .slice ad l.length cc := by
      obtain ⟨ad, cc, hh, _⟩ := ho.is.form
      exact ⟨ad, cc, hh⟩
    have h5 : D3 w (w2.setCell ⟨w.heap.size, 0, none⟩ (.slice ad l.length cc)) (.slice ad l.length cc) 0 0 (-1) := by
      obtain ⟨r1, r2, r3, r4, r5⟩ := h4
      refine ⟨?_, ?_, ?_, r4.setCell (by simp) _, by simpa using r5⟩
      · simp [World.setCell, Array.getElem?_modify, r1]
      · simp [World.setCell, Array.getElem?_modify, r2]
      · simp [World.setCell, Array.getElem?_modify, r3]
    obtain ⟨o0, _, _, _, y0, _⟩ := h4.cells
    obtain ⟨k0, k1, k2, k3, g0, g1, g2, g3⟩ := h5.cells
    have k2' : (w2.setCell ⟨w.heap.size, 0, none⟩ (.slice ad l.length cc)).cell? ⟨w.heap.size + 1 + 1, 0, none⟩ = some (.int .i64 0) := k2
    have k3' : (w2.setCell ⟨w.heap.size, 0, none⟩ (.slice ad l.length cc)).cell? ⟨w.heap.size + 1 + 1, 1, none⟩ = some (.int .i64 (-1)) := k3
    have g2' : (w2.setCell ⟨w.heap.size, 0, none⟩ (.slice ad l.length cc)).frozen? ⟨w.heap.size + 1 + 1, 0, none⟩ = false := g2
    have g3' : (w2.setCell ⟨w.heap.size, 0, none⟩ (.slice ad l.length cc)).frozen? ⟨w.heap.size + 1 + 1, 1, none⟩ = false := g3
    have hne : w1.heap.size ≠ w.heap.size := by omega
    have sc : (w2.setCell ⟨w.heap.size, 0, none⟩ (.slice ad l.length cc)).cell? ⟨w1.heap.size, 1, none⟩ = some (.int .i64 (n : Int)) := (World.cell?_setCell_other _ _ _ _ (by simp)).trans hsc.cells.2.1
    have H5 := Lib.hid h5
    have HO := Lib.hid ho
    have HV := Lib.hid hv
    clear h4 h5 ho hv hsc hg
    go_wp2
    refine wp_region_noPanic ?_
    go_region
    all_goals
      refine NoPanic.normal ?_
      have HO2 := Lib.hid (HO.out.mono (show w.heap.size + 3 ≤ _ by simp; omega))
      have HD := Lib.hid (H5.out.over (lv' := .slice ad l.length cc) (m' := (n : Int)) |>.kept (grown_drewN _ 1 none) (fun k hk => by cases hk))
      go_wp2
      exact vdoor_good HD.out (((((own_set HO2.out (by omega) |> fun h => own_set h (by omega)) |> fun h => own_set h (by omega)) |> fun h => own_set h (by omega)) |> fun h => own_set h (by omega)).drewN 1) HV.out _ rfl rfl rfl
  · exact vdoor_bad x pl h4 hx hv _ rfl rfl rfl
end Go.Proofs.YtkafhlpnhgipeaaGreatDoor
