/-
  The walk of 'packtrainkeep.LogCells'.
-/
import Derived.Test.YtdhognaoejiglaaGreatDoorKa45
import Derived.Test.YtdhognaoejiglaaGreatDoorKa33
import Derived.Test.YtdhognaoejiglaaGreatDoorKa34
namespace Go.Proofs.YtdhognaoejiglaaGreatDoor
open Go.RowKit

set_option maxRecDepth 100000 in
set_option maxHeartbeats 16000000 in
theorem logCells_walk (W : World) (a0 : Int) (_h0 : -9223372036854775808 ≤ a0) (_h1 : a0 ≤ 9223372036854775807) (v : Value) (l : List Actn) (h : cD W v l) (hl : l.length ≤ 9223372036854775807) (hok : ∀ x ∈ l, WrOk x.w) (hg : errT W) :
    Calls Tryz.prog 7 #[.int .i64 a0, v] W fun e w' => e = .returned (.bool true) ∧ Below W.heap.size W w' := by
  have HG := Lib.hid hg
  have HA := Lib.hid h
  have HOK := Lib.hid hok
  obtain ⟨q, hq⟩ : ∃ q : Nat, bD a0 5 = (q : Int) := ⟨(bD a0 5).toNat, by have := bX (a := a0) (n := 5) (by omega); omega⟩
  have hq5 : q < 5 := by have := bX (a := a0) (n := 5) (by omega); omega
  have HQ := Lib.hid hq
  obtain ⟨n, hn⟩ : ∃ n : Nat, n = 1 + q := ⟨_, rfl⟩
  have hn1 : (1 : Int) + (q : Int) = (n : Int) := by omega
  have hn2 : IntKind.i64.wrap ((1 : Int) + (q : Int)) = (n : Int) := by rw [hn1]; exact IntWalk.i64_in _ (by omega)
  have hn3 : 1 ≤ n ∧ n ≤ 5 := by omega
  have HN := Lib.hid hn3
  obtain ⟨hn4, hn5⟩ := hn3
  clear hq hn hq5 h hok hg
  by_cases hs : dg l = true
  · have HS := Lib.hid hs
    clear hs
    go_enter Tryz.func7, Tryz.ntmps7
    go_wp2_with (first
      | (go_at_call 11; refine (eW W HG.out).mono ?_; rintro r w1 ⟨rfl, hb1⟩; have HB1 := Lib.hid hb1; clear hb1)
      | (go_at_call 31; refine (uV w1).mono ?_; rintro r w2 ⟨rfl, hb2⟩; have HB2 := Lib.hid (HB1.out.trans (hb2.mono HB1.out.size)); clear hb2)
      | (go_at_call 13; (with_reducible refine (fd _ l w2 (HA.out.below HB2.out) hl HOK.out true HS.out).mono ?_); rintro r w3 ⟨rfl, hb3⟩; have HB3 := Lib.hid (HB2.out.trans (hb3.mono HB2.out.size)); clear hb3)
      | (go_at_call 14; (with_reducible refine (dK a0 5 w3 (by omega) (by omega)).mono ?_); rintro r w4 ⟨rfl, rfl⟩; rw [HQ.out])
      | (go_at_call 15; (with_reducible refine (jH n HN.out _ l w3 (HA.out.below HB3.out) HS.out HOK.out (HG.out.below HB3.out)).mono ?_); rintro r w5 ⟨g, c, L, U, rfl, hp⟩; have HP := Lib.hid hp; clear hp)
      | fail)
    go_loopw [33] (fun i wr => ∃ k : Nat, k ≤ n ∧ i = .int .i64 k ∧ PS w3 wr n 60 g c L U) (fun i _ => n - (intOf i).toNat)
    case atStart => exact ⟨0, by omega, rfl, HP.out⟩
    case round =>
      obtain ⟨k, hk, rfl, hp⟩ := hrel
      have HP2 := Lib.hid hp
      clear hp
      by_cases hlt : k < n
      · have b1 : decide ((k : Int) < (n : Int)) = true := by simpa using hlt
        obtain ⟨P, s, hL, hg1, hc1⟩ := HP2.out.cell hlt
        have HL := Lib.hid hL
        have HOKS := Lib.hid (HP2.out.pt.logs.ok _ (List.mem_of_getElem? hL))
        obtain ⟨ns, hns⟩ : ∃ m, m = s.ws.length := ⟨_, rfl⟩
        have HNS := Lib.hid hns
        clear hL hns
        go_wp2_with (first
          | (go_at_call 16; (with_reducible refine (fD HP2.out.pt.logs HL.out s.ws ns rfl HNS.out.symm).mono ?_); rintro r w6 ⟨a6, c6, rfl, ho6, hb6⟩; have HP6 := Lib.hid (HP2.out.keep hb6); have HO6 := Lib.hid ho6.is; clear ho6 hb6)
          | (go_at_call 32; (with_reducible refine (tG _ s.ws _ HO6.out HOKS.out.wr (Nat.le_trans HOKS.out.len (by decide))).mono ?_); rintro r w7 ⟨u7, rfl, hu7, hb7⟩; have HP7 := Lib.hid (HP6.out.keep hb7); have HU7 := Lib.hid hu7; clear hu7 hb7)
          | (go_at_call 34; (with_reducible refine (gI HP7.out.pt.logs HL.out).mono ?_); rintro r w8 ⟨u8, rfl, hu8, hb8, _⟩; have HP8 := Lib.hid (HP7.out.keep hb8); have HU7B := Lib.hid (HU7.out.below hb8); have HU8 := Lib.hid hu8; clear hu8 hb8)
          | (go_at_call 33; (with_reducible refine (oY _ _ s.ws _ HU7B.out HU8.out (Nat.le_trans HOKS.out.len (by decide))).mono ?_); rintro r w9 ⟨rfl, hb9⟩; have HP9 := Lib.hid (HP8.out.keep hb9); clear hb9)
          | fail)
        go_roundw
        · exact ⟨k + 1, by omega, by simp, HP9.out⟩
        · simp [intOf]; omega
      · have b1 : decide ((k : Int) < (n : Int)) = false := by simp; omega
        obtain rfl : k = n := by omega
        go_wp2
        go_ret
        exact ⟨rfl, HB3.out.trans (HP2.out.pt.logs.bel.mono HB3.out.size)⟩
  · have HS : Hid (dg l = false) := Lib.hid (by simpa using hs)
    clear hs
    go_enter Tryz.func7, Tryz.ntmps7
    go_wp2_with (first
      | (go_at_call 11; refine (eW W HG.out).mono ?_; rintro r w1 ⟨rfl, hb1⟩; have HB1 := Lib.hid hb1; clear hb1)
      | (go_at_call 31; refine (uV w1).mono ?_; rintro r w2 ⟨rfl, hb2⟩; have HB2 := Lib.hid (HB1.out.trans (hb2.mono HB1.out.size)); clear hb2)
      | (go_at_call 13; (with_reducible refine (fd _ l w2 (HA.out.below HB2.out) hl HOK.out false HS.out).mono ?_); rintro r w3 ⟨rfl, hb3⟩; have HB3 := Lib.hid (HB2.out.trans (hb3.mono HB2.out.size)); clear hb3)
      | fail)
    go_ret
    exact ⟨rfl, HB3.out⟩
end Go.Proofs.YtdhognaoejiglaaGreatDoor
