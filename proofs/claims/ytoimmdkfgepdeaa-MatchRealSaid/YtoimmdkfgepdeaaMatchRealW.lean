/-
  The walk of 'packtrainkeep.MatchReal'.
-/
import Derived.Test.YtoimmdkfgepdeaaMatchFound
import Derived.Test.YtoimmdkfgepdeaaPick
import Derived.BigQuiet
import Derived.Deep.QuietTactic
namespace Go.Proofs.Ytoimmdkfgepdeaa
open Go.RowKit

set_option maxRecDepth 100000 in
set_option maxHeartbeats 2000000 in
theorem matchReal_walk (s : ByteArray) (hs : s.size ≤ maxLen) (at0 : Int) (_ : -9223372036854775808 ≤ at0) (_ : at0 ≤ 9223372036854775807) (w : World) :
    Calls Try.prog 5 #[.string s, .int .i64 at0] w fun e w' => e = .returned (.bool true) ∧ Below w.heap.size w w' := by
  have HS := Lib.hid hs
  unfold maxLen at hs
  by_cases h1 : 1000 < s.size
  · have d1 : decide (1000 < (s.size : Int)) = true := by simp; omega
    go_enter Try.func5, Try.ntmps5
    go_wp2_with fail
    refine (found_any _).mono ?_
    rintro e w1 ⟨rfl, hb1⟩
    have HB1 := Lib.hid hb1
    clear hb1
    go_wp2
    go_ret
    exact ⟨rfl, HB1.out⟩
  · have d1 : decide (1000 < (s.size : Int)) = false := by simp; omega
    by_cases h0 : s.size = 0
    · have d2 := empty_b h0
      clear h0
      go_enter Try.func5, Try.ntmps5
      go_wp2_with fail
      refine (found_any _).mono ?_
      rintro e w1 ⟨rfl, hb1⟩
      have HB1 := Lib.hid hb1
      clear hb1
      go_wp2
      go_ret
      exact ⟨rfl, HB1.out⟩
    · have d2 := full_b h0
      have hp := pickN_pos (a := at0) (show 0 < (s.size : Int) by omega)
      obtain ⟨a, ha⟩ := Int.eq_ofNat_of_zero_le hp.1
      have has : a < s.size := by have := hp.2; omega
      have HA := Lib.hid ha
      have hl : s.data.toList.length = s.size := (size_data s).symm
      clear hp ha
      rcases find_cases s.data.toList a with ⟨hz, _⟩ | ⟨b, n, hfn, _, hb1, hb2, hb3, hn1, hn2, hn3, hsm, _⟩
      · have HR : Hid (findV (find s.data.toList a) = .tuple #[.int .i64 0, .int .i64 0]) := by
          have h : findV (find s.data.toList a) = .tuple #[.int .i64 0, .int .i64 0] := by rw [hz]; rfl
          exact h
        clear hz hl h0
        go_enter Try.func5, Try.ntmps5
        go_wp2_with fail
        refine (found_any _).mono ?_
        rintro e w1 ⟨rfl, hb1⟩
        have HB1 := Lib.hid hb1
        clear hb1
        go_wp2_with fail
        refine (pick_any at0 s.size _ (by omega) (by omega)).mono ?_
        rintro e w' ⟨rfl, rfl⟩
        rw [HA.out]
        go_wp2_with fail
        refine (find_nat s a _ HS.out has).mono ?_
        rintro e w2 ⟨rfl, q1, rfl⟩
        rw [HR.out]
        go_wp2
        go_ret
        exact ⟨rfl, below_drewN HB1.out _⟩
      · have HR : Hid (findV (find s.data.toList a) = .tuple #[.int .i64 b, .int .i64 n]) := by
          have h : findV (find s.data.toList a) = .tuple #[.int .i64 b, .int .i64 n] := by rw [hfn]; rfl
          exact h
        have HSM := Lib.hid hsm
        rw [hl] at hn3
        have HL := Lib.hid hl
        have n0 : ((n : Int) == 0) = false := by simp; omega
        have e1 : decide ((b : Int) < 1) = false := by simp; omega
        have e2 : decide (a < b) = false := by simp; omega
        have e3 : decide (1024 < (b : Int)) = false := by simp; omega
        have e4 : decide ((n : Int) < 4) = false := by simp; omega
        have e5 : decide (67 < (n : Int)) = false := by simp; omega
        have e6 : decide ((s.size : Int) < (a : Int) + (n : Int)) = false := by simp; omega
        clear hl h0 hfn hsm
        go_enter Try.func5, Try.ntmps5
        go_wp2_with fail
        refine (found_any _).mono ?_
        rintro e w1 ⟨rfl, hb1⟩
        have HB1 := Lib.hid hb1
        clear hb1
        go_wp2_with fail
        refine (pick_any at0 s.size _ (by omega) (by omega)).mono ?_
        rintro e w' ⟨rfl, rfl⟩
        rw [HA.out]
        go_wp2_with fail
        refine (find_nat s a _ HS.out has).mono ?_
        rintro e w2 ⟨rfl, q1, rfl⟩
        rw [HR.out]
        go_wp2
        clear e1 e2 e3 e4 e5 e6 n0 d1 d2
        go_loopw [7] (fun i wr => ∃ k q : Nat, a ≤ k ∧ k ≤ a + n ∧ i = .int .i64 k ∧ wr = w1.drewN q) (fun i _ => a + n - (intOf i).toNat)
        case atStart => exact ⟨a, q1, Nat.le_refl _, by omega, rfl, rfl⟩
        case round =>
          obtain ⟨k, q, hk1, hk2, rfl, rfl⟩ := hrel
          by_cases hlt : k < a + n
          · obtain ⟨r, hr⟩ : ∃ r, r = k - b := ⟨_, rfl⟩
            have hks : k < s.size := by omega
            have hrs : r < s.size := by omega
            have h2 : IntKind.i64.wrap ((k : Int) - (b : Int)) = (r : Int) := by rw [IntWalk.i64_in _ (by omega)]; omega
            have hq : ((s[k].toNat : Int) != (s[r].toNat : Int)) = false := by
              have h := HSM.out.2.1 (k - a) (by omega)
              rw [show a + (k - a) = k by omega, ← hr, getB _ _ hks, getB _ _ hrs] at h
              rw [u8_ne]; simp [h]
            have hlt' : (k : Int) < (a : Int) + (n : Int) := by omega
            have h0r : (0 : Int) ≤ (r : Int) := by omega
            clear hr
            go_wp2
            go_quiet (fail)
            clear h2
            go_wp2
            go_roundw
            case rel => exact ⟨k + 1, _, by omega, by omega, by go_num, rfl⟩
            case measure => simp [intOf]; omega
          · have hka : k = a + n := by omega
            by_cases c1 : n = 67
            · have d1 : ((n : Int) == 67) = true := by simp; omega
              have hge : (a : Int) + (n : Int) ≤ (k : Int) := by omega
              clear c1 hka
              go_wp2
              go_quiet (fail)
              go_wp2
              go_ret
              exact ⟨rfl, below_drewN (below_drewN HB1.out _) _⟩
            · have d1 : ((n : Int) == 67) = false := by simp; omega
              obtain ⟨p, rfl⟩ : ∃ p, p = k := ⟨_, rfl⟩
              have hp := hka
              have h1' : IntKind.i64.wrap ((a : Int) + (n : Int)) = (p : Int) := by rw [IntWalk.i64_in _ (by omega)]; omega
              by_cases c2 : p = s.size
              · have d2 : ((p : Int) == (s.size : Int)) = true := by simp; omega
                have HP := Lib.hid hp
                have HC := Lib.hid c2
                clear c1 c2 hp hka hlt
                go_wp2
                go_quiet (fail)
                go_wp2
                go_ret
                exact ⟨rfl, below_drewN (below_drewN HB1.out _) _⟩
              · have d2 : ((p : Int) == (s.size : Int)) = false := by simp; omega
                obtain ⟨r, hr⟩ : ∃ r, r = p - b := ⟨_, rfl⟩
                have hps : p < s.size := by omega
                have hrs : r < s.size := by omega
                have h2' : IntKind.i64.wrap ((p : Int) - (b : Int)) = (r : Int) := by rw [IntWalk.i64_in _ (by omega)]; omega
                have hq : ((s[p].toNat : Int) != (s[r].toNat : Int)) = true := by
                  have h := HSM.out.2.2 (by rw [HL.out]; omega)
                  rw [← hp, ← hr, getB _ _ hps, getB _ _ hrs] at h
                  rw [u8_ne]; simp [h]
                have HP := Lib.hid hp
                have HR2 := Lib.hid hr
                clear c1 c2 hp hr hka hlt
                go_wp2
                go_quiet (fail)
                go_wp2
                go_ret
                exact ⟨rfl, below_drewN (below_drewN HB1.out _) _⟩
end Go.Proofs.Ytoimmdkfgepdeaa
