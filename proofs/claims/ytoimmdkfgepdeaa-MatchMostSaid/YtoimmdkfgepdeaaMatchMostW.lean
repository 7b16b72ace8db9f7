/-
  The walk of 'packtrainkeep.MatchMost'.
-/
import Derived.Test.YtoimmdkfgepdeaaMatchFound
import Derived.Test.YtoimmdkfgepdeaaPick
import Derived.BigQuiet
import Derived.Deep.QuietTactic
namespace Go.Proofs.Ytoimmdkfgepdeaa
open Go.RowKit

/-- What is found is as long, or longer; of those as long none is nearer. -/
theorem find_most (l : List UInt8) (a b f z : Nat) (h : find l a = (f, z)) (ha : a < l.length) (h1 : 1 ≤ b) (h2 : b ≤ min 1024 a) :
    sm l a b (min 67 (l.length - a)) < 4 ∨ sm l a b (min 67 (l.length - a)) < z ∨ (sm l a b (min 67 (l.length - a)) = z ∧ f ≤ b) := by
  rcases find_cases l a with ⟨_, h3⟩ | ⟨f', z', h3, _, _, _, _, _, _, _, _, h4, h5⟩
  · exact .inl (h3 ha b h1 h2)
  · rw [h] at h3
    simp only [Prod.mk.injEq] at h3
    obtain ⟨rfl, rfl⟩ := h3
    have k1 := h4 b h1 h2
    by_cases hlt : b < f
    · exact .inr (.inl (h5 b h1 hlt))
    · rcases Nat.lt_or_ge (sm l a b (min 67 (l.length - a))) z with h6 | h6
      · exact .inr (.inl h6)
      · exact .inr (.inr ⟨by omega, by omega⟩)
theorem find_zero (l : List UInt8) : find l 0 = (0, 0) := by
  rcases find_cases l 0 with ⟨h, _⟩ | ⟨f, z, _, _, h1, _, h2, _⟩
  · exact h
  · omega

set_option maxRecDepth 100000 in
set_option maxHeartbeats 4000000 in
theorem matchMost_walk (s : ByteArray) (hs : s.size ≤ maxLen) (at0 : Int) (_ : -9223372036854775808 ≤ at0) (_ : at0 ≤ 9223372036854775807) (back0 : Int) (_ : -9223372036854775808 ≤ back0) (_ : back0 ≤ 9223372036854775807) (w : World) :
    Calls Try.prog 6 #[.string s, .int .i64 at0, .int .i64 back0] w fun e w' => e = .returned (.bool true) ∧ Below w.heap.size w w' := by
  have HS := Lib.hid hs
  unfold maxLen at hs
  by_cases h1 : 1000 < s.size
  · have d1 : decide (1000 < (s.size : Int)) = true := by simp; omega
    go_enter Try.func6, Try.ntmps6
    go_wp2_with fail
    refine (found_any _).mono ?_
    rintro e w1 ⟨rfl, hb1⟩
    have HB1 := Lib.hid hb1
    clear hb1
    go_wp2
    go_ret
    exact ⟨rfl, HB1.out⟩
  · have d1 : decide (1000 < (s.size : Int)) = false := by simp; omega
    by_cases h0 : s.size = 0
    · have d2 := empty_b h0
      clear h0
      go_enter Try.func6, Try.ntmps6
      go_wp2_with fail
      refine (found_any _).mono ?_
      rintro e w1 ⟨rfl, hb1⟩
      have HB1 := Lib.hid hb1
      clear hb1
      go_wp2
      go_ret
      exact ⟨rfl, HB1.out⟩
    · have d2 := full_b h0
      have hp := pickN_pos (a := at0) (show 0 < (s.size : Int) by omega)
      obtain ⟨a, ha⟩ := Int.eq_ofNat_of_zero_le hp.1
      have has : a < s.size := by have := hp.2; omega
      have HA := Lib.hid ha
      have hl : s.data.toList.length = s.size := (size_data s).symm
      clear hp ha
      by_cases haz : a = 0
      · subst haz
        have HR : Hid (findV (find s.data.toList 0) = .tuple #[.int .i64 0, .int .i64 0]) := by
          have h : findV (find s.data.toList 0) = .tuple #[.int .i64 0, .int .i64 0] := by rw [find_zero]; rfl
          exact h
        have HA0 : Hid (pickN at0 s.size = 0) := HA.out
        clear hl h0
        go_enter Try.func6, Try.ntmps6
        go_wp2_with fail
        refine (found_any _).mono ?_
        rintro e w1 ⟨rfl, hb1⟩
        have HB1 := Lib.hid hb1
        clear hb1
        go_wp2_with fail
        refine (pick_any at0 s.size _ (by omega) (by omega)).mono ?_
        rintro e w' ⟨rfl, rfl⟩
        rw [HA0.out]
        go_wp2_with fail
        refine (find_nat s 0 _ HS.out has).mono ?_
        rintro e w2 ⟨rfl, q1, rfl⟩
        rw [HR.out]
        go_wp2
        go_ret
        exact ⟨rfl, below_drewN HB1.out _⟩
      · have a0 : ((a : Int) == 0) = false := by simp; omega
        obtain ⟨t, ht⟩ : ∃ t, t = min 1024 a := ⟨_, rfl⟩
        have t1 : (if 1024 < (a : Int) then 1024 else (a : Int)) = (t : Int) := by split <;> omega
        have t2 : min (a : Int) 1024 = (t : Int) := by omega
        have hq := pickN_pos (a := back0) (show 0 < (t : Int) by omega)
        obtain ⟨c, hc⟩ := Int.eq_ofNat_of_zero_le hq.1
        have hct : c < t := by have := hq.2; omega
        obtain ⟨b, hb⟩ : ∃ b, b = 1 + c := ⟨_, rfl⟩
        have hbc : (1 : Int) + (c : Int) = (b : Int) := by omega
        obtain ⟨f, z, hfz⟩ : ∃ f z, find s.data.toList a = (f, z) := ⟨_, _, rfl⟩
        obtain ⟨m, hm⟩ : ∃ m, m = min 67 (s.size - a) := ⟨_, rfl⟩
        have HP : Hid (sm s.data.toList a b m < 4 ∨ sm s.data.toList a b m < z ∨ (sm s.data.toList a b m = z ∧ f ≤ b)) := by
          have h := find_most s.data.toList a b f z hfz (by omega) (by omega) (by omega)
          rw [hl, ← hm] at h
          exact h
        have HR : Hid (findV (find s.data.toList a) = .tuple #[.int .i64 f, .int .i64 z]) := by
          have h : findV (find s.data.toList a) = .tuple #[.int .i64 f, .int .i64 z] := by rw [hfz]; rfl
          exact h
        have HC := Lib.hid hc
        have HM := Lib.hid hm
        have hba : b ≤ a := by omega
        have ht0 : 0 < t := by omega
        have hta : t ≤ 1024 := by omega
        clear hl h0 hc hq ht hfz hm hb haz
        go_enter Try.func6, Try.ntmps6
        go_wp2_with fail
        refine (found_any _).mono ?_
        rintro e w1 ⟨rfl, hb1⟩
        have HB1 := Lib.hid hb1
        clear hb1
        go_wp2_with fail
        refine (pick_any at0 s.size _ (by omega) (by omega)).mono ?_
        rintro e w' ⟨rfl, rfl⟩
        rw [HA.out]
        go_wp2_with fail
        refine (pick_any back0 t _ (by omega) (by omega)).mono ?_
        rintro e w' ⟨rfl, rfl⟩
        rw [HC.out]
        go_wp2_with fail
        refine (find_nat s a _ HS.out has).mono ?_
        rintro e w2 ⟨rfl, q1, rfl⟩
        rw [HR.out]
        go_wp2
        clear d1 d2 a0 t1 t2 hbc
        go_loopw [11] (fun k wr => ∃ k' q' : Nat, k' ≤ m ∧ k = .int .i64 k' ∧ wr = w1.drewN q' ∧ ∀ j, j < k' → s.data.toList.getD (a + j) 0 = s.data.toList.getD (a + j - b) 0) (fun k _ => m - (intOf k).toNat)
        case atStart => exact ⟨0, q1, by omega, rfl, rfl, fun j h => by omega⟩
        case round =>
          obtain ⟨k, q', hk, rfl, rfl, hall⟩ := hrel
          have HA := Lib.hid hall
          clear hall
          by_cases hlt2 : k < m
          · obtain ⟨p, hp⟩ : ∃ p, p = a + k := ⟨_, rfl⟩
            obtain ⟨r, hr⟩ : ∃ r, r = a + k - b := ⟨_, rfl⟩
            have hpl : p < s.size := by have := HM.out; omega
            have hrl : r < s.size := by omega
            have h1 : IntKind.i64.wrap ((a : Int) + (k : Int)) = (p : Int) := by rw [IntWalk.i64_in _ (by omega)]; omega
            have h2 : IntKind.i64.wrap ((p : Int) - (b : Int)) = (r : Int) := by rw [IntWalk.i64_in _ (by omega)]; omega
            have k67 : k < 67 := by have := HM.out; omega
            have d1 : decide ((k : Int) < 67) = true := by simp; omega
            have d2 : decide (p < s.size) = true := by simp; omega
            have HP2 := Lib.hid hp
            have HR2 := Lib.hid hr
            clear hp hr
            by_cases heq : s[p] = s[r]
            · have hq : ((s[p].toNat : Int) == (s[r].toNat : Int)) = true := by rw [u8_eq]; simp [heq]
              have HN : Hid (∀ j, j < k + 1 → s.data.toList.getD (a + j) 0 = s.data.toList.getD (a + j - b) 0) := by
                intro j hj
                by_cases e : j = k
                · rw [e, ← HR2.out, ← HP2.out, getB _ _ hpl, getB _ _ hrl]; exact heq
                · exact HA.out j (by omega)
              clear heq
              go_wp2
              go_quiet (fail)
              clear h1 h2 d1 d2
              go_wp2
              go_roundw
              case rel => exact ⟨k + 1, _, by omega, by go_num, rfl, HN.out⟩
              case measure => simp [intOf]; omega
            · have hq : ((s[p].toNat : Int) == (s[r].toNat : Int)) = false := by rw [u8_eq]; simp [heq]
              have HK : Hid (sm s.data.toList a b m = k) := by
                refine sm_eq ⟨by omega, HA.out, fun _ => ?_⟩
                rw [← HR2.out, ← HP2.out, getB _ _ hpl, getB _ _ hrl]; exact heq
              clear heq
              have hp := HP.out
              rw [HK.out] at hp
              by_cases c4 : k < 4
              · have e1 : decide ((k : Int) < 4) = true := by simp; omega
                clear hp
                go_wp2
                go_quiet (fail)
                go_wp2
                go_ret
                exact ⟨rfl, by first | exact below_drewN HB1.out _ | exact below_drewN (below_drewN HB1.out _) _⟩
              · have e1 : decide ((k : Int) < 4) = false := by simp; omega
                by_cases c5 : k < z
                · have e2 : decide (k < z) = true := by simp; omega
                  clear hp c5
                  go_wp2
                  go_quiet (fail)
                  go_wp2
                  go_ret
                  exact ⟨rfl, by first | exact below_drewN HB1.out _ | exact below_drewN (below_drewN HB1.out _) _⟩
                · have e2 : decide (k < z) = false := by simp; omega
                  have e3 : ((k : Int) == (z : Int)) = true := by simp; omega
                  have e4 : decide (f ≤ b) = true := by simp; omega
                  clear hp c5
                  go_wp2
                  go_quiet (fail)
                  go_wp2
                  go_ret
                  exact ⟨rfl, by first | exact below_drewN HB1.out _ | exact below_drewN (below_drewN HB1.out _) _⟩
          · have e : k = m := by omega
            have HK : Hid (sm s.data.toList a b m = k) := by
              refine sm_eq ⟨by omega, HA.out, fun h => absurd h hlt2⟩
            by_cases k67 : k < 67
            · obtain ⟨p, hp⟩ : ∃ p, p = a + k := ⟨_, rfl⟩
              have hps : p ≤ s.size := by have := HM.out; omega
              have h1 : IntKind.i64.wrap ((a : Int) + (k : Int)) = (p : Int) := by rw [IntWalk.i64_in _ (by omega)]; omega
              have d1 : decide ((k : Int) < 67) = true := by simp; omega
              have d2 : decide (p < s.size) = false := by have := HM.out; simp; omega
              have HP2 := Lib.hid hp
              clear hp e
              have hp := HP.out
              rw [HK.out] at hp
              by_cases c4 : k < 4
              · have e1 : decide ((k : Int) < 4) = true := by simp; omega
                clear hp
                go_wp2
                go_quiet (fail)
                go_wp2
                go_ret
                exact ⟨rfl, by first | exact below_drewN HB1.out _ | exact below_drewN (below_drewN HB1.out _) _⟩
              · have e1 : decide ((k : Int) < 4) = false := by simp; omega
                by_cases c5 : k < z
                · have e2 : decide (k < z) = true := by simp; omega
                  clear hp c5
                  go_wp2
                  go_quiet (fail)
                  go_wp2
                  go_ret
                  exact ⟨rfl, by first | exact below_drewN HB1.out _ | exact below_drewN (below_drewN HB1.out _) _⟩
                · have e2 : decide (k < z) = false := by simp; omega
                  have e3 : ((k : Int) == (z : Int)) = true := by simp; omega
                  have e4 : decide (f ≤ b) = true := by simp; omega
                  clear hp c5
                  go_wp2
                  go_quiet (fail)
                  go_wp2
                  go_ret
                  exact ⟨rfl, by first | exact below_drewN HB1.out _ | exact below_drewN (below_drewN HB1.out _) _⟩
            · have d1 : decide ((k : Int) < 67) = false := by simp; omega
              clear e
              have hp := HP.out
              rw [HK.out] at hp
              by_cases c4 : k < 4
              · omega
              · have e1 : decide ((k : Int) < 4) = false := by simp; omega
                by_cases c5 : k < z
                · have e2 : decide (k < z) = true := by simp; omega
                  clear hp c5
                  go_wp2
                  go_quiet (fail)
                  go_wp2
                  go_ret
                  exact ⟨rfl, by first | exact below_drewN HB1.out _ | exact below_drewN (below_drewN HB1.out _) _⟩
                · have e2 : decide (k < z) = false := by simp; omega
                  have e3 : ((k : Int) == (z : Int)) = true := by simp; omega
                  have e4 : decide (f ≤ b) = true := by simp; omega
                  clear hp c5
                  go_wp2
                  go_quiet (fail)
                  go_wp2
                  go_ret
                  exact ⟨rfl, by first | exact below_drewN HB1.out _ | exact below_drewN (below_drewN HB1.out _) _⟩
end Go.Proofs.Ytoimmdkfgepdeaa
