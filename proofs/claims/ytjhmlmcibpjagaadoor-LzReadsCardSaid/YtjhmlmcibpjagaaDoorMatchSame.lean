/-
  The contract of match.same.
-/
import Derived.Test.YtjhmlmcibpjagaaDoorProg
import Derived.Test.YtjhmlmcibpjagaaDoorMatchM
import Derived.WalkKit
import Derived.Handy
import Derived.Lib.Hide
import Derived.BigQuiet
import Derived.Deep.QuietTactic
import Derived.WalkSmall
import Derived.IntWalk
import Derived.Outline
namespace Go.Proofs.YtjhmlmcibpjagaaDoor
open Go.RowKit

theorem getB (s : ByteArray) (j : Nat) (h : j < s.size) : s.data.toList.getD j 0 = s[j] := by
  have hl : j < s.data.size := h
  rw [List.getD_eq_getElem?_getD, Array.getElem?_toList, Array.getElem?_eq_getElem hl]; rfl
theorem drewq (w : World) (q n : Nat) : ∃ k, (w.drewN q).drewN n = w.drewN k := ⟨_, World.drewN_drewN _ _ _⟩
theorem u8_ne (x y : UInt8) : ((x.toNat : Int) != (y.toNat : Int)) = !decide (x = y) := by
  by_cases h : x = y
  · subst h; simp
  · have h2 : x.toNat ≠ y.toNat := fun e => h (UInt8.toNat_inj.1 e)
    simp [h]; omega
theorem u8_eq (x y : UInt8) : ((x.toNat : Int) == (y.toNat : Int)) = decide (x = y) := by
  by_cases h : x = y
  · subst h; simp
  · have h2 : x.toNat ≠ y.toNat := fun e => h (UInt8.toNat_inj.1 e)
    simp [h]; omega

set_option maxRecDepth 100000 in
set_option maxHeartbeats 1000000 in
theorem same_any (s : ByteArray) (a b m : Nat) (w : World) (hs : s.size ≤ maxLen) (hb : b ≤ a) (hm : a + m ≤ s.size) :
    Calls Tryd.prog 63 #[.string s, .int .i64 a, .int .i64 b, .int .i64 m] w fun e w' => e = .returned (.int .i64 (sm s.data.toList a b m : Nat)) ∧ ∃ q, w' = w.drewN q := by
  unfold maxLen at hs
  go_enter Tryd.func63, Tryd.ntmps63
  go_wp2
  go_loopw [11] (fun i wr => ∃ k q : Nat, k ≤ m ∧ i = .int .i64 k ∧ wr = w.drewN q ∧ ∀ j, j < k → s.data.toList.getD (a + j) 0 = s.data.toList.getD (a + j - b) 0) (fun i _ => m - (intOf i).toNat)
  case atStart => exact ⟨0, 0, by omega, rfl, rfl, fun j h => by omega⟩
  case round =>
    obtain ⟨k, q, hk, rfl, rfl, hall⟩ := hrel
    have HA := Lib.hid hall
    clear hall
    by_cases hlt : k < m
    · obtain ⟨p, hp⟩ : ∃ p, p = a + k := ⟨_, rfl⟩
      obtain ⟨r, hr⟩ : ∃ r, r = a + k - b := ⟨_, rfl⟩
      have hpl : p < s.size := by omega
      have hrl : r < s.size := by omega
      have h1 : IntKind.i64.wrap ((a : Int) + (k : Int)) = (p : Int) := by rw [IntWalk.i64_in _ (by omega)]; omega
      have h2 : IntKind.i64.wrap ((p : Int) - (b : Int)) = (r : Int) := by rw [IntWalk.i64_in _ (by omega)]; omega
      have HP := Lib.hid hp
      have HR := Lib.hid hr
      clear hp hr
      by_cases heq : s[p] = s[r]
      · have hq : ((s[p].toNat : Int) != (s[r].toNat : Int)) = false := by rw [u8_ne]; simp [heq]
        have HN : Hid (∀ j, j < k + 1 → s.data.toList.getD (a + j) 0 = s.data.toList.getD (a + j - b) 0) := by
          intro j hj
          by_cases e : j = k
          · rw [e, ← HR.out, ← HP.out, getB _ _ hpl, getB _ _ hrl]; exact heq
          · exact HA.out j (by omega)
        clear heq
        go_wp2
        go_quiet (fail)
        clear h1 h2
        go_wp2
        go_roundw
        case rel => exact ⟨k + 1, _, by omega, by go_num, rfl, HN.out⟩
        case measure => simp [intOf]; omega
      · have hq : ((s[p].toNat : Int) != (s[r].toNat : Int)) = true := by rw [u8_ne]; simp [heq]
        have HN : Hid (sm s.data.toList a b m = k) := by
          refine sm_eq ⟨by omega, HA.out, fun _ => ?_⟩
          rw [← HR.out, ← HP.out, getB _ _ hpl, getB _ _ hrl]; exact heq
        clear heq
        go_wp2
        go_quiet (fail)
        clear h1 h2
        go_wp2
        go_ret
        exact ⟨by rw [HN.out]; rfl, drewq _ _ _⟩
    · have HN : Hid (sm s.data.toList a b m = m) := by
        refine sm_eq ⟨Nat.le_refl _, fun j hj => HA.out j (by omega), fun h => absurd h (Nat.lt_irrefl _)⟩
      go_wp2
      go_ret
      exact ⟨by rw [HN.out]; rfl, _, rfl⟩
/-- The same, at a number that is written otherwise. -/
theorem same_at (s : ByteArray) (a b m : Nat) (B : Int) (w : World) (hs : s.size ≤ maxLen) (hB : B = (b : Int)) (hb : b ≤ a) (hm : a + m ≤ s.size) :
    Calls Tryd.prog 63 #[.string s, .int .i64 a, .int .i64 B, .int .i64 m] w fun e w' => e = .returned (.int .i64 (sm s.data.toList a b m : Nat)) ∧ ∃ q, w' = w.drewN q := by
  subst hB; exact same_any s a b m w hs hb hm
end Go.Proofs.YtjhmlmcibpjagaaDoor
