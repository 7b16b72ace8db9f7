/-
  The walk of 'packtrainkeep.LogFull'.
-/
import Derived.Test.YtifbebhgeheooaaGreatDoorKl21
import Derived.Test.YtifbebhgeheooaaGreatDoorKl09
import Derived.Test.YtifbebhgeheooaaGreatDoorKl01
namespace Go.Proofs.YtifbebhgeheooaaGreatDoor
open Go.RowKit

/-- The full log's states. -/
structure FL (W wr : World) (P : Nat) (k : Nat) (s : LogS) : Prop where
  logs : Logs W wr (fun _ => False) [(P, s)]
  rep : s.rep = 0
  hv : s.hv = oneV 0 (min k 300)
  ws : s.ws.length = min k 300
set_option maxRecDepth 100000 in
set_option maxHeartbeats 8000000 in
theorem logFull_walk (a0 : Int) (_h0 : -9223372036854775808 ≤ a0) (_h1 : a0 ≤ 9223372036854775807) (W : World) (hg : errT W) : Calls Tryz.prog 4 #[.int .i64 a0] W fun e w' => e = .returned (.bool true) ∧ Below W.heap.size W w' := by
  have HG := Lib.hid hg
  clear hg
  obtain ⟨q, hq⟩ : ∃ q : Nat, pickN a0 5 = (q : Int) := ⟨(pickN a0 5).toNat, by have := pickN_pos (a := a0) (n := 5) (by omega); omega⟩
  have hq5 : q < 5 := by have := pickN_pos (a := a0) (n := 5) (by omega); omega
  have HQ := Lib.hid hq
  obtain ⟨n, hn⟩ : ∃ n : Nat, n = 298 + q := ⟨_, rfl⟩
  have hn1 : (298 : Int) + (q : Int) = (n : Int) := by omega
  have hn2 : IntKind.i64.wrap ((298 : Int) + (q : Int)) = (n : Int) := by rw [hn1]; exact IntWalk.i64_in _ (by omega)
  have hn3 : 298 ≤ n ∧ n ≤ 302 := by omega
  obtain ⟨hn4, hn5⟩ := hn3
  clear hq hn hq5
  go_enter Tryz.func4, Tryz.ntmps4
  go_wp2_with (first
    | (go_at_call 8; refine (logged_any W HG.out).mono ?_; rintro r w1 ⟨rfl, hb1⟩; have HB1 := Lib.hid hb1; clear hb1)
    | (go_at_call 16; refine (pick_any a0 5 w1 (by omega) (by omega)).mono ?_; rintro r w2 ⟨rfl, rfl⟩; rw [HQ.out])
    | (go_at_call 10; (with_reducible refine (Gnew (Logs.keep (Logs.nil W) HB1.out) 0 (by omega)).mono ?_); rintro r w3 ⟨rfl, h3, hb3⟩; have HF3 : Hid (FL W w3 w1.heap.size 0 ⟨0, [], []⟩) := Lib.hid ⟨h3, rfl, rfl, rfl⟩; clear h3 hb3)
    | fail)
  obtain ⟨P, hP⟩ : ∃ P, P = w1.heap.size := ⟨_, rfl⟩
  rw [← hP] at HF3 ⊢
  clear hP
  go_loopw [24] (fun i wr => ∃ k : Nat, k ≤ n ∧ i = .int .i64 k ∧ ∃ s, FL W wr P k s) (fun i _ => n - (intOf i).toNat)
  case atStart => exact ⟨0, by omega, rfl, _, HF3.out⟩
  case round =>
    obtain ⟨k, hk, rfl, s, hf⟩ := hrel
    have HF := Lib.hid hf
    clear hf HF3
    by_cases hlt : k < n
    · have b1 : decide ((k : Int) < (n : Int)) = true := by simpa using hlt
      have hwE : wE (lcW s ⟨0, 0, 2, ⟨#[107]⟩, ⟨#[]⟩, 0⟩) = 0 := own_wE (i := min k 300) (by rw [HF.out.rep]; omega) (by rw [HF.out.rep]; exact HF.out.hv) (by omega) 0 0 (by decide +kernel)
      have HWE := Lib.hid hwE
      clear hwE
      by_cases h3 : k < 300
      · have b3 : decide ((k : Int) < 300) = true := by simp; omega
        have b4 : decide ((300 : Int) ≤ (k : Int)) = false := by simp; omega
        have hmk : min k 300 = k := by omega
        have HST := Lib.hid (own_step (s := s) (i := k) (w := ⟨0, 0, 2, ⟨#[107]⟩, ⟨#[]⟩, 0⟩) (by rw [HF.out.rep]; omega) (by rw [HF.out.rep]; have := HF.out.hv; rwa [hmk] at this) (by omega) HWE.out (by rw [HF.out.ws]; omega))
        have HMK := Lib.hid hmk
        have H3 := Lib.hid h3
        clear hmk h3
        go_wp2_with (go_at_call 17; refine (GlocalT (i := 0) HF.out.logs rfl 0 0 2 ⟨#[107]⟩ ⟨#[]⟩ 0 (by decide) (by decide) (HG.out.below HF.out.logs.bel) HST.out.1 ((k + 1 : Nat) : Int) 0 _ HST.out.2.1 HF.out.rep rfl).mono ?_; rintro r w3 ⟨rfl, h3, _, _⟩; have HL3 := Lib.hid h3; clear h3)
        go_roundw
        · refine ⟨k + 1, by omega, by simp, lcS s ⟨0, 0, 2, ⟨#[107]⟩, ⟨#[]⟩, 0⟩, Logs.keep HL3.out ((Below.refl _ _).alloc (Nat.le_refl _) _), HF.out.rep, ?_, ?_⟩
          · rw [HST.out.2.2.1, HF.out.rep]
            have := H3.out
            rw [show min (k + 1) 300 = k + 1 by omega]
          · rw [HST.out.2.2.2.2, List.length_append, HF.out.ws]
            have := H3.out
            simp; omega
        · simp [intOf]; omega
      · have b3 : decide ((k : Int) < 300) = false := by simp; omega
        have b4 : decide ((300 : Int) ≤ (k : Int)) = true := by simp; omega
        have HE : Hid (lcE s ⟨0, 0, 2, ⟨#[107]⟩, ⟨#[]⟩, 0⟩ = 12) := Lib.hid (own_full (i := min k 300) (by rw [HF.out.rep]; exact HF.out.hv) (by omega) HWE.out (by rw [HF.out.ws]; omega))
        have H3 := Lib.hid h3
        clear h3
        go_wp2_with (first
          | (go_at_call 17; refine (GlocalE (i := 0) HF.out.logs rfl 0 0 2 ⟨#[107]⟩ ⟨#[]⟩ 0 (by decide) (by decide) (HG.out.below HF.out.logs.bel) HE.out (by omega)).mono ?_; rintro r w3 ⟨rfl, h3, hb3⟩; have HL3 := Lib.hid (Logs.keep h3 ((Below.refl _ _).alloc (Nat.le_refl _) (.cells #[.int .i64 0, .int .i64 0] 23))); clear h3 hb3)
          | (go_at_call 13; refine (tell_err _ 12 _ (HG.out.below HL3.out.bel) (.inl rfl)).mono ?_; rintro r w4 ⟨rfl, hb4⟩; have HL4 := Lib.hid (HL3.out.keep hb4); clear hb4)
          | fail)
        go_roundw
        · refine ⟨k + 1, by omega, by simp, s, HL4.out, HF.out.rep, ?_, ?_⟩
          · rw [HF.out.hv]; have := H3.out; rw [show min (k + 1) 300 = min k 300 by omega]
          · rw [HF.out.ws]; have := H3.out; omega
        · simp [intOf]; omega
    · have b1 : decide ((k : Int) < (n : Int)) = false := by simp; omega
      obtain rfl : k = n := by omega
      obtain ⟨m, hm⟩ : ∃ m, m = min k 300 := ⟨_, rfl⟩
      have hmin : min (k : Int) 300 = (m : Int) := by omega
      have hmin2 : (if (300 : Int) < (k : Int) then (300 : Int) else (k : Int)) = (m : Int) := by split <;> omega
      have hmin3 : (if (k : Int) < 300 then (k : Int) else 300) = (m : Int) := by split <;> omega
      have HM : Hid (s.ws.length = m) := Lib.hid (by rw [HF.out.ws, hm])
      clear hm
      go_wp2_with (go_at_call 15; refine (Gwrites (i := 0) HF.out.logs rfl).mono ?_; rintro r w3 ⟨a3, c3, rfl, _, hb3⟩; rw [HM.out]; have HB3 : Hid (Below W.heap.size W w3) := Lib.hid (HF.out.logs.bel.trans (hb3.mono HF.out.logs.bel.size)); clear hb3)
      go_ret
      exact ⟨rfl, HB3.out⟩
end Go.Proofs.YtifbebhgeheooaaGreatDoor
