/-
  The walk of 'packtrainkeep.WriteKinds'.
-/
import Derived.Test.YtimaddmgooefdaaWritten
import Derived.Test.YtimaddmgooefdaaPick
namespace Go.Proofs.Ytimaddmgooefdaa
open Go.RowKit

/-- What a right write may be as another kind. -/
theorem wrE_kinds {T R K : Int} {key val : ByteArray} {N : Int} (h : wrE T R K key val N = 0) (P : Int) (h0 : 1 ≤ P) (h1 : P ≤ 4) :
    (wrE T R P key val N = 0) ↔ ((hasV P = true ∨ val.size = 0) ∧ (hasN P = true ∨ N = 0) ∧ (P ≠ 4 ∨ (0 ≤ N ∧ N ≤ 1000))) := by
  obtain ⟨g1, g2, g3, g4, g5, g6⟩ := wrE_good h
  have hb : fitsN 3 N = true := by
    unfold fitsN at g6 ⊢
    rw [if_pos rfl]
    simp only [Bool.and_eq_true, decide_eq_true_eq]
    by_cases k3 : K = 3
    · rw [if_pos k3] at g6; simpa using g6
    · rw [if_neg k3] at g6
      by_cases k4 : K = 4
      · rw [if_pos k4] at g6; simp at g6; omega
      · have hn : N = 0 := by
          by_cases hN : N = 0
          · exact hN
          · exact absurd (.inr ⟨hN, by unfold hasN; rw [decide_eq_false k3, decide_eq_false k4]; rfl⟩) g5
        omega
  rw [wrE_rest (by omega) g2 (by omega)]
  clear g1 g2 g3 g4 g5 g6 h
  generalize val.size = z
  obtain rfl | rfl | rfl | rfl : P = 1 ∨ P = 2 ∨ P = 3 ∨ P = 4 := by omega
  · by_cases hn : N = 0 <;> simp [hasV, hasN, fitsN, hn]
  · by_cases hn : N = 0 <;> by_cases hv : 0 < z <;> simp [hasV, hasN, fitsN, hn, hv] <;> omega
  · unfold fitsN at hb
    by_cases hv : 0 < z <;> simp [hasV, hasN, fitsN, hv] <;> simp at hb <;> omega
  · simp [hasV, hasN, fitsN]

set_option maxRecDepth 100000 in
set_option maxHeartbeats 8000000 in
theorem writeKinds_walk (w : World) (x : Wr) (ho : WrOk x) (a : Int) (_a0 : -9223372036854775808 ≤ a) (_a1 : a ≤ 9223372036854775807) :
    Calls Try.prog 6 #[wrV x, .int .i64 a] w fun e w' => e = .returned (.bool true) ∧ Below w.heap.size w w' := by
  obtain ⟨T, R, K, key, val, N⟩ := x
  obtain ⟨_, _, hk, hv⟩ := ho
  simp only at hk hv
  show Calls Try.prog 6 #[.agg #[.int .i64 T, .int .i64 R, .int .i64 K, .string key, .string val, .int .i64 N], .int .i64 a] w _
  have HA0 := Lib.hid (wrAt_new w T R K key val N 32)
  go_enter Try.func6, Try.ntmps6
  go_wp2_with fail
  refine (tailed_any _).mono ?_
  rintro r w1 ⟨rfl, hb1⟩
  have HA1 := Lib.hid (HA0.out.below hb1 (by simp))
  have HB1 := Lib.hid (((Below.refl _ _).alloc (Nat.le_refl _) _).trans (hb1.mono (by simp)))
  have HL1 : Hid (w.heap.size < w1.heap.size) := Lib.hid (by have := hb1.size; simp at this; exact this)
  clear hb1
  obtain ⟨c0, c1, c2, c3, c4, c5⟩ := HA1.out
  by_cases hbig : 900 < key.size + val.size
  · have hb : (900 : Int) < (key.size : Int) + val.size := by omega
    go_wp2
    go_ret
    exact ⟨rfl, HB1.out⟩
  · have hb : ¬ (900 : Int) < (key.size : Int) + val.size := by omega
    go_wp2_with fail
    refine (wright_any T R K key val N w1 hk hv).mono ?_
    rintro r w2 ⟨rfl, hb2⟩
    have HA2 := Lib.hid (HA1.out.below hb2 HL1.out)
    have HB2 := Lib.hid (HB1.out.trans (hb2.mono HB1.out.size))
    have HL2 : Hid (w.heap.size < w2.heap.size) := Lib.hid (Nat.lt_of_lt_of_le HL1.out hb2.size)
    clear hb2 c0 c1 c2 c3 c4 c5
    obtain ⟨c0, c1, c2, c3, c4, c5⟩ := HA2.out
    obtain ⟨E, hE⟩ : ∃ E, wrE T R K key val N = E := ⟨_, rfl⟩
    rw [hE]
    by_cases h0 : E = 0
    · subst h0
      have HE := Lib.hid hE
      rw [show errV 0 = Value.nilIface from rfl]
      clear hE
      go_wp2_with fail
      refine (pick_any a 4 _ (by decide) (by decide)).mono ?_
      rintro r w3 ⟨rfl, rfl⟩
      obtain ⟨p, hp⟩ : ∃ p, pickN a 4 = p := ⟨_, rfl⟩
      have hp2 := pickN_pos (a := a) (n := 4) (by decide)
      rw [hp] at hp2 ⊢
      obtain ⟨p0, p1⟩ := hp2
      have HK := Lib.hid (fun (P : Int) (h0 : 1 ≤ P) (h1 : P ≤ 4) => wrE_kinds HE.out P h0 h1)
      clear hp
      obtain ⟨c0, c1, c2, c3, c4, c5⟩ := HA2.out
      have hcase : p = 0 ∨ p = 1 ∨ p = 2 ∨ p = 3 := by omega
      rcases hcase with rfl | rfl | rfl | rfl
      · have hV : hasV 1 = true := rfl
        have hM : hasN 1 = false := rfl
        by_cases n0 : N = 0
        · subst n0
          have hE2 : wrE T R 1 key val 0 = 0 := by
            have h := HK.out 1 (by decide) (by decide)
            exact h.2 ⟨.inl hV, .inr rfl, .inl (by decide)⟩
          have HE2 := Lib.hid hE2
          clear hE2
          have HAN : Hid (wrAt (w2.alloc (.cells #[.int .i64 T, .int .i64 R, .int .i64 1, .string key, .string val, .int .i64 0] 32)) w2.heap.size T R 1 key val 0) := Lib.hid (wrAt_new w2 T R 1 key val 0 32)
          have HAB : Hid (wrAt (w2.alloc (.cells #[.int .i64 T, .int .i64 R, .int .i64 1, .string key, .string val, .int .i64 0] 32)) w.heap.size T R K key val 0) := Lib.hid (HA2.out.below ((Below.refl w2.heap.size w2).alloc (Nat.le_refl _) _) HL2.out)
          have HBB : Hid (Below w.heap.size w (w2.alloc (.cells #[.int .i64 T, .int .i64 R, .int .i64 1, .string key, .string val, .int .i64 0] 32))) := Lib.hid (HB2.out.alloc HB2.out.size _)
          obtain ⟨W3, hW3⟩ : ∃ W3, W3 = (w2.alloc (.cells #[.int .i64 T, .int .i64 R, .int .i64 1, .string key, .string val, .int .i64 0] 32)) := ⟨_, rfl⟩
          rw [← hW3] at HAN HAB HBB
          go_wp2
          rw [← hW3]
          clear hW3 c0 c1 c2 c3 c4 c5
          obtain ⟨_, _, d2, _, _, _⟩ := HAN.out
          go_quiet (fail)
          obtain ⟨wq, hwq⟩ : ∃ wq, wq = World.drewN W3 nq := ⟨_, rfl⟩
          rw [← hwq]
          have hbq : Below (w.heap.size + w2.heap.size + 1) W3 wq := by rw [hwq]; exact ⟨rfl, rfl, rfl, Nat.le_refl _, fun _ _ => rfl⟩
          have HBQ := Lib.hid (HBB.out.trans (hbq.mono (by omega)))
          obtain ⟨c0, c1, c2, c3, c4, c5⟩ := HAB.out.below hbq (by omega)
          have hdq := HAN.out.below hbq (by omega)
          clear d2 hbq hwq
          obtain ⟨d0, d1, d2, d3, d4, d5⟩ := hdq
          go_wp2_with fail
          refine (wright_any T R 1 key val 0 wq hk hv).mono ?_
          rintro r w4 ⟨rfl, hb4⟩
          have HB4 := Lib.hid (HBQ.out.trans (hb4.mono HBQ.out.size))
          clear hb4
          rw [HE2.out, show errV 0 = Value.nilIface from rfl]
          go_wp2
          go_ret
          exact ⟨by first | rfl | simp, HB4.out⟩
        · skip
          have hE2 : wrE T R 1 key val N ≠ 0 := by
            have h := HK.out 1 (by decide) (by decide)
            intro hc; rcases (h.1 hc).2.1 with h3 | h3; · rw [hM] at h3; exact absurd h3 (by decide)
            · exact n0 h3
          have HE2 := Lib.hid hE2
          clear hE2
          have HAN : Hid (wrAt (w2.alloc (.cells #[.int .i64 T, .int .i64 R, .int .i64 1, .string key, .string val, .int .i64 N] 32)) w2.heap.size T R 1 key val N) := Lib.hid (wrAt_new w2 T R 1 key val N 32)
          have HAB : Hid (wrAt (w2.alloc (.cells #[.int .i64 T, .int .i64 R, .int .i64 1, .string key, .string val, .int .i64 N] 32)) w.heap.size T R K key val N) := Lib.hid (HA2.out.below ((Below.refl w2.heap.size w2).alloc (Nat.le_refl _) _) HL2.out)
          have HBB : Hid (Below w.heap.size w (w2.alloc (.cells #[.int .i64 T, .int .i64 R, .int .i64 1, .string key, .string val, .int .i64 N] 32))) := Lib.hid (HB2.out.alloc HB2.out.size _)
          obtain ⟨W3, hW3⟩ : ∃ W3, W3 = (w2.alloc (.cells #[.int .i64 T, .int .i64 R, .int .i64 1, .string key, .string val, .int .i64 N] 32)) := ⟨_, rfl⟩
          rw [← hW3] at HAN HAB HBB
          go_wp2
          rw [← hW3]
          clear hW3 c0 c1 c2 c3 c4 c5
          obtain ⟨_, _, d2, _, _, _⟩ := HAN.out
          go_quiet (fail)
          obtain ⟨wq, hwq⟩ : ∃ wq, wq = World.drewN W3 nq := ⟨_, rfl⟩
          rw [← hwq]
          have hbq : Below (w.heap.size + w2.heap.size + 1) W3 wq := by rw [hwq]; exact ⟨rfl, rfl, rfl, Nat.le_refl _, fun _ _ => rfl⟩
          have HBQ := Lib.hid (HBB.out.trans (hbq.mono (by omega)))
          obtain ⟨c0, c1, c2, c3, c4, c5⟩ := HAB.out.below hbq (by omega)
          have hdq := HAN.out.below hbq (by omega)
          clear d2 hbq hwq
          obtain ⟨d0, d1, d2, d3, d4, d5⟩ := hdq
          go_wp2_with fail
          refine (wright_any T R 1 key val N wq hk hv).mono ?_
          rintro r w4 ⟨rfl, hb4⟩
          have HB4 := Lib.hid (HBQ.out.trans (hb4.mono HBQ.out.size))
          clear hb4
          rw [errV_bad HE2.out]
          go_wp2
          go_ret
          exact ⟨by first | rfl | simp, HB4.out⟩
      · have hV : hasV 2 = false := rfl
        have hM : hasN 2 = false := rfl
        by_cases hve : 0 < val.size
        · have b0 : ¬ val.toList = [] := by have := bne_empty hve; simpa using this
          have hE2 : wrE T R 2 key val N ≠ 0 := by
            have h := HK.out 2 (by decide) (by decide)
            intro hc; rcases (h.1 hc).1 with h3 | h3; · rw [hV] at h3; exact absurd h3 (by decide)
            · omega
          have HE2 := Lib.hid hE2
          clear hE2
          have HAN : Hid (wrAt (w2.alloc (.cells #[.int .i64 T, .int .i64 R, .int .i64 2, .string key, .string val, .int .i64 N] 32)) w2.heap.size T R 2 key val N) := Lib.hid (wrAt_new w2 T R 2 key val N 32)
          have HAB : Hid (wrAt (w2.alloc (.cells #[.int .i64 T, .int .i64 R, .int .i64 2, .string key, .string val, .int .i64 N] 32)) w.heap.size T R K key val N) := Lib.hid (HA2.out.below ((Below.refl w2.heap.size w2).alloc (Nat.le_refl _) _) HL2.out)
          have HBB : Hid (Below w.heap.size w (w2.alloc (.cells #[.int .i64 T, .int .i64 R, .int .i64 2, .string key, .string val, .int .i64 N] 32))) := Lib.hid (HB2.out.alloc HB2.out.size _)
          obtain ⟨W3, hW3⟩ : ∃ W3, W3 = (w2.alloc (.cells #[.int .i64 T, .int .i64 R, .int .i64 2, .string key, .string val, .int .i64 N] 32)) := ⟨_, rfl⟩
          rw [← hW3] at HAN HAB HBB
          go_wp2
          rw [← hW3]
          clear hW3 c0 c1 c2 c3 c4 c5
          obtain ⟨_, _, d2, _, _, _⟩ := HAN.out
          go_quiet (fail)
          obtain ⟨wq, hwq⟩ : ∃ wq, wq = World.drewN W3 nq := ⟨_, rfl⟩
          rw [← hwq]
          have hbq : Below (w.heap.size + w2.heap.size + 1) W3 wq := by rw [hwq]; exact ⟨rfl, rfl, rfl, Nat.le_refl _, fun _ _ => rfl⟩
          have HBQ := Lib.hid (HBB.out.trans (hbq.mono (by omega)))
          obtain ⟨c0, c1, c2, c3, c4, c5⟩ := HAB.out.below hbq (by omega)
          have hdq := HAN.out.below hbq (by omega)
          clear d2 hbq hwq
          obtain ⟨d0, d1, d2, d3, d4, d5⟩ := hdq
          go_wp2_with fail
          refine (wright_any T R 2 key val N wq hk hv).mono ?_
          rintro r w4 ⟨rfl, hb4⟩
          have HB4 := Lib.hid (HBQ.out.trans (hb4.mono HBQ.out.size))
          clear hb4
          rw [errV_bad HE2.out]
          go_wp2
          go_ret
          exact ⟨by first | rfl | simp, HB4.out⟩
        · obtain rfl := empty_of hve
          by_cases n0 : N = 0
          · subst n0
            have hE2 : wrE T R 2 key ⟨#[]⟩ 0 = 0 := by
              have h := HK.out 2 (by decide) (by decide)
              exact h.2 ⟨.inr rfl, .inr rfl, .inl (by decide)⟩
            have HE2 := Lib.hid hE2
            clear hE2
            have HAN : Hid (wrAt (w2.alloc (.cells #[.int .i64 T, .int .i64 R, .int .i64 2, .string key, .string ⟨#[]⟩, .int .i64 0] 32)) w2.heap.size T R 2 key ⟨#[]⟩ 0) := Lib.hid (wrAt_new w2 T R 2 key ⟨#[]⟩ 0 32)
            have HAB : Hid (wrAt (w2.alloc (.cells #[.int .i64 T, .int .i64 R, .int .i64 2, .string key, .string ⟨#[]⟩, .int .i64 0] 32)) w.heap.size T R K key ⟨#[]⟩ 0) := Lib.hid (HA2.out.below ((Below.refl w2.heap.size w2).alloc (Nat.le_refl _) _) HL2.out)
            have HBB : Hid (Below w.heap.size w (w2.alloc (.cells #[.int .i64 T, .int .i64 R, .int .i64 2, .string key, .string ⟨#[]⟩, .int .i64 0] 32))) := Lib.hid (HB2.out.alloc HB2.out.size _)
            obtain ⟨W3, hW3⟩ : ∃ W3, W3 = (w2.alloc (.cells #[.int .i64 T, .int .i64 R, .int .i64 2, .string key, .string ⟨#[]⟩, .int .i64 0] 32)) := ⟨_, rfl⟩
            rw [← hW3] at HAN HAB HBB
            go_wp2
            rw [← hW3]
            clear hW3 c0 c1 c2 c3 c4 c5
            obtain ⟨_, _, d2, _, _, _⟩ := HAN.out
            go_quiet (fail)
            obtain ⟨wq, hwq⟩ : ∃ wq, wq = World.drewN W3 nq := ⟨_, rfl⟩
            rw [← hwq]
            have hbq : Below (w.heap.size + w2.heap.size + 1) W3 wq := by rw [hwq]; exact ⟨rfl, rfl, rfl, Nat.le_refl _, fun _ _ => rfl⟩
            have HBQ := Lib.hid (HBB.out.trans (hbq.mono (by omega)))
            obtain ⟨c0, c1, c2, c3, c4, c5⟩ := HAB.out.below hbq (by omega)
            have hdq := HAN.out.below hbq (by omega)
            clear d2 hbq hwq
            obtain ⟨d0, d1, d2, d3, d4, d5⟩ := hdq
            go_wp2_with fail
            refine (wright_any T R 2 key ⟨#[]⟩ 0 wq hk hv).mono ?_
            rintro r w4 ⟨rfl, hb4⟩
            have HB4 := Lib.hid (HBQ.out.trans (hb4.mono HBQ.out.size))
            clear hb4
            rw [HE2.out, show errV 0 = Value.nilIface from rfl]
            go_wp2
            go_ret
            exact ⟨by first | rfl | simp, HB4.out⟩
          · skip
            have hE2 : wrE T R 2 key ⟨#[]⟩ N ≠ 0 := by
              have h := HK.out 2 (by decide) (by decide)
              intro hc; rcases (h.1 hc).2.1 with h3 | h3; · rw [hM] at h3; exact absurd h3 (by decide)
              · exact n0 h3
            have HE2 := Lib.hid hE2
            clear hE2
            have HAN : Hid (wrAt (w2.alloc (.cells #[.int .i64 T, .int .i64 R, .int .i64 2, .string key, .string ⟨#[]⟩, .int .i64 N] 32)) w2.heap.size T R 2 key ⟨#[]⟩ N) := Lib.hid (wrAt_new w2 T R 2 key ⟨#[]⟩ N 32)
            have HAB : Hid (wrAt (w2.alloc (.cells #[.int .i64 T, .int .i64 R, .int .i64 2, .string key, .string ⟨#[]⟩, .int .i64 N] 32)) w.heap.size T R K key ⟨#[]⟩ N) := Lib.hid (HA2.out.below ((Below.refl w2.heap.size w2).alloc (Nat.le_refl _) _) HL2.out)
            have HBB : Hid (Below w.heap.size w (w2.alloc (.cells #[.int .i64 T, .int .i64 R, .int .i64 2, .string key, .string ⟨#[]⟩, .int .i64 N] 32))) := Lib.hid (HB2.out.alloc HB2.out.size _)
            obtain ⟨W3, hW3⟩ : ∃ W3, W3 = (w2.alloc (.cells #[.int .i64 T, .int .i64 R, .int .i64 2, .string key, .string ⟨#[]⟩, .int .i64 N] 32)) := ⟨_, rfl⟩
            rw [← hW3] at HAN HAB HBB
            go_wp2
            rw [← hW3]
            clear hW3 c0 c1 c2 c3 c4 c5
            obtain ⟨_, _, d2, _, _, _⟩ := HAN.out
            go_quiet (fail)
            obtain ⟨wq, hwq⟩ : ∃ wq, wq = World.drewN W3 nq := ⟨_, rfl⟩
            rw [← hwq]
            have hbq : Below (w.heap.size + w2.heap.size + 1) W3 wq := by rw [hwq]; exact ⟨rfl, rfl, rfl, Nat.le_refl _, fun _ _ => rfl⟩
            have HBQ := Lib.hid (HBB.out.trans (hbq.mono (by omega)))
            obtain ⟨c0, c1, c2, c3, c4, c5⟩ := HAB.out.below hbq (by omega)
            have hdq := HAN.out.below hbq (by omega)
            clear d2 hbq hwq
            obtain ⟨d0, d1, d2, d3, d4, d5⟩ := hdq
            go_wp2_with fail
            refine (wright_any T R 2 key ⟨#[]⟩ N wq hk hv).mono ?_
            rintro r w4 ⟨rfl, hb4⟩
            have HB4 := Lib.hid (HBQ.out.trans (hb4.mono HBQ.out.size))
            clear hb4
            rw [errV_bad HE2.out]
            go_wp2
            go_ret
            exact ⟨by first | rfl | simp, HB4.out⟩
      · have hV : hasV 3 = false := rfl
        have hM : hasN 3 = true := rfl
        by_cases hve : 0 < val.size
        · have b0 : ¬ val.toList = [] := by have := bne_empty hve; simpa using this
          have hE2 : wrE T R 3 key val N ≠ 0 := by
            have h := HK.out 3 (by decide) (by decide)
            intro hc; rcases (h.1 hc).1 with h3 | h3; · rw [hV] at h3; exact absurd h3 (by decide)
            · omega
          have HE2 := Lib.hid hE2
          clear hE2
          have HAN : Hid (wrAt (w2.alloc (.cells #[.int .i64 T, .int .i64 R, .int .i64 3, .string key, .string val, .int .i64 N] 32)) w2.heap.size T R 3 key val N) := Lib.hid (wrAt_new w2 T R 3 key val N 32)
          have HAB : Hid (wrAt (w2.alloc (.cells #[.int .i64 T, .int .i64 R, .int .i64 3, .string key, .string val, .int .i64 N] 32)) w.heap.size T R K key val N) := Lib.hid (HA2.out.below ((Below.refl w2.heap.size w2).alloc (Nat.le_refl _) _) HL2.out)
          have HBB : Hid (Below w.heap.size w (w2.alloc (.cells #[.int .i64 T, .int .i64 R, .int .i64 3, .string key, .string val, .int .i64 N] 32))) := Lib.hid (HB2.out.alloc HB2.out.size _)
          obtain ⟨W3, hW3⟩ : ∃ W3, W3 = (w2.alloc (.cells #[.int .i64 T, .int .i64 R, .int .i64 3, .string key, .string val, .int .i64 N] 32)) := ⟨_, rfl⟩
          rw [← hW3] at HAN HAB HBB
          go_wp2
          rw [← hW3]
          clear hW3 c0 c1 c2 c3 c4 c5
          obtain ⟨_, _, d2, _, _, _⟩ := HAN.out
          go_quiet (fail)
          obtain ⟨wq, hwq⟩ : ∃ wq, wq = World.drewN W3 nq := ⟨_, rfl⟩
          rw [← hwq]
          have hbq : Below (w.heap.size + w2.heap.size + 1) W3 wq := by rw [hwq]; exact ⟨rfl, rfl, rfl, Nat.le_refl _, fun _ _ => rfl⟩
          have HBQ := Lib.hid (HBB.out.trans (hbq.mono (by omega)))
          obtain ⟨c0, c1, c2, c3, c4, c5⟩ := HAB.out.below hbq (by omega)
          have hdq := HAN.out.below hbq (by omega)
          clear d2 hbq hwq
          obtain ⟨d0, d1, d2, d3, d4, d5⟩ := hdq
          go_wp2_with fail
          refine (wright_any T R 3 key val N wq hk hv).mono ?_
          rintro r w4 ⟨rfl, hb4⟩
          have HB4 := Lib.hid (HBQ.out.trans (hb4.mono HBQ.out.size))
          clear hb4
          rw [errV_bad HE2.out]
          go_wp2
          go_ret
          exact ⟨by first | rfl | simp, HB4.out⟩
        · obtain rfl := empty_of hve
          have hE2 : wrE T R 3 key ⟨#[]⟩ N = 0 := by
            have h := HK.out 3 (by decide) (by decide)
            exact h.2 ⟨.inr rfl, .inl hM, .inl (by decide)⟩
          have HE2 := Lib.hid hE2
          clear hE2
          have HAN : Hid (wrAt (w2.alloc (.cells #[.int .i64 T, .int .i64 R, .int .i64 3, .string key, .string ⟨#[]⟩, .int .i64 N] 32)) w2.heap.size T R 3 key ⟨#[]⟩ N) := Lib.hid (wrAt_new w2 T R 3 key ⟨#[]⟩ N 32)
          have HAB : Hid (wrAt (w2.alloc (.cells #[.int .i64 T, .int .i64 R, .int .i64 3, .string key, .string ⟨#[]⟩, .int .i64 N] 32)) w.heap.size T R K key ⟨#[]⟩ N) := Lib.hid (HA2.out.below ((Below.refl w2.heap.size w2).alloc (Nat.le_refl _) _) HL2.out)
          have HBB : Hid (Below w.heap.size w (w2.alloc (.cells #[.int .i64 T, .int .i64 R, .int .i64 3, .string key, .string ⟨#[]⟩, .int .i64 N] 32))) := Lib.hid (HB2.out.alloc HB2.out.size _)
          obtain ⟨W3, hW3⟩ : ∃ W3, W3 = (w2.alloc (.cells #[.int .i64 T, .int .i64 R, .int .i64 3, .string key, .string ⟨#[]⟩, .int .i64 N] 32)) := ⟨_, rfl⟩
          rw [← hW3] at HAN HAB HBB
          go_wp2
          rw [← hW3]
          clear hW3 c0 c1 c2 c3 c4 c5
          obtain ⟨_, _, d2, _, _, _⟩ := HAN.out
          go_quiet (fail)
          obtain ⟨wq, hwq⟩ : ∃ wq, wq = World.drewN W3 nq := ⟨_, rfl⟩
          rw [← hwq]
          have hbq : Below (w.heap.size + w2.heap.size + 1) W3 wq := by rw [hwq]; exact ⟨rfl, rfl, rfl, Nat.le_refl _, fun _ _ => rfl⟩
          have HBQ := Lib.hid (HBB.out.trans (hbq.mono (by omega)))
          obtain ⟨c0, c1, c2, c3, c4, c5⟩ := HAB.out.below hbq (by omega)
          have hdq := HAN.out.below hbq (by omega)
          clear d2 hbq hwq
          obtain ⟨d0, d1, d2, d3, d4, d5⟩ := hdq
          go_wp2_with fail
          refine (wright_any T R 3 key ⟨#[]⟩ N wq hk hv).mono ?_
          rintro r w4 ⟨rfl, hb4⟩
          have HB4 := Lib.hid (HBQ.out.trans (hb4.mono HBQ.out.size))
          clear hb4
          rw [HE2.out, show errV 0 = Value.nilIface from rfl]
          go_wp2
          go_ret
          exact ⟨by first | rfl | simp, HB4.out⟩
      · have hV : hasV 4 = true := rfl
        have hM : hasN 4 = true := rfl
        by_cases n0 : 0 ≤ N
        · by_cases n1 : N ≤ 1000
          · have e0 := decide_eq_true n1
            have hE2 : wrE T R 4 key val N = 0 := by
              have h := HK.out 4 (by decide) (by decide)
              exact h.2 ⟨.inl hV, .inl hM, .inr ⟨n0, n1⟩⟩
            have HE2 := Lib.hid hE2
            clear hE2
            have HAN : Hid (wrAt (w2.alloc (.cells #[.int .i64 T, .int .i64 R, .int .i64 4, .string key, .string val, .int .i64 N] 32)) w2.heap.size T R 4 key val N) := Lib.hid (wrAt_new w2 T R 4 key val N 32)
            have HAB : Hid (wrAt (w2.alloc (.cells #[.int .i64 T, .int .i64 R, .int .i64 4, .string key, .string val, .int .i64 N] 32)) w.heap.size T R K key val N) := Lib.hid (HA2.out.below ((Below.refl w2.heap.size w2).alloc (Nat.le_refl _) _) HL2.out)
            have HBB : Hid (Below w.heap.size w (w2.alloc (.cells #[.int .i64 T, .int .i64 R, .int .i64 4, .string key, .string val, .int .i64 N] 32))) := Lib.hid (HB2.out.alloc HB2.out.size _)
            obtain ⟨W3, hW3⟩ : ∃ W3, W3 = (w2.alloc (.cells #[.int .i64 T, .int .i64 R, .int .i64 4, .string key, .string val, .int .i64 N] 32)) := ⟨_, rfl⟩
            rw [← hW3] at HAN HAB HBB
            go_wp2
            rw [← hW3]
            clear hW3 c0 c1 c2 c3 c4 c5
            obtain ⟨_, _, d2, _, _, _⟩ := HAN.out
            go_quiet (fail)
            obtain ⟨wq, hwq⟩ : ∃ wq, wq = World.drewN W3 nq := ⟨_, rfl⟩
            rw [← hwq]
            have hbq : Below (w.heap.size + w2.heap.size + 1) W3 wq := by rw [hwq]; exact ⟨rfl, rfl, rfl, Nat.le_refl _, fun _ _ => rfl⟩
            have HBQ := Lib.hid (HBB.out.trans (hbq.mono (by omega)))
            obtain ⟨c0, c1, c2, c3, c4, c5⟩ := HAB.out.below hbq (by omega)
            have hdq := HAN.out.below hbq (by omega)
            clear d2 hbq hwq
            obtain ⟨d0, d1, d2, d3, d4, d5⟩ := hdq
            go_wp2_with fail
            refine (wright_any T R 4 key val N wq hk hv).mono ?_
            rintro r w4 ⟨rfl, hb4⟩
            have HB4 := Lib.hid (HBQ.out.trans (hb4.mono HBQ.out.size))
            clear hb4
            rw [HE2.out, show errV 0 = Value.nilIface from rfl]
            go_wp2
            go_ret
            exact ⟨by first | rfl | simp, HB4.out⟩
          · have e0 := decide_eq_false n1
            have hE2 : wrE T R 4 key val N ≠ 0 := by
              have h := HK.out 4 (by decide) (by decide)
              intro hc; have h2 := (h.1 hc).2.2; omega
            have HE2 := Lib.hid hE2
            clear hE2
            have HAN : Hid (wrAt (w2.alloc (.cells #[.int .i64 T, .int .i64 R, .int .i64 4, .string key, .string val, .int .i64 N] 32)) w2.heap.size T R 4 key val N) := Lib.hid (wrAt_new w2 T R 4 key val N 32)
            have HAB : Hid (wrAt (w2.alloc (.cells #[.int .i64 T, .int .i64 R, .int .i64 4, .string key, .string val, .int .i64 N] 32)) w.heap.size T R K key val N) := Lib.hid (HA2.out.below ((Below.refl w2.heap.size w2).alloc (Nat.le_refl _) _) HL2.out)
            have HBB : Hid (Below w.heap.size w (w2.alloc (.cells #[.int .i64 T, .int .i64 R, .int .i64 4, .string key, .string val, .int .i64 N] 32))) := Lib.hid (HB2.out.alloc HB2.out.size _)
            obtain ⟨W3, hW3⟩ : ∃ W3, W3 = (w2.alloc (.cells #[.int .i64 T, .int .i64 R, .int .i64 4, .string key, .string val, .int .i64 N] 32)) := ⟨_, rfl⟩
            rw [← hW3] at HAN HAB HBB
            go_wp2
            rw [← hW3]
            clear hW3 c0 c1 c2 c3 c4 c5
            obtain ⟨_, _, d2, _, _, _⟩ := HAN.out
            go_quiet (fail)
            obtain ⟨wq, hwq⟩ : ∃ wq, wq = World.drewN W3 nq := ⟨_, rfl⟩
            rw [← hwq]
            have hbq : Below (w.heap.size + w2.heap.size + 1) W3 wq := by rw [hwq]; exact ⟨rfl, rfl, rfl, Nat.le_refl _, fun _ _ => rfl⟩
            have HBQ := Lib.hid (HBB.out.trans (hbq.mono (by omega)))
            obtain ⟨c0, c1, c2, c3, c4, c5⟩ := HAB.out.below hbq (by omega)
            have hdq := HAN.out.below hbq (by omega)
            clear d2 hbq hwq
            obtain ⟨d0, d1, d2, d3, d4, d5⟩ := hdq
            go_wp2_with fail
            refine (wright_any T R 4 key val N wq hk hv).mono ?_
            rintro r w4 ⟨rfl, hb4⟩
            have HB4 := Lib.hid (HBQ.out.trans (hb4.mono HBQ.out.size))
            clear hb4
            rw [errV_bad HE2.out]
            go_wp2
            go_ret
            exact ⟨by first | rfl | simp, HB4.out⟩
        · have e0 := decide_eq_false n0
          have hE2 : wrE T R 4 key val N ≠ 0 := by
            have h := HK.out 4 (by decide) (by decide)
            intro hc; have h2 := (h.1 hc).2.2; omega
          have HE2 := Lib.hid hE2
          clear hE2
          have HAN : Hid (wrAt (w2.alloc (.cells #[.int .i64 T, .int .i64 R, .int .i64 4, .string key, .string val, .int .i64 N] 32)) w2.heap.size T R 4 key val N) := Lib.hid (wrAt_new w2 T R 4 key val N 32)
          have HAB : Hid (wrAt (w2.alloc (.cells #[.int .i64 T, .int .i64 R, .int .i64 4, .string key, .string val, .int .i64 N] 32)) w.heap.size T R K key val N) := Lib.hid (HA2.out.below ((Below.refl w2.heap.size w2).alloc (Nat.le_refl _) _) HL2.out)
          have HBB : Hid (Below w.heap.size w (w2.alloc (.cells #[.int .i64 T, .int .i64 R, .int .i64 4, .string key, .string val, .int .i64 N] 32))) := Lib.hid (HB2.out.alloc HB2.out.size _)
          obtain ⟨W3, hW3⟩ : ∃ W3, W3 = (w2.alloc (.cells #[.int .i64 T, .int .i64 R, .int .i64 4, .string key, .string val, .int .i64 N] 32)) := ⟨_, rfl⟩
          rw [← hW3] at HAN HAB HBB
          go_wp2
          rw [← hW3]
          clear hW3 c0 c1 c2 c3 c4 c5
          obtain ⟨_, _, d2, _, _, _⟩ := HAN.out
          go_quiet (fail)
          obtain ⟨wq, hwq⟩ : ∃ wq, wq = World.drewN W3 nq := ⟨_, rfl⟩
          rw [← hwq]
          have hbq : Below (w.heap.size + w2.heap.size + 1) W3 wq := by rw [hwq]; exact ⟨rfl, rfl, rfl, Nat.le_refl _, fun _ _ => rfl⟩
          have HBQ := Lib.hid (HBB.out.trans (hbq.mono (by omega)))
          obtain ⟨c0, c1, c2, c3, c4, c5⟩ := HAB.out.below hbq (by omega)
          have hdq := HAN.out.below hbq (by omega)
          clear d2 hbq hwq
          obtain ⟨d0, d1, d2, d3, d4, d5⟩ := hdq
          go_wp2_with fail
          refine (wright_any T R 4 key val N wq hk hv).mono ?_
          rintro r w4 ⟨rfl, hb4⟩
          have HB4 := Lib.hid (HBQ.out.trans (hb4.mono HBQ.out.size))
          clear hb4
          rw [errV_bad HE2.out]
          go_wp2
          go_ret
          exact ⟨by first | rfl | simp, HB4.out⟩
    · rw [errV_bad h0]
      go_wp2
      go_ret
      exact ⟨rfl, HB2.out⟩
end Go.Proofs.Ytimaddmgooefdaa
