/-
  The contract of the document's Vary: it answers the bytes that 'putL' gives.
-/
import Derived.Test.YtggokgiebdadpaaDoorVaryPut
import Derived.Test.YtggokgiebdadpaaDoorLen64
import Derived.Test.YtggokgiebdadpaaDoorPow
import Derived.Laws.OwnMore
namespace Go.Proofs.YtggokgiebdadpaaDoor
open Go.RowKit

theorem bitsN_128 {n : Nat} (h : ¬ n < 128) (h64 : n < 18446744073709551616) : bitsN n = bitsN (n / 128) + 7 := by
  unfold bitsN
  have e := bitsF_shift 57 7 n (by omega)
  rw [show (57 : Nat) + 7 = 64 from rfl] at e
  have e2 : bitsF 64 (n / 128) = bitsF 57 (n / 128) := bitsF_more 57 (n / 128) 7 (by omega)
  rw [e, e2, show (2 : Nat) ^ 7 = 128 from rfl]
  omega
theorem bitsN_small : ∀ n, n < 128 → bitsN n ≤ 7 := by
  intro n h
  have : bitsN n = bitsF 7 n := bitsF_more 7 n 57 (by omega)
  rw [this]; exact bitsF_le 7 n
theorem bitsN_pos {n : Nat} (h : 0 < n) : 0 < bitsN n := by
  unfold bitsN bitsF; rw [if_neg (by omega)]; omega
theorem sevens_bits (n : Nat) : n < 18446744073709551616 → (sevens n = max 1 ((bitsN n + 6) / 7)) := by
  induction n using Nat.strongRecOn with
  | ind n ih =>
    intro h64
    by_cases h : n < 128
    · rw [sevens_small h]; have := bitsN_small n h; omega
    · rw [sevens_big h, bitsN_128 h h64, ih (n / 128) (by omega) (by omega)]
      have := bitsN_pos (n := n / 128) (by omega)
      omega

/-- A byte of a number, without what it says of more. -/
def loB (n i : Nat) : Nat := n / p128 i % 128
theorem putL_get (i : Nat) : ∀ n (h : i < (putL n).length), ((putL n)[i]'h).toNat = loB n i + (if i + 1 < (putL n).length then 128 else 0) := by
  induction i with
  | zero =>
    intro n h
    unfold loB p128
    by_cases h2 : n < 128
    · simp only [putL_small h2]; simp; omega
    · simp only [putL_big h2]
      have := putL_pos (n / 128)
      rw [if_pos (by simp; omega)]
      simp; omega
  | succ i ih =>
    intro n h
    by_cases h2 : n < 128
    · rw [putL_small h2] at h; simp at h
    · have e : (putL n)[i + 1]'h = (putL (n / 128))[i]'(by rw [putL_big h2] at h; simpa using h) := by simp only [putL_big h2]; rfl
      rw [e, ih]
      unfold loB p128
      rw [Nat.div_div_eq_div_mul, Nat.pow_succ, Nat.mul_comm 128]
      congr 2
      rw [putL_big h2]; simp

/-- The first i bytes are there, the others are 0. -/
def partL (n i : Nat) : List UInt8 := (putL n).take i ++ List.replicate ((putL n).length - i) 0
theorem partL_len (n i : Nat) (h : i ≤ (putL n).length) : (partL n i).length = (putL n).length := by
  unfold partL; simp; omega
theorem partL_end (n : Nat) : partL n (putL n).length = putL n := by unfold partL; simp
theorem partL_set (n i : Nat) (h : i < (putL n).length) : (partL n i).set i ((putL n)[i]) = partL n (i + 1) := by
  unfold partL
  have e : (putL n).length - i = (putL n).length - (i + 1) + 1 := by omega
  rw [List.set_append_right _ _ (by simp; omega), e, List.replicate_succ]
  have e2 : i - ((putL n).take i).length = 0 := by simp; omega
  rw [e2, List.set_cons_zero, List.take_succ_eq_append_getElem h, List.append_assoc]
  rfl

theorem made_rep (k : Nat) : (madeCells (Value.int .u8 0).cells (k * 1)).toList = (List.replicate k (0 : UInt8)).map byteV := by
  apply List.ext_getElem
  · simp [madeCells]
  · intro i h1 h2
    simp [madeCells, byteV, Value.cells, Nat.mod_one]

theorem p128_pos (j : Nat) : 1 ≤ p128 j := Nat.pos_of_ne_zero (by unfold p128; exact Nat.ne_of_gt (Nat.pow_pos (by decide)))

/-- A round: byte j is stored. -/
theorem part_store (N j : Nat) (h : j < (putL N).length) (b : Int) (hb : b = ((loB N j + (if j + 1 < (putL N).length then 128 else 0) : Nat) : Int)) :
    ((partL N j).map byteV).set j (.int .u8 b) = (partL N (j + 1)).map byteV := by
  rw [← partL_set N j h, List.map_set]
  congr 1
  unfold byteV
  rw [putL_get j N h, hb]

set_option maxRecDepth 100000 in
set_option maxHeartbeats 2000000 in
theorem rvary_any (N : Nat) (w : World) (h1 : N ≤ 18446744073709551615) :
    Calls Tryd.prog 22 #[.int .u64 (N : Int)] w fun e w' => e = .returned (.string ⟨(putL N).toArray⟩) ∧ Below w.heap.size w w' := by
  have hlen : (putL N).length = max 1 ((bitsN N + 6) / 7) := by rw [putL_sevens]; exact sevens_bits N (by omega)
  have hl10 := putL_le10 (n := N) (by omega)
  have hb : bitsN N ≤ 64 := bitsF_le 64 N
  obtain ⟨B, hB⟩ : ∃ B, bitsN N = B := ⟨_, rfl⟩
  rw [hB] at hlen hb
  have HB := Lib.hid hB
  obtain ⟨k, hk⟩ : ∃ k, (putL N).length = k := ⟨_, rfl⟩
  rw [hk] at hlen hl10
  have HK := Lib.hid hk
  clear hB hk
  have hk1 : 1 ≤ k := by omega
  obtain ⟨i0, hi, hz0, hz1, hz2⟩ := info_parts info_u8
  have hcase : (1 < ((B : Int) + 6) / 7 ∧ ((B : Int) + 6) / 7 = k) ∨ (((B : Int) + 6) / 7 ≤ 1 ∧ k ≤ 1) := by omega
  clear hlen
  rcases hcase with ⟨c1, c2⟩ | ⟨c1, c2⟩
  all_goals
    go_enter Tryd.func22, Tryd.ntmps22
    go_wp2_with (first | (go_at_call 35; refine (len64_any (N : Int) _ (by omega) (by omega)).mono ?_; rintro r w' ⟨rfl, rfl⟩; rw [Int.toNat_natCast, HB.out]) | (at_make; refine wpList_make_full _ rfl _ _ 69 rfl w.heap.size 5 i0 (.int .u8 0) 1 Tryd.underlying69 hi hz0 hz1 .i64 .i64 _ _ k rfl rfl (by first | rfl | omega) (by first | rfl | omega) (by rw [hz2]; omega) (by unfold maxLen; omega) (Nat.le_refl _) ?_; intro w1 hown hg1; rw [made_rep] at hown; have hbel : Below w.heap.size w w1 := (Below.refl _ _).grown hg1 (Nat.le_refl _) (fun _ h => by cases h); have HOWN := Lib.hid hown; have HBEL := Lib.hid hbel; clear hg1 hown hbel))
    have HOWN := ‹Hid (World.ownsRow _ w.heap.size _ _ _ _ _)›
    have HBEL := ‹Hid (Below w.heap.size w _)›
    go_loopw [15] (fun i wr => ∃ j : Nat, j ≤ k ∧ i = .int .i64 j ∧ wr.ownsRow w.heap.size 5 1 (.slice (some ⟨w.heap.size, 0, none⟩) k k) k ((partL N j).map byteV) ∧ Below w.heap.size w wr) (fun i _ => k - (intOf i).toNat)
    case atStart => exact ⟨0, Nat.zero_le _, rfl, by unfold partL; rw [HK.out]; exact HOWN.out, HBEL.out⟩
    case round =>
      obtain ⟨j, hj, rfl, hownr, hbr⟩ := hrel
      by_cases hlt : j < k
      · have HO := Lib.hid hownr
        have hjl : j < (partL N j).length := by rw [partL_len N j (by rw [HK.out]; omega), HK.out]; exact hlt
        obtain ⟨v0, hv0⟩ : ∃ v0 : Int, wr.cell? ⟨w.heap.size, j, none⟩ = some (.int .u8 v0) :=
          ⟨((partL N j)[j].toNat : Int), by rw [hownr.cellAt j (by omega), List.getElem?_map, List.getElem?_eq_getElem hjl]; rfl⟩
        have hf := hownr.frozenAt j
        have hp := p128_pos j
        obtain ⟨q, hq⟩ : ∃ q : Nat, N / p128 j = q := ⟨_, rfl⟩
        have hqi : (N : Int) / ((p128 j : Nat) : Int) = (q : Int) := by rw [← hq]; rfl
        have hqb : q ≤ 18446744073709551615 := by rw [← hq]; exact Nat.le_trans (Nat.div_le_self _ _) h1
        have HQ : Hid (loB N j = q % 128) := by show loB N j = _; unfold loB; rw [hq]
        clear hownr hq hjl
        go_wp2_with (go_at_call 36; refine (pow_any j _ (by omega)).mono ?_; rintro r w' ⟨rfl, rfl⟩)
        all_goals first
          | (have hlt2 : (j : Int) + 1 < (k : Int) := by first | assumption | omega
             have hst := ((HO.out.stored j (.int .u8 ((q : Int) % 128))).1.stored j (.int .u8 ((q : Int) % 128 + 128))).1
             rw [List.set_set, part_store N j (by rw [HK.out]; omega) _ (by rw [HK.out, HQ.out, if_pos (by omega)]; omega)] at hst
             go_roundw
             case rel => exact ⟨j + 1, by omega, by go_num, hst, (hbr.setCell (Nat.le_refl _) _).setCell (Nat.le_refl _) _⟩
             case measure => simp [intOf]; omega)
          | (have hlt2 : (k : Int) ≤ (j : Int) + 1 := by omega
             have hst := (HO.out.stored j (.int .u8 ((q : Int) % 128))).1
             rw [part_store N j (by rw [HK.out]; omega) _ (by rw [HK.out, HQ.out, if_neg (by omega)]; omega)] at hst
             go_roundw
             case rel => exact ⟨j + 1, by omega, by go_num, hst, hbr.setCell (Nat.le_refl _) _⟩
             case measure => simp [intOf]; omega)
      · have hjk : j = k := by omega
        have hfin : ownsB wr w.heap.size (.slice (some ⟨w.heap.size, 0, none⟩) k k) (putL N) := by
          unfold ownsB
          rw [HK.out]
          have := partL_end N
          rw [HK.out] at this
          rw [hjk, this] at hownr
          exact hownr
        have hcv := run_string_ownsB hfin
        have hjk' := Lib.hid hjk
        clear hfin hownr hjk
        go_wp2
        go_ret
        exact ⟨rfl, hbr⟩
end Go.Proofs.YtggokgiebdadpaaDoor
