/-
  The contract of crc.Join.
-/
import Derived.Test.YtgjmelinfkifcaaCrcTwice
import Derived.Deep.WholeRow
namespace Go.Proofs.Ytgjmelinfkifcaa
open Go.RowKit

/-- What e bits of 0 do to each bit. -/
def matS (e : Nat) : Array Value := matA fun i => stn e (2 ^ i)
theorem carry_s (e : Nat) (x : Int) (w : World) (h0 : 0 ≤ x) (h1 : x < 4294967296) :
    Calls Try.prog 29 #[.agg (matS e), .int .u32 x] w fun r w' => r = .returned (.int .u32 (stn e x.toNat : Nat)) ∧ w' = w.alloc (.cells (matS e) 45) := by
  refine (carry_any _ x w h0 h1 (fun i hi => stn_lt e (pow_lt hi))).mono ?_
  rintro r w' ⟨rfl, rfl⟩
  rw [mulv_all e (by omega)]
  exact ⟨rfl, rfl⟩
theorem single_s (w : World) : Calls Try.prog 27 #[] w fun r w' => r = .returned (.agg (matS 8)) ∧ Below w.heap.size w w' := single_any w
theorem twice_s (e : Nat) (w : World) :
    Calls Try.prog 28 #[.agg (matS e)] w fun r w' => r = .returned (.agg (matS (e + e))) ∧ Below w.heap.size w w' := by
  refine (twice_any _ w (fun i hi => stn_lt e (pow_lt hi))).mono ?_
  rintro r w' ⟨rfl, hb⟩
  refine ⟨?_, hb⟩
  have : (matA fun i => mulv (fun i => stn e (2 ^ i)) (stn e (2 ^ i)) 32) = matS (e + e) :=
    matA_ext fun i hi => by rw [mulv_all e (stn_lt e (pow_lt hi)), ← stn_add]
  rw [this]
theorem matS_size (e : Nat) : (matS e).size = 32 := matA_size _
theorem matS_one (e : Nat) : (matS e).all (·.oneCell') = true := matA_one _
theorem matS_info (e : Nat) : (Try.prog.info? 45).map (·.size) = some (matS e).size := mat_info _
theorem zeroS_size (e : Nat) : zero32.size = (matS e).size := by rw [matS_size]; rfl

theorem store_lit (w : World) (e : Nat) : (storeCells ⟨w.heap.size, 0, none⟩ (matS e).toList 0).run Try.prog (w.alloc (.cells zero32 45)) = .ok () (w.alloc (.cells (matS e) 45)) :=
  run_storeCells_new (P := Try.prog) w 45 zero32 (matS e) (matS_info e) (zeroS_size e) (matS_one e)

theorem heap_keep {w : World} {p : Nat} {o : Obj} (h : w.heap[p]? = some o) (o' : Obj) : (w.alloc o').heap[p]? = some o := by
  rw [Below.heap_alloc _ _ _ (Array.getElem?_eq_some_iff.1 h).1, h]
theorem below_keep {w w' : World} {p : Nat} {o : Obj} (hb : Below w.heap.size w w') (h : w.heap[p]? = some o) : w'.heap[p]? = some o := by
  rw [hb.block p (Array.getElem?_eq_some_iff.1 h).1, h]
theorem half_odd (e : Nat) {m : Nat} (h : m % 2 = 1) : e * m = (e + e) * (m / 2) + e := by
  have h2 : m = 2 * (m / 2) + 1 := by omega
  conv => lhs; rw [h2]
  rw [Nat.mul_add, Nat.mul_one, ← Nat.mul_assoc, Nat.mul_two]
theorem half_even (e : Nat) {m : Nat} (h : m % 2 ≠ 1) : e * m = (e + e) * (m / 2) := by
  have h2 : m = 2 * (m / 2) := by omega
  conv => lhs; rw [h2]
  rw [← Nat.mul_assoc, Nat.mul_two]
theorem join_below {w wr w2 w3 : World} {o : Obj} (h1 : Below w.heap.size w wr) (h2 : Below wr.heap.size wr w2) (h3 : Below (w2.alloc o).heap.size (w2.alloc o) w3) : Below w.heap.size w w3 := by
  have hs := Nat.le_trans h1.size h2.size
  exact ((h1.trans (h2.mono h1.size)).alloc hs o).trans (h3.mono (by simp; omega))
/-- What the loop keeps. -/
def JL (a n : Nat) (w : World) (c m p : Nat) (wr : World) (e : Nat) : Prop :=
  c < 4294967296 ∧ m ≤ n ∧ wr.heap[p]? = some (.cells (matS e) 45 (0, 0)) ∧ stn (e * m) c = stn (8 * n) a ∧ w.heap.size ≤ p ∧ Below w.heap.size w wr

set_option maxRecDepth 100000 in
set_option maxHeartbeats 1000000 in
theorem join_nat (a b n : Nat) (w : World) (a1 : a < 4294967296) (b1 : b < 4294967296) (n1 : n < 9223372036854775808) :
    Calls Try.prog 17 #[.int .u32 a, .int .u32 b, .int .i64 n] w fun e w' => e = .returned (.int .u32 (join a b n : Nat)) ∧ Below w.heap.size w w' := by
  have hst := store_lit
  unfold zero32 at hst
  have hn0 : ¬ (n : Int) < 0 := by omega
  go_enter Try.func17, Try.ntmps17
  go_wp2_with fail
  refine (single_s _).mono ?_
  rintro r w1 ⟨rfl, hb1⟩
  have HB := Lib.hid hb1
  clear hb1
  go_wp2
  go_loopw [0, 2, 7] (fun s0 s2 s7 wr => ∃ c m p e : Nat, s0 = .int .u32 c ∧ s2 = .int .i64 m ∧ s7 = .pointer (some ⟨p, 0, none⟩) ∧ JL a n w c m p wr e) (fun _ s2 _ _ => (intOf s2).toNat)
  case atStart => exact ⟨a, n, w1.heap.size, 8, rfl, rfl, rfl, a1, Nat.le_refl _, heap_alloc_new _ _, rfl, HB.out.size, HB.out.alloc HB.out.size _⟩
  case round =>
    obtain ⟨c, m, p, e, rfl, rfl, rfl, hJ⟩ := hrel
    by_cases hm : 0 < m
    · obtain ⟨hc, hmn, hg, he, hp, hb⟩ := hJ
      have HG := Lib.hid hg
      have HE := Lib.hid he
      have HP := Lib.hid hb
      clear hg he hb
      have hm2 : m / 2 < m := by omega
      by_cases hodd : m % 2 = 1
      · have ho : ((m : Int) % 2 == 1) = true := by simp; omega
        have HO := Lib.hid hodd
        clear hodd
        go_wp2_with (with_reducible refine wpList_load_row rfl _ _ rfl _ rfl _ _ _ _ HG.out Try.underlying45 rfl (matS_info _) ?_)
        refine (carry_s e _ _ (Int.natCast_nonneg _) (by omega)).mono ?_
        rintro r w2 ⟨rfl, hw⟩
        rw [Int.toNat_natCast]
        have HB2 : Hid (Below wr.heap.size wr w2) := by rw [hw]; exact (Below.refl _ _).alloc (Nat.le_refl _) _
        clear hw
        have HG2 := Lib.hid (below_keep HB2.out HG.out)
        go_wp2_with (first | (with_reducible refine wpList_load_row rfl _ _ rfl _ rfl _ _ _ _ HG2.out Try.underlying45 rfl (matS_info _) ?_) | (with_reducible refine wpList_load_row rfl _ _ rfl _ rfl _ _ _ _ (heap_alloc_new _ _) Try.underlying45 rfl (matS_info _) ?_))
        refine (twice_s e _).mono ?_
        rintro r w3 ⟨rfl, hb3⟩
        have HG3 := Lib.hid (below_keep hb3 (heap_alloc_new w2 (.cells (matS e) 45)))
        have HB3 := Lib.hid hb3
        clear hb3
        go_wp2_with (with_reducible refine wpList_store_row rfl _ _ _ rfl _ _ rfl rfl _ _ HG3.out (matS_info _) (by rw [matS_size, matS_size]) (matS_one _) ?_)
        dsimp only [Act.put]
        go_roundw
        case rel =>
          refine ⟨stn e c, m / 2, w2.heap.size, e + e, rfl, by go_num, rfl, stn_lt e hc, by omega, setRow_heap _ _ _ _ _ _ HG3.out, ?_, ?_, ?_⟩
          · rw [← stn_add, ← HE.out]; congr 1; rw [← half_odd e HO.out]
          · exact Nat.le_trans HP.out.size HB2.out.size
          · exact below_setRow (join_below HP.out HB2.out HB3.out) (Nat.le_trans HP.out.size HB2.out.size) _
        case measure => simp [intOf]; omega
      · have ho : ((m : Int) % 2 == 1) = false := by simp; omega
        have HO := Lib.hid hodd
        clear hodd
        have HB2 : Hid (Below wr.heap.size wr wr) := Below.refl _ _
        go_wp2_with (first | (with_reducible refine wpList_load_row rfl _ _ rfl _ rfl _ _ _ _ HG.out Try.underlying45 rfl (matS_info _) ?_) | (with_reducible refine wpList_load_row rfl _ _ rfl _ rfl _ _ _ _ (heap_alloc_new _ _) Try.underlying45 rfl (matS_info _) ?_))
        refine (twice_s e _).mono ?_
        rintro r w3 ⟨rfl, hb3⟩
        have HG3 := Lib.hid (below_keep hb3 (heap_alloc_new wr (.cells (matS e) 45)))
        have HB3 := Lib.hid hb3
        clear hb3
        go_wp2_with (with_reducible refine wpList_store_row rfl _ _ _ rfl _ _ rfl rfl _ _ HG3.out (matS_info _) (by rw [matS_size, matS_size]) (matS_one _) ?_)
        dsimp only [Act.put]
        go_roundw
        case rel =>
          refine ⟨c, m / 2, wr.heap.size, e + e, rfl, by go_num, rfl, hc, by omega, setRow_heap _ _ _ _ _ _ HG3.out, ?_, ?_, ?_⟩
          · rw [← HE.out, half_even e HO.out]
          · exact HP.out.size
          · exact below_setRow (join_below HP.out HB2.out HB3.out) HP.out.size _
        case measure => simp [intOf]; omega
    · obtain rfl : m = 0 := by omega
      obtain ⟨hc, _, _, he, _, hb⟩ := hJ
      have hx := u32_xor_nat c b hc b1
      have HE := Lib.hid he
      have HP := Lib.hid hb
      clear he hb
      go_wp2
      go_ret
      refine ⟨?_, HP.out⟩
      have h2 := HE.out
      rw [Nat.mul_zero] at h2
      unfold join
      rw [← h2]
      rfl

set_option maxRecDepth 100000 in
set_option maxHeartbeats 400000 in
theorem join_less (a b : Int) (n : Int) (w : World) (hn : n < 0) :
    Calls Try.prog 17 #[.int .u32 a, .int .u32 b, .int .i64 n] w fun e w' => e = .returned (.int .u32 0) ∧ w = w' := by
  go_enter Try.func17, Try.ntmps17
  go_wp2
  go_ret
  exact ⟨rfl, rfl⟩
end Go.Proofs.Ytgjmelinfkifcaa
