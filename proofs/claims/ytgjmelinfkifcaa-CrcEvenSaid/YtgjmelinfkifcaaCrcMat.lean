/-
  The contracts over what bytes of 0 do to each bit of a sum: (noughts).carry, single, (noughts).twice.
-/
import Derived.Test.YtgjmelinfkifcaaCrcMore
import Derived.Laws.Rows
import Derived.Laws.NewBlocks
import Derived.Below
import Derived.Laws.CopyOwn
import Derived.KernelRfl
namespace Go.Proofs.Ytgjmelinfkifcaa
open Go.RowKit

/-- What becomes of each of 32 bits, as cells. -/
def matA (f : Nat → Nat) : Array Value := ((List.range 32).map fun i => Value.int .u32 (f i : Nat)).toArray
theorem matA_size (f : Nat → Nat) : (matA f).size = 32 := by simp [matA]
theorem matA_at (f : Nat → Nat) (i : Nat) (h : i < 32) : (matA f)[i]? = some (.int .u32 (f i : Nat)) := by
  unfold matA
  simp [h]

theorem shr_cast (n k : Nat) : (n : Int) / 2 ^ k = ((n / 2 ^ k : Nat) : Int) := by simp
theorem shr_yes {n k : Nat} (h : n < 4294967296) (ht : (bits .and .u32 ((n : Int) / 2 ^ k) 1 == 1) = true) : n / 2 ^ k % 2 = 1 := by
  rw [shr_cast] at ht; exact and_one_yes (Nat.lt_of_le_of_lt (Nat.div_le_self _ _) h) ht
theorem shr_no {n k : Nat} (h : n < 4294967296) (ht : (bits .and .u32 ((n : Int) / 2 ^ k) 1 == 1) = false) : n / 2 ^ k % 2 ≠ 1 := by
  rw [shr_cast] at ht; exact and_one_no (Nat.lt_of_le_of_lt (Nat.div_le_self _ _) h) ht

set_option maxRecDepth 100000 in
set_option maxHeartbeats 400000 in
theorem carry_any (f : Nat → Nat) (x : Int) (w : World) (h0 : 0 ≤ x) (h1 : x < 4294967296) (hlt32 : ∀ i, i < 32 → f i < 4294967296) :
    Calls Try.prog 29 #[.agg (matA f), .int .u32 x] w fun e w' => e = .returned (.int .u32 (mulv f x.toNat 32 : Nat)) ∧ w' = w.alloc (.cells (matA f) 45) := by
  obtain ⟨n, rfl⟩ := Int.eq_ofNat_of_zero_le h0
  have hn : n < 4294967296 := by omega
  clear h0 h1
  go_enter Try.func29, Try.ntmps29
  go_wp2
  go_loop [5, 7] (fun o i => ∃ k : Nat, k ≤ 32 ∧ i = .int .i64 k ∧ o = .int .u32 (mulv f n k : Nat)) (fun _ i => 32 - (intOf i).toNat)
  case atStart => exact ⟨0, by omega, rfl, rfl⟩
  case round =>
    obtain ⟨k, hk, rfl, rfl⟩ := hrel
    by_cases hlt : k < 32
    · have hm := matA_at f k hlt
      have hf := hlt32 k hlt
      have hv := mulv_lt f n k hlt32 hk
      clear hlt32
      go_wp2
      · have ht := shr_yes hn (by assumption)
        go_round
        case rel => exact ⟨k + 1, by omega, by go_num, by rw [u32_xor_nat _ _ hv hf, mulv, if_pos ht]⟩
        case measure => simp [intOf]; omega
      · have ht := shr_no hn (by assumption)
        go_round
        case rel => exact ⟨k + 1, by omega, by go_num, by rw [mulv, if_neg ht]⟩
        case measure => simp [intOf]; omega
    · obtain rfl : k = 32 := by omega
      go_wp2
      go_ret
      exact ⟨rfl, rfl⟩

/-- The first k of them. -/
def upto (f : Nat → Nat) (k : Nat) : Nat → Nat := fun i => if i < k then f i else 0
theorem matA_ext {f g : Nat → Nat} (h : ∀ i, i < 32 → f i = g i) : matA f = matA g := by
  unfold matA
  congr 1
  exact List.map_congr_left fun i hi => by rw [h i (by simpa using hi)]
theorem matA_set (f : Nat → Nat) (k : Nat) (hk : k < 32) : (matA (upto f k)).setIfInBounds k (.int .u32 (f k : Nat)) = matA (upto f (k + 1)) := by
  apply Array.ext_getElem?
  intro i
  rw [Array.getElem?_setIfInBounds, matA_size]
  by_cases hi : i < 32
  · rw [matA_at _ i hi]
    by_cases e : k = i
    · subst e; rw [if_pos rfl, if_pos hk, matA_at _ k hi, upto, if_pos (by omega)]
    · rw [if_neg e, matA_at _ i hi]
      unfold upto
      by_cases h2 : i < k
      · rw [if_pos h2, if_pos (by omega)]
      · rw [if_neg h2, if_neg (by omega)]
  · rw [Array.getElem?_eq_none (by rw [matA_size]; omega), Array.getElem?_eq_none (by rw [matA_size]; omega), if_neg (by omega)]
theorem matA_zero (f : Nat → Nat) : matA (upto f 0) = Array.replicate 32 (.int .u32 0) := rfl
theorem matA_all (f : Nat → Nat) : matA (upto f 32) = matA f := matA_ext fun _ hi => if_pos hi

def zero32 : Array Value := #[.int .u32 0, .int .u32 0, .int .u32 0, .int .u32 0, .int .u32 0, .int .u32 0, .int .u32 0, .int .u32 0, .int .u32 0, .int .u32 0, .int .u32 0, .int .u32 0, .int .u32 0, .int .u32 0, .int .u32 0, .int .u32 0, .int .u32 0, .int .u32 0, .int .u32 0, .int .u32 0, .int .u32 0, .int .u32 0, .int .u32 0, .int .u32 0, .int .u32 0, .int .u32 0, .int .u32 0, .int .u32 0, .int .u32 0, .int .u32 0, .int .u32 0, .int .u32 0]
theorem pow_lt {k : Nat} (h : k < 32) : 2 ^ k < 4294967296 := Nat.pow_lt_pow_right (m := k) (n := 32) (by decide) h
theorem shl_one {k : Nat} (h : k < 32) : (2 : Int) ^ k % 4294967296 = ((2 ^ k : Nat) : Int) := by
  have h2 := pow_lt h
  have e : (2 : Int) ^ k = ((2 ^ k : Nat) : Int) := by simp
  rw [e]
  generalize 2 ^ k = m at *
  omega
theorem zero32_mat (f : Nat → Nat) : zero32 = matA (upto f 0) := by rw [matA_zero]; rfl
theorem start_mat (w : World) (f : Nat → Nat) (t : TypeId) : (w.alloc (.cells zero32 t)).alloc (.cells zero32 t) = (w.alloc (.cells zero32 t)).alloc (.cells (matA (upto f 0)) t) := by rw [← zero32_mat f]

theorem zero32_size (f : Nat → Nat) : zero32.size = (matA f).size := by rw [matA_size]; rfl
theorem matA_one (f : Nat → Nat) : (matA f).all (·.oneCell') = true := by
  rw [Array.all_eq_true_iff_forall_mem]
  intro v hv
  unfold matA at hv
  simp only [List.mem_toArray, List.mem_map] at hv
  obtain ⟨i, _, rfl⟩ := hv
  rfl
theorem mat_info32 : (Try.prog.info? 45).map (·.size) = some 32 := by kernel_rfl
theorem mat_info (f : Nat → Nat) : (Try.prog.info? 45).map (·.size) = some (matA f).size := by rw [matA_size, mat_info32]
set_option maxRecDepth 100000 in
set_option maxHeartbeats 400000 in
theorem single_any (w : World) :
    Calls Try.prog 27 #[] w fun e w' => e = .returned (.agg (matA fun i => pass (2 ^ i))) ∧ Below w.heap.size w w' := by
  go_enter Try.func27, Try.ntmps27
  go_wp2
  go_loopw [3] (fun i wr => ∃ k : Nat, k ≤ 32 ∧ i = .int .i64 k ∧ wr = (w.alloc (.cells zero32 45)).alloc (.cells (matA (upto (fun i => pass (2 ^ i)) k)) 45)) (fun i _ => 32 - (intOf i).toNat)
  case atStart => exact ⟨0, by omega, rfl, start_mat w _ _⟩
  case round =>
    obtain ⟨k, hk, rfl, rfl⟩ := hrel
    have hsz := matA_size (upto (fun i => pass (2 ^ i)) k)
    by_cases hlt : k < 32
    · have e1 := shl_one hlt
      have e2 := pow_lt hlt
      have e3 := matA_set (fun i => pass (2 ^ i)) k hlt
      go_wp2_with fail
      refine (pass_any _ _ (Int.natCast_nonneg _) (Int.ofNat_lt.2 e2)).mono ?_
      rintro e w' ⟨rfl, rfl⟩
      rw [Int.toNat_natCast]
      go_wp2
      go_roundw
      case rel => exact ⟨k + 1, by omega, by go_num, rfl⟩
      case measure => simp [intOf]; omega
    · obtain rfl : k = 32 := by omega
      rw [matA_all] at *
      have HG := Lib.hid (heap_alloc2_new w (.cells zero32 45) (.cells (matA fun i => pass (2 ^ i)) 45))
      have HG0 := Lib.hid (heap_alloc2_old w (.cells zero32 45) (.cells (matA fun i => pass (2 ^ i)) 45))
      have HI := Lib.hid (mat_info fun i => pass (2 ^ i))
      have HZ := Lib.hid (zero32_size fun i => pass (2 ^ i))
      have HO := Lib.hid (matA_one fun i => pass (2 ^ i))
      clear hlt hsz
      go_wp2_with (first | (with_reducible refine wpList_load_row rfl _ _ rfl _ rfl _ _ _ _ HG.out Try.underlying45 rfl HI.out ?_) | (with_reducible refine wpList_store_row rfl _ _ _ rfl _ _ rfl rfl _ _ HG0.out HI.out HZ.out HO.out ?_))
      refine bodyPost_ret (results_cell_row (p := 0) (ty := 45) (by kernel_rfl) _ _ w.heap.size 45 _ (0, 0) _ rfl (setRow_heap _ _ _ _ _ _ HG0.out) Try.underlying45 rfl HI.out) rfl ⟨rfl, ?_⟩
      exact below_setRow (((Below.refl _ _).alloc (Nat.le_refl _) _).alloc (by simp) _) (Nat.le_refl _) _
end Go.Proofs.Ytgjmelinfkifcaa
