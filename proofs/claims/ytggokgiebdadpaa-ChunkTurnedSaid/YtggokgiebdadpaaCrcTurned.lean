/-
  The walk of packtrainkeep's 'turned'.
-/
import Derived.Test.YtggokgiebdadpaaCrcTurn
namespace Go.Proofs.Ytggokgiebdadpaa
open Go.RowKit

/-- What the loop keeps. -/
def TU (l : List UInt8) (sz n bits f i : Nat) (w wr : World) : Prop :=
  wr.heap[w.heap.size]? = some (.cells (rowC (turnN l bits f i) sz n) 5 (n, n + 1)) ∧ Below w.heap.size w wr
theorem TU.cells {l : List UInt8} {sz n bits f i j : Nat} {w wr : World} (h : TU l sz n bits f i w wr) (hj : j < sz) (hn : sz ≤ n) :
    wr.cell? ⟨w.heap.size, j, none⟩ = some (.int .u8 (turnN l bits f i j : Nat)) ∧ wr.frozen? ⟨w.heap.size, j, none⟩ = false := by
  refine ⟨?_, ?_⟩
  · rw [cell_of_row _ _ _ _ _ _ h.1, rowC_at _ _ _ _ (by omega) hj]
  · have := h.1
    simp [World.frozen?, this]
    omega
theorem TU.drew {l : List UInt8} {sz n bits f i : Nat} {w wr : World} (h : TU l sz n bits f i w wr) : TU l sz n bits f i w wr.drew := ⟨h.1, h.2.drew⟩
theorem TU.skip {l : List UInt8} {sz n bits f i : Nat} {w wr : World} (h : TU l sz n bits f i w wr) (hs : ∀ j, j < sz → turnN l bits f (i + 1) j = turnN l bits f i j) : TU l sz n bits f (i + 1) w wr := by
  refine ⟨?_, h.2⟩
  rw [rowC_congr (fun j hj => hs j hj)]
  exact h.1
theorem TU.put {l : List UInt8} {sz n bits f i : Nat} {w wr : World} (h : TU l sz n bits f i w wr) (hb : bits / 2 ^ i % 2 = 1) (hp : (f + i) / 8 < sz) (hn : sz ≤ n) {x : Int} (hx : x = (turnN l bits f i ((f + i) / 8) ^^^ 2 ^ ((f + i) % 8) : Nat)) :
    TU l sz n bits f (i + 1) w (wr.setCell ⟨w.heap.size, (f + i) / 8, none⟩ (.int .u8 x)) := by
  refine ⟨?_, h.2.setCell (Nat.le_refl _) _⟩
  rw [setCell_eq_setRow _ _ _ _ _ _ _ h.1, rowC_set _ (turnN l bits f (i + 1)) sz n _ hp hn x (by rw [hx, turnN_here _ _ _ _ hb]) (fun j _ hne => turnN_other _ _ _ _ _ hne)]
  exact setRow_heap _ _ _ _ _ _ h.1

theorem bit_true {bits i : Nat} (hb : bits < 4294967296) (h : bits / 2 ^ i % 2 = 1) : (Go.bits .and .u32 ((bits : Int) / 2 ^ i) 1 == 1) = true := by
  rw [shr_cast, and_one _ (Nat.lt_of_le_of_lt (Nat.div_le_self _ _) hb), h]; rfl
theorem bit_false {bits i : Nat} (hb : bits < 4294967296) (h : ¬ bits / 2 ^ i % 2 = 1) : (Go.bits .and .u32 ((bits : Int) / 2 ^ i) 1 == 1) = false := by
  rw [shr_cast, and_one _ (Nat.lt_of_le_of_lt (Nat.div_le_self _ _) hb)]
  have e : bits / 2 ^ i % 2 = 0 := by omega
  rw [e]; rfl

theorem xor_bit (c r : Nat) (hc : c < 256) (hr : r < 8) : Go.bits .xor .u8 (c : Int) (2 ^ r % 256) = (c ^^^ 2 ^ r : Nat) := by
  have h2 : 2 ^ r < 256 := Nat.pow_lt_pow_right (m := r) (n := 8) (by decide) hr
  have e : (2 : Int) ^ r % 256 = ((2 ^ r : Nat) : Int) := by
    have e1 : (2 : Int) ^ r = ((2 ^ r : Nat) : Int) := by simp
    rw [e1]
    generalize 2 ^ r = m at *
    omega
  rw [e, u8_xor_nat _ _ hc h2]
theorem turned_conv {s : ByteArray} {n bits f cap : Nat} {w wr : World} (h : TU s.data.toList s.size n bits f 32 w wr) (hn : s.size ≤ n) :
    (convert 52 9 (.slice (some ⟨w.heap.size, 0, none⟩) (turnL s.data.toList f bits).length cap)).run Try.prog wr = .ok (.string ⟨(turnL s.data.toList f bits).toArray⟩) wr := by
  refine run_convert_bytes_back _ _ _ _ _ _ (turnL s.data.toList f bits) Try.underlying52 Try.underlying5 Try.underlying9 fun j hj => ?_
  have hadd : (⟨w.heap.size, 0, none⟩ : Addr).add j = ⟨w.heap.size, j, none⟩ := by unfold Addr.add; split <;> simp_all
  have hj2 : j < s.size := by rw [turnL_len] at hj; simpa using hj
  rw [hadd, (h.cells hj2 hn).1, turnL_at]

set_option maxRecDepth 100000 in
set_option maxHeartbeats 1000000 in
theorem turned_any (s : ByteArray) (f bits : Nat) (w : World) (hs : s.size ≤ 1000000) (hf : f ≤ 10000000) (hb : bits < 4294967296) :
    Calls Try.prog 15 #[.string s, .int .i64 f, .int .u32 bits] w fun e w' => e = .returned (.string ⟨(turnL s.data.toList f bits).toArray⟩) ∧ Below w.heap.size w w' := by
  have hcv := run_bytes_of_string (P := Try.prog) w 9 52 5 s Try.underlying9 Try.underlying52 Try.underlying5
  obtain ⟨cap, hcap⟩ : ∃ cap, cap = grownCap w s.size 0 5 := ⟨_, rfl⟩
  rw [← hcap, bytesRow_rowC s cap, rowC_size, rowC_congr (v := turnN s.data.toList bits f 0) (fun j _ => (turnN_zero s.data.toList bits f j).symm)] at hcv
  obtain ⟨n, hn⟩ : ∃ n, n = s.size + (cap - s.size) := ⟨_, rfl⟩
  rw [← hn] at hcv
  have hn2 : s.size ≤ n := by omega
  clear hn hcap
  go_enter Try.func15, Try.ntmps15
  go_wp2
  clear hcv
  go_loopw [12] (fun c wr => ∃ i : Nat, i ≤ 32 ∧ c = .int .i64 i ∧ TU s.data.toList s.size n bits f i w wr) (fun c _ => 32 - (intOf c).toNat)
  case atStart => exact ⟨0, by omega, rfl, heap_alloc_new _ _, ((Below.refl _ _).alloc (Nat.le_refl _) _).drew⟩
  case round =>
    obtain ⟨i, hi, rfl, hT⟩ := hrel
    have HT := Lib.hid hT
    by_cases hlt : i < 32
    · by_cases hbit : bits / 2 ^ i % 2 = 1
      · have hbt := bit_true hb hbit
        have HBit := Lib.hid hbit
        clear hbit
        by_cases hin : (f + i) / 8 < s.size
        · have d1 : decide (((f : Int) + (i : Int)) / 8 < (s.size : Int)) = true := decide_eq_true (by omega)
          obtain ⟨c1, c2⟩ := hT.cells hin hn2
          clear hT
          have i0 : (0 : Int) ≤ ((f : Int) + (i : Int)) / 8 := by omega
          have i1 : ((f : Int) + (i : Int)) / 8 < (s.size : Int) := by omega
          have r0 : (0 : Int) ≤ ((f : Int) + (i : Int)) % 8 := by omega
          have r1 : ((f : Int) + (i : Int)) % 8 < 8 := by omega
          go_wp2
          go_region
          go_wp2
          go_roundw
          case rel => exact ⟨i + 1, by omega, by go_num, (HT.out.put HBit.out hin hn2 (xor_bit _ _ (turnN_lt _ _ _ _ _) (Nat.mod_lt _ (by decide)))).drew⟩
          case measure => simp [intOf]; omega
        · have d1 : decide (((f : Int) + (i : Int)) / 8 < (s.size : Int)) = false := decide_eq_false (by omega)
          clear hT
          have i0 : (0 : Int) ≤ ((f : Int) + (i : Int)) / 8 := by omega
          go_wp2
          go_roundw
          case rel => exact ⟨i + 1, by omega, by go_num, HT.out.skip fun j hj => turnN_other _ _ _ _ _ (by omega)⟩
          case measure => simp [intOf]; omega
      · have hbt := bit_false hb hbit
        have HBit := Lib.hid hbit
        clear hbit hT
        go_wp2
        go_roundw
        case rel => exact ⟨i + 1, by omega, by go_num, HT.out.skip fun j _ => turnN_skip _ _ _ _ _ HBit.out⟩
        case measure => simp [intOf]; omega
    · obtain rfl : i = 32 := by omega
      have hc := turned_conv (cap := cap) hT hn2
      have HB := Lib.hid hT.2
      clear hT
      have hlen : (turnL s.data.toList f bits).length = s.size := by rw [turnL_len]; simp
      rw [hlen] at hc
      go_wp2
      go_ret
      exact ⟨rfl, HB.out⟩
end Go.Proofs.Ytggokgiebdadpaa
