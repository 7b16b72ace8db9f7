/-
  The closure 'take' of packtrainkeep.RecvAll.
-/
import Derived.Test.YtjnbnkaocoamlabDoorTaken
import Derived.Test.YtjnbnkaocoamlabDoorPick
import Derived.WalkLawsBesides
namespace Go.Proofs.YtjnbnkaocoamlabDoor
open Go.RowKit

/-- One more came. -/
def updB (c : Nat → Bool) (i : Nat) : Nat → Bool := fun j => if j = i then true else c j
def boolC (c : Nat → Bool) (n : Nat) : Array Value := ((List.range n).map fun i => Value.bool (c i)).toArray
theorem boolC_size (c : Nat → Bool) (n : Nat) : (boolC c n).size = n := by simp [boolC]
theorem boolC_at (c : Nat → Bool) {n i : Nat} (h : i < n) : (boolC c n)[i]? = some (.bool (c i)) := by unfold boolC; simp [h]
theorem boolC_set (c : Nat → Bool) {n p : Nat} (h : p < n) : (boolC c n).setIfInBounds p (.bool true) = boolC (updB c p) n := by
  apply Array.ext_getElem?
  intro i
  rw [Array.getElem?_setIfInBounds, boolC_size]
  by_cases hi : i < n
  · by_cases e : p = i
    · subst e; rw [if_pos rfl, if_pos hi, boolC_at _ hi]; unfold updB; rw [if_pos rfl]
    · rw [if_neg e, boolC_at _ hi, boolC_at _ hi]; unfold updB; rw [if_neg (fun h => e h.symm)]
  · rw [Array.getElem?_eq_none (by rw [boolC_size]; omega), Array.getElem?_eq_none (by rw [boolC_size]; omega), if_neg (by omega)]
theorem div_in {i z k : Nat} (hz : 0 < z) : i / z = k ↔ k * z ≤ i ∧ i < k * z + z := by
  rw [Nat.div_eq_iff hz]
  constructor <;> intro h <;> omega
theorem PartO.tookB {s : ByteArray} {c : Nat → Bool} {X : Rcv} {z k : Nat} (hz : 0 < z) (h : PartO s (fun i => c (i / z) = true) X) (hk : k * z < s.size) : Part s (fun i => updB c k (i / z) = true) (tookR X s z k) := by
  refine (h.took hk).congr (fun i _ => ?_)
  unfold updB
  by_cases e : i / z = k
  · rw [if_pos e]; simp only [iff_true]; exact .inr ((div_in hz).1 e)
  · rw [if_neg e]
    exact ⟨fun h => h.resolve_right (fun h2 => e ((div_in hz).2 h2)), .inl⟩
/-- How many are there, and whether all. -/
theorem part_k {s : ByteArray} {c : Nat → Bool} {X : Rcv} {z k : Nat} (hs : 0 < s.size) (hz : 0 < z) (h : Part s (fun i => c (i / z) = true) X) (h1 : ∀ j, j < k → c j = true) (h2 : k < cutN s.size z → c k = false) :
    offR X = min s.size (k * z) ∧ (k = cutN s.size z → textV X = .tuple #[.string s, .nilIface]) ∧ (k < cutN s.size z → textV X = .tuple #[.string ⟨#[]⟩, .iface 43 (.int .i64 7)]) := by
  have hlt : ∀ i, i < k * z → c (i / z) = true := fun i hi => h1 _ ((Nat.div_lt_iff_lt_mul hz).2 hi)
  have hno : k < cutN s.size z → k * z < s.size ∧ ¬ c (k * z / z) = true := fun hk2 => ⟨(cutN_lt hz).2 hk2, by rw [Nat.mul_div_cancel _ hz, h2 hk2]; simp⟩
  have hall : ¬ k < cutN s.size z → s.size ≤ k * z := fun hk2 => by
    have h3 := (not_congr (cutN_lt (n := s.size) (z := z) (k := k) hz)).2 hk2
    omega
  refine ⟨part_off h (Nat.min_le_left _ _) (fun i hi => hlt i (by omega)) (fun hm => ?_), fun e => ?_, fun hk2 => ?_⟩
  · by_cases hk2 : k < cutN s.size z
    · obtain ⟨a, b⟩ := hno hk2
      rw [Nat.min_eq_right (by omega)]
      exact b
    · have := hall hk2
      omega
  · have hge := hall (by omega)
    obtain ⟨a, b⟩ := part_text h hs (fun i hi => hlt i (by omega))
    unfold textV
    rw [b, a, if_pos rfl, mk_bytes]
    rfl
  · obtain ⟨a, b⟩ := hno hk2
    have e := part_missing h hs a hlt b
    unfold textV
    rw [e]
    rfl

/-- All that the closure sees. -/
structure RA (w : World) (base BL BC BR BS BN gl gc r cl : Nat) (F : Nat → Prop) (s : ByteArray) (z N : Nat) (c : Nat → Bool) (X : Rcv) : Prop where
  kl : w.cell? ⟨BL, 0, none⟩ = some (.slice (some ⟨gl, 0, none⟩) N cl)
  kc : w.cell? ⟨BC, 0, none⟩ = some (.slice (some ⟨gc, 0, none⟩) N N)
  kr : w.cell? ⟨BR, 0, none⟩ = some (.pointer (some ⟨r, 0, none⟩))
  ks : w.cell? ⟨BS, 0, none⟩ = some (.string s)
  kn : w.cell? ⟨BN, 0, none⟩ = some (.int .i64 (z : Int))
  pc : PiecesAt w gl s z N
  row : w.heap[gc]? = some (.cells (boolC c N) 4 (0, 0))
  rcv : RcvAt w r F X
  part : PartO s (fun i => c (i / z) = true) X
  apart : ∀ k, F k → base ≤ k ∧ k ≠ BL ∧ k ≠ BC ∧ k ≠ BR ∧ k ≠ BS ∧ k ≠ BN ∧ k ≠ gl ∧ k ≠ gc
  gcs : gc ≠ BL ∧ gc ≠ BC ∧ gc ≠ BR ∧ gc ≠ BS ∧ gc ≠ BN ∧ gc ≠ gl ∧ base ≤ gc
theorem RA.lts {w : World} {base BL BC BR BS BN gl gc r cl : Nat} {F : Nat → Prop} {s : ByteArray} {z N : Nat} {c : Nat → Bool} {X : Rcv} (h : RA w base BL BC BR BS BN gl gc r cl F s z N c X) :
    BL < w.heap.size ∧ BC < w.heap.size ∧ BR < w.heap.size ∧ BS < w.heap.size ∧ BN < w.heap.size ∧ gl < w.heap.size ∧ gc < w.heap.size :=
  ⟨World.block_lt_of_cell? _ _ h.kl, World.block_lt_of_cell? _ _ h.kc, World.block_lt_of_cell? _ _ h.kr, World.block_lt_of_cell? _ _ h.ks, World.block_lt_of_cell? _ _ h.kn, h.pc.1, (Array.getElem?_eq_some_iff.1 h.row).1⟩
theorem RA.below {w w' : World} {base BL BC BR BS BN gl gc r cl : Nat} {F : Nat → Prop} {s : ByteArray} {z N : Nat} {c : Nat → Bool} {X : Rcv} (h : RA w base BL BC BR BS BN gl gc r cl F s z N c X) (hb : Below w.heap.size w w') : RA w' base BL BC BR BS BN gl gc r cl F s z N c X := by
  obtain ⟨l1, l2, l3, l4, l5, l6, l7⟩ := h.lts
  exact ⟨(hb.cell (p := ⟨BL, 0, none⟩) l1).trans h.kl, (hb.cell (p := ⟨BC, 0, none⟩) l2).trans h.kc, (hb.cell (p := ⟨BR, 0, none⟩) l3).trans h.kr, (hb.cell (p := ⟨BS, 0, none⟩) l4).trans h.ks, (hb.cell (p := ⟨BN, 0, none⟩) l5).trans h.kn, h.pc.below hb, (hb.block gc l7).trans h.row, h.rcv.below hb, h.part, h.apart, h.gcs⟩
/-- A piece came. -/
theorem RA.came {w w1 w' : World} {base BL BC BR BS BN gl gc r cl : Nat} {F F' : Nat → Prop} {s : ByteArray} {z N k : Nat} {c : Nat → Bool} {X : Rcv} (h : RA w base BL BC BR BS BN gl gc r cl F s z N c X) (hz : 0 < z) (hk : k * z < s.size) (hkN : k < N) (hw1 : w1 = w.setCell ⟨gc, k, none⟩ (.bool true))
    (hr : RcvAt w' r F' (tookR X s z k)) (hb : But F w1 w') (hF : ∀ k, F' k → F k ∨ w1.heap.size ≤ k) (hbase : base ≤ w.heap.size) : RA w' base BL BC BR BS BN gl gc r cl F' s z N (updB c k) (tookR X s z k) := by
  obtain ⟨l1, l2, l3, l4, l5, l6, l7⟩ := h.lts
  obtain ⟨g1, g2, g3, g4, g5, g6, g7⟩ := h.gcs
  have hB : But (fun j => F j ∨ j = gc) w w' := by
    have h0 : But (fun j => F j ∨ j = gc) w w1 := by rw [hw1]; exact But.setCell (F := fun j => F j ∨ j = gc) (But.refl _ _) (p := ⟨gc, k, none⟩) (.inl (.inr rfl)) _
    exact h0.trans (hb.mono (fun _ h => .inl h))
  have ap := h.apart
  have nn : ∀ j, (j = BL ∨ j = BC ∨ j = BR ∨ j = BS ∨ j = BN ∨ j = gl) → ¬ (F j ∨ j = gc) := fun j hj hx => by
    rcases hx with hx | hx
    · have := ap j hx; omega
    · omega
  have hs1 : w1.heap.size = w.heap.size := by rw [hw1]; simp
  refine ⟨(hB.cell (p := ⟨BL, 0, none⟩) l1 (nn _ (by simp))).trans h.kl, (hB.cell (p := ⟨BC, 0, none⟩) l2 (nn _ (by simp))).trans h.kc, (hB.cell (p := ⟨BR, 0, none⟩) l3 (nn _ (by simp))).trans h.kr, (hB.cell (p := ⟨BS, 0, none⟩) l4 (nn _ (by simp))).trans h.ks, (hB.cell (p := ⟨BN, 0, none⟩) l5 (nn _ (by simp))).trans h.kn, h.pc.but hB (nn _ (by simp)), ?_, hr, .inl (h.part.tookB hz hk), fun j hj => ?_, h.gcs⟩
  · refine (hb.block gc (by rw [hs1]; exact l7) (fun hx => (ap gc hx).2.2.2.2.2.2.2 rfl)).trans ?_
    rw [hw1, heap_setCell_same _ _ _ _ _ _ h.row, boolC_set _ hkN]
  · rcases hF j hj with hx | hx
    · exact ap j hx
    · have := hbase
      omega
end Go.Proofs.YtjnbnkaocoamlabDoor
