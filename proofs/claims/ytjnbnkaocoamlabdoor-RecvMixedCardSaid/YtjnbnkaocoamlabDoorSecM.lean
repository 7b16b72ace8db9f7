/-
  A disk's sectors as values, and what its map of sectors reads as: plain.
-/
import Derived.Test.YtjnbnkaocoamlabDoorDskM
import Derived.Test.YtjnbnkaocoamlabDoorMapM
import Derived.Maps.RangeWalk
import Derived.Lib.SlKeysI
import Derived.Deep.MidRow
namespace Go.Proofs.YtjnbnkaocoamlabDoor
open Go.Maps

/-- A sector's cells: its bytes, 0 behind. -/
def secL (l : List UInt8) : List Value := (List.range 32).map fun i => Value.int .u8 (((l.getD i 0).toNat : Nat) : Int)
def secA (l : List UInt8) : Array Value := (secL l).toArray
def secV (l : List UInt8) : Value := .agg (secA l)
theorem secL_len (l : List UInt8) : (secL l).length = 32 := by simp [secL]
theorem secA_size (l : List UInt8) : (secA l).size = 32 := by simp [secA, secL_len]
theorem secA_toList (l : List UInt8) : (secA l).toList = secL l := rfl
theorem secL_at (l : List UInt8) (i : Nat) (h : i < 32) : (secL l)[i]? = some (.int .u8 (((l.getD i 0).toNat : Nat) : Int)) := by unfold secL; simp [h]
theorem secA_at (l : List UInt8) (i : Nat) (h : i < 32) : (secA l)[i]? = some (.int .u8 (((l.getD i 0).toNat : Nat) : Int)) := by unfold secA; rw [List.getElem?_toArray]; exact secL_at l i h
theorem secL_ones (l : List UInt8) : ∀ v ∈ secL l, v.oneCell' = true := by
  intro v hv
  unfold secL at hv
  obtain ⟨i, _, rfl⟩ := List.mem_map.1 hv
  rfl
theorem secA_ones (l : List UInt8) : (secA l).all (·.oneCell') = true := all_oneCell_toArray (secL_ones l)
theorem padD_get (l : List UInt8) (i : Nat) : (padD l).getD i 0 = l.getD i 0 := by
  unfold padD
  rw [List.getD_eq_getElem?_getD, List.getD_eq_getElem?_getD]
  by_cases h : i < l.length
  · rw [List.getElem?_append_left h]
  · rw [List.getElem?_append_right (by omega), List.getElem?_eq_none (show l.length ≤ i by omega), List.getElem?_replicate]
    split <;> rfl
theorem secL_pad (l : List UInt8) : secL (padD l) = secL l := by unfold secL; simp only [padD_get]
theorem secA_pad (l : List UInt8) : secA (padD l) = secA l := by unfold secA; rw [secL_pad]
theorem secV_pad (l : List UInt8) : secV (padD l) = secV l := by unfold secV; rw [secA_pad]
theorem secL_inj {a b : List UInt8} (ha : a.length = 32) (hb : b.length = 32) (h : secL a = secL b) : a = b := by
  apply List.ext_getElem (by omega)
  intro i h1 h2
  have e := congrArg (fun l => l[i]?) h
  simp only [secL_at _ i (show i < 32 by omega)] at e
  have e2 : ((a.getD i 0).toNat : Int) = ((b.getD i 0).toNat : Int) := by simpa using e
  rw [List.getD_eq_getElem?_getD, List.getD_eq_getElem?_getD, List.getElem?_eq_getElem h1, List.getElem?_eq_getElem h2] at e2
  simp only [Option.getD_some] at e2
  exact UInt8.toNat_inj.1 (by omega)
/-- A new sector's cells. -/
def lit32 : Array Value := #[.int .u8 0, .int .u8 0, .int .u8 0, .int .u8 0, .int .u8 0, .int .u8 0, .int .u8 0, .int .u8 0, .int .u8 0, .int .u8 0, .int .u8 0, .int .u8 0, .int .u8 0, .int .u8 0, .int .u8 0, .int .u8 0, .int .u8 0, .int .u8 0, .int .u8 0, .int .u8 0, .int .u8 0, .int .u8 0, .int .u8 0, .int .u8 0, .int .u8 0, .int .u8 0, .int .u8 0, .int .u8 0, .int .u8 0, .int .u8 0, .int .u8 0, .int .u8 0]
theorem lit32_eq : lit32 = secA [] := rfl
/-- The next byte. -/
theorem secA_set (s : List UInt8) (k : Nat) (hk : k < s.length) (h32 : s.length ≤ 32) : (secA (s.take k)).setIfInBounds k (.int .u8 ((s[k].toNat : Nat) : Int)) = secA (s.take (k + 1)) := by
  apply Array.ext_getElem?
  intro i
  rw [Array.getElem?_setIfInBounds, secA_size]
  by_cases hi : i < 32
  · have g : ∀ m, (s.take m).getD i 0 = if i < m then s.getD i 0 else 0 := fun m => by
      rw [List.getD_eq_getElem?_getD, List.getD_eq_getElem?_getD, List.getElem?_take]
      split <;> rfl
    by_cases e : k = i
    · subst e
      rw [if_pos rfl, if_pos hi, secA_at _ _ hi, g, if_pos (by omega), List.getD_eq_getElem?_getD, List.getElem?_eq_getElem hk]
      rfl
    · rw [if_neg e, secA_at _ _ hi, secA_at _ _ hi, g, g]
      by_cases h2 : i < k
      · rw [if_pos h2, if_pos (by omega)]
      · rw [if_neg h2, if_neg (by omega)]
  · rw [Array.getElem?_eq_none (by rw [secA_size]; omega), Array.getElem?_eq_none (by rw [secA_size]; omega), if_neg (by omega)]

open Classical in
/-- How a map's sector reads: as itself. -/
noncomputable def secR (v : Value) : Option (DataW Value × List MemPlace) := if ∃ c, v = secV c then some (.held v, []) else none
theorem secR_mk (c : List UInt8) : secR (secV c) = some (.held (secV c), []) := by unfold secR; rw [if_pos ⟨c, rfl⟩]
theorem secR_inv {v : Value} {d : DataW Value} {ps : List MemPlace} (h : secR v = some (d, ps)) : (∃ c, v = secV c) ∧ d = .held v := by
  unfold secR at h
  split at h
  · rename_i hc
    obtain ⟨c, rfl⟩ := hc
    injection h with h
    injection h with h1 h2
    exact ⟨⟨c, rfl⟩, h1.symm⟩
  · cases h

/-- Whether a sector was written since. -/
def dirB (X : Dsk) (z : Int) : Bool := decide (0 ≤ z ∧ z < X.n ∧ X.dir z.toNat = true)
theorem dirB_nat (X : Dsk) (i : Nat) (h : i < X.n) : dirB X i = X.dir i := by
  unfold dirB
  cases e : X.dir i with
  | true => simp [e, h]
  | false => simp [e]
/-- D reads as the sectors that were written since. -/
structure DskD (D : DataW Value) (X : Dsk) : Prop where
  isMap : IsMap D
  has : ∀ z : Int, Maps.has D (.int .i64 z) = dirB X z
  at' : ∀ z : Int, D.atKey (.int .i64 z) (.held (secV [])) = .held (secV (if dirB X z = true then X.cur z.toNat else []))
theorem dskD_nil {X : Dsk} (h : ∀ i, X.dir i = false) : DskD (.map []) X := by
  have e : ∀ z, dirB X z = false := fun z => by unfold dirB; simp [h]
  exact ⟨isMap_empty, fun z => by rw [e]; rfl, fun z => by rw [e]; rfl⟩
theorem DskD.put {D : DataW Value} {X : Dsk} (h : DskD D X) {i : Nat} (hi : i < X.n) (s : List UInt8) : DskD (D.put (.int .i64 i) (.held (secV s))) (dWr X i s) := by
  have hd : ∀ z : Int, z ≠ i → dirB (dWr X i s) z = dirB X z := fun z hz => by
    unfold dirB dWr
    simp only
    by_cases h0 : 0 ≤ z
    · simp [show ¬ z.toNat = i by omega]
    · simp [h0]
  have hs : dirB (dWr X i s) i = true := by unfold dirB dWr; simp [hi]
  refine ⟨h.isMap.put _ _, fun z => ?_, fun z => ?_⟩
  · by_cases e : z = i
    · subst e; rw [has_put_same h.isMap (keyN _), hs]
    · rw [has_put_other (by simp; omega), h.has, hd z e]
  · by_cases e : z = i
    · subst e
      rw [atKey_put_same h.isMap (keyN _), hs, if_pos rfl]
      show _ = DataW.held (secV (if ((i : Int).toNat) = i then padD s else X.cur _))
      rw [if_pos (Int.toNat_natCast i), secV_pad]
    · rw [atKey_put_other (by simp; omega), h.at', hd z e]
      by_cases h1 : dirB X z = true
      · rw [if_pos h1, if_pos h1]
        have h0 : 0 ≤ z := (of_decide_eq_true h1).1
        show _ = DataW.held (secV (if z.toNat = i then padD s else X.cur z.toNat))
        rw [if_neg (by omega)]
      · rw [if_neg h1, if_neg h1]
theorem dirtyL_nodup (X : Dsk) : (dirtyL X).Nodup := List.Pairwise.filter _ List.nodup_range
theorem dirtyL_len (X : Dsk) : (dirtyL X).length ≤ X.n := by
  unfold dirtyL
  have := List.length_filter_le X.dir (List.range X.n)
  rw [List.length_range] at this
  exact this
/-- The sectors that were written, as Go's ints. -/
def dirtyI (X : Dsk) : List Int := (dirtyL X).map fun i => ((i : Nat) : Int)
theorem dirtyI_mem (X : Dsk) (z : Int) : z ∈ dirtyI X ↔ dirB X z = true := by
  unfold dirtyI dirB
  rw [List.mem_map, decide_eq_true_eq]
  constructor
  · rintro ⟨i, hi, rfl⟩
    obtain ⟨h1, h2⟩ := dirtyL_mem.1 hi
    exact ⟨by omega, by omega, by simpa using h2⟩
  · rintro ⟨h0, h1, h2⟩
    exact ⟨z.toNat, dirtyL_mem.2 ⟨by omega, h2⟩, by omega⟩
theorem dirtyI_nodup (X : Dsk) : (dirtyI X).Nodup := List.pairwise_map.2 ((dirtyL_nodup X).imp (fun {_ _} h e => h (by omega)))
theorem dirtyI_sorted (X : Dsk) : (dirtyI X).Pairwise (fun x y => decide (x ≤ y) = true) := by
  unfold dirtyI
  refine List.pairwise_map.2 ?_
  unfold dirtyL
  refine List.Pairwise.filter _ ?_
  refine List.pairwise_lt_range.imp ?_
  intro a b h
  simp; omega
theorem dskD_perm {P : Program} {k : TypeId} {D : DataW Value} {X : Dsk} {w : World} {b n : Nat} (h : DskD D X) (hown : w.ownsMap P k secR b n D) (K : Keyed P k) (hk : P.underlying k = some (.int .i64)) : (dirtyI X).Perm (intKeys D) :=
  CollectedI.perm (left := fun _ => false) ⟨dirtyI_nodup X, fun x => by rw [dirtyI_mem, h.has]; simp⟩ hown K hk (fun _ => rfl)
theorem intKeys_len {D : DataW Value} (h : IsMap D) : (intKeys D).length = Maps.size D := by
  obtain ⟨es, rfl⟩ := h
  simp [intKeys, Maps.size]
theorem dskD_size {P : Program} {k : TypeId} {D : DataW Value} {X : Dsk} {w : World} {b n : Nat} (h : DskD D X) (hown : w.ownsMap P k secR b n D) (K : Keyed P k) (hk : P.underlying k = some (.int .i64)) : Maps.size D = (dirtyL X).length := by
  rw [← intKeys_len h.isMap, ← (dskD_perm h hown K hk).length_eq]
  unfold dirtyI
  exact List.length_map _
theorem ownsMap_tight {P : Program} {k : TypeId} {R : Value → Option (DataW Value × List MemPlace)} {D : DataW Value} {w : World} {b n m : Nat} (hown : w.ownsMap P k R b n D) (hm : Maps.size D ≤ m) : w.ownsMap P k R b m D := by
  obtain ⟨es, clock, hb, F, hs, rfl⟩ := hown
  have e1 : Maps.size (DataW.map ((es.toList.map (Go.WideElems.rg P k R)).foldr DataW.insert [])) = es.size := length_read (P := P) (k := k) (R0 := R) es
  exact ⟨es, clock, hb, F, by rw [← e1]; exact hm, rfl⟩
theorem sorted_dirty {X : Dsk} {D : DataW Value} {ss : List Int} (h1 : ss.Perm (intKeys D)) (h2 : (dirtyI X).Perm (intKeys D)) : ss.mergeSort (fun x y => decide (x ≤ y)) = dirtyI X := by
  have hp : (ss.mergeSort (fun x y => decide (x ≤ y))).Perm (dirtyI X) := (List.mergeSort_perm _ _).trans (h1.trans h2.symm)
  refine hp.eq_of_pairwise ?_ (List.pairwise_mergeSort (fun a b c h1 h2 => by simp at *; omega) (fun a b => by simp; omega) _) (dirtyI_sorted X)
  intro a b _ _ h1 h2
  simp at h1 h2
  omega
end Go.Proofs.YtjnbnkaocoamlabDoor
