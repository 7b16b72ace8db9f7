/-
  What a write into a strings.Builder leaves as it was: every block that is neither its own nor a row of bytes.
-/
import Derived.Test.YtiipnifnejnhlaaDoorBld
import Derived.Test.YtiipnifnejnhlaaDoorAtIs
namespace Go.Proofs.YtiipnifnejnhlaaDoor
open Go.RowKit

/-- All blocks that are neither so nor rows of bytes are as they were. -/
def NonB (b : Nat) (w w' : World) : Prop := ∀ k, k < w.heap.size → k ≠ b → (∀ cs fz, w.heap[k]? ≠ some (.cells cs 5 fz)) → w'.heap[k]? = w.heap[k]?
theorem NonB.of {b : Nat} {w w' : World} (h : Below w.heap.size w w') : NonB b w w' := fun k hk _ _ => h.block k hk
theorem NonB.trans {b : Nat} {w w1 w2 : World} (h : NonB b w w1) (k : NonB b w1 w2) (hs : w.heap.size ≤ w1.heap.size) : NonB b w w2 := fun i hi hb hu => by
  have e := h i hi hb hu
  exact (k i (by omega) hb (fun cs fz => by rw [e]; exact hu cs fz)).trans e
/-- A row of another type is kept. -/
theorem NonB.row {b : Nat} {w w' : World} {base size n : Nat} {e : TypeId} {v : Value} {xs : List Value} (h : NonB b w w') (ho : w.ownsRow base e size v n xs) (he : e ≠ 5) (hb : v.ownBlock ≠ some b) : w'.ownsRow base e size v n xs := by
  have hlt := World.ownsRow.lt ho
  refine ⟨ho.1, ?_⟩
  rcases ho.2 with h1 | ⟨g, cap, cur, hv, hbg, hh, r⟩
  · exact .inl h1
  · subst hv
    refine .inr ⟨g, cap, cur, rfl, hbg, ?_, r⟩
    rw [h g (hlt g rfl).2 (fun hc => hb (by rw [hc]; rfl)) (fun cs fz hc => by rw [hh] at hc; injection hc with hc; injection hc with _ ht; exact he ht)]
    exact hh

theorem copy_any2 (B b : Nat) (l : List UInt8) (w : World) (h : isBld w B b l) :
    Calls Tryd.prog 79 #[.pointer (some ⟨b, 0, none⟩)] w fun e w' => e = .returned (.tuple #[]) ∧ Lib.BuilderAt 104 5 B b (.pointer (some ⟨b, 0, none⟩)) (Lib.byteCells l) w' ∧ Below B w w' ∧ NonB b w w' ∧ w'.heap.size = w.heap.size := by
  rcases h with h | h
  · refine (copy_fresh b w h.cell0 h.shape h.frozen0).mono ?_
    rintro e w' ⟨rfl, rfl⟩
    exact ⟨rfl, h.used _, (Below.refl B w).setCell (p := ⟨b, 0, none⟩) h.1 _, fun k _ hk _ => heap_setCell_other _ _ _ _ (fun e => hk e), by simp⟩
  · refine (copy_used b w h.cell0).mono ?_
    rintro e w' ⟨rfl, rfl⟩
    exact ⟨rfl, h, Below.refl B _, fun k _ _ _ => rfl, rfl⟩

set_option maxRecDepth 100000 in
set_option maxHeartbeats 2000000 in
theorem bld_write2 (B b : Nat) (l : List UInt8) (s : ByteArray) (w : World) (h : isBld w B b l) (hlen : l.length + s.size ≤ 140737488355328) (hBw : B ≤ w.heap.size) :
    Calls Tryd.prog 61 #[.pointer (some ⟨b, 0, none⟩), .string s] w fun e w' => e = .returned (.tuple #[.int .i64 s.size, .nilIface]) ∧ isBld w' B b (l ++ s.data.toList) ∧ Below B w w' ∧ NonB b w w' := by
  obtain ⟨i0, hi, hz0, hz1, hz2⟩ := info_parts info_u8
  have hbl : (Lib.byteCells l).length = l.length := by simp [Lib.byteCells]
  go_enter Tryd.func61, Tryd.ntmps61
  go_wp2_with fail
  refine (copy_any2 B b l _ h).mono ?_
  rintro e w1 ⟨rfl, h1, hb1, hn1, hs1⟩
  have HN1 := Lib.hid hn1
  have HS1 := Lib.hid hs1
  obtain ⟨hB, v, hbk, hown, hne⟩ := h1
  have c0 : w1.cell? ⟨b, 0, none⟩ = some (.pointer (some ⟨b, 0, none⟩)) := by rw [Lib.cell_of_heap hbk]; rfl
  have c1 : w1.cell? ⟨b, 1, none⟩ = some v := by rw [Lib.cell_of_heap hbk]; rfl
  clear hn1 hs1
  go_wp2_with (at_builtin; refine Lib.wpList_append_own_string _ rfl _ _ 102 9 rfl B 5 i0 Tryd.underlying102 Tryd.underlying9 hi hz0 hz1 hz2 _ _ _ rfl hown s rfl ?c3 ?c4 ?c5 ?_)
  case c3 => rw [hbl]; unfold maxLen; omega
  case c4 => rw [hbl]; omega
  case c5 => have := hb1.size; omega
  intro v' w2 hown' hgrow _
  have hlt : b < w1.heap.size := by
    rcases Nat.lt_or_ge b w1.heap.size with h' | h'
    · exact h'
    · simp [Array.getElem?_eq_none h'] at hbk
  have hb2 : w2.heap[b]? = some (.cells #[.pointer (some ⟨b, 0, none⟩), v] 104 (0, 0)) := by
    rw [hgrow.block b hlt (fun e => hne e.symm)]
    exact hbk
  have d0 : w2.cell? ⟨b, 0, none⟩ = some (.pointer (some ⟨b, 0, none⟩)) := by rw [Lib.cell_of_heap hb2]; rfl
  have d1 : w2.cell? ⟨b, 1, none⟩ = some v := by rw [Lib.cell_of_heap hb2]; rfl
  have f1 : w2.frozen? ⟨b, 1, none⟩ = false := Lib.frozen_of_heap hb2 1
  obtain ⟨ao, n', cap, rfl⟩ : ∃ ao n' cap, v' = .slice ao n' cap := by
    rcases hown'.2 with ⟨hv, _⟩ | ⟨g, cap, cur, hv, _⟩
    · exact ⟨_, _, _, hv⟩
    · exact ⟨_, _, _, hv⟩
  have HO : Hid (w2.ownsRow B 5 1 (.slice ao n' cap) (Lib.byteCells (l ++ s.data.toList)).length (Lib.byteCells (l ++ s.data.toList))) := by
    have h : w2.ownsRow B 5 1 (.slice ao n' cap) (Lib.byteCells (l ++ s.data.toList)).length (Lib.byteCells (l ++ s.data.toList)) := by
      have e : Lib.byteCells (l ++ s.data.toList) = Lib.byteCells l ++ Lib.strCells s := by simp [Lib.byteCells, Lib.strCells]
      rw [e, List.length_append, Lib.strCells_length, hbl]
      exact hown'
    exact h
  have HNB : Hid (NonB b w1 w2) := Lib.hid (show NonB b w1 w2 from fun k hk hkb hu => hgrow.block k hk (fun e => by
    rcases hown.2 with ⟨hv, _⟩ | ⟨g, cap', cur, hv, _, hh, _⟩
    · rw [hv] at e; cases e
    · rw [hv] at e
      have : k = g := by simpa [Value.ownBlock] using e
      subst this
      exact hu _ _ hh))
  have HSZ : Hid (w1.heap.size ≤ w2.heap.size) := Lib.hid hgrow.size
  clear hown'
  go_wp2
  go_ret2
  refine ⟨rfl, .inr ?_, ?_, ?_⟩
  · exact Lib.BuilderAt.put (T := 104) (e := 5) hB hb2 HO.out (by decide)
  · exact (hb1.grown hgrow (by have := hb1.size; omega) (fun k hk => (hown.lt k hk).1)).setCell (p := ⟨b, 1, none⟩) hB _
  · refine ((HN1.out.trans HNB.out (by rw [HS1.out]; exact Nat.le_refl _)).trans (fun k _ hk _ => heap_setCell_other _ _ _ _ (fun e => hk e)) ?_)
    rw [← HS1.out]; exact HSZ.out
end Go.Proofs.YtiipnifnejnhlaaDoor
