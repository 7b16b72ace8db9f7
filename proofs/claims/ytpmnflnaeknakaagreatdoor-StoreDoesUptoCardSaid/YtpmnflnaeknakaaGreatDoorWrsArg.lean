/-
  A []api.Write that comes in: what the row's own reading and reach say of it. (Cut out of XBatArg.)
-/
import Derived.Test.YtpmnflnaeknakaaGreatDoorWrs
namespace Go.Proofs.YtpmnflnaeknakaaGreatDoor
open Go.ChangeShapes Go.WideShapes Go.ChangeAt Go.RowKit

theorem wr_weight {H : Type} (ds : List (DataW H)) (t : Wr) (h : wrD t ∈ ds) : t.key.size ∈ DataW.weightsAll Tryz.prog 32 ds ∧ t.value.size ∈ DataW.weightsAll Tryz.prog 32 ds := by
  induction ds with
  | nil => cases h
  | cons d r ih =>
    rw [DataW.weightsAll]
    rcases List.mem_cons.1 h with h | h
    · have g : t.key.size ∈ DataW.weights Tryz.prog 32 (wrD t : DataW H) ∧ t.value.size ∈ DataW.weights Tryz.prog 32 (wrD t : DataW H) := by
        constructor
        · unfold wrD
          rw [DataW.weights, Tryz.underlying32]
          simp [DataW.weightsEach, DataW.weights, Tryz.underlying30]
        · unfold wrD
          rw [DataW.weights, Tryz.underlying32]
          simp [DataW.weightsEach, DataW.weights, Tryz.underlying30]
      rw [← h]
      exact ⟨List.mem_append_left _ g.1, List.mem_append_left _ g.2⟩
    · exact ⟨List.mem_append_right _ (ih h).1, List.mem_append_right _ (ih h).2⟩

theorem wrsArg {H : Type} {enc : TypeId × Value → H} {W : World} {spare : Nat → Bool} {held : Bool} {a0 : Option Addr} {len0 cap0 fuel : Nat} {d : DataW H} {p : List MemPlace}
    (hf : DataW.trod enc Tryz.prog W 0 spare held fuel 22 [.slice a0 len0 cap0] = some (d, p))
    (hw : ∀ x ∈ DataW.weights Tryz.prog 22 d, x ≤ reachBytes) :
    ∃ l : List Wr, IsWrs W (.slice a0 len0 cap0) l ∧ l.length = len0 ∧ len0 ≤ cap0 ∧ cap0 ≤ maxLen ∧ ∀ t ∈ l, WrOk t := by
  rcases Go.Deep.open_slice Tryz.underlying22 hf with ⟨hcs, _⟩ | ⟨a, ln, cp, m, n, D, Pl, hcs, _, hl, hm, hmm, hx, hi⟩
  · simp only [List.cons.injEq, Value.slice.injEq, and_true] at hcs
    obtain ⟨rfl, rfl, rfl⟩ := hcs
    exact ⟨[], .inl ⟨_, _, rfl, rfl⟩, rfl, Nat.le_refl _, by unfold maxLen; omega, fun t h => by cases h⟩
  · simp only [List.cons.injEq, Value.slice.injEq, and_true] at hcs
    obtain ⟨rfl, rfl, rfl⟩ := hcs
    have h3 : Tryz.prog.cellsOf 32 = 6 := by kernel_rfl
    rw [h3] at hi
    have hle : len0 ≤ m := by rw [hmm]; split <;> omega
    obtain ⟨f, hfc⟩ := Go.Deep.choose_lt (n := len0) (p := fun i (t : Wr) => W.cells? 0 (a.add (i * 6)) 6 = some (wrC t) ∧ D i = wrD t ∧ -9223372036854775808 ≤ t.n ∧ t.n ≤ 9223372036854775807) (fun i hlt => by
      obtain ⟨cs', hc, ht⟩ := hi i (by omega)
      obtain ⟨t, h1, h2, h4⟩ := wr_elem ht
      exact ⟨t, by rw [hc, h1], h2, h4⟩)
    have hll : ((List.range len0).map f).length = len0 := by simp
    refine ⟨(List.range len0).map f, ?_, hll, hl, hm, fun t ht => ?_⟩
    · by_cases hz : len0 = 0
      · subst hz; exact .inl ⟨_, _, rfl, rfl⟩
      · obtain ⟨b, off, spot⟩ := a
        have hcell : ∀ i, i < len0 → ∀ r, r < 6 → W.cell? ((⟨b, off, spot⟩ : Addr).add (i * 6 + r)) = (wrC (f i))[r]? := fun i hlt r hr => by
          obtain ⟨_, _, hat⟩ := World.cells?_some (hfc i hlt).1
          rw [← Go.Deep.add_add]; exact hat r hr
        have h0 := hcell 0 (by omega) 0 (by omega)
        have hspot : spot = none := by simpa [Addr.add] using World.cell?_spot (h0.trans rfl)
        subst hspot
        refine .inr ⟨b, off, cap0, by rw [hll], by rw [hll]; omega, block_lt_of_cell (h0.trans rfl), fun j u hj => ?_⟩
        have hjl : j < len0 * 6 := by rw [← hll, ← wrsC_len]; exact (List.getElem?_eq_some_iff.1 hj).1
        have hc := hcell (j / 6) (by omega) (j % 6) (Nat.mod_lt _ (by decide))
        have hti : ((List.range len0).map f)[j / 6]? = some (f (j / 6)) := by
          rw [List.getElem?_map, List.getElem?_range (by omega)]; rfl
        have h5 := wrsC_at _ _ (j % 6) _ hti (Nat.mod_lt _ (by decide))
        rw [show j / 6 * 6 + j % 6 = j by omega] at hc h5
        rw [← h5, hj] at hc
        rw [← hc]
        refine congrArg W.cell? ?_
        unfold Addr.add
        split
        · rename_i e; rw [e]; rfl
        · rfl
    · obtain ⟨i, hir, hit⟩ := List.mem_map.1 ht
      have hil := List.mem_range.1 hir
      have hd : d = .slice ((List.range len0).map D) ((List.range (m - len0)).map fun j => D (len0 + j)) := (Prod.mk.inj hx).1
      have hmem : wrD t ∈ (List.range len0).map D := List.mem_map.2 ⟨i, hir, by rw [(hfc i hil).2.1, hit]⟩
      have hwt := wr_weight _ t hmem
      have hin : ∀ y ∈ DataW.weightsAll Tryz.prog 32 ((List.range len0).map D), y ≤ reachBytes := fun y hy => hw y (by
        rw [hd, DataW.weights, Tryz.underlying22]
        exact List.mem_cons_of_mem _ (List.mem_append_left _ hy))
      have g1 := hin _ hwt.1
      have g2 := hin _ hwt.2
      unfold reachBytes at g1 g2
      have hn := (hfc i hil).2.2
      rw [hit] at hn
      exact ⟨hn.1, hn.2, by omega, by omega⟩
end Go.Proofs.YtpmnflnaeknakaaGreatDoor
