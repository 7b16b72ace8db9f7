/-
  A []string and a []int that come in: what the row's own reading and reach say of them.
-/
import Derived.Test.YtimaddmgooefdaaDoorTexts
import Derived.SliceStrings
import Derived.ChangeSlices
import Derived.SizedLaws
import Derived.Laws.Rows
import Derived.Below
import Derived.ProofKit
namespace Go.Proofs.YtimaddmgooefdaaDoor
open Go.ChangeShapes Go.WideShapes Go.ChangeAt Go.RowKit

theorem laidOutX : laidOutB Tryd.prog = true := by kernel_rfl

theorem weights_texts {H : Type} {P : Program} {e : TypeId} (ys : List ByteArray) (s : ByteArray) (h : s ∈ ys) : s.size ∈ DataW.weightsAll P e (strs ys : List (DataW H)) := by
  induction ys with
  | nil => cases h
  | cons t r ih =>
    show s.size ∈ DataW.weightsAll P e ((.lit (.string t.data.toList)) :: strs r)
    rw [DataW.weightsAll, DataW.weights]
    rcases List.mem_cons.1 h with rfl | h
    · simp
    · exact List.mem_append_right _ (ih h)

theorem textsArg {H : Type} {enc : TypeId × Value → H} {W : World} {spare : Nat → Bool} {held : Bool} {a0 : Option Addr} {len0 cap0 fuel : Nat} {d : DataW H} {p : List MemPlace}
    (hf : DataW.trod enc Tryd.prog W 0 spare held fuel 22 [.slice a0 len0 cap0] = some (d, p))
    (hw : ∀ x ∈ DataW.weights Tryd.prog 22 d, x ≤ reachBytes) :
    ∃ xs, IsTexts W (.slice a0 len0 cap0) xs ∧ xs.length ≤ 140737488351232 ∧ ∀ s ∈ xs, s.size ≤ 140737488351232 := by
  rcases open_strings Tryd.underlying22 Tryd.underlying9 (by kernel_rfl) hf with ⟨hcs, _⟩ | ⟨a, l, c, ss, hcs, _, hl, hm, hz, hx, hcell, hws⟩
  · simp at hcs
    obtain ⟨rfl, rfl, rfl⟩ := hcs
    exact ⟨[], isTexts_nil W, by simp, fun s hs => by cases hs⟩
  · simp at hcs
    obtain ⟨rfl, rfl, rfl⟩ := hcs
    have hll : len0 ≤ ss.length := by rw [hz]; split <;> omega
    have hlen : (ss.take len0).length = len0 := by rw [List.length_take]; omega
    refine ⟨ss.take len0, ⟨some a, cap0, by rw [hlen], by omega, fun k s hk => ?_⟩, ?_, ?_⟩
    · have hkl : k < len0 := by have := (List.getElem?_eq_some_iff.1 hk).1; omega
      rw [List.getElem?_take_of_lt hkl] at hk
      obtain ⟨b, off, spot⟩ := a
      have hci := hcell k (by omega)
      have hc0 := hcell 0 (by omega)
      have hspot : spot = none := by simpa [Addr.add] using World.cell?_spot hc0
      subst hspot
      refine ⟨b, off, rfl, ?_, ?_⟩
      · have := block_lt_of_cell hc0
        simpa [Addr.add] using this
      · have e : ss.getD k ByteArray.empty = s := by simp [hk]
        rw [← e, ← hci]
        by_cases hi0 : k = 0 <;> simp [Addr.add, hi0]
    · have hd : d = .slice (strs (ss.take len0)) (strs (ss.drop len0)) := (Prod.mk.inj hx).1
      have h16 : Tryd.prog.bytesOf 9 = 16 := by kernel_rfl
      have := hw (((strs (ss.take len0) : List (DataW H)).length + (strs (ss.drop len0) : List (DataW H)).length) * 16) (by
        rw [hd, DataW.weights, Tryd.underlying22]
        simp only [h16]
        exact List.mem_cons_self)
      unfold reachBytes at this
      have e : (strs (ss.take len0) : List (DataW H)).length = len0 := by simp [strs]; omega
      omega
    · intro s hs
      have hd : d = .slice (strs (ss.take len0)) (strs (ss.drop len0)) := (Prod.mk.inj hx).1
      have := hw s.size (by
        rw [hd, DataW.weights, Tryd.underlying22]
        exact List.mem_cons_of_mem _ (List.mem_append_left _ (weights_texts _ s hs)))
      unfold reachBytes at this
      omega

theorem numsArg {H : Type} {enc : TypeId × Value → H} {W : World} {spare : Nat → Bool} {held : Bool} {a0 : Option Addr} {len0 cap0 fuel : Nat} {d : DataW H} {p : List MemPlace}
    (hf : DataW.trod enc Tryd.prog W 0 spare held fuel 23 [.slice a0 len0 cap0] = some (d, p))
    (hw : ∀ x ∈ DataW.weights Tryd.prog 23 d, x ≤ reachBytes) :
    ∃ xs, IsNums W (.slice a0 len0 cap0) xs ∧ xs.length ≤ 140737488351232 ∧ ∀ n ∈ xs, -9223372036854775808 ≤ n ∧ n ≤ 9223372036854775807 := by
  rcases open_ints Tryd.underlying23 Tryd.underlying3 (by kernel_rfl) hf with ⟨hcs, _⟩ | ⟨a, l, c, ss, hcs, _, hl, hm, hz, hx, hcell, hws⟩
  · simp at hcs
    obtain ⟨rfl, rfl, rfl⟩ := hcs
    exact ⟨[], isNums_nil W, by simp, fun s hs => by cases hs⟩
  · simp at hcs
    obtain ⟨rfl, rfl, rfl⟩ := hcs
    have hll : len0 ≤ ss.length := by rw [hz]; split <;> omega
    have hlen : (ss.take len0).length = len0 := by rw [List.length_take]; omega
    refine ⟨ss.take len0, ⟨some a, cap0, by rw [hlen], by omega, fun k s hk => ?_⟩, ?_, ?_⟩
    · have hkl : k < len0 := by have := (List.getElem?_eq_some_iff.1 hk).1; omega
      rw [List.getElem?_take_of_lt hkl] at hk
      obtain ⟨b, off, spot⟩ := a
      have hci := hcell k (by omega)
      have hc0 := hcell 0 (by omega)
      have hspot : spot = none := by simpa [Addr.add] using World.cell?_spot hc0
      subst hspot
      refine ⟨b, off, rfl, ?_, ?_⟩
      · have := block_lt_of_cell hc0
        simpa [Addr.add] using this
      · have e : ss.getD k 0 = s := by simp [hk]
        rw [← e, ← hci]
        by_cases hi0 : k = 0 <;> simp [Addr.add, hi0]
    · have hd : d = .slice (lits .i64 (ss.take len0)) (lits .i64 (ss.drop len0)) := (Prod.mk.inj hx).1
      have h8 : Tryd.prog.bytesOf 3 = 8 := by kernel_rfl
      have := hw (((lits .i64 (ss.take len0) : List (DataW H)).length + (lits .i64 (ss.drop len0) : List (DataW H)).length) * 8) (by
        rw [hd, DataW.weights, Tryd.underlying23]
        simp only [h8]
        exact List.mem_cons_self)
      unfold reachBytes at this
      have e : (lits .i64 (ss.take len0) : List (DataW H)).length = len0 := by simp [lits]; omega
      omega
    · intro n hn
      exact bounds_i64 (hws n (List.mem_of_mem_take hn))
end Go.Proofs.YtimaddmgooefdaaDoor
