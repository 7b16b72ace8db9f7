/-
  A []string that comes in: what the row's own reading and reach say of it.
-/
import Derived.Test.YtepfbjfmfnnfdaaDoorSpanBack
import Derived.SliceStrings
import Derived.SizedLaws
import Derived.Below
import Derived.ProofKit
namespace Go.Proofs.YtepfbjfmfnnfdaaDoor
open Go.ChangeShapes Go.WideShapes Go.ChangeAt Go.RowKit

theorem laidOut : laidOutB Tryd.prog = true := by kernel_rfl

theorem weights_strs {H : Type} {P : Program} {e : TypeId} (ys : List ByteArray) (s : ByteArray) (h : s ∈ ys) : s.size ∈ DataW.weightsAll P e (strs ys : List (DataW H)) := by
  induction ys with
  | nil => cases h
  | cons t r ih =>
    show s.size ∈ DataW.weightsAll P e ((.lit (.string t.data.toList)) :: strs r)
    rw [DataW.weightsAll, DataW.weights]
    rcases List.mem_cons.1 h with rfl | h
    · simp
    · exact List.mem_append_right _ (ih h)

theorem strsArg {H : Type} {enc : TypeId × Value → H} {W : World} {spare : Nat → Bool} {held : Bool} {a0 : Option Addr} {len0 cap0 fuel : Nat} {d : DataW H} {p : List MemPlace}
    (hf : DataW.trod enc Tryd.prog W 0 spare held fuel 57 [.slice a0 len0 cap0] = some (d, p))
    (hw : ∀ x ∈ DataW.weights Tryd.prog 57 d, x ≤ reachBytes) :
    ∃ xs, IsStrs W a0 len0 xs ∧ len0 ≤ cap0 ∧ cap0 ≤ maxLen ∧ ∀ s ∈ xs, s.size ≤ 140737488351232 := by
  rcases open_strings Tryd.underlying57 Tryd.underlying9 (by kernel_rfl) hf with ⟨hcs, _⟩ | ⟨a, l, c, ss, hcs, _, hl, hm, hz, hx, hcell, hws⟩
  · simp at hcs
    obtain ⟨rfl, rfl, rfl⟩ := hcs
    exact ⟨[], ⟨rfl, .inl rfl⟩, Nat.le_refl _, by unfold maxLen; omega, fun s hs => by cases hs⟩
  · simp at hcs
    obtain ⟨rfl, rfl, rfl⟩ := hcs
    have hll : len0 ≤ ss.length := by rw [hz]; split <;> omega
    refine ⟨ss.take len0, ⟨by simp; omega, ?_⟩, hl, hm, ?_⟩
    · rcases Nat.eq_zero_or_pos len0 with h0 | hp
      · exact .inl h0
      · right
        obtain ⟨b, off, spot⟩ := a
        have hc0 := hcell 0 (by omega)
        have hspot : spot = none := by simpa [Addr.add] using World.cell?_spot hc0
        subst hspot
        refine ⟨hp, b, off, rfl, lt_of_cell hc0, fun i hi => ?_⟩
        have hci := hcell i (by omega)
        have e1 : (ss.take len0).getD i ByteArray.empty = ss.getD i ByteArray.empty := by simp [List.getElem?_take_of_lt hi]
        rw [e1, ← hci]
        by_cases hi0 : i = 0 <;> simp [Addr.add, hi0]
    · intro s hs
      have hd : d = .slice (strs (ss.take len0)) (strs (ss.drop len0)) := (Prod.mk.inj hx).1
      have := hw s.size (by
        rw [hd, DataW.weights, Tryd.underlying57]
        exact List.mem_cons_of_mem _ (List.mem_append_left _ (weights_strs _ s hs)))
      unfold reachBytes at this
      omega
end Go.Proofs.YtepfbjfmfnnfdaaDoor
