/-
  slices.Equal of texts, of numbers, whoever made them.
-/
import Derived.Test.YtpmnflnaeknakaaGreatDoorTexts
import Derived.Test.YtpmnflnaeknakaaGreatDoorShelf
namespace Go.Proofs.YtpmnflnaeknakaaGreatDoor
open Go.RowKit

theorem IsTexts.row {w : World} {a : Option Addr} {n cap : Nat} {l : List ByteArray} (h : IsTexts w (.slice a n cap) l) : n = l.length ∧ (l = [] ∨ ∃ b off, a = some ⟨b, off, none⟩ ∧ b < w.heap.size ∧ ∀ j, j < l.length → w.cell? ⟨b, off + j, none⟩ = some (.string (l.getD j ByteArray.empty))) := by
  obtain ⟨a', cap', h1, _, h3⟩ := h
  obtain ⟨rfl, rfl, rfl⟩ := Value.slice.inj h1
  refine ⟨rfl, ?_⟩
  cases l with
  | nil => exact .inl rfl
  | cons s r =>
    right
    obtain ⟨b, off, rfl, hb, _⟩ := h3 0 s rfl
    refine ⟨b, off, rfl, hb, fun j hj => ?_⟩
    obtain ⟨b2, off2, e, _, hc⟩ := h3 j _ (List.getElem?_eq_getElem hj)
    simp only [Option.some.injEq, Addr.mk.injEq, and_true] at e
    obtain ⟨rfl, rfl⟩ := e
    rw [hc]
    simp [List.getElem?_eq_getElem hj]
theorem IsNums.row {w : World} {a : Option Addr} {n cap : Nat} {l : List Int} (h : IsNums w (.slice a n cap) l) : n = l.length ∧ (l = [] ∨ ∃ b off, a = some ⟨b, off, none⟩ ∧ b < w.heap.size ∧ ∀ j, j < l.length → w.cell? ⟨b, off + j, none⟩ = some (.int .i64 (l.getD j 0))) := by
  obtain ⟨a', cap', h1, _, h3⟩ := h
  obtain ⟨rfl, rfl, rfl⟩ := Value.slice.inj h1
  refine ⟨rfl, ?_⟩
  cases l with
  | nil => exact .inl rfl
  | cons s r =>
    right
    obtain ⟨b, off, rfl, hb, _⟩ := h3 0 s rfl
    refine ⟨b, off, rfl, hb, fun j hj => ?_⟩
    obtain ⟨b2, off2, e, _, hc⟩ := h3 j _ (List.getElem?_eq_getElem hj)
    simp only [Option.some.injEq, Addr.mk.injEq, and_true] at e
    obtain ⟨rfl, rfl⟩ := e
    rw [hc]
    simp [List.getElem?_eq_getElem hj]
theorem IsTexts.form {w : World} {v : Value} {l : List ByteArray} (h : IsTexts w v l) : ∃ a cap, v = .slice a l.length cap := by
  obtain ⟨a, cap, h1, _⟩ := h; exact ⟨a, cap, h1⟩
theorem IsNums.form {w : World} {v : Value} {l : List Int} (h : IsNums w v l) : ∃ a cap, v = .slice a l.length cap := by
  obtain ⟨a, cap, h1, _⟩ := h; exact ⟨a, cap, h1⟩

theorem teq_any (v v' : Value) (l l' : List ByteArray) (w : World) (h : IsTexts w v l) (h' : IsTexts w v' l') (hl : l.length ≤ 9223372036854775807) (hl' : l'.length ≤ 9223372036854775807) :
    Calls Tryz.prog 26 #[v, v'] w fun e w' => e = .returned (.bool (decide (l = l'))) ∧ ∃ q, w' = w.drewN q := by
  obtain ⟨a, c, rfl⟩ := h.form
  obtain ⟨a', c', rfl⟩ := h'.form
  rcases h.row.2 with rfl | ⟨b, off, rfl, _, hc⟩
  · refine (Tryz.slices_Equal_string_empty a a' c l'.length c' w hl').mono fun e w' ⟨h1, h2⟩ => ⟨?_, 0, h2⟩
    rw [h1]
    cases l' <;> simp
  · by_cases hn : l.length = l'.length
    · rcases h'.row.2 with rfl | ⟨b', off', rfl, _, hc'⟩
      · have e : l = [] := List.length_eq_zero_iff.1 hn
        subst e
        refine (Tryz.slices_Equal_string_empty (some ⟨b, off, none⟩) a' c 0 c' w (by decide)).mono fun e w' ⟨h1, h2⟩ => ⟨h1.trans (by simp), 0, h2⟩
      · refine (Tryz.slices_Equal_string b off l.length c b' off' l'.length c' l l' w (Nat.le_refl _) (Nat.le_refl _) hl hl' hc hc').mono fun e w' ⟨h1, h2⟩ => ⟨?_, h2⟩
        rw [h1, List.take_length, List.take_length]
    · refine (Tryz.slices_Equal_string_lens (some ⟨b, off, none⟩) a' l.length c l'.length c' w hn).mono fun e w' ⟨h1, h2⟩ => ⟨?_, 0, h2⟩
      rw [h1, decide_eq_false (fun e => hn (by rw [e]))]
/-- Two that are one. -/
theorem teq_same (v v' : Value) (l : List ByteArray) (w : World) (h : IsTexts w v l) (h' : IsTexts w v' l) (hl : l.length ≤ 9223372036854775807) :
    Calls Tryz.prog 26 #[v, v'] w fun e w' => e = .returned (.bool true) ∧ ∃ q, w' = w.drewN q :=
  (teq_any v v' l l w h h' hl hl).mono fun e w' ⟨h1, h2⟩ => ⟨by rw [h1, decide_eq_true rfl], h2⟩
end Go.Proofs.YtpmnflnaeknakaaGreatDoor
