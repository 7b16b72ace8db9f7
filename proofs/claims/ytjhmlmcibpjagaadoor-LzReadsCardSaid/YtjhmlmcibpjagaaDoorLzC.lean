/-
  Chapter 5, plain: tokens that are right are few, and not many bytes.
-/
import Derived.Test.YtjhmlmcibpjagaaDoorLzJ
namespace Go.Proofs.YtjhmlmcibpjagaaDoor

theorem fine_cost {t : Tok} (h : fine t) (hs : t.own.size ≤ 140737488351232) : (putT t).length ≤ lenT t + 10 ∧ 1 ≤ lenT t := by
  by_cases h0 : t.own.size = 0
  · obtain ⟨_, h1, h2⟩ := rep_cost h h0
    omega
  · rw [putT_own h0, List.length_append, ← size_data]
    have := putL_le10 (n := 2 * t.own.size) (by omega)
    unfold lenT; omega
theorem cost_le {l : List Tok} (h : ∀ t ∈ l, fine t ∧ t.own.size ≤ 140737488351232) : cost l ≤ sumT l + 10 * l.length ∧ l.length ≤ sumT l := by
  induction l with
  | nil => exact ⟨Nat.zero_le _, Nat.le_refl _⟩
  | cons t r ih =>
    obtain ⟨i1, i2⟩ := ih (fun u hu => h u (List.mem_cons_of_mem _ hu))
    obtain ⟨h1, h2⟩ := h t (List.mem_cons_self ..)
    obtain ⟨c1, c2⟩ := fine_cost h1 h2
    rw [cost_cons, sumT, List.length_cons]
    omega
/-- What tokens that are right come to. -/
theorem right_few {l : List Tok} (h : (rightF l 0 0).1 = 0) : l.length ≤ 20000 ∧ cost l ≤ 220000 ∧ sumT l ≤ 20000 := by
  have h1 := textL_len (b := []) h rfl (by omega)
  rw [textL_sum, List.length_nil] at h1
  obtain ⟨h2, h3⟩ := cost_le (right_fine h)
  omega
theorem sumT_app (a b : List Tok) : sumT (a ++ b) = sumT a + sumT b := by
  induction a with
  | nil => rw [List.nil_append]; exact (Nat.zero_add _).symm
  | cons u r ih => rw [List.cons_append, sumT, sumT, ih]; omega
theorem right_own {l : List Tok} (h : (rightF l 0 0).1 = 0) : ∀ t ∈ l, t.own.size ≤ 20000 := fun t ht => by
  obtain ⟨i, hi, e⟩ := List.mem_iff_getElem.1 ht
  have h2 := right_few (rightF_take h (i + 1))
  rw [List.take_succ_eq_append_getElem hi, e, sumT_app] at h2
  have h3 : sumT [t] = lenT t := rfl
  have : t.own.size ≤ lenT t := by unfold lenT; omega
  omega
theorem cost_take {l : List Tok} (k : Nat) : cost (l.take k) ≤ cost l := by
  have h := cost_app (l.take k) (l.drop k)
  rw [List.take_append_drop] at h
  omega
theorem writeL_snoc (l : List Tok) (k : Nat) (t : Tok) (h : l[k]? = some t) : writeL (l.take (k + 1)) = writeL (l.take k) ++ putT t := by
  obtain ⟨hk, e⟩ := List.getElem?_eq_some_iff.1 h
  rw [List.take_succ_eq_append_getElem hk, writeL_app, e, writeL_cons, writeL_nil, List.append_nil]
end Go.Proofs.YtjhmlmcibpjagaaDoor
