/-
  A []string, a []int that are read, whoever made them: their texts, their numbers.
-/
import Derived.Test.YtpmnflnaeknakaaGreatDoorStrs
import Derived.Test.YtpmnflnaeknakaaGreatDoorInts
import Derived.Below
import Derived.BigQuiet
namespace Go.Proofs.YtpmnflnaeknakaaGreatDoor
open Go.RowKit

def IsTexts (w : World) (v : Value) (l : List ByteArray) : Prop :=
  ∃ a cap, v = .slice a l.length cap ∧ l.length ≤ cap ∧ ∀ k s, l[k]? = some s → ∃ b off, a = some ⟨b, off, none⟩ ∧ b < w.heap.size ∧ w.cell? ⟨b, off + k, none⟩ = some (.string s)
def IsNums (w : World) (v : Value) (l : List Int) : Prop :=
  ∃ a cap, v = .slice a l.length cap ∧ l.length ≤ cap ∧ ∀ k n, l[k]? = some n → ∃ b off, a = some ⟨b, off, none⟩ ∧ b < w.heap.size ∧ w.cell? ⟨b, off + k, none⟩ = some (.int .i64 n)

theorem IsTexts.below {w w' : World} {v : Value} {l : List ByteArray} (h : IsTexts w v l) (hb : Below w.heap.size w w') : IsTexts w' v l := by
  obtain ⟨a, cap, h1, h2, h3⟩ := h
  exact ⟨a, cap, h1, h2, fun k s hk => by obtain ⟨b, off, e, hlt, hc⟩ := h3 k s hk; exact ⟨b, off, e, Nat.lt_of_lt_of_le hlt hb.size, (hb.cell hlt).trans hc⟩⟩
theorem IsNums.below {w w' : World} {v : Value} {l : List Int} (h : IsNums w v l) (hb : Below w.heap.size w w') : IsNums w' v l := by
  obtain ⟨a, cap, h1, h2, h3⟩ := h
  exact ⟨a, cap, h1, h2, fun k s hk => by obtain ⟨b, off, e, hlt, hc⟩ := h3 k s hk; exact ⟨b, off, e, Nat.lt_of_lt_of_le hlt hb.size, (hb.cell hlt).trans hc⟩⟩
theorem IsTexts.alloc {w : World} {v : Value} {l : List ByteArray} (h : IsTexts w v l) (o : Obj) : IsTexts (w.alloc o) v l := h.below ((Below.refl _ _).alloc (Nat.le_refl _) _)
theorem IsNums.alloc {w : World} {v : Value} {l : List Int} (h : IsNums w v l) (o : Obj) : IsNums (w.alloc o) v l := h.below ((Below.refl _ _).alloc (Nat.le_refl _) _)
theorem IsTexts.drewN {w : World} {v : Value} {l : List ByteArray} (h : IsTexts w v l) (n : Nat) : IsTexts (w.drewN n) v l := h.below ⟨rfl, rfl, rfl, Nat.le_refl _, fun _ _ => rfl⟩
theorem IsNums.drewN {w : World} {v : Value} {l : List Int} (h : IsNums w v l) (n : Nat) : IsNums (w.drewN n) v l := h.below ⟨rfl, rfl, rfl, Nat.le_refl _, fun _ _ => rfl⟩
theorem IsTexts.drew {w : World} {v : Value} {l : List ByteArray} (h : IsTexts w v l) : IsTexts w.drew v l := h.below ((Below.refl _ _).drew)
theorem IsNums.drew {w : World} {v : Value} {l : List Int} (h : IsNums w v l) : IsNums w.drew v l := h.below ((Below.refl _ _).drew)
theorem isTexts_nil (w : World) : IsTexts w (.slice none 0 0) [] := ⟨none, 0, rfl, Nat.le_refl _, fun k s h => by simp at h⟩
theorem isNums_nil (w : World) : IsNums w (.slice none 0 0) [] := ⟨none, 0, rfl, Nat.le_refl _, fun k s h => by simp at h⟩
theorem IsTexts.take {w : World} {a : Option Addr} {cap : Nat} {l : List ByteArray} (h : IsTexts w (.slice a l.length cap) l) (i c : Nat) (hi : i ≤ l.length) (hc : i ≤ c) : IsTexts w (.slice a i c) (l.take i) := by
  obtain ⟨a', cap', h1, h2, h3⟩ := h
  obtain ⟨rfl, _, rfl⟩ := Value.slice.inj h1
  refine ⟨a, c, by rw [List.length_take, Nat.min_eq_left hi], by rw [List.length_take]; omega, fun k s hk => ?_⟩
  have hki : k < i := by have := (List.getElem?_eq_some_iff.1 hk).1; rw [List.length_take] at this; omega
  rw [List.getElem?_take_of_lt hki] at hk
  exact h3 k s hk
theorem ownsS.isTexts {w : World} {base : Nat} {v : Value} {l : List ByteArray} (h : ownsS w base v l) : IsTexts w v l := by
  rcases h.forms with ⟨rfl, rfl⟩ | ⟨g, cap, rfl, hb, hg, hc⟩
  · exact isTexts_nil w
  · have hcap : l.length ≤ cap := by
      rcases h.2 with ⟨e, _⟩ | ⟨_, _, _, e, _, _, hcl, _⟩
      · simp at e
      · obtain ⟨_, _, rfl⟩ := Value.slice.inj e; omega
    refine ⟨_, cap, rfl, hcap, fun k s hk => ⟨g, 0, rfl, hg, ?_⟩⟩
    obtain ⟨hkl, e⟩ := List.getElem?_eq_some_iff.1 hk
    have := hc k hkl
    rw [Nat.zero_add, this]
    simp [List.getD_eq_getElem?_getD, hk]
theorem ownsN.isNums {w : World} {base : Nat} {v : Value} {l : List Nat} (h : ownsN w base v l) : IsNums w v (l.map Int.ofNat) := by
  rcases h.forms with ⟨rfl, rfl⟩ | ⟨g, cap, rfl, hb, hg, hc⟩
  · exact isNums_nil w
  · have hcap : l.length ≤ cap := by
      rcases h.2 with ⟨e, _⟩ | ⟨_, _, _, e, _, _, hcl, _⟩
      · simp at e
      · obtain ⟨_, _, rfl⟩ := Value.slice.inj e; omega
    refine ⟨some ⟨g, 0, none⟩, cap, by rw [List.length_map], by rw [List.length_map]; exact hcap, fun k s hk => ⟨g, 0, rfl, hg, ?_⟩⟩
    rw [List.getElem?_map] at hk
    obtain ⟨n, hn, rfl⟩ := Option.map_eq_some_iff.1 hk
    have hkl := (List.getElem?_eq_some_iff.1 hn).1
    have := hc k hkl
    rw [Nat.zero_add, this]
    simp [List.getD_eq_getElem?_getD, hn]
/-- Two rows of different kinds never share a block. -/
theorem rows_apart {w : World} {base base' : Nat} {e1 e2 : TypeId} {k1 k2 n1 n2 : Nat} {v1 v2 : Value} {x1 x2 : List Value} (h1 : w.ownsRow base e1 k1 v1 n1 x1) (h2 : w.ownsRow base' e2 k2 v2 n2 x2) (hne : e1 ≠ e2) :
    v1.ownBlock = none ∨ v1.ownBlock ≠ v2.ownBlock := by
  rcases h1.2 with ⟨rfl, _⟩ | ⟨g, cap, cur, rfl, _, hh, _⟩
  · exact .inl rfl
  · refine .inr ?_
    rcases h2.2 with ⟨rfl, _⟩ | ⟨g', cap', cur', rfl, _, hh', _⟩
    · simp [Value.ownBlock]
    · intro e
      have : g = g' := by simpa [Value.ownBlock] using e
      subst this
      rw [hh] at hh'
      injection hh' with hh'
      injection hh' with _ ht
      exact hne ht
theorem ownsS.off {w : World} {base b : Nat} {v : Value} {l : List ByteArray} (h : ownsS w base v l) (hb : b < base) : v.ownBlock ≠ some b := fun e => by have := (h.lt b e).1; omega
theorem ownsN.off {w : World} {base b : Nat} {v : Value} {l : List Nat} (h : ownsN w base v l) (hb : b < base) : v.ownBlock ≠ some b := fun e => by have := (h.lt b e).1; omega
theorem ownsS.mono {w : World} {base b : Nat} {v : Value} {l : List ByteArray} (h : ownsS w base v l) (hb : b ≤ base) : ownsS w b v l := by
  refine ⟨h.1, ?_⟩
  rcases h.2 with h1 | ⟨g, cap, cur, e, h2, h3⟩
  · exact .inl h1
  · exact .inr ⟨g, cap, cur, e, Nat.le_trans hb h2, h3⟩
theorem ownsN.mono {w : World} {base b : Nat} {v : Value} {l : List Nat} (h : ownsN w base v l) (hb : b ≤ base) : ownsN w b v l := by
  refine ⟨h.1, ?_⟩
  rcases h.2 with h1 | ⟨g, cap, cur, e, h2, h3⟩
  · exact .inl h1
  · exact .inr ⟨g, cap, cur, e, Nat.le_trans hb h2, h3⟩
end Go.Proofs.YtpmnflnaeknakaaGreatDoor
