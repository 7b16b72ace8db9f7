/-
  A region that draws its order, by a law over the set of the operations that have come up.
-/
import Derived.RegionTactic
import Derived.OrdersHeld
namespace Go.Proofs.YtimaddmgooefdaaDoor
open Go

theorem count_down {L : Array Bool} {i : Nat} (h : L.getD i true = false) : (L.setIfInBounds i true).toList.count false + 1 ≤ L.toList.count false ∧ i < L.size := by
  have hi : i < L.size := by
    rcases Nat.lt_or_ge i L.size with h' | h'
    · exact h'
    · simp [Array.getElem?_eq_none h'] at h
  have hv : L.toList[i]'(by simpa using hi) = false := by
    simp [hi] at h
    simpa using h
  refine ⟨?_, hi⟩
  rw [Array.toList_setIfInBounds, List.count_set (by simpa using hi), hv]
  have hpos : 0 < L.toList.count false := List.count_pos_iff.2 (by rw [← hv]; exact List.getElem_mem _)
  simp only [beq_self_eq_true, if_true]
  have : (true == false) = false := rfl
  rw [this]
  simp only [Bool.false_eq_true, if_false]
  omega

section
variable {P : Program} {ops : Array Oper} {Q : Exit → Act → World → Prop} {md : Region.Mode}

theorem ready_none {L : Array Bool} (hs : L.size = ops.size) (hb : ∀ (i : Nat) (o : Oper), ops[i]? = some o → ∀ e ∈ o.after, e.on < i) (h : Region.ready md ops L = []) : ∀ i, i < ops.size → L.getD i false = true := by
  intro i
  induction i using Nat.strongRecOn with
  | _ i ih =>
    intro hi
    cases hc : L.getD i false with
    | true => rfl
    | false =>
      have hm : i ∈ Region.ready md ops L := mem_ready.2 ⟨by
        have hL : i < L.size := by omega
        simp [hL] at hc ⊢; exact hc, ops[i], by simp [hi], fun e he _ => by
        have := hb i ops[i] (by simp [hi]) e he
        exact ih e.on this (by omega)⟩
      rw [h] at hm
      cases hm

theorem wpAny_law (J : Array Bool → Act → World → Prop) (hb : ∀ (i : Nat) (o : Oper), ops[i]? = some o → ∀ e ∈ o.after, e.on < i)
    (hstep : ∀ (i : Nat) (o : Oper), ops[i]? = some o → ∀ (L : Array Bool) (a : Act) (W : World), L.size = ops.size → (∀ e ∈ o.after, Region.binds md e = true → L.getD e.on false = true) → L.getD i true = false → J L a W → wpOp P ops Q i (J (L.setIfInBounds i true)) a W)
    (hend : ∀ (L : Array Bool) (a : Act) (W : World), (∀ i, i < ops.size → L.getD i false = true) → J L a W → Q .normal a W) :
    ∀ (fuel : Nat) (L : Array Bool) (a : Act) (W : World), L.size = ops.size → L.toList.count false ≤ fuel → J L a W → wpAny P md ops Q fuel L a W := by
  intro fuel
  induction fuel with
  | zero =>
    intro L a W hs hc hJ
    have hall : ∀ i, i < ops.size → L.getD i false = true := fun i hi => by
      have hL : i < L.size := by omega
      have h0 : L.toList.count false = 0 := by omega
      have hn := List.count_eq_zero.1 h0
      have : L[i] = true := by
        cases hv : L[i] with
        | true => rfl
        | false => exact absurd (by rw [← hv]; simp) hn
      simp [hL, this]
    refine ⟨?_, hend L a W hall hJ⟩
    cases hr : Region.ready md ops L with
    | nil => rfl
    | cons j r =>
      have hj : j ∈ Region.ready md ops L := by rw [hr]; simp
      obtain ⟨h1, _⟩ := mem_ready.1 hj
      obtain ⟨h2, h3⟩ := count_down h1
      omega
  | succ fuel ih =>
    intro L a W hs hc hJ
    refine ⟨fun hr => hend L a W (ready_none hs hb hr) hJ, fun i hi => ?_⟩
    obtain ⟨hun, o, hoi, hall⟩ := mem_ready.1 hi
    obtain ⟨h2, h3⟩ := count_down hun
    exact wpOp_mono (fun a' W' hJ' => ih _ a' W' (by simpa using hs) (by omega) hJ') (hstep i o hoi L a W hs hall hun hJ)

def backB (ops : Array Oper) : Bool := (List.range ops.size).all fun i => match ops[i]? with | some o => o.after.all (fun e => decide (e.on < i)) | none => true
theorem of_backB (h : backB ops = true) : ∀ (i : Nat) (o : Oper), ops[i]? = some o → ∀ e ∈ o.after, e.on < i := by
  intro i o hi e he
  have hlt : i < ops.size := (Array.getElem?_eq_some_iff.1 hi).1
  have h1 := List.all_eq_true.1 h i (by simpa using hlt)
  rw [hi] at h1
  have h2 := Array.all_eq_true'.1 h1 e he
  simpa using h2
theorem none_yet (n j : Nat) : (Array.replicate n false).getD j false = false := by
  by_cases h : j < n <;> simp [h]

theorem getD_put {L : Array Bool} {i j : Nat} (h : (L.setIfInBounds i true).getD j false = true) : j = i ∨ L.getD j false = true := by
  by_cases hij : i = j
  · exact .inl hij.symm
  · right
    simpa [Array.getElem?_setIfInBounds, hij] using h
theorem getD_keep {L : Array Bool} {i j : Nat} (h : L.getD j false = true) : (L.setIfInBounds i true).getD j false = true := by
  by_cases hij : i = j
  · subst hij
    have : i < L.size := by
      rcases Nat.lt_or_ge i L.size with h' | h'
      · exact h'
      · simp [Array.getElem?_eq_none h'] at h
    simp [this]
  · simpa [Array.getElem?_setIfInBounds, hij] using h
end
end Go.Proofs.YtimaddmgooefdaaDoor
