/-
  One round of StoreLists' first loop, in memory: a write is put behind the others, its value behind its key's.
-/
import Derived.Test.YtpmnflnaeknakaaDoorLstM
import Derived.Test.YtpmnflnaeknakaaDoorWrAt
namespace Go.Proofs.YtpmnflnaeknakaaDoor
open Go.RowKit

theorem lst_via {a b c : World} {M : Nat} {o : Option Nat} (h : a.grownBy b (some M)) (k : b.grownBy c o) (ho : ∀ g, o = some g → g = M ∨ a.heap.size ≤ g) : a.grownBy c (some M) :=
  ⟨k.os.trans h.os, k.tape.trans h.tape, k.output.trans h.output, Nat.le_trans h.size k.size, fun i hi hne => (k.block i (Nat.lt_of_lt_of_le hi h.size) (fun e => by
    rcases ho i e.symm with rfl | h2
    · exact hne rfl
    · omega)).trans (h.block i hi hne)⟩
theorem lst_ne {w : World} {base M : Nat} {v : Value} {l : List Wr} (h : ownsW w base v l) (hM : M < base) : v.ownBlock = none ∨ v.ownBlock ≠ some M := by
  cases e : v.ownBlock with
  | none => exact .inl rfl
  | some g => exact .inr (fun e2 => by have := (h.lt g e).1; have e3 : g = M := Option.some.inj e2; omega)
theorem lst_step {w3 wo w5 W5 w6 w7 : World} {M j : Nat} {D : DataW Value} {L : ByteArray → Value} {l : List Wr} {u : Value} {x : Wr} {o1 o2 o3 : Obj} {g m1 cap g2 m2 cap2 : Nat}
    (hM : M < w3.heap.size) (ho : ownsW wo w3.heap.size u l) (hs : LstW wo M j w3.heap.size D L (valsK l) (tabK [] (l.map (·.key)))) (hap : ∀ q g, (L q).ownBlock = some g → u.ownBlock ≠ some g) (hg : w3.grownBy wo (some M))
    (ho5 : ownsW w5 w3.heap.size (.slice (some ⟨g, 0, none⟩) m1 cap) (l ++ [x])) (hg5 : ((wo.alloc o1).alloc o2).grownBy w5 u.ownBlock) (hat5 : u.ownBlock = some g ∨ g = ((wo.alloc o1).alloc o2).heap.size)
    (hs5 : LstW W5 M j w3.heap.size D L (valsK l) (tabK [] (l.map (·.key)))) (hW5 : W5 = (w5.alloc o3).drew)
    (ho6 : ownsS w6 w3.heap.size (.slice (some ⟨g2, 0, none⟩) m2 cap2) (valsK l x.key ++ [x.value])) (hg6 : W5.grownBy w6 (L x.key).ownBlock) (hat6 : (L x.key).ownBlock = some g2 ∨ g2 = W5.heap.size)
    (hm7 : w7.ownsMap Tryd.prog 9 lstR M (j + 1) (D.put (keyL x.key) (.held (.slice (some ⟨g2, 0, none⟩) m2 cap2)))) (hg7 : w6.grownBy w7 (some M)) :
    ownsW w7 w3.heap.size (.slice (some ⟨g, 0, none⟩) m1 cap) (l ++ [x]) ∧ LstW w7 M (j + 1) w3.heap.size (D.put (keyL x.key) (.held (.slice (some ⟨g2, 0, none⟩) m2 cap2))) (upd L x.key (.slice (some ⟨g2, 0, none⟩) m2 cap2)) (valsK (l ++ [x])) (tabK [] ((l ++ [x]).map (·.key))) ∧
      (∀ q g', (upd L x.key (.slice (some ⟨g2, 0, none⟩) m2 cap2) q).ownBlock = some g' → (Value.slice (some ⟨g, 0, none⟩) m1 cap).ownBlock ≠ some g') ∧ w3.grownBy w7 (some M) := by
  have hz2 : ((wo.alloc o1).alloc o2).heap.size = wo.heap.size + 2 := by simp
  have hz5 : W5.heap.size = w5.heap.size + 1 := by rw [hW5]; show (w5.alloc o3).heap.size = _; simp
  have hlq : ∀ q g', (L q).ownBlock = some g' → w3.heap.size ≤ g' ∧ g' < wo.heap.size := fun q g' e => (hs.own q).lt g' e
  have hgq : ∀ q, (L q).ownBlock ≠ some g := fun q e => by
    rcases hat5 with h | h
    · exact hap q g e h
    · have := (hlq q g e).2; omega
  have hg5' : g < w5.heap.size := (ho5.lt g rfl).2
  have hb5 : Below w5.heap.size w5 W5 := by rw [hW5]; exact ((Below.refl _ w5).alloc (Nat.le_refl _) _).drew
  have ho5' : ownsW W5 w3.heap.size (.slice (some ⟨g, 0, none⟩) m1 cap) (l ++ [x]) := ho5.below hb5
  have ho6' : ownsW w6 w3.heap.size (.slice (some ⟨g, 0, none⟩) m1 cap) (l ++ [x]) := World.ownsRow.kept ho5' hg6 (.inr (fun e => hgq x.key e.symm))
  have hadd := hs5.add x.key x.value ho6 hg6 (hat6.imp id (fun h => Nat.le_of_eq h.symm)) hm7 hg7
  rw [valsK_snoc, tabK_snoc] at hadd
  have ga := lst_via (lst_via (lst_via hg (grown_alloc (grown_refl wo none) o1) (fun g e => by cases e)) (grown_alloc (grown_refl _ none) o2) (fun g e => by cases e)) hg5 (fun q e => .inr (ho.lt q e).1)
  have gb := lst_via (lst_via ga (grown_of_below hb5) (fun g e => by cases e)) hg6 (fun q e => .inr (hlq x.key q e).1)
  refine ⟨World.ownsRow.kept ho6' hg7 (lst_ne ho6' hM), hadd, fun q g' h e => ?_, lst_via gb hg7 (fun q e => .inl (Option.some.inj e).symm)⟩
  have e2 : g = g' := Option.some.inj e
  subst e2
  by_cases eq : q = x.key
  · subst eq
    rw [upd_same] at h
    have e3 : g2 = g := Option.some.inj h
    rcases hat6 with h6 | h6
    · exact hgq x.key (by rw [h6, e3])
    · omega
  · rw [upd_other _ _ eq] at h
    exact hgq q h
end Go.Proofs.YtpmnflnaeknakaaDoor
