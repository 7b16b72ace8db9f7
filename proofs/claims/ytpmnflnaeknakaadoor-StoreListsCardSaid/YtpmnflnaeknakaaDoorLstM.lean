/-
  A map of lists of texts by keys, each list a row of its own.
-/
import Derived.Test.YtpmnflnaeknakaaDoorStoLaw
import Derived.Test.YtpmnflnaeknakaaDoorMapM
import Derived.Test.YtpmnflnaeknakaaDoorOwnS
import Derived.KernelRfl
import Derived.StringKeys
import Derived.Maps.OwnSet
namespace Go.Proofs.YtpmnflnaeknakaaDoor
open Go.RowKit Go.Maps

theorem keyedL : Keyed Tryd.prog 9 := string_keyed Tryd.underlying9
theorem zeroL (w : World) : (zeroValue 30).run Tryd.prog w = .ok (.slice none 0 0) w := by kernel_rfl
theorem keyLs {s : ByteArray} (h : s.size ≤ maxLen) : keyOf Tryd.prog 9 (.string s) = some (keyL s) := Go.WideMaps.keyOf_string_mk Tryd.underlying9 h
open Classical in
/-- A slice as a map's datum. -/
noncomputable def lstR (v : Value) : Option (DataW Value × List MemPlace) := if ∃ a n c, v = .slice a n c then some (.held v, []) else none
theorem lstR_mk (a : Option Addr) (n c : Nat) : lstR (.slice a n c) = some (.held (.slice a n c), []) := by unfold lstR; rw [if_pos ⟨a, n, c, rfl⟩]
theorem lstR_inv {v : Value} {z : DataW Value × List MemPlace} (h : lstR v = some z) : z = (.held v, []) := by
  unfold lstR at h
  split at h
  · exact (Option.some.inj h).symm
  · cases h
/-- D reads as the lists L, under the keys t. -/
structure LstD (D : DataW Value) (L : ByteArray → Value) (t : List ByteArray) : Prop where
  tidy : Tidy D
  has : ∀ k, Maps.has D (keyL k) = decide (k ∈ t)
  size : Maps.size D = t.length
  at' : ∀ k, D.atKey (keyL k) (.held (.slice none 0 0)) = .held (L k)
theorem lstD_nil : LstD (.map []) (fun _ => .slice none 0 0) [] := ⟨tidy_empty, fun _ => rfl, rfl, fun _ => rfl⟩
theorem LstD.put {D : DataW Value} {L : ByteArray → Value} {t : List ByteArray} (h : LstD D L t) (k : ByteArray) (v : Value) : LstD (D.put (keyL k) (.held v)) (upd L k v) (addK t k) := by
  refine ⟨h.tidy.put (keyL_key _) _, fun j => ?_, ?_, fun j => ?_⟩
  · by_cases e : j = k
    · subst e
      rw [has_put_same h.tidy.isMap (keyL_key _)]
      unfold addK
      by_cases e2 : j ∈ t <;> simp [e2]
    · rw [has_put_other (fun e2 => e (keyL_inj e2)), h.has j]
      unfold addK
      by_cases e2 : k ∈ t <;> simp [e2, e]
  · rw [size_put h.tidy, h.has k, h.size]
    unfold addK
    by_cases e2 : k ∈ t <;> simp [e2]
  · by_cases e : j = k
    · subst e; rw [atKey_put_same h.tidy.isMap (keyL_key _), upd_same]
    · rw [atKey_put_other (fun e2 => e (keyL_inj e2)), upd_other _ _ e]; exact h.at' j
/-- A map of lists in memory. -/
structure LstW (w : World) (b n base : Nat) (D : DataW Value) (L : ByteArray → Value) (V : ByteArray → List ByteArray) (t : List ByteArray) : Prop where
  d : LstD D L t
  map : w.ownsMap Tryd.prog 9 lstR b n D
  own : ∀ k, ownsS w base (L k) (V k)
  apart : ∀ j k g, j ≠ k → (L j).ownBlock = some g → (L k).ownBlock = some g → False
  low : b < base
theorem lstW_made (w : World) : LstW (w.alloc (.map #[] 0)) w.heap.size 0 (w.heap.size + 1) (.map []) (fun _ => .slice none 0 0) (fun _ => []) [] :=
  ⟨lstD_nil, World.ownsMap_made _ _ _ _, fun _ => ownsS_nil _ _, fun _ _ _ _ h => (by cases h), Nat.lt_succ_self _⟩
theorem LstW.kept {w w' : World} {b n base : Nat} {D : DataW Value} {L : ByteArray → Value} {V : ByteArray → List ByteArray} {t : List ByteArray} {o : Option Nat} (h : LstW w b n base D L V t) (hg : w.grownBy w' o) (hb : some b ≠ o) (hl : ∀ k g, (L k).ownBlock = some g → some g ≠ o) : LstW w' b n base D L V t :=
  ⟨h.d, h.map.kept hg hb, fun k => World.ownsRow.kept (h.own k) hg (by
    cases e : (L k).ownBlock with
    | none => exact .inl rfl
    | some g => exact .inr (hl k g e)), h.apart, h.low⟩
theorem LstW.lt {w : World} {b n base : Nat} {D : DataW Value} {L : ByteArray → Value} {V : ByteArray → List ByteArray} {t : List ByteArray} (h : LstW w b n base D L V t) : b < w.heap.size := h.map.lt
theorem LstW.below {w w' : World} {b n base : Nat} {D : DataW Value} {L : ByteArray → Value} {V : ByteArray → List ByteArray} {t : List ByteArray} (h : LstW w b n base D L V t) (hb : Below w.heap.size w w') : LstW w' b n base D L V t :=
  h.kept (o := none) ⟨hb.os, hb.tape, hb.output, hb.size, fun k hk _ => hb.block k hk⟩ (by simp) (fun _ _ _ => by simp)
theorem LstW.alloc {w : World} {b n base : Nat} {D : DataW Value} {L : ByteArray → Value} {V : ByteArray → List ByteArray} {t : List ByteArray} (h : LstW w b n base D L V t) (x : Obj) : LstW (w.alloc x) b n base D L V t :=
  h.below ((Below.refl _ w).alloc (Nat.le_refl _) _)
/-- One more under a key: its row has grown, and is put. -/
theorem LstW.add {w w1 w2 : World} {b n base : Nat} {D : DataW Value} {L : ByteArray → Value} {V : ByteArray → List ByteArray} {t : List ByteArray} (h : LstW w b n base D L V t) (k x : ByteArray) {g m c : Nat}
    (ho : ownsS w1 base (.slice (some ⟨g, 0, none⟩) m c) (V k ++ [x])) (hg : w.grownBy w1 (L k).ownBlock) (hat : (L k).ownBlock = some g ∨ w.heap.size ≤ g)
    (hm : w2.ownsMap Tryd.prog 9 lstR b (n + 1) (D.put (keyL k) (.held (.slice (some ⟨g, 0, none⟩) m c)))) (hg2 : w1.grownBy w2 (some b)) :
    LstW w2 b (n + 1) base (D.put (keyL k) (.held (.slice (some ⟨g, 0, none⟩) m c))) (upd L k (.slice (some ⟨g, 0, none⟩) m c)) (upd V k (V k ++ [x])) (addK t k) := by
  have low := h.low
  have hne : ∀ j, j ≠ k → ∀ g', (L j).ownBlock = some g' → g' ≠ g := fun j hj g' e e2 => by
    subst e2
    rcases hat with hat | hat
    · exact h.apart j k g' hj e hat
    · have := ((h.own j).lt g' e).2; omega
  have off : ∀ {W : World} {v : Value} {l : List ByteArray}, ownsS W base v l → v.ownBlock = none ∨ v.ownBlock ≠ some b := fun {W v l} hh => by
    cases e : v.ownBlock with
    | none => exact .inl rfl
    | some q => exact .inr (fun e2 => by have h1 := (hh.lt q e).1; have e3 : q = b := Option.some.inj e2; omega)
  refine ⟨h.d.put k _, hm, fun j => ?_, fun i j q hij h1 h2 => ?_, low⟩
  · by_cases e : j = k
    · subst e; rw [upd_same, upd_same]; exact World.ownsRow.kept ho hg2 (off ho)
    · rw [upd_other _ _ e, upd_other _ _ e]
      have h1 : ownsS w1 base (L j) (V j) := World.ownsRow.kept (h.own j) hg (by
        cases e1 : (L j).ownBlock with
        | none => exact .inl rfl
        | some q => exact .inr (fun e2 => h.apart j k q e e1 e2.symm))
      exact World.ownsRow.kept h1 hg2 (off h1)
  · by_cases e1 : i = k
    · subst e1
      have e2 : j ≠ i := fun e => hij e.symm
      rw [upd_same] at h1
      rw [upd_other _ _ e2] at h2
      have e3 : g = q := Option.some.inj h1
      exact hne j e2 q h2 e3.symm
    · rw [upd_other _ _ e1] at h1
      by_cases e2 : j = k
      · subst e2
        rw [upd_same] at h2
        have e3 : g = q := Option.some.inj h2
        exact hne i e1 q h1 e3.symm
      · rw [upd_other _ _ e2] at h2
        exact h.apart i j q hij h1 h2
theorem wpList_lst_get {w : World} {ops : Array Oper} {rest : List Oper} {o : Oper} {a : Act} {Q : Exit → Act → World → Prop} (hg : o.guard = none) (m x : Operand) (hop : o.op = Op.lookup 24 m x false) (b n base : Nat) (D : DataW Value) (L : ByteArray → Value) (V : ByteArray → List ByteArray) (t : List ByteArray)
    (hm : a.eval m = .map (some b)) (hown : LstW w b n base D L V t) (s : ByteArray) (hx : a.eval x = .string s) (hs : s.size ≤ maxLen)
    (hK : wpList Tryd.prog ops Q rest (a.put o.dst (L s)) w) : wpList Tryd.prog ops Q (o :: rest) a w := by
  refine wpList_lookup_own_is w hg m x _ hop 9 30 keyedL Tryd.underlying24 _ (zeroL w) (.held (.slice none 0 0)) [] (lstR_mk _ _ _) b n D hm hown.map _ _ hx (keyLs hs) _ ?_ hK
  intro v ps hv
  rw [hown.d.at' s] at hv
  have := lstR_inv hv
  simp only [Prod.mk.injEq, DataW.held.injEq] at this
  exact this.1.symm
theorem LstW.look {w : World} {b n base : Nat} {D : DataW Value} {L : ByteArray → Value} {V : ByteArray → List ByteArray} {t : List ByteArray} (h : LstW w b n base D L V t) {s : ByteArray} (hs : s.size ≤ maxLen) : (Instr.lookup 24 (.map (some b)) (.string s) false).run Tryd.prog w = .ok (L s) w := by
  obtain ⟨v, ps, h1, h2⟩ := h.map.lookup keyedL Tryd.underlying24 (zeroL w) (lstR_mk none 0 0) (keyLs hs)
  rw [h.d.at' s] at h2
  have := lstR_inv h2
  simp only [Prod.mk.injEq, DataW.held.injEq] at this
  rw [h1, this.1]
theorem wpList_lst_put {w : World} {ops : Array Oper} {rest : List Oper} {o : Oper} {a : Act} {Q : Exit → Act → World → Prop} (hg : o.guard = none) (m x v : Operand) (hop : o.op = Op.mapUpdate 24 m x v) (b n : Nat) (D : DataW Value)
    (hm : a.eval m = .map (some b)) (hown : w.ownsMap Tryd.prog 9 lstR b n D) (hn : n < maxLen) (s : ByteArray) (p : Option Addr) (l c : Nat) (hx : a.eval x = .string s) (hv : a.eval v = .slice p l c) (hs : s.size ≤ maxLen)
    (hK : ∀ w', w'.ownsMap Tryd.prog 9 lstR b (n + 1) (D.put (keyL s) (.held (.slice p l c))) → w.grownBy w' (some b) → wpList Tryd.prog ops Q rest (a.put o.dst undef) w') : wpList Tryd.prog ops Q (o :: rest) a w :=
  wpList_mapUpdate_own w hg m x v _ hop 9 30 keyedL Tryd.underlying24 _ b n D hm hown hn _ _ _ hx hv (keyLs hs) _ [] (lstR_mk _ _ _) hK
/-- The values under a key. -/
def valsK (l : List Wr) (k : ByteArray) : List ByteArray := (l.filter (fun w => decide (w.key = k))).map (·.value)
theorem valsK_nil : valsK [] = fun _ => [] := rfl
theorem valsK_snoc (l : List Wr) (x : Wr) : upd (valsK l) x.key (valsK l x.key ++ [x.value]) = valsK (l ++ [x]) := by
  funext j
  unfold valsK
  rw [List.filter_append, List.map_append]
  by_cases e : j = x.key
  · subst e
    rw [upd_same, List.filter_cons_of_pos (by simp)]
    simp
  · rw [upd_other _ _ e, List.filter_cons_of_neg (by simpa using fun e2 => e e2.symm)]
    simp
theorem tabK_snoc (l : List Wr) (x : Wr) : addK (tabK [] (l.map (·.key))) x.key = tabK [] ((l ++ [x]).map (·.key)) := by
  rw [List.map_append, tabK_app]; rfl
end Go.Proofs.YtpmnflnaeknakaaDoor
