/-
  A store's cells as values, and what a map of cells reads as: plain.
-/
import Derived.Test.YtpmnflnaeknakaaGreatDoorStoM
import Derived.Test.YtpmnflnaeknakaaGreatDoorMapM
import Derived.Maps.RangeWalk
namespace Go.Proofs.YtpmnflnaeknakaaGreatDoor
open Go.Maps

/-- A cell as it lies: its key, whether it has a text, the text, its sum, its list's slice. -/
structure CV where
  key : ByteArray
  has : Bool
  text : ByteArray
  sum : Int
  list : Value
def cvC (c : CV) : List Value := [.string c.key, .bool c.has, .string c.text, .int .i64 c.sum, c.list]
def cvV (c : CV) : Value := .agg (cvC c).toArray
def cv0 : CV := ⟨⟨#[]⟩, false, ⟨#[]⟩, 0, .slice none 0 0⟩
instance : Inhabited CV := ⟨cv0⟩
theorem cvV_inj {a b : CV} (h : cvV a = cvV b) : a = b := by
  cases a; cases b
  injection h with h
  cases h
  rfl

open Classical in
/-- How a map's element reads: as itself. -/
noncomputable def cellR (v : Value) : Option (DataW Value × List MemPlace) := if ∃ c, v = cvV c then some (.held v, []) else none
theorem cellR_mk (c : CV) : cellR (cvV c) = some (.held (cvV c), []) := by unfold cellR; rw [if_pos ⟨c, rfl⟩]
theorem cellR_inv {v : Value} {z : DataW Value × List MemPlace} (h : cellR v = some z) : ∃ c, v = cvV c ∧ z = (.held (cvV c), []) := by
  unfold cellR at h
  split at h
  · rename_i hc
    obtain ⟨c, rfl⟩ := hc
    exact ⟨c, rfl, (Option.some.inj h).symm⟩
  · cases h

/-- f, but x at k. -/
def upd {α : Type} (f : ByteArray → α) (k : ByteArray) (x : α) : ByteArray → α := fun j => if j = k then x else f j
theorem upd_same {α : Type} (f : ByteArray → α) (k : ByteArray) (x : α) : upd f k x k = x := if_pos rfl
theorem upd_other {α : Type} (f : ByteArray → α) {k j : ByteArray} (x : α) (h : j ≠ k) : upd f k x j = f j := if_neg h

/-- The cell under a key, its list's slice told by L. -/
def cvOf (G : ByteArray → Cel) (L : ByteArray → Value) (k : ByteArray) : CV := if live (G k) = true then ⟨k, (G k).has, (G k).text, (G k).sum, L k⟩ else cv0
theorem cvOf_live {G : ByteArray → Cel} {L : ByteArray → Value} {k : ByteArray} (h : live (G k) = true) : cvOf G L k = ⟨k, (G k).has, (G k).text, (G k).sum, L k⟩ := if_pos h
theorem cvOf_dead {G : ByteArray → Cel} {L : ByteArray → Value} {k : ByteArray} (h : live (G k) = false) : cvOf G L k = cv0 := if_neg (by rw [h]; simp)

/-- D reads as the cells G, their lists' slices L. -/
structure StoD (D : DataW Value) (G : ByteArray → Cel) (L : ByteArray → Value) : Prop where
  isMap : IsMap D
  has : ∀ k, Maps.has D (keyL k) = live (G k)
  at' : ∀ k, D.atKey (keyL k) (.held (cvV cv0)) = .held (cvV (cvOf G L k))
  dead : ∀ k, live (G k) = false → G k = cel0

theorem stoD_nil : StoD (.map []) (fun _ => cel0) (fun _ => .slice none 0 0) := ⟨isMap_empty, fun _ => rfl, fun k => by rw [cvOf_dead (by rfl)]; rfl, fun _ _ => rfl⟩
theorem StoD.put {D : DataW Value} {G : ByteArray → Cel} {L : ByteArray → Value} (h : StoD D G L) (k : ByteArray) (c : Cel) (v : Value) (hc : live c = true) :
    StoD (D.put (keyL k) (.held (cvV ⟨k, c.has, c.text, c.sum, v⟩))) (upd G k c) (upd L k v) := by
  refine ⟨h.isMap.put _ _, fun j => ?_, fun j => ?_, fun j hj => ?_⟩
  · by_cases e : j = k
    · subst e; rw [has_put_same h.isMap (keyL_key _), upd_same, hc]
    · rw [has_put_other (fun e2 => e (keyL_inj e2)), upd_other _ _ e]; exact h.has j
  · by_cases e : j = k
    · subst e; rw [atKey_put_same h.isMap (keyL_key _), cvOf_live (by rw [upd_same]; exact hc), upd_same, upd_same]
    · rw [atKey_put_other (fun e2 => e (keyL_inj e2)), h.at' j]; unfold cvOf; rw [upd_other _ _ e, upd_other _ _ e]
  · by_cases e : j = k
    · subst e; rw [upd_same] at hj; rw [hj] at hc; cases hc
    · rw [upd_other _ _ e] at hj ⊢; exact h.dead j hj
theorem StoD.del {D : DataW Value} {G : ByteArray → Cel} {L : ByteArray → Value} (h : StoD D G L) (k : ByteArray) : StoD (D.del (keyL k)) (upd G k cel0) L := by
  refine ⟨h.isMap.del _, fun j => ?_, fun j => ?_, fun j hj => ?_⟩
  · by_cases e : j = k
    · subst e; rw [has_del_same, upd_same]; rfl
    · rw [has_del_other (fun e2 => e (keyL_inj e2)), upd_other _ _ e]; exact h.has j
  · by_cases e : j = k
    · subst e; rw [atKey_del_same, cvOf_dead (by rw [upd_same]; rfl)]
    · rw [atKey_del_other (fun e2 => e (keyL_inj e2)), h.at' j]; unfold cvOf; rw [upd_other _ _ e]
  · by_cases e : j = k
    · subst e; exact upd_same _ _ _
    · rw [upd_other _ _ e] at hj ⊢; exact h.dead j hj
/-- Whoever stands there stands under its key. -/
theorem StoD.entry {D : DataW Value} {G : ByteArray → Cel} {L : ByteArray → Value} (h : StoD D G L) {k : ByteArray} {c : CV} (hat : ∀ zd, D.atKey (keyL k) zd = .held (cvV c)) : live (G k) = true ∧ c = ⟨k, (G k).has, (G k).text, (G k).sum, L k⟩ := by
  have h1 := has_true_of_atKey hat
  rw [h.has] at h1
  refine ⟨h1, ?_⟩
  have h2 := hat (.held (cvV cv0))
  rw [h.at', cvOf_live h1] at h2
  exact (cvV_inj (DataW.held.inj h2)).symm

/-! ### what writes make of a store -/
/-- What one write makes of all cells. -/
def stepG (G : ByteArray → Cel) (x : Wr) : ByteArray → Cel := upd G x.key (stepC (G x.key) x)
/-- A cell that has nothing at all is none. -/
def Neat (c : Cel) : Prop := c.has = false → c.text = ⟨#[]⟩
theorem neat0 : Neat cel0 := fun _ => rfl
theorem Neat.step {c : Cel} (h : Neat c) (x : Wr) : Neat (stepC c x) := by
  unfold stepC
  split
  · intro e; cases e
  · split
    · exact neat0
    · split
      · exact h
      · split
        · exact h
        · exact h
theorem Neat.dead {c : Cel} (h : Neat c) (hd : live c = false) : c = cel0 := by
  cases c with
  | mk ha te su li =>
    simp only [live, Bool.or_eq_false_iff, bne_eq_false_iff_eq, Bool.not_eq_false', List.isEmpty_iff] at hd
    obtain ⟨⟨rfl, rfl⟩, rfl⟩ := hd
    have := h rfl
    simp only at this
    subst this
    rfl
theorem stepG_cellK (l : List Wr) (x : Wr) : stepG (cellK l) x = cellK (l ++ [x]) := by
  funext j
  unfold stepG
  by_cases e : j = x.key
  · subst e; rw [upd_same]; simp [cellK, List.filter_append]
  · rw [upd_other _ _ e]; simp [cellK, List.filter_append, Ne.symm e]
theorem cellK_nil : cellK [] = fun _ => cel0 := rfl
theorem neat_cellK (l : List Wr) (k : ByteArray) : Neat (cellK l k) := cell_text l k
end Go.Proofs.YtpmnflnaeknakaaGreatDoor
