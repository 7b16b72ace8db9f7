/-
  A store in memory: its map, its cells' lists, each in a row of its own.
-/
import Derived.Test.YtpmnflnaeknakaaGreatDoorStoV
import Derived.Test.YtpmnflnaeknakaaGreatDoorStrs
import Derived.Lib.Hide
import Derived.StringKeys
import Derived.WalkSmall
namespace Go.Proofs.YtpmnflnaeknakaaGreatDoor
open Go.RowKit Go.Maps

theorem keyedS2 : Keyed Tryz.prog 9 := string_keyed Tryz.underlying9
theorem keyS2 {s : ByteArray} (h : s.size ≤ maxLen) : keyOf Tryz.prog 9 (.string s) = some (keyL s) := Go.WideMaps.keyOf_string_mk Tryz.underlying9 h
theorem zeroC (w : World) : (zeroValue 60).run Tryz.prog w = .ok (cvV cv0) w := by kernel_rfl

/-- Block P is a store: its map in block M, its cells G, their lists' slices L, each in a row of its own from R on; of at most m entries, m texts in each. -/
structure StoIn (w : World) (R P M m : Nat) (D : DataW Value) (G : ByteArray → Cel) (L : ByteArray → Value) : Prop where
  row : w.heap[P]? = some (.cells #[.map (some M)] 51 (0, 0))
  map : w.ownsMap Tryz.prog 9 cellR M m D
  sto : StoD D G L
  own : ∀ k, live (G k) = true → ownsS w R (L k) (G k).list
  apart : ∀ j k, live (G j) = true → live (G k) = true → j ≠ k → (L j).ownBlock = none ∨ (L j).ownBlock ≠ (L k).ownBlock
  len : ∀ k, (G k).list.length ≤ m
  text : ∀ k, (G k).text.size ≤ 140737488351232 ∧ ∀ s ∈ (G k).list, s.size ≤ 140737488351232
  neat : ∀ k, Neat (G k)
  pr : P < R
  mr : M < R
  rw' : R ≤ w.heap.size
  pm : P ≠ M
theorem StoIn.pw {w : World} {R P M m : Nat} {D : DataW Value} {G : ByteArray → Cel} {L : ByteArray → Value} (h : StoIn w R P M m D G L) : P < w.heap.size := Nat.lt_of_lt_of_le h.pr h.rw'

/-- Kept by whatever leaves old memory as it was. -/
theorem StoIn.grown {w w' : World} {R P M m : Nat} {D : DataW Value} {G : ByteArray → Cel} {L : ByteArray → Value} (h : StoIn w R P M m D G L) (hg : w.grownBy w' none) : StoIn w' R P M m D G L :=
  { h with
    row := (hg.block P h.pw (by simp)).trans h.row
    map := h.map.kept hg (by simp)
    own := fun k hk => World.ownsRow.kept (h.own k hk) hg (by cases hv : (L k).ownBlock with
      | none => exact .inl rfl
      | some g => exact .inr (by simp))
    rw' := Nat.le_trans h.rw' hg.size }
theorem StoIn.below {w w' : World} {R P M m : Nat} {D : DataW Value} {G : ByteArray → Cel} {L : ByteArray → Value} (h : StoIn w R P M m D G L) (hb : Below w.heap.size w w') : StoIn w' R P M m D G L :=
  h.grown ⟨hb.os, hb.tape, hb.output, hb.size, fun k hk _ => hb.block k hk⟩
theorem StoIn.alloc {w : World} {R P M m : Nat} {D : DataW Value} {G : ByteArray → Cel} {L : ByteArray → Value} (h : StoIn w R P M m D G L) (o : Obj) : StoIn (w.alloc o) R P M m D G L := h.grown (World.grownBy_alloc _ _ _)
theorem StoIn.drew {w : World} {R P M m : Nat} {D : DataW Value} {G : ByteArray → Cel} {L : ByteArray → Value} (h : StoIn w R P M m D G L) : StoIn w.drew R P M m D G L := h.below (Below.drew (Below.refl _ _))
theorem StoIn.drewN {w : World} {R P M m : Nat} {D : DataW Value} {G : ByteArray → Cel} {L : ByteArray → Value} (h : StoIn w R P M m D G L) (n : Nat) : StoIn (w.drewN n) R P M m D G L := h.below (below_drewN (Below.refl _ _) n)

/-- A world in which nothing old has turned but the row of one key's list: all but that key's list is as it was. -/
structure StoBut (w : World) (R P M m : Nat) (D : DataW Value) (G : ByteArray → Cel) (L : ByteArray → Value) (k : ByteArray) : Prop where
  row : w.heap[P]? = some (.cells #[.map (some M)] 51 (0, 0))
  map : w.ownsMap Tryz.prog 9 cellR M m D
  sto : StoD D G L
  own : ∀ j, j ≠ k → live (G j) = true → ownsS w R (L j) (G j).list
  apart : ∀ i j, i ≠ k → j ≠ k → live (G i) = true → live (G j) = true → i ≠ j → (L i).ownBlock = none ∨ (L i).ownBlock ≠ (L j).ownBlock
  len : ∀ j, (G j).list.length ≤ m
  text : ∀ k, (G k).text.size ≤ 140737488351232 ∧ ∀ s ∈ (G k).list, s.size ≤ 140737488351232
  neat : ∀ k, Neat (G k)
  pr : P < R
  mr : M < R
  rw' : R ≤ w.heap.size
  pm : P ≠ M
/-- Behind a call that turned that key's row alone. -/
theorem StoIn.but {w w' : World} {R P M m : Nat} {D : DataW Value} {G : ByteArray → Cel} {L : ByteArray → Value} (h : StoIn w R P M m D G L) (k : ByteArray) {o : Option Nat} (hg : w.grownBy w' o) (ho : ∀ g, o = some g → R ≤ g)
    (hk : ∀ j, j ≠ k → live (G j) = true → (L j).ownBlock = none ∨ (L j).ownBlock ≠ o) : StoBut w' R P M m D G L k :=
  { row := (hg.block P h.pw (fun e => by have := ho P e.symm; have := h.pr; omega)).trans h.row
    map := h.map.kept hg (fun e => by have := ho M e.symm; have := h.mr; omega)
    sto := h.sto
    own := fun j hj hl => World.ownsRow.kept (h.own j hl) hg (hk j hj hl)
    apart := fun i j _ _ => h.apart i j
    len := h.len
    text := h.text
    neat := h.neat
    pr := h.pr, mr := h.mr, rw' := Nat.le_trans h.rw' hg.size, pm := h.pm }
theorem StoBut.grown {w w' : World} {R P M m : Nat} {D : DataW Value} {G : ByteArray → Cel} {L : ByteArray → Value} {k : ByteArray} (h : StoBut w R P M m D G L k) (hg : w.grownBy w' none) : StoBut w' R P M m D G L k :=
  { h with
    row := (hg.block P (Nat.lt_of_lt_of_le h.pr h.rw') (by simp)).trans h.row
    map := h.map.kept hg (by simp)
    own := fun j hj hk => World.ownsRow.kept (h.own j hj hk) hg (by cases hv : (L j).ownBlock with
      | none => exact .inl rfl
      | some g => exact .inr (by simp))
    rw' := Nat.le_trans h.rw' hg.size }

/-- 'delete(s.cells, k)'. -/
theorem StoBut.del {w w' : World} {R P M m : Nat} {D : DataW Value} {G : ByteArray → Cel} {L : ByteArray → Value} {k : ByteArray} (h : StoBut w R P M m D G L k) (hm : w'.ownsMap Tryz.prog 9 cellR M m (D.del (keyL k))) (ht : w.mapTurned w' M) :
    StoIn w' R P M (m + 1) (D.del (keyL k)) (upd G k cel0) L :=
  have hg := ht.grown
  { row := (hg.block P (Nat.lt_of_lt_of_le h.pr h.rw') (fun e => h.pm (Option.some.inj e))).trans h.row
    map := hm.mono (Nat.le_succ m)
    sto := h.sto.del k
    own := fun j hl => by
      by_cases e : j = k
      · subst e; rw [upd_same] at hl; cases hl
      · rw [upd_other _ _ e] at hl ⊢
        refine World.ownsRow.kept (h.own j e hl) hg ?_
        cases hv : (L j).ownBlock with
        | none => exact .inl rfl
        | some g => exact .inr (fun e2 => by have := ((h.own j e hl).lt g hv).1; have := h.mr; have e3 : g = M := Option.some.inj e2; omega)
    apart := fun i j hi hj hne => by
      have hi' : i ≠ k := fun e => by subst e; rw [upd_same] at hi; cases hi
      have hj' : j ≠ k := fun e => by subst e; rw [upd_same] at hj; cases hj
      rw [upd_other _ _ hi'] at hi
      rw [upd_other _ _ hj'] at hj
      exact h.apart i j hi' hj' hi hj hne
    len := fun j => by
      by_cases e : j = k
      · subst e; rw [upd_same]; exact Nat.zero_le _
      · rw [upd_other _ _ e]; exact Nat.le_succ_of_le (h.len j)
    text := fun j => by
      by_cases e : j = k
      · subst e; rw [upd_same]; exact ⟨Nat.zero_le _, fun s hs => by cases hs⟩
      · rw [upd_other _ _ e]; exact h.text j
    neat := fun j => by
      by_cases e : j = k
      · subst e; rw [upd_same]; exact neat0
      · rw [upd_other _ _ e]; exact h.neat j
    pr := h.pr, mr := h.mr, rw' := Nat.le_trans h.rw' hg.size, pm := h.pm }
/-- 's.cells[k] = c'. -/
theorem StoBut.put {w w' : World} {R P M m : Nat} {D : DataW Value} {G : ByteArray → Cel} {L : ByteArray → Value} {k : ByteArray} (h : StoBut w R P M m D G L k) (c : Cel) (v : Value) (hc : live c = true) (hn : Neat c) (hl : c.list.length ≤ m + 1)
    (htx : c.text.size ≤ 140737488351232 ∧ ∀ s ∈ c.list, s.size ≤ 140737488351232) (hv : ownsS w R v c.list)
    (hap : ∀ j, j ≠ k → live (G j) = true → (L j).ownBlock = none ∨ (L j).ownBlock ≠ v.ownBlock)
    (hm : w'.ownsMap Tryz.prog 9 cellR M (m + 1) (D.put (keyL k) (.held (cvV ⟨k, c.has, c.text, c.sum, v⟩)))) (hg : w.grownBy w' (some M)) :
    StoIn w' R P M (m + 1) (D.put (keyL k) (.held (cvV ⟨k, c.has, c.text, c.sum, v⟩))) (upd G k c) (upd L k v) :=
  have hkeep : ∀ (u : Value) (l : List ByteArray), ownsS w R u l → ownsS w' R u l := fun u l hu => by
    refine World.ownsRow.kept hu hg ?_
    cases e : u.ownBlock with
    | none => exact .inl rfl
    | some g => exact .inr (fun e2 => by have := (hu.lt g e).1; have := h.mr; have e3 : g = M := Option.some.inj e2; omega)
  { row := (hg.block P (Nat.lt_of_lt_of_le h.pr h.rw') (fun e => h.pm (Option.some.inj e))).trans h.row
    map := hm
    sto := h.sto.put k c v hc
    own := fun j hj => by
      by_cases e : j = k
      · subst e; rw [upd_same, upd_same]; exact hkeep _ _ hv
      · rw [upd_other _ _ e] at hj ⊢; rw [upd_other _ _ e]; exact hkeep _ _ (h.own j e hj)
    apart := fun i j hi hj hne => by
      by_cases ei : i = k
      · subst ei
        have ej : j ≠ i := Ne.symm hne
        rw [upd_same, upd_other _ _ ej]
        rw [upd_other _ _ ej] at hj
        rcases hap j ej hj with h1 | h1
        · cases e : v.ownBlock with
          | none => exact .inl rfl
          | some g => exact .inr (by rw [h1]; simp)
        · exact .inr (Ne.symm h1)
      · rw [upd_other _ _ ei] at hi
        by_cases ej : j = k
        · subst ej
          rw [upd_same, upd_other _ _ ei]
          exact hap i ei hi
        · rw [upd_other _ _ ej] at hj
          rw [upd_other _ _ ei, upd_other _ _ ej]
          exact h.apart i j ei ej hi hj hne
    len := fun j => by
      by_cases e : j = k
      · subst e; rw [upd_same]; exact hl
      · rw [upd_other _ _ e]; exact Nat.le_succ_of_le (h.len j)
    text := fun j => by
      by_cases e : j = k
      · subst e; rw [upd_same]; exact htx
      · rw [upd_other _ _ e]; exact h.text j
    neat := fun j => by
      by_cases e : j = k
      · subst e; rw [upd_same]; exact hn
      · rw [upd_other _ _ e]; exact h.neat j
    pr := h.pr, mr := h.mr, rw' := Nat.le_trans h.rw' hg.size, pm := h.pm }
theorem StoIn.mono {w : World} {R P M m n : Nat} {D : DataW Value} {G : ByteArray → Cel} {L : ByteArray → Value} (h : StoIn w R P M m D G L) (hn : m ≤ n) : StoIn w R P M n D G L :=
  { h with map := h.map.mono hn, len := fun k => Nat.le_trans (h.len k) hn }
/-- 's.cells[k]'. -/
theorem StoIn.look {w : World} {R P M m : Nat} {D : DataW Value} {G : ByteArray → Cel} {L : ByteArray → Value} (h : StoIn w R P M m D G L) (k : ByteArray) (hk : k.size ≤ maxLen) :
    (Instr.lookup 49 (.map (some M)) (.string k) false).run Tryz.prog w = .ok (cvV (cvOf G L k)) w := by
  obtain ⟨v, ps, h1, h2⟩ := h.map.lookup keyedS2 Tryz.underlying49 (zeroC w) (cellR_mk cv0) (keyS2 hk)
  rw [h.sto.at'] at h2
  obtain ⟨c, rfl, hc⟩ := cellR_inv h2
  rw [h1]
  simp only [Prod.mk.injEq] at hc
  rw [cvV_inj (DataW.held.inj hc.1)]
/-- A store, in some map, with some rows. -/
def StoAt (w : World) (R P m : Nat) (G : ByteArray → Cel) : Prop := ∃ M D L, StoIn w R P M m D G L
theorem StoAt.grown {w w' : World} {R P m : Nat} {G : ByteArray → Cel} (h : StoAt w R P m G) (hg : w.grownBy w' none) : StoAt w' R P m G := by obtain ⟨M, D, L, h⟩ := h; exact ⟨M, D, L, h.grown hg⟩
theorem StoAt.below {w w' : World} {R P m : Nat} {G : ByteArray → Cel} (h : StoAt w R P m G) (hb : Below w.heap.size w w') : StoAt w' R P m G := by obtain ⟨M, D, L, h⟩ := h; exact ⟨M, D, L, h.below hb⟩
theorem StoAt.alloc {w : World} {R P m : Nat} {G : ByteArray → Cel} (h : StoAt w R P m G) (o : Obj) : StoAt (w.alloc o) R P m G := h.grown (World.grownBy_alloc _ _ _)
theorem StoAt.mono {w : World} {R P m n : Nat} {G : ByteArray → Cel} (h : StoAt w R P m G) (hn : m ≤ n) : StoAt w R P n G := by obtain ⟨M, D, L, h⟩ := h; exact ⟨M, D, L, h.mono hn⟩
end Go.Proofs.YtpmnflnaeknakaaGreatDoor
