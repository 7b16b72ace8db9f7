/-
  What Cells answers: plain, and in memory.
-/
import Derived.Test.YtpmnflnaeknakaaGreatDoorStoSort
import Derived.Test.YtpmnflnaeknakaaGreatDoorStoS
import Derived.Test.YtpmnflnaeknakaaGreatDoorOwnS
namespace Go.Proofs.YtpmnflnaeknakaaGreatDoor
open Go.RowKit Go.Maps

/-- z are the cells that G has, by rising keys. -/
structure CellsOf (G : ByteArray → Cel) (z : List (ByteArray × Cel)) : Prop where
  nodup : (z.map (·.1)).Nodup
  sorted : z.Pairwise (fun a b => leB a.1 b.1 = true)
  mem : ∀ k c, (k, c) ∈ z ↔ G k = c ∧ live c = true
theorem cellsOf_cellsF (l : List Wr) : CellsOf (cellK l) (cellsF l) := ⟨cellsF_nodup l, cellsF_sorted l, fun _ _ => cellsF_mem⟩
theorem CellsOf.unique {G : ByteArray → Cel} {z y : List (ByteArray × Cel)} (h : CellsOf G z) (k : CellsOf G y) : z = y :=
  sorted_unique h.nodup k.nodup h.sorted k.sorted (fun p => by obtain ⟨a, b⟩ := p; rw [h.mem, k.mem])
theorem CellsOf.is {l : List Wr} {z : List (ByteArray × Cel)} (h : CellsOf (cellK l) z) : z = cellsF l := h.unique (cellsOf_cellsF l)

/-- A []api.Cell that reads as z. -/
def IsCells (w : World) (v : Value) (z : List (ByteArray × Cel)) : Prop :=
  ∃ zs : List CV, IsCvs w v zs ∧ zs.length = z.length ∧ ∀ (i : Nat) (c : CV), zs[i]? = some c → ∃ p : ByteArray × Cel, z[i]? = some p ∧ c.key = p.1 ∧ c.has = p.2.has ∧ c.text = p.2.text ∧ c.sum = p.2.sum ∧ IsTexts w c.list p.2.list
theorem IsCells.below {w w' : World} {v : Value} {z : List (ByteArray × Cel)} (h : IsCells w v z) (hb : Below w.heap.size w w') : IsCells w' v z := by
  obtain ⟨zs, h1, h2, h3⟩ := h
  exact ⟨zs, h1.below hb, h2, fun i c hc => by obtain ⟨p, a, b, c1, d, e, f⟩ := h3 i c hc; exact ⟨p, a, b, c1, d, e, f.below hb⟩⟩
theorem IsCells.alloc {w : World} {v : Value} {z : List (ByteArray × Cel)} (h : IsCells w v z) (o : Obj) : IsCells (w.alloc o) v z := h.below ((Below.refl _ _).alloc (Nat.le_refl _) _)

/-- Rows that are being gathered: of keys ks, each with its list in a row of its own. -/
def RowsAre (w : World) (base : Nat) (G : ByteArray → Cel) (ks : List ByteArray) (zs : List CV) : Prop :=
  zs.map (·.key) = ks ∧ ∀ c ∈ zs, c.has = (G c.key).has ∧ c.text = (G c.key).text ∧ c.sum = (G c.key).sum ∧ ownsS w base c.list (G c.key).list
theorem RowsAre.kept {w w' : World} {base b2 : Nat} {G : ByteArray → Cel} {ks : List ByteArray} {zs : List CV} {v : Value} {l : List CV} (h : RowsAre w base G ks zs) (ho : ownsC w b2 v l) (hg : w.grownBy w' v.ownBlock) : RowsAre w' base G ks zs :=
  ⟨h.1, fun c hc => by
    obtain ⟨h1, h2, h3, h4⟩ := h.2 c hc
    exact ⟨h1, h2, h3, World.ownsRow.kept h4 hg (rows_apart h4 ho (by decide))⟩⟩
theorem RowsAre.grown {w w' : World} {base : Nat} {G : ByteArray → Cel} {ks : List ByteArray} {zs : List CV} (h : RowsAre w base G ks zs) (hg : w.grownBy w' none) : RowsAre w' base G ks zs :=
  ⟨h.1, fun c hc => by
    obtain ⟨h1, h2, h3, h4⟩ := h.2 c hc
    exact ⟨h1, h2, h3, World.ownsRow.kept h4 hg (by cases e : c.list.ownBlock with
      | none => exact .inl rfl
      | some g => exact .inr (by simp))⟩⟩
theorem RowsAre.add {w : World} {base : Nat} {G : ByteArray → Cel} {ks : List ByteArray} {zs : List CV} (h : RowsAre w base G ks zs) {k : ByteArray} {u : Value} (hu : ownsS w base u (G k).list) :
    RowsAre w base G (ks ++ [k]) (zs ++ [⟨k, (G k).has, (G k).text, (G k).sum, u⟩]) :=
  ⟨by rw [List.map_append, h.1]; rfl, fun c hc => by
    rcases List.mem_append.1 hc with hc | hc
    · exact h.2 c hc
    · obtain rfl := List.mem_singleton.1 hc
      exact ⟨rfl, rfl, rfl, hu⟩⟩
/-- The cell at a key, whether it is there or not. -/
def celAtK (zs : List CV) (k : ByteArray) : CV := match zs.find? (fun c => decide (c.key = k)) with
  | some c => c
  | none => { cv0 with key := k }
theorem celAtK_key (zs : List CV) (k : ByteArray) : (celAtK zs k).key = k := by
  unfold celAtK
  split
  · rename_i c h; simpa using List.find?_some h
  · rfl
theorem find_nodup : ∀ {zs : List CV}, (zs.map (·.key)).Nodup → ∀ {c : CV}, c ∈ zs → zs.find? (fun d => decide (d.key = c.key)) = some c
  | [], _, _, hc => by cases hc
  | a :: r, hn, c, hc => by
    rw [List.map_cons, List.nodup_cons] at hn
    rcases List.mem_cons.1 hc with rfl | hc
    · simp
    · have hne : a.key ≠ c.key := fun e => hn.1 (by rw [e]; exact List.mem_map_of_mem hc)
      rw [List.find?_cons_of_neg (by simpa using hne)]
      exact find_nodup hn.2 hc
theorem celAtK_mem {zs : List CV} (hn : (zs.map (·.key)).Nodup) {c : CV} (hc : c ∈ zs) : celAtK zs c.key = c := by
  unfold celAtK
  rw [find_nodup hn hc]
theorem celAtK_all {zs : List CV} (hn : (zs.map (·.key)).Nodup) : (zs.map (·.key)).map (celAtK zs) = zs := by
  rw [List.map_map]
  conv => rhs; rw [← List.map_id zs]
  exact List.map_congr_left (fun c hc => celAtK_mem hn hc)
theorem celAtK_one {w : World} {base : Nat} {G : ByteArray → Cel} {ks : List ByteArray} {zs : List CV} (h : RowsAre w base G ks zs) (k : ByteArray) : (celAtK zs k).list.oneCell' = true := by
  unfold celAtK
  split
  · rename_i c e
    obtain ⟨a, c2, h2⟩ := (h.2 c (List.mem_of_find?_eq_some e)).2.2.2.slice
    rw [h2]; rfl
  · rfl
/-- Behind the sort. -/
theorem RowsAre.cells {w' : World} {base : Nat} {G : ByteArray → Cel} {ks ks' : List ByteArray} {zs : List CV} {v : Value} (h : RowsAre w' base G ks zs) (hn : ks.Nodup) (hp : ks'.Perm ks) (hs : ks'.Pairwise (fun a b => leB a b = true)) (hk : ∀ k, k ∈ ks ↔ live (G k) = true)
    (hv : IsCvs w' v (ks'.map (celAtK zs))) : ∃ z, CellsOf G z ∧ IsCells w' v z := by
  have hn2 : (zs.map (·.key)).Nodup := by rw [h.1]; exact hn
  have hfst : (ks'.map fun k => (k, G k)).map (·.1) = ks' := by rw [List.map_map]; exact List.map_id ks'
  refine ⟨ks'.map fun k => (k, G k), ⟨by rw [hfst]; exact hp.nodup_iff.2 hn, List.pairwise_map.2 hs, fun k c => ?_⟩, _, hv, by rw [List.length_map, List.length_map], fun i c hc => ?_⟩
  · rw [List.mem_map]
    constructor
    · rintro ⟨k', hk', e⟩
      simp only [Prod.mk.injEq] at e
      obtain ⟨rfl, rfl⟩ := e
      exact ⟨rfl, (hk k').1 (hp.mem_iff.1 hk')⟩
    · rintro ⟨rfl, hl⟩
      exact ⟨k, hp.mem_iff.2 ((hk k).2 hl), rfl⟩
  · rw [List.getElem?_map] at hc
    obtain ⟨k, hki, rfl⟩ := Option.map_eq_some_iff.1 hc
    have hkm : k ∈ ks := hp.mem_iff.1 (List.mem_of_getElem? hki)
    rw [← h.1] at hkm
    obtain ⟨c0, hc0, rfl⟩ := List.mem_map.1 hkm
    obtain ⟨h1, h2, h3, h4⟩ := h.2 c0 hc0
    rw [celAtK_mem hn2 hc0]
    exact ⟨(c0.key, G c0.key), by rw [List.getElem?_map, hki]; rfl, rfl, h1, h2, h3, h4.isTexts⟩
end Go.Proofs.YtpmnflnaeknakaaGreatDoor
