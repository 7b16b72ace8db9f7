/-
  What writes come to: the plain mathematics of cells.
-/
import Derived.Test.YtpmnflnaeknakaaGreatDoorKeyM
import Derived.Test.YtpmnflnaeknakaaGreatDoorWriteArg
namespace Go.Proofs.YtpmnflnaeknakaaGreatDoor

/-- What stands in a cell. -/
structure Cel where
  has : Bool
  text : ByteArray
  sum : Int
  list : List ByteArray
def cel0 : Cel := ⟨false, ⟨#[]⟩, 0, []⟩
/-- A text put into a list, so that n are ahead of it. -/
def insL (l : List ByteArray) (n : Int) (v : ByteArray) : List ByteArray := l.take (min n.toNat l.length) ++ (v :: l.drop (min n.toNat l.length))
/-- What a write makes of its cell. -/
def stepC (c : Cel) (w : Wr) : Cel :=
  if w.kind = 1 then { c with has := true, text := w.value }
  else if w.kind = 2 then cel0
  else if w.kind = 3 then { c with sum := IntKind.i64.wrap (c.sum + w.n) }
  else if w.kind = 4 then { c with list := insL c.list w.n w.value }
  else c
def live (c : Cel) : Bool := c.has || c.sum != 0 || !c.list.isEmpty
/-- What stands under a key. -/
def cellK (l : List Wr) (k : ByteArray) : Cel := (l.filter (fun w => decide (w.key = k))).foldl stepC cel0
def leB (a b : ByteArray) : Bool := decide (a.data.toList ≤ b.data.toList)
/-- The keys, each once, rising. -/
def keysS (l : List Wr) : List ByteArray := (tabK [] (l.map (·.key))).mergeSort leB
def cellsF (l : List Wr) : List (ByteArray × Cel) := ((keysS l).map fun k => (k, cellK l k)).filter fun c => live c.2

theorem leB_trans (a b c : ByteArray) (h : leB a b = true) (k : leB b c = true) : leB a c = true := by
  unfold leB at *; simp only [decide_eq_true_eq] at *; exact List.le_trans h k
theorem leB_total (a b : ByteArray) : (leB a b || leB b a) = true := by
  unfold leB; simp only [Bool.or_eq_true, decide_eq_true_eq]; exact List.le_total _ _
theorem leB_anti {a b : ByteArray} (h : leB a b = true) (k : leB b a = true) : a = b := by
  unfold leB at *; simp only [decide_eq_true_eq] at *
  have e := List.le_antisymm h k
  cases a; cases b; simp_all
theorem keysS_perm (l : List Wr) : (keysS l).Perm (tabK [] (l.map (·.key))) := List.mergeSort_perm _ _
theorem keysS_mem {l : List Wr} {k : ByteArray} : k ∈ keysS l ↔ ∃ w ∈ l, w.key = k := by
  rw [(keysS_perm l).mem_iff]
  constructor
  · intro h
    rcases tabK_sub _ _ _ h with h | h
    · cases h
    · obtain ⟨w, hw, e⟩ := List.mem_map.1 h; exact ⟨w, hw, e⟩
  · rintro ⟨w, hw, rfl⟩
    exact tabK_has _ _ _ (List.mem_map.2 ⟨w, hw, rfl⟩)
theorem keysS_sorted (l : List Wr) : (keysS l).Pairwise (fun a b => leB a b = true) := List.pairwise_mergeSort leB_trans leB_total _
theorem keysS_nodup (l : List Wr) : (keysS l).Nodup := (keysS_perm l).nodup_iff.2 (tabK_nodup _ _ List.nodup_nil)
/-- Sorted by keys, each once, is told by what is in it. -/
theorem sorted_unique {α : Type} {x y : List (ByteArray × α)} (hx : (x.map (·.1)).Nodup) (hy : (y.map (·.1)).Nodup) (sx : x.Pairwise (fun a b => leB a.1 b.1 = true)) (sy : y.Pairwise (fun a b => leB a.1 b.1 = true)) (h : ∀ c, c ∈ x ↔ c ∈ y) : x = y := by
  have nx : x.Nodup := (List.pairwise_map.1 hx).imp (fun h e => h (by rw [e]))
  have ny : y.Nodup := (List.pairwise_map.1 hy).imp (fun h e => h (by rw [e]))
  have hp : x.Perm y := (List.perm_ext_iff_of_nodup nx ny).2 h
  refine List.Perm.eq_of_pairwise (le := fun a b => leB a.1 b.1 = true) ?_ sx sy hp
  intro a b ha hb h1 h2
  have e1 := leB_anti h1 h2
  have hb' := (h b).2 hb
  by_cases e : a = b
  · exact e
  · exfalso
    obtain ⟨i, hi, rfl⟩ := List.getElem_of_mem ha
    obtain ⟨j, hj, rfl⟩ := List.getElem_of_mem hb'
    have hi' : i < (x.map (·.1)).length := by simpa using hi
    have hj' : j < (x.map (·.1)).length := by simpa using hj
    have : (x.map (·.1))[i] = (x.map (·.1))[j] := by simpa using e1
    have hij : i = j := (List.getElem_inj hx).1 this
    subst hij
    exact e rfl
theorem cellsF_keys (l : List Wr) : (cellsF l).map (·.1) = (keysS l).filter fun k => live (cellK l k) := by
  unfold cellsF
  rw [List.filter_map, List.map_map]
  simp [Function.comp_def]
theorem cellsF_nodup (l : List Wr) : ((cellsF l).map (·.1)).Nodup := by rw [cellsF_keys]; exact (keysS_nodup l).filter _
theorem cellsF_sorted (l : List Wr) : (cellsF l).Pairwise (fun a b => leB a.1 b.1 = true) := by
  unfold cellsF
  exact List.Pairwise.filter _ (List.pairwise_map.2 (keysS_sorted l))
theorem cellK_none {l : List Wr} {k : ByteArray} (h : ∀ w ∈ l, w.key ≠ k) : cellK l k = cel0 := by
  unfold cellK
  rw [List.filter_eq_nil_iff.2 (fun w hw => by simpa using h w hw)]; rfl
theorem cellsF_mem {l : List Wr} {k : ByteArray} {c : Cel} : (k, c) ∈ cellsF l ↔ cellK l k = c ∧ live c = true := by
  unfold cellsF
  rw [List.mem_filter, List.mem_map]
  constructor
  · rintro ⟨⟨k', hk, e⟩, hl⟩
    injection e with e1 e2
    subst e1
    exact ⟨e2, hl⟩
  · rintro ⟨rfl, hl⟩
    refine ⟨⟨k, ?_, rfl⟩, hl⟩
    rw [keysS_mem]
    refine Classical.byContradiction fun hn => ?_
    rw [cellK_none (fun w hw e => hn ⟨w, hw, e⟩)] at hl
    exact absurd hl (by decide)
/-- Cells are told by what stands under each key. -/
theorem cells_same {l m : List Wr} (h : ∀ k, cellK l k = cellK m k) : cellsF l = cellsF m := by
  refine sorted_unique (cellsF_nodup l) (cellsF_nodup m) (cellsF_sorted l) (cellsF_sorted m) ?_
  rintro ⟨k, c⟩
  rw [cellsF_mem, cellsF_mem, h]
theorem cellK_app (l m : List Wr) (k : ByteArray) : cellK (l ++ m) k = (m.filter (fun w => decide (w.key = k))).foldl stepC (cellK l k) := by
  unfold cellK; rw [List.filter_append, List.foldl_append]
/-- What stands under a key stands there of that key's writes alone. -/
theorem cellK_mine (l : List Wr) (k j : ByteArray) : cellK (l.filter (fun w => decide (w.key = k))) j = if j = k then cellK l j else cel0 := by
  split
  · rename_i e
    subst e
    unfold cellK
    rw [List.filter_filter]
    simp
  · rename_i e
    exact cellK_none (fun w hw => by have := (List.mem_filter.1 hw).2; simp only [decide_eq_true_eq] at this; rw [this]; exact fun h => e h.symm)
theorem cellK_others (l : List Wr) (k j : ByteArray) : cellK (l.filter (fun w => !decide (w.key = k))) j = if j = k then cel0 else cellK l j := by
  split
  · rename_i e
    exact cellK_none (fun w hw => by have := (List.mem_filter.1 hw).2; simp at this; rw [e]; exact this)
  · rename_i e
    unfold cellK
    rw [List.filter_filter]
    congr 1
    refine List.filter_congr fun w _ => ?_
    by_cases hw : w.key = j
    · simp [hw, e]
    · simp [hw]
/-- Key by key: the cells of one key's writes, and of all others', sorted, are all. -/
theorem cells_keys (l : List Wr) (k : ByteArray) {z : List (ByteArray × Cel)} (hz : z.Perm (cellsF (l.filter (fun w => decide (w.key = k))) ++ cellsF (l.filter (fun w => !decide (w.key = k))))) (hs : z.Pairwise (fun a b => leB a.1 b.1 = true)) : z = cellsF l := by
  have hm : ∀ c : ByteArray × Cel, c ∈ z ↔ c ∈ cellsF l := by
    rintro ⟨j, c⟩
    rw [hz.mem_iff, List.mem_append, cellsF_mem, cellsF_mem, cellsF_mem, cellK_mine, cellK_others]
    by_cases e : j = k
    · rw [if_pos e, if_pos e]
      constructor
      · rintro (h | ⟨rfl, h⟩)
        · exact h
        · exact absurd h (by decide)
      · exact .inl
    · rw [if_neg e, if_neg e]
      constructor
      · rintro (⟨rfl, h⟩ | h)
        · exact absurd h (by decide)
        · exact h
      · exact .inr
  refine sorted_unique ?_ (cellsF_nodup l) hs (cellsF_sorted l) hm
  rw [(hz.map (·.1)).nodup_iff, List.map_append, List.nodup_append]
  refine ⟨cellsF_nodup _, cellsF_nodup _, ?_⟩
  intro a ha b hb e
  subst e
  obtain ⟨⟨a1, c1⟩, h1, rfl⟩ := List.mem_map.1 ha
  obtain ⟨⟨a2, c2⟩, h2, e2⟩ := List.mem_map.1 hb
  simp only at e2
  subst e2
  rw [cellsF_mem, cellK_mine] at h1
  rw [cellsF_mem, cellK_others] at h2
  by_cases e : a2 = k
  · rw [if_pos e] at h2; rw [← h2.1] at h2; exact absurd h2.2 (by decide)
  · rw [if_neg e] at h1; rw [← h1.1] at h1; exact absurd h1.2 (by decide)
theorem stepC_drop {w : Wr} (h : w.kind = 2) (c : Cel) : stepC c w = cel0 := by unfold stepC; rw [if_neg (by omega), if_pos h]
/-- What is dropped is gone. -/
theorem cells_drop (a b : List Wr) (d : Wr) (hd : d.kind = 2) : cellsF (a ++ [d] ++ b) = cellsF (a.filter (fun w => !decide (w.key = d.key)) ++ b) := by
  refine cells_same fun k => ?_
  rw [cellK_app, cellK_app, cellK_app, cellK_others]
  congr 1
  by_cases e : k = d.key
  · rw [if_pos e, List.filter_cons, if_pos (by simp [e]), List.filter_nil]
    simp [stepC_drop hd]
  · rw [if_neg e, List.filter_cons, if_neg (by simpa using fun h => e h.symm), List.filter_nil]; rfl
theorem stepC_again {w : Wr} (h : w.kind = 1 ∨ w.kind = 2) (c : Cel) : stepC (stepC c w) w = stepC c w := by
  rcases h with h | h
  · unfold stepC; rw [if_pos h, if_pos h]
  · rw [stepC_drop h, stepC_drop h]
/-- A Put twice is as once; so is a Drop. -/
theorem cells_again (a b : List Wr) (w : Wr) (h : w.kind = 1 ∨ w.kind = 2) : cellsF (a ++ (w :: w :: b)) = cellsF (a ++ (w :: b)) := by
  refine cells_same fun k => ?_
  rw [cellK_app, cellK_app]
  by_cases e : w.key = k
  · rw [List.filter_cons, if_pos (by simp [e]), List.filter_cons, if_pos (by simp [e]), List.foldl_cons, List.foldl_cons, List.foldl_cons, stepC_again h]
  · rw [List.filter_cons, if_neg (by simp [e]), List.filter_cons, if_neg (by simp [e])]
/-- A fact that every write keeps stands of every cell. -/
theorem cellK_keeps {Q : Cel → Prop} {l : List Wr} {k : ByteArray} (h0 : Q cel0) (h : ∀ c, ∀ w ∈ l, w.key = k → Q c → Q (stepC c w)) : Q (cellK l k) := by
  have key : ∀ (m : List Wr) (c : Cel), (∀ w ∈ m, w ∈ l ∧ w.key = k) → Q c → Q (m.foldl stepC c) := by
    intro m
    induction m with
    | nil => intro c _ hc; exact hc
    | cons w m ih =>
      intro c hm hc
      have hw := hm w List.mem_cons_self
      exact ih _ (fun x hx => hm x (List.mem_cons_of_mem _ hx)) (h c w hw.1 hw.2 hc)
  unfold cellK
  exact key _ _ (fun w hw => by have := List.mem_filter.1 hw; exact ⟨this.1, by simpa using this.2⟩) h0
theorem cell_text (l : List Wr) (k : ByteArray) : (cellK l k).has = false → (cellK l k).text = ⟨#[]⟩ := by
  refine cellK_keeps (Q := fun c => c.has = false → c.text = ⟨#[]⟩) (fun _ => rfl) ?_
  intro c w _ _ hc
  unfold stepC
  split
  · intro h; cases h
  · split
    · intro _; rfl
    · split
      · exact hc
      · split
        · exact hc
        · exact hc
/-- Has, and the text: of the last Put, if no Drop is behind it. -/
def lastP (l : List Wr) (k : ByteArray) : Bool × ByteArray := l.foldl (fun a w => if w.key = k ∧ w.kind = 2 then (false, ⟨#[]⟩) else if w.key = k ∧ w.kind = 1 then (true, w.value) else a) (false, ⟨#[]⟩)
theorem cell_last (l : List Wr) (k : ByteArray) : ((cellK l k).has, (cellK l k).text) = lastP l k := by
  have key : ∀ (m : List Wr) (c : Cel) (a : Bool × ByteArray), (c.has, c.text) = a →
      ((((m.filter (fun w => decide (w.key = k))).foldl stepC c).has, ((m.filter (fun w => decide (w.key = k))).foldl stepC c).text)) = m.foldl (fun a w => if w.key = k ∧ w.kind = 2 then (false, ⟨#[]⟩) else if w.key = k ∧ w.kind = 1 then (true, w.value) else a) a := by
    intro m
    induction m with
    | nil => intro c a h; exact h
    | cons w m ih =>
      intro c a h
      rw [List.foldl_cons]
      by_cases e : w.key = k
      · rw [List.filter_cons, if_pos (by simp [e]), List.foldl_cons]
        refine ih _ _ ?_
        by_cases h1 : w.kind = 1
        · simp [stepC, e, h1]
        · by_cases h2 : w.kind = 2
          · simp [stepC, e, h2, cel0]
          · have h3 : (stepC c w).has = c.has ∧ (stepC c w).text = c.text := by
              unfold stepC
              rw [if_neg h1, if_neg h2]
              split
              · exact ⟨rfl, rfl⟩
              · split <;> exact ⟨rfl, rfl⟩
            rw [h3.1, h3.2, h]
            simp [e, h1, h2]
      · rw [List.filter_cons, if_neg (by simp [e]), if_neg (by simp [e]), if_neg (by simp [e])]
        exact ih _ _ h
  exact key l cel0 (false, ⟨#[]⟩) rfl
/-- The sum of what is added under a key. -/
def sumK (l : List Wr) (k : ByteArray) : Int := ((l.filter (fun w => decide (w.key = k))).map (·.n)).sum
theorem wrap_add (a b : Int) : IntKind.i64.wrap (IntKind.i64.wrap a + b) = IntKind.i64.wrap (a + b) := by
  rw [IntKind.wrap_i64, IntKind.wrap_i64, IntKind.wrap_i64]; omega
theorem cell_adds {l : List Wr} (h : ∀ w ∈ l, w.kind = 3) (k : ByteArray) : cellK l k = ⟨false, ⟨#[]⟩, IntKind.i64.wrap (sumK l k), []⟩ := by
  have key : ∀ (m : List Wr) (z : Int), (∀ w ∈ m, w.kind = 3) → m.foldl stepC ⟨false, ⟨#[]⟩, IntKind.i64.wrap z, []⟩ = ⟨false, ⟨#[]⟩, IntKind.i64.wrap (z + (m.map (·.n)).sum), []⟩ := by
    intro m
    induction m with
    | nil => intro z _; simp
    | cons w m ih =>
      intro z hm
      have hw := hm w List.mem_cons_self
      have e : stepC ⟨false, ⟨#[]⟩, IntKind.i64.wrap z, []⟩ w = ⟨false, ⟨#[]⟩, IntKind.i64.wrap (z + w.n), []⟩ := by
        unfold stepC
        rw [if_neg (by omega), if_neg (by omega), if_pos hw]
        simp only [wrap_add]
      rw [List.foldl_cons, e, ih _ (fun x hx => hm x (List.mem_cons_of_mem _ hx)), List.map_cons, List.sum_cons, Int.add_assoc]
  have h2 := key (l.filter (fun w => decide (w.key = k))) 0 (fun w hw => h w (List.mem_filter.1 hw).1)
  unfold cellK sumK
  rw [Int.zero_add] at h2
  exact h2
theorem sumK_rev (l : List Wr) (k : ByteArray) : sumK l.reverse k = sumK l k := by
  unfold sumK
  rw [List.filter_reverse, List.map_reverse, List.sum_reverse]
/-- In whichever order. -/
theorem cells_sums {l : List Wr} (h : ∀ w ∈ l, w.kind = 3) : cellsF l.reverse = cellsF l := by
  refine cells_same fun k => ?_
  rw [cell_adds h, cell_adds (fun w hw => h w (List.mem_reverse.1 hw)), sumK_rev]
theorem insL_perm (l : List ByteArray) (n : Int) (v : ByteArray) : (insL l n v).Perm (v :: l) := by
  unfold insL
  refine (List.perm_middle).trans ?_
  rw [List.take_append_drop]
/-- None is lost. -/
theorem cell_lists {l : List Wr} (h : ∀ w ∈ l, w.kind = 4) (k : ByteArray) : (cellK l k).has = false ∧ (cellK l k).sum = 0 ∧ (cellK l k).list.Perm ((l.filter (fun w => decide (w.key = k))).map (·.value)) := by
  have key : ∀ (m : List Wr) (c : Cel), (∀ w ∈ m, w.kind = 4) → (m.foldl stepC c).has = c.has ∧ (m.foldl stepC c).sum = c.sum ∧ (m.foldl stepC c).list.Perm (c.list ++ m.map (·.value)) := by
    intro m
    induction m with
    | nil => intro c _; exact ⟨rfl, rfl, by simp⟩
    | cons w m ih =>
      intro c hm
      have hw := hm w List.mem_cons_self
      have e : stepC c w = { c with list := insL c.list w.n w.value } := by
        unfold stepC
        rw [if_neg (by omega), if_neg (by omega), if_neg (by omega), if_pos hw]
      obtain ⟨i1, i2, i3⟩ := ih (stepC c w) (fun x hx => hm x (List.mem_cons_of_mem _ hx))
      rw [List.foldl_cons]
      refine ⟨by rw [i1, e], by rw [i2, e], i3.trans ?_⟩
      rw [e, List.map_cons]
      simp only
      exact ((insL_perm c.list w.n w.value).append_right _).trans (by simpa using (List.perm_middle (a := w.value) (l₁ := c.list) (l₂ := m.map (·.value))).symm)
  have h2 := key (l.filter (fun w => decide (w.key = k))) cel0 (fun w hw => h w (List.mem_filter.1 hw).1)
  refine ⟨h2.1, h2.2.1, ?_⟩
  unfold cellK
  simpa [cel0] using h2.2.2
end Go.Proofs.YtpmnflnaeknakaaGreatDoor
