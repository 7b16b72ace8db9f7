/-
  slices.Clone, Delete and Insert of writes, in rows of the call's own.
-/
import Derived.Test.YtcoejiehckileaaDoorWrs
import Derived.Lib.Overlaps
import Derived.Lib.AppendZerosOnto
import Derived.Laws.IdiomCopy
import Derived.Deep.AppendSrc
import Derived.Deep.Upon
import Derived.Lib.JoinLaws
import Derived.Lib.SliceRun
import Derived.Deep.RegionLaw
import Derived.Laws.Externs
import Derived.Lib.Walk
import Derived.WalkSmall
namespace Go.Proofs.YtcoejiehckileaaDoor
open Go.RowKit

/-- A row of writes in block g that may be written: its cells, and room for so many. -/
def rowAt (w : World) (g off cap : Nat) (l : List Wr) : Prop :=
  (∀ j u, (wrsC l)[j]? = some u → w.cell? ⟨g, off + j, none⟩ = some u) ∧ (∀ j, j < cap * 6 → (w.cell? ⟨g, off + j, none⟩).isSome = true ∧ w.frozen? ⟨g, off + j, none⟩ = false)
theorem ownsW.rowAt {w : World} {base : Nat} {v : Value} {l : List Wr} (h : ownsW w base v l) (h0 : 0 < l.length) :
    ∃ g cap, v = .slice (some ⟨g, 0, none⟩) l.length cap ∧ base ≤ g ∧ g < w.heap.size ∧ l.length ≤ cap ∧ cap ≤ maxLen ∧ rowAt w g 0 cap l ∧ w.shape? g = some (37, cap * 6) := by
  have hall := h
  have hlt := h.lt
  obtain ⟨_, h1⟩ := h
  rcases h1 with ⟨rfl, hn⟩ | ⟨g, cap, cur, rfl, hb, hh, hc, hm, hs, ht⟩
  · omega
  · refine ⟨g, cap, rfl, hb, (hlt g rfl).2, hc, hm, ⟨fun j u hj => ?_, fun j hj => ⟨?_, ?_⟩⟩, ?_⟩
    · have hjl : j < l.length * 6 := by rw [← wrsC_len]; exact (List.getElem?_eq_some_iff.1 hj).1
      rw [Nat.zero_add, World.ownsRow.cellAt hall j hjl]
      exact hj
    · rw [Nat.zero_add, cell_of_row _ _ j _ _ (0, 0) hh, Array.getElem?_eq_getElem (by rw [hs]; exact hj)]; rfl
    · simp [World.frozen?, hh]
    · simp [World.shape?, hh, hs]

theorem run_copyK {P : Program} (w : World) (dT sT ty elem : TypeId) (size : Nat) (b o dLen dCap : Nat) (a : Addr) (sLen sCap : Nat) (cs : List Value)
    (hu : P.underlying dT = some (.slice elem)) (hs : (P.info? elem).map (·.size) = some size) (hn : cs.length = Nat.min sLen dLen * size)
    (hsrc : ∀ j v, cs[j]? = some v → w.cell? (a.add j) = some v) (hc : ∀ j, j < cs.length → (w.cell? ⟨b, o + j, none⟩).isSome = true) (hf : ∀ j, j < cs.length → w.frozen? ⟨b, o + j, none⟩ = false) (h1 : ∀ v ∈ cs, v.oneCell' = true) :
    (Builtin.copy_ #[dT, sT] ty #[.slice (some ⟨b, o, none⟩) dLen dCap, .slice (some a) sLen sCap]).run P w = .ok (goInt (Nat.min sLen dLen)) (w.setCells b o cs) := by
  have hl := run_loadCells_list (P := P) w a cs hsrc
  have hst := run_storeCells_cells (P := P) b o cs 0 w (by simpa using hc) (by simpa using hf) h1
  cases hq : P.info? elem with
  | none => simp [hq] at hs
  | some i =>
    have hi : i.size = size := by simpa [hq] using hs
    simp [Builtin.copy_, run_underlying hu, Builtin.lenOf, Builtin.firstCells, sizeOf, typeInfo, hq, hi, ← hn, hl, hst]

/-- The zero write's cells. -/
def zeroWs : List Value := [.int .i64 0, .int .i64 0, .int .i64 0, .string ⟨#[]⟩, .string ⟨#[]⟩, .int .i64 0]
theorem run_clearW (w : World) (ty : TypeId) (b o c : Nat)
    (hc : ∀ j, j < 6 → (w.cell? ⟨b, o + j, none⟩).isSome = true) (hf : ∀ j, j < 6 → w.frozen? ⟨b, o + j, none⟩ = false) :
    (Builtin.clear_ #[22] ty #[.slice (some ⟨b, o, none⟩) 1 c]).run Tryd.prog w = .ok (.tuple #[]) (w.setCells b o zeroWs) := by
  have hv : (zeroValue 37).run Tryd.prog w = .ok (.agg zeroWs.toArray) w := by simp [zeroWs]
  have hzc : (Builtin.zeroCells (Value.agg zeroWs.toArray).cells 1).toList = zeroWs := by simp [Builtin.zeroCells, zeroWs, Value.cells]; rfl
  have hst := run_storeCells_cells (P := Tryd.prog) b o zeroWs 0 w (fun j hj => by simpa using hc j hj) (fun j hj => by simpa using hf j hj) (by decide +kernel)
  simp only [Nat.add_zero] at hst
  simp [Builtin.clear_, run_underlying Tryd.underlying22, hv, hzc, hst]

theorem rowAt.cell {w : World} {g off cap : Nat} {l : List Wr} (h : rowAt w g off cap l) {j : Nat} {u : Value} (hj : (wrsC l)[j]? = some u) : w.cell? ⟨g, off + j, none⟩ = some u := h.1 j u hj
theorem rowAt.drew {w : World} {g off cap : Nat} {l : List Wr} (h : rowAt w g off cap l) : rowAt w.drew g off cap l := h

/-- What Delete leaves: the writes ahead, then those behind. -/
theorem del_cells {w : World} {g off cap i j : Nat} {l : List Wr} {zs : List Value} (h : rowAt w g off cap l) (hj : j = i + 1) (hi : i < l.length) (hc : l.length ≤ cap) :
    ∀ k u, (wrsC (l.take i ++ l.drop j))[k]? = some u → ((w.setCells g (off + i * 6) (wrsC (l.drop j))).setCells g (off + (i + (l.length - j)) * 6) zs).cell? ⟨g, off + k, none⟩ = some u := by
  intro k u hk
  have hdl : (wrsC (l.drop j)).length = (l.length - j) * 6 := by rw [wrsC_len, List.length_drop]
  have htl : (wrsC (l.take i)).length = i * 6 := by rw [wrsC_len, List.length_take]; omega
  have hkl : k < (i + (l.length - j)) * 6 := by
    have := (List.getElem?_eq_some_iff.1 hk).1
    rw [wrsC_len, List.length_append, List.length_take, List.length_drop] at this
    omega
  rw [World.cell?_setCells_out _ _ _ _ _ (fun _ _ => .inl (by show off + k < _; omega))]
  rw [wrsC_app] at hk
  by_cases hlt : k < i * 6
  · rw [World.cell?_setCells_out _ _ _ _ _ (fun _ _ => .inl (by show off + k < _; omega))]
    rw [List.getElem?_append_left (by omega), wrsC_take, List.getElem?_take_of_lt hlt] at hk
    exact h.1 k u hk
  · rw [List.getElem?_append_right (by omega), htl] at hk
    have := World.cell?_setCells_in g (wrsC (l.drop j)) (off + i * 6) w (fun t ht => by rw [Nat.add_assoc]; exact (h.2 (i * 6 + t) (by omega)).1) (k - i * 6) (by omega)
    rw [show off + i * 6 + (k - i * 6) = off + k by omega] at this
    rw [this, ← hk, List.getElem?_eq_getElem]

theorem step_append_runW {P : Program} {ops : Array Oper} {o : Oper} {a : Act} {w : World} {K : Act → World → Prop} {Q : Exit → Act → World → Prop} {E : Prop}
    (hg : o.guard = none) (d x : Operand) (dT sT : TypeId) (hop : o.op = Op.call { callee := Callee.builtin Builtin.append, args := #[d, x], argTypes := #[dT, sT] })
    (v u : Value) (hd : a.eval d = v) (hx : a.eval x = u) {v' : Value} {w' : World} (hr : (Builtin.append_ #[dT, sT] o.type #[v, u]).run P w = .ok v' w') (hK : K (a.put o.dst v') w') :
    if Region.wanted o (yielded ops a.tmps) = true then Oper.wp P o a w K Q else E := by
  have hw : Region.wanted o (yielded ops a.tmps) = true := by simp [Region.wanted, hg]
  rw [if_pos hw]
  unfold Oper.wp
  simp [execOp, hop, resolve, invoke, builtin, hd, hx, hr, Result.andThen]
  exact hK

theorem below_setCells {w wr : World} {base g : Nat} (h : Below base w wr) (hg : base ≤ g) : ∀ (vs : List Value) (o : Nat), Below base w (wr.setCells g o vs) := by
  intro vs
  induction vs generalizing wr with
  | nil => intro o; exact h
  | cons v r ih => intro o; exact ih (h.setCell hg _) (o + 1)


/-- append of another row of writes, behind one of the call's own. -/
theorem wpList_append_wrs {w : World} {ops : Array Oper} {rest : List Oper} {o : Oper} {a : Act} {Q : Exit → Act → World → Prop} (hgd : o.guard = none) (s x : Operand)
    (ho : o.op = .call { callee := .builtin .append, args := #[s, x], argTypes := #[22, 22] })
    (base : Nat) (v : Value) (l : List Wr) (hs : a.eval s = v) (hown : ownsW w base v l)
    (B off c n : Nat) (hx : a.eval x = .slice (some ⟨B, off, none⟩) n c) (m : List Wr) (hn : n = m.length) (hcell : ∀ j u, (wrsC m)[j]? = some u → w.cell? ⟨B, off + j, none⟩ = some u)
    (hm : 0 < m.length) (hlen : l.length + m.length ≤ 1000000) (hbase : base ≤ w.heap.size)
    (h : ∀ g cap w', ownsW w' base (.slice (some ⟨g, 0, none⟩) (l.length + m.length) cap) (l ++ m) → w.grownBy w' v.ownBlock → wpList Tryd.prog ops Q rest (a.put o.dst (.slice (some ⟨g, 0, none⟩) (l.length + m.length) cap)) w') : wpList Tryd.prog ops Q (o :: rest) a w := by
  subst hn
  obtain ⟨i0, hi, hz0, hz1, hz2⟩ := info_parts info_wr
  refine wpList_append_lies w hgd s x 22 ho base 37 i0 (.agg #[.int .i64 0, .int .i64 0, .int .i64 0, .string ⟨#[]⟩, .string ⟨#[]⟩, .int .i64 0]) 6 64 Tryd.underlying22 hi hz0 hz1 hz2 rfl (by decide) v l.length (wrsC l) hs hown ⟨B, off, none⟩ m.length c (wrsC m) hx (wrsC_len m) ?_ (wrsC_cell m) hm (by unfold maxLen; omega) (by omega) hbase _ rfl ?_
  · intro j u hj
    have hadd : (⟨B, off, none⟩ : Addr).add j = ⟨B, off + j, none⟩ := by unfold Addr.add; split <;> simp_all
    rw [hadd]; exact hcell j u hj
  · intro g cap w' h1 h2 _ _
    refine h g cap w' ?_ h2
    unfold ownsW
    rw [List.length_append, wrsC_app]
    exact h1
theorem ownsW_none (w : World) : ownsW (w.alloc (.cells #[] 37)) w.heap.size (.slice (some ⟨w.heap.size, 0, none⟩) 0 0) [] :=
  ⟨rfl, .inr ⟨w.heap.size, 0, #[], rfl, Nat.le_refl _, heap_alloc_new w _, Nat.le_refl _, Nat.zero_le _, rfl, rfl⟩⟩

set_option maxRecDepth 100000 in
set_option maxHeartbeats 4000000 in
theorem clone_wrs (v : Value) (l : List Wr) (w : World) (hv : IsWrs w v l) (h0 : 0 < l.length) (h6 : l.length ≤ 1000000) :
    Calls Tryd.prog 27 #[v] w fun e w' => ∃ v', e = .returned v' ∧ ownsW w' w.heap.size v' l ∧ Below w.heap.size w w' := by
  rcases hv with ⟨a, c, rfl, rfl⟩ | ⟨b, off, c, rfl, h1, h2, h3⟩
  · exact absurd h0 (Nat.lt_irrefl _)
  · have H3 := Lib.hid h3
    obtain ⟨n, hn⟩ : ∃ n, n = l.length := ⟨_, rfl⟩
    rw [← hn] at h1 h0 h6 ⊢
    have HN := Lib.hid hn
    clear h3 hn
    have heq : ∀ w : World, (binOp BinOp.eql 22 (.slice (some ⟨b, off, none⟩) n c) (.slice none 0 0)).run Tryd.prog w = .ok (.bool false) w := fun w => Go.Lib.run_eql_slice_nil w _ _ (some ⟨b, off, none⟩) n c 0 0 Tryd.underlying22
    go_enter Tryd.func27, Tryd.ntmps27
    go_wp2_with (at_builtin; refine wpList_append_wrs rfl _ _ rfl w.heap.size _ [] rfl (ownsW_none w) b off c n rfl l HN.out ?c1 ?c2 ?c3 ?c4 ?_)
    case c1 => exact fun j u hj => (World.cell?_alloc_lt w _ (⟨b, off + j, none⟩ : Addr) h2).trans (H3.out j u hj)
    case c2 => have := HN.out; omega
    case c3 => have := HN.out; simp; omega
    case c4 => simp
    intro g cap w' ho hg
    have HO := Lib.hid ho
    have HB : Hid (Below w.heap.size w w') := Lib.hid (((Below.refl _ _).alloc (Nat.le_refl _) _).grown hg (by simp) (fun k hk => by
      have e : w.heap.size = k := by simpa [Value.ownBlock] using hk
      omega))
    clear ho hg
    go_wp2
    go_ret
    exact ⟨_, rfl, by simpa using HO.out, HB.out⟩
end Go.Proofs.YtcoejiehckileaaDoor
