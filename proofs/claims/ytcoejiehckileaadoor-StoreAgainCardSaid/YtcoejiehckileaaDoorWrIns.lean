/-
  slices.Insert of one write ahead of another one, in a row of the call's own: where there is room, and where there is none.
-/
import Derived.Test.YtcoejiehckileaaDoorWrSl
namespace Go.Proofs.YtcoejiehckileaaDoor
open Go.RowKit

theorem wpList_copy_runW {P : Program} (w : World) {ops : Array Oper} {rest : List Oper} {o : Oper} {a : Act} {Q : Exit → Act → World → Prop} (hgd : o.guard = none) (d s : Operand) (t t' : TypeId)
    (ho : o.op = .call { callee := .builtin .copy, args := #[d, s], argTypes := #[t, t'] }) (v u : Value) (hd : a.eval d = v) (hs : a.eval s = u) {v' : Value} {w' : World}
    (hr : (Builtin.copy_ #[t, t'] o.type #[v, u]).run P w = .ok v' w') (h : wpList P ops Q rest (a.put o.dst v') w') : wpList P ops Q (o :: rest) a w :=
  wpList_plain hgd fun K hK => by
    unfold Oper.wp execOp
    simp only [ho, resolve, invoke, builtin, Sem.run_bind, Sem.run_pure, Result.andThen_ok, List.map_toArray, List.map_cons, List.map_nil, hd, hs, hr]
    exact hK _ _ h
theorem step_copy_runW {P : Program} {ops : Array Oper} {o : Oper} {a : Act} {w : World} {K : Act → World → Prop} {Q : Exit → Act → World → Prop} {E : Prop}
    (hg : o.guard = none) (d x : Operand) (dT sT : TypeId) (hop : o.op = Op.call { callee := Callee.builtin Builtin.copy, args := #[d, x], argTypes := #[dT, sT] })
    (v u : Value) (hd : a.eval d = v) (hx : a.eval x = u) {v' : Value} {w' : World} (hr : (Builtin.copy_ #[dT, sT] o.type #[v, u]).run P w = .ok v' w') (hK : K (a.put o.dst v') w') :
    if Region.wanted o (yielded ops a.tmps) = true then Oper.wp P o a w K Q else E := by
  have hw : Region.wanted o (yielded ops a.tmps) = true := by simp [Region.wanted, hg]
  rw [if_pos hw]
  unfold Oper.wp
  simp [execOp, hop, resolve, invoke, builtin, hd, hx, hr, Result.andThen]
  exact hK

theorem setCells_some (b : Nat) (vs : List Value) (o : Nat) (w : World) (h : ∀ j, j < vs.length → (w.cell? ⟨b, o + j, none⟩).isSome = true) (k : Nat) (hk : (w.cell? ⟨b, k, none⟩).isSome = true) : ((w.setCells b o vs).cell? ⟨b, k, none⟩).isSome = true := by
  by_cases hin : o ≤ k ∧ k < o + vs.length
  · have := World.cell?_setCells_in b vs o w h (k - o) (by omega)
    rw [show o + (k - o) = k by omega] at this
    rw [this]; rfl
  · rw [World.cell?_setCells_out b vs o w ⟨b, k, none⟩ (fun _ _ => by show k < o ∨ o + vs.length ≤ k; omega)]
    exact hk
/-- What an insertion leaves: what stood ahead, the write, what stood there and behind. -/
theorem ins_cells {w : World} {g off i : Nat} {l : List Wr} {x : Wr} (hi : i ≤ l.length) (hh : ∀ j, j < i * 6 → ∀ u, (wrsC l)[j]? = some u → w.cell? ⟨g, off + j, none⟩ = some u) (hall : ∀ j, j < (l.length + 1) * 6 → (w.cell? ⟨g, off + j, none⟩).isSome = true) :
    ∀ k u, (wrsC (l.take i ++ x :: l.drop i))[k]? = some u → ((w.setCells g (off + (i + 1) * 6) (wrsC (l.drop i))).setCells g (off + i * 6) (wrC x)).cell? ⟨g, off + k, none⟩ = some u := by
  intro k u hk
  have hdl : (wrsC (l.drop i)).length = (l.length - i) * 6 := by rw [wrsC_len, List.length_drop]
  have htl : (wrsC (l.take i)).length = i * 6 := by rw [wrsC_len, List.length_take]; omega
  have hxl : (wrC x).length = 6 := rfl
  have hkl : k < (l.length + 1) * 6 := by
    have := (List.getElem?_eq_some_iff.1 hk).1
    rw [wrsC_len, List.length_append, List.length_take, List.length_cons, List.length_drop] at this
    omega
  have hS1 : ∀ j, j < (wrsC (l.drop i)).length → (w.cell? ⟨g, off + (i + 1) * 6 + j, none⟩).isSome = true := fun j hj => by rw [Nat.add_assoc]; exact hall _ (by omega)
  rw [wrsC_app, show wrsC (x :: l.drop i) = wrC x ++ wrsC (l.drop i) by simp [wrsC]] at hk
  by_cases h1 : k < i * 6
  · rw [World.cell?_setCells_out _ _ _ _ _ (fun _ _ => .inl (by show off + k < _; omega)), World.cell?_setCells_out _ _ _ _ _ (fun _ _ => .inl (by show off + k < _; omega))]
    rw [List.getElem?_append_left (by omega), wrsC_take, List.getElem?_take_of_lt h1] at hk
    exact hh k h1 u hk
  · rw [List.getElem?_append_right (by omega), htl] at hk
    by_cases h2 : k < (i + 1) * 6
    · have := World.cell?_setCells_in g (wrC x) (off + i * 6) (w.setCells g (off + (i + 1) * 6) (wrsC (l.drop i))) (fun t ht => by
        rw [Nat.add_assoc]
        exact setCells_some g _ _ w hS1 _ (hall _ (by omega))) (k - i * 6) (by omega)
      rw [show off + i * 6 + (k - i * 6) = off + k by omega] at this
      rw [List.getElem?_append_left (by omega)] at hk
      rw [this, ← hk, List.getElem?_eq_getElem]
    · rw [List.getElem?_append_right (by omega), hxl] at hk
      rw [World.cell?_setCells_out _ _ _ _ _ (fun _ _ => .inr (by show _ ≤ off + k; omega))]
      have := World.cell?_setCells_in g (wrsC (l.drop i)) (off + (i + 1) * 6) w hS1 (k - (i + 1) * 6) (by omega)
      rw [show off + (i + 1) * 6 + (k - (i + 1) * 6) = off + k by omega] at this
      rw [this, ← hk, show k - i * 6 - 6 = k - (i + 1) * 6 by omega, List.getElem?_eq_getElem]

/-- What Insert answers. -/
def InsIs (w : World) (base i : Nat) (l : List Wr) (x : Wr) (e : Ending) (w' : World) : Prop :=
  ∃ g off cap, e = .returned (.slice (some ⟨g, off, none⟩) (l.length + 1) cap) ∧ l.length + 1 ≤ cap ∧ base ≤ g ∧ g < w'.heap.size ∧ (∀ k u, (wrsC (l.take i ++ x :: l.drop i))[k]? = some u → w'.cell? ⟨g, off + k, none⟩ = some u) ∧ w.heap.size ≤ w'.heap.size ∧ Below base w w'

set_option maxRecDepth 100000 in
set_option maxHeartbeats 4000000 in
/-- There is room. -/
theorem ins_room (g off cap i n vb vc : Nat) (l : List Wr) (x : Wr) (w : World) (base : Nat) (h : rowAt w g off cap l) (hsh : w.shape? g = some (37, cap * 6)) (hn : n = l.length) (hi : i < n) (hroom : n + 1 ≤ cap) (hm : cap ≤ 9223372036854775807) (hvb : wrBlk w vb x) (hne : vb ≠ g) (hgb : base ≤ g) (hgs : g < w.heap.size) :
    Calls Tryd.prog 34 #[.slice (some ⟨g, off, none⟩) n cap, .int .i64 (i : Int), .slice (some ⟨vb, 0, none⟩) 1 vc] w (InsIs w base i l x) := by
  have hwrs : (Tryd.prog.info? 37).map (·.size) = some 6 := by kernel_rfl
  obtain ⟨q, hq⟩ : ∃ q, q = i + 1 := ⟨_, rfl⟩
  obtain ⟨p, hp⟩ : ∃ p, p = n + 1 := ⟨_, rfl⟩
  obtain ⟨xs, hxs⟩ : ∃ xs, xs = wrC x := ⟨_, rfl⟩
  have hxl : xs.length = 6 := by rw [hxs]; rfl
  have hx1 : ∀ v ∈ xs, v.oneCell' = true := by rw [hxs]; exact wrC_cell x
  have hvc : ∀ j v, xs[j]? = some v → w.cell? ⟨vb, j, none⟩ = some v := fun j v hj => by
    rw [cell_of_row _ _ j _ _ (0, 0) hvb]; rw [hxs] at hj; simpa using hj
  have hic := ins_cells (w := w.drew) (g := g) (off := off) (i := i) (l := l) (x := x) (by omega) (fun j _ u hj => h.drew.1 j u hj) (fun j hj => (h.drew.2 j (by omega)).1)
  obtain ⟨ds, hds⟩ : ∃ ds, ds = wrsC (l.drop i) := ⟨_, rfl⟩
  rw [← hds, ← hxs, ← hq] at hic
  have hdl : ds.length = (n - i) * 6 := by rw [hds, wrsC_len, List.length_drop, hn]
  have hov : ∀ lb cb, (callFunc 56 #[.slice (some ⟨vb, 0, none⟩) 1 vc, .slice (some ⟨g, off + q * 6, none⟩) lb cb]).run Tryd.prog w = .ok (.value (.bool false)) w := fun lb cb => by
    rw [run_callFunc_extern Tryd.func56 (by kernel_rfl) (by kernel_rfl) (by kernel_rfl) (e := Extern.SlicesOverlaps.overlaps #[22, 22] #[4]) (by kernel_rfl),
      Lib.run_overlaps_apart w 22 4 37 Tryd.underlying22 6 (fun w => by kernel_rfl) ⟨vb, 0, none⟩ ⟨g, off + q * 6, none⟩ 1 vc lb cb hne 37 37 6 (cap * 6) (by unfold wrBlk at hvb; simp [World.shape?, hvb, wrC]) hsh (by omega) (by unfold wrBlk at hvb; simp [World.frozen?, hvb]) (by unfold wrBlk at hvb; simp [World.frozen?, hvb])]
    rfl
  have hcp1 : ∀ ty dc sc, (Builtin.copy_ #[22, 22] ty #[.slice (some ⟨g, off + q * 6, none⟩) (p - q) dc, .slice (some ⟨g, off + i * 6, none⟩) (p - i) sc]).run Tryd.prog w.drew = .ok (goInt (Nat.min (p - i) (p - q))) (w.drew.setCells g (off + q * 6) ds) := fun ty dc sc =>
    run_copyK w.drew _ _ ty 37 6 g (off + q * 6) (p - q) dc ⟨g, off + i * 6, none⟩ (p - i) sc ds Tryd.underlying22 hwrs (by rw [hdl]; simp only [Nat.min_def]; split <;> omega)
      (fun j v hj => by rw [Addr.add_lit, Nat.add_assoc]; refine h.drew.1 _ v ?_; rw [hds, wrsC_drop, List.getElem?_drop] at hj; exact hj)
      (fun j hj => by rw [Nat.add_assoc]; exact (h.drew.2 _ (by omega)).1) (fun j hj => by rw [Nat.add_assoc]; exact (h.drew.2 _ (by omega)).2) (fun v hv => by rw [hds] at hv; exact wrsC_cell _ v hv)
  obtain ⟨W1, hW1⟩ : ∃ W1, W1 = w.drew.setCells g (off + q * 6) ds := ⟨_, rfl⟩
  have hsp1 : ∀ k, k < cap * 6 → (W1.cell? ⟨g, off + k, none⟩).isSome = true := fun k hk => by
    rw [hW1]
    exact setCells_some g _ _ _ (fun j hj => by rw [Nat.add_assoc]; exact (h.drew.2 _ (by omega)).1) _ (h.drew.2 k hk).1
  have hcp2 : ∀ ty dc, (Builtin.copy_ #[22, 22] ty #[.slice (some ⟨g, off + i * 6, none⟩) (p - i) dc, .slice (some ⟨vb, 0, none⟩) 1 vc]).run Tryd.prog W1 = .ok (goInt (Nat.min 1 (p - i))) (W1.setCells g (off + i * 6) xs) := fun ty dc =>
    run_copyK W1 _ _ ty 37 6 g (off + i * 6) (p - i) dc ⟨vb, 0, none⟩ 1 vc xs Tryd.underlying22 hwrs (by rw [hxl]; simp only [Nat.min_def]; split <;> omega)
      (fun j v hj => by
        rw [Addr.add_lit, hW1, World.cell?_setCells_out g _ _ _ _ (fun h _ => absurd h hne), Nat.zero_add]
        exact hvc j v hj)
      (fun j hj => by rw [Nat.add_assoc]; exact hsp1 _ (by omega)) (fun j hj => by rw [hW1, World.frozen?_setCells, Nat.add_assoc]; exact (h.drew.2 _ (by omega)).2) hx1
  rw [← hW1] at hcp1 hic
  have hb0 : ∀ B, B ≤ g → Below B w W1 := fun B hB => by rw [hW1]; exact below_setCells (Below.drew (Below.refl B w)) hB ds (off + q * 6)
  have HB := Lib.hid (below_setCells (hb0 base hgb) hgb xs (off + i * 6))
  have HB0 := Lib.hid (below_setCells (hb0 0 (Nat.zero_le g)) (Nat.zero_le g) xs (off + i * 6)).size
  have HIC := Lib.hid hic
  have HN := Lib.hid hn
  have HP := Lib.hid hp
  have HGS := Lib.hid hgs
  have HGB := Lib.hid hgb
  have hin : i ≤ n := by omega
  have hz2 : ¬ ((i : Int) = (n : Int)) := by omega
  have hz3 : ((i : Int) == (n : Int)) = false := by simp; omega
  have w1 : IntKind.i64.wrap ((i : Int) + 1) = (q : Int) := by rw [show (i : Int) + 1 = (q : Int) by omega]; exact IntWalk.i64_in _ (by omega)
  have w2 : (i : Int) + 1 = (q : Int) := by omega
  have w3 : IntKind.i64.wrap (q : Int) = (q : Int) := IntWalk.i64_in _ (by omega)
  have w4 : IntKind.i64.wrap ((n : Int) + 1) = (p : Int) := by rw [show (n : Int) + 1 = (p : Int) by omega]; exact IntWalk.i64_in _ (by omega)
  have w5 : (n : Int) + 1 = (p : Int) := by omega
  have w6 : IntKind.i64.wrap (p : Int) = (p : Int) := IntWalk.i64_in _ (by omega)
  have hpc : p ≤ cap := by omega
  have hpc2 : ¬ (cap : Int) < (p : Int) := by omega
  have hpc3 : decide ((cap : Int) < (p : Int)) = false := by simp; omega
  have hqp : q ≤ p := by omega
  have hip : i ≤ p := by omega
  have hcq : ¬ cap = q := by omega
  have hci : ¬ cap = i := by omega
  have hqc : q ≤ cap := by omega
  have hicc : i ≤ cap := by omega
  clear hwrs hxs hxl hx1 hvc hic hds hdl hW1 hsp1 hb0 hn hp hq h hsh hvb hne hgb hgs hroom
  go_enter Tryd.func34, Tryd.ntmps34
  go_wp2_with (simp only [hov])
  go_region_law (refine step_copy_runW rfl _ _ 22 22 rfl _ _ (by simp [Act.eval, Act.put]) (by simp [Act.eval, Act.put]) (hcp1 _ _ _) ?_)
  go_wp2_with (at_builtin; refine wpList_copy_runW _ rfl _ _ 22 22 rfl _ _ rfl rfl (hcp2 _ _) ?_)
  go_ret
  exact ⟨g, off, cap, by rw [← HN.out, ← HP.out]; rfl, by have := HN.out; have := HP.out; omega, HGB.out, Nat.lt_of_lt_of_le HGS.out HB0.out, HIC.out, HB0.out, HB.out⟩

/-- As above, the other order of the two runs of stores; in a row from its beginning on. -/
theorem ins_cells2 {w : World} {g i : Nat} {l : List Wr} {x : Wr} (hi : i ≤ l.length) (hh : ∀ j, j < i * 6 → ∀ u, (wrsC l)[j]? = some u → w.cell? ⟨g, j, none⟩ = some u) (hall : ∀ j, j < (l.length + 1) * 6 → (w.cell? ⟨g, j, none⟩).isSome = true) :
    ∀ k u, (wrsC (l.take i ++ x :: l.drop i))[k]? = some u → ((w.setCells g (i * 6) (wrC x)).drew.setCells g ((i + 1) * 6) (wrsC (l.drop i))).cell? ⟨g, k, none⟩ = some u := by
  obtain ⟨xs, hxs⟩ : ∃ xs, xs = wrC x := ⟨_, rfl⟩
  have hxl : xs.length = 6 := by rw [hxs]; rfl
  have hca : wrsC (l.take i ++ x :: l.drop i) = wrsC (l.take i) ++ (xs ++ wrsC (l.drop i)) := by rw [wrsC_app, hxs]; simp [wrsC]
  rw [← hxs, hca]
  intro k u hk
  have hdl : (wrsC (l.drop i)).length = (l.length - i) * 6 := by rw [wrsC_len, List.length_drop]
  have htl : (wrsC (l.take i)).length = i * 6 := by rw [wrsC_len, List.length_take]; omega
  have hkl : k < (l.length + 1) * 6 := by
    have := (List.getElem?_eq_some_iff.1 hk).1
    rw [List.length_append, List.length_append, htl, hxl, hdl] at this
    omega
  have hS1 : ∀ j, j < xs.length → (w.cell? ⟨g, i * 6 + j, none⟩).isSome = true := fun j hj => hall _ (by omega)
  have hdr : ∀ a : Addr, (w.setCells g (i * 6) xs).drew.cell? a = (w.setCells g (i * 6) xs).cell? a := fun a => rfl
  clear hca hxs
  by_cases h1 : k < i * 6
  · rw [World.cell?_setCells_out _ _ _ _ _ (fun _ _ => .inl (by show k < _; omega)), hdr, World.cell?_setCells_out _ _ _ _ _ (fun _ _ => .inl (by show k < _; omega))]
    rw [List.getElem?_append_left (by omega), wrsC_take, List.getElem?_take_of_lt h1] at hk
    exact hh k h1 u hk
  · rw [List.getElem?_append_right (by omega), htl] at hk
    by_cases h2 : k < (i + 1) * 6
    · rw [World.cell?_setCells_out _ _ _ _ _ (fun _ _ => .inl (by show k < _; omega)), hdr]
      have := World.cell?_setCells_in g xs (i * 6) w hS1 (k - i * 6) (by omega)
      rw [show i * 6 + (k - i * 6) = k by omega] at this
      rw [List.getElem?_append_left (by omega)] at hk
      rw [this, ← hk, List.getElem?_eq_getElem]
    · rw [List.getElem?_append_right (by omega), hxl] at hk
      have := World.cell?_setCells_in g (wrsC (l.drop i)) ((i + 1) * 6) (w.setCells g (i * 6) xs).drew (fun t ht => by
        rw [hdr]; exact setCells_some g _ _ w hS1 _ (hall _ (by omega))) (k - (i + 1) * 6) (by omega)
      rw [show (i + 1) * 6 + (k - (i + 1) * 6) = k by omega] at this
      rw [this, ← hk, show k - i * 6 - 6 = k - (i + 1) * 6 by omega, List.getElem?_eq_getElem]

set_option maxRecDepth 100000 in
set_option maxHeartbeats 4000000 in
/-- There is none: a new row. -/
theorem ins_grow (g off cap i n vb vc : Nat) (l : List Wr) (x : Wr) (w : World) (base : Nat) (h : rowAt w g off cap l) (hn : n = l.length) (hi : i < n) (hnc : n ≤ cap) (hroom : cap < n + 1) (hm : n ≤ 1000000) (hvb : wrBlk w vb x) (hbs : base ≤ w.heap.size) (hgs : g < w.heap.size) :
    Calls Tryd.prog 34 #[.slice (some ⟨g, off, none⟩) n cap, .int .i64 (i : Int), .slice (some ⟨vb, 0, none⟩) 1 vc] w (InsIs w base i l x) := by
  obtain ⟨i0, hi0, hz0, hzs, hzb⟩ := info_parts info_wr
  have hwrs : (Tryd.prog.info? 37).map (·.size) = some 6 := by kernel_rfl
  obtain ⟨q, hq⟩ : ∃ q, q = i + 1 := ⟨_, rfl⟩
  obtain ⟨p, hp⟩ : ∃ p, p = n + 1 := ⟨_, rfl⟩
  obtain ⟨xs, hxs⟩ : ∃ xs, xs = wrC x := ⟨_, rfl⟩
  have hxl : xs.length = 6 := by rw [hxs]; rfl
  have hx1 : ∀ v ∈ xs, v.oneCell' = true := by rw [hxs]; exact wrC_cell x
  have hvs : vb < w.heap.size := (Array.getElem?_eq_some_iff.1 hvb).1
  have hvc : ∀ j v, xs[j]? = some v → w.cell? ⟨vb, j, none⟩ = some v := fun j v hj => by
    rw [cell_of_row _ _ j _ _ (0, 0) hvb]; rw [hxs] at hj; simpa using hj
  obtain ⟨olds, hos⟩ : ∃ o, o = wrsC (l.take i) := ⟨_, rfl⟩
  have hol : olds.length = i * 6 := by rw [hos, wrsC_len, List.length_take]; omega
  obtain ⟨ds, hds⟩ : ∃ ds, ds = wrsC (l.drop i) := ⟨_, rfl⟩
  have hdl : ds.length = (n - i) * 6 := by rw [hds, wrsC_len, List.length_drop, hn]
  have hold : (Builtin.firstCells i0.size i (.slice (some ⟨g, off, none⟩) i cap)).run Tryd.prog w.drew = .ok olds.toArray w.drew := by
    rw [hzs]
    refine run_firstCells_some w.drew 6 i ⟨g, off, none⟩ i cap olds hol (fun j v hj => ?_)
    rw [Addr.add_lit]
    refine h.drew.1 j v ?_
    rw [hos, wrsC_take, List.getElem?_take] at hj
    split at hj
    · exact hj
    · cases hj
  have hkk : (p : Int) - (i : Int) = ((p - i : Nat) : Int) := by omega
  have hik : i + (p - i) = p := by omega
  have hrz0 : ∀ ty, (Builtin.append_ #[22, 3] ty #[.slice (some ⟨g, off, none⟩) i cap, .int .i64 ((p : Int) - (i : Int))]).run Tryd.prog w =
      .ok (.slice (some ⟨w.heap.size, 0, none⟩) p (grownCap w p cap 37)) (w.drew.alloc (.cells (olds.toArray ++ Builtin.zeroCells (Value.agg #[.int .i64 0, .int .i64 0, .int .i64 0, .string ⟨#[]⟩, .string ⟨#[]⟩, .int .i64 0]).cells (p - i) ++ Builtin.zeroCells (Value.agg #[.int .i64 0, .int .i64 0, .int .i64 0, .string ⟨#[]⟩, .string ⟨#[]⟩, .int .i64 0]).cells (grownCap w p cap 37 - p)) 37)) := fun ty => by
    have hx := Lib.run_append_grow_zeros w 22 3 ty 37 i0 _ .i64 .i64 Tryd.underlying22 Tryd.underlying3 hi0 hz0 (some ⟨g, off, none⟩) i cap olds hold (p - i) (by omega) (by omega) (by omega) (by omega) (by rw [hzb]; omega) (by rw [hzb, hik]; exact growslice_fits (by omega) (by omega))
    rw [hik] at hx
    rw [hkk]
    exact hx
  have hGn : p ≤ grownCap w p cap 37 := grownCap_ge w _ _ _
  have hG63 : grownCap w p cap 37 ≤ 9223372036854775807 := by
    have := grownCap_le_maxLen w p cap 37 (by unfold maxLen; omega)
    unfold maxLen at this
    omega
  obtain ⟨G, hG⟩ : ∃ G, G = grownCap w p cap 37 := ⟨_, rfl⟩
  rw [← hG] at hrz0 hGn hG63
  obtain ⟨ROW, hROW⟩ : ∃ ROW : Array Value, ROW = olds.toArray ++ Builtin.zeroCells (Value.agg #[.int .i64 0, .int .i64 0, .int .i64 0, .string ⟨#[]⟩, .string ⟨#[]⟩, .int .i64 0]).cells (p - i) ++ Builtin.zeroCells (Value.agg #[.int .i64 0, .int .i64 0, .int .i64 0, .string ⟨#[]⟩, .string ⟨#[]⟩, .int .i64 0]).cells (G - p) := ⟨_, rfl⟩
  rw [← hROW] at hrz0
  have hRl : p * 6 ≤ ROW.size := by
    rw [hROW]
    simp [Builtin.zeroCells, Value.cells, hol]
    omega
  obtain ⟨H, hH⟩ : ∃ H, H = w.heap.size := ⟨_, rfl⟩
  rw [← hH] at hrz0
  obtain ⟨W1, hW1⟩ : ∃ W1, W1 = w.drew.alloc (.cells ROW 37) := ⟨_, rfl⟩
  have hrz : ∀ ty, (Builtin.append_ #[22, 3] ty #[.slice (some ⟨g, off, none⟩) i cap, .int .i64 ((p : Int) - (i : Int))]).run Tryd.prog w = .ok (.slice (some ⟨H, 0, none⟩) p G) W1 := fun ty => by rw [hrz0, hW1]
  have hc1 : ∀ j, W1.cell? ⟨H, j, none⟩ = ROW[j]? := fun j => by
    rw [hW1, hH]
    have e := World.cell?_alloc_at (w := w.drew) ROW 37 w.heap.size j rfl
    exact e
  have hN : ∀ j, j < p * 6 → (W1.cell? ⟨H, j, none⟩).isSome = true := fun j hj => by
    rw [hc1, Array.getElem?_eq_getElem (by omega)]; rfl
  have hNf : ∀ j, W1.frozen? ⟨H, j, none⟩ = false := fun j => by rw [hW1, hH]; exact World.frozen?_alloc_at (w := w.drew) ROW _ w.heap.size j rfl
  have hO : ∀ B j v, B < w.heap.size → w.cell? ⟨B, j, none⟩ = some v → W1.cell? ⟨B, j, none⟩ = some v := fun B j v hB hv => by rw [hW1, World.cell?_alloc_past (w := w.drew) _ B j hB]; exact hv
  have hcpA : ∀ ty dc, (Builtin.copy_ #[22, 22] ty #[.slice (some ⟨H, i * 6, none⟩) (p - i) dc, .slice (some ⟨vb, 0, none⟩) 1 vc]).run Tryd.prog W1 = .ok (goInt (Nat.min 1 (p - i))) (W1.setCells H (i * 6) xs) := fun ty dc =>
    run_copyK W1 _ _ ty 37 6 H (i * 6) (p - i) dc ⟨vb, 0, none⟩ 1 vc xs Tryd.underlying22 hwrs (by rw [hxl]; simp only [Nat.min_def]; split <;> omega)
      (fun j v hj => by rw [Addr.add_lit, Nat.zero_add]; exact hO _ _ v hvs (hvc j v hj)) (fun j hj => hN _ (by omega)) (fun j hj => hNf _) hx1
  obtain ⟨W2, hW2⟩ : ∃ W2, W2 = W1.setCells H (i * 6) xs := ⟨_, rfl⟩
  rw [← hW2] at hcpA
  have hN2 : ∀ j, j < p * 6 → (W2.drew.cell? ⟨H, j, none⟩).isSome = true := fun j hj => by
    show (W2.cell? _).isSome = true
    rw [hW2]; exact setCells_some H _ _ W1 (fun t ht => hN _ (by omega)) _ (hN j hj)
  have hcpB : ∀ ty dc sc, (Builtin.copy_ #[22, 22] ty #[.slice (some ⟨H, q * 6, none⟩) (p - q) dc, .slice (some ⟨g, off + i * 6, none⟩) (n - i) sc]).run Tryd.prog W2.drew = .ok (goInt (Nat.min (n - i) (p - q))) (W2.drew.setCells H (q * 6) ds) := fun ty dc sc =>
    run_copyK W2.drew _ _ ty 37 6 H (q * 6) (p - q) dc ⟨g, off + i * 6, none⟩ (n - i) sc ds Tryd.underlying22 hwrs (by rw [hdl]; simp only [Nat.min_def]; split <;> omega)
      (fun j v hj => by
        rw [Addr.add_lit, Nat.add_assoc]
        show W2.cell? _ = _
        rw [hW2, World.cell?_setCells_out H _ _ _ _ (fun e _ => absurd e (by show g ≠ H; omega))]
        refine hO _ _ v hgs (h.1 _ v ?_)
        rw [hds, wrsC_drop, List.getElem?_drop] at hj; exact hj)
      (fun j hj => hN2 _ (by omega)) (fun j hj => by show W2.frozen? _ = false; rw [hW2, World.frozen?_setCells]; exact hNf _) (fun v hv => by rw [hds] at hv; exact wrsC_cell _ v hv)
  have hic := ins_cells2 (w := W1) (g := H) (i := i) (l := l) (x := x) (by omega) (fun j hj u hu => by
      rw [hc1, hROW, Array.append_assoc, Array.getElem?_append_left (by simp [hol]; omega)]
      rw [← hu, hos, wrsC_take]
      simp only [List.getElem?_toArray]
      rw [List.getElem?_take_of_lt hj]) (fun j hj => hN j (by rw [hp, hn]; exact hj))
  rw [← hxs, ← hW2, ← hds, ← hq] at hic
  have hb1 : ∀ B, B ≤ H → Below B w W1 := fun B hB => by rw [hW1]; exact (Below.drew (Below.refl B w)).alloc (by rw [hH] at hB; exact hB) _
  have hb2 : ∀ B, B ≤ H → Below B w W2 := fun B hB => by rw [hW2]; exact below_setCells (hb1 B hB) hB xs (i * 6)
  have hHW : H < W1.heap.size := by rw [hW1, hH]; simp
  have hs1 := (below_setCells (Below.refl 0 W1) (Nat.zero_le H) xs (i * 6)).size
  rw [← hW2] at hs1
  have hs2 := (below_setCells (Below.drew (Below.refl 0 W2)) (Nat.zero_le H) ds (q * 6)).size
  have HHB : Hid (base ≤ H) := Lib.hid (by omega)
  have HHS : Hid (H < (W2.drew.setCells H (q * 6) ds).heap.size) := Lib.hid (by omega)
  have HB := Lib.hid (below_setCells (hb2 base (by omega)).drew (show base ≤ H by omega) ds (q * 6))
  have HB0 := Lib.hid (below_setCells (hb2 0 (Nat.zero_le H)).drew (Nat.zero_le H) ds (q * 6)).size
  have HIC : Hid (∀ k u, (wrsC (l.take i ++ x :: l.drop i))[k]? = some u → (W2.drew.setCells H (q * 6) ds).cell? ⟨H, 0 + k, none⟩ = some u) := Lib.hid (fun k u hu => by rw [Nat.zero_add]; exact hic k u hu)
  have HN := Lib.hid hn
  have HP := Lib.hid hp
  have HGN := Lib.hid hGn
  have hin : i ≤ n := by omega
  have hz2 : ¬ ((i : Int) = (n : Int)) := by omega
  have hz3 : ((i : Int) == (n : Int)) = false := by simp; omega
  have w1 : IntKind.i64.wrap ((i : Int) + 1) = (q : Int) := by rw [show (i : Int) + 1 = (q : Int) by omega]; exact IntWalk.i64_in _ (by omega)
  have w2 : (i : Int) + 1 = (q : Int) := by omega
  have w3 : IntKind.i64.wrap (q : Int) = (q : Int) := IntWalk.i64_in _ (by omega)
  have w4 : IntKind.i64.wrap ((n : Int) + 1) = (p : Int) := by rw [show (n : Int) + 1 = (p : Int) by omega]; exact IntWalk.i64_in _ (by omega)
  have w5 : (n : Int) + 1 = (p : Int) := by omega
  have w6 : IntKind.i64.wrap (p : Int) = (p : Int) := IntWalk.i64_in _ (by omega)
  have w7 : IntKind.i64.wrap ((p : Int) - (i : Int)) = (p : Int) - (i : Int) := IntWalk.i64_in _ (by omega)
  have hpc2 : (cap : Int) < (p : Int) := by omega
  have hpc3 : decide ((cap : Int) < (p : Int)) = true := by simp; omega
  have hqp : q ≤ p := by omega
  have hip : i ≤ p := by omega
  have hGq : ¬ G = q := by omega
  have hGi : ¬ G = i := by omega
  have hci : ¬ cap = i := by omega
  have hicc : i ≤ cap := by omega
  have hiG : i ≤ G := by omega
  have hqG : q ≤ G := by omega
  clear hi0 hz0 hzs hzb hwrs hxs hxl hx1 hvc hvs hos hol hds hdl hold hkk hik hrz0 hG hROW hRl hW1 hc1 hN hNf hO hW2 hN2 hic hb1 hb2 hHW hs1 hs2 hn hp hq h hvb hgs hroom hbs hH
  go_enter Tryd.func34, Tryd.ntmps34
  go_wp2_with (first
    | (at_builtin; refine Lib.wpList_append_run _ rfl _ _ _ _ rfl _ _ rfl rfl _ _ (hrz _) ?_)
    | (at_builtin; refine wpList_copy_runW _ rfl _ _ 22 22 rfl _ _ rfl rfl (hcpA _ _) ?_))
  go_region_law (refine step_copy_runW rfl _ _ 22 22 rfl _ _ (by simp [Act.eval, Act.put]) (by simp [Act.eval, Act.put]) (hcpB _ _ _) ?_)
  go_wp2
  go_ret
  exact ⟨H, 0, G, by rw [← HN.out, ← HP.out]; rfl, by have := HN.out; have := HP.out; have := HGN.out; omega, HHB.out, HHS.out, HIC.out, HB0.out, HB.out⟩

theorem ins_any (v : Value) (i n vb : Nat) (l : List Wr) (x : Wr) (w : World) (base : Nat) (ho : ownsW w base v l) (hn : n = l.length) (hi : i < n) (hm : n ≤ 1000000) (hvb : wrBlk w vb x) (hne : v.ownBlock ≠ some vb) (hbs : base ≤ w.heap.size) :
    Calls Tryd.prog 34 #[v, .int .i64 (i : Int), .slice (some ⟨vb, 0, none⟩) 1 1] w (InsIs w base i l x) := by
  obtain ⟨g, cap, rfl, hg, hgs, hlc, hcm, hrow, hsh⟩ := ho.rowAt (by omega)
  rw [← hn] at hlc hne ⊢
  unfold maxLen at hcm
  by_cases hroom : n + 1 ≤ cap
  · exact ins_room g 0 cap i n vb 1 l x w base hrow hsh hn hi hroom (by omega) hvb (fun e => hne (by rw [e]; rfl)) hg hgs
  · exact ins_grow g 0 cap i n vb 1 l x w base hrow hn hi hlc (by omega) hm hvb hbs hgs
/-- A store into another block. -/
theorem IsWrs.set {w : World} {v : Value} {l : List Wr} {P o : Nat} (z : Value) (h : IsWrs w v l) (hne : v.ownBlock ≠ some P) : IsWrs (w.setCell ⟨P, o, none⟩ z) v l := by
  rcases h with ⟨a, c, h1, h2⟩ | ⟨b, off, c, h1, h0, h2, h3⟩
  · exact .inl ⟨a, c, h1, h2⟩
  · refine .inr ⟨b, off, c, h1, h0, by simpa using h2, fun j u hj => ?_⟩
    rw [World.cell?_setCell_other _ _ _ _ (by
      intro e
      have e2 : P = b := by simpa using congrArg Addr.block e
      exact hne (by rw [h1, e2]; rfl))]
    exact h3 j u hj
theorem InsIs.is {w w' : World} {base i p : Nat} {l : List Wr} {x : Wr} {e : Ending} (h : InsIs w base i l x e w') (hi : i ≤ l.length) (hp : p = l.length + 1) :
    ∃ a c, e = .returned (.slice a p c) ∧ IsWrs w' (.slice a p c) (l.take i ++ x :: l.drop i) ∧ (∀ k, Value.ownBlock (.slice a p c) = some k → base ≤ k) ∧ Below base w w' := by
  subst hp
  obtain ⟨g, off, cap, h1, h2, hgb, h3, h4, _, h6⟩ := h
  have hll : (l.take i ++ x :: l.drop i).length = l.length + 1 := by rw [List.length_append, List.length_take, List.length_cons, List.length_drop]; omega
  exact ⟨_, _, h1, .inr ⟨g, off, cap, by rw [hll], ⟨by omega, by omega⟩, h3, h4⟩, (fun k hk => by have e9 : g = k := (by simpa [Value.ownBlock] using hk); omega), h6⟩
theorem ins_as (v : Value) (i n vb p : Nat) (l : List Wr) (x : Wr) (w : World) (base : Nat) (ho : ownsW w base v l) (hn : n = l.length) (hi : i < n) (hm : n ≤ 1000000) (hvb : wrBlk w vb x) (hne : v.ownBlock ≠ some vb) (hbs : base ≤ w.heap.size) (hp : p = l.length + 1) :
    Calls Tryd.prog 34 #[v, .int .i64 (i : Int), .slice (some ⟨vb, 0, none⟩) 1 1] w fun e w' =>
      ∃ a c, e = .returned (.slice a p c) ∧ IsWrs w' (.slice a p c) (l.take i ++ x :: l.drop i) ∧ (∀ k, Value.ownBlock (.slice a p c) = some k → base ≤ k) ∧ Below base w w' :=
  (ins_any v i n vb l x w base ho hn hi hm hvb hne hbs).mono fun _ _ h => h.is (by omega) hp
/-- The block of one write is as it was behind a call that turns nothing old. -/
theorem wrBlk.below {w w' : World} {B m : Nat} {t : Wr} (h : wrBlk w B t) (hb : Below m w w') (hB : B < m) : wrBlk w' B t := (hb.block B hB).trans h
end Go.Proofs.YtcoejiehckileaaDoor
