/-
  An api.Batch that comes in: what the row's own reading and reach say of it.
-/
import Derived.Test.YtpmnflnaeknakaaGreatDoorEntArg
import Derived.Test.YtpmnflnaeknakaaGreatDoorWrs
namespace Go.Proofs.YtpmnflnaeknakaaGreatDoor
open Go.ChangeShapes Go.WideShapes Go.ChangeAt Go.RowKit

/-- A struct of three fields, each of one cell, read. -/
theorem three_fieldsB {H : Type} {enc : TypeId × Value → H} {P : Program} {W : World} {spare : Nat → Bool} {held : Bool} {n : Nat} {t : TypeId} {cs : List Value} {x : DataW H × List MemPlace} {p q r : Field}
    (ht : P.underlying t = some (.struct #[p, q, r])) (h1 : Go.Deep.oneCellFields P #[p, q, r] = true) (h3 : P.cellsOf t = 3)
    (h : DataW.trod enc P W 0 spare held n t cs = some x) :
    ∃ (a b c : Value) (u v w : DataW H × List MemPlace) (m : Nat), cs = [a, b, c] ∧ x.1 = .agg [u.1, v.1, w.1] ∧
      DataW.trod enc P W 0 spare held m p.type [a] = some u ∧ DataW.trod enc P W 0 spare held m q.type [b] = some v ∧ DataW.trod enc P W 0 spare held m r.type [c] = some w := by
  obtain ⟨xs, m, _, hx, hl, hxl, hf⟩ := DataW.trod_struct ht h
  rw [h3] at hl
  have hxl' : xs.length = 3 := hxl
  match cs, hl with
  | [a, b, c], _ =>
    match xs, hxl' with
    | [u, v, w], _ =>
      have one := Go.Deep.hone_of h1
      have g0 := hf 0 p rfl
      have g1 := hf 1 q rfl
      have g2 := hf 2 r rfl
      rw [(one 0 p rfl).1, (one 0 p rfl).2] at g0
      rw [(one 1 q rfl).1, (one 1 q rfl).2] at g1
      rw [(one 2 r rfl).1, (one 2 r rfl).2] at g2
      exact ⟨a, b, c, u, v, w, m, rfl, by rw [hx]; rfl, g0, g1, g2⟩
theorem slice_of {H : Type} {enc : TypeId × Value → H} {P : Program} {W : World} {spare : Nat → Bool} {held : Bool} {n : Nat} {t e : TypeId} {v : Value} {x : DataW H × List MemPlace}
    (ht : P.underlying t = some (.slice e)) (h : DataW.trod enc P W 0 spare held n t [v] = some x) : ∃ a n c, v = .slice a n c := by
  rcases Go.Deep.open_slice ht h with ⟨hcs, _⟩ | ⟨a, ln, cp, m, n, D, Pl, hcs, _⟩
  · exact ⟨_, _, _, List.head_eq_of_cons_eq hcs⟩
  · exact ⟨_, _, _, List.head_eq_of_cons_eq hcs⟩

theorem wr_weight {H : Type} (ds : List (DataW H)) (t : Wr) (h : wrD t ∈ ds) : t.key.size ∈ DataW.weightsAll Tryz.prog 32 ds ∧ t.value.size ∈ DataW.weightsAll Tryz.prog 32 ds := by
  induction ds with
  | nil => cases h
  | cons d r ih =>
    rw [DataW.weightsAll]
    rcases List.mem_cons.1 h with h | h
    · have g : t.key.size ∈ DataW.weights Tryz.prog 32 (wrD t : DataW H) ∧ t.value.size ∈ DataW.weights Tryz.prog 32 (wrD t : DataW H) := by
        constructor
        · unfold wrD
          rw [DataW.weights, Tryz.underlying32]
          simp [DataW.weightsEach, DataW.weights, Tryz.underlying30]
        · unfold wrD
          rw [DataW.weights, Tryz.underlying32]
          simp [DataW.weightsEach, DataW.weights, Tryz.underlying30]
      rw [← h]
      exact ⟨List.mem_append_left _ g.1, List.mem_append_left _ g.2⟩
    · exact ⟨List.mem_append_right _ (ih h).1, List.mem_append_right _ (ih h).2⟩

theorem wrsArg {H : Type} {enc : TypeId × Value → H} {W : World} {spare : Nat → Bool} {held : Bool} {a0 : Option Addr} {len0 cap0 fuel : Nat} {d : DataW H} {p : List MemPlace}
    (hf : DataW.trod enc Tryz.prog W 0 spare held fuel 22 [.slice a0 len0 cap0] = some (d, p))
    (hw : ∀ x ∈ DataW.weights Tryz.prog 22 d, x ≤ reachBytes) :
    ∃ l : List Wr, IsWrs W (.slice a0 len0 cap0) l ∧ l.length = len0 ∧ len0 ≤ cap0 ∧ cap0 ≤ maxLen ∧ ∀ t ∈ l, WrOk t := by
  rcases Go.Deep.open_slice Tryz.underlying22 hf with ⟨hcs, _⟩ | ⟨a, ln, cp, m, n, D, Pl, hcs, _, hl, hm, hmm, hx, hi⟩
  · simp only [List.cons.injEq, Value.slice.injEq, and_true] at hcs
    obtain ⟨rfl, rfl, rfl⟩ := hcs
    exact ⟨[], .inl ⟨_, _, rfl, rfl⟩, rfl, Nat.le_refl _, by unfold maxLen; omega, fun t h => by cases h⟩
  · simp only [List.cons.injEq, Value.slice.injEq, and_true] at hcs
    obtain ⟨rfl, rfl, rfl⟩ := hcs
    have h3 : Tryz.prog.cellsOf 32 = 6 := by kernel_rfl
    rw [h3] at hi
    have hle : len0 ≤ m := by rw [hmm]; split <;> omega
    obtain ⟨f, hfc⟩ := Go.Deep.choose_lt (n := len0) (p := fun i (t : Wr) => W.cells? 0 (a.add (i * 6)) 6 = some (wrC t) ∧ D i = wrD t ∧ -9223372036854775808 ≤ t.n ∧ t.n ≤ 9223372036854775807) (fun i hlt => by
      obtain ⟨cs', hc, ht⟩ := hi i (by omega)
      obtain ⟨t, h1, h2, h4⟩ := wr_elem ht
      exact ⟨t, by rw [hc, h1], h2, h4⟩)
    have hll : ((List.range len0).map f).length = len0 := by simp
    refine ⟨(List.range len0).map f, ?_, hll, hl, hm, fun t ht => ?_⟩
    · by_cases hz : len0 = 0
      · subst hz; exact .inl ⟨_, _, rfl, rfl⟩
      · obtain ⟨b, off, spot⟩ := a
        have hcell : ∀ i, i < len0 → ∀ r, r < 6 → W.cell? ((⟨b, off, spot⟩ : Addr).add (i * 6 + r)) = (wrC (f i))[r]? := fun i hlt r hr => by
          obtain ⟨_, _, hat⟩ := World.cells?_some (hfc i hlt).1
          rw [← Go.Deep.add_add]; exact hat r hr
        have h0 := hcell 0 (by omega) 0 (by omega)
        have hspot : spot = none := by simpa [Addr.add] using World.cell?_spot (h0.trans rfl)
        subst hspot
        refine .inr ⟨b, off, cap0, by rw [hll], by rw [hll]; omega, block_lt_of_cell (h0.trans rfl), fun j u hj => ?_⟩
        have hjl : j < len0 * 6 := by rw [← hll, ← wrsC_len]; exact (List.getElem?_eq_some_iff.1 hj).1
        have hc := hcell (j / 6) (by omega) (j % 6) (Nat.mod_lt _ (by decide))
        have hti : ((List.range len0).map f)[j / 6]? = some (f (j / 6)) := by
          rw [List.getElem?_map, List.getElem?_range (by omega)]; rfl
        have h5 := wrsC_at _ _ (j % 6) _ hti (Nat.mod_lt _ (by decide))
        rw [show j / 6 * 6 + j % 6 = j by omega] at hc h5
        rw [← h5, hj] at hc
        rw [← hc]
        refine congrArg W.cell? ?_
        unfold Addr.add
        split
        · rename_i e; rw [e]; rfl
        · rfl
    · obtain ⟨i, hir, hit⟩ := List.mem_map.1 ht
      have hil := List.mem_range.1 hir
      have hd : d = .slice ((List.range len0).map D) ((List.range (m - len0)).map fun j => D (len0 + j)) := (Prod.mk.inj hx).1
      have hmem : wrD t ∈ (List.range len0).map D := List.mem_map.2 ⟨i, hir, by rw [(hfc i hil).2.1, hit]⟩
      have hwt := wr_weight _ t hmem
      have hin : ∀ y ∈ DataW.weightsAll Tryz.prog 32 ((List.range len0).map D), y ≤ reachBytes := fun y hy => hw y (by
        rw [hd, DataW.weights, Tryz.underlying22]
        exact List.mem_cons_of_mem _ (List.mem_append_left _ hy))
      have g1 := hin _ hwt.1
      have g2 := hin _ hwt.2
      unfold reachBytes at g1 g2
      have hn := (hfc i hil).2.2
      rw [hit] at hn
      exact ⟨hn.1, hn.2, by omega, by omega⟩

/-- What is known of a batch that came in. -/
def BatIs (W : World) (vf vh vw : Value) (f h : List Ent) (l : List Wr) : Prop :=
  IsEnts W vf f ∧ IsEnts W vh h ∧ IsWrs W vw l ∧ f.length ≤ 9223372036854775807 ∧ h.length ≤ 9223372036854775807 ∧ l.length ≤ 9223372036854775807 ∧ ∀ t ∈ l, WrOk t
theorem BatIs.below {w w' : World} {vf vh vw : Value} {f h : List Ent} {l : List Wr} (hx : BatIs w vf vh vw f h l) (hb : Below w.heap.size w w') : BatIs w' vf vh vw f h l :=
  ⟨hx.1.below hb, hx.2.1.below hb, hx.2.2.1.below hb, hx.2.2.2⟩
theorem BatIs.alloc {w : World} {vf vh vw : Value} {f h : List Ent} {l : List Wr} (hx : BatIs w vf vh vw f h l) (o : Obj) : BatIs (w.alloc o) vf vh vw f h l :=
  hx.below ((Below.refl _ _).alloc (Nat.le_refl _) o)

set_option maxRecDepth 100000 in
theorem batArg {H : Type} {enc : TypeId × Value → H} {W : World} {spare : Nat → Bool} {held : Bool} {v : Value} {d : DataW H} {p : List MemPlace} {base : Nat}
    (hv : Value.okWide Tryz.prog W .any base 26 v) (h : DataW.Trod enc Tryz.prog W 0 spare held 26 v d p)
    (hw : ∀ x ∈ DataW.weights Tryz.prog 26 d, x ≤ reachBytes) : ∃ vf vh vw f h l, v = .agg #[vf, vh, vw] ∧ BatIs W vf vh vw f h l := by
  obtain ⟨cs, rfl, hsz⟩ := okWide_struct Tryz.underlying26 hv
  obtain ⟨fuel, hf⟩ := h
  obtain ⟨vf, vh, vw, ⟨df, pf⟩, ⟨dh, ph⟩, ⟨dw, pw⟩, m, hcs, hd, g0, g1, g2⟩ := three_fieldsB Tryz.underlying26 (by kernel_rfl) (by kernel_rfl) hf
  obtain ⟨af, nf, cf, rfl⟩ := slice_of Tryz.underlying24 g0
  obtain ⟨ah, nh, ch, rfl⟩ := slice_of Tryz.underlying24 g1
  obtain ⟨aw, nw, cw, rfl⟩ := slice_of Tryz.underlying22 g2
  obtain ⟨f, if_, lf, cf1, mf⟩ := entsArg g0
  obtain ⟨h, ih_, lh, ch1, mh⟩ := entsArg g1
  obtain rfl : d = .agg [df, dh, dw] := hd
  obtain ⟨l, iw, lw, cw1, mw, ow⟩ := wrsArg g2 (fun x hx => hw x (by
    rw [DataW.weights, Tryz.underlying26]
    show x ∈ DataW.weightsEach _ (_ :: _ :: _ :: _) (_ :: _ :: _ :: _)
    rw [DataW.weightsEach, DataW.weightsEach, DataW.weightsEach]
    exact List.mem_append_right _ (List.mem_append_right _ (List.mem_append_left _ hx))))
  unfold maxLen at mf mh mw
  refine ⟨_, _, _, f, h, l, ?_, if_, ih_, iw, by omega, by omega, by omega, ow⟩
  have : cs.toList = [.slice af nf cf, .slice ah nh ch, .slice aw nw cw] := by simpa [Value.cells] using hcs
  rw [← Array.toArray_toList (xs := cs), this]
end Go.Proofs.YtpmnflnaeknakaaGreatDoor
