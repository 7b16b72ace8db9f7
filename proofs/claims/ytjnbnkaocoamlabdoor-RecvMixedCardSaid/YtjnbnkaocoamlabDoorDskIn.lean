/-
  A disk in memory: its struct, the row of what lasts, the map of what was written since; kept by whatever leaves these blocks as they were.
-/
import Derived.Test.YtjnbnkaocoamlabDoorProg
import Derived.Test.YtjnbnkaocoamlabDoorSecM
import Derived.Test.YtjnbnkaocoamlabDoorBut
import Derived.Test.YtjnbnkaocoamlabDoorVaryGet
import Derived.KernelRfl
import Derived.Lib.Hide
import Derived.WalkSmall
import Derived.Laws.Rows
namespace Go.Proofs.YtjnbnkaocoamlabDoor
open Go.RowKit Go.Maps


theorem keyedI : Keyed Tryd.prog 3 := int_keyed Tryd.underlying3
theorem keyI (i : Int) (h : -9223372036854775808 ≤ i) (h2 : i ≤ 9223372036854775807) : keyOf Tryd.prog 3 (.int .i64 i) = some (.int .i64 i) := keyOf_int_mk Tryd.underlying3 (WalkArith.wf_i64 (by omega))
theorem keyIn (i : Nat) (h : i ≤ 100000) : keyOf Tryd.prog 3 (.int .i64 (i : Int)) = some (.int .i64 (i : Int)) := keyI i (by omega) (by omega)
theorem sec_info : (Tryd.prog.info? 121).map (fun i => (i.zero, i.size)) = some (some (secV []), 32) := by kernel_rfl
theorem sec_size : (Tryd.prog.info? 121).map (·.size) = some 32 := by kernel_rfl
theorem secA_info (l : List UInt8) : (Tryd.prog.info? 121).map (·.size) = some (secA l).size := by rw [secA_size]; exact sec_size
theorem zeroSec (w : World) : (zeroValue 121).run Tryd.prog w = .ok (secV []) w := by
  cases hq : Tryd.prog.info? 121 with
  | none => have := sec_info; rw [hq] at this; cases this
  | some i =>
    have := sec_info
    rw [hq] at this
    simp at this
    simp [zeroValue, typeInfo, hq, this.1]

theorem there_of_block {w w' : World} {b o n : Nat} (h : w'.heap[b]? = w.heap[b]?) (ht : w.there b o n) : w'.there b o n := by
  intro j hj
  have := ht j hj
  simp only [World.cell?, World.frozen?] at this ⊢
  rw [h]
  exact this
theorem range_of_block {w w' : World} {b o : Nat} {cs : List Value} (h : w'.heap[b]? = w.heap[b]?) (ht : w.rangeAt b o cs) : w'.rangeAt b o cs := by
  intro j v hj
  have := ht j v hj
  simp only [World.cell?] at this ⊢
  rw [h]
  exact this

/-- Block d is a disk, its row of sectors in block L, its map of sectors in block M. -/
structure DskIn (w : World) (d L M : Nat) (X : Dsk) : Prop where
  row : w.heap[d]? = some (.cells #[.slice (some ⟨L, 0, none⟩) X.n X.n, .map (some M)] 70 (0, 0))
  cells : ∀ i, i < X.n → w.rangeAt L (i * 32) (secL (X.saf i))
  there : ∀ i, i < X.n → w.there L (i * 32) 32
  map : ∃ D, DskD D X ∧ w.ownsMap Tryd.prog 3 secR M 140 D
  ok : DskOk X
  n140 : X.n ≤ 140
  lL : L < w.heap.size
  dL : d ≠ L
  dM : d ≠ M
  LM : L ≠ M
/-- The blocks that a disk writes to. -/
def dF (L M : Nat) : Nat → Prop := fun k => k = L ∨ k = M
theorem DskIn.lM {w : World} {d L M : Nat} {X : Dsk} (h : DskIn w d L M X) : M < w.heap.size := by obtain ⟨D, _, h⟩ := h.map; exact h.lt
theorem DskIn.ld {w : World} {d L M : Nat} {X : Dsk} (h : DskIn w d L M X) : d < w.heap.size := (Array.getElem?_eq_some_iff.1 h.row).1
theorem DskIn.c0 {w : World} {d L M : Nat} {X : Dsk} (h : DskIn w d L M X) : w.cell? ⟨d, 0, none⟩ = some (.slice (some ⟨L, 0, none⟩) X.n X.n) := cell_of_row _ _ 0 _ _ _ h.row
theorem DskIn.c1 {w : World} {d L M : Nat} {X : Dsk} (h : DskIn w d L M X) : w.cell? ⟨d, 1, none⟩ = some (.map (some M)) := cell_of_row _ _ 1 _ _ _ h.row
theorem ownsMap_but {H : Type} {P : Program} {k : TypeId} {R : Value → Option (DataW H × List MemPlace)} {w w' : World} {b n : Nat} {D : DataW H} (h : w.ownsMap P k R b n D) (hb : w'.heap[b]? = w.heap[b]?) : w'.ownsMap P k R b n D := by
  obtain ⟨es, clock, h1, h2⟩ := h
  exact ⟨es, clock, hb.trans h1, h2⟩
theorem DskIn.blocks {w w' : World} {d L M : Nat} {X : Dsk} (h : DskIn w d L M X) (hs : w.heap.size ≤ w'.heap.size) (hd : w'.heap[d]? = w.heap[d]?) (hL : w'.heap[L]? = w.heap[L]?) (hM : w'.heap[M]? = w.heap[M]?) : DskIn w' d L M X :=
  ⟨hd.trans h.row, fun i hi => range_of_block hL (h.cells i hi), fun i hi => there_of_block hL (h.there i hi), by obtain ⟨D, h1, h2⟩ := h.map; exact ⟨D, h1, ownsMap_but h2 hM⟩, h.ok, h.n140, Nat.lt_of_lt_of_le h.lL hs, h.dL, h.dM, h.LM⟩
theorem DskIn.but {w w' : World} {d L M : Nat} {X : Dsk} {G : Nat → Prop} (h : DskIn w d L M X) (hb : But G w w') (hd : ¬ G d) (hL : ¬ G L) (hM : ¬ G M) : DskIn w' d L M X :=
  h.blocks hb.size (hb.block d h.ld hd) (hb.block L h.lL hL) (hb.block M h.lM hM)
theorem DskIn.below {w w' : World} {d L M : Nat} {X : Dsk} (h : DskIn w d L M X) (hb : Below w.heap.size w w') : DskIn w' d L M X :=
  h.but (G := fun _ => False) (But.of_below hb) id id id
theorem DskIn.alloc {w : World} {d L M : Nat} {X : Dsk} (h : DskIn w d L M X) (o : Obj) : DskIn (w.alloc o) d L M X := h.below ((Below.refl _ _).alloc (Nat.le_refl _) o)
theorem DskIn.drew {w : World} {d L M : Nat} {X : Dsk} (h : DskIn w d L M X) : DskIn w.drew d L M X := h.below (Below.refl _ _).drew

/-- What a write comes to. -/
def dPut (X : Dsk) (at_ : Int) (s : List UInt8) : Dsk := if dwE X.n at_ s.length = 0 then dWr X at_.toNat s else X
theorem DskIn.put {w w' : World} {d L M : Nat} {X : Dsk} (h : DskIn w d L M X) {i : Nat} (hi : i < X.n) {s : List UInt8} (hs : s.length ≤ 32) {D : DataW Value} (hD : DskD D X)
    (hm : w'.ownsMap Tryd.prog 3 secR M 141 (D.put (.int .i64 i) (.held (secV s)))) (hg : w.grownBy w' (some M)) : DskIn w' d L M (dWr X i s) := by
  have hD2 := hD.put hi s
  have hz := dskD_size hD2 hm keyedI Tryd.underlying3
  have hz2 := dirtyL_len (dWr X i s)
  have hn : (dWr X i s).n = X.n := rfl
  have h140 := h.n140
  have bd := hg.block d h.ld (fun e => h.dM (Option.some.inj e))
  have bL := hg.block L h.lL (fun e => h.LM (Option.some.inj e))
  exact ⟨bd.trans h.row, fun i hi => range_of_block bL (h.cells i hi), fun i hi => there_of_block bL (h.there i hi), ⟨_, hD2, ownsMap_tight hm (by omega)⟩, dWr_ok h.ok i hs, h140, Nat.lt_of_lt_of_le h.lL hg.size, h.dL, h.dM, h.LM⟩
theorem but_grown {w w' : World} {L M : Nat} (hg : w.grownBy w' (some M)) : But (dF L M) w w' :=
  ⟨hg.os, hg.tape, hg.output, hg.size, fun k hk hn => hg.block k hk (fun e => hn (.inr (Option.some.inj e)))⟩
theorem on_disk {w W w2 : World} {L M : Nat} (h : Below w.heap.size w W) (k : But (dF L M) W w2) (hL : w.heap.size ≤ L) (hM : w.heap.size ≤ M) : Below w.heap.size w w2 :=
  But.on h k h.size (fun i hi => by rcases hi with e | e <;> omega)
theorem cell_disk {W w2 : World} {L M g : Nat} (k : But (dF L M) W w2) (hg : g < W.heap.size) (hL : g ≠ L) (hM : g ≠ M) (j : Nat) : w2.cell? ⟨g, j, none⟩ = W.cell? ⟨g, j, none⟩ :=
  k.cell (p := ⟨g, j, none⟩) hg (fun hi => by rcases hi with e | e; exact hL e; exact hM e)

/-! ### a look-up of a sector; 'clear' -/
section
variable {w : World} {ops : Array Oper} {rest : List Oper} {o : Oper} {a : Act} {Q : Exit → Act → World → Prop}
theorem wpList_sec_ok (hg : o.guard = none) (m x : Operand) (hop : o.op = Op.lookup 68 m x true) (M : Nat) (D : DataW Value) (X : Dsk)
    (hm : a.eval m = .map (some M)) (hD : DskD D X) (hown : w.ownsMap Tryd.prog 3 secR M 140 D) (i : Nat) (hi : i < X.n) (h140 : X.n ≤ 140) (hx : a.eval x = .int .i64 (i : Int))
    (hK : wpList Tryd.prog ops Q rest (a.put o.dst (.tuple #[secV (if X.dir i = true then X.cur i else []), .bool (X.dir i)])) w) : wpList Tryd.prog ops Q (o :: rest) a w := by
  refine wpList_lookup_own_ok w hg m x _ hop 3 121 keyedI Tryd.underlying68 secR (zeroSec w) _ _ (secR_mk []) M 140 D hm hown _ _ hx (keyIn i (by omega)) ?_
  intro v ps hv
  rw [hD.at', dirB_nat X i hi, Int.toNat_natCast] at hv
  obtain ⟨_, h2⟩ := secR_inv hv
  injection h2 with h2
  rw [hD.has, dirB_nat X i hi, ← h2]
  exact hK
theorem wpList_sec (hg : o.guard = none) (m x : Operand) (hop : o.op = Op.lookup 68 m x false) (M : Nat) (D : DataW Value) (X : Dsk)
    (hm : a.eval m = .map (some M)) (hD : DskD D X) (hown : w.ownsMap Tryd.prog 3 secR M 140 D) (i : Nat) (hi : i < X.n) (h140 : X.n ≤ 140) (hx : a.eval x = .int .i64 (i : Int))
    (hK : wpList Tryd.prog ops Q rest (a.put o.dst (secV (if X.dir i = true then X.cur i else []))) w) : wpList Tryd.prog ops Q (o :: rest) a w := by
  refine wpList_lookup_own_is w hg m x _ hop 3 121 keyedI Tryd.underlying68 secR (zeroSec w) _ _ (secR_mk []) M 140 D hm hown _ _ hx (keyIn i (by omega)) _ ?_ hK
  intro v ps hv
  rw [hD.at', dirB_nat X i hi, Int.toNat_natCast] at hv
  obtain ⟨_, h2⟩ := secR_inv hv
  injection h2 with h2
  exact h2.symm
theorem wpList_sec_put (hg : o.guard = none) (m x v : Operand) (hop : o.op = Op.mapUpdate 68 m x v) (d L M : Nat) (X : Dsk) (s : List UInt8)
    (hm : a.eval m = .map (some M)) (h : DskIn w d L M X) (i : Nat) (hi : i < X.n) (hs : s.length ≤ 32) (hx : a.eval x = .int .i64 (i : Int)) (hv : a.eval v = secV s)
    (hK : ∀ w', DskIn w' d L M (dWr X i s) → w.grownBy w' (some M) → wpList Tryd.prog ops Q rest (a.put o.dst undef) w') : wpList Tryd.prog ops Q (o :: rest) a w := by
  have h140 := h.n140
  obtain ⟨D, hD, hown⟩ := h.map
  refine wpList_mapUpdate_own w hg m x v _ hop 3 121 keyedI Tryd.underlying68 secR M 140 D hm hown (by decide) _ _ _ hx hv (keyIn i (by omega)) _ _ (secR_mk s) ?_
  intro w' h1 h2
  exact hK w' (h.put hi hs hD h1 h2) h2
end
theorem run_clear (w : World) (M n : Nat) (D : DataW Value) (hown : w.ownsMap Tryd.prog 3 secR M n D) (ty : TypeId) :
    ∃ w', (Builtin.clear_ #[68] ty #[.map (some M)]).run Tryd.prog w = .ok (.tuple #[]) w' ∧ w'.ownsMap Tryd.prog 3 secR M 140 (.map []) ∧ w.mapTurned w' M := by
  obtain ⟨es, clock, hb, F, hs, rfl⟩ := hown
  have hrun : (Builtin.clear_ #[68] ty #[.map (some M)]).run Tryd.prog w = .ok (.tuple #[]) (ChangeMaps.setBlock w M (.map #[] clock)) := by
    simp [Builtin.clear_, run_underlying Tryd.underlying68, MapKept.run_getObj_map hb, MapKept.run_setObj_map _ hb, Result.andThen, ChangeMaps.setBlock]
  refine ⟨_, hrun, ⟨#[], clock, ChangeMaps.heap_setBlock_same hb _, ?_, Nat.zero_le _, rfl⟩, ⟨es, clock, #[], clock, hb, rfl⟩⟩
  exact ⟨Nat.zero_le _, MapKept.stamped_empty _, fun x hx => by simp at hx⟩
end Go.Proofs.YtjnbnkaocoamlabDoor
