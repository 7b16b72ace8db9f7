import Derived.Test.YtgelfjcmggicdaaGreatDoorPk17
import Derived.Test.YtgelfjcmggicdaaGreatDoorPk09
import Derived.Test.YtgelfjcmggicdaaGreatDoorPk08
import Derived.Test.YtgelfjcmggicdaaGreatDoorPk07
import Derived.Lib.Overlaps
import Derived.Lib.AppendZerosOnto
import Derived.Laws.IdiomCopy
import Derived.Deep.AppendSrc
import Derived.Deep.Upon
import Derived.Lib.JoinLaws
import Derived.Lib.SliceRun
import Derived.Deep.RegionLaw
import Derived.Laws.Externs
import Derived.Lib.Walk
import Derived.WalkSmall
import Derived.Test.YtgelfjcmggicdaaGreatDoorRows
import Derived.Test.YtgelfjcmggicdaaGreatDoorPk02
import Derived.ChangeSame
import Derived.ChangeVars
import Derived.JoinedOf
import Derived.RowKit
import Derived.RowKitTokens
import Derived.LaidLaws
import Derived.LaidHandle
import Derived.Stop.Joined
/-
  The facts that the laws ask first: 'few' and 'known'.
-/
namespace Go.Proofs.YtgelfjcmggicdaaGreatDoor
open Go.RowKit

/-- All are right. -/
def allR (ls : List (List Ent)) : Bool := ls.all fun l => decide ((vrightF l).1 = 0)
theorem allR_drop {ls : List (List Ent)} {k : Nat} {l : List Ent} (h : ls[k]? = some l) : allR (ls.drop k) = (decide ((vrightF l).1 = 0) && allR (ls.drop (k + 1))) := by
  obtain ⟨hk, ht⟩ := List.getElem?_eq_some_iff.1 h
  rw [List.drop_eq_getElem_cons hk, ht]; rfl
theorem allR_iff {ls : List (List Ent)} : allR ls = true ↔ ∀ l ∈ ls, rightV l := by
  unfold allR
  rw [List.all_eq_true]
  exact ⟨fun h l hl => (vright_ok l).1 (by simpa using h l hl), fun h l hl => by simpa using (vright_ok l).2 (h l hl)⟩



/-- A row of entries that was written out. -/
theorem ents_lit {w : World} {B : Nat} {cs : Array Value} {l : List Ent} {n : Nat} (h : w.heap[B]? = some (.cells cs 72 (0, 0))) (hc : cs = (entsC l).toArray) (hn : l.length = n) (h0 : 0 < n) : IsEnts w (.slice (some ⟨B, 0, none⟩) n n) l := by
  subst hn
  refine .inr ⟨B, 0, l.length, rfl, ⟨h0, Nat.le_refl _⟩, (Array.getElem?_eq_some_iff.1 h).1, fun j u hj => ?_⟩
  rw [Nat.zero_add, cell_of_row _ _ j _ _ (0, 0) h, hc]
  simpa using hj

theorem vjoin_good (va vb : Value) (a b j : List Ent) (w : World) (ha : IsEnts w va a) (hb : IsEnts w vb b) (hla : a.length ≤ 9223372036854775807) (hlb : b.length ≤ 9223372036854775807) (hg : errT w) (hj : joinR a b = (0, j)) :
    Calls Tryz.prog 65 #[va, vb] w fun e w' => ∃ v, e = .returned (.tuple #[v, .nilIface]) ∧ IsEnts w' v j ∧ Below w.heap.size w w' :=
  (vjoin_any va vb a b w ha hb hla hlb hg).mono fun e w' ⟨v, h1, h2, h3⟩ => by
    rw [hj] at h1 h2
    exact ⟨v, h1, h2.is, h3⟩
theorem vjoin_bad (va vb : Value) (a b j : List Ent) (x : Nat) (w : World) (ha : IsEnts w va a) (hb : IsEnts w vb b) (hla : a.length ≤ 9223372036854775807) (hlb : b.length ≤ 9223372036854775807) (hg : errT w) (hj : joinR a b = (x, j)) (hx : x ≠ 0) :
    Calls Tryz.prog 65 #[va, vb] w fun e w' => ∃ v, e = .returned (.tuple #[v, .iface 27 (.int .i64 (x : Nat))]) ∧ IsEnts w' v j ∧ Below w.heap.size w w' :=
  (vjoin_any va vb a b w ha hb hla hlb hg).mono fun e w' ⟨v, h1, h2, h3⟩ => by
    rw [hj] at h1 h2
    simp only at h1
    rw [noV_e hx] at h1
    exact ⟨v, h1, h2.is, h3⟩
theorem vwrite_good (v : Value) (l : List Ent) (T : ByteArray) (w : World) (hv : IsEnts w v l) (hl : l.length ≤ 9223372036854775807) (hr : rightV l) (hT : vwriteL l = T.data.toList) :
    Calls Tryz.prog 27 #[v] w fun e w' => e = .returned (.tuple #[.string T, .nilIface]) ∧ Below w.heap.size w w' :=
  (vwrite_any v l w hv hl).mono fun e w' ⟨err, h1, h2, h3⟩ => by
    have h0 := (vright_ok l).2 hr
    obtain rfl := h2.nil h0
    refine ⟨?_, h3⟩
    rw [h1, show vwriteF l = vwriteL l by unfold vwriteF; rw [if_pos h0], hT, bs_of]
theorem vcov_as (va vb : Value) (a b : List Ent) (x : Bool) (w : World) (ha : IsEnts w va a) (hb : IsEnts w vb b) (hla : a.length ≤ 9223372036854775807) (hlb : b.length ≤ 9223372036854775807) (hx : covB a b = x) :
    Calls Tryz.prog 67 #[va, vb] w fun r w' => r = .returned (.bool x) ∧ Below w.heap.size w w' := by
  subst hx; exact vcov_any va vb a b w ha hb hla hlb

def knownA : List Ent := [⟨1, 5⟩, ⟨2, 3⟩]
def knownB : List Ent := [⟨2, 9⟩, ⟨7, 1⟩]
def knownC : List Ent := [⟨1, 5⟩, ⟨2, 9⟩, ⟨7, 1⟩]
theorem known_join : joinR knownA knownB = (0, knownC) := by decide +kernel
theorem known_cov : covB knownA knownB = false := by decide +kernel
theorem known_right : (vrightF knownC).1 = 0 := by decide +kernel
theorem known_runs : runsL knownC = [[⟨1, 5⟩, ⟨2, 9⟩], [⟨7, 1⟩]] := by decide +kernel
theorem known_write : vwriteL knownC = [2, 1, 1, 5, 9, 3, 0, 1] := by
  unfold vwriteL
  rw [known_runs]
  simp only [runsB, runB, timesB, List.flatMap_cons, List.flatMap_nil, List.length_cons, List.length_nil, List.headD_cons, List.getLastD_cons]
  rw [putL_small (by decide), putL_small (by decide), putL_small (by decide), putL_small (by decide), putL_small (by decide), putL_small (by decide), putL_small (by decide), putL_small (by decide)]
  rfl

set_option maxRecDepth 100000 in
set_option maxHeartbeats 2000000 in
theorem known_any (w : World) (hg : errT w) : Calls Tryz.prog 26 #[] w fun e w' => e = .returned (.bool true) ∧ Below w.heap.size w w' := by
  have HG := Lib.hid hg
  clear hg
  go_enter Tryz.func26, Tryz.ntmps26
  go_wp2_with fail
  have hia : IsEnts (w.alloc (.cells #[.int .i64 1, .int .i64 5, .int .i64 2, .int .i64 3] 72)) (.slice (some ⟨w.heap.size, 0, none⟩) 2 2) knownA := ents_lit (heap_alloc_new w _) rfl rfl (by decide)
  have hib : IsEnts ((w.alloc (.cells #[.int .i64 1, .int .i64 5, .int .i64 2, .int .i64 3] 72)).alloc (.cells #[.int .i64 2, .int .i64 9, .int .i64 7, .int .i64 1] 72)) (.slice (some ⟨w.heap.size + 1, 0, none⟩) 2 2) knownB := by
    have h := ents_lit (heap_alloc_new (w.alloc (.cells #[.int .i64 1, .int .i64 5, .int .i64 2, .int .i64 3] 72)) (.cells #[.int .i64 2, .int .i64 9, .int .i64 7, .int .i64 1] 72)) (l := knownB) rfl rfl (by decide)
    rw [World.size_alloc] at h
    exact h
  have HIA := Lib.hid (hia.alloc (.cells #[.int .i64 2, .int .i64 9, .int .i64 7, .int .i64 1] 72))
  have HIB := Lib.hid hib
  have HB0 : Hid (Below w.heap.size w ((w.alloc (.cells #[.int .i64 1, .int .i64 5, .int .i64 2, .int .i64 3] 72)).alloc (.cells #[.int .i64 2, .int .i64 9, .int .i64 7, .int .i64 1] 72))) := Lib.hid (((Below.refl _ _).alloc (Nat.le_refl _) _).alloc (by simp) _)
  clear hia hib
  refine (vjoin_good _ _ knownA knownB knownC _ HIA.out HIB.out (by decide) (by decide) (HG.out.below HB0.out) known_join).mono ?_
  rintro r w1 ⟨v3, rfl, hi3, hb1⟩
  have HI3 := Lib.hid hi3
  have HIA1 := Lib.hid (HIA.out.below hb1)
  have HIB1 := Lib.hid (HIB.out.below hb1)
  have HB1 : Hid (Below w.heap.size w w1) := HB0.out.trans (hb1.mono (by simp; omega))
  clear hb1 hi3
  go_wp2_with fail
  refine (vwrite_good v3 knownC ⟨#[2, 1, 1, 5, 9, 3, 0, 1]⟩ _ HI3.out (by decide) ((vright_ok _).1 known_right) known_write).mono ?_
  rintro r w2 ⟨rfl, hb2⟩
  have HB2 : Hid (Below w.heap.size w w2) := HB1.out.trans (hb2.mono HB1.out.size)
  have HI32 := Lib.hid ((HI3.out.below hb2).alloc (.cells #[.int .i64 1, .int .i64 5, .int .i64 2, .int .i64 9, .int .i64 7, .int .i64 1] 72))
  have HIA2 := Lib.hid ((HIA1.out.below hb2).alloc (.cells #[.int .i64 1, .int .i64 5, .int .i64 2, .int .i64 9, .int .i64 7, .int .i64 1] 72))
  have HIB2 := Lib.hid ((HIB1.out.below hb2).alloc (.cells #[.int .i64 1, .int .i64 5, .int .i64 2, .int .i64 9, .int .i64 7, .int .i64 1] 72))
  have HIC : Hid (IsEnts (w2.alloc (.cells #[.int .i64 1, .int .i64 5, .int .i64 2, .int .i64 9, .int .i64 7, .int .i64 1] 72)) (.slice (some ⟨w2.heap.size, 0, none⟩) 3 3) knownC) := Lib.hid (ents_lit (heap_alloc_new w2 _) rfl rfl (by decide))
  have HB3 : Hid (Below w.heap.size w (w2.alloc (.cells #[.int .i64 1, .int .i64 5, .int .i64 2, .int .i64 9, .int .i64 7, .int .i64 1] 72))) := Lib.hid (HB2.out.alloc HB2.out.size _)
  clear hb2
  go_wp2_with fail
  refine (equal_same _ _ knownC _ HI32.out HIC.out (by decide)).mono ?_
  rintro r w' ⟨rfl, q, rfl⟩
  have HB4 := Lib.hid (below_drewq HB3.out q)
  have HI4 := Lib.hid (HI32.out.drewN q)
  have HIA4 := Lib.hid (HIA2.out.drewN q)
  have HIB4 := Lib.hid (HIB2.out.drewN q)
  obtain ⟨w4, hw4⟩ : ∃ w4, (w2.alloc (.cells #[.int .i64 1, .int .i64 5, .int .i64 2, .int .i64 9, .int .i64 7, .int .i64 1] 72)).drewN q = w4 := ⟨_, rfl⟩
  rw [hw4] at HB4 HI4 HIA4 HIB4 ⊢
  clear hw4
  go_wp2_with fail
  refine (vof_as _ knownC 2 9 _ HI4.out (by decide) (by decide +kernel)).mono ?_
  rintro r w5 ⟨rfl, hb5⟩
  have HB5 : Hid (Below w.heap.size w w5) := HB4.out.trans (hb5.mono HB4.out.size)
  have HIA5 := Lib.hid (HIA4.out.below hb5)
  have HIB5 := Lib.hid (HIB4.out.below hb5)
  clear hb5
  go_wp2_with fail
  refine (vcov_as _ _ knownA knownB false _ HIA5.out HIB5.out (by decide) (by decide) known_cov).mono ?_
  rintro r w6 ⟨rfl, hb6⟩
  have HB6 : Hid (Below w.heap.size w w6) := HB5.out.trans (hb6.mono HB5.out.size)
  clear hb6
  go_wp2
  go_ret
  exact ⟨by first | rfl | simp, HB6.out⟩
end Go.Proofs.YtgelfjcmggicdaaGreatDoor
/-
  slices.Clone, Delete and Insert of writes, in rows of the call's own.
-/
namespace Go.Proofs.YtgelfjcmggicdaaGreatDoor
open Go.RowKit

/-- A row of writes in block g that may be written: its cells, and room for so many. -/
def rowAt (w : World) (g off cap : Nat) (l : List Wr) : Prop :=
  (∀ j u, (wrsC l)[j]? = some u → w.cell? ⟨g, off + j, none⟩ = some u) ∧ (∀ j, j < cap * 6 → (w.cell? ⟨g, off + j, none⟩).isSome = true ∧ w.frozen? ⟨g, off + j, none⟩ = false)
theorem ownsW.rowAt {w : World} {base : Nat} {v : Value} {l : List Wr} (h : ownsW w base v l) (h0 : 0 < l.length) :
    ∃ g cap, v = .slice (some ⟨g, 0, none⟩) l.length cap ∧ base ≤ g ∧ g < w.heap.size ∧ l.length ≤ cap ∧ cap ≤ maxLen ∧ rowAt w g 0 cap l ∧ w.shape? g = some (52, cap * 6) := by
  have hall := h
  have hlt := h.lt
  obtain ⟨_, h1⟩ := h
  rcases h1 with ⟨rfl, hn⟩ | ⟨g, cap, cur, rfl, hb, hh, hc, hm, hs, ht⟩
  · omega
  · refine ⟨g, cap, rfl, hb, (hlt g rfl).2, hc, hm, ⟨fun j u hj => ?_, fun j hj => ⟨?_, ?_⟩⟩, ?_⟩
    · have hjl : j < l.length * 6 := by rw [← wrsC_len]; exact (List.getElem?_eq_some_iff.1 hj).1
      rw [Nat.zero_add, World.ownsRow.cellAt hall j hjl]
      exact hj
    · rw [Nat.zero_add, cell_of_row _ _ j _ _ (0, 0) hh, Array.getElem?_eq_getElem (by rw [hs]; exact hj)]; rfl
    · simp [World.frozen?, hh]
    · simp [World.shape?, hh, hs]

theorem run_copyK {P : Program} (w : World) (dT sT ty elem : TypeId) (size : Nat) (b o dLen dCap : Nat) (a : Addr) (sLen sCap : Nat) (cs : List Value)
    (hu : P.underlying dT = some (.slice elem)) (hs : (P.info? elem).map (·.size) = some size) (hn : cs.length = Nat.min sLen dLen * size)
    (hsrc : ∀ j v, cs[j]? = some v → w.cell? (a.add j) = some v) (hc : ∀ j, j < cs.length → (w.cell? ⟨b, o + j, none⟩).isSome = true) (hf : ∀ j, j < cs.length → w.frozen? ⟨b, o + j, none⟩ = false) (h1 : ∀ v ∈ cs, v.oneCell' = true) :
    (Builtin.copy_ #[dT, sT] ty #[.slice (some ⟨b, o, none⟩) dLen dCap, .slice (some a) sLen sCap]).run P w = .ok (goInt (Nat.min sLen dLen)) (w.setCells b o cs) := by
  have hl := run_loadCells_list (P := P) w a cs hsrc
  have hst := run_storeCells_cells (P := P) b o cs 0 w (by simpa using hc) (by simpa using hf) h1
  cases hq : P.info? elem with
  | none => simp [hq] at hs
  | some i =>
    have hi : i.size = size := by simpa [hq] using hs
    simp [Builtin.copy_, run_underlying hu, Builtin.lenOf, Builtin.firstCells, sizeOf, typeInfo, hq, hi, ← hn, hl, hst]

/-- The zero write's cells. -/
def zeroWs : List Value := [.int .i64 0, .int .i64 0, .int .i64 0, .string ⟨#[]⟩, .string ⟨#[]⟩, .int .i64 0]
theorem run_clearW (w : World) (ty : TypeId) (b o c : Nat)
    (hc : ∀ j, j < 6 → (w.cell? ⟨b, o + j, none⟩).isSome = true) (hf : ∀ j, j < 6 → w.frozen? ⟨b, o + j, none⟩ = false) :
    (Builtin.clear_ #[23] ty #[.slice (some ⟨b, o, none⟩) 1 c]).run Tryz.prog w = .ok (.tuple #[]) (w.setCells b o zeroWs) := by
  have hv : (zeroValue 52).run Tryz.prog w = .ok (.agg zeroWs.toArray) w := by simp [zeroWs]
  have hzc : (Builtin.zeroCells (Value.agg zeroWs.toArray).cells 1).toList = zeroWs := by simp [Builtin.zeroCells, zeroWs, Value.cells]; rfl
  have hst := run_storeCells_cells (P := Tryz.prog) b o zeroWs 0 w (fun j hj => by simpa using hc j hj) (fun j hj => by simpa using hf j hj) (by decide +kernel)
  simp only [Nat.add_zero] at hst
  simp [Builtin.clear_, run_underlying Tryz.underlying23, hv, hzc, hst]

theorem rowAt.cell {w : World} {g off cap : Nat} {l : List Wr} (h : rowAt w g off cap l) {j : Nat} {u : Value} (hj : (wrsC l)[j]? = some u) : w.cell? ⟨g, off + j, none⟩ = some u := h.1 j u hj
theorem rowAt.drew {w : World} {g off cap : Nat} {l : List Wr} (h : rowAt w g off cap l) : rowAt w.drew g off cap l := h

/-- What Delete leaves: the writes ahead, then those behind. -/
theorem del_cells {w : World} {g off cap i j : Nat} {l : List Wr} {zs : List Value} (h : rowAt w g off cap l) (hj : j = i + 1) (hi : i < l.length) (hc : l.length ≤ cap) :
    ∀ k u, (wrsC (l.take i ++ l.drop j))[k]? = some u → ((w.setCells g (off + i * 6) (wrsC (l.drop j))).setCells g (off + (i + (l.length - j)) * 6) zs).cell? ⟨g, off + k, none⟩ = some u := by
  intro k u hk
  have hdl : (wrsC (l.drop j)).length = (l.length - j) * 6 := by rw [wrsC_len, List.length_drop]
  have htl : (wrsC (l.take i)).length = i * 6 := by rw [wrsC_len, List.length_take]; omega
  have hkl : k < (i + (l.length - j)) * 6 := by
    have := (List.getElem?_eq_some_iff.1 hk).1
    rw [wrsC_len, List.length_append, List.length_take, List.length_drop] at this
    omega
  rw [World.cell?_setCells_out _ _ _ _ _ (fun _ _ => .inl (by show off + k < _; omega))]
  rw [wrsC_app] at hk
  by_cases hlt : k < i * 6
  · rw [World.cell?_setCells_out _ _ _ _ _ (fun _ _ => .inl (by show off + k < _; omega))]
    rw [List.getElem?_append_left (by omega), wrsC_take, List.getElem?_take_of_lt hlt] at hk
    exact h.1 k u hk
  · rw [List.getElem?_append_right (by omega), htl] at hk
    have := World.cell?_setCells_in g (wrsC (l.drop j)) (off + i * 6) w (fun t ht => by rw [Nat.add_assoc]; exact (h.2 (i * 6 + t) (by omega)).1) (k - i * 6) (by omega)
    rw [show off + i * 6 + (k - i * 6) = off + k by omega] at this
    rw [this, ← hk, List.getElem?_eq_getElem]

theorem step_append_runW {P : Program} {ops : Array Oper} {o : Oper} {a : Act} {w : World} {K : Act → World → Prop} {Q : Exit → Act → World → Prop} {E : Prop}
    (hg : o.guard = none) (d x : Operand) (dT sT : TypeId) (hop : o.op = Op.call { callee := Callee.builtin Builtin.append, args := #[d, x], argTypes := #[dT, sT] })
    (v u : Value) (hd : a.eval d = v) (hx : a.eval x = u) {v' : Value} {w' : World} (hr : (Builtin.append_ #[dT, sT] o.type #[v, u]).run P w = .ok v' w') (hK : K (a.put o.dst v') w') :
    if Region.wanted o (yielded ops a.tmps) = true then Oper.wp P o a w K Q else E := by
  have hw : Region.wanted o (yielded ops a.tmps) = true := by simp [Region.wanted, hg]
  rw [if_pos hw]
  unfold Oper.wp
  simp [execOp, hop, resolve, invoke, builtin, hd, hx, hr, Result.andThen]
  exact hK

theorem below_setCells {w wr : World} {base g : Nat} (h : Below base w wr) (hg : base ≤ g) : ∀ (vs : List Value) (o : Nat), Below base w (wr.setCells g o vs) := by
  intro vs
  induction vs generalizing wr with
  | nil => intro o; exact h
  | cons v r ih => intro o; exact ih (h.setCell hg _) (o + 1)


/-- append of another row of writes, behind one of the call's own. -/
theorem wpList_append_wrs {w : World} {ops : Array Oper} {rest : List Oper} {o : Oper} {a : Act} {Q : Exit → Act → World → Prop} (hgd : o.guard = none) (s x : Operand)
    (ho : o.op = .call { callee := .builtin .append, args := #[s, x], argTypes := #[23, 23] })
    (base : Nat) (v : Value) (l : List Wr) (hs : a.eval s = v) (hown : ownsW w base v l)
    (B off c n : Nat) (hx : a.eval x = .slice (some ⟨B, off, none⟩) n c) (m : List Wr) (hn : n = m.length) (hcell : ∀ j u, (wrsC m)[j]? = some u → w.cell? ⟨B, off + j, none⟩ = some u)
    (hm : 0 < m.length) (hlen : l.length + m.length ≤ 1000000) (hbase : base ≤ w.heap.size)
    (h : ∀ g cap w', ownsW w' base (.slice (some ⟨g, 0, none⟩) (l.length + m.length) cap) (l ++ m) → w.grownBy w' v.ownBlock → wpList Tryz.prog ops Q rest (a.put o.dst (.slice (some ⟨g, 0, none⟩) (l.length + m.length) cap)) w') : wpList Tryz.prog ops Q (o :: rest) a w := by
  subst hn
  obtain ⟨i0, hi, hz0, hz1, hz2⟩ := info_parts info_wr
  refine wpList_append_lies w hgd s x 23 ho base 52 i0 (.agg #[.int .i64 0, .int .i64 0, .int .i64 0, .string ⟨#[]⟩, .string ⟨#[]⟩, .int .i64 0]) 6 64 Tryz.underlying23 hi hz0 hz1 hz2 rfl (by decide) v l.length (wrsC l) hs hown ⟨B, off, none⟩ m.length c (wrsC m) hx (wrsC_len m) ?_ (wrsC_cell m) hm (by unfold maxLen; omega) (by omega) hbase _ rfl ?_
  · intro j u hj
    have hadd : (⟨B, off, none⟩ : Addr).add j = ⟨B, off + j, none⟩ := by unfold Addr.add; split <;> simp_all
    rw [hadd]; exact hcell j u hj
  · intro g cap w' h1 h2 _ _
    refine h g cap w' ?_ h2
    unfold ownsW
    rw [List.length_append, wrsC_app]
    exact h1
theorem ownsW_none (w : World) : ownsW (w.alloc (.cells #[] 52)) w.heap.size (.slice (some ⟨w.heap.size, 0, none⟩) 0 0) [] :=
  ⟨rfl, .inr ⟨w.heap.size, 0, #[], rfl, Nat.le_refl _, heap_alloc_new w _, Nat.le_refl _, Nat.zero_le _, rfl, rfl⟩⟩

set_option maxRecDepth 100000 in
set_option maxHeartbeats 4000000 in
theorem clone_wrs (v : Value) (l : List Wr) (w : World) (hv : IsWrs w v l) (h0 : 0 < l.length) (h6 : l.length ≤ 1000000) :
    Calls Tryz.prog 25 #[v] w fun e w' => ∃ v', e = .returned v' ∧ ownsW w' w.heap.size v' l ∧ Below w.heap.size w w' := by
  rcases hv with ⟨a, c, rfl, rfl⟩ | ⟨b, off, c, rfl, h1, h2, h3⟩
  · exact absurd h0 (Nat.lt_irrefl _)
  · have H3 := Lib.hid h3
    obtain ⟨n, hn⟩ : ∃ n, n = l.length := ⟨_, rfl⟩
    rw [← hn] at h1 h0 h6 ⊢
    have HN := Lib.hid hn
    clear h3 hn
    have heq : ∀ w : World, (binOp BinOp.eql 23 (.slice (some ⟨b, off, none⟩) n c) (.slice none 0 0)).run Tryz.prog w = .ok (.bool false) w := fun w => Go.Lib.run_eql_slice_nil w _ _ (some ⟨b, off, none⟩) n c 0 0 Tryz.underlying23
    go_enter Tryz.func25, Tryz.ntmps25
    go_wp2_with (at_builtin; refine wpList_append_wrs rfl _ _ rfl w.heap.size _ [] rfl (ownsW_none w) b off c n rfl l HN.out ?c1 ?c2 ?c3 ?c4 ?_)
    case c1 => exact fun j u hj => (World.cell?_alloc_lt w _ (⟨b, off + j, none⟩ : Addr) h2).trans (H3.out j u hj)
    case c2 => have := HN.out; omega
    case c3 => have := HN.out; simp; omega
    case c4 => simp
    intro g cap w' ho hg
    have HO := Lib.hid ho
    have HB : Hid (Below w.heap.size w w') := Lib.hid (((Below.refl _ _).alloc (Nat.le_refl _) _).grown hg (by simp) (fun k hk => by
      have e : w.heap.size = k := by simpa [Value.ownBlock] using hk
      omega))
    clear ho hg
    go_wp2
    go_ret
    exact ⟨_, rfl, by simpa using HO.out, HB.out⟩
end Go.Proofs.YtgelfjcmggicdaaGreatDoor
/-
  What the rows of this seat assume of the variable errors.errorType, as a fact on its one cell; and a world that meets it.
-/
namespace Go.Proofs.YtgelfjcmggicdaaGreatDoor
open Go.ChangeShapes Go.WideShapes Go.RowKit

/-- The list that the rows bear. -/
def theLaid : List (String × DataW Unit) := [("errors.errorType", Rows.laid_errors_errorType)]

theorem own : ownKnob Tryz.prog.godebug = none := by kernel_rfl
theorem laid_et : Tryz.prog.globalNamed "errors.errorType" = some 0 := by kernel_rfl
theorem laid_rt : (Tryz.prog.cutTypes.find? (·.1 == "internal/reflectlite.rtype")).map (·.2) = some 216 := by kernel_rfl
theorem laid_size : Tryz.prog.types.size = 277 := by kernel_rfl
theorem laid_oneRow : ((List.range 277).filter fun t => Tryz.prog.rowNamed t [101, 114, 114, 111, 114]) = [33] := by kernel_rfl

/-- What the condition gives a walk: the variable's one cell. -/
theorem errT_of_laid {W : World} (h : laidMetH Tryz.prog theLaid W) : errT W := by
  have h' : laidMet Tryz.prog [] W ∧ handlesMet Tryz.prog theLaid W := h
  obtain ⟨name, u, ty, e1, e2, e3, e4, e5⟩ := h'.2 _ (List.mem_singleton.2 rfl)
  have en : name = [101, 114, 114, 111, 114] := (Option.some.inj e1).symm
  subst en
  obtain rfl := Option.some.inj (laid_rt.symm.trans e2)
  have hm : ty ∈ (List.range 277).filter fun t => Tryz.prog.rowNamed t [101, 114, 114, 111, 114] := List.mem_filter.2 ⟨List.mem_range.2 (by rw [← laid_size]; exact e3), e4⟩
  rw [laid_oneRow] at hm
  obtain rfl := List.mem_singleton.1 hm
  have hh : typeHandle Tryz.prog 33 = .pointer (some ⟨5, 33, none⟩) := by kernel_rfl
  rw [hh] at e5
  unfold errT
  simpa using World.var?_cell laid_et e5 0

/-- A world that meets the condition: the settled one, the variable's cell laid. -/
noncomputable def laidWorld (os : Os) : World :=
  let w0 := World.holding Tryz.prog os ⟨#[], #[], []⟩
  { w0 with heap := w0.heap.modify 0 fun
      | .cells _ t frozen => .cells #[.iface 216 (.agg #[.pointer (some ⟨5, 33, none⟩)])] t frozen
      | o => o }
theorem laidWorld_met (os : Os) (args : Array Value) : laidMetH Tryz.prog theLaid ((laidWorld os).forCall (fun _ _ => 0) ⟨#[], args, []⟩).memory :=
  laidMetH_of_parts (laidMet_nil _ _) (by kernel_rfl)
end Go.Proofs.YtgelfjcmggicdaaGreatDoor
