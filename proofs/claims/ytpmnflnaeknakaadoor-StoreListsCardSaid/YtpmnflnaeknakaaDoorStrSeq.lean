/-
  slices.Sorted(slices.Values(..)) of texts.
-/
import Derived.Test.YtpmnflnaeknakaaDoorStoLaw
import Derived.Test.YtpmnflnaeknakaaDoorOwnS
import Derived.Test.YtpmnflnaeknakaaDoorTexts
import Derived.Test.YtpmnflnaeknakaaDoorShelf
import Derived.Lib.Hide
import Derived.RangeFuncKeeps
import Derived.RangeFuncFrom
import Derived.Maps.AppendAt
import Derived.Lib.OwnBridge
import Derived.Sort.OwnSorted
import Derived.RangeFuncLeaves
import Derived.Shelf.Abstract
import Derived.WalkKit
import Derived.OwnWalkIn
import Derived.TacticsInMore
import Derived.LoopNIn
import Derived.LoopIn
namespace Go.Proofs.YtpmnflnaeknakaaDoor
open Go.RowKit Go.Shelf

attribute [local go_sem] Oper.semAt_some

/-- Texts that lie in blocks below n₀. -/
def TB (n₀ : Nat) (W : World) (v : Value) (xs : List ByteArray) : Prop := ∃ a cap, v = .slice a xs.length cap ∧ ∀ k s, xs[k]? = some s → ∃ b off, a = some ⟨b, off, none⟩ ∧ b < n₀ ∧ W.cell? ⟨b, off + k, none⟩ = some (.string s)
theorem TB.of {W : World} {v : Value} {xs : List ByteArray} (h : IsTexts W v xs) : TB W.heap.size W v xs := by
  obtain ⟨a, c, e, _, h⟩ := h
  exact ⟨a, c, e, h⟩
theorem TB.below {n₀ : Nat} {A B : World} {v : Value} {xs : List ByteArray} (h : TB n₀ A v xs) (hb : Below n₀ A B) : TB n₀ B v xs := by
  obtain ⟨a, c, e, h⟩ := h
  refine ⟨a, c, e, fun k s hs => ?_⟩
  obtain ⟨b, off, e2, h1, h2⟩ := h k s hs
  exact ⟨b, off, e2, h1, (hb.cell (p := ⟨b, off + k, none⟩) h1).trans h2⟩

set_option maxRecDepth 100000 in
theorem values_in (n : Nat) (v : Value) (xs : List ByteArray) (n₀ : Nat) (w : World) (h : TB n₀ w v xs) :
    CallsIn Fence.wide n Tryd.prog 9 #[v] w fun e w' => e = .returned (.func (.func 17) #[] #[.pointer (some ⟨w.heap.size, 0, none⟩)]) ∧ w' = w.alloc (.cells #[v] 30) := by
  obtain ⟨a, c, rfl, _⟩ := h
  refine callsIn_of_wp Tryd.func9 rfl trivial ?_ rfl
  simp only [Tryd.ntmps9, List.size_toArray, List.length_cons, List.length_nil, Nat.reduceAdd, Nat.reduceSub, Array.replicate_succ, Array.replicate_zero, List.push_toArray, List.append_toArray, List.nil_append, List.cons_append]
  gi_wp2
  go_ret
  exact ⟨rfl, rfl⟩

set_option maxRecDepth 100000 in
set_option maxHeartbeats 1000000 in
theorem vals1_in (n : Nat) (hn : 1 ≤ n) (l Bn n₀ : Nat) (v : Value) (xs : List ByteArray) (hx : xs.length ≤ 1000000) (J Jx : List ByteArray → World → Prop)
    (hY : ∀ pre x W, J pre W → pre.length < xs.length → YieldAt Fence.wide (n - 1) Tryd.prog l #[.string x] W fun e W' =>
      (e = .returned (.bool true) ∧ J (pre ++ [x]) W' ∧ Below n₀ W W') ∨ (e = .returned (.bool false) ∧ Jx (pre ++ [x]) W'))
    (W : World) (hBn : W.cell? ⟨Bn, 0, none⟩ = some v) (hL : TB n₀ W v xs) (h0 : J [] W) :
    CallsIn Fence.wide n Tryd.prog 17 #[.func (.yield l) #[] #[], .pointer (some ⟨Bn, 0, none⟩)] W fun e W' => (∃ v, e = .returned v) ∧
      ((∃ ys, ys = xs ∧ J ys W') ∨ (∃ pre, pre <+: xs ∧ Jx pre W')) := by
  have hL0 := hL
  obtain ⟨a, c, rfl, _⟩ := hL0
  refine callsIn_of_wp Tryd.func17 rfl trivial ?_ rfl
  simp only [Tryd.ntmps17, List.size_toArray, List.length_cons, List.length_nil, Nat.reduceAdd, Nat.reduceSub, Array.replicate_succ, Array.replicate_zero, List.push_toArray, List.append_toArray, List.nil_append, List.cons_append]
  gi_wp2
  gi_loopw [7] (fun i wr => ∃ k : Nat, k ≤ xs.length ∧ i = .int .i64 k ∧ TB n₀ wr (.slice a xs.length c) xs ∧ J (xs.take k) wr) (fun i _ => xs.length - (intOf i).toNat)
  case atStart => exact ⟨0, by omega, rfl, hL, by simpa using h0⟩
  case round =>
    obtain ⟨k, hk, rfl, hl, hJs⟩ := hrel
    by_cases hlt : k < xs.length
    · have b1 : decide ((k : Int) < (xs.length : Int)) = true := by simpa using hlt
      obtain ⟨x, hx2⟩ : ∃ x, xs[k]? = some x := ⟨xs[k], List.getElem?_eq_getElem hlt⟩
      obtain ⟨a', c', e, hf⟩ := id hl
      obtain ⟨e1, _, e3⟩ := Value.slice.inj e
      subst e1 e3
      obtain ⟨b, off, rfl, hb, hv⟩ := hf k x hx2
      obtain ⟨fn, tmps, assign, body, hy, hR⟩ := hY (xs.take k) x wr hJs (by rw [List.length_take]; omega)
      clear e hf
      gi_wp2
      refine hR.mono ?_
      rintro e W3 (⟨rfl, hJ3, hk3⟩ | ⟨rfl, hJx3⟩)
      · gi_wp2
        go_roundw
        case rel => exact ⟨k + 1, by omega, by simp, hl.below hk3, by rw [List.take_add_one, hx2]; exact hJ3⟩
        case measure => simp [intOf]; omega
      · gi_wp2
        refine bodyPost_ret (results_none rfl _ _ _) rfl ?_
        exact ⟨⟨_, rfl⟩, .inr ⟨xs.take k ++ [x], by rw [show xs.take k ++ [x] = xs.take (k + 1) by rw [List.take_add_one, hx2]; rfl]; exact List.take_prefix _ _, hJx3⟩⟩
    · have b1 : decide ((k : Int) < (xs.length : Int)) = false := by simp; omega
      gi_wp2
      go_end0
      exact ⟨⟨_, rfl⟩, .inl ⟨xs, rfl, by rwa [List.take_of_length_le (by omega)] at hJs⟩⟩
theorem vals_stops (n : Nat) (hn : 1 ≤ n) (Bn n₀ : Nat) (v : Value) (xs : List ByteArray) (hx : xs.length ≤ 1000000) (w : World) (hBn : Bn < w.heap.size) (hn₀ : n₀ ≤ w.heap.size) (hc : w.cell? ⟨Bn, 0, none⟩ = some v) (hL : TB n₀ w v xs) :
    SeqStopsK Fence.wide n Tryd.prog 17 #[.pointer (some ⟨Bn, 0, none⟩)] (fun x : ByteArray => #[Value.string x]) (Below n₀) (fun ys => ys = xs) (fun pre => pre <+: xs) xs.length w := fun l J Jx W hW _ _ hY h0 =>
  vals1_in n hn l Bn n₀ v xs hx J Jx hY W ((hW.cell (p := ⟨Bn, 0, none⟩) hBn).trans hc) (hL.below (hW.mono hn₀)) h0

/-- Between two rounds: the box, and what has come so far. -/
def SeqI (B : Nat) (w : World) (ss : List ByteArray) (W : World) : Prop := ∃ u, W.heap[B]? = some (.cells #[u] 30 (0, 0)) ∧ ownsS W (B + 1) u ss ∧ Below B w W
theorem seq_ne {o : Option Nat} {k : Nat} (h : o = none ∨ o ≠ some k) (e : some k = o) : False := by
  rcases h with h | h
  · rw [h] at e; cases e
  · exact h e.symm
theorem seq_shape {W : World} {base : Nat} {e : TypeId} {v : Value} {n : Nat} {xs : List Value} (h : W.ownsRow base e 1 v (n + 1) xs) : ∃ g cap, v = .slice (some ⟨g, 0, none⟩) (n + 1) cap := by
  rcases h.2 with ⟨_, h0⟩ | ⟨g, cap, _, e2, _⟩
  · exact absurd h0 (by omega)
  · exact ⟨g, cap, e2⟩
theorem own_cells {W : World} {base : Nat} {v : Value} {l : List ByteArray} (h : ownsS W base v l) : ∀ (j : Nat) (o : Obj), v.ownBlock = some j → W.heap[j]? = some o → o.isCells = true := by
  intro j o hj ho
  rcases h.2 with ⟨rfl, _⟩ | ⟨g, cap, cur, rfl, _, hgb, _⟩
  · cases hj
  · have e : g = j := Option.some.inj hj
    subst e
    rw [hgb] at ho
    cases ho
    rfl
theorem seq_cell (w : World) (g : Nat) (v : Value) : w.grownBy (w.setCell ⟨g, 0, none⟩ v) (some g) := ⟨rfl, rfl, rfl, by simp, fun k _ hk => heap_setCell_other w _ k v (fun e => hk (by rw [e]))⟩
theorem own_not {W : World} {base : Nat} {v : Value} {l : List ByteArray} {row : Option Nat} (h : ownsS W base v l) (hr : ∀ r, row = some r → ∃ o : Obj, W.heap[r]? = some o ∧ o.isCells = false) : v.ownBlock = none ∨ v.ownBlock ≠ row := by
  rcases h.2 with ⟨rfl, _⟩ | ⟨g, cap, cur, rfl, _, hgb, _⟩
  · exact .inl rfl
  · refine .inr (fun e => ?_)
    obtain ⟨o2, ho2, hc⟩ := hr g e.symm
    rw [hgb] at ho2
    cases ho2
    cases hc
theorem seqI_own (B : Nat) (w : World) (hw : B ≤ w.heap.size) : OwnFrom (B + 1) (SeqI B w) := fun s A A' row h hg hr => by
  obtain ⟨u, h1, h2, h3⟩ := h
  have hB := (Array.getElem?_eq_some_iff.1 h1).1
  refine ⟨u, (hg.block B hB (fun e => by have := (hr B e.symm).1; omega)).trans h1, World.ownsRow.kept h2 hg (own_not h2 (fun r e => (hr r e).2)), below_of_grown h3 hg (Nat.le_trans hw h3.size) (fun g e => by have := (hr g e).1; omega)⟩

set_option maxRecDepth 100000 in
set_option maxHeartbeats 2000000 in
theorem appseq_in (n : Nat) (hn : 2 ≤ n) (Bn n₀ : Nat) (v : Value) (xs : List ByteArray) (hx : xs.length ≤ 1000000) (w : World) (hBn : Bn < w.heap.size) (hn₀ : n₀ ≤ w.heap.size) (hc : w.cell? ⟨Bn, 0, none⟩ = some v) (hL : TB n₀ w v xs) :
    CallsIn Fence.wide n Tryd.prog 30 #[.slice none 0 0, .func (.func 17) #[] #[.pointer (some ⟨Bn, 0, none⟩)]] w fun e w' => ∃ u, e = .returned u ∧ ownsS w' (w.heap.size + 1) u xs ∧ Below w.heap.size w w' := by
  refine callsIn_of_wp_marks Tryd.func30 rfl trivial ?_ rfl
  simp only [Tryd.ntmps30, List.size_toArray, List.length_cons, List.length_nil, Nat.reduceAdd, Nat.reduceSub, Array.replicate_succ, Array.replicate_zero, List.push_toArray, List.append_toArray, List.nil_append, List.cons_append]
  gi_wp2
  refine wpIn_rangeFunc_ownF rfl (by omega) (gf := 17) (lb := #[.pointer (some ⟨Bn, 0, none⟩)]) rfl trivial (enters_of Tryd.func17 (by kernel_rfl) rfl)
    (vals_stops (n - 1) (by omega) Bn n₀ v xs hx _ (by simp; omega) (by simp; omega) ((World.cell?_alloc_lt _ _ _ hBn).trans hc) (hL.below (((Below.refl _ w).alloc (Nat.le_refl _) _).mono hn₀))) belowK_t (belowK_b (by simp; omega)) (Below.refl _ _) (fun _ => rfl)
    (SeqI w.heap.size w) (fun _ _ _ => False) (by rw [World.size_alloc]; exact seqI_own _ _ (Nat.le_refl _)) (fun _ _ _ _ _ hs _ _ => hs)
    ⟨_, (MapKept.heap_alloc w _).1, ownsS_nil _ _, (Below.refl _ w).alloc (Nat.le_refl _) _⟩
    (fun x => { tmps := #[.slice none 0 0, .func (.func 17) #[] #[.pointer (some ⟨Bn, 0, none⟩)], .pointer (some ⟨w.heap.size, 0, none⟩), undef, .slice none 0 0, .string x, .func (.func 17) #[] #[.pointer (some ⟨Bn, 0, none⟩)], .string x, undef, undef, undef, undef, undef], defers := [] }) ?assign ?body ?done ?stop
  case assign =>
    intro l x W K hK
    gi_wp2
    exact hK
  case body =>
    rintro l pre x W ⟨u, h1, h2, h3⟩ hlen
    obtain ⟨i0, hi, hz0, hz1, hz2⟩ := info_parts info_str
    have hsz := (Array.getElem?_eq_some_iff.1 h1).1
    have c1 := cell_of_row _ _ 0 _ _ _ h1
    have f1 : W.frozen? ⟨w.heap.size, 0, none⟩ = false := by simp [World.frozen?, h1]
    simp only [List.getElem?_toArray, List.getElem?_cons_zero] at c1
    have hk0 : u.ownBlock = none ∨ u.ownBlock ≠ some w.heap.size := by
      cases e : u.ownBlock with
      | none => exact .inl rfl
      | some g => exact .inr (fun e2 => by have := (h2.lt g e).1; have e3 : g = w.heap.size := Option.some.inj e2; omega)
    gi_wp2_with (gi_at_builtin; refine wpListIn_append_own _ rfl _ _ 30 rfl (w.heap.size + 1) 9 i0 (.string ⟨#[]⟩) 1 16 Tryd.underlying30 hi hz0 hz1 hz2 rfl (by decide) _ _ _ rfl (h2.alloc _) ⟨W.heap.size, 0, none⟩ 1 1 [.string x] rfl rfl (cell_one_new _ _ _) (by simp [Value.oneCell']) (by unfold maxLen; omega) (by omega) (by simp; omega) ?_; intro v' w3 hown' hg3 hnil3; have hg3' : (W.alloc (.cells #[.string x] 9)).grownBy w3 u.ownBlock := hg3; obtain ⟨g', cap', rfl⟩ : ∃ g' cap', v' = .slice (some ⟨g', 0, none⟩) (pre.length + 1) cap' := seq_shape hown'; have hrow3 := (hg3'.block w.heap.size (by simp; omega) (fun e => seq_ne hk0 e)).trans (((MapKept.heap_alloc W _).2 w.heap.size hsz).trans h1); have c3 := cell_of_row _ _ 0 _ _ _ hrow3; have f3 : w3.frozen? ⟨w.heap.size, 0, none⟩ = false := (by simp [World.frozen?, hrow3]); simp only [List.getElem?_toArray, List.getElem?_cons_zero] at c3)
    have hb3 := below_of_grown ((Below.refl w.heap.size W).alloc h3.size (.cells #[.string x] 9)) hg3' (by have := h3.size; simp; omega) (fun g e => by have := (h2.lt g e).1; omega)
    have hko : KeepsOthers W w3 := (KeepsOthers.alloc W _).trans (KeepsOthers.of_grownBy hg3' (own_cells (h2.alloc _)))
    have hgs := seq_cell w3 w.heap.size (.slice (some ⟨g', 0, none⟩) (pre.length + 1) cap')
    have hb4 := below_of_grown hb3 hgs (Nat.le_trans h3.size hb3.size) (fun g e => by cases e; exact Nat.le_refl _)
    refine ⟨hko.trans (KeepsOthers.setCell _ _ _), hb4.mono hn₀, _, heap_setCell_same _ _ _ _ _ _ hrow3, ?_, h3.trans (hb4.mono (Nat.le_refl _))⟩
    refine World.ownsRow.kept (n := (pre ++ [x]).length) (xs := (pre ++ [x]).map Value.string) ?_ hgs (.inr (fun e => by have h := (World.ownsRow.lt hown' g' rfl).1; have e3 : g' = w.heap.size := Option.some.inj e; omega))
    rw [List.length_append, List.map_append]
    simpa using hown'
  case done =>
    rintro D ys W hD rfl ⟨u, h1, h2, h3⟩ hK
    have c1 := cell_of_row _ _ 0 _ _ _ h1
    simp only [List.getElem?_toArray, List.getElem?_cons_zero] at c1
    rw [World.size_alloc] at hD
    have hgp := grownBy_putObj' W D (.deferred none)
    have hu : ownsS (W.putObj D (.deferred none)) (w.heap.size + 1) u ys := World.ownsRow.kept h2 hgp (own_not h2 (fun r e => by cases e; exact ⟨_, hK, rfl⟩))
    gi_wp2
    refine ⟨by simp, .inl ⟨_, _, rfl, run_takeDeferred hK, ?_⟩⟩
    refine ⟨_, results_tmp rfl _ _ _, ?_⟩
    exact ⟨u, rfl, hu, below_of_grown h3 hgp h3.size (fun g e => by cases e; omega)⟩
  case stop =>
    rintro D c pre W _ _ h _
    exact h.elim

set_option maxRecDepth 100000 in
theorem collect_in (n : Nat) (hn : 3 ≤ n) (Bn n₀ : Nat) (v : Value) (xs : List ByteArray) (hx : xs.length ≤ 1000000) (w : World) (hBn : Bn < w.heap.size) (hn₀ : n₀ ≤ w.heap.size) (hc : w.cell? ⟨Bn, 0, none⟩ = some v) (hL : TB n₀ w v xs) :
    CallsIn Fence.wide n Tryd.prog 15 #[.func (.func 17) #[] #[.pointer (some ⟨Bn, 0, none⟩)]] w fun e w' => ∃ u, e = .returned u ∧ ownsS w' (w.heap.size + 1) u xs ∧ Below w.heap.size w w' := by
  have hA := appseq_in (n - 1) (by omega) Bn n₀ v xs hx w hBn hn₀ hc hL
  have h1 : 1 ≤ n := by omega
  have hf : Fence.wide.fn 30 := trivial
  refine callsIn_of_wp Tryd.func15 rfl trivial ?_ rfl
  simp only [Tryd.ntmps15, List.size_toArray, List.length_cons, List.length_nil, Nat.reduceAdd, Nat.reduceSub, Array.replicate_succ, Array.replicate_zero, List.push_toArray, List.append_toArray, List.nil_append, List.cons_append]
  gi_wp2_with (gi_at_call 30; refine hA.mono ?_; rintro e w' ⟨u, rfl, hu, hb⟩)
  go_ret
  exact ⟨u, rfl, hu, hb⟩
/-- Sorted, as slices.Sort sorts them. -/
def sortB (xs : List ByteArray) : List ByteArray := xs.mergeSort leB
theorem sortB_map (xs : List ByteArray) : (xs.map (fun b => b.data.toList)).mergeSort (fun x y => decide (x ≤ y)) = (sortB xs).map (fun b => b.data.toList) := by
  exact (List.map_mergeSort (r := leB) (s := fun x y => decide (x ≤ y)) (f := fun b : ByteArray => b.data.toList) (fun a _ b _ => rfl)).symm

theorem texts_none0 (w : World) (a : Option Addr) (c : Nat) : IsTexts w (.slice a 0 c) [] := ⟨a, c, rfl, Nat.zero_le _, fun k s h => by simp at h⟩
theorem sortB_len (xs : List ByteArray) : (sortB xs).length = xs.length := List.length_mergeSort _
theorem sortu_any (base : Nat) (u : Value) (xs : List ByteArray) (w : World) (h : ownsS w base u xs) (hx : xs.length ≤ 1000000) :
    Calls Tryd.prog 16 #[u] w fun e w' => e = .returned (.tuple #[]) ∧ IsTexts w' u (sortB xs) ∧ w.grownBy w' u.ownBlock := by
  rcases h.2 with ⟨rfl, h0⟩ | ⟨g, cap, cur, rfl, hb, hh, h1, h2, h3, h4⟩
  · refine (Tryd.slices_Sort_string_none none 0 w).mono ?_
    rintro e w' ⟨rfl, rfl⟩
    have hx0 : xs = [] := List.length_eq_zero_iff.1 h0
    subst hx0
    exact ⟨rfl, by rw [show sortB [] = [] by simp [sortB]]; exact texts_none0 _ _ _, ⟨rfl, rfl, rfl, Nat.le_refl _, fun _ _ _ => rfl⟩⟩
  · have ht : cur.toList.take (xs.map (fun b => b.data.toList)).length = (xs.map (fun b => b.data.toList)).map encStr := by
      rw [Lib.map_encStr, List.length_map, ← h4, Nat.mul_one]
    have hc := Tryd.slices_Sort_string g 0 cap (xs.map (fun b => b.data.toList)) w (holds_of_block hh ht) (Array.getElem?_eq_some_iff.1 hh).1 (by rw [List.length_map]; omega)
    rw [List.length_map] at hc
    refine hc.mono ?_
    rintro e w' ⟨rfl, n, os, rfl⟩
    have hr := ownsRow_sorted (n := n) (os := os) (ts := (sortB xs).map (fun b => b.data.toList)) (ss := xs.map (fun b => b.data.toList)) (by simp [sortB_len]) hb hh (by rw [List.length_map]; exact h1) h2 h3
    rw [Lib.map_encStr, List.length_map, ← sortB_map] at hr
    refine ⟨rfl, ownsS.isTexts (base := base) ?_, grownBy_sorted _⟩
    unfold ownsS
    rw [sortB_len]
    exact hr

set_option maxRecDepth 100000 in
theorem sorted_in (n : Nat) (hn : 4 ≤ n) (Bn n₀ : Nat) (v : Value) (xs : List ByteArray) (hx : xs.length ≤ 1000000) (w : World) (hBn : Bn < w.heap.size) (hn₀ : n₀ ≤ w.heap.size) (hc : w.cell? ⟨Bn, 0, none⟩ = some v) (hL : TB n₀ w v xs) :
    CallsIn Fence.wide n Tryd.prog 8 #[.func (.func 17) #[] #[.pointer (some ⟨Bn, 0, none⟩)]] w fun e w' => ∃ u, e = .returned u ∧ IsTexts w' u (sortB xs) ∧ Below w.heap.size w w' := by
  have hA := collect_in (n - 1) (by omega) Bn n₀ v xs hx w hBn hn₀ hc hL
  have h1 : 1 ≤ n := by omega
  have hf : Fence.wide.fn 15 := trivial
  have hf2 : Fence.wide.fn 16 := trivial
  refine callsIn_of_wp Tryd.func8 rfl trivial ?_ rfl
  simp only [Tryd.ntmps8, List.size_toArray, List.length_cons, List.length_nil, Nat.reduceAdd, Nat.reduceSub, Array.replicate_succ, Array.replicate_zero, List.push_toArray, List.append_toArray, List.nil_append, List.cons_append]
  gi_wp2_with (first
    | (gi_at_call 15; refine hA.mono ?_; rintro e w1 ⟨u, rfl, hu, hb⟩)
    | (gi_at_call 16; refine (callsIn_wide.2 (sortu_any _ _ xs _ hu hx)).mono ?_; rintro e w2 ⟨rfl, ht, hg⟩))
  go_ret
  exact ⟨u, rfl, ht, below_of_grown hb hg hb.size (fun g e => by have := (hu.lt g e).1; omega)⟩
/-- slices.Sorted(slices.Values(v)), the second half. -/
theorem sorted_any (Bn : Nat) (v : Value) (xs : List ByteArray) (hx : xs.length ≤ 1000000) (w : World) (hBn : Bn < w.heap.size) (hc : w.cell? ⟨Bn, 0, none⟩ = some v) (hL : IsTexts w v xs) :
    Calls Tryd.prog 8 #[.func (.func 17) #[] #[.pointer (some ⟨Bn, 0, none⟩)]] w fun e w' => ∃ u, e = .returned u ∧ IsTexts w' u (sortB xs) ∧ Below w.heap.size w w' :=
  (callsIn_wide (n := 6)).1 (sorted_in 6 (by omega) Bn w.heap.size v xs hx w hBn (Nat.le_refl _) hc (TB.of hL))
/-- slices.Values(v). -/
theorem values_any (v : Value) (xs : List ByteArray) (w : World) (h : IsTexts w v xs) :
    Calls Tryd.prog 9 #[v] w fun e w' => e = .returned (.func (.func 17) #[] #[.pointer (some ⟨w.heap.size, 0, none⟩)]) ∧ w' = w.alloc (.cells #[v] 30) :=
  (callsIn_wide (n := 6)).1 (values_in 6 v xs w.heap.size w (TB.of h))
theorem sortB_perm {xs ys : List ByteArray} (h : xs.Perm ys) : sortB xs = sortB ys := by
  unfold sortB
  refine List.Perm.eq_of_pairwise (le := fun a b => leB a b = true) ?_ (List.pairwise_mergeSort leB_trans leB_total _) (List.pairwise_mergeSort leB_trans leB_total _) (((List.mergeSort_perm xs leB).trans h).trans (List.mergeSort_perm ys leB).symm)
  intro a b _ _ h1 h2
  exact leB_anti h1 h2
end Go.Proofs.YtpmnflnaeknakaaDoor
