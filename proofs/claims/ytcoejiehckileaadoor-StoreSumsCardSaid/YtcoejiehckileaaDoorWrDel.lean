/-
  slices.DeleteFunc of writes, in place: those under a key.
-/
import Derived.Test.YtcoejiehckileaaDoorStoLaw
import Derived.BigQuiet
import Derived.Deep.QuietTactic
import Derived.Laws.Tables
import Derived.Laws.CopyRow
namespace Go.Proofs.YtcoejiehckileaaDoor
open Go.RowKit

theorem filt_snoc' (p : Wr → Bool) {L : List Wr} {k : Nat} {x : Wr} (hx : L[k]? = some x) : (L.take (k + 1)).filter p = (L.take k).filter p ++ (if p x then [x] else []) := by
  rw [take_snoc hx, List.filter_append]
  congr 1
  cases e : p x <;> simp [e]
/-- The p-th write of a row of cells. -/
def AtW (cur : Array Value) (p : Nat) (t : Wr) : Prop := ∀ q : Nat, q < 6 → cur[p * 6 + q]? = (wrC t)[q]?
theorem AtW.set {cur : Array Value} {p i q : Nat} {t : Wr} (h : AtW cur p t) (hne : p ≠ i) (hq : q < 6) (u : Value) : AtW (cur.setIfInBounds (i * 6 + q) u) p t := fun q' hq' => by
  rw [Array.getElem?_setIfInBounds, if_neg (by omega)]
  exact h q' hq'
def set6 (cur : Array Value) (i : Nat) (t : Wr) : Array Value := (((((cur.setIfInBounds (i * 6) (.int .i64 t.time)).setIfInBounds (i * 6 + 1) (.int .i64 t.rep)).setIfInBounds (i * 6 + 2) (.int .i64 t.kind)).setIfInBounds (i * 6 + 3) (.string t.key)).setIfInBounds (i * 6 + 4) (.string t.value)).setIfInBounds (i * 6 + 5) (.int .i64 t.n)
theorem set6_size (cur : Array Value) (i : Nat) (t : Wr) : (set6 cur i t).size = cur.size := by simp [set6]
theorem AtW.set6_ne {cur : Array Value} {p i : Nat} {t x : Wr} (h : AtW cur p t) (hne : p ≠ i) : AtW (set6 cur i x) p t := by
  unfold set6
  exact AtW.set (AtW.set (AtW.set (AtW.set (AtW.set (AtW.set (q := 0) h hne (by omega) _) hne (q := 1) (by omega) _) hne (q := 2) (by omega) _) hne (q := 3) (by omega) _) hne (q := 4) (by omega) _) hne (q := 5) (by omega) _
theorem set6_at {cur : Array Value} {i : Nat} {x : Wr} (hs : i * 6 + 6 ≤ cur.size) : AtW (set6 cur i x) i x := fun q hq => by
  unfold set6
  match q, hq with
  | 0, _ => simp [Array.getElem?_setIfInBounds, wrC]; omega
  | 1, _ => simp [Array.getElem?_setIfInBounds, wrC]; omega
  | 2, _ => simp [Array.getElem?_setIfInBounds, wrC]; omega
  | 3, _ => simp [Array.getElem?_setIfInBounds, wrC]; omega
  | 4, _ => simp [Array.getElem?_setIfInBounds, wrC]; omega
  | 5, _ => simp [Array.getElem?_setIfInBounds, wrC]; omega
theorem grown_cell {a w : World} {g : Nat} (h : a.grownBy w (some g)) (i : Nat) (v : Value) : a.grownBy (w.setCell ⟨g, i, none⟩ v) (some g) :=
  ⟨by rw [← h.os]; rfl, by rw [← h.tape]; rfl, by rw [← h.output]; rfl, by simpa using h.size, fun k hk hne => (heap_setCell_other w _ k v (fun e => hne (by rw [e]))).trans (h.block k hk hne)⟩
theorem grown_set6 {w : World} {g : Nat} (i : Nat) (x : Wr) : w.grownBy ((((((w.setCell ⟨g, i * 6, none⟩ (.int .i64 x.time)).setCell ⟨g, i * 6 + 1, none⟩ (.int .i64 x.rep)).setCell ⟨g, i * 6 + 2, none⟩ (.int .i64 x.kind)).setCell ⟨g, i * 6 + 3, none⟩ (.string x.key)).setCell ⟨g, i * 6 + 4, none⟩ (.string x.value)).setCell ⟨g, i * 6 + 5, none⟩ (.int .i64 x.n)) (some g) :=
  grown_cell (grown_cell (grown_cell (grown_cell (grown_cell (grown_cell (grown_refl w _) _ _) _ _) _ _) _ _) _ _) _ _
/-- What six stores leave. -/
theorem row_set6 {w : World} {g i : Nat} {cur : Array Value} {T : TypeId} (h : w.heap[g]? = some (.cells cur T (0, 0))) (x : Wr) :
    ((((((w.setCell ⟨g, i * 6, none⟩ (.int .i64 x.time)).setCell ⟨g, i * 6 + 1, none⟩ (.int .i64 x.rep)).setCell ⟨g, i * 6 + 2, none⟩ (.int .i64 x.kind)).setCell ⟨g, i * 6 + 3, none⟩ (.string x.key)).setCell ⟨g, i * 6 + 4, none⟩ (.string x.value)).setCell ⟨g, i * 6 + 5, none⟩ (.int .i64 x.n)).heap[g]? = some (.cells (set6 cur i x) T (0, 0)) :=
  heap_setCell_same _ g _ _ T _ (heap_setCell_same _ g _ _ T _ (heap_setCell_same _ g _ _ T _ (heap_setCell_same _ g _ _ T _ (heap_setCell_same _ g _ _ T _ (heap_setCell_same w g _ cur T _ h)))))
theorem isWrs_of {w : World} {g cap : Nat} {cur : Array Value} {T : TypeId} {F : List Wr} (h : w.heap[g]? = some (.cells cur T (0, 0))) (hc : F.length ≤ cap) (hF : ∀ p t, F[p]? = some t → AtW cur p t) : IsWrs w (.slice (some ⟨g, 0, none⟩) F.length cap) F := by
  by_cases hz : F.length = 0
  · exact .inl ⟨_, _, by rw [hz], List.length_eq_zero_iff.1 hz⟩
  · refine .inr ⟨g, 0, cap, rfl, ⟨by omega, hc⟩, (Array.getElem?_eq_some_iff.1 h).1, fun j u hj => ?_⟩
    rw [Nat.zero_add, cell_of_row _ _ j _ _ (0, 0) h]
    have hjl : j < F.length * 6 := by rw [← wrsC_len]; exact (List.getElem?_eq_some_iff.1 hj).1
    obtain ⟨t, ht⟩ : ∃ t, F[j / 6]? = some t := ⟨F[j / 6]'(by omega), List.getElem?_eq_getElem _⟩
    have e : j = j / 6 * 6 + j % 6 := by omega
    rw [e] at hj ⊢
    rw [wrsC_at F (j / 6) (j % 6) t ht (by omega)] at hj
    rw [hF _ t ht (j % 6) (by omega)]
    exact hj
theorem owns_at {w : World} {base g n cap : Nat} {l : List Wr} (h : ownsW w base (.slice (some ⟨g, 0, none⟩) n cap) l) : ∃ cur, w.heap[g]? = some (.cells cur 37 (0, 0)) ∧ base ≤ g ∧ l.length = n ∧ n ≤ cap ∧ cap ≤ maxLen ∧ cur.size = cap * 6 ∧ ∀ p t, l[p]? = some t → AtW cur p t := by
  rcases h.2 with ⟨e, _⟩ | ⟨g', cap', cur, e, hb, hh, h1, h2, h3, h4⟩
  · cases e
  · obtain ⟨e1, e2, e3⟩ := Value.slice.inj e
    simp only [Option.some.injEq, Addr.mk.injEq, and_true] at e1
    subst e1 e2 e3
    refine ⟨cur, hh, hb, rfl, h1, h2, h3, fun p t ht q hq => ?_⟩
    have hp : p < l.length := (List.getElem?_eq_some_iff.1 ht).1
    have h5 := wrsC_at l p q t ht hq
    rw [← h5, ← h4, List.getElem?_take, if_pos (by omega)]
    simp

theorem zeros_cell (n : Nat) : ∀ v ∈ (Builtin.zeroCells (Value.cells (.agg #[.int .i64 0, .int .i64 0, .int .i64 0, .string ⟨#[]⟩, .string ⟨#[]⟩, .int .i64 0])) n).toList, v.oneCell' = true := by
  intro v hv
  have hc : (Value.cells (.agg #[.int .i64 0, .int .i64 0, .int .i64 0, .string ⟨#[]⟩, .string ⟨#[]⟩, .int .i64 0])) = #[.int .i64 0, .int .i64 0, .int .i64 0, .string ⟨#[]⟩, .string ⟨#[]⟩, .int .i64 0] := by rfl
  rw [hc] at hv
  unfold Builtin.zeroCells at hv
  simp only [Array.toList_map, List.mem_map] at hv
  obtain ⟨i, _, rfl⟩ := hv
  have : i % 6 < 6 := Nat.mod_lt _ (by omega)
  show (#[Value.int .i64 0, .int .i64 0, .int .i64 0, .string ⟨#[]⟩, .string ⟨#[]⟩, .int .i64 0][i % 6]!).oneCell' = true
  generalize i % 6 = r at *
  match r, this with
  | 0, _ => rfl
  | 1, _ => rfl
  | 2, _ => rfl
  | 3, _ => rfl
  | 4, _ => rfl
  | 5, _ => rfl
theorem zeros_len (n : Nat) : (Builtin.zeroCells (Value.cells (.agg #[.int .i64 0, .int .i64 0, .int .i64 0, .string ⟨#[]⟩, .string ⟨#[]⟩, .int .i64 0])) n).toList.length = n * 6 := by
  have hc : (Value.cells (.agg #[.int .i64 0, .int .i64 0, .int .i64 0, .string ⟨#[]⟩, .string ⟨#[]⟩, .int .i64 0])) = #[.int .i64 0, .int .i64 0, .int .i64 0, .string ⟨#[]⟩, .string ⟨#[]⟩, .int .i64 0] := by rfl
  rw [hc]
  simp [Builtin.zeroCells]
/-- clear of a row's end. -/
theorem run_clear_wrs (w : World) (g i n cap c : Nat) (cur : Array Value) (T ty : TypeId) (h : w.heap[g]? = some (.cells cur T (0, 0))) (hi : i < n) (hn : n ≤ cap) (hs : cur.size = cap * 6) :
    ∃ w' cur', (Builtin.clear_ #[22] ty #[.slice (some ⟨g, i * 6, none⟩) (n - i) c]).run Tryd.prog w = .ok (.tuple #[]) w' ∧ w'.heap[g]? = some (.cells cur' T (0, 0)) ∧ (∀ p t, p < i → AtW cur p t → AtW cur' p t) ∧ w.grownBy w' (some g) := by
  have hz : ∀ w, (zeroValue 37).run Tryd.prog w = .ok (.agg #[.int .i64 0, .int .i64 0, .int .i64 0, .string ⟨#[]⟩, .string ⟨#[]⟩, .int .i64 0]) w := fun w => by kernel_rfl
  obtain ⟨m, hm⟩ : ∃ m, n - i = m + 1 := ⟨n - i - 1, by omega⟩
  obtain ⟨Z, hZ⟩ : ∃ Z, Z = (Builtin.zeroCells (Value.cells (.agg #[.int .i64 0, .int .i64 0, .int .i64 0, .string ⟨#[]⟩, .string ⟨#[]⟩, .int .i64 0])) (m + 1)).toList := ⟨_, rfl⟩
  have hst := run_storeCells_at (P := Tryd.prog) g (i * 6) T Z 0 cur w h (by rw [hZ, zeros_len (m + 1)]; omega) (by rw [hZ]; exact zeros_cell (m + 1))
  refine ⟨w.setRow g (cur.toList.take (i * 6 + 0) ++ Z ++ cur.toList.drop (i * 6 + 0 + Z.length)).toArray, _, ?_, setRow_heap w g cur _ T (0, 0) h, ?_, ⟨rfl, rfl, rfl, by simp, fun k _ hk => setRow_other w g k _ (fun e => hk (by rw [e]))⟩⟩
  · rw [hm]
    have e : (Builtin.clear_ #[22] ty #[.slice (some ⟨g, i * 6, none⟩) (m + 1) c]).run Tryd.prog w = ((do storeCells ⟨g, i * 6, none⟩ Z; pure (Value.tuple #[])) : Sem Value).run Tryd.prog w := by
      rw [hZ]
      simp [Builtin.clear_, run_underlying Tryd.underlying22, hz]
    rw [e]
    simp [hst]
  · intro p t hp ht q hq
    rw [← ht q hq]
    have h1 : p * 6 + q < i * 6 := by omega
    have h2 : i * 6 ≤ cur.size := by rw [hs]; omega
    simp only [Nat.add_zero, List.getElem?_toArray]
    rw [List.append_assoc, List.getElem?_append_left (by rw [List.length_take]; simp; omega), List.getElem?_take, if_pos h1]
    simp

set_option maxRecDepth 100000 in
theorem drops1_any (T Re K N : Int) (key val k : ByteArray) (B : Nat) (w : World) (c : Bool) (hB : B < w.heap.size) (h0 : w.cell? ⟨B, 0, none⟩ = some (.string k)) (hc : (key.toList == k.toList) = c) :
    Calls Tryd.prog 28 #[.agg #[.int .i64 T, .int .i64 Re, .int .i64 K, .string key, .string val, .int .i64 N], .pointer (some ⟨B, 0, none⟩)] w fun e w' => e = .returned (.bool c) ∧ Below w.heap.size w w' := by
  have h1 : (w.alloc (.cells #[.int .i64 T, .int .i64 Re, .int .i64 K, .string key, .string val, .int .i64 N] 37)).cell? ⟨B, 0, none⟩ = some (.string k) := (World.cell?_alloc_lt _ _ _ hB).trans h0
  go_enter Tryd.func28, Tryd.ntmps28
  go_wp2
  go_ret
  exact ⟨by first | rfl | (rw [hc]), (Below.refl _ _).alloc (Nat.le_refl _) _⟩
theorem beqB {a b : ByteArray} {c : Bool} (h : (a.toList == b.toList) = c) : decide (a = b) = c := by
  cases c with
  | true =>
    have h2 := eq_of_beq h
    rw [ByteArray.toList_eq, ByteArray.toList_eq] at h2
    exact decide_eq_true (ByteArray.ext (Array.ext' h2))
  | false =>
    refine decide_eq_false (fun e => ?_)
    rw [e, beq_self_eq_true] at h
    cases h

set_option maxRecDepth 100000 in
set_option maxHeartbeats 2000000 in
theorem idxd_any (v : Value) (L : List Wr) (key : ByteArray) (B : Nat) (w : World) (hv : IsWrs w v L) (hl : L.length ≤ 1000000) (hB : B < w.heap.size) (h0 : w.cell? ⟨B, 0, none⟩ = some (.string key)) :
    Calls Tryd.prog 36 #[v, .func (.func 28) #[] #[.pointer (some ⟨B, 0, none⟩)]] w fun e w' => ((e = .returned (.int .i64 (-1)) ∧ ∀ x ∈ L, decide (x.key = key) = false) ∨ (∃ p : Nat, e = .returned (.int .i64 (p : Int)) ∧ (∀ x ∈ L.take p, decide (x.key = key) = false) ∧ ∃ x, L[p]? = some x ∧ decide (x.key = key) = true)) ∧ Below w.heap.size w w' := by
  obtain ⟨a1, c1, rfl, f1⟩ := hv.form
  have F1 := Lib.hid f1
  obtain ⟨n, hn⟩ : ∃ n, n = L.length := ⟨_, rfl⟩
  rw [← hn] at hl ⊢
  have HN := Lib.hid hn
  clear f1 hn hv
  go_enter Tryd.func36, Tryd.ntmps36
  go_wp2
  go_loopw [8] (fun i wr => ∃ k : Nat, k ≤ n ∧ i = .int .i64 k ∧ (∀ x ∈ L.take k, decide (x.key = key) = false) ∧ Below w.heap.size w wr) (fun i _ => n - (intOf i).toNat)
  case atStart => exact ⟨0, Nat.zero_le _, rfl, fun x h => (by simp at h), Below.refl _ _⟩
  case round =>
    obtain ⟨k, hk, rfl, hne, hbel⟩ := hrel
    have HB := Lib.hid hbel
    have HNE := Lib.hid hne
    clear hbel hne
    by_cases hlt : k < n
    · have b0 : decide ((k : Int) < (n : Int)) = true := by simpa using hlt
      obtain ⟨x, hx⟩ : ∃ x, L[k]? = some x := ⟨L[k]'(by rw [← HN.out]; exact hlt), List.getElem?_eq_getElem _⟩
      obtain ⟨b1, o1, rfl, hb1, p0, p1, p2, p3, p4, p5⟩ := F1.out k x hx
      have d : ∀ j u, w.cell? ⟨b1, j, none⟩ = some u → wr.cell? ⟨b1, j, none⟩ = some u := fun j u hu => (HB.out.cell (p := ⟨b1, j, none⟩) hb1).trans hu
      have q0 := d _ _ p0
      have q1 := d _ _ p1
      have q2 := d _ _ p2
      have q3 := d _ _ p3
      have q4 := d _ _ p4
      have q5 := d _ _ p5
      have HC : Hid (wr.cell? ⟨B, 0, none⟩ = some (.string key)) := Lib.hid ((HB.out.cell (p := ⟨B, 0, none⟩) hB).trans h0)
      have HBW : Hid (B < wr.heap.size) := Lib.hid (Nat.lt_of_lt_of_le hB HB.out.size)
      have HX := Lib.hid hx
      obtain ⟨T, Re, K, key', val, N⟩ := x
      obtain ⟨c, hc⟩ : ∃ c, (key'.toList == key.toList) = c := ⟨_, rfl⟩
      have HCC := Lib.hid hc
      dsimp only at q0 q1 q2 q3 q4 q5
      clear p0 p1 p2 p3 p4 p5 d hx hc
      go_wp2_with fail
      refine (drops1_any T Re K N key' val key B wr c HBW.out HC.out HCC.out).mono ?_
      rintro rr w1 ⟨rfl, hb1⟩
      have HB1 : Hid (Below w.heap.size w w1) := HB.out.trans (hb1.mono HB.out.size)
      clear hb1 q0 q1 q2 q3 q4 q5
      cases c with
      | true =>
        go_wp2
        go_ret
        exact ⟨.inr ⟨k, rfl, HNE.out, _, HX.out, beqB HCC.out⟩, HB1.out⟩
      | false =>
        go_wp2
        go_roundw
        · refine ⟨k + 1, by omega, by simp, fun y hy => ?_, HB1.out⟩
          rw [take_snoc HX.out] at hy
          rcases List.mem_append.1 hy with hy | hy
          · exact HNE.out y hy
          · obtain rfl := List.mem_singleton.1 hy
            exact beqB HCC.out
        · simp [intOf]; omega
    · have b0 : decide ((k : Int) < (n : Int)) = false := by simp; omega
      go_wp2
      go_ret
      exact ⟨.inl ⟨rfl, fun x hx => HNE.out x (by rw [List.take_of_length_le (by rw [← HN.out]; omega)]; exact hx)⟩, HB.out⟩

set_option maxRecDepth 100000 in
set_option maxHeartbeats 4000000 in
theorem delw_any (v : Value) (l : List Wr) (key : ByteArray) (B base : Nat) (w : World) (ho : ownsW w base v l) (hl : l.length ≤ 1000) (hB : B < base) (hbs : base ≤ w.heap.size) (h0 : w.cell? ⟨B, 0, none⟩ = some (.string key)) :
    Calls Tryd.prog 26 #[v, .func (.func 28) #[] #[.pointer (some ⟨B, 0, none⟩)]] w fun e w' => ∃ u, e = .returned u ∧ IsWrs w' u (l.filter (fun x => !decide (x.key = key))) ∧ Below base w w' := by
  have hi := ho.is
  obtain ⟨av, cv, rfl, _⟩ := hi.form
  have HO := Lib.hid ho
  have HI := Lib.hid hi
  obtain ⟨n, hn⟩ : ∃ n, n = l.length := ⟨_, rfl⟩
  rw [← hn] at hl HO HI ⊢
  have HN := Lib.hid hn
  clear ho hi hn
  go_enter Tryd.func26, Tryd.ntmps26
  go_wp2_with fail
  refine (idxd_any (.slice av n cv) l key B w HI.out (by have := HN.out; omega) (by omega) h0).mono ?_
  rintro r w1 ⟨⟨rfl, hall⟩ | ⟨p, rfl, htk, x, hx, hxk⟩, hb1⟩
  · have HALL := Lib.hid hall
    have HB1 := Lib.hid hb1
    clear hall hb1
    go_wp2
    go_ret
    exact ⟨_, rfl, by rw [List.filter_eq_self.2 (fun x hx => by rw [HALL.out x hx]; rfl)]; exact HI.out.below HB1.out, HB1.out.mono hbs⟩
  · have hpn : p < n := by rw [HN.out]; exact (List.getElem?_eq_some_iff.1 hx).1
    obtain ⟨g, cap, e⟩ : ∃ g cap, Value.slice av n cv = .slice (some ⟨g, 0, none⟩) n cap := by
      rcases HO.out.2 with ⟨e, h⟩ | ⟨g, cap, _, e, _⟩
      · have := HN.out; omega
      · exact ⟨g, cap, by rw [e, HN.out]⟩
    obtain ⟨e1, _, e2⟩ := Value.slice.inj e
    subst e1 e2
    obtain ⟨cur, hcur, hbg, _, hnc, hcm, hcs, hat⟩ := owns_at HO.out
    have hcur1 := (hb1.block g (Array.getElem?_eq_some_iff.1 hcur).1).trans hcur
    have HB1 : Hid (Below base w w1) := Lib.hid (hb1.mono hbs)
    have HTK := Lib.hid htk
    have HX := Lib.hid hx
    have HXK := Lib.hid hxk
    have HAT := Lib.hid hat
    have HCUR := Lib.hid hcur1
    have HCS := Lib.hid hcs
    have HBG : Hid (base ≤ g ∧ g < w1.heap.size) := Lib.hid ⟨hbg, (Array.getElem?_eq_some_iff.1 hcur1).1⟩
    clear htk hx hxk hat hcur hcur1 hcs hb1 e
    have hpm : ((p : Int) == -1) = false := by simp
    go_wp2
    go_loopw [5, 6] (fun iv jv wr => ∃ i j : Nat, ∃ cur : Array Value, iv = .int .i64 i ∧ jv = .int .i64 j ∧ i < j ∧ j ≤ n ∧ i = ((l.take j).filter (fun x => !decide (x.key = key))).length ∧ wr.heap[g]? = some (.cells cur 37 (0, 0)) ∧ cur.size = cv * 6 ∧
      (∀ p t, ((l.take j).filter (fun x => !decide (x.key = key)))[p]? = some t → AtW cur p t) ∧ (∀ p t, j ≤ p → l[p]? = some t → AtW cur p t) ∧ Below base w wr) (fun _ j _ => n - (intOf j).toNat)
    case atStart =>
      have hf : (l.take (p + 1)).filter (fun x => !decide (x.key = key)) = l.take p := by
        rw [take_snoc HX.out, List.filter_append, List.filter_eq_self.2 (fun x hx => by rw [HTK.out x hx]; rfl)]
        simp [of_decide_eq_true HXK.out]
      refine ⟨p, p + 1, cur, rfl, by simp, by omega, by omega, ?_, HCUR.out, HCS.out, ?_, fun p' t _ ht => HAT.out p' t ht, HB1.out⟩
      · rw [hf, List.length_take]; have := HN.out; omega
      · rw [hf]
        intro p' t ht
        rw [List.getElem?_take] at ht
        by_cases h : p' < p
        · rw [if_pos h] at ht; exact HAT.out p' t ht
        · rw [if_neg h] at ht; cases ht
    case round =>
      obtain ⟨i, j, cur2, rfl, rfl, hij, hjn, hil, hc2, hs2, hf2, hr2, hb2⟩ := hrel
      have HIL2 := Lib.hid hil
      have HC2 := Lib.hid hc2
      have HS2 := Lib.hid hs2
      have HF2 := Lib.hid hf2
      have HR2 := Lib.hid hr2
      have HB2 := Lib.hid hb2
      have HGR : Hid (g < wr.heap.size) := Lib.hid (Array.getElem?_eq_some_iff.1 hc2).1
      have HSR : Hid (base ≤ wr.heap.size) := Lib.hid (Nat.le_trans hbs hb2.size)
      clear hil hc2 hs2 hf2 hr2 hb2 HCUR HCS HAT HTK HX HXK HB1
      by_cases hlt : j < n
      · have b0 : decide ((j : Int) < (n : Int)) = true := by simpa using hlt
        obtain ⟨y, hy⟩ : ∃ y, l[j]? = some y := ⟨l[j]'(by rw [← HN.out]; exact hlt), List.getElem?_eq_getElem _⟩
        have hya := HR2.out j y (Nat.le_refl _) hy
        have HY := Lib.hid hy
        obtain ⟨T, Re, K, key', val, N⟩ := y
        have q0 : wr.cell? ⟨g, j * 6, none⟩ = some (.int .i64 T) := (cell_of_row _ _ _ _ _ _ HC2.out).trans (hya 0 (by omega))
        have q1 : wr.cell? ⟨g, j * 6 + 1, none⟩ = some (.int .i64 Re) := (cell_of_row _ _ _ _ _ _ HC2.out).trans (hya 1 (by omega))
        have q2 : wr.cell? ⟨g, j * 6 + 2, none⟩ = some (.int .i64 K) := (cell_of_row _ _ _ _ _ _ HC2.out).trans (hya 2 (by omega))
        have q3 : wr.cell? ⟨g, j * 6 + 3, none⟩ = some (.string key') := (cell_of_row _ _ _ _ _ _ HC2.out).trans (hya 3 (by omega))
        have q4 : wr.cell? ⟨g, j * 6 + 4, none⟩ = some (.string val) := (cell_of_row _ _ _ _ _ _ HC2.out).trans (hya 4 (by omega))
        have q5 : wr.cell? ⟨g, j * 6 + 5, none⟩ = some (.int .i64 N) := (cell_of_row _ _ _ _ _ _ HC2.out).trans (hya 5 (by omega))
        obtain ⟨c, hc⟩ : ∃ c, (key'.toList == key.toList) = c := ⟨_, rfl⟩
        have HCC := Lib.hid hc
        clear hya hy hc
        go_wp2_with fail
        have hz : Below base w (wr.alloc (.cells #[.int .i64 T, .int .i64 Re, .int .i64 K, .string key', .string val, .int .i64 N] 37)) := HB2.out.alloc HSR.out _
        refine (drops1_any T Re K N key' val key B _ c (by have := HSR.out; simp; omega) ((hz.cell (p := ⟨B, 0, none⟩) hB).trans h0) HCC.out).mono ?_
        rintro rr w3 ⟨rfl, hb3⟩
        have hrow := (hb3.block wr.heap.size (by simp)).trans (MapKept.heap_alloc wr _).1
        have hrow2 : w3.heap[g]? = some (.cells cur2 37 (0, 0)) := (hb3.block g (by have := HGR.out; simp; omega)).trans (((Below.refl _ wr).alloc (Nat.le_refl _) _).block g HGR.out |>.trans HC2.out)
        have HROW2 := Lib.hid hrow2
        have HB3 : Hid (Below base w w3) := Lib.hid (hz.trans (hb3.mono (by have := HSR.out; simp; omega)))
        have r0 := cell_of_row _ _ 0 _ _ _ hrow
        have r1 := cell_of_row _ _ 1 _ _ _ hrow
        have r2 := cell_of_row _ _ 2 _ _ _ hrow
        have r3 := cell_of_row _ _ 3 _ _ _ hrow
        have r4 := cell_of_row _ _ 4 _ _ _ hrow
        have r5 := cell_of_row _ _ 5 _ _ _ hrow
        simp only [List.getElem?_toArray, List.getElem?_cons_zero, List.getElem?_cons_succ] at r0 r1 r2 r3 r4 r5
        clear hz hb3 hrow hrow2 q0 q1 q2 q3 q4 q5
        cases c with
        | true =>
          go_wp2
          go_roundw
          · refine ⟨i, j + 1, cur2, rfl, by simp, by omega, by omega, ?_, HROW2.out, HS2.out, ?_, fun p t hp ht => HR2.out p t (by omega) ht, HB3.out⟩
            · rw [filt_snoc' _ HY.out, if_neg (by simp [of_decide_eq_true (beqB HCC.out)]), List.append_nil]; exact HIL2.out
            · rw [filt_snoc' _ HY.out, if_neg (by simp [of_decide_eq_true (beqB HCC.out)]), List.append_nil]; exact HF2.out
          · simp [intOf]; omega
        | false =>
          have hsz : (i * 6 + 6) ≤ cur2.size := by have := HS2.out; omega
          obtain ⟨z0, hz0⟩ : ∃ z, w3.cell? ⟨g, i * 6, none⟩ = some z := ⟨_, (cell_of_row _ _ _ _ _ _ HROW2.out).trans (Array.getElem?_eq_getElem (by omega))⟩
          have f0 : w3.frozen? ⟨g, i * 6, none⟩ = false := frozen_of_row _ _ _ _ _ HROW2.out
          obtain ⟨z1, hz1⟩ : ∃ z, w3.cell? ⟨g, i * 6 + 1, none⟩ = some z := ⟨_, (cell_of_row _ _ _ _ _ _ HROW2.out).trans (Array.getElem?_eq_getElem (by omega))⟩
          have f1 : w3.frozen? ⟨g, i * 6 + 1, none⟩ = false := frozen_of_row _ _ _ _ _ HROW2.out
          obtain ⟨z2, hz2⟩ : ∃ z, w3.cell? ⟨g, i * 6 + 2, none⟩ = some z := ⟨_, (cell_of_row _ _ _ _ _ _ HROW2.out).trans (Array.getElem?_eq_getElem (by omega))⟩
          have f2 : w3.frozen? ⟨g, i * 6 + 2, none⟩ = false := frozen_of_row _ _ _ _ _ HROW2.out
          obtain ⟨z3, hz3⟩ : ∃ z, w3.cell? ⟨g, i * 6 + 3, none⟩ = some z := ⟨_, (cell_of_row _ _ _ _ _ _ HROW2.out).trans (Array.getElem?_eq_getElem (by omega))⟩
          have f3 : w3.frozen? ⟨g, i * 6 + 3, none⟩ = false := frozen_of_row _ _ _ _ _ HROW2.out
          obtain ⟨z4, hz4⟩ : ∃ z, w3.cell? ⟨g, i * 6 + 4, none⟩ = some z := ⟨_, (cell_of_row _ _ _ _ _ _ HROW2.out).trans (Array.getElem?_eq_getElem (by omega))⟩
          have f4 : w3.frozen? ⟨g, i * 6 + 4, none⟩ = false := frozen_of_row _ _ _ _ _ HROW2.out
          obtain ⟨z5, hz5⟩ : ∃ z, w3.cell? ⟨g, i * 6 + 5, none⟩ = some z := ⟨_, (cell_of_row _ _ _ _ _ _ HROW2.out).trans (Array.getElem?_eq_getElem (by omega))⟩
          have f5 : w3.frozen? ⟨g, i * 6 + 5, none⟩ = false := frozen_of_row _ _ _ _ _ HROW2.out
          go_wp2
          have hset := row_set6 (i := i) HROW2.out ⟨T, Re, K, key', val, N⟩
          have hgs : w3.grownBy ((((((w3.setCell ⟨g, i * 6, none⟩ (.int .i64 T)).setCell ⟨g, i * 6 + 1, none⟩ (.int .i64 Re)).setCell ⟨g, i * 6 + 2, none⟩ (.int .i64 K)).setCell ⟨g, i * 6 + 3, none⟩ (.string key')).setCell ⟨g, i * 6 + 4, none⟩ (.string val)).setCell ⟨g, i * 6 + 5, none⟩ (.int .i64 N)) (some g) :=
            grown_set6 i ⟨T, Re, K, key', val, N⟩
          have HSET := Lib.hid hset
          have HGS := Lib.hid hgs
          clear hset hgs hz0 hz1 hz2 hz3 hz4 hz5 f0 f1 f2 f3 f4 f5
          go_roundw
          · refine ⟨i + 1, j + 1, set6 cur2 i ⟨T, Re, K, key', val, N⟩, by simp, by simp, by omega, by omega, ?_, HSET.out, by rw [set6_size]; exact HS2.out, ?_, fun p t hp ht => (HR2.out p t (by omega) ht).set6_ne (by omega), below_of_grown HB3.out HGS.out (Nat.le_trans hbs HB3.out.size) (fun k e => by cases e; exact HBG.out.1)⟩
            · rw [filt_snoc' _ HY.out, if_pos (by simpa using of_decide_eq_false (beqB HCC.out)), List.length_append, ← HIL2.out, List.length_singleton]
            · rw [filt_snoc' _ HY.out, if_pos (by simpa using of_decide_eq_false (beqB HCC.out))]
              intro p t ht
              by_cases hp : p < i
              · rw [List.getElem?_append_left (by rw [← HIL2.out]; exact hp)] at ht
                exact (HF2.out p t ht).set6_ne (by omega)
              · rw [List.getElem?_append_right (by rw [← HIL2.out]; omega), ← HIL2.out] at ht
                have hp2 : p = i := by
                  have := (List.getElem?_eq_some_iff.1 ht).1
                  simp at this; omega
                subst hp2
                simp at ht
                subst ht
                exact set6_at hsz
          · simp [intOf]; omega
      · have b0 : decide ((j : Int) < (n : Int)) = false := by simp; omega
        obtain rfl : j = n := by omega
        obtain ⟨w4, cur4, hrun, hc4, hat4, hg4⟩ := run_clear_wrs wr g i j cv (cv - i) cur2 37 0 HC2.out hij hnc HS2.out
        have hfull : (l.take j).filter (fun x => !decide (x.key = key)) = l.filter (fun x => !decide (x.key = key)) := by rw [List.take_of_length_le (by rw [← HN.out]; exact Nat.le_refl _)]
        rw [hfull] at HF2 HIL2
        have hdone : IsWrs w4 (.slice (some ⟨g, 0, none⟩) i cv) (l.filter (fun x => !decide (x.key = key))) := by
          rw [HIL2.out]
          refine isWrs_of hc4 (by have := HIL2.out; omega) (fun p t ht => hat4 p t ?_ (HF2.out p t ht))
          have := (List.getElem?_eq_some_iff.1 ht).1
          rw [HIL2.out]; exact this
        have HDONE := Lib.hid hdone
        have HB4 : Hid (Below base w w4) := Lib.hid (below_of_grown HB2.out hg4 HSR.out (fun k e => by cases e; exact HBG.out.1))
        clear hc4 hat4 hg4 hfull hdone
        go_wp2
        go_ret
        exact ⟨_, rfl, HDONE.out, HB4.out⟩
end Go.Proofs.YtcoejiehckileaaDoor
