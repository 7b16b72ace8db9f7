/-
  slices.Contains, slices.ContainsFunc, slices.Concat at texts.
-/
import Derived.Test.YtimaddmgooefdaaDoorKeyTabled
import Derived.Lib.AppendZeros
import Derived.WalkSpells
namespace Go.Proofs.YtimaddmgooefdaaDoor
open Go.RowKit

theorem kcont_any (v : Value) (l : List ByteArray) (s : ByteArray) (w : World) (h : IsTexts w v l) (hl : l.length ≤ 9223372036854775807) (b : Bool) (hb : decide (s ∈ l) = b) :
    Calls Tryd.prog 18 #[v, .string s] w fun e w' => e = .returned (.bool b) ∧ w = w' := by
  obtain ⟨a, c, rfl⟩ := h.form
  subst hb
  rcases h.row.2 with rfl | ⟨b, off, rfl, _, hc⟩
  · refine (Tryd.slices_Contains_string_empty a c s w).mono fun e w' ⟨h1, h2⟩ => ⟨?_, h2.symm⟩
    rw [h1]; simp
  · refine (Tryd.slices_Contains_string b off l.length c l s w (Nat.le_refl _) hl hc).mono fun e w' ⟨h1, h2⟩ => ⟨?_, h2.symm⟩
    rw [h1, List.take_length]
    refine congrArg (fun x => Ending.returned (.bool x)) ?_
    rw [Bool.eq_iff_iff, Lib.containsS_iff, decide_eq_true_eq]

set_option maxRecDepth 100000 in
set_option maxHeartbeats 2000000 in
/-- So much room, and nothing in it yet. -/
theorem kgrow_any (n : Nat) (w : World) (hn : n ≤ 1000000) :
    Calls Tryd.prog 35 #[.slice none 0 0, .int .i64 (n : Int)] w fun e w' => ∃ v, e = .returned v ∧ ownsS w' w.heap.size v [] ∧ (∃ ad cap, v = .slice ad 0 cap) ∧ Below w.heap.size w w' := by
  by_cases h0 : n = 0
  · subst h0
    go_enter Tryd.func35, Tryd.ntmps35
    go_wp2
    go_ret
    exact ⟨_, rfl, ownsS_nil _ _, ⟨_, _, rfl⟩, Below.refl _ _⟩
  · obtain ⟨i0, hi, hz0, hz1, hz2⟩ := info_parts info_str
    have hrun := fun (ty : TypeId) => Lib.run_append_nil_zeros (P := Tryd.prog) w 22 3 ty 9 i0 (.string ⟨#[]⟩) .i64 .i64 Tryd.underlying22 Tryd.underlying3 hi hz0 n (by omega) (by rw [hz1]; decide) (by omega) (by rw [hz2]; omega)
    have hge := grownCap_ge w n 0 9
    have hle := grownCap_le_maxLen w n 0 9 (by unfold maxLen; omega)
    obtain ⟨C, hC⟩ : ∃ C, grownCap w n 0 9 = C := ⟨_, rfl⟩
    simp only [hC] at hrun
    rw [hC] at hge hle
    have h00 : (0 : Int) < (n : Int) := by omega
    have hc1 : (n : Int) ≤ (C : Int) := by omega
    have hc0 : (0 : Int) ≤ (C : Int) := by omega
    clear hC
    go_enter Tryd.func35, Tryd.ntmps35
    go_wp2_with (at_builtin; refine Lib.wpList_append_run _ rfl _ _ _ _ rfl _ _ rfl rfl _ _ (hrun _) ?_)
    go_ret
    refine ⟨_, rfl, ?_, ⟨_, _, rfl⟩, ((Below.refl _ _).drew).alloc (Nat.le_refl _) _⟩
    refine ⟨rfl, .inr ⟨w.heap.size, C, _, rfl, Nat.le_refl _, heap_alloc_new _ _, Nat.zero_le _, hle, ?_, by simp⟩⟩
    rw [Array.size_append, size_zeroCells, size_zeroCells]
    simp
    omega

/-- The function that KeysFew asks of each text: whether it is not in the table. -/
theorem kfew1_any (s : ByteArray) (v : Value) (T : List ByteArray) (B : Nat) (w : World) (hv : IsTexts w v T) (hT : T.length ≤ 9223372036854775807) (hc : w.cell? ⟨B, 0, none⟩ = some v) (hs : s ∈ T) :
    Calls Tryd.prog 20 #[.string s, .pointer (some ⟨B, 0, none⟩)] w fun e w' => e = .returned (.bool false) ∧ w = w' := by
  obtain ⟨a, c, rfl⟩ := hv.form
  have HV := Lib.hid hv
  clear hv
  go_enter Tryd.func20, Tryd.ntmps20
  go_wp2_with fail
  refine (kcont_any _ T s w HV.out hT true (decide_eq_true hs)).mono ?_
  rintro r w' ⟨rfl, rfl⟩
  go_wp2
  go_ret
  exact ⟨rfl, rfl⟩

set_option maxRecDepth 100000 in
set_option maxHeartbeats 2000000 in
theorem kidxf_any (v u : Value) (l T : List ByteArray) (B : Nat) (w : World) (hv : IsTexts w v l) (hu : IsTexts w u T) (hl : l.length ≤ 1000000) (hT : T.length ≤ 9223372036854775807) (hc : w.cell? ⟨B, 0, none⟩ = some u) (hs : ∀ s ∈ l, s ∈ T) :
    Calls Tryd.prog 37 #[v, .func (.func 20) #[] #[.pointer (some ⟨B, 0, none⟩)]] w fun e w' => e = .returned (.int .i64 (-1)) ∧ w = w' := by
  obtain ⟨a1, c1, rfl, _, f1⟩ := hv
  have F1 := Lib.hid f1
  have HU := Lib.hid hu
  have HS := Lib.hid hs
  obtain ⟨n, hn⟩ : ∃ n, n = l.length := ⟨_, rfl⟩
  rw [← hn] at hl ⊢
  have HN := Lib.hid hn
  clear f1 hu hs hn
  go_enter Tryd.func37, Tryd.ntmps37
  go_wp2
  go_loop [8] (fun i => ∃ k : Nat, k ≤ n ∧ i = .int .i64 k) (fun i => n - (intOf i).toNat)
  case atStart => exact ⟨0, Nat.zero_le _, rfl⟩
  case round =>
    obtain ⟨k, hk, rfl⟩ := hrel
    by_cases hlt : k < n
    · obtain ⟨s, hs⟩ : ∃ s, l[k]? = some s := ⟨l[k]'(by have := HN.out; omega), List.getElem?_eq_getElem _⟩
      obtain ⟨b1, o1, rfl, hb1, p0⟩ := F1.out k s hs
      have HIN := Lib.hid (HS.out s (List.mem_of_getElem? hs))
      clear hs
      go_wp2_with fail
      refine (kfew1_any s u T B w HU.out hT hc HIN.out).mono ?_
      rintro r w' ⟨rfl, rfl⟩
      go_wp2
      go_round
      case rel => exact ⟨k + 1, by omega, by go_num⟩
      case measure => simp [intOf]; omega
    · go_wp2
      go_ret
      exact ⟨rfl, rfl⟩
theorem kcontf_any (v u : Value) (l T : List ByteArray) (B : Nat) (w : World) (hv : IsTexts w v l) (hu : IsTexts w u T) (hl : l.length ≤ 1000000) (hT : T.length ≤ 9223372036854775807) (hc : w.cell? ⟨B, 0, none⟩ = some u) (hs : ∀ s ∈ l, s ∈ T) :
    Calls Tryd.prog 19 #[v, .func (.func 20) #[] #[.pointer (some ⟨B, 0, none⟩)]] w fun e w' => e = .returned (.bool false) ∧ w = w' := by
  have HV := Lib.hid hv
  have HU := Lib.hid hu
  have HS := Lib.hid hs
  clear hv hu hs
  go_enter Tryd.func19, Tryd.ntmps19
  go_wp2_with fail
  refine (kidxf_any v u l T B w HV.out HU.out hl hT hc HS.out).mono ?_
  rintro r w' ⟨rfl, rfl⟩
  go_wp2
  go_ret
  exact ⟨rfl, rfl⟩

/-- Nothing, appended. -/
theorem run_append_none (w : World) (ty : TypeId) (a : Option Addr) (n cap c : Nat) (hn : n ≤ cap) : (Builtin.append_ #[22, 22] ty #[.slice a n cap, .slice none 0 c]).run Tryd.prog w = .ok (.slice a n cap) w := by
  obtain ⟨i0, hi, hz0, hz1, hz2⟩ := info_parts info_str
  have h1 : (Builtin.lenOf (.slice none 0 c)).run Tryd.prog w = .ok 0 w := by simp [Builtin.lenOf]
  have h2 : (Builtin.firstCells i0.size 0 (.slice none 0 c)).run Tryd.prog w = .ok #[] w := by simp [Builtin.firstCells]
  cases a with
  | none => simp [Builtin.append_, run_underlying Tryd.underlying22, sizeOf, typeInfo, hi, hn, h1, h2]
  | some a => simp [Builtin.append_, run_underlying Tryd.underlying22, sizeOf, typeInfo, hi, hn, h1, h2, storeCells]

theorem wpList_append_texts {w : World} {ops : Array Oper} {rest : List Oper} {o : Oper} {a : Act} {Q : Exit → Act → World → Prop} (hgd : o.guard = none) (s x : Operand)
    (ho : o.op = .call { callee := .builtin .append, args := #[s, x], argTypes := #[22, 22] })
    (base : Nat) (v : Value) (l : List ByteArray) (hs : a.eval s = v) (hown : ownsS w base v l) (u : Value) (l2 : List ByteArray) (hx : a.eval x = u) (hu : IsTexts w u l2)
    (hlen : l.length + l2.length ≤ 1000000) (hbase : base ≤ w.heap.size)
    (h : ∀ v' w', ownsS w' base v' (l ++ l2) → w.grownBy w' v.ownBlock → wpList Tryd.prog ops Q rest (a.put o.dst v') w') : wpList Tryd.prog ops Q (o :: rest) a w := by
  obtain ⟨au, cu, rfl⟩ := hu.form
  have own : ∀ (ad : Addr) (cap : Nat), a.eval x = .slice (some ad) l2.length cap → (∀ j t, (l2.map Value.string)[j]? = some t → w.cell? (ad.add j) = some t) → wpList Tryd.prog ops Q (o :: rest) a w := by
    intro ad cap hx2 hc
    obtain ⟨i0, hi, hz0, hz1, hz2⟩ := info_parts info_str
    refine wpList_append_own w hgd s x 22 ho base 9 i0 (.string ⟨#[]⟩) 1 16 Tryd.underlying22 hi hz0 hz1 hz2 rfl (by decide) v l.length (l.map Value.string) hs hown ad l2.length cap (l2.map Value.string) hx2 (by simp) hc ?_ (by unfold maxLen; omega) (by omega) hbase ?_
    · intro t ht
      obtain ⟨b, _, rfl⟩ := List.mem_map.1 ht
      rfl
    · intro v' w' h1 h2 _
      refine h v' w' ?_ h2
      unfold ownsS
      rw [List.length_append, List.map_append]
      exact h1
  rcases hu.row.2 with rfl | ⟨b, off, rfl, _, hc⟩
  · cases au with
    | some ad => exact own ad cu hx (fun j t ht => by simp at ht)
    | none =>
      have hv : ∃ av n cap, v = .slice av n cap ∧ n ≤ cap := by
        rcases hown.2 with ⟨rfl, _⟩ | ⟨g, cap, cur, rfl, _, _, h3, _⟩
        · exact ⟨none, 0, 0, rfl, Nat.le_refl _⟩
        · exact ⟨_, _, _, rfl, h3⟩
      obtain ⟨av, n, cap, rfl, hnc⟩ := hv
      refine Lib.wpList_append_run w hgd s x _ _ ho _ _ hs hx _ _ (run_append_none w _ av n cap cu hnc) ?_
      refine h _ w (by rw [List.append_nil]; exact hown) ⟨rfl, rfl, rfl, Nat.le_refl _, fun _ _ _ => rfl⟩
  · refine own ⟨b, off, none⟩ cu hx (fun j t ht => ?_)
    rw [List.getElem?_map] at ht
    obtain ⟨s', hs', rfl⟩ := Option.map_eq_some_iff.1 ht
    have hj := (List.getElem?_eq_some_iff.1 hs').1
    have hcj := hc j hj
    have hadd : (⟨b, off, none⟩ : Addr).add j = ⟨b, off + j, none⟩ := by
      unfold Addr.add
      split
      · rename_i e; rw [e]; rfl
      · rfl
    rw [hadd, hcj]
    simp [hs']

end Go.Proofs.YtimaddmgooefdaaDoor
