/-
  A []keep.Dab of the call's own: Clone, Grow, Concat; which are syncs; DeleteFunc, in place. (Made by wip/dsk/gendab.py out of the texts for writes.)
-/
import Derived.Test.YtjnbnkaocoamlaaDabs
import Derived.Deep.AppendLies
import Derived.Laws.OwnMore
import Derived.Laws.AppendOwn
import Derived.Deep.Draws
import Derived.Lib.AppendZeros
import Derived.Lib.JoinLaws
import Derived.Lib.SliceRun
import Derived.Lib.Walk
import Derived.WalkSpells
import Derived.Laws.CopyRow
namespace Go.Proofs.Ytjnbnkaocoamlaa
open Go.RowKit

theorem below_of_grownD {B : Nat} {a w w' : World} (h : Below B a w) {o : Option Nat} (hg : w.grownBy w' o) (hB : B ≤ w.heap.size) (ho : ∀ g, o = some g → B ≤ g) : Below B a w' := h.grown hg hB ho
theorem take_snocD {l : List DabA} {k : Nat} {x : DabA} (hx : l[k]? = some x) : l.take (k + 1) = l.take k ++ [x] := by rw [List.take_add_one, hx]; rfl
theorem filt_snocD (p : DabA → Bool) {L : List DabA} {k : Nat} {x : DabA} (hx : L[k]? = some x) : (L.take (k + 1)).filter p = (L.take k).filter p ++ (if p x then [x] else []) := by
  rw [take_snocD hx, List.filter_append]
  congr 1
  cases e : p x <;> simp [e]
theorem info_dab : (Try.prog.info? 30).map (fun i => (i.zero, i.size, i.bytes)) = some (some (.agg #[.int .i64 0, .string ⟨#[]⟩, .bool false]), 3, 32) := by kernel_rfl
theorem dabAsC_app (a b : List DabA) : dabAsC (a ++ b) = dabAsC a ++ dabAsC b := by simp [dabAsC]
theorem dabAsC_one (a : DabA) : dabAsC [a] = dabAC a := by simp [dabAsC]
theorem dabAC_cell (t : DabA) : ∀ u ∈ dabAC t, u.oneCell' = true := by
  intro u hu
  simp [dabAC] at hu
  rcases hu with rfl | rfl | rfl <;> rfl
theorem dabAsC_cell (l : List DabA) : ∀ u ∈ dabAsC l, u.oneCell' = true := by
  intro u hu
  obtain ⟨t, _, ht⟩ := List.mem_flatMap.1 hu
  exact dabAC_cell t u ht
/-- The slice v owns the writes l, in blocks from base on. -/
def ownsDb (w : World) (base : Nat) (v : Value) (l : List DabA) : Prop := w.ownsRow base 30 3 v l.length (dabAsC l)

theorem ownsDb_nil (w : World) (base : Nat) : ownsDb w base (.slice none 0 0) [] := World.ownsRow_nil _ _ _ _
theorem ownsDb.alloc {w : World} {base : Nat} {v : Value} {l : List DabA} (h : ownsDb w base v l) (o : Obj) : ownsDb (w.alloc o) base v l := World.ownsRow.alloc h o
theorem ownsDb.drew {w : World} {base : Nat} {v : Value} {l : List DabA} (h : ownsDb w base v l) : ownsDb w.drew base v l := World.ownsRow.drew h
theorem ownsDb.drewN {w : World} {base : Nat} {v : Value} {l : List DabA} (h : ownsDb w base v l) (n : Nat) : ownsDb (w.drewN n) base v l := h
theorem ownsDb.lt {w : World} {base : Nat} {v : Value} {l : List DabA} (h : ownsDb w base v l) : ∀ k, v.ownBlock = some k → base ≤ k ∧ k < w.heap.size := World.ownsRow.lt h
theorem ownsDb.mono {w : World} {base base' : Nat} {v : Value} {l : List DabA} (h : ownsDb w base v l) (hb : base' ≤ base) : ownsDb w base' v l := by
  obtain ⟨h0, h1⟩ := h
  refine ⟨h0, ?_⟩
  rcases h1 with h1 | ⟨g, cap, cur, hv, hg, r⟩
  · exact .inl h1
  · exact .inr ⟨g, cap, cur, hv, Nat.le_trans hb hg, r⟩
/-- Kept by whatever leaves old memory as it was. -/
theorem ownsDb.below {w w' : World} {base : Nat} {v : Value} {l : List DabA} (h : ownsDb w base v l) (hb : Below w.heap.size w w') : ownsDb w' base v l := by
  refine World.ownsRow.kept h (row := none) ⟨hb.os, hb.tape, hb.output, hb.size, fun k hk _ => hb.block k hk⟩ ?_
  cases hv : v.ownBlock with
  | none => exact .inl rfl
  | some g => exact .inr (by simp)

theorem ownsDb.is {w : World} {base : Nat} {v : Value} {l : List DabA} (h : ownsDb w base v l) : IsDabAs w v l := by
  have hall := h
  have hlt := h.lt
  obtain ⟨h0, h1⟩ := h
  rcases h1 with ⟨rfl, hn⟩ | ⟨g, cap, cur, rfl, hb, hh, hc, hm, hs, ht⟩
  · exact .inl ⟨_, _, rfl, List.length_eq_zero_iff.1 hn⟩
  · by_cases hz : l.length = 0
    · exact .inl ⟨_, _, by rw [hz], List.length_eq_zero_iff.1 hz⟩
    · refine .inr ⟨g, 0, cap, rfl, ⟨by omega, hc⟩, (hlt g rfl).2, fun j u hj => ?_⟩
      have hjl : j < l.length * 3 := by rw [← dabAsC_len]; exact (List.getElem?_eq_some_iff.1 hj).1
      rw [Nat.zero_add, World.ownsRow.cellAt hall j hjl]
      exact hj
theorem ownsDb_none (w : World) : ownsDb (w.alloc (.cells #[] 30)) w.heap.size (.slice (some ⟨w.heap.size, 0, none⟩) 0 0) [] :=
  ⟨rfl, .inr ⟨w.heap.size, 0, #[], rfl, Nat.le_refl _, heap_alloc_new w _, Nat.le_refl _, Nat.zero_le _, rfl, rfl⟩⟩

set_option maxRecDepth 100000 in
set_option maxHeartbeats 2000000 in
/-- So much room, and nothing in it yet. -/
theorem dgrow_any (n : Nat) (w : World) (hn : n ≤ 1000000) :
    Calls Try.prog 32 #[.slice none 0 0, .int .i64 (n : Int)] w fun e w' => ∃ v, e = .returned v ∧ ownsDb w' w.heap.size v [] ∧ (∃ ad cap, v = .slice ad 0 cap) ∧ Below w.heap.size w w' := by
  by_cases h0 : n = 0
  · subst h0
    go_enter Try.func32, Try.ntmps32
    go_wp2
    go_ret
    exact ⟨_, rfl, ownsDb_nil _ _, ⟨_, _, rfl⟩, Below.refl _ _⟩
  · obtain ⟨i0, hi, hz0, hz1, hz2⟩ := info_parts info_dab
    have hrun := fun (ty : TypeId) => Lib.run_append_nil_zeros (P := Try.prog) w 22 3 ty 30 i0 (.agg #[.int .i64 0, .string ⟨#[]⟩, .bool false]) .i64 .i64 Try.underlying22 Try.underlying3 hi hz0 n (by omega) (by rw [hz1]; decide) (by omega) (by rw [hz2]; omega)
    have hge := grownCap_ge w n 0 30
    have hle := grownCap_le_maxLen w n 0 30 (by unfold maxLen; omega)
    obtain ⟨C, hC⟩ : ∃ C, grownCap w n 0 30 = C := ⟨_, rfl⟩
    simp only [hC] at hrun
    rw [hC] at hge hle
    have h00 : (0 : Int) < (n : Int) := by omega
    have hc1 : (n : Int) ≤ (C : Int) := by omega
    have hc0 : (0 : Int) ≤ (C : Int) := by omega
    clear hC
    go_enter Try.func32, Try.ntmps32
    go_wp2_with (at_builtin; refine Lib.wpList_append_run _ rfl _ _ _ _ rfl _ _ rfl rfl _ _ (hrun _) ?_)
    go_ret
    refine ⟨_, rfl, ?_, ⟨_, _, rfl⟩, ((Below.refl _ _).drew).alloc (Nat.le_refl _) _⟩
    refine ⟨rfl, .inr ⟨w.heap.size, C, _, rfl, Nat.le_refl _, heap_alloc_new _ _, Nat.zero_le _, hle, ?_, by simp [dabAsC]⟩⟩
    rw [Array.size_append, size_zeroCells, size_zeroCells]
    simp
    omega


theorem run_append_noneD (w : World) (ty : TypeId) (a : Option Addr) (n cap c : Nat) (hn : n ≤ cap) : (Builtin.append_ #[22, 22] ty #[.slice a n cap, .slice none 0 c]).run Try.prog w = .ok (.slice a n cap) w := by
  obtain ⟨i0, hi, hz0, hz1, hz2⟩ := info_parts info_dab
  have h1 : (Builtin.lenOf (.slice none 0 c)).run Try.prog w = .ok 0 w := by simp [Builtin.lenOf]
  have h2 : (Builtin.firstCells i0.size 0 (.slice none 0 c)).run Try.prog w = .ok #[] w := by simp [Builtin.firstCells]
  cases a with
  | none => simp [Builtin.append_, run_underlying Try.underlying22, sizeOf, typeInfo, hi, hn, h1, h2]
  | some a => simp [Builtin.append_, run_underlying Try.underlying22, sizeOf, typeInfo, hi, hn, h1, h2, storeCells]


theorem wpList_append_dbsA {w : World} {ops : Array Oper} {rest : List Oper} {o : Oper} {a : Act} {Q : Exit → Act → World → Prop} (hgd : o.guard = none) (s x : Operand)
    (ho : o.op = .call { callee := .builtin .append, args := #[s, x], argTypes := #[22, 22] })
    (base : Nat) (v : Value) (l : List DabA) (hs : a.eval s = v) (hown : ownsDb w base v l) (u : Value) (l2 : List DabA) (hx : a.eval x = u) (hu : IsDabAs w u l2)
    (hlen : l.length + l2.length ≤ 1000000) (hbase : base ≤ w.heap.size)
    (h : ∀ v' w', ownsDb w' base v' (l ++ l2) → w.grownBy w' v.ownBlock → wpList Try.prog ops Q rest (a.put o.dst v') w') : wpList Try.prog ops Q (o :: rest) a w := by
  have own : ∀ (ad : Addr) (cap : Nat), a.eval x = .slice (some ad) l2.length cap → (∀ j t, (dabAsC l2)[j]? = some t → w.cell? (ad.add j) = some t) → wpList Try.prog ops Q (o :: rest) a w := by
    intro ad cap hx2 hc
    obtain ⟨i0, hi, hz0, hz1, hz2⟩ := info_parts info_dab
    refine wpList_append_own w hgd s x 22 ho base 30 i0 (.agg #[.int .i64 0, .string ⟨#[]⟩, .bool false]) 3 32 Try.underlying22 hi hz0 hz1 hz2 rfl (by decide) v l.length (dabAsC l) hs hown ad l2.length cap (dabAsC l2) hx2 (dabAsC_len l2) hc (dabAsC_cell l2) (by unfold maxLen; omega) (by omega) hbase ?_
    intro v' w' h1 h2 _
    refine h v' w' ?_ h2
    unfold ownsDb
    rw [List.length_append, dabAsC_app]
    exact h1
  rcases hu with ⟨au, cu, rfl, rfl⟩ | ⟨b, off, c, rfl, _, _, h3⟩
  · cases au with
    | some ad => exact own ad cu hx (fun j t ht => by simp [dabAsC] at ht)
    | none =>
      have hv : ∃ av n cap, v = .slice av n cap ∧ n ≤ cap := by
        rcases hown.2 with ⟨rfl, _⟩ | ⟨g, cap, cur, rfl, _, _, h3, _⟩
        · exact ⟨none, 0, 0, rfl, Nat.le_refl _⟩
        · exact ⟨_, _, _, rfl, h3⟩
      obtain ⟨av, n, cap, rfl, hnc⟩ := hv
      refine Lib.wpList_append_run w hgd s x _ _ ho _ _ hs hx _ _ (run_append_noneD w _ av n cap cu hnc) ?_
      refine h _ w (by rw [List.append_nil]; exact hown) ⟨rfl, rfl, rfl, Nat.le_refl _, fun _ _ _ => rfl⟩
  · refine own ⟨b, off, none⟩ c hx (fun j t ht => ?_)
    have hadd : (⟨b, off, none⟩ : Addr).add j = ⟨b, off + j, none⟩ := by unfold Addr.add; split <;> simp_all
    rw [hadd]
    exact h3 j t ht
/-- Each of some slices reads as some writes. -/
def AllDbs (w : World) (B : Nat) (vs : List Value) (ls : List (List DabA)) : Prop := vs.length = ls.length ∧ ∀ (j : Nat) (v : Value), vs[j]? = some v → ∃ l, ls[j]? = some l ∧ w.cell? ⟨B, j, none⟩ = some v ∧ IsDabAs w v l
theorem flat_snoc {ls : List (List DabA)} {k : Nat} {l : List DabA} (h : ls[k]? = some l) : (ls.take (k + 1)).flatten = (ls.take k).flatten ++ l := by
  rw [List.take_add_one, h]; simp
theorem flat_le (ls : List (List DabA)) (k : Nat) : (ls.take k).flatten.length ≤ ls.flatten.length := by
  conv => rhs; rw [← List.take_append_drop k ls]
  rw [List.flatten_append, List.length_append]; omega

set_option maxRecDepth 100000 in
set_option maxHeartbeats 8000000 in
/-- All, one behind the other. -/
theorem dcat_any (vs : List Value) (ls : List (List DabA)) (B c n : Nat) (w : World) (h : AllDbs w B vs ls) (hn : n = ls.length) (hn2 : n ≤ 1000) (hl : ls.flatten.length ≤ 1000000) (hB : B < w.heap.size) :
    Calls Try.prog 19 #[.slice (some ⟨B, 0, none⟩) n c] w fun e w' => ∃ u, e = .returned u ∧ ownsDb w' w.heap.size u ls.flatten ∧ Below w.heap.size w w' := by
  have HA := Lib.hid h
  have HN := Lib.hid hn
  have HL := Lib.hid hl
  have HB := Lib.hid hB
  clear h hn hl hB
  go_enter Try.func19, Try.ntmps19
  go_wp2
  go_loopw [3, 11] (fun s i wr => ∃ k z : Nat, k ≤ n ∧ i = .int .i64 k ∧ s = .int .i64 z ∧ z = (ls.take k).flatten.length ∧ w = wr) (fun _ i _ => n - (RowKit.intOf i).toNat)
  case atStart => exact ⟨0, 0, by omega, rfl, rfl, by simp, rfl⟩
  case round =>
    obtain ⟨k, z, hk, rfl, rfl, hz, rfl⟩ := hrel
    have hz2 : z ≤ 1000000 := by rw [hz]; exact Nat.le_trans (flat_le _ _) HL.out
    have HZ := Lib.hid hz
    clear hz
    by_cases hlt : k < n
    · have b1 : decide ((k : Int) < (n : Int)) = true := by simpa using hlt
      obtain ⟨v, hv⟩ : ∃ v, vs[k]? = some v := ⟨vs[k]'(by rw [HA.out.1, ← HN.out]; exact hlt), List.getElem?_eq_getElem _⟩
      obtain ⟨l, hll, hc, hi⟩ := HA.out.2 k v hv
      obtain ⟨a, cc, rfl, _⟩ := hi.form
      obtain ⟨m, hm⟩ : ∃ m, m = l.length := ⟨_, rfl⟩
      rw [← hm] at hc
      have hzm : (ls.take (k + 1)).flatten.length = z + m := by rw [flat_snoc hll, List.length_append, HZ.out, hm]
      have hzm2 : z + m ≤ 1000000 := by rw [← hzm]; exact Nat.le_trans (flat_le _ _) HL.out
      have HZM := Lib.hid hzm
      obtain ⟨p, hp⟩ : ∃ p, p = z + m := ⟨_, rfl⟩
      have w1 : IntKind.i64.wrap ((z : Int) + (m : Int)) = (p : Int) := by rw [show (z : Int) + (m : Int) = (p : Int) by omega]; exact IntWalk.i64_in _ (by omega)
      have w2 : (z : Int) + (m : Int) = (p : Int) := by omega
      have w3 : ¬ (p : Int) < 0 := by omega
      have HPP := Lib.hid hp
      have hp2 : p ≤ 1000000 := by omega
      clear hv hll hi hm hzm hzm2 hp
      go_wp2
      go_roundw
      · exact ⟨k + 1, p, by omega, by simp, rfl, by rw [HZM.out, HPP.out], by trivial⟩
      · simp [RowKit.intOf]; omega
    · have b1 : decide ((k : Int) < (n : Int)) = false := by simp; omega
      obtain rfl : k = n := by omega
      have HZ2 : Hid (z = ls.flatten.length) := Lib.hid (by rw [HZ.out, List.take_of_length_le (by rw [HN.out]; exact Nat.le_refl _)])
      clear HZ
      go_wp2_with (go_at_call 32; refine (dgrow_any z _ hz2).mono ?_; rintro r w1 ⟨v6, rfl, ho, _, hb⟩; have HO := Lib.hid ho; have HB1 := Lib.hid hb; clear ho hb)
      go_loopw [6, 27] (fun u i wr => ∃ j : Nat, j ≤ k ∧ i = .int .i64 j ∧ ownsDb wr w.heap.size u (ls.take j).flatten ∧ Below w.heap.size w wr) (fun _ i _ => k - (RowKit.intOf i).toNat)
      case atStart => exact ⟨0, by omega, rfl, by simpa using HO.out, HB1.out⟩
      case round =>
        obtain ⟨j, hj, rfl, ho, hb⟩ := hrel
        have HO2 := Lib.hid ho
        have HB2 := Lib.hid hb
        clear ho hb
        by_cases hlt2 : j < k
        · have b2 : decide ((j : Int) < (k : Int)) = true := by simpa using hlt2
          obtain ⟨v, hv⟩ : ∃ v, vs[j]? = some v := ⟨vs[j]'(by rw [HA.out.1, ← HN.out]; exact hlt2), List.getElem?_eq_getElem _⟩
          obtain ⟨l, hll, hc, hi⟩ := HA.out.2 j v hv
          have hc2 : wr.cell? ⟨B, j, none⟩ = some v := (HB2.out.cell (p := ⟨B, j, none⟩) HB.out).trans hc
          have HIL := Lib.hid (hi.below HB2.out)
          have HLL := Lib.hid hll
          have hfl : (ls.take j).flatten.length + l.length ≤ 1000000 := by
            have h1 := flat_le ls (j + 1)
            rw [flat_snoc hll, List.length_append] at h1
            exact Nat.le_trans h1 HL.out
          have HFL := Lib.hid hfl
          clear hv hll hc hi hfl
          go_wp2_with (at_builtin; refine wpList_append_dbsA rfl _ _ rfl w.heap.size _ (ls.take j).flatten rfl HO2.out v l rfl HIL.out HFL.out HB2.out.size ?_; intro v' w5 ho5 hg5; have HO5 := Lib.hid ho5; have HG5 := Lib.hid hg5; clear ho5 hg5)
          go_roundw
          · refine ⟨j + 1, by omega, by simp, by rw [flat_snoc HLL.out]; exact HO5.out, HB2.out.grown HG5.out HB2.out.size (fun g hg => (HO2.out.lt g hg).1)⟩
          · simp [RowKit.intOf]; omega
        · have b2 : decide ((j : Int) < (k : Int)) = false := by simp; omega
          obtain rfl : j = k := by omega
          have HT : Hid (ownsDb wr w.heap.size u6 ls.flatten) := Lib.hid (by have h1 := HO2.out; rwa [List.take_of_length_le (by rw [HN.out]; exact Nat.le_refl _)] at h1)
          clear HO2
          go_wp2
          go_ret
          exact ⟨_, rfl, HT.out, HB2.out⟩

set_option maxRecDepth 100000 in
set_option maxHeartbeats 4000000 in
theorem dclone_any (v : Value) (l : List DabA) (w : World) (hv : IsDabAs w v l) (h6 : l.length ≤ 1000) :
    Calls Try.prog 17 #[v] w fun e w' => ∃ v', e = .returned v' ∧ ownsDb w' w.heap.size v' l ∧ Below w.heap.size w w' := by
  obtain ⟨a, c, rfl, _⟩ := hv.form
  cases a with
  | none =>
    have h0 : l = [] := by
      rcases hv with ⟨_, _, _, h⟩ | ⟨b, off, c, h, _⟩
      · exact h
      · cases h
    subst h0
    have heq : ∀ w : World, (binOp BinOp.eql 22 (.slice none 0 c) (.slice none 0 0)).run Try.prog w = .ok (.bool true) w := fun w => Go.Lib.run_eql_slice_nil w _ _ none 0 c 0 0 Try.underlying22
    clear hv
    go_enter Try.func17, Try.ntmps17
    go_wp2
    refine bodyPost_ret (v := .slice none 0 0) (by simp [results, Try.results17, go_sem]) rfl ?_
    exact ⟨_, rfl, ownsDb_nil _ _, Below.refl _ _⟩
  | some ad =>
    have HV := Lib.hid hv
    obtain ⟨n, hn⟩ : ∃ n, n = l.length := ⟨_, rfl⟩
    rw [← hn] at h6 HV ⊢
    have HN := Lib.hid hn
    clear hv hn
    have heq : ∀ w : World, (binOp BinOp.eql 22 (.slice (some ad) n c) (.slice none 0 0)).run Try.prog w = .ok (.bool false) w := fun w => Go.Lib.run_eql_slice_nil w _ _ (some ad) n c 0 0 Try.underlying22
    go_enter Try.func17, Try.ntmps17
    go_wp2_with (at_builtin; refine wpList_append_dbsA rfl _ _ rfl w.heap.size (.slice (some ⟨w.heap.size, 0, none⟩) 0 0) [] rfl (ownsDb_none w) (.slice (some ad) n c) l rfl (HV.out.below ((Below.refl _ _).alloc (Nat.le_refl _) _)) (by have := HN.out; simp; omega) (by simp) ?_; intro v' w' ho hg; have HO := Lib.hid ho; have HB : Hid (Below w.heap.size w w') := Lib.hid (((Below.refl _ _).alloc (Nat.le_refl _) _).grown hg (by simp) (fun k hk => by have e : w.heap.size = k := (by simpa [Value.ownBlock] using hk); omega)); clear ho hg)
    go_ret
    exact ⟨_, rfl, by simpa using HO.out, HB.out⟩
/-- The p-th write of a row of cells. -/
def AtDb (cur : Array Value) (p : Nat) (t : DabA) : Prop := ∀ q : Nat, q < 3 → cur[p * 3 + q]? = (dabAC t)[q]?
theorem AtDb.set {cur : Array Value} {p i q : Nat} {t : DabA} (h : AtDb cur p t) (hne : p ≠ i) (hq : q < 3) (u : Value) : AtDb (cur.setIfInBounds (i * 3 + q) u) p t := fun q' hq' => by
  rw [Array.getElem?_setIfInBounds, if_neg (by omega)]
  exact h q' hq'
def set3D (cur : Array Value) (i : Nat) (t : DabA) : Array Value := ((cur.setIfInBounds (i * 3) (.int .i64 t.at_)).setIfInBounds (i * 3 + 1) (.string t.s)).setIfInBounds (i * 3 + 2) (.bool t.syncs)
theorem set3D_size (cur : Array Value) (i : Nat) (t : DabA) : (set3D cur i t).size = cur.size := by simp [set3D]
theorem AtDb.set3D_ne {cur : Array Value} {p i : Nat} {t x : DabA} (h : AtDb cur p t) (hne : p ≠ i) : AtDb (set3D cur i x) p t := by
  unfold set3D
  exact AtDb.set (AtDb.set (AtDb.set (q := 0) h hne (by omega) _) hne (q := 1) (by omega) _) hne (q := 2) (by omega) _
theorem set3D_at {cur : Array Value} {i : Nat} {x : DabA} (hs : i * 3 + 3 ≤ cur.size) : AtDb (set3D cur i x) i x := fun q hq => by
  unfold set3D
  match q, hq with
  | 0, _ => simp [Array.getElem?_setIfInBounds, dabAC]; omega
  | 1, _ => simp [Array.getElem?_setIfInBounds, dabAC]; omega
  | 2, _ => simp [Array.getElem?_setIfInBounds, dabAC]; omega
theorem grown_cellD {a w : World} {g : Nat} (h : a.grownBy w (some g)) (i : Nat) (v : Value) : a.grownBy (w.setCell ⟨g, i, none⟩ v) (some g) :=
  ⟨by rw [← h.os]; rfl, by rw [← h.tape]; rfl, by rw [← h.output]; rfl, by simpa using h.size, fun k hk hne => (heap_setCell_other w _ k v (fun e => hne (by rw [e]))).trans (h.block k hk hne)⟩
theorem grown_set3D {w : World} {g : Nat} (i : Nat) (x : DabA) : w.grownBy (((w.setCell ⟨g, i * 3, none⟩ (.int .i64 x.at_)).setCell ⟨g, i * 3 + 1, none⟩ (.string x.s)).setCell ⟨g, i * 3 + 2, none⟩ (.bool x.syncs)) (some g) :=
  grown_cellD (grown_cellD (grown_cellD ⟨rfl, rfl, rfl, Nat.le_refl _, fun _ _ _ => rfl⟩ _ _) _ _) _ _
/-- What three stores leave. -/
theorem row_set3D {w : World} {g i : Nat} {cur : Array Value} {T : TypeId} (h : w.heap[g]? = some (.cells cur T (0, 0))) (x : DabA) :
    (((w.setCell ⟨g, i * 3, none⟩ (.int .i64 x.at_)).setCell ⟨g, i * 3 + 1, none⟩ (.string x.s)).setCell ⟨g, i * 3 + 2, none⟩ (.bool x.syncs)).heap[g]? = some (.cells (set3D cur i x) T (0, 0)) :=
  heap_setCell_same _ g _ _ T _ (heap_setCell_same _ g _ _ T _ (heap_setCell_same w g _ cur T _ h))
theorem isDabAs_of {w : World} {g cap : Nat} {cur : Array Value} {T : TypeId} {F : List DabA} (h : w.heap[g]? = some (.cells cur T (0, 0))) (hc : F.length ≤ cap) (hF : ∀ p t, F[p]? = some t → AtDb cur p t) : IsDabAs w (.slice (some ⟨g, 0, none⟩) F.length cap) F := by
  by_cases hz : F.length = 0
  · exact .inl ⟨_, _, by rw [hz], List.length_eq_zero_iff.1 hz⟩
  · refine .inr ⟨g, 0, cap, rfl, ⟨by omega, hc⟩, (Array.getElem?_eq_some_iff.1 h).1, fun j u hj => ?_⟩
    rw [Nat.zero_add, cell_of_row _ _ j _ _ (0, 0) h]
    have hjl : j < F.length * 3 := by rw [← dabAsC_len]; exact (List.getElem?_eq_some_iff.1 hj).1
    obtain ⟨t, ht⟩ : ∃ t, F[j / 3]? = some t := ⟨F[j / 3]'(by omega), List.getElem?_eq_getElem _⟩
    have e : j = j / 3 * 3 + j % 3 := by omega
    rw [e] at hj ⊢
    rw [dabAsC_at F (j / 3) (j % 3) t ht (by omega)] at hj
    rw [hF _ t ht (j % 3) (by omega)]
    exact hj
theorem owns_atD {w : World} {base g n cap : Nat} {l : List DabA} (h : ownsDb w base (.slice (some ⟨g, 0, none⟩) n cap) l) : ∃ cur, w.heap[g]? = some (.cells cur 30 (0, 0)) ∧ base ≤ g ∧ l.length = n ∧ n ≤ cap ∧ cap ≤ maxLen ∧ cur.size = cap * 3 ∧ ∀ p t, l[p]? = some t → AtDb cur p t := by
  rcases h.2 with ⟨e, _⟩ | ⟨g', cap', cur, e, hb, hh, h1, h2, h3, h4⟩
  · cases e
  · obtain ⟨e1, e2, e3⟩ := Value.slice.inj e
    simp only [Option.some.injEq, Addr.mk.injEq, and_true] at e1
    subst e1 e2 e3
    refine ⟨cur, hh, hb, rfl, h1, h2, h3, fun p t ht q hq => ?_⟩
    have hp : p < l.length := (List.getElem?_eq_some_iff.1 ht).1
    have h5 := dabAsC_at l p q t ht hq
    rw [← h5, ← h4, List.getElem?_take, if_pos (by omega)]
    simp

theorem zeros_cellD (n : Nat) : ∀ v ∈ (Builtin.zeroCells (Value.cells (.agg #[.int .i64 0, .string ⟨#[]⟩, .bool false])) n).toList, v.oneCell' = true := by
  intro v hv
  have hc : (Value.cells (.agg #[.int .i64 0, .string ⟨#[]⟩, .bool false])) = #[.int .i64 0, .string ⟨#[]⟩, .bool false] := by rfl
  rw [hc] at hv
  unfold Builtin.zeroCells at hv
  simp only [Array.toList_map, List.mem_map] at hv
  obtain ⟨i, _, rfl⟩ := hv
  have : i % 3 < 3 := Nat.mod_lt _ (by omega)
  show (#[Value.int .i64 0, .string ⟨#[]⟩, .bool false][i % 3]!).oneCell' = true
  generalize i % 3 = r at *
  match r, this with
  | 0, _ => rfl
  | 1, _ => rfl
  | 2, _ => rfl
theorem zeros_lenD (n : Nat) : (Builtin.zeroCells (Value.cells (.agg #[.int .i64 0, .string ⟨#[]⟩, .bool false])) n).toList.length = n * 3 := by
  have hc : (Value.cells (.agg #[.int .i64 0, .string ⟨#[]⟩, .bool false])) = #[.int .i64 0, .string ⟨#[]⟩, .bool false] := by rfl
  rw [hc]
  simp [Builtin.zeroCells]
/-- clear of a row's end. -/
theorem run_clear_dbs (w : World) (g i n cap c : Nat) (cur : Array Value) (T ty : TypeId) (h : w.heap[g]? = some (.cells cur T (0, 0))) (hi : i < n) (hn : n ≤ cap) (hs : cur.size = cap * 3) :
    ∃ w' cur', (Builtin.clear_ #[22] ty #[.slice (some ⟨g, i * 3, none⟩) (n - i) c]).run Try.prog w = .ok (.tuple #[]) w' ∧ w'.heap[g]? = some (.cells cur' T (0, 0)) ∧ (∀ p t, p < i → AtDb cur p t → AtDb cur' p t) ∧ w.grownBy w' (some g) := by
  have hz : ∀ w, (zeroValue 30).run Try.prog w = .ok (.agg #[.int .i64 0, .string ⟨#[]⟩, .bool false]) w := fun w => by kernel_rfl
  obtain ⟨m, hm⟩ : ∃ m, n - i = m + 1 := ⟨n - i - 1, by omega⟩
  obtain ⟨Z, hZ⟩ : ∃ Z, Z = (Builtin.zeroCells (Value.cells (.agg #[.int .i64 0, .string ⟨#[]⟩, .bool false])) (m + 1)).toList := ⟨_, rfl⟩
  have hst := run_storeCells_at (P := Try.prog) g (i * 3) T Z 0 cur w h (by rw [hZ, zeros_lenD (m + 1)]; omega) (by rw [hZ]; exact zeros_cellD (m + 1))
  refine ⟨w.setRow g (cur.toList.take (i * 3 + 0) ++ Z ++ cur.toList.drop (i * 3 + 0 + Z.length)).toArray, _, ?_, setRow_heap w g cur _ T (0, 0) h, ?_, ⟨rfl, rfl, rfl, by simp, fun k _ hk => setRow_other w g k _ (fun e => hk (by rw [e]))⟩⟩
  · rw [hm]
    have e : (Builtin.clear_ #[22] ty #[.slice (some ⟨g, i * 3, none⟩) (m + 1) c]).run Try.prog w = ((do storeCells ⟨g, i * 3, none⟩ Z; pure (Value.tuple #[])) : Sem Value).run Try.prog w := by
      rw [hZ]
      simp [Builtin.clear_, run_underlying Try.underlying22, hz]
    rw [e]
    simp [hst]
  · intro p t hp ht q hq
    rw [← ht q hq]
    have h1 : p * 3 + q < i * 3 := by omega
    have h2 : i * 3 ≤ cur.size := by rw [hs]; omega
    simp only [Nat.add_zero, List.getElem?_toArray]
    rw [List.append_assoc, List.getElem?_append_left (by rw [List.length_take]; simp; omega), List.getElem?_take, if_pos h1]
    simp


set_option maxRecDepth 100000 in
theorem each1_any (t : DabA) (w : World) :
    Calls Try.prog 18 #[.agg #[.int .i64 t.at_, .string t.s, .bool t.syncs]] w fun e w' => e = .returned (.bool t.syncs) ∧ Below w.heap.size w w' := by
  go_enter Try.func18, Try.ntmps18
  go_wp2
  go_ret
  exact ⟨rfl, (Below.refl _ _).alloc (Nat.le_refl _) _⟩

set_option maxRecDepth 100000 in
set_option maxHeartbeats 2000000 in
theorem idxe_any (v : Value) (l : List DabA) (w : World) (hv : IsDabAs w v l) (hl : l.length ≤ 1000000) :
    Calls Try.prog 31 #[v, .func (.func 18) #[] #[]] w fun e w' => ((e = .returned (.int .i64 (-1)) ∧ ∀ x ∈ l, x.syncs = false) ∨ (∃ p : Nat, e = .returned (.int .i64 (p : Int)) ∧ (∀ x ∈ l.take p, x.syncs = false) ∧ ∃ x, l[p]? = some x ∧ x.syncs = true)) ∧ Below w.heap.size w w' := by
  obtain ⟨a1, c1, rfl, f1⟩ := hv.form
  have F1 := Lib.hid f1
  obtain ⟨n, hn⟩ : ∃ n, n = l.length := ⟨_, rfl⟩
  rw [← hn] at hl ⊢
  have HN := Lib.hid hn
  clear f1 hn hv
  go_enter Try.func31, Try.ntmps31
  go_wp2
  go_loopw [8] (fun i wr => ∃ k : Nat, k ≤ n ∧ i = .int .i64 k ∧ (∀ x ∈ l.take k, x.syncs = false) ∧ Below w.heap.size w wr) (fun i _ => n - (RowKit.intOf i).toNat)
  case atStart => exact ⟨0, Nat.zero_le _, rfl, fun x h => (by simp at h), Below.refl _ _⟩
  case round =>
    obtain ⟨k, hk, rfl, hne, hbel⟩ := hrel
    have HB := Lib.hid hbel
    have HNE := Lib.hid hne
    clear hbel hne
    by_cases hlt : k < n
    · obtain ⟨x, hx⟩ : ∃ x, l[k]? = some x := ⟨l[k]'(by rw [← HN.out]; exact hlt), List.getElem?_eq_getElem _⟩
      obtain ⟨b1, o1, rfl, hb1, p0, p1, p2⟩ := F1.out k x hx
      have q0 := (HB.out.cell (p := ⟨b1, _, none⟩) hb1).trans p0
      have q1 := (HB.out.cell (p := ⟨b1, _, none⟩) hb1).trans p1
      have q2 := (HB.out.cell (p := ⟨b1, _, none⟩) hb1).trans p2
      have HX := Lib.hid hx
      clear p0 p1 p2 hx
      obtain ⟨At, S, sy⟩ := x
      dsimp only at q0 q1 q2
      go_wp2_with fail
      refine (each1_any ⟨At, S, sy⟩ wr).mono ?_
      rintro rr w1 ⟨rfl, hb1⟩
      have HB1 : Hid (Below w.heap.size w w1) := HB.out.trans (hb1.mono HB.out.size)
      clear hb1 q0 q1 q2
      cases sy with
      | true =>
        go_wp2
        go_ret
        exact ⟨.inr ⟨k, rfl, HNE.out, _, HX.out, rfl⟩, HB1.out⟩
      | false =>
        go_wp2
        go_roundw
        · refine ⟨k + 1, by omega, by go_num, fun y hy => ?_, HB1.out⟩
          rw [take_snocD HX.out] at hy
          rcases List.mem_append.1 hy with hy | hy
          · exact HNE.out y hy
          · obtain rfl := List.mem_singleton.1 hy
            rfl
        · simp [RowKit.intOf]; omega
    · go_wp2
      go_ret
      exact ⟨.inl ⟨rfl, fun x hx => HNE.out x (by rw [List.take_of_length_le (by rw [← HN.out]; omega)]; exact hx)⟩, HB.out⟩
set_option maxRecDepth 100000 in
set_option maxHeartbeats 4000000 in
theorem deld_any (v : Value) (l : List DabA) (base : Nat) (w : World) (ho : ownsDb w base v l) (hl : l.length ≤ 1000) (hbs : base ≤ w.heap.size) :
    Calls Try.prog 16 #[v, .func (.func 18) #[] #[]] w fun e w' => ∃ u, e = .returned u ∧ IsDabAs w' u (l.filter (fun x => !x.syncs)) ∧ Below base w w' := by
  have hi := ho.is
  obtain ⟨av, cv, rfl, _⟩ := hi.form
  have HO := Lib.hid ho
  have HI := Lib.hid hi
  obtain ⟨n, hn⟩ : ∃ n, n = l.length := ⟨_, rfl⟩
  rw [← hn] at hl HO HI ⊢
  have HN := Lib.hid hn
  clear ho hi hn
  go_enter Try.func16, Try.ntmps16
  go_wp2_with fail
  refine (idxe_any (.slice av n cv) l w HI.out (by have := HN.out; omega)).mono ?_
  rintro r w1 ⟨⟨rfl, hall⟩ | ⟨p, rfl, htk, x, hx, hxk⟩, hb1⟩
  · have HALL := Lib.hid hall
    have HB1 := Lib.hid hb1
    clear hall hb1
    go_wp2
    go_ret
    exact ⟨_, rfl, by rw [List.filter_eq_self.2 (fun x hx => by rw [HALL.out x hx]; rfl)]; exact HI.out.below HB1.out, HB1.out.mono hbs⟩
  · have hpn : p < n := by rw [HN.out]; exact (List.getElem?_eq_some_iff.1 hx).1
    obtain ⟨g, cap, e⟩ : ∃ g cap, Value.slice av n cv = .slice (some ⟨g, 0, none⟩) n cap := by
      rcases HO.out.2 with ⟨e, h⟩ | ⟨g, cap, _, e, _⟩
      · have := HN.out; omega
      · exact ⟨g, cap, by rw [e, HN.out]⟩
    obtain ⟨e1, _, e2⟩ := Value.slice.inj e
    subst e1 e2
    obtain ⟨cur, hcur, hbg, _, hnc, hcm, hcs, hat⟩ := owns_atD HO.out
    have hcur1 := (hb1.block g (Array.getElem?_eq_some_iff.1 hcur).1).trans hcur
    have HB1 : Hid (Below base w w1) := Lib.hid (hb1.mono hbs)
    have HTK := Lib.hid htk
    have HX := Lib.hid hx
    have HXK := Lib.hid hxk
    have HAT := Lib.hid hat
    have HCUR := Lib.hid hcur1
    have HCS := Lib.hid hcs
    have HBG : Hid (base ≤ g ∧ g < w1.heap.size) := Lib.hid ⟨hbg, (Array.getElem?_eq_some_iff.1 hcur1).1⟩
    clear htk hx hxk hat hcur hcur1 hcs hb1 e
    have hpm : ((p : Int) == -1) = false := by simp
    go_wp2
    go_loopw [5, 6] (fun iv jv wr => ∃ i j : Nat, ∃ cur : Array Value, iv = .int .i64 i ∧ jv = .int .i64 j ∧ i < j ∧ j ≤ n ∧ i = ((l.take j).filter (fun x => !x.syncs)).length ∧ wr.heap[g]? = some (.cells cur 30 (0, 0)) ∧ cur.size = cv * 3 ∧
      (∀ p t, ((l.take j).filter (fun x => !x.syncs))[p]? = some t → AtDb cur p t) ∧ (∀ p t, j ≤ p → l[p]? = some t → AtDb cur p t) ∧ Below base w wr) (fun _ j _ => n - (RowKit.intOf j).toNat)
    case atStart =>
      have hf : (l.take (p + 1)).filter (fun x => !x.syncs) = l.take p := by
        rw [take_snocD HX.out, List.filter_append, List.filter_eq_self.2 (fun x hx => by rw [HTK.out x hx]; rfl)]
        simp [HXK.out]
      refine ⟨p, p + 1, cur, rfl, by simp, by omega, by omega, ?_, HCUR.out, HCS.out, ?_, fun p' t _ ht => HAT.out p' t ht, HB1.out⟩
      · rw [hf, List.length_take]; have := HN.out; omega
      · rw [hf]
        intro p' t ht
        rw [List.getElem?_take] at ht
        by_cases h : p' < p
        · rw [if_pos h] at ht; exact HAT.out p' t ht
        · rw [if_neg h] at ht; cases ht
    case round =>
      obtain ⟨i, j, cur2, rfl, rfl, hij, hjn, hil, hc2, hs2, hf2, hr2, hb2⟩ := hrel
      have HIL2 := Lib.hid hil
      have HC2 := Lib.hid hc2
      have HS2 := Lib.hid hs2
      have HF2 := Lib.hid hf2
      have HR2 := Lib.hid hr2
      have HB2 := Lib.hid hb2
      have HGR : Hid (g < wr.heap.size) := Lib.hid (Array.getElem?_eq_some_iff.1 hc2).1
      have HSR : Hid (base ≤ wr.heap.size) := Lib.hid (Nat.le_trans hbs hb2.size)
      clear hil hc2 hs2 hf2 hr2 hb2 HCUR HCS HAT HTK HX HXK HB1
      by_cases hlt : j < n
      · have b0 : decide ((j : Int) < (n : Int)) = true := by simpa using hlt
        obtain ⟨y, hy⟩ : ∃ y, l[j]? = some y := ⟨l[j]'(by rw [← HN.out]; exact hlt), List.getElem?_eq_getElem _⟩
        have hya := HR2.out j y (Nat.le_refl _) hy
        have HY := Lib.hid hy
        obtain ⟨At, S, c⟩ := y
        have q0 : wr.cell? ⟨g, j * 3, none⟩ = some (.int .i64 At) := (cell_of_row _ _ _ _ _ _ HC2.out).trans (hya 0 (by omega))
        have q1 : wr.cell? ⟨g, j * 3 + 1, none⟩ = some (.string S) := (cell_of_row _ _ _ _ _ _ HC2.out).trans (hya 1 (by omega))
        have q2 : wr.cell? ⟨g, j * 3 + 2, none⟩ = some (.bool c) := (cell_of_row _ _ _ _ _ _ HC2.out).trans (hya 2 (by omega))
        clear hya hy
        go_wp2_with fail
        have hz : Below base w (wr.alloc (.cells #[.int .i64 At, .string S, .bool c] 30)) := HB2.out.alloc HSR.out _
        refine (each1_any ⟨At, S, c⟩ _).mono ?_
        rintro rr w3 ⟨rfl, hb3⟩
        have hrow := (hb3.block wr.heap.size (by simp)).trans (MapKept.heap_alloc wr _).1
        have hrow2 : w3.heap[g]? = some (.cells cur2 30 (0, 0)) := (hb3.block g (by have := HGR.out; simp; omega)).trans (((Below.refl _ wr).alloc (Nat.le_refl _) _).block g HGR.out |>.trans HC2.out)
        have HROW2 := Lib.hid hrow2
        have HB3 : Hid (Below base w w3) := Lib.hid (hz.trans (hb3.mono (by have := HSR.out; simp; omega)))
        have r0 := cell_of_row _ _ 0 _ _ _ hrow
        have r1 := cell_of_row _ _ 1 _ _ _ hrow
        have r2 := cell_of_row _ _ 2 _ _ _ hrow
        simp only [List.getElem?_toArray, List.getElem?_cons_zero, List.getElem?_cons_succ] at r0 r1 r2
        clear hz hb3 hrow hrow2 q0 q1 q2
        cases c with
        | true =>
          go_wp2
          go_roundw
          · refine ⟨i, j + 1, cur2, rfl, by simp, by omega, by omega, ?_, HROW2.out, HS2.out, ?_, fun p t hp ht => HR2.out p t (by omega) ht, HB3.out⟩
            · rw [filt_snocD _ HY.out, if_neg (by simp), List.append_nil]; exact HIL2.out
            · rw [filt_snocD _ HY.out, if_neg (by simp), List.append_nil]; exact HF2.out
          · simp [RowKit.intOf]; omega
        | false =>
          have hsz : (i * 3 + 3) ≤ cur2.size := by have := HS2.out; omega
          obtain ⟨z0, hz0⟩ : ∃ z, w3.cell? ⟨g, i * 3, none⟩ = some z := ⟨_, (cell_of_row _ _ _ _ _ _ HROW2.out).trans (Array.getElem?_eq_getElem (by omega))⟩
          have f0 : w3.frozen? ⟨g, i * 3, none⟩ = false := frozen_of_row _ _ _ _ _ HROW2.out
          obtain ⟨z1, hz1⟩ : ∃ z, w3.cell? ⟨g, i * 3 + 1, none⟩ = some z := ⟨_, (cell_of_row _ _ _ _ _ _ HROW2.out).trans (Array.getElem?_eq_getElem (by omega))⟩
          have f1 : w3.frozen? ⟨g, i * 3 + 1, none⟩ = false := frozen_of_row _ _ _ _ _ HROW2.out
          obtain ⟨z2, hz2⟩ : ∃ z, w3.cell? ⟨g, i * 3 + 2, none⟩ = some z := ⟨_, (cell_of_row _ _ _ _ _ _ HROW2.out).trans (Array.getElem?_eq_getElem (by omega))⟩
          have f2 : w3.frozen? ⟨g, i * 3 + 2, none⟩ = false := frozen_of_row _ _ _ _ _ HROW2.out
          go_wp2
          have hset := row_set3D (i := i) HROW2.out ⟨At, S, false⟩
          have hgs : w3.grownBy (((w3.setCell ⟨g, i * 3, none⟩ (.int .i64 At)).setCell ⟨g, i * 3 + 1, none⟩ (.string S)).setCell ⟨g, i * 3 + 2, none⟩ (.bool false)) (some g) :=
            grown_set3D i ⟨At, S, false⟩
          have HSET := Lib.hid hset
          have HGS := Lib.hid hgs
          clear hset hgs hz0 hz1 hz2 f0 f1 f2
          go_roundw
          · refine ⟨i + 1, j + 1, set3D cur2 i ⟨At, S, false⟩, by simp, by simp, by omega, by omega, ?_, HSET.out, by rw [set3D_size]; exact HS2.out, ?_, fun p t hp ht => (HR2.out p t (by omega) ht).set3D_ne (by omega), below_of_grownD HB3.out HGS.out (Nat.le_trans hbs HB3.out.size) (fun k e => by cases e; exact HBG.out.1)⟩
            · rw [filt_snocD _ HY.out, if_pos (by rfl), List.length_append, ← HIL2.out, List.length_singleton]
            · rw [filt_snocD _ HY.out, if_pos (by rfl)]
              intro p t ht
              by_cases hp : p < i
              · rw [List.getElem?_append_left (by rw [← HIL2.out]; exact hp)] at ht
                exact (HF2.out p t ht).set3D_ne (by omega)
              · rw [List.getElem?_append_right (by rw [← HIL2.out]; omega), ← HIL2.out] at ht
                have hp2 : p = i := by
                  have := (List.getElem?_eq_some_iff.1 ht).1
                  simp at this; omega
                subst hp2
                simp at ht
                subst ht
                exact set3D_at hsz
          · simp [RowKit.intOf]; omega
      · have b0 : decide ((j : Int) < (n : Int)) = false := by simp; omega
        obtain rfl : j = n := by omega
        obtain ⟨w4, cur4, hrun, hc4, hat4, hg4⟩ := run_clear_dbs wr g i j cv (cv - i) cur2 30 0 HC2.out hij hnc HS2.out
        have hfull : (l.take j).filter (fun x => !x.syncs) = l.filter (fun x => !x.syncs) := by rw [List.take_of_length_le (by rw [← HN.out]; exact Nat.le_refl _)]
        rw [hfull] at HF2 HIL2
        have hdone : IsDabAs w4 (.slice (some ⟨g, 0, none⟩) i cv) (l.filter (fun x => !x.syncs)) := by
          rw [HIL2.out]
          refine isDabAs_of hc4 (by have := HIL2.out; omega) (fun p t ht => hat4 p t ?_ (HF2.out p t ht))
          have := (List.getElem?_eq_some_iff.1 ht).1
          rw [HIL2.out]; exact this
        have HDONE := Lib.hid hdone
        have HB4 : Hid (Below base w w4) := Lib.hid (below_of_grownD HB2.out hg4 HSR.out (fun k e => by cases e; exact HBG.out.1))
        clear hc4 hat4 hg4 hfull hdone
        go_wp2
        go_ret
        exact ⟨_, rfl, HDONE.out, HB4.out⟩
end Go.Proofs.Ytjnbnkaocoamlaa
