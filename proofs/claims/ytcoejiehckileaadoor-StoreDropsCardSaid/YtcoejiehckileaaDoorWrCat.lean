/-
  slices.Grow and Concat of writes. (Made by wip/sto/genwcat.py.)
-/
import Derived.Test.YtcoejiehckileaaDoorWrs
import Derived.Lib.AppendZeros
import Derived.Lib.JoinLaws
import Derived.Lib.SliceRun
import Derived.Lib.Walk
import Derived.WalkSpells
import Derived.Laws.AppendOwn
import Derived.Lib.Hide
namespace Go.Proofs.YtcoejiehckileaaDoor
open Go.RowKit

set_option maxRecDepth 100000 in
set_option maxHeartbeats 2000000 in
/-- So much room, and nothing in it yet. -/
theorem wgrow_any (n : Nat) (w : World) (hn : n ≤ 1000000) :
    Calls Tryd.prog 37 #[.slice none 0 0, .int .i64 (n : Int)] w fun e w' => ∃ v, e = .returned v ∧ ownsW w' w.heap.size v [] ∧ (∃ ad cap, v = .slice ad 0 cap) ∧ Below w.heap.size w w' := by
  by_cases h0 : n = 0
  · subst h0
    go_enter Tryd.func37, Tryd.ntmps37
    go_wp2
    go_ret
    exact ⟨_, rfl, ownsW_nil _ _, ⟨_, _, rfl⟩, Below.refl _ _⟩
  · obtain ⟨i0, hi, hz0, hz1, hz2⟩ := info_parts info_wr
    have hrun := fun (ty : TypeId) => Lib.run_append_nil_zeros (P := Tryd.prog) w 22 3 ty 37 i0 (.agg #[.int .i64 0, .int .i64 0, .int .i64 0, .string ⟨#[]⟩, .string ⟨#[]⟩, .int .i64 0]) .i64 .i64 Tryd.underlying22 Tryd.underlying3 hi hz0 n (by omega) (by rw [hz1]; decide) (by omega) (by rw [hz2]; omega)
    have hge := grownCap_ge w n 0 37
    have hle := grownCap_le_maxLen w n 0 37 (by unfold maxLen; omega)
    obtain ⟨C, hC⟩ : ∃ C, grownCap w n 0 37 = C := ⟨_, rfl⟩
    simp only [hC] at hrun
    rw [hC] at hge hle
    have h00 : (0 : Int) < (n : Int) := by omega
    have hc1 : (n : Int) ≤ (C : Int) := by omega
    have hc0 : (0 : Int) ≤ (C : Int) := by omega
    clear hC
    go_enter Tryd.func37, Tryd.ntmps37
    go_wp2_with (at_builtin; refine Lib.wpList_append_run _ rfl _ _ _ _ rfl _ _ rfl rfl _ _ (hrun _) ?_)
    go_ret
    refine ⟨_, rfl, ?_, ⟨_, _, rfl⟩, ((Below.refl _ _).drew).alloc (Nat.le_refl _) _⟩
    refine ⟨rfl, .inr ⟨w.heap.size, C, _, rfl, Nat.le_refl _, heap_alloc_new _ _, Nat.zero_le _, hle, ?_, by simp [wrsC]⟩⟩
    rw [Array.size_append, size_zeroCells, size_zeroCells]
    simp
    omega


theorem run_append_noneW (w : World) (ty : TypeId) (a : Option Addr) (n cap c : Nat) (hn : n ≤ cap) : (Builtin.append_ #[22, 22] ty #[.slice a n cap, .slice none 0 c]).run Tryd.prog w = .ok (.slice a n cap) w := by
  obtain ⟨i0, hi, hz0, hz1, hz2⟩ := info_parts info_wr
  have h1 : (Builtin.lenOf (.slice none 0 c)).run Tryd.prog w = .ok 0 w := by simp [Builtin.lenOf]
  have h2 : (Builtin.firstCells i0.size 0 (.slice none 0 c)).run Tryd.prog w = .ok #[] w := by simp [Builtin.firstCells]
  cases a with
  | none => simp [Builtin.append_, run_underlying Tryd.underlying22, sizeOf, typeInfo, hi, hn, h1, h2]
  | some a => simp [Builtin.append_, run_underlying Tryd.underlying22, sizeOf, typeInfo, hi, hn, h1, h2, storeCells]


theorem wpList_append_wrsA {w : World} {ops : Array Oper} {rest : List Oper} {o : Oper} {a : Act} {Q : Exit → Act → World → Prop} (hgd : o.guard = none) (s x : Operand)
    (ho : o.op = .call { callee := .builtin .append, args := #[s, x], argTypes := #[22, 22] })
    (base : Nat) (v : Value) (l : List Wr) (hs : a.eval s = v) (hown : ownsW w base v l) (u : Value) (l2 : List Wr) (hx : a.eval x = u) (hu : IsWrs w u l2)
    (hlen : l.length + l2.length ≤ 1000000) (hbase : base ≤ w.heap.size)
    (h : ∀ v' w', ownsW w' base v' (l ++ l2) → w.grownBy w' v.ownBlock → wpList Tryd.prog ops Q rest (a.put o.dst v') w') : wpList Tryd.prog ops Q (o :: rest) a w := by
  have own : ∀ (ad : Addr) (cap : Nat), a.eval x = .slice (some ad) l2.length cap → (∀ j t, (wrsC l2)[j]? = some t → w.cell? (ad.add j) = some t) → wpList Tryd.prog ops Q (o :: rest) a w := by
    intro ad cap hx2 hc
    obtain ⟨i0, hi, hz0, hz1, hz2⟩ := info_parts info_wr
    refine wpList_append_own w hgd s x 22 ho base 37 i0 (.agg #[.int .i64 0, .int .i64 0, .int .i64 0, .string ⟨#[]⟩, .string ⟨#[]⟩, .int .i64 0]) 6 64 Tryd.underlying22 hi hz0 hz1 hz2 rfl (by decide) v l.length (wrsC l) hs hown ad l2.length cap (wrsC l2) hx2 (wrsC_len l2) hc (wrsC_cell l2) (by unfold maxLen; omega) (by omega) hbase ?_
    intro v' w' h1 h2 _
    refine h v' w' ?_ h2
    unfold ownsW
    rw [List.length_append, wrsC_app]
    exact h1
  rcases hu with ⟨au, cu, rfl, rfl⟩ | ⟨b, off, c, rfl, _, _, h3⟩
  · cases au with
    | some ad => exact own ad cu hx (fun j t ht => by simp [wrsC] at ht)
    | none =>
      have hv : ∃ av n cap, v = .slice av n cap ∧ n ≤ cap := by
        rcases hown.2 with ⟨rfl, _⟩ | ⟨g, cap, cur, rfl, _, _, h3, _⟩
        · exact ⟨none, 0, 0, rfl, Nat.le_refl _⟩
        · exact ⟨_, _, _, rfl, h3⟩
      obtain ⟨av, n, cap, rfl, hnc⟩ := hv
      refine Lib.wpList_append_run w hgd s x _ _ ho _ _ hs hx _ _ (run_append_noneW w _ av n cap cu hnc) ?_
      refine h _ w (by rw [List.append_nil]; exact hown) ⟨rfl, rfl, rfl, Nat.le_refl _, fun _ _ _ => rfl⟩
  · refine own ⟨b, off, none⟩ c hx (fun j t ht => ?_)
    have hadd : (⟨b, off, none⟩ : Addr).add j = ⟨b, off + j, none⟩ := by unfold Addr.add; split <;> simp_all
    rw [hadd]
    exact h3 j t ht
/-- Each of some slices reads as some writes. -/
def AllWrs (w : World) (B : Nat) (vs : List Value) (ls : List (List Wr)) : Prop := vs.length = ls.length ∧ ∀ (j : Nat) (v : Value), vs[j]? = some v → ∃ l, ls[j]? = some l ∧ w.cell? ⟨B, j, none⟩ = some v ∧ IsWrs w v l
theorem flat_snoc {ls : List (List Wr)} {k : Nat} {l : List Wr} (h : ls[k]? = some l) : (ls.take (k + 1)).flatten = (ls.take k).flatten ++ l := by
  rw [List.take_add_one, h]; simp
theorem flat_le (ls : List (List Wr)) (k : Nat) : (ls.take k).flatten.length ≤ ls.flatten.length := by
  conv => rhs; rw [← List.take_append_drop k ls]
  rw [List.flatten_append, List.length_append]; omega

set_option maxRecDepth 100000 in
set_option maxHeartbeats 8000000 in
/-- All, one behind the other. -/
theorem wcat_any (vs : List Value) (ls : List (List Wr)) (B c n : Nat) (w : World) (h : AllWrs w B vs ls) (hn : n = ls.length) (hn2 : n ≤ 1000) (hl : ls.flatten.length ≤ 1000000) (hB : B < w.heap.size) :
    Calls Tryd.prog 17 #[.slice (some ⟨B, 0, none⟩) n c] w fun e w' => ∃ u, e = .returned u ∧ ownsW w' w.heap.size u ls.flatten ∧ Below w.heap.size w w' := by
  have HA := Lib.hid h
  have HN := Lib.hid hn
  have HL := Lib.hid hl
  have HB := Lib.hid hB
  clear h hn hl hB
  go_enter Tryd.func17, Tryd.ntmps17
  go_wp2
  go_loopw [3, 11] (fun s i wr => ∃ k z : Nat, k ≤ n ∧ i = .int .i64 k ∧ s = .int .i64 z ∧ z = (ls.take k).flatten.length ∧ w = wr) (fun _ i _ => n - (intOf i).toNat)
  case atStart => exact ⟨0, 0, by omega, rfl, rfl, by simp, rfl⟩
  case round =>
    obtain ⟨k, z, hk, rfl, rfl, hz, rfl⟩ := hrel
    have hz2 : z ≤ 1000000 := by rw [hz]; exact Nat.le_trans (flat_le _ _) HL.out
    have HZ := Lib.hid hz
    clear hz
    by_cases hlt : k < n
    · have b1 : decide ((k : Int) < (n : Int)) = true := by simpa using hlt
      obtain ⟨v, hv⟩ : ∃ v, vs[k]? = some v := ⟨vs[k]'(by rw [HA.out.1, ← HN.out]; exact hlt), List.getElem?_eq_getElem _⟩
      obtain ⟨l, hll, hc, hi⟩ := HA.out.2 k v hv
      obtain ⟨a, cc, rfl, _⟩ := hi.form
      obtain ⟨m, hm⟩ : ∃ m, m = l.length := ⟨_, rfl⟩
      rw [← hm] at hc
      have hzm : (ls.take (k + 1)).flatten.length = z + m := by rw [flat_snoc hll, List.length_append, HZ.out, hm]
      have hzm2 : z + m ≤ 1000000 := by rw [← hzm]; exact Nat.le_trans (flat_le _ _) HL.out
      have HZM := Lib.hid hzm
      obtain ⟨p, hp⟩ : ∃ p, p = z + m := ⟨_, rfl⟩
      have w1 : IntKind.i64.wrap ((z : Int) + (m : Int)) = (p : Int) := by rw [show (z : Int) + (m : Int) = (p : Int) by omega]; exact IntWalk.i64_in _ (by omega)
      have w2 : (z : Int) + (m : Int) = (p : Int) := by omega
      have w3 : ¬ (p : Int) < 0 := by omega
      have HPP := Lib.hid hp
      have hp2 : p ≤ 1000000 := by omega
      clear hv hll hi hm hzm hzm2 hp
      go_wp2
      go_roundw
      · exact ⟨k + 1, p, by omega, by simp, rfl, by rw [HZM.out, HPP.out], by trivial⟩
      · simp [intOf]; omega
    · have b1 : decide ((k : Int) < (n : Int)) = false := by simp; omega
      obtain rfl : k = n := by omega
      have HZ2 : Hid (z = ls.flatten.length) := Lib.hid (by rw [HZ.out, List.take_of_length_le (by rw [HN.out]; exact Nat.le_refl _)])
      clear HZ
      go_wp2_with (go_at_call 37; refine (wgrow_any z _ hz2).mono ?_; rintro r w1 ⟨v6, rfl, ho, _, hb⟩; have HO := Lib.hid ho; have HB1 := Lib.hid hb; clear ho hb)
      go_loopw [6, 27] (fun u i wr => ∃ j : Nat, j ≤ k ∧ i = .int .i64 j ∧ ownsW wr w.heap.size u (ls.take j).flatten ∧ Below w.heap.size w wr) (fun _ i _ => k - (intOf i).toNat)
      case atStart => exact ⟨0, by omega, rfl, by simpa using HO.out, HB1.out⟩
      case round =>
        obtain ⟨j, hj, rfl, ho, hb⟩ := hrel
        have HO2 := Lib.hid ho
        have HB2 := Lib.hid hb
        clear ho hb
        by_cases hlt2 : j < k
        · have b2 : decide ((j : Int) < (k : Int)) = true := by simpa using hlt2
          obtain ⟨v, hv⟩ : ∃ v, vs[j]? = some v := ⟨vs[j]'(by rw [HA.out.1, ← HN.out]; exact hlt2), List.getElem?_eq_getElem _⟩
          obtain ⟨l, hll, hc, hi⟩ := HA.out.2 j v hv
          have hc2 : wr.cell? ⟨B, j, none⟩ = some v := (HB2.out.cell (p := ⟨B, j, none⟩) HB.out).trans hc
          have HIL := Lib.hid (hi.below HB2.out)
          have HLL := Lib.hid hll
          have hfl : (ls.take j).flatten.length + l.length ≤ 1000000 := by
            have h1 := flat_le ls (j + 1)
            rw [flat_snoc hll, List.length_append] at h1
            exact Nat.le_trans h1 HL.out
          have HFL := Lib.hid hfl
          clear hv hll hc hi hfl
          go_wp2_with (at_builtin; refine wpList_append_wrsA rfl _ _ rfl w.heap.size _ (ls.take j).flatten rfl HO2.out v l rfl HIL.out HFL.out HB2.out.size ?_; intro v' w5 ho5 hg5; have HO5 := Lib.hid ho5; have HG5 := Lib.hid hg5; clear ho5 hg5)
          go_roundw
          · refine ⟨j + 1, by omega, by simp, by rw [flat_snoc HLL.out]; exact HO5.out, HB2.out.grown HG5.out HB2.out.size (fun g hg => (HO2.out.lt g hg).1)⟩
          · simp [intOf]; omega
        · have b2 : decide ((j : Int) < (k : Int)) = false := by simp; omega
          obtain rfl : j = k := by omega
          have HT : Hid (ownsW wr w.heap.size u6 ls.flatten) := Lib.hid (by have h1 := HO2.out; rwa [List.take_of_length_le (by rw [HN.out]; exact Nat.le_refl _)] at h1)
          clear HO2
          go_wp2
          go_ret
          exact ⟨_, rfl, HT.out, HB2.out⟩
end Go.Proofs.YtcoejiehckileaaDoor
