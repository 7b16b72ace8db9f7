/-
  The contract of the document's Swell; the walk of 'packtrainlaw.LzReads'.
-/
import Derived.Test.YtjhmlmcibpjagaaDoorToks
import Derived.Lib.Hide
import Derived.BigQuiet
import Derived.Deep.QuietTactic
import Derived.Outline
import Derived.Test.YtjhmlmcibpjagaaDoorMatchRight
import Derived.Test.YtjhmlmcibpjagaaDoorPlace
import Derived.Deep.RegionHeld3
import Derived.Test.YtjhmlmcibpjagaaDoorLzRead
import Derived.Test.YtjhmlmcibpjagaaDoorLzSq
import Derived.Test.YtjhmlmcibpjagaaDoorMatchText
import Derived.Test.YtjhmlmcibpjagaaDoorProg
import Derived.Test.YtjhmlmcibpjagaaDoorMatchRefRight
import Derived.WalkKit
import Derived.Handy
import Derived.KernelRfl
import Derived.Below
import Derived.Defers
import Derived.Recover
import Derived.WalkLawsBesides
import Derived.Test.YtjhmlmcibpjagaaDoorRefInt
import Derived.RegionTactic
import Derived.StillTailTactics
import Derived.Test.YtjhmlmcibpjagaaDoorMatchRefText
namespace Go.Proofs.YtjhmlmcibpjagaaDoor
open Go.RowKit

set_option maxRecDepth 100000 in
set_option maxHeartbeats 1000000 in
theorem equal_toks (v1 v2 : Value) (l : List Tok) (w : World) (h1 : IsToks w v1 l) (h2 : IsToks w v2 l) (hl : l.length ≤ 1000000) :
    Calls Tryd.prog 19 #[v1, v2] w fun e w' => e = .returned (.bool true) ∧ ∃ q, w' = w.drewN q := by
  obtain ⟨a1, c1, rfl, f1⟩ := h1.form
  obtain ⟨a2, c2, rfl, f2⟩ := h2.form
  have F1 := Lib.hid f1
  have F2 := Lib.hid f2
  obtain ⟨n, hn⟩ : ∃ n, n = l.length := ⟨_, rfl⟩
  rw [← hn] at hl ⊢
  have HN := Lib.hid hn
  clear h1 h2 f1 f2 hn
  go_enter Tryd.func19, Tryd.ntmps19
  go_wp2
  go_loopw [13] (fun i wr => ∃ k q : Nat, k ≤ n ∧ i = .int .i64 k ∧ wr = w.drewN q) (fun i _ => n - (intOf i).toNat)
  case atStart => exact ⟨0, 0, by omega, rfl, rfl⟩
  case round =>
    obtain ⟨k, q, hk, rfl, rfl⟩ := hrel
    by_cases hlt : k < n
    · obtain ⟨t, ht⟩ : ∃ t, l[k]? = some t := ⟨l[k]'(by have := HN.out; omega), List.getElem?_eq_getElem _⟩
      obtain ⟨b1, o1, rfl, _, p0, p1, p2⟩ := F1.out k t ht
      obtain ⟨b2, o2, rfl, _, q0, q1, q2⟩ := F2.out k t ht
      obtain ⟨own, back, size⟩ := t
      simp only at p0 p1 p2 q0 q1 q2
      clear ht
      go_wp2
      go_quiet (fail)
      go_wp2
      go_roundw
      case rel => exact ⟨k + 1, _, by omega, by go_num, rfl⟩
      case measure => simp [intOf]; omega
    · go_wp2
      go_ret
      exact ⟨rfl, _, rfl⟩
end Go.Proofs.YtjhmlmcibpjagaaDoor
namespace Go.Proofs.YtjhmlmcibpjagaaDoor
open Go.RowKit

/-- 'heavy' answers one or the other. -/
def HeavyIs (w : World) (e : Ending) (w' : World) : Prop := ∃ b : Bool, e = .returned (.bool b) ∧ Below w.heap.size w w'

set_option maxRecDepth 100000 in
set_option maxHeartbeats 2000000 in
theorem heavy_any (v : Value) (l : List Tok) (w : World) (hv : IsToks w v l) (hl : l.length ≤ 9223372036854775807) :
    Calls Tryd.prog 11 #[v] w (HeavyIs w) := by
  obtain ⟨a1, c1, rfl, f1⟩ := hv.form
  have F1 := Lib.hid f1
  obtain ⟨n, hn⟩ : ∃ n, n = l.length := ⟨_, rfl⟩
  rw [← hn] at hl ⊢
  have HN := Lib.hid hn
  clear hv f1 hn
  go_enter Tryd.func11, Tryd.ntmps11
  go_wp2
  go_loopw [3, 10] (fun s i wr => ∃ (k : Nat) (x : Int), k ≤ n ∧ i = .int .i64 k ∧ s = .int .i64 x ∧ Below w.heap.size w wr) (fun _ i _ => n - (intOf i).toNat)
  case atStart => exact ⟨0, n, by omega, rfl, rfl, Below.refl _ _⟩
  case round =>
    obtain ⟨k, x, hk, rfl, rfl, hbel⟩ := hrel
    have HB := Lib.hid hbel
    have hzr := hbel.size
    clear hbel
    by_cases hlt : k < n
    · obtain ⟨t, ht⟩ : ∃ t, l[k]? = some t := ⟨l[k]'(by have := HN.out; omega), List.getElem?_eq_getElem _⟩
      obtain ⟨b1, o1, rfl, hb1, p0, p1, p2⟩ := F1.out k t ht
      obtain ⟨own, back, size⟩ := t
      simp only at p0 p1 p2
      have q0 := (HB.out.cell (p := ⟨b1, o1 + k * 3, none⟩) hb1).trans p0
      have q1 := (HB.out.cell (p := ⟨b1, o1 + k * 3 + 1, none⟩) hb1).trans p1
      have q2 := (HB.out.cell (p := ⟨b1, o1 + k * 3 + 2, none⟩) hb1).trans p2
      clear p0 p1 p2 ht
      go_wp2
      go_roundw
      case rel => exact ⟨k + 1, _, by omega, by go_num, rfl, HB.out.alloc hzr _⟩
      case measure => simp [intOf]; omega
    · go_wp2
      all_goals
        go_ret
        exact ⟨_, rfl, HB.out⟩

theorem atIs.place {w : World} {v : Value} {e : Nat} {pl : Int} (h : atIs w v (e, pl)) : placeIs w v e pl := by
  rcases h with ⟨h1, h2⟩ | ⟨_, b, h1, _, h3, h4⟩
  · simp only [Prod.mk.injEq] at h1
    exact .inl ⟨h2, by omega, h1.2⟩
  · exact .inr (.inr ⟨b, 0, h1, h3, h4⟩)

theorem undrew3 {w w' : World} (h : Below w.drew.heap.size w.drew w') : Below w.heap.size w w' := ((Below.refl _ _).drew).trans h
end Go.Proofs.YtjhmlmcibpjagaaDoor
namespace Go.Proofs.YtjhmlmcibpjagaaDoor
open Go.RowKit

theorem step_append_tok (w : World) {ops : Array Oper} {o : Oper} {a : Act} {K : Act → World → Prop} {Q : Exit → Act → World → Prop} {E : Prop} (hgd : o.guard = none) (s x : Operand)
    (ho : o.op = .call { callee := .builtin .append, args := #[s, x], argTypes := #[22, 22] })
    (base : Nat) (v : Value) (l : List Tok) (hs : a.eval s = v) (hown : ownsK w base v l)
    (B c : Nat) (hx : a.eval x = .slice (some ⟨B, 0, none⟩) 1 c) (t : Tok) (hcell : tokBlk w B t)
    (hlen : l.length + 1 ≤ 1000000) (hbase : base ≤ w.heap.size)
    (h : ∀ g cap w', ownsK w' base (.slice (some ⟨g, 0, none⟩) (l.length + 1) cap) (l ++ [t]) → w.grownBy w' v.ownBlock → K (a.put o.dst (.slice (some ⟨g, 0, none⟩) (l.length + 1) cap)) w') :
    if Region.wanted o (yielded ops a.tmps) = true then Oper.wp Tryd.prog o a w K Q else E := by
  obtain ⟨i0, hi, hz0, hz1, hz2⟩ := info_parts info_tok
  refine step_append_lies w hgd s x 22 ho base 42 i0 (.agg #[.string ⟨#[]⟩, .int .i64 0, .int .i64 0]) 3 32 Tryd.underlying22 hi hz0 hz1 hz2 rfl (by decide) v l.length (toksC l) hs hown ⟨B, 0, none⟩ 1 c (tokC t) hx rfl ?_ ?_ (by decide) (by unfold maxLen; omega) (by omega) hbase _ rfl ?_
  · intro j u hj
    have hadd : (⟨B, 0, none⟩ : Addr).add j = ⟨B, j, none⟩ := by unfold Addr.add; split <;> simp_all
    rw [hadd, cell_of_row _ _ _ _ _ _ hcell, ← hj]
    unfold tokC; simp
  · intro u hu; simp [tokC] at hu; rcases hu with rfl | rfl | rfl <;> rfl
  · intro g cap w' h1 h2 _ _
    refine h g cap w' ?_ h2
    unfold ownsK
    rw [List.length_append, toksC_app]
    simpa [toksC] using h1
end Go.Proofs.YtjhmlmcibpjagaaDoor
namespace Go.Proofs.YtjhmlmcibpjagaaDoor
open Go.RowKit

theorem rdF_err {s : List UInt8} {f a e p : Nat} {l : List Tok} {b : List Nat} (h : rdF s f a l b = .inl (e, p)) : e ≠ 0 := by
  induction f generalizing a l b with
  | zero => cases h
  | succ f ih =>
    by_cases hlt : a < s.length
    · match hg : getT (s.drop a) with
      | .inl (e', p') =>
        rw [rdF_bad hlt hg] at h
        injection h with h
        injection h with h1 h2
        subst h1
        exact getT_err hg
      | .inr (t, k) => rw [rdF_ok hlt hg] at h; exact ih h
    · rw [rdF_end hlt] at h; cases h
/-- What bytes swell to. -/
def swellF (s : List UInt8) : List UInt8 := if (readF s).1.1 = 0 then textL [] (readF s).2 else []
theorem swell_ok {s : List UInt8} (h : (readF s).1.1 = 0) : swellF s = textL [] (readF s).2 := by unfold swellF; rw [if_pos h]
theorem swell_bad {s : List UInt8} (h : ¬ (readF s).1.1 = 0) : swellF s = [] := by unfold swellF; rw [if_neg h]
/-- Where nothing is wrong no place is told. -/
theorem read_good {s : List UInt8} (h : (readF s).1.1 = 0) : (readF s).1 = (0, -1) := by
  match hr : rdF s s.length 0 [] [] with
  | .inl (e, p) =>
    rw [readF_bad hr] at h
    exact absurd h (rdF_err hr)
  | .inr (l, b) =>
    by_cases hw : (rightF l 0 0).1 = 0
    · rw [readF_ok hr hw]
    · rw [readF_wrong hr hw] at h
      exact absurd h hw

def SwellIs (w : World) (s : List UInt8) (e : Ending) (w' : World) : Prop :=
  ∃ err, e = .returned (.tuple #[.string ⟨(swellF s).toArray⟩, err]) ∧ atIs w' err (readF s).1 ∧ Below w.heap.size w w'

set_option maxRecDepth 100000 in
set_option maxHeartbeats 2000000 in
theorem lzswell_any (s : ByteArray) (w : World) (hs : s.size ≤ 400000) (hg : errT w) :
    Calls Tryd.prog 18 #[.string s] w (SwellIs w s.data.toList) := by
  have HG := Lib.hid hg
  clear hg
  by_cases hr : (readF s.data.toList).1.1 = 0
  · have HS := Lib.hid (swell_ok hr)
    have hr2 := (read_only hr).1
    obtain ⟨f1, _, _⟩ := right_few hr2
    have HF1 : Hid ((readF s.data.toList).2.length ≤ 9223372036854775807) := Lib.hid (show (readF s.data.toList).2.length ≤ 9223372036854775807 by omega)
    have HF2 : Hid (∀ t ∈ (readF s.data.toList).2, t.own.size ≤ 140737488351232) := Lib.hid (show ∀ t ∈ (readF s.data.toList).2, t.own.size ≤ 140737488351232 from fun t ht => by have := right_own hr2 t ht; omega)
    have HR0 := Lib.hid hr
    have HRG := Lib.hid (read_good hr)
    have HR2 := Lib.hid hr2
    have HT : Hid (textF (readF s.data.toList).2 = textL [] (readF s.data.toList).2) := Lib.hid (show textF (readF s.data.toList).2 = textL [] (readF s.data.toList).2 by unfold textF; rw [if_pos hr2])
    clear hr hr2 f1
    go_enter Tryd.func18, Tryd.ntmps18
    go_wp2_with fail
    refine (lzread_any s _ hs HG.out).mono ?_
    rintro r w1 ⟨v, err, rfl, hok, hat, hb1⟩
    obtain rfl := hat.nil HR0.out
    have HK := Lib.hid hok
    have HB1 := Lib.hid hb1
    clear hok hat hb1
    go_wp2_with fail
    refine (text_any v _ _ HK.out.is HF1.out HF2.out).mono ?_
    rintro r w2 ⟨err, rfl, hat, hb2⟩
    obtain rfl := hat.nil HR2.out
    have HB2 : Hid (Below w.heap.size w w2) := HB1.out.trans (hb2.mono HB1.out.size)
    clear hat hb2
    go_wp2
    go_ret2
    refine ⟨.nilIface, ?_, .inl ⟨HRG.out, rfl⟩, HB2.out⟩
    rw [HS.out, HT.out]; rfl
  · have HS := Lib.hid (swell_bad hr)
    have HR0 := Lib.hid hr
    clear hr
    go_enter Tryd.func18, Tryd.ntmps18
    go_wp2_with fail
    refine (lzread_any s _ hs HG.out).mono ?_
    rintro r w1 ⟨v, err, rfl, hok, hat, hb1⟩
    obtain ⟨ty, u, rfl⟩ := hat.iface HR0.out
    have HAT := Lib.hid hat
    have HB1 := Lib.hid hb1
    clear hok hat hb1
    go_wp2
    go_ret2
    exact ⟨_, by rw [HS.out]; rfl, HAT.out, HB1.out⟩

def abc9 : List UInt8 := [97, 98, 99, 97, 98, 99, 97, 98, 99]
theorem abc9_find : find abc9 0 = (0, 0) ∧ find abc9 1 = (0, 0) ∧ find abc9 2 = (0, 0) ∧ find abc9 3 = (3, 6) := by decide
theorem abc9_toks : toks abc9 = [⟨⟨#[97, 98, 99]⟩, 0, 0⟩, repT 3 6] := by decide
theorem abc9_sq : sqL abc9 = [6, 97, 98, 99, 5, 2] := by
  unfold sqL
  rw [abc9_toks, writeL_cons, writeL_cons, writeL_nil, putT_own (by decide), putT_rep (by decide)]
  rw [putL_small (by decide), putL_small (by decide), putL_small (by decide)]
  rfl
theorem swell_sq (s : List UInt8) (h : s.length ≤ 20000) : swellF (sqL s) = s ∧ (readF (sqL s)).1 = (0, -1) := by
  have h1 := toks_text s h
  have h2 : readF (sqL s) = ((0, -1), toks s) := read_write (by rw [h1.1])
  refine ⟨?_, by rw [h2]⟩
  rw [swell_ok (by rw [h2]), h2]; exact h1.2
theorem sq_len (s : List UInt8) (h : s.length ≤ 20000) : (sqL s).length ≤ 220000 := (right_few (l := toks s) (by rw [(toks_text s h).1])).2.1
end Go.Proofs.YtjhmlmcibpjagaaDoor
namespace Go.Proofs.YtjhmlmcibpjagaaDoor
open Go.RowKit

set_option maxRecDepth 100000 in
theorem throw_any (e pl : Int) (w : World) : Calls Tryd.prog 37 #[.int .i64 e, .int .i64 pl] w fun r w' => r = .panicked [{ v := .iface 95 (.agg #[.int .i64 e, .int .i64 pl]), recovered := false }] ∧ w' = w := by
  go_enter Tryd.func37, Tryd.ntmps37
  go_wp2
  exact ⟨rfl, rfl, rfl⟩
set_option maxRecDepth 100000 in
theorem isThrown (v : Value) (xT : TypeId) (w : World) : (Instr.typeAssert (.iface 95 v) xT 95 true).run Tryd.prog w = .ok (.tuple #[v, .bool true]) w := by
  simp [Instr.typeAssert, run_underlying Tryd.underlying95]
set_option maxRecDepth 100000 in
theorem caught_pan (F : Nat) (e pl x y : Int) (older : List PanicEntry) (w : World) (hF : F < w.heap.size) (h0 : w.cell? ⟨F, 0, none⟩ = some (.int .i64 x)) (h1 : w.cell? ⟨F, 1, none⟩ = some (.int .i64 y)) (z0 : w.frozen? ⟨F, 0, none⟩ = false) (z1 : w.frozen? ⟨F, 1, none⟩ = false) :
    CallsD Tryd.prog 35 #[.pointer (some ⟨F, 0, none⟩)] (.panicking ({ v := .iface 95 (.agg #[.int .i64 e, .int .i64 pl]), recovered := false } :: older)) w fun r u' w' =>
      r = .returned (.tuple #[]) ∧ u' = .panicking ({ v := .iface 95 (.agg #[.int .i64 e, .int .i64 pl]), recovered := true } :: older) ∧ w' = ((w.setCell ⟨F, 0, none⟩ (.int .i64 e)).setCell ⟨F, 1, none⟩ (.int .i64 pl)).alloc (.cells #[.int .i64 e, .int .i64 pl] 95) := by
  have iT := isThrown
  refine callsD_of_wpS Tryd.func35 rfl fun c₀ cs hu => ?_
  apply wpS_seq
  apply wpS_region
  simp [wpOpsS, go_sem, recoverD, hu, Tryd.ntmps35, Exit.thenS]
  refine wpS_of_wp ?_
  rw [show (#[.pointer (some ⟨F, 0, none⟩)] ++ ((Array.replicate 19 undef).setIfInBounds 4 (.iface 95 (.agg #[.int .i64 e, .int .i64 pl]))).setIfInBounds 1 (.iface 95 (.agg #[.int .i64 e, .int .i64 pl])) : Array Value) = #[.pointer (some ⟨F, 0, none⟩), undef, .iface 95 (.agg #[.int .i64 e, .int .i64 pl]), undef, undef, .iface 95 (.agg #[.int .i64 e, .int .i64 pl]), undef, undef, undef, undef, undef, undef, undef, undef, undef, undef, undef, undef, undef, undef] by kernel_rfl]
  go_wp2
  simp [bodyPostS, results, Tryd.results35]
set_option maxRecDepth 100000 in
theorem caught_idle (p : Value) (w : World) :
    CallsD Tryd.prog 35 #[p] .returning w fun r u' w' => r = .returned (.tuple #[]) ∧ u' = .returning ∧ w' = w := by
  refine callsD_of_wpS Tryd.func35 rfl fun c₀ cs hu => ?_
  apply wpS_seq
  apply wpS_region
  simp [wpOpsS, go_sem, recoverD, hu, Tryd.ntmps35, Exit.thenS]
  refine wpS_of_wp ?_
  rw [show (#[p] ++ ((Array.replicate 19 undef).setIfInBounds 4 .nilIface).setIfInBounds 1 .nilIface : Array Value) = #[p, undef, .nilIface, undef, undef, .nilIface, undef, undef, undef, undef, undef, undef, undef, undef, undef, undef, undef, undef, undef, undef] by kernel_rfl]
  go_wp2
  cases c₀
  simp_all [bodyPostS, results, Tryd.results35]

set_option maxRecDepth 100000 in
theorem reset_good (F O : Nat) (pl : Int) (u : FrameMode) (w : World) (c0 : w.cell? ⟨F, 0, none⟩ = some (.int .i64 0)) (c1 : w.cell? ⟨F, 1, none⟩ = some (.int .i64 pl)) :
    CallsD Tryd.prog 34 #[.pointer (some ⟨F, 0, none⟩), .pointer (some ⟨O, 0, none⟩)] u w fun r u' w' => u' = u ∧ (r = .returned (.tuple #[]) ∧ Below w.heap.size w w') := by
  go_enter_d Tryd.func34, Tryd.ntmps34
  go_wp2_with fail
  refine (is_any 0 pl _).mono ?_
  rintro r w1 ⟨rfl, hb1⟩
  have HB1 := Lib.hid hb1
  clear hb1
  go_wp2
  go_end0
  exact ⟨rfl, HB1.out⟩
set_option maxRecDepth 100000 in
theorem reset_bad (F O : Nat) (e pl : Int) (v : Value) (u : FrameMode) (w : World) (he : (e == 0) = false) (c0 : w.cell? ⟨F, 0, none⟩ = some (.int .i64 e)) (c1 : w.cell? ⟨F, 1, none⟩ = some (.int .i64 pl)) (hO : O < w.heap.size) (o0 : w.cell? ⟨O, 0, none⟩ = some v) (y0 : w.frozen? ⟨O, 0, none⟩ = false) :
    CallsD Tryd.prog 34 #[.pointer (some ⟨F, 0, none⟩), .pointer (some ⟨O, 0, none⟩)] u w fun r u' w' => u' = u ∧ (r = .returned (.tuple #[]) ∧ ∃ w1, Below w.heap.size w w1 ∧ w' = w1.setCell ⟨O, 0, none⟩ (.slice none 0 0)) := by
  go_enter_d Tryd.func34, Tryd.ntmps34
  go_wp2_with fail
  refine (is_any e pl _).mono ?_
  rintro r w1 ⟨rfl, hb1⟩
  rw [he]
  have o1 : w1.cell? ⟨O, 0, none⟩ = some v := (hb1.cell hO).trans o0
  have y1 : w1.frozen? ⟨O, 0, none⟩ = false := (hb1.frozen hO).trans y0
  have HB1 := Lib.hid hb1
  clear hb1 o0 y0
  go_wp2
  go_end0
  exact ⟨rfl, w1, HB1.out, rfl⟩
end Go.Proofs.YtjhmlmcibpjagaaDoor
namespace Go.Proofs.YtjhmlmcibpjagaaDoor
open Go.RowKit

/-- What the document's TokensRead answers. -/
def RReadIs (w : World) (s : List UInt8) (e : Ending) (w' : World) : Prop :=
  ∃ v, e = .returned (.tuple #[v, .agg #[.int .i64 ((readF s).1.1 : Nat), .int .i64 (readF s).1.2]]) ∧ ownsK w' w.heap.size v (readF s).2 ∧ Below w.heap.size w w'

/-- The two results in memory, what is read, and where it begins. -/
def TR (w wr : World) (lv bv : Value) (l : List Tok) (b : List Nat) : Prop :=
  wr.heap[w.heap.size]? = some (.cells #[lv] 22 (0, 0)) ∧ wr.heap[w.heap.size + 1]? = some (.cells #[.int .i64 0, .int .i64 (-1)] 26 (0, 0)) ∧
    ownsK wr (w.heap.size + 2) lv l ∧ ownsN wr (w.heap.size + 2) bv b ∧ Below w.heap.size w wr ∧ w.heap.size + 2 ≤ wr.heap.size
theorem TR.below {w wr w' : World} {lv bv : Value} {l : List Tok} {b : List Nat} (h : TR w wr lv bv l b) (hb : Below wr.heap.size wr w') : TR w w' lv bv l b := by
  obtain ⟨h1, h2, h3, h4, h5, h6⟩ := h
  exact ⟨(hb.block _ (by omega)).trans h1, (hb.block _ (by omega)).trans h2, h3.below hb, h4.below hb, h5.trans (hb.mono (by omega)), Nat.le_trans h6 hb.size⟩
theorem TR.alloc {w wr : World} {lv bv : Value} {l : List Tok} {b : List Nat} (h : TR w wr lv bv l b) (o : Obj) : TR w (wr.alloc o) lv bv l b := h.below ((Below.refl _ _).alloc (Nat.le_refl _) o)
theorem TR.cells {w wr : World} {lv bv : Value} {l : List Tok} {b : List Nat} (h : TR w wr lv bv l b) :
    wr.cell? ⟨w.heap.size, 0, none⟩ = some lv ∧ wr.frozen? ⟨w.heap.size, 0, none⟩ = false ∧ wr.cell? ⟨w.heap.size + 1, 0, none⟩ = some (.int .i64 0) ∧ wr.cell? ⟨w.heap.size + 1, 1, none⟩ = some (.int .i64 (-1)) ∧
      wr.frozen? ⟨w.heap.size + 1, 0, none⟩ = false ∧ wr.frozen? ⟨w.heap.size + 1, 1, none⟩ = false := by
  obtain ⟨h1, h2, _⟩ := h
  exact ⟨cell_of_row _ _ 0 _ _ (0, 0) h1, Lib.frozen_of_heap h1 0, cell_of_row _ _ 0 _ _ (0, 0) h2, cell_of_row _ _ 1 _ _ (0, 0) h2, Lib.frozen_of_heap h2 0, Lib.frozen_of_heap h2 1⟩
theorem TR.begun {w wr w2 : World} {lv bv bv2 : Value} {o : Obj} {l : List Tok} {b : List Nat} {a : Nat} (h : TR w wr lv bv l b) (ho : ownsN w2 (w.heap.size + 2) bv2 (b ++ [a])) (hg : (wr.alloc o).grownBy w2 bv.ownBlock) : TR w w2 lv bv2 l (b ++ [a]) := by
  obtain ⟨h1, h2, h3, h4, h5, h6⟩ := h
  have hne : ∀ k, k < w.heap.size + 2 → some k ≠ bv.ownBlock := fun k hk e => by
    have := (h4.lt k e.symm).1; omega
  refine ⟨?_, ?_, ?_, ho, ?_, Nat.le_trans (by simp; omega) hg.size⟩
  · rw [hg.block _ (by simp; omega) (hne _ (by omega)), Below.heap_alloc _ _ _ (by omega)]; exact h1
  · rw [hg.block _ (by simp; omega) (hne _ (by omega)), Below.heap_alloc _ _ _ (by omega)]; exact h2
  · exact World.ownsRow.kept (h3.alloc o) hg (own_apart h3 h4 (show 42 ≠ 3 by decide))
  · exact (h5.alloc (by omega) _).grown hg (by simp; omega) (fun g hg => by have := (h4.lt g hg).1; omega)


/-- What stands at the door: the two deferred calls. -/
def door (w : World) : List Deferred :=
  [{ target := .fn (Fn.func 35) #[], args := #[.pointer (some ⟨w.heap.size + 1, 0, none⟩)] },
    { target := .fn (Fn.func 34) #[.pointer (some ⟨w.heap.size + 1, 0, none⟩), .pointer (some ⟨w.heap.size, 0, none⟩)], args := #[] }]

set_option maxRecDepth 100000 in
set_option maxHeartbeats 1000000 in
/-- What is thrown is caught, and told; nothing is read then. -/
theorem door_bad {w W : World} {lv bv : Value} {l : List Tok} {b : List Nat} {s : List UInt8} (e : Nat) (pl : Int) (h : TR w W lv bv l b) (he : e ≠ 0) (hrd : readF s = ((e, pl), [])) (tmps : Array Value)
    (t2 : tmps[2]? = some (.pointer (some ⟨w.heap.size, 0, none⟩))) (t3 : tmps[3]? = some (.pointer (some ⟨w.heap.size + 1, 0, none⟩))) :
    Leaves Tryd.prog Tryd.f15 tmps (RReadIs w s) (door w) (.panicking [{ v := .iface 95 (.agg #[.int .i64 (e : Int), .int .i64 pl]), recovered := false }]) W := by
  obtain ⟨o0, y0, c0, c1, z0, z1⟩ := h.cells
  have hbel := h.2.2.2.2.1
  have hz := h.2.2.2.2.2
  have hbe : ((e : Int) == 0) = false := by simp; omega
  obtain ⟨W2, hW2⟩ : ∃ W2, (W.setCell ⟨w.heap.size + 1, 0, none⟩ (.int .i64 (e : Int))).setCell ⟨w.heap.size + 1, 1, none⟩ (.int .i64 pl) = W2 := ⟨_, rfl⟩
  have hz2 : W2.heap.size = W.heap.size := by rw [← hW2]; simp
  have x0 : W2.cell? ⟨w.heap.size + 1, 0, none⟩ = some (.int .i64 (e : Int)) := by rw [← hW2]; simp [go_sem, c0]
  have x1 : W2.cell? ⟨w.heap.size + 1, 1, none⟩ = some (.int .i64 pl) := by rw [← hW2]; simp [go_sem, c1]
  have x2 : W2.cell? ⟨w.heap.size, 0, none⟩ = some lv := by rw [← hW2]; simp [go_sem, o0]
  have x3 : W2.frozen? ⟨w.heap.size, 0, none⟩ = false := by rw [← hW2]; simp [go_sem, y0]
  have hb2 : Below w.heap.size w W2 := by rw [← hW2]; exact (hbel.setCell (by simp) _).setCell (by simp) _
  have q0 := (World.cell?_alloc_lt W2 (.cells #[.int .i64 (e : Int), .int .i64 pl] 95) (⟨w.heap.size + 1, 0, none⟩ : Addr) (by show w.heap.size + 1 < _; omega)).trans x0
  have q1 := (World.cell?_alloc_lt W2 (.cells #[.int .i64 (e : Int), .int .i64 pl] 95) (⟨w.heap.size + 1, 1, none⟩ : Addr) (by show w.heap.size + 1 < _; omega)).trans x1
  have q2 := (World.cell?_alloc_lt W2 (.cells #[.int .i64 (e : Int), .int .i64 pl] 95) (⟨w.heap.size, 0, none⟩ : Addr) (by show w.heap.size < _; omega)).trans x2
  have hal : Below W2.heap.size W2 (W2.alloc (.cells #[.int .i64 (e : Int), .int .i64 pl] 95)) := (Below.refl _ _).alloc (Nat.le_refl _) _
  have q3 : (W2.alloc (.cells #[.int .i64 (e : Int), .int .i64 pl] 95)).frozen? ⟨w.heap.size, 0, none⟩ = false := (hal.frozen (by show w.heap.size < _; omega)).trans x3
  unfold door
  refine leaves_cons (f := 35) (args := #[.pointer (some ⟨w.heap.size + 1, 0, none⟩)]) (by simp) (by simp [go_sem]) ?_
  refine (caught_pan (w.heap.size + 1) e pl 0 (-1) [] W (by omega) c0 c1 z0 z1).mono ?_
  rintro r u' w2 ⟨rfl, rfl, rfl⟩
  rw [hW2]
  refine leaves_cons (f := 34) (args := #[.pointer (some ⟨w.heap.size + 1, 0, none⟩), .pointer (some ⟨w.heap.size, 0, none⟩)]) (by simp [settle]) (by simp [go_sem]) ?_
  refine (reset_bad (w.heap.size + 1) w.heap.size e pl lv _ _ hbe q0 q1 (by simp; omega) q2 q3).mono ?_
  rintro r u' w2 ⟨rfl, rfl, w3, hb3, rfl⟩
  have p0 : (w3.setCell ⟨w.heap.size, 0, none⟩ (.slice none 0 0)).cell? ⟨w.heap.size + 1, 0, none⟩ = some (.int .i64 (e : Int)) := by
    rw [World.cell?_setCell_other _ _ _ _ (by simp)]
    exact (hb3.cell (by simp; omega)).trans q0
  have p1 : (w3.setCell ⟨w.heap.size, 0, none⟩ (.slice none 0 0)).cell? ⟨w.heap.size + 1, 1, none⟩ = some (.int .i64 pl) := by
    rw [World.cell?_setCell_other _ _ _ _ (by simp)]
    exact (hb3.cell (by simp; omega)).trans q1
  have p2 : (w3.setCell ⟨w.heap.size, 0, none⟩ (.slice none 0 0)).cell? ⟨w.heap.size, 0, none⟩ = some (.slice none 0 0) := World.cell?_setCell_same _ _ _ ((hb3.cell (by simp; omega)).trans q2)
  have hb4 : Below w.heap.size w (w3.setCell ⟨w.heap.size, 0, none⟩ (.slice none 0 0)) := ((hb2.trans (hal.mono (by omega))).trans (hb3.mono (by simp; omega))).setCell (by simp) _
  refine ⟨.tuple #[.slice none 0 0, .agg #[.int .i64 (e : Int), .int .i64 pl]], by simp [results, Tryd.results15, go_sem, t2, t3, p0, p1, p2], .slice none 0 0, ?_, ?_, hb4⟩
  · rw [hrd]
  · rw [hrd]; exact ownsK_nil _ _

set_option maxRecDepth 100000 in
set_option maxHeartbeats 1000000 in
/-- Where nothing is thrown what is read is there. -/
theorem door_good {w W : World} {lv bv : Value} {l : List Tok} {b : List Nat} {s : List UInt8} (h : TR w W lv bv l b) (hrd : readF s = ((0, -1), l)) (tmps : Array Value)
    (t2 : tmps[2]? = some (.pointer (some ⟨w.heap.size, 0, none⟩))) (t3 : tmps[3]? = some (.pointer (some ⟨w.heap.size + 1, 0, none⟩))) :
    Leaves Tryd.prog Tryd.f15 tmps (RReadIs w s) (door w) .returning W := by
  obtain ⟨o0, y0, c0, c1, z0, z1⟩ := h.cells
  have hz := h.2.2.2.2.2
  unfold door
  refine leaves_cons (f := 35) (args := #[.pointer (some ⟨w.heap.size + 1, 0, none⟩)]) (by simp) (by simp [go_sem]) ?_
  refine (caught_idle _ W).mono ?_
  rintro r u' w2 ⟨rfl, rfl, rfl⟩
  refine leaves_cons (f := 34) (args := #[.pointer (some ⟨w.heap.size + 1, 0, none⟩), .pointer (some ⟨w.heap.size, 0, none⟩)]) (by simp [settle]) (by simp [go_sem]) ?_
  refine (reset_good (w.heap.size + 1) w.heap.size (-1) _ _ c0 c1).mono ?_
  rintro r u' w3 ⟨rfl, rfl, hb3⟩
  have h3 := h.below hb3
  obtain ⟨p2, _, p0, p1, _, _⟩ := h3.cells
  obtain ⟨_, _, k3, _, k5, _⟩ := h3
  refine ⟨.tuple #[lv, .agg #[.int .i64 0, .int .i64 (-1)]], by simp [results, Tryd.results15, go_sem, t2, t3, p0, p1, p2], lv, ?_, ?_, k5⟩
  · rw [hrd]; rfl
  · rw [hrd]; exact k3.mono (by omega)
end Go.Proofs.YtjhmlmcibpjagaaDoor
namespace Go.Proofs.YtjhmlmcibpjagaaDoor
open Go.RowKit

theorem rd_err {s : List UInt8} {f a e p : Nat} {l : List Tok} {b : List Nat} {pl : Int} (heq : rdF s s.length 0 [] [] = rdF s (f + 1) a l b) (hlt : a < s.length) (hg : getT (s.drop a) = .inl (e, p)) (hp : ((a + p : Nat) : Int) = pl) : readF s = ((e, pl), []) := by
  rw [readF_bad (by rw [heq, rdF_bad hlt hg]), hp]
theorem TR.read {w wr w2 : World} {lv bv v2 : Value} {o : Obj} {l : List Tok} {b : List Nat} {t : Tok} (h : TR w wr lv bv l b) (ho : ownsK w2 (w.heap.size + 2) v2 (l ++ [t])) (hg : (wr.alloc o).grownBy w2 lv.ownBlock) : TR w (w2.setCell ⟨w.heap.size, 0, none⟩ v2) v2 bv (l ++ [t]) b := by
  obtain ⟨h1, h2, h3, h4, h5, h6⟩ := h
  have hne : ∀ k, k < w.heap.size + 2 → some k ≠ lv.ownBlock := fun k hk e => by
    have := (h3.lt k e.symm).1; omega
  have r0 : w2.heap[w.heap.size]? = some (.cells #[lv] 22 (0, 0)) := by
    rw [hg.block _ (by simp; omega) (hne _ (by omega)), Below.heap_alloc _ _ _ (by omega)]; exact h1
  have r1 : w2.heap[w.heap.size + 1]? = some (.cells #[.int .i64 0, .int .i64 (-1)] 26 (0, 0)) := by
    rw [hg.block _ (by simp; omega) (hne _ (by omega)), Below.heap_alloc _ _ _ (by omega)]; exact h2
  have hn : ownsN w2 (w.heap.size + 2) bv b := World.ownsRow.kept (h4.alloc o) hg (own_apart h4 h3 (show 3 ≠ 42 by decide))
  have hsz : w.heap.size + 2 ≤ w2.heap.size := Nat.le_trans (by simp; omega) hg.size
  refine ⟨?_, ?_, ownsRow_setCell_below ho (show w.heap.size < _ by omega) _, ownsRow_setCell_below hn (show w.heap.size < _ by omega) _, ?_, by simpa using hsz⟩
  · simp [World.setCell, Array.getElem?_modify, r0]
  · simp [World.setCell, Array.getElem?_modify, r1]
  · exact ((h5.alloc (by omega) _).grown hg (by simp; omega) (fun g hg => by have := (h3.lt g hg).1; omega)).setCell (Nat.le_refl _) _
theorem TR.same {w wr : World} {lv bv : Value} {l : List Tok} {b : List Nat} (h : TR w wr lv bv l b) : TR w (((wr.setCell ⟨w.heap.size, 0, none⟩ lv).setCell ⟨w.heap.size + 1, 0, none⟩ (.int .i64 0)).setCell ⟨w.heap.size + 1, 1, none⟩ (.int .i64 (-1))) lv bv l b := by
  obtain ⟨h1, h2, h3, h4, h5, h6⟩ := h
  refine ⟨?_, ?_, ?_, ?_, ((h5.setCell (Nat.le_refl _) _).setCell (Nat.le_succ _) _).setCell (Nat.le_succ _) _, by simpa using h6⟩
  · simp [World.setCell, Array.getElem?_modify, h1]
  · simp [World.setCell, Array.getElem?_modify, h2]
  · exact ownsRow_setCell_below (ownsRow_setCell_below (ownsRow_setCell_below h3 (show w.heap.size < _ by omega) _) (show w.heap.size + 1 < _ by omega) _) (show w.heap.size + 1 < _ by omega) _
  · exact ownsRow_setCell_below (ownsRow_setCell_below (ownsRow_setCell_below h4 (show w.heap.size < _ by omega) _) (show w.heap.size + 1 < _ by omega) _) (show w.heap.size + 1 < _ by omega) _
theorem rint_bad (s : ByteArray) (w : World) (hs : s.size ≤ maxLen) (e : Nat) (h : bkL s.data.toList = (0, 0, e)) :
    Calls Tryd.prog 38 #[.string s, .int .i64 1023] w fun r w' => r = .returned (.tuple #[.int .i64 0, .int .i64 0, .int .i64 e]) ∧ w = w' :=
  (rint_any s 1023 w hs (by omega) (by omega)).mono fun r w' ⟨h1, h2⟩ => ⟨h1.trans (by rw [bkL_int, h]; rfl), h2⟩
theorem rint_ok (s : ByteArray) (w : World) (hs : s.size ≤ maxLen) (n k : Nat) (h : bkL s.data.toList = (n, k, 0)) :
    Calls Tryd.prog 38 #[.string s, .int .i64 1023] w fun r w' => r = .returned (.tuple #[.int .i64 n, .int .i64 k, .int .i64 0]) ∧ w = w' :=
  (rint_any s 1023 w hs (by omega) (by omega)).mono fun r w' ⟨h1, h2⟩ => ⟨h1.trans (by rw [bkL_int, h]; rfl), h2⟩
theorem TR.out_kept {w wr w2 : World} {lv bv : Value} {o : Obj} {l : List Tok} {b : List Nat} (h : TR w wr lv bv l b) (hg : (wr.alloc o).grownBy w2 lv.ownBlock) : w2.cell? ⟨w.heap.size, 0, none⟩ = some lv ∧ w2.frozen? ⟨w.heap.size, 0, none⟩ = false := by
  obtain ⟨h1, h2, h3, h4, h5, h6⟩ := h
  have hne : some w.heap.size ≠ lv.ownBlock := fun e => by
    have := (h3.lt _ e.symm).1; omega
  have r0 : w2.heap[w.heap.size]? = some (.cells #[lv] 22 (0, 0)) := by
    rw [hg.block _ (by simp; omega) hne, Below.heap_alloc _ _ _ (by omega)]; exact h1
  exact ⟨cell_of_row _ _ 0 _ _ (0, 0) r0, Lib.frozen_of_heap r0 0⟩
theorem TR.drew {w wr : World} {lv bv : Value} {l : List Tok} {b : List Nat} (h : TR w wr lv bv l b) : TR w wr.drew lv bv l b := ⟨h.1, h.2.1, h.2.2.1, h.2.2.2.1, h.2.2.2.2.1.drew, h.2.2.2.2.2⟩
theorem grown_undrew {w w' : World} {row : Option Nat} (h : w.drew.grownBy w' row) : w.grownBy w' row := ⟨h.os, h.tape, h.output, h.size, h.block⟩

set_option maxRecDepth 100000 in
set_option maxHeartbeats 20000000 in
theorem rread_any (s : ByteArray) (w : World) (hs : s.size ≤ 400000) :
    Calls Tryd.prog 15 #[.string s] w (RReadIs w s.data.toList) := by
  have hlen : s.data.toList.length = s.size := (size_data s).symm
  have HL := Lib.hid hlen
  have HS : Hid (s.size ≤ maxLen) := Lib.hid (show s.size ≤ maxLen by unfold maxLen; omega)
  have hmf : ∀ (fn : Fn) (first cap : Array Value) (w : World), (Instr.makeFunc fn first cap).run Tryd.prog w = .ok (.func fn first cap) w := fun _ _ _ _ => rfl
  clear hlen
  go_enter_defers Tryd.func15, Tryd.ntmps15
  go_wp2_with fail
  refine (good_any _).mono ?_
  rintro r w1 ⟨rfl, hb1⟩
  have hz1 : w.heap.size + 2 ≤ w1.heap.size := by have := hb1.size; simpa using this
  have r0 : w1.heap[w.heap.size]? = some (.cells #[.slice none 0 0] 22 (0, 0)) := (hb1.block _ (by simp only [World.size_alloc]; omega)).trans ((Below.heap_alloc _ _ _ (by simp only [World.size_alloc]; omega)).trans (heap_alloc_new w _))
  have r1 : w1.heap[w.heap.size + 1]? = some (.cells #[.int .i64 0, .int .i64 0] 26 (0, 0)) := (hb1.block _ (by simp only [World.size_alloc]; omega)).trans (by have h := heap_alloc_new (w.alloc (.cells #[.slice none 0 0] 22)) (.cells #[.int .i64 0, .int .i64 0] 26); simpa using h)
  have c0 : w1.cell? ⟨w.heap.size + 1, 0, none⟩ = some (.int .i64 0) := cell_of_row _ _ 0 _ _ (0, 0) r1
  have c1 : w1.cell? ⟨w.heap.size + 1, 1, none⟩ = some (.int .i64 0) := cell_of_row _ _ 1 _ _ (0, 0) r1
  have f0 : w1.frozen? ⟨w.heap.size + 1, 0, none⟩ = false := Lib.frozen_of_heap r1 0
  have f1 : w1.frozen? ⟨w.heap.size + 1, 1, none⟩ = false := Lib.frozen_of_heap r1 1
  have HTR : Hid (TR w ((w1.setCell ⟨w.heap.size + 1, 0, none⟩ (.int .i64 0)).setCell ⟨w.heap.size + 1, 1, none⟩ (.int .i64 (-1))) (.slice none 0 0) (.slice none 0 0) [] []) := by
    refine ⟨?_, ?_, ownsK_nil _ _, ownsN_nil _ _, ?_, by simpa using hz1⟩
    · simp [World.setCell, Array.getElem?_modify, r0]
    · simp [World.setCell, Array.getElem?_modify, r1]
    · exact (((((Below.refl _ _).alloc (Nat.le_refl _) _).alloc (by simp) _).trans (hb1.mono (by simp; omega))).setCell (by simp) _).setCell (by simp) _
  clear hb1 r0 r1 hz1
  go_wp2
  go_loopw [4, 5] (fun bv av wr => ∃ (f a : Nat) (lv : Value) (l : List Tok) (b : List Nat), av = .int .i64 a ∧ a ≤ s.size ∧ s.size ≤ a + f ∧ l.length ≤ a ∧ b.length = l.length ∧ (∀ t ∈ l, t.own.size ≤ 140737488351232) ∧ rdF s.data.toList s.data.toList.length 0 [] [] = rdF s.data.toList f a l b ∧ TR w wr lv bv l b) (fun _ av _ => s.size - (intOf av).toNat)
  case atStart => exact ⟨s.size, 0, _, [], [], rfl, by omega, by omega, by simp, rfl, (fun t h => by cases h), by rw [HL.out], HTR.out⟩
  case round =>
    clear HTR
    obtain ⟨f, a, lv, l, b, rfl, ha, hf, hla, hbl, hz, heq, htr⟩ := hrel
    have HZ := Lib.hid hz
    have HBL := Lib.hid hbl
    have HEQ := Lib.hid heq
    have HT := Lib.hid htr
    clear hz hbl heq htr
    by_cases hlt : a < s.size
    · obtain ⟨f', rfl⟩ : ∃ f', f = f' + 1 := ⟨f - 1, by omega⟩
      have hlt' : a < s.data.toList.length := by rw [HL.out]; exact hlt
      have HD := Lib.hid (ext_drop s a)
      have hdl : (s.data.toList.drop a).length = s.size - a := by rw [List.length_drop, HL.out]
      have HM : Hid ((s.extract a s.size).size ≤ maxLen) := Lib.hid (show (s.extract a s.size).size ≤ maxLen by rw [ByteArray.size_extract]; unfold maxLen; omega)
      have d3 : (0 : Int) ≤ (a : Int) := by omega
      have d4 : (a : Int) ≤ (s.size : Int) := by omega
      rcases getL_cases (s.data.toList.drop a) with ⟨e, hg, he⟩ | ⟨n, k, hg, hn, hk1, hk2, hk3⟩
      · have HRD := Lib.hid (rd_err (pl := (a : Int)) HEQ.out hlt' (getT_num hg he) (by omega))
        have HGL : Hid (getL (s.extract a s.size).data.toList = (0, 0, e)) := Lib.hid (show getL (s.extract a s.size).data.toList = (0, 0, e) by rw [HD.out]; exact hg)
        have HNE := Lib.hid he
        have hne : ((e : Int) != 0) = true := by simp; omega
        clear hg he hdl hlt'
        go_wp2_with (at_builtin; refine wpList_append_int rfl _ _ rfl (w.heap.size + 2) _ b rfl (HT.out.2.2.2.1.alloc _) ⟨wr.heap.size, 0, none⟩ 1 rfl a ?c4 ?c5 ?c6 ?_)
        case c4 => simp [Addr.add]
        case c5 => have := HBL.out; omega
        case c6 => have := HT.out.2.2.2.2.2; simp; omega
        intro g' cap' w2 ho2 hg2
        have HT2 : Hid (TR w w2 lv (.slice (some ⟨g', 0, none⟩) (b.length + 1) cap') l (b ++ [a])) := HT.out.begun ho2 hg2
        clear ho2 hg2
        go_wp2_with fail
        refine (unvary_bad _ _ HM.out e HGL.out).mono ?_
        rintro r w' ⟨rfl, rfl⟩
        go_wp2_with fail
        refine (throw_any e (a : Int) _).mono ?_
        rintro r w' ⟨rfl, rfl⟩
        exact door_bad e (a : Int) HT2.out HNE.out HRD.out _ rfl rfl
      · rw [hdl] at hk3
        have HGL : Hid (getL (s.extract a s.size).data.toList = (n, k, 0)) := Lib.hid (show getL (s.extract a s.size).data.toList = (n, k, 0) by rw [HD.out]; exact hg)
        have HEQ2 : Hid (a + (s.size - a) = s.size) := Lib.hid (show a + (s.size - a) = s.size by omega)
        by_cases h2 : n % 2 = 0
        · have b2 : ((n : Int) % 2 == 0) = true := by simp; omega
          by_cases h0 : n = 0
          · subst h0
            have HRD := Lib.hid (rd_err (pl := (a : Int)) HEQ.out hlt' (getT_zero hg) (by omega))
            have HNE : Hid ((3 : Nat) ≠ 0) := Lib.hid (by decide)
            clear hg hdl hlt' h2 b2
            go_wp2_with (at_builtin; refine wpList_append_int rfl _ _ rfl (w.heap.size + 2) _ b rfl (HT.out.2.2.2.1.alloc _) ⟨wr.heap.size, 0, none⟩ 1 rfl a ?c4 ?c5 ?c6 ?_)
            case c4 => simp [Addr.add]
            case c5 => have := HBL.out; omega
            case c6 => have := HT.out.2.2.2.2.2; simp; omega
            intro g' cap' w2 ho2 hg2
            have HT2 : Hid (TR w w2 lv (.slice (some ⟨g', 0, none⟩) (b.length + 1) cap') l (b ++ [a])) := HT.out.begun ho2 hg2
            clear ho2 hg2
            go_wp2_with fail
            refine (unvary_ok _ _ HM.out 0 k HGL.out).mono ?_
            rintro r w' ⟨rfl, rfl⟩
            go_wp2_with fail
            refine (throw_any 3 (a : Int) _).mono ?_
            rintro r w' ⟨rfl, rfl⟩
            exact door_bad 3 (a : Int) HT2.out HNE.out HRD.out _ rfl rfl
          · have b3 : ((n : Int) == 0) = false := by simp; omega
            obtain ⟨h, hh⟩ : ∃ h, h = n / 2 := ⟨_, rfl⟩
            obtain ⟨q, hq⟩ : ∃ q, q = a + k := ⟨_, rfl⟩
            have d7 : (n : Int) / 2 = (h : Int) := by omega
            have d9 : (a : Int) + (k : Int) = (q : Int) := by omega
            by_cases hl : s.size - a < k + n / 2
            · have HRD := Lib.hid (rd_err (pl := (s.size : Int)) HEQ.out hlt' (getT_miss hg h2 h0 (by rw [hdl]; exact hl)) (by rw [hdl, HEQ2.out]))
              have HNE : Hid ((7 : Nat) ≠ 0) := Lib.hid (by decide)
              by_cases hbig : s.size < h
              · have d5 : (s.size : Int) < (h : Int) := by omega
                clear hg hdl hlt' h2 hh hq d9
                go_wp2_with (at_builtin; refine wpList_append_int rfl _ _ rfl (w.heap.size + 2) _ b rfl (HT.out.2.2.2.1.alloc _) ⟨wr.heap.size, 0, none⟩ 1 rfl a ?c4 ?c5 ?c6 ?_)
                case c4 => simp [Addr.add]
                case c5 => have := HBL.out; omega
                case c6 => have := HT.out.2.2.2.2.2; simp; omega
                intro g' cap' w2 ho2 hg2
                have HT2 : Hid (TR w w2 lv (.slice (some ⟨g', 0, none⟩) (b.length + 1) cap') l (b ++ [a])) := HT.out.begun ho2 hg2
                clear ho2 hg2
                go_wp2_with fail
                refine (unvary_ok _ _ HM.out n k HGL.out).mono ?_
                rintro r w' ⟨rfl, rfl⟩
                go_wp2_with fail
                refine (throw_any 7 (s.size : Int) _).mono ?_
                rintro r w' ⟨rfl, rfl⟩
                exact door_bad 7 (s.size : Int) HT2.out HNE.out HRD.out _ rfl rfl
              · have d5 : (h : Int) ≤ (s.size : Int) := by omega
                have d6 : (s.size : Int) < (q : Int) + (h : Int) := by omega
                have d8 : (q : Int) ≤ 1000000 := by omega
                clear hg hdl hlt' h2 hh hq
                go_wp2_with (at_builtin; refine wpList_append_int rfl _ _ rfl (w.heap.size + 2) _ b rfl (HT.out.2.2.2.1.alloc _) ⟨wr.heap.size, 0, none⟩ 1 rfl a ?c4 ?c5 ?c6 ?_)
                case c4 => simp [Addr.add]
                case c5 => have := HBL.out; omega
                case c6 => have := HT.out.2.2.2.2.2; simp; omega
                intro g' cap' w2 ho2 hg2
                have HT2 : Hid (TR w w2 lv (.slice (some ⟨g', 0, none⟩) (b.length + 1) cap') l (b ++ [a])) := HT.out.begun ho2 hg2
                clear ho2 hg2
                go_wp2_with fail
                refine (unvary_ok _ _ HM.out n k HGL.out).mono ?_
                rintro r w' ⟨rfl, rfl⟩
                go_wp2_with fail
                refine (throw_any 7 (s.size : Int) _).mono ?_
                rintro r w' ⟨rfl, rfl⟩
                exact door_bad 7 (s.size : Int) HT2.out HNE.out HRD.out _ rfl rfl
            · obtain ⟨e2, he2⟩ : ∃ e2, e2 = q + h := ⟨_, rfl⟩
              have hD2 : (s.extract q e2).data.toList = ((s.data.toList.drop a).drop k).take h := by
                rw [ext_data, List.drop_drop, List.drop_take, he2, hq]; congr 1; omega
              have hgt := getT_own hg h2 h0 (by rw [hdl]; exact hl)
              rw [← hh, show (⟨⟨(((s.data.toList.drop a).drop k).take h).toArray⟩, 0, 0⟩ : Tok) = ⟨s.extract q e2, 0, 0⟩ by rw [← hD2, bs_of]] at hgt
              have HE : Hid (rdF s.data.toList s.data.toList.length 0 [] [] = rdF s.data.toList f' (a + (k + h)) (l ++ [⟨s.extract q e2, 0, 0⟩]) (b ++ [a])) := Lib.hid (show rdF s.data.toList s.data.toList.length 0 [] [] = rdF s.data.toList f' (a + (k + h)) (l ++ [⟨s.extract q e2, 0, 0⟩]) (b ++ [a]) by rw [HEQ.out, rdF_ok hlt' hgt])
              have HZ2 : Hid (∀ u ∈ l ++ [(⟨s.extract q e2, 0, 0⟩ : Tok)], u.own.size ≤ 140737488351232) := Lib.hid (show ∀ u ∈ l ++ [(⟨s.extract q e2, 0, 0⟩ : Tok)], u.own.size ≤ 140737488351232 from fun u hu => by
                rcases List.mem_append.1 hu with hu | hu
                · exact HZ.out u hu
                · rw [List.mem_singleton.1 hu]; show (s.extract q e2).size ≤ _; rw [ByteArray.size_extract]; omega)
              have HMJ : Hid (a + (k + h) ≤ s.size ∧ s.size ≤ a + (k + h) + f' ∧ 1 ≤ k) := Lib.hid ⟨by omega, by omega, hk1⟩
              have d5 : (h : Int) ≤ (s.size : Int) := by omega
              have d6 : (q : Int) + (h : Int) ≤ (s.size : Int) := by omega
              have d8 : (q : Int) ≤ 1000000 := by omega
              have dA : (e2 : Int) ≤ (s.size : Int) := by omega
              have dB : (q : Int) ≤ (e2 : Int) := by omega
              have dC : (0 : Int) ≤ (q : Int) := by omega
              have dD : (0 : Int) ≤ (e2 : Int) := by omega
              have k1' : IntKind.i64.wrap ((a : Int) + (k : Int)) = (q : Int) := by rw [d9]; exact IntWalk.i64_in _ (by omega)
              have k2' : IntKind.i64.wrap ((q : Int) + (h : Int)) = (e2 : Int) := by rw [show (q : Int) + (h : Int) = (e2 : Int) by omega]; exact IntWalk.i64_in _ (by omega)
              have k3' : IntKind.i64.wrap (h : Int) = (h : Int) := IntWalk.i64_in _ (by omega)
              have k4' : IntKind.i64.wrap (q : Int) = (q : Int) := IntWalk.i64_in _ (by omega)
              have k5' : IntKind.i64.wrap (e2 : Int) = (e2 : Int) := IntWalk.i64_in _ (by omega)
              have k6' : (n : Int).tdiv 2 = (h : Int) := by rw [Int.tdiv_eq_ediv_of_nonneg (by omega)]; exact d7
              have k7' : IntKind.u64.wrap (h : Int) = (h : Int) := IntWalk.u64_in _ (by omega)
              have k8' : (q : Int) + (h : Int) = (e2 : Int) := by omega
              have n1 : q ≤ e2 := by omega
              have n2 : e2 ≤ s.size := by omega
              have HLN : Hid (l.length + 1 ≤ 1000000) := Lib.hid (show l.length + 1 ≤ 1000000 by omega)
              have HBS := Lib.hid HT.out.2.2.2.2.2
              clear hg hdl hlt' h2 hh hq hgt hD2 he2
              go_wp2_with (at_builtin; refine wpList_append_int rfl _ _ rfl (w.heap.size + 2) _ b rfl (HT.out.2.2.2.1.alloc _) ⟨wr.heap.size, 0, none⟩ 1 rfl a ?c4 ?c5 ?c6 ?_)
              case c4 => simp [Addr.add]
              case c5 => have := HBL.out; omega
              case c6 => have := HT.out.2.2.2.2.2; simp; omega
              intro g' cap' w2 ho2 hg2
              have HT2 : Hid (TR w w2 lv (.slice (some ⟨g', 0, none⟩) (b.length + 1) cap') l (b ++ [a])) := HT.out.begun ho2 hg2
              clear ho2 hg2
              go_wp2_with fail
              refine (unvary_ok _ _ HM.out n k HGL.out).mono ?_
              rintro r w' ⟨rfl, rfl⟩
              obtain ⟨o0, o1, _⟩ := HT2.out.cells
              have o0' : (w2.alloc (.cells #[.string (s.extract q e2), .int .i64 0, .int .i64 0] 42)).cell? ⟨w.heap.size, 0, none⟩ = some lv := ((HT2.out.alloc _).cells).1
              go_wp2
              refine wp_region_noPanic ?_
              go_region_law (first | (refine step_append_tok _ rfl _ _ rfl (w.heap.size + 2) _ l rfl (HT2.out.2.2.1.alloc _) w2.heap.size 1 rfl ⟨s.extract q e2, 0, 0⟩ (by exact tokBlk_new w2 _ _ _) HLN.out (by have := HT2.out.2.2.2.2.2; simp; omega) ?_; intro g cap w3 ho3 hg3; have hg4 := grown_undrew hg3; obtain ⟨u0, u1⟩ := HT2.out.out_kept hg4; have HT3 := Lib.hid (HT2.out.read ho3 hg4); clear ho3 hg3 hg4))
              all_goals
                refine NoPanic.normal ?_
                obtain ⟨l1, hl1⟩ : ∃ l1, l ++ [(⟨s.extract q e2, 0, 0⟩ : Tok)] = l1 := ⟨_, rfl⟩
                have hll : l1.length = l.length + 1 := by rw [← hl1]; simp
                rw [hl1] at HT3 HE HZ2
                have HBL2 : Hid ((b ++ [a]).length = l1.length) := Lib.hid (show (b ++ [a]).length = l1.length by rw [hll, List.length_append, HBL.out]; rfl)
                clear hl1 o0 o1
                go_wp2
                go_roundw
                case rel => obtain ⟨z1, z2, z3⟩ := HMJ.out; exact ⟨f', a + (k + h), _, l1, b ++ [a], by go_num, z1, z2, by omega, HBL2.out, HZ2.out, HE.out, HT3.out⟩
                case measure => obtain ⟨z1, z2, z3⟩ := HMJ.out; simp [intOf]; omega
        · have b2 : ((n : Int) % 2 == 0) = false := by simp; omega
          obtain ⟨h, hh⟩ : ∃ h, h = n / 2 := ⟨_, rfl⟩
          obtain ⟨q, hq⟩ : ∃ q, q = a + k := ⟨_, rfl⟩
          have d7 : (n : Int) / 2 = (h : Int) := by omega
          have d9 : (a : Int) + (k : Int) = (q : Int) := by omega
          by_cases hb : 63 < n / 2
          · have HRD := Lib.hid (rd_err (pl := (a : Int)) HEQ.out hlt' (getT_big hg h2 hb) (by omega))
            have HNE : Hid ((2 : Nat) ≠ 0) := Lib.hid (by decide)
            have d5 : 67 < (h : Int) + 4 := by omega
            have d6 : (h : Int) ≤ 9223372036854775807 := by omega
            clear hg hdl hlt' h2 hh hq d9
            go_wp2_with (at_builtin; refine wpList_append_int rfl _ _ rfl (w.heap.size + 2) _ b rfl (HT.out.2.2.2.1.alloc _) ⟨wr.heap.size, 0, none⟩ 1 rfl a ?c4 ?c5 ?c6 ?_)
            case c4 => simp [Addr.add]
            case c5 => have := HBL.out; omega
            case c6 => have := HT.out.2.2.2.2.2; simp; omega
            intro g' cap' w2 ho2 hg2
            have HT2 : Hid (TR w w2 lv (.slice (some ⟨g', 0, none⟩) (b.length + 1) cap') l (b ++ [a])) := HT.out.begun ho2 hg2
            clear ho2 hg2
            go_wp2_with fail
            refine (unvary_ok _ _ HM.out n k HGL.out).mono ?_
            rintro r w' ⟨rfl, rfl⟩
            go_wp2_with fail
            refine (throw_any 2 (a : Int) _).mono ?_
            rintro r w' ⟨rfl, rfl⟩
            exact door_bad 2 (a : Int) HT2.out HNE.out HRD.out _ rfl rfl
          · have d5 : (h : Int) + 4 ≤ 67 := by omega
            have d8 : (q : Int) ≤ (s.size : Int) := by omega
            have dB : (0 : Int) ≤ (q : Int) := by omega
            have hE2 : (s.data.toList.drop a).drop k = (s.extract q s.size).data.toList := by rw [ext_drop, List.drop_drop, hq]
            have HM2 : Hid ((s.extract q s.size).size ≤ maxLen) := Lib.hid (show (s.extract q s.size).size ≤ maxLen by rw [ByteArray.size_extract]; unfold maxLen; omega)
            rcases bkL_cases ((s.data.toList.drop a).drop k) with ⟨e, hk, he⟩ | ⟨m, j, hk, hm, hm2⟩
            · have HRD := Lib.hid (rd_err (pl := (q : Int)) HEQ.out hlt' (getT_back hg h2 hb hk he) (by omega))
              rw [hE2] at hk
              have HK := Lib.hid hk
              have HNE := Lib.hid he
              have hne : ((e : Int) != 0) = true := by simp; omega
              clear hg hdl hlt' h2 hh hq hE2 hk he
              go_wp2_with (at_builtin; refine wpList_append_int rfl _ _ rfl (w.heap.size + 2) _ b rfl (HT.out.2.2.2.1.alloc _) ⟨wr.heap.size, 0, none⟩ 1 rfl a ?c4 ?c5 ?c6 ?_)
              case c4 => simp [Addr.add]
              case c5 => have := HBL.out; omega
              case c6 => have := HT.out.2.2.2.2.2; simp; omega
              intro g' cap' w2 ho2 hg2
              have HT2 : Hid (TR w w2 lv (.slice (some ⟨g', 0, none⟩) (b.length + 1) cap') l (b ++ [a])) := HT.out.begun ho2 hg2
              clear ho2 hg2
              go_wp2_with fail
              refine (unvary_ok _ _ HM.out n k HGL.out).mono ?_
              rintro r w' ⟨rfl, rfl⟩
              go_wp2_with fail
              refine (rint_bad _ _ HM2.out e HK.out).mono ?_
              rintro r w' ⟨rfl, rfl⟩
              go_wp2_with fail
              refine (throw_any e (q : Int) _).mono ?_
              rintro r w' ⟨rfl, rfl⟩
              exact door_bad e (q : Int) HT2.out HNE.out HRD.out _ rfl rfl
            · have hgt := getT_rep hg h2 hb hk
              have HE : Hid (rdF s.data.toList s.data.toList.length 0 [] [] = rdF s.data.toList f' (a + (k + j)) (l ++ [repT (m + 1) (h + 4)]) (b ++ [a])) := Lib.hid (show rdF s.data.toList s.data.toList.length 0 [] [] = rdF s.data.toList f' (a + (k + j)) (l ++ [repT (m + 1) (h + 4)]) (b ++ [a]) by rw [HEQ.out, rdF_ok hlt' hgt, hh])
              obtain ⟨_, g2, _⟩ := getT_only hgt
              rw [hdl] at g2
              rw [hE2] at hk
              have HK := Lib.hid hk
              have hj2 : (j : Int) ≤ 1000000 := by omega
              have HZ2 : Hid (∀ u ∈ l ++ [repT (m + 1) (h + 4)], u.own.size ≤ 140737488351232) := Lib.hid (show ∀ u ∈ l ++ [repT (m + 1) (h + 4)], u.own.size ≤ 140737488351232 from fun u hu => by
                rcases List.mem_append.1 hu with hu | hu
                · exact HZ.out u hu
                · rw [List.mem_singleton.1 hu]; exact Nat.zero_le _)
              have HTQ : Hid (repT (m + 1) (h + 4) = ⟨⟨#[]⟩, (m : Int) + 1, (h : Int) + 4⟩) := Lib.hid (show repT (m + 1) (h + 4) = ⟨⟨#[]⟩, (m : Int) + 1, (h : Int) + 4⟩ by unfold repT; simp)
              have HMJ : Hid (a + (k + j) ≤ s.size ∧ s.size ≤ a + (k + j) + f' ∧ 1 ≤ k) := Lib.hid ⟨by omega, by omega, hk1⟩
              clear hg hdl hlt' h2 hh hq hE2 hk hgt hm
              go_wp2_with (at_builtin; refine wpList_append_int rfl _ _ rfl (w.heap.size + 2) _ b rfl (HT.out.2.2.2.1.alloc _) ⟨wr.heap.size, 0, none⟩ 1 rfl a ?c4 ?c5 ?c6 ?_)
              case c4 => simp [Addr.add]
              case c5 => have := HBL.out; omega
              case c6 => have := HT.out.2.2.2.2.2; simp; omega
              intro g' cap' w2 ho2 hg2
              have HT2 : Hid (TR w w2 lv (.slice (some ⟨g', 0, none⟩) (b.length + 1) cap') l (b ++ [a])) := HT.out.begun ho2 hg2
              clear ho2 hg2
              go_wp2_with fail
              refine (unvary_ok _ _ HM.out n k HGL.out).mono ?_
              rintro r w' ⟨rfl, rfl⟩
              go_wp2_with fail
              refine (rint_ok _ _ HM2.out m j HK.out).mono ?_
              rintro r w' ⟨rfl, rfl⟩
              obtain ⟨o0, o1, _⟩ := HT2.out.cells
              rw [HTQ.out] at HE HZ2
              go_wp2_with (at_builtin; refine wpList_append_tok rfl _ _ rfl (w.heap.size + 2) _ l rfl (HT2.out.2.2.1.alloc _) _ 1 rfl ⟨⟨#[]⟩, (m : Int) + 1, (h : Int) + 4⟩ ?c7 ?c8 ?c9 ?_)
              case c7 => exact tokBlk_new _ _ _ _
              case c8 => omega
              case c9 => have := HT2.out.2.2.2.2.2; simp; omega
              intro g cap w3 ho3 hg3
              obtain ⟨u0, u1⟩ := HT2.out.out_kept hg3
              have HT3 := Lib.hid (HT2.out.read ho3 hg3)
              obtain ⟨l1, hl1⟩ : ∃ l1, l ++ [(⟨⟨#[]⟩, (m : Int) + 1, (h : Int) + 4⟩ : Tok)] = l1 := ⟨_, rfl⟩
              have hll : l1.length = l.length + 1 := by rw [← hl1]; simp
              rw [hl1] at HT3 HE HZ2
              have HBL2 : Hid ((b ++ [a]).length = l1.length) := Lib.hid (show (b ++ [a]).length = l1.length by rw [hll, List.length_append, HBL.out]; rfl)
              clear ho3 hg3 hl1 o0 o1
              go_wp2
              go_roundw
              case rel => obtain ⟨z1, z2, z3⟩ := HMJ.out; exact ⟨f', a + (k + j), _, l1, b ++ [a], by go_num, z1, z2, by omega, HBL2.out, HZ2.out, HE.out, HT3.out⟩
              case measure => obtain ⟨z1, z2, z3⟩ := HMJ.out; simp [intOf]; omega
    · have hlt' : ¬ a < s.data.toList.length := by rw [HL.out]; exact hlt
      have hE : rdF s.data.toList s.data.toList.length 0 [] [] = .inr (l, b) := by rw [HEQ.out, rdF_end hlt']
      have HIS := Lib.hid HT.out.2.2.1.is
      have hll : l.length ≤ 9223372036854775807 := by omega
      obtain ⟨o0, o1, _⟩ := HT.out.cells
      by_cases hr : (rightF l 0 0).1 = 0
      · obtain ⟨a5, c5, hlv, _⟩ := HT.out.2.2.1.is.form
        subst hlv
        have HRD := Lib.hid (readF_ok hE hr)
        have HFV : Hid (faultV (rightF l 0 0) = .agg #[.int .i64 0, .int .i64 (-1)]) := Lib.hid (show faultV (rightF l 0 0) = .agg #[.int .i64 0, .int .i64 (-1)] by rw [rightF_any hr]; rfl)
        clear hlt' hE hr
        go_wp2_with fail
        refine (rright_any _ l _ HIS.out hll HZ.out).mono ?_
        rintro r w2 ⟨rfl, hb2⟩
        rw [HFV.out]
        have HT2 := Lib.hid (HT.out.below hb2)
        clear hb2 o0 o1
        go_wp2_with fail
        refine (is_any 0 (-1) _).mono ?_
        rintro r w3 ⟨rfl, hb3⟩
        have HT3 := Lib.hid ((HT2.out.alloc _).below hb3)
        obtain ⟨o0, o1, c0', c1', z0', z1'⟩ := HT3.out.cells
        clear hb3
        go_wp2
        go_region
        go_wp2
        all_goals (first | exact door_good HT3.out.drew.same HRD.out _ rfl rfl | exact door_good HT3.out.same.drew HRD.out _ rfl rfl)
      · obtain ⟨j, hj, hjl⟩ := rightF_bound hr
        rw [Nat.zero_add] at hj
        obtain ⟨e, he⟩ : ∃ e, (rightF l 0 0).1 = e := ⟨_, rfl⟩
        obtain ⟨q, hq⟩ : ∃ q, b.getD j 0 = q := ⟨_, rfl⟩
        have hre : rightF l 0 0 = (e, (j : Int)) := Prod.ext he hj
        have HRD : Hid (readF s.data.toList = ((e, (q : Int)), [])) := Lib.hid (show readF s.data.toList = ((e, (q : Int)), []) by rw [readF_wrong hE hr, hre]; simp only [Int.toNat_natCast]; rw [hq])
        have HNE : Hid (e ≠ 0) := Lib.hid (by rw [← he]; exact hr)
        have hbe : ((e : Int) == 0) = false := by have := HNE.out; simp; omega
        have HBE := Lib.hid hbe
        have HFV : Hid (faultV (rightF l 0 0) = .agg #[.int .i64 e, .int .i64 j]) := Lib.hid (show faultV (rightF l 0 0) = .agg #[.int .i64 e, .int .i64 j] by rw [hre]; rfl)
        have hon := HT.out.2.2.2.1
        rcases hon.forms with ⟨_, hnil⟩ | ⟨g, cap, hbv, hbg, hgl, hcells⟩
        · exact absurd hjl (by have := HBL.out; rw [hnil] at this; simp at this; omega)
        · subst hbv
          have hcj := hcells j (by have := HBL.out; omega)
          rw [hq] at hcj
          have hjb : (j : Int) < (b.length : Int) := by have := HBL.out; omega
          have hj0 : (0 : Int) ≤ (j : Int) := by omega
          obtain ⟨n, hn⟩ : ∃ n, n = b.length := ⟨_, rfl⟩
          rw [← hn] at hjb HT ⊢
          clear hlt' hE hr hj he hre hbe hon hcells hbg hq hn
          go_wp2_with fail
          refine (rright_any _ l _ HIS.out hll HZ.out).mono ?_
          rintro r w2 ⟨rfl, hb2⟩
          rw [HFV.out]
          have HT2 := Lib.hid (HT.out.below hb2)
          have hcj2 : w2.cell? ⟨g, j, none⟩ = some (.int .i64 (q : Int)) := (hb2.cell hgl).trans hcj
          have hgl2 : g < w2.heap.size := Nat.lt_of_lt_of_le hgl hb2.size
          clear hb2 hcj o0 o1
          go_wp2_with fail
          refine (is_any e j _).mono ?_
          rintro r w3 ⟨rfl, hb3⟩
          rw [HBE.out]
          have HT3 := Lib.hid ((HT2.out.alloc _).below hb3)
          have u0 : w3.cell? ⟨w2.heap.size, 0, none⟩ = some (.int .i64 e) := (hb3.cell (by simp)).trans (by simp)
          have u1 : w3.cell? ⟨w2.heap.size, 1, none⟩ = some (.int .i64 j) := (hb3.cell (by simp)).trans (by simp)
          have hcj3 : w3.cell? ⟨g, j, none⟩ = some (.int .i64 (q : Int)) := (hb3.cell (by simp; omega)).trans ((((Below.refl _ _).alloc (Nat.le_refl _) _).cell hgl2).trans hcj2)
          clear hb3 hcj2
          go_wp2
          go_still_tail 7, (by kernel_rfl)
          change wpList _ _ _ _ _ w3.drew
          have HT3d := Lib.hid HT3.out.drew
          generalize w3.drew = w4 at HT3d ⊢
          go_wp2_with fail
          refine (throw_any e (q : Int) _).mono ?_
          rintro r w' ⟨rfl, rfl⟩
          exact door_bad e (q : Int) HT3d.out HNE.out HRD.out _ rfl rfl
end Go.Proofs.YtjhmlmcibpjagaaDoor
namespace Go.Proofs.YtjhmlmcibpjagaaDoor
open Go.RowKit

theorem read_few (s : List UInt8) : (readF s).2.length ≤ 20000 ∧ ∀ t ∈ (readF s).2, t.own.size ≤ 20000 := by
  by_cases h : (readF s).1.1 = 0
  · have h2 := (read_only h).1
    exact ⟨(right_few h2).1, right_own h2⟩
  · rw [read_bad h]; exact ⟨Nat.zero_le _, fun t ht => by cases ht⟩

set_option maxRecDepth 100000 in
set_option maxHeartbeats 4000000 in
theorem rswell_any (s : ByteArray) (w : World) (hs : s.size ≤ 400000) (e : Nat) (pl : Int) (he : (readF s.data.toList).1 = (e, pl)) :
    Calls Tryd.prog 17 #[.string s] w fun r w' => r = .returned (.tuple #[.string ⟨(swellF s.data.toList).toArray⟩, .agg #[.int .i64 (e : Int), .int .i64 pl]]) ∧ Below w.heap.size w w' := by
  have HE := Lib.hid he
  have HFQ : Hid ((.agg #[.int .i64 ((readF s.data.toList).1.1 : Nat), .int .i64 (readF s.data.toList).1.2] : Value) = .agg #[.int .i64 (e : Int), .int .i64 pl]) := Lib.hid (show (.agg #[.int .i64 ((readF s.data.toList).1.1 : Nat), .int .i64 (readF s.data.toList).1.2] : Value) = .agg #[.int .i64 (e : Int), .int .i64 pl] by rw [he])
  by_cases h0 : e = 0
  · subst h0
    have hr : (readF s.data.toList).1.1 = 0 := by rw [he]
    have hpl : pl = -1 := by have := read_good hr; rw [he] at this; exact (Prod.mk.inj this).2
    subst hpl
    have hr2 := (read_only hr).1
    obtain ⟨l, hl⟩ : ∃ l, (readF s.data.toList).2 = l := ⟨_, rfl⟩
    have hfew := (read_few s.data.toList).1
    have hown := (read_few s.data.toList).2
    rw [hl] at hr2 hfew hown
    have HL := Lib.hid hl
    have HLN : Hid (l.length ≤ 9223372036854775807) := Lib.hid (show l.length ≤ 9223372036854775807 by omega)
    have HZ : Hid (∀ t ∈ l, t.own.size ≤ 140737488351232) := Lib.hid (show ∀ t ∈ l, t.own.size ≤ 140737488351232 from fun t ht => by have := hown t ht; omega)
    have HTX : Hid ((⟨(textF l).toArray⟩ : ByteArray) = ⟨(swellF s.data.toList).toArray⟩) := Lib.hid (show (⟨(textF l).toArray⟩ : ByteArray) = ⟨(swellF s.data.toList).toArray⟩ by rw [swell_ok hr, hl]; unfold textF; rw [if_pos hr2])
    have HFV : Hid (faultV (rightF l 0 0) = .agg #[.int .i64 0, .int .i64 (-1)]) := Lib.hid (show faultV (rightF l 0 0) = .agg #[.int .i64 0, .int .i64 (-1)] by rw [rightF_any hr2]; rfl)
    clear hr hr2 hl hfew hown he
    go_enter Tryd.func17, Tryd.ntmps17
    go_wp2_with fail
    refine (rread_any s _ hs).mono ?_
    rintro r w1 ⟨v, rfl, hok, hb1⟩
    rw [HL.out] at hok
    rw [HFQ.out]
    have HK := Lib.hid hok
    have HB1 := Lib.hid hb1
    clear hok hb1
    go_wp2_with fail
    refine (is_any 0 (-1) _).mono ?_
    rintro r w2 ⟨rfl, hb2⟩
    have hz1 := HB1.out.size
    rw [World.size_alloc] at hz1
    have HB2 : Hid (Below (w.heap.size + 1) (w.alloc (.cells #[.int .i64 0, .int .i64 0] 26)) w2) := ((HB1.out.mono (by simp)).alloc (by omega) _).trans (hb2.mono (by simp; omega))
    have HK2 := Lib.hid ((HK.out.alloc _).below hb2)
    clear hb2
    go_wp2_with fail
    refine (rtext_any v l _ HK2.out.is HLN.out HZ.out).mono ?_
    rintro r w3 ⟨rfl, hb3⟩
    rw [HTX.out, HFV.out]
    have hz2 := HB2.out.size
    rw [World.size_alloc] at hz2
    have HB3 : Hid (Below (w.heap.size + 1) (w.alloc (.cells #[.int .i64 0, .int .i64 0] 26)) w3) := HB2.out.trans (hb3.mono hz2)
    clear hb3
    have x0 : w3.cell? ⟨w.heap.size, 0, none⟩ = some (.int .i64 0) := (HB3.out.cell (by exact Nat.lt_succ_self _)).trans (by simp)
    have x1 : w3.cell? ⟨w.heap.size, 1, none⟩ = some (.int .i64 0) := (HB3.out.cell (by exact Nat.lt_succ_self _)).trans (by simp)
    have y0 : w3.frozen? ⟨w.heap.size, 0, none⟩ = false := (HB3.out.frozen (by exact Nat.lt_succ_self _)).trans (by simp)
    have y1 : w3.frozen? ⟨w.heap.size, 1, none⟩ = false := (HB3.out.frozen (by exact Nat.lt_succ_self _)).trans (by simp)
    have HBW : Hid (Below w.heap.size w w3) := ((Below.refl _ _).alloc (Nat.le_refl _) _).trans (HB3.out.mono (Nat.le_succ _))
    go_wp2
    refine bodyPost_ret (v := .tuple #[.string ⟨(swellF s.data.toList).toArray⟩, .agg #[.int .i64 0, .int .i64 (-1)]]) (by simp [results, Tryd.results17, go_sem, x0, x1]) rfl ?_
    exact ⟨rfl, (HBW.out.setCell (Nat.le_refl _) _).setCell (Nat.le_refl _) _⟩
  · have hr : ¬ (readF s.data.toList).1.1 = 0 := by rw [he]; exact h0
    have HSB : Hid ((⟨(swellF s.data.toList).toArray⟩ : ByteArray) = ⟨#[]⟩) := Lib.hid (show (⟨(swellF s.data.toList).toArray⟩ : ByteArray) = ⟨#[]⟩ by rw [swell_bad hr])
    have hbe : ((e : Int) == 0) = false := by simp; omega
    have HBE := Lib.hid hbe
    clear hr h0 he hbe
    go_enter Tryd.func17, Tryd.ntmps17
    go_wp2_with fail
    refine (rread_any s _ hs).mono ?_
    rintro r w0 ⟨v, rfl, _, hb0⟩
    rw [HFQ.out]
    have HB0 := Lib.hid hb0
    have hz0 := hb0.size
    rw [World.size_alloc] at hz0
    clear hb0
    go_wp2_with fail
    refine (is_any e pl _).mono ?_
    rintro r w1 ⟨rfl, hb1⟩
    rw [HBE.out]
    have hB1 : Below (w.heap.size + 1) (w.alloc (.cells #[.int .i64 0, .int .i64 0] 26)) w1 := (HB0.out.mono (by simp)).alloc (by omega) _ |>.trans (hb1.mono (by simp; omega))
    have hl0 : w0.heap.size < (w0.alloc (.cells #[.int .i64 e, .int .i64 pl] 26)).heap.size := by simp
    have u0 : w1.cell? ⟨w0.heap.size, 0, none⟩ = some (.int .i64 e) := (hb1.cell hl0).trans (by simp)
    have u1 : w1.cell? ⟨w0.heap.size, 1, none⟩ = some (.int .i64 pl) := (hb1.cell hl0).trans (by simp)
    have x0 : w1.cell? ⟨w.heap.size, 0, none⟩ = some (.int .i64 0) := (hB1.cell (by exact Nat.lt_succ_self _)).trans (by simp)
    have x1 : w1.cell? ⟨w.heap.size, 1, none⟩ = some (.int .i64 0) := (hB1.cell (by exact Nat.lt_succ_self _)).trans (by simp)
    have y0 : w1.frozen? ⟨w.heap.size, 0, none⟩ = false := (hB1.frozen (by exact Nat.lt_succ_self _)).trans (by simp)
    have y1 : w1.frozen? ⟨w.heap.size, 1, none⟩ = false := (hB1.frozen (by exact Nat.lt_succ_self _)).trans (by simp)
    have HBW : Hid (Below w.heap.size w w1) := ((Below.refl _ _).alloc (Nat.le_refl _) _).trans (hB1.mono (Nat.le_succ _))
    clear hb1 hB1
    go_wp2
    go_region
    go_wp2
    refine bodyPost_ret (v := .tuple #[.string ⟨#[]⟩, .agg #[.int .i64 e, .int .i64 pl]]) (by simp [results, Tryd.results17, go_sem, x0, x1]) rfl ?_
    rw [HSB.out]
    exact ⟨rfl, by first | exact ((HBW.out.drew).setCell (Nat.le_refl _) _).setCell (Nat.le_refl _) _ | exact ((HBW.out.setCell (Nat.le_refl _) _).setCell (Nat.le_refl _) _).drew⟩

theorem below_drewq {w w' : World} {B : Nat} (h : Below B w w') (q : Nat) : Below B w (w'.drewN q) := by
  induction q with
  | zero => exact h
  | succ q ih => exact ⟨ih.os, ih.tape, ih.output, ih.size, ih.block⟩

set_option maxRecDepth 100000 in
set_option maxHeartbeats 4000000 in
theorem lzReads_walk (s : ByteArray) (hs : s.size ≤ maxLen) (w : World) (hg : errT w) :
    Calls Tryd.prog 4 #[.string s] w fun e w' => e = .returned (.bool true) ∧ Below w.heap.size w w' := by
  have HG := Lib.hid hg
  unfold maxLen at hs
  clear hg
  by_cases h1 : s.size ≤ 1500
  · have d1 : (s.size : Int) ≤ 1500 := by omega
    obtain ⟨e, pl, he⟩ : ∃ e pl, (readF s.data.toList).1 = (e, pl) := ⟨_, _, rfl⟩
    obtain ⟨l, hl⟩ : ∃ l, (readF s.data.toList).2 = l := ⟨_, rfl⟩
    obtain ⟨T, hT⟩ : ∃ T : ByteArray, ⟨(swellF s.data.toList).toArray⟩ = T := ⟨_, rfl⟩
    have hfew := (read_few s.data.toList).1
    rw [hl] at hfew
    have HE := Lib.hid he
    have HL := Lib.hid hl
    have HT := Lib.hid hT
    have HFQ : Hid ((.agg #[.int .i64 ((readF s.data.toList).1.1 : Nat), .int .i64 (readF s.data.toList).1.2] : Value) = .agg #[.int .i64 (e : Int), .int .i64 pl]) := Lib.hid (show (.agg #[.int .i64 ((readF s.data.toList).1.1 : Nat), .int .i64 (readF s.data.toList).1.2] : Value) = .agg #[.int .i64 (e : Int), .int .i64 pl] by rw [he])
    clear he hl hT
    go_enter Tryd.func4, Tryd.ntmps4
    go_wp2_with fail
    refine (rread_any s _ (by omega)).mono ?_
    rintro r w1 ⟨v, rfl, hok, hb1⟩
    rw [HL.out] at hok
    rw [HFQ.out]
    have HK1 := Lib.hid (hok.alloc (.cells #[.int .i64 e, .int .i64 pl] 26))
    have HB1 := Lib.hid hb1
    have hz1 := hb1.size
    have HG1 := Lib.hid ((HG.out.below hb1).alloc (.cells #[.int .i64 e, .int .i64 pl] 26))
    clear hok hb1
    go_wp2_with fail
    refine (lzread_any s _ (by omega) HG1.out).mono ?_
    rintro r w2 ⟨v2, err, rfl, hok, hat, hb2⟩
    rw [HL.out] at hok
    rw [HE.out] at hat
    have hl1 : w1.heap.size < (w1.alloc (.cells #[.int .i64 e, .int .i64 pl] 26)).heap.size := by simp
    have a0 : w2.cell? ⟨w1.heap.size, 0, none⟩ = some (.int .i64 e) := (hb2.cell hl1).trans (by simp)
    have a1 : w2.cell? ⟨w1.heap.size, 1, none⟩ = some (.int .i64 pl) := (hb2.cell hl1).trans (by simp)
    have hl2 : w1.heap.size < w2.heap.size := Nat.lt_of_lt_of_le hl1 hb2.size
    have HB2 : Hid (Below w.heap.size w w2) := (HB1.out.alloc hz1 _).trans (hb2.mono (by simp; omega))
    have HK2 := Lib.hid (HK1.out.below hb2)
    have HM2 := Lib.hid hok
    have HP2 := Lib.hid hat.place
    have HG2 := Lib.hid (HG1.out.below hb2)
    clear hok hat hb2
    go_wp2_with fail
    refine (rswell_any s _ (by omega) e pl HE.out).mono ?_
    rintro r w3 ⟨rfl, hb3⟩
    rw [HT.out]
    have b0 : w3.cell? ⟨w1.heap.size, 0, none⟩ = some (.int .i64 e) := (hb3.cell hl2).trans a0
    have b1 : w3.cell? ⟨w1.heap.size, 1, none⟩ = some (.int .i64 pl) := (hb3.cell hl2).trans a1
    have hl3 : w1.heap.size < w3.heap.size := Nat.lt_of_lt_of_le hl2 hb3.size
    have HB3 : Hid (Below w.heap.size w w3) := HB2.out.trans (hb3.mono HB2.out.size)
    have hz3 := HB3.out.size
    have HK3 := Lib.hid ((HK2.out.below hb3).alloc (.cells #[.int .i64 e, .int .i64 pl] 26))
    have HM3 := Lib.hid ((HM2.out.below hb3).alloc (.cells #[.int .i64 e, .int .i64 pl] 26))
    have HP3 := Lib.hid ((HP2.out.below hb3).alloc (.cells #[.int .i64 e, .int .i64 pl] 26))
    have HG3 := Lib.hid ((HG2.out.below hb3).alloc (.cells #[.int .i64 e, .int .i64 pl] 26))
    have c0 : (w3.alloc (.cells #[.int .i64 e, .int .i64 pl] 26)).cell? ⟨w1.heap.size, 0, none⟩ = some (.int .i64 e) := (World.cell?_alloc_lt w3 _ (⟨w1.heap.size, 0, none⟩ : Addr) hl3).trans b0
    have c1 : (w3.alloc (.cells #[.int .i64 e, .int .i64 pl] 26)).cell? ⟨w1.heap.size, 1, none⟩ = some (.int .i64 pl) := (World.cell?_alloc_lt w3 _ (⟨w1.heap.size, 1, none⟩ : Addr) hl3).trans b1
    clear hb3 a0 a1 b0 b1
    go_wp2_with fail
    refine (lzswell_any s _ (by omega) HG3.out).mono ?_
    rintro r w4 ⟨bad, rfl, hat, hb4⟩
    rw [HT.out]
    rw [HE.out] at hat
    have f0 : w4.cell? ⟨w1.heap.size, 0, none⟩ = some (.int .i64 e) := (hb4.cell (by simp; omega)).trans c0
    have f1 : w4.cell? ⟨w1.heap.size, 1, none⟩ = some (.int .i64 pl) := (hb4.cell (by simp; omega)).trans c1
    have g0 : w4.cell? ⟨w3.heap.size, 0, none⟩ = some (.int .i64 e) := (hb4.cell (by simp)).trans (by simp)
    have g1 : w4.cell? ⟨w3.heap.size, 1, none⟩ = some (.int .i64 pl) := (hb4.cell (by simp)).trans (by simp)
    have hl4 : w3.heap.size < w4.heap.size := Nat.lt_of_lt_of_le (by simp) hb4.size
    have HB4 : Hid (Below w.heap.size w w4) := (HB3.out.alloc hz3 _).trans (hb4.mono (by simp; omega))
    have HK4 := Lib.hid (HK3.out.below hb4)
    have HM4 := Lib.hid (HM3.out.below hb4)
    have HP4 := Lib.hid (HP3.out.below hb4)
    have HQ4 := Lib.hid hat.place
    have HG4 := Lib.hid (HG3.out.below hb4)
    clear hat hb4 c0 c1
    go_wp2_with fail
    refine (placed_ok err e pl _ HG4.out HP4.out).mono ?_
    rintro r w5 ⟨rfl, hb5⟩
    have u0 : w5.cell? ⟨w3.heap.size, 0, none⟩ = some (.int .i64 e) := (hb5.cell hl4).trans g0
    have u1 : w5.cell? ⟨w3.heap.size, 1, none⟩ = some (.int .i64 pl) := (hb5.cell hl4).trans g1
    have HB5 : Hid (Below w.heap.size w w5) := HB4.out.trans (hb5.mono HB4.out.size)
    have HK5 := Lib.hid (HK4.out.below hb5)
    have HM5 := Lib.hid (HM4.out.below hb5)
    have HQ5 := Lib.hid (HQ4.out.below hb5)
    have HG5 := Lib.hid (HG4.out.below hb5)
    clear hb5 f0 f1 g0 g1
    go_wp2_with fail
    refine (equal_toks v v2 l _ HK5.out.is HM5.out.is (by omega)).mono ?_
    rintro r w6 ⟨rfl, q, rfl⟩
    have v0 : (w5.drewN q).cell? ⟨w3.heap.size, 0, none⟩ = some (.int .i64 e) := u0
    have v1 : (w5.drewN q).cell? ⟨w3.heap.size, 1, none⟩ = some (.int .i64 pl) := u1
    have HB6 : Hid (Below w.heap.size w (w5.drewN q)) := below_drewq HB5.out q
    have HG6 : Hid (errT (w5.drewN q)) := HG5
    have HQ6 : Hid (placeIs (w5.drewN q) bad e pl) := HQ5
    obtain ⟨w6, hw6⟩ : ∃ w6, w5.drewN q = w6 := ⟨_, rfl⟩
    rw [hw6] at v0 v1 HB6 HG6 HQ6 ⊢
    clear hw6 u0 u1
    go_wp2_with fail
    refine (placed_ok bad e pl _ HG6.out HQ6.out).mono ?_
    rintro r w7 ⟨rfl, hb7⟩
    have HB7 : Hid (Below w.heap.size w w7) := HB6.out.trans (hb7.mono HB6.out.size)
    clear hb7
    go_wp2
    go_ret
    exact ⟨by first | rfl | simp, HB7.out⟩
  · have d1 : 1500 < (s.size : Int) := by omega
    go_enter Tryd.func4, Tryd.ntmps4
    go_wp2
    go_ret
    exact ⟨rfl, Below.refl _ _⟩
end Go.Proofs.YtjhmlmcibpjagaaDoor
