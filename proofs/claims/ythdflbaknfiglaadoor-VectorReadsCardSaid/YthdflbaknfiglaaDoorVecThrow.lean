/-
  What the document's functions throw, and catch; a scanner's next number.
-/
import Derived.Test.YthdflbaknfiglaaDoorProg
import Derived.Test.YthdflbaknfiglaaDoorVecRef
import Derived.Test.YthdflbaknfiglaaDoorRefInt
import Derived.Test.YthdflbaknfiglaaDoorVecReadAs
import Derived.RegionTactic
import Derived.WalkSpells
import Derived.WalkKit
import Derived.Handy
import Derived.KernelRfl
import Derived.Below
import Derived.Defers
import Derived.Recover
import Derived.WalkLawsBesides
import Derived.Lib.Hide
import Derived.Outline
namespace Go.Proofs.YthdflbaknfiglaaDoor
open Go.RowKit

set_option maxRecDepth 100000 in
theorem throw_any (e pl : Int) (w : World) : Calls Tryd.prog 58 #[.int .i64 e, .int .i64 pl] w fun r w' => r = .panicked [{ v := .iface 102 (.agg #[.int .i64 e, .int .i64 pl]), recovered := false }] ∧ w' = w := by
  go_enter Tryd.func58, Tryd.ntmps58
  go_wp2
  exact ⟨rfl, rfl, rfl⟩
set_option maxRecDepth 100000 in
theorem isThrown (v : Value) (xT : TypeId) (w : World) : (Instr.typeAssert (.iface 102 v) xT 102 true).run Tryd.prog w = .ok (.tuple #[v, .bool true]) w := by
  simp [Instr.typeAssert, run_underlying Tryd.underlying102]
set_option maxRecDepth 100000 in
theorem caught_pan (F : Nat) (e pl x y : Int) (older : List PanicEntry) (w : World) (hF : F < w.heap.size) (h0 : w.cell? ⟨F, 0, none⟩ = some (.int .i64 x)) (h1 : w.cell? ⟨F, 1, none⟩ = some (.int .i64 y)) (z0 : w.frozen? ⟨F, 0, none⟩ = false) (z1 : w.frozen? ⟨F, 1, none⟩ = false) :
    CallsD Tryd.prog 49 #[.pointer (some ⟨F, 0, none⟩)] (.panicking ({ v := .iface 102 (.agg #[.int .i64 e, .int .i64 pl]), recovered := false } :: older)) w fun r u' w' =>
      r = .returned (.tuple #[]) ∧ u' = .panicking ({ v := .iface 102 (.agg #[.int .i64 e, .int .i64 pl]), recovered := true } :: older) ∧ w' = ((w.setCell ⟨F, 0, none⟩ (.int .i64 e)).setCell ⟨F, 1, none⟩ (.int .i64 pl)).alloc (.cells #[.int .i64 e, .int .i64 pl] 102) := by
  have iT := isThrown
  refine callsD_of_wpS Tryd.func49 rfl fun c₀ cs hu => ?_
  apply wpS_seq
  apply wpS_region
  simp [wpOpsS, go_sem, recoverD, hu, Tryd.ntmps49, Exit.thenS]
  refine wpS_of_wp ?_
  rw [show (#[.pointer (some ⟨F, 0, none⟩)] ++ ((Array.replicate 19 undef).setIfInBounds 4 (.iface 102 (.agg #[.int .i64 e, .int .i64 pl]))).setIfInBounds 1 (.iface 102 (.agg #[.int .i64 e, .int .i64 pl])) : Array Value) = #[.pointer (some ⟨F, 0, none⟩), undef, .iface 102 (.agg #[.int .i64 e, .int .i64 pl]), undef, undef, .iface 102 (.agg #[.int .i64 e, .int .i64 pl]), undef, undef, undef, undef, undef, undef, undef, undef, undef, undef, undef, undef, undef, undef] by kernel_rfl]
  go_wp2
  simp [bodyPostS, results, Tryd.results49]
set_option maxRecDepth 100000 in
theorem caught_idle (p : Value) (w : World) :
    CallsD Tryd.prog 49 #[p] .returning w fun r u' w' => r = .returned (.tuple #[]) ∧ u' = .returning ∧ w' = w := by
  refine callsD_of_wpS Tryd.func49 rfl fun c₀ cs hu => ?_
  apply wpS_seq
  apply wpS_region
  simp [wpOpsS, go_sem, recoverD, hu, Tryd.ntmps49, Exit.thenS]
  refine wpS_of_wp ?_
  rw [show (#[p] ++ ((Array.replicate 19 undef).setIfInBounds 4 .nilIface).setIfInBounds 1 .nilIface : Array Value) = #[p, undef, .nilIface, undef, undef, .nilIface, undef, undef, undef, undef, undef, undef, undef, undef, undef, undef, undef, undef, undef, undef] by kernel_rfl]
  go_wp2
  cases c₀
  simp_all [bodyPostS, results, Tryd.results49]


/-- A scanner in memory: its text, and where it stands. -/
def Sc (w : World) (S : Nat) (s : ByteArray) (a : Nat) : Prop := w.heap[S]? = some (.cells #[.string s, .int .i64 (a : Int)] 86 (0, 0))
theorem Sc.cells {w : World} {S : Nat} {s : ByteArray} {a : Nat} (h : Sc w S s a) : w.cell? ⟨S, 0, none⟩ = some (.string s) ∧ w.cell? ⟨S, 1, none⟩ = some (.int .i64 (a : Int)) ∧ w.frozen? ⟨S, 1, none⟩ = false ∧ S < w.heap.size := by
  refine ⟨cell_of_row _ _ 0 _ _ (0, 0) h, cell_of_row _ _ 1 _ _ (0, 0) h, Lib.frozen_of_heap h 1, ?_⟩
  exact (Array.getElem?_eq_some_iff.1 h).1
theorem Sc.kept {w w' : World} {S : Nat} {s : ByteArray} {a : Nat} {row : Option Nat} (h : Sc w S s a) (hg : w.grownBy w' row) (hne : row ≠ some S) : Sc w' S s a := (hg.block S h.cells.2.2.2 (fun e => hne e.symm)).trans h
theorem Sc.moved {w : World} {S : Nat} {s : ByteArray} {a b : Nat} (h : Sc w S s a) : Sc (w.setCell ⟨S, 1, none⟩ (.int .i64 (b : Int))) S s b := by
  unfold Sc at h ⊢
  simp [World.setCell, Array.getElem?_modify, h]
theorem grown_drewN (w : World) (n : Nat) (row : Option Nat) : w.grownBy (w.drewN n) row := ⟨rfl, rfl, rfl, Nat.le_refl _, fun _ _ _ => rfl⟩
theorem grown_setS {w w1 : World} {S : Nat} (h : w.grownBy w1 (some S)) (v : Value) : w.grownBy (w1.setCell ⟨S, 1, none⟩ v) (some S) :=
  ⟨h.os, h.tape, h.output, by simpa using h.size, fun k hk hne => by
    have hk2 : S ≠ k := fun e => hne (by rw [e])
    simp only [World.setCell, Array.getElem?_modify, if_neg hk2]
    exact h.block k hk hne⟩
theorem rint_q (s : ByteArray) (most : Int) (V : Value) (w : World) (m : Nat) (hs : s.size ≤ maxLen) (h0 : -9223372036854775808 ≤ most) (h1 : most ≤ 9223372036854775807) (hV : intR (intL s.data.toList most) = V) :
    Calls Tryd.prog 65 #[.string s, .int .i64 most] (w.drewN m) fun r w' => r = .returned V ∧ ∃ q, w' = w.drewN q :=
  (rint_any s most (w.drewN m) hs h0 h1).mono fun _ _ ⟨h2, h3⟩ => ⟨by rw [h2, hV], m, h3.symm⟩

set_option maxRecDepth 100000 in
theorem next_ok (S : Nat) (s : ByteArray) (a n k : Nat) (most : Int) (w : World) (h : Sc w S s a) (hs : s.size ≤ 1000000) (ha : a ≤ s.size) (hm0 : 0 ≤ most) (hm : most ≤ 1099511627776) (hg : intL (s.data.toList.drop a) most = (n, k, 0)) (hk : k ≤ 10) :
    Calls Tryd.prog 57 #[.pointer (some ⟨S, 0, none⟩), .int .i64 most] w fun e w' => e = .returned (.int .i64 (n : Int)) ∧ Sc w' S s (a + k) ∧ w.grownBy w' (some S) := by
  obtain ⟨c0, c1, z1, hS⟩ := h.cells
  have H := Lib.hid h
  have HM : Hid ((s.extract a s.size).size ≤ maxLen) := Lib.hid (show (s.extract a s.size).size ≤ maxLen by rw [ByteArray.size_extract]; unfold maxLen; omega)
  have HGL : Hid (intR (intL (s.extract a s.size).data.toList most) = .tuple #[.int .i64 (n : Int), .int .i64 (k : Int), .int .i64 0]) := Lib.hid (show intR (intL (s.extract a s.size).data.toList most) = .tuple #[.int .i64 (n : Int), .int .i64 (k : Int), .int .i64 0] by rw [ext_dropV, hg]; rfl)
  have d3 : (0 : Int) ≤ (a : Int) := by omega
  have d4 : (a : Int) ≤ (s.size : Int) := by omega
  have kw : IntKind.i64.wrap ((a : Int) + (k : Int)) = (a : Int) + (k : Int) := IntWalk.i64_in _ (by omega)
  clear h hg
  go_enter Tryd.func57, Tryd.ntmps57
  go_wp2
  go_quiet ((go_at_call 65; with_reducible exact rint_q (s.extract a s.size) most _ _ _ HM.out (by omega) (by omega) HGL.out))
  go_wp2
  go_ret
  have e : (a : Int) + (k : Int) = ((a + k : Nat) : Int) := by simp
  rw [e]
  refine ⟨rfl, Sc.moved (H.out.kept (grown_drewN w _ none) (by simp)), ?_⟩
  exact grown_setS (grown_drewN w _ _) _

set_option maxRecDepth 100000 in
theorem next_bad (S : Nat) (s : ByteArray) (a x : Nat) (most : Int) (w : World) (h : Sc w S s a) (hs : s.size ≤ 1000000) (ha : a ≤ s.size) (hm0 : 0 ≤ most) (hm : most ≤ 1099511627776) (hg : intL (s.data.toList.drop a) most = (0, 0, x)) (hx : x ≠ 0) :
    Calls Tryd.prog 57 #[.pointer (some ⟨S, 0, none⟩), .int .i64 most] w fun e w' => e = .panicked [{ v := .iface 102 (.agg #[.int .i64 (x : Int), .int .i64 (a : Int)]), recovered := false }] ∧ w.grownBy w' (some S) := by
  obtain ⟨c0, c1, z1, hS⟩ := h.cells
  have H := Lib.hid h
  have HM : Hid ((s.extract a s.size).size ≤ maxLen) := Lib.hid (show (s.extract a s.size).size ≤ maxLen by rw [ByteArray.size_extract]; unfold maxLen; omega)
  have HGL : Hid (intR (intL (s.extract a s.size).data.toList most) = .tuple #[.int .i64 0, .int .i64 0, .int .i64 (x : Int)]) := Lib.hid (show intR (intL (s.extract a s.size).data.toList most) = .tuple #[.int .i64 0, .int .i64 0, .int .i64 (x : Int)] by rw [ext_dropV, hg]; rfl)
  have d3 : (0 : Int) ≤ (a : Int) := by omega
  have d4 : (a : Int) ≤ (s.size : Int) := by omega
  have hne : ((x : Int) != 0) = true := by simp; omega
  clear h hg hx
  go_enter Tryd.func57, Tryd.ntmps57
  go_wp2
  go_quiet ((go_at_call 65; with_reducible exact rint_q (s.extract a s.size) most _ _ _ HM.out (by omega) (by omega) HGL.out))
  go_wp2_with fail
  refine (throw_any x (a : Int) _).mono ?_
  rintro r w' ⟨rfl, rfl⟩
  first
    | exact ⟨rfl, rfl, grown_drewN w _ _⟩
    | (show bodyPost _ _ _ _ _ _; exact ⟨rfl, rfl, grown_drewN w _ _⟩)
    | exact (show (_ ∧ _ ∧ _) from ⟨rfl, rfl, grown_drewN w _ _⟩)
    | (refine And.intro rfl (And.intro rfl ?_); exact grown_drewN w _ _)
    | (refine And.intro rfl ?_; exact grown_drewN w _ _)
/-- What is kept goes on being kept: by what changes the scanner, or what was made later. -/
theorem grown_on {w w1 w2 : World} {S : Nat} {row : Option Nat} (h : w.grownBy w1 (some S)) (h2 : w1.grownBy w2 row) (hr : ∀ k, row = some k → k = S ∨ w.heap.size ≤ k) : w.grownBy w2 (some S) := by
  refine ⟨h2.os.trans h.os, h2.tape.trans h.tape, h2.output.trans h.output, Nat.le_trans h.size h2.size, fun k hk hne => ?_⟩
  rw [h2.block k (Nat.lt_of_lt_of_le hk h.size) (fun e => by
    rcases hr k e.symm with rfl | h
    · exact hne rfl
    · omega)]
  exact h.block k hk hne
end Go.Proofs.YthdflbaknfiglaaDoor
