import Derived.Test.YtkafhlpnhgipeaaGreatDoorPk02
import Derived.RegionTactic
import Derived.WalkKit
import Derived.Test.YtkafhlpnhgipeaaGreatDoorRows
import Derived.Handy
import Derived.Lib.Hide
import Derived.Lib.Strings
import Derived.Laws.BitsAllLaws
import Derived.Deep.Slices
import Derived.Test.YtkafhlpnhgipeaaGreatDoorProg
import Derived.KernelRfl
import Derived.Deep.Fields
import Derived.ChangeSame
import Derived.SizedLaws
import Derived.Below
import Derived.ProofKit
import Derived.OpenShut
/-
  A strings.Builder that is the one field of a body.writer: what WriteString, WriteByte, Len and String do to it.
-/
namespace Go.Proofs.YtkafhlpnhgipeaaGreatDoor
open Go.RowKit

theorem bldLiesW : liesAt Tryz.prog Tryz.prog.depth 111 (2 / Tryz.prog.cellsOf 111) 0 109 1 = true := by kernel_rfl
/-- A writer in block b of the call's own (from B on) that holds the bytes l. -/
def isBldW (w : World) (B b : Nat) (l : List UInt8) : Prop := Lib.IsBuilder 111 5 B b (Lib.byteCells l) w

theorem wbld_new (w : World) (B : Nat) (h : B ≤ w.heap.size) : isBldW (w.alloc (.cells #[.pointer none, .slice none 0 0] 111)) B w.heap.size [] :=
  .inl ⟨h, .slice none 0 0, heap_alloc_new w _, World.ownsRow_nil _ _ _ _, by simp [Value.ownBlock]⟩
theorem isBldW.below {w w' : World} {B b : Nat} {l : List UInt8} (h : isBldW w B b l) (hb : Below w.heap.size w w') : isBldW w' B b l := by
  have hone : ∀ {p : Value}, Lib.BuilderAt 111 5 B b p (Lib.byteCells l) w → Lib.BuilderAt 111 5 B b p (Lib.byteCells l) w' := by
    intro p h
    have hlt := h.lt
    obtain ⟨hB, v, hbk, hown, hne⟩ := h
    refine ⟨hB, v, (hb.block b hlt).trans hbk, ?_, hne⟩
    refine World.ownsRow.kept hown (row := none) ⟨hb.os, hb.tape, hb.output, hb.size, fun k hk _ => hb.block k hk⟩ ?_
    cases hv : v.ownBlock with
    | none => exact .inl rfl
    | some g => exact .inr (by simp)
  rcases h with h | h
  · exact .inl (hone h)
  · exact .inr (hone h)
theorem isBldW.lt {w : World} {B b : Nat} {l : List UInt8} (h : isBldW w B b l) : B ≤ b ∧ b < w.heap.size := by
  rcases h with h | h
  · exact ⟨h.1, h.lt⟩
  · exact ⟨h.1, h.lt⟩
theorem isBldW.alloc {w : World} {B b : Nat} {l : List UInt8} (h : isBldW w B b l) (o : Obj) : isBldW (w.alloc o) B b l := h.below ((Below.refl _ _).alloc (Nat.le_refl _) _)


set_option maxRecDepth 100000 in
set_option maxHeartbeats 1000000 in
theorem wcopy_fresh (b : Nat) (w : World) (h0 : w.cell? ⟨b, 0, none⟩ = some (.pointer none)) (hsh : w.shape? b = some (111, 2)) (hfz : w.frozen? ⟨b, 0, none⟩ = false) :
    Calls Tryz.prog 90 #[.pointer (some ⟨b, 0, none⟩)] w fun e w' => e = .returned (.tuple #[]) ∧ w' = w.setCell ⟨b, 0, none⟩ (.pointer (some ⟨b, 0, none⟩)) := by
  obtain ⟨j, hj, hjs⟩ := Option.map_eq_some_iff.1 bldSize
  go_enter Tryz.func90, Tryz.ntmps90
  go_wp2
  rw [Lib.run_to_unsafe w ⟨b, 0, none⟩ Tryz.underlying107 Tryz.underlying185 hj (by rw [hjs]; decide) hsh (Nat.zero_lt_succ 1)]
  simp only [Result.andThen]
  rw [Oper.upon_value]
  go_wp2
  rw [run_callFunc_extern Tryz.func117 (by kernel_rfl) (by kernel_rfl) (by kernel_rfl) (e := Extern.AbiNoEscape.same) (by kernel_rfl)]
  rw [Lib.run_noEscape]
  simp only [Result.andThen]
  rw [Oper.upon_value]
  go_wp2
  rw [Lib.run_from_unsafe w ⟨b, 0, none⟩ Tryz.underlying185 Tryz.underlying107 hj hsh bldLiesW]
  simp only [Result.andThen]
  rw [Oper.upon_value]
  go_wp2
  go_end0
  exact ⟨rfl, rfl⟩
theorem wcopy_any (B b : Nat) (l : List UInt8) (w : World) (h : isBldW w B b l) :
    Calls Tryz.prog 90 #[.pointer (some ⟨b, 0, none⟩)] w fun e w' => e = .returned (.tuple #[]) ∧ Lib.BuilderAt 111 5 B b (.pointer (some ⟨b, 0, none⟩)) (Lib.byteCells l) w' ∧ Below B w w' ∧ NonB b w w' ∧ w'.heap.size = w.heap.size := by
  rcases h with h | h
  · refine (wcopy_fresh b w h.cell0 h.shape h.frozen0).mono ?_
    rintro e w' ⟨rfl, rfl⟩
    exact ⟨rfl, h.used _, (Below.refl B w).setCell (p := ⟨b, 0, none⟩) h.1 _, fun k _ hk _ => heap_setCell_other _ _ _ _ (fun e => hk e), by simp⟩
  · refine (copy_used b w h.cell0).mono ?_
    rintro e w' ⟨rfl, rfl⟩
    exact ⟨rfl, h, Below.refl B _, fun k _ _ _ => rfl, rfl⟩

set_option maxRecDepth 100000 in
set_option maxHeartbeats 2000000 in
theorem wbld_write (B b : Nat) (l : List UInt8) (s : ByteArray) (w : World) (h : isBldW w B b l) (hlen : l.length + s.size ≤ 140737488355328) (hBw : B ≤ w.heap.size) :
    Calls Tryz.prog 83 #[.pointer (some ⟨b, 0, none⟩), .string s] w fun e w' => e = .returned (.tuple #[.int .i64 s.size, .nilIface]) ∧ isBldW w' B b (l ++ s.data.toList) ∧ Below B w w' ∧ NonB b w w' := by
  obtain ⟨i0, hi, hz0, hz1, hz2⟩ := info_parts info_u8
  have hbl : (Lib.byteCells l).length = l.length := by simp [Lib.byteCells]
  go_enter Tryz.func83, Tryz.ntmps83
  go_wp2_with fail
  refine (wcopy_any B b l _ h).mono ?_
  rintro e w1 ⟨rfl, h1, hb1, hn1, hs1⟩
  have HN1 := Lib.hid hn1
  have HS1 := Lib.hid hs1
  obtain ⟨hB, v, hbk, hown, hne⟩ := h1
  have c0 : w1.cell? ⟨b, 0, none⟩ = some (.pointer (some ⟨b, 0, none⟩)) := by rw [Lib.cell_of_heap hbk]; rfl
  have c1 : w1.cell? ⟨b, 1, none⟩ = some v := by rw [Lib.cell_of_heap hbk]; rfl
  clear hn1 hs1
  go_wp2_with (at_builtin; refine Lib.wpList_append_own_string _ rfl _ _ 63 9 rfl B 5 i0 Tryz.underlying63 Tryz.underlying9 hi hz0 hz1 hz2 _ _ _ rfl hown s rfl ?c3 ?c4 ?c5 ?_)
  case c3 => rw [hbl]; unfold maxLen; omega
  case c4 => rw [hbl]; omega
  case c5 => have := hb1.size; omega
  intro v' w2 hown' hgrow _
  have hlt : b < w1.heap.size := by
    rcases Nat.lt_or_ge b w1.heap.size with h' | h'
    · exact h'
    · simp [Array.getElem?_eq_none h'] at hbk
  have hb2 : w2.heap[b]? = some (.cells #[.pointer (some ⟨b, 0, none⟩), v] 111 (0, 0)) := by
    rw [hgrow.block b hlt (fun e => hne e.symm)]
    exact hbk
  have d0 : w2.cell? ⟨b, 0, none⟩ = some (.pointer (some ⟨b, 0, none⟩)) := by rw [Lib.cell_of_heap hb2]; rfl
  have d1 : w2.cell? ⟨b, 1, none⟩ = some v := by rw [Lib.cell_of_heap hb2]; rfl
  have f1 : w2.frozen? ⟨b, 1, none⟩ = false := Lib.frozen_of_heap hb2 1
  obtain ⟨ao, n', cap, rfl⟩ : ∃ ao n' cap, v' = .slice ao n' cap := by
    rcases hown'.2 with ⟨hv, _⟩ | ⟨g, cap, cur, hv, _⟩
    · exact ⟨_, _, _, hv⟩
    · exact ⟨_, _, _, hv⟩
  have HO : Hid (w2.ownsRow B 5 1 (.slice ao n' cap) (Lib.byteCells (l ++ s.data.toList)).length (Lib.byteCells (l ++ s.data.toList))) := by
    have h : w2.ownsRow B 5 1 (.slice ao n' cap) (Lib.byteCells (l ++ s.data.toList)).length (Lib.byteCells (l ++ s.data.toList)) := by
      have e : Lib.byteCells (l ++ s.data.toList) = Lib.byteCells l ++ Lib.strCells s := by simp [Lib.byteCells, Lib.strCells]
      rw [e, List.length_append, Lib.strCells_length, hbl]
      exact hown'
    exact h
  have HNB : Hid (NonB b w1 w2) := Lib.hid (show NonB b w1 w2 from fun k hk hkb hu => hgrow.block k hk (fun e => by
    rcases hown.2 with ⟨hv, _⟩ | ⟨g, cap', cur, hv, _, hh, _⟩
    · rw [hv] at e; cases e
    · rw [hv] at e
      have : k = g := by simpa [Value.ownBlock] using e
      subst this
      exact hu _ _ hh))
  have HSZ : Hid (w1.heap.size ≤ w2.heap.size) := Lib.hid hgrow.size
  clear hown'
  go_wp2
  go_ret2
  refine ⟨rfl, .inr ?_, ?_, ?_⟩
  · exact Lib.BuilderAt.put (T := 111) (e := 5) hB hb2 HO.out (by decide)
  · exact (hb1.grown hgrow (by have := hb1.size; omega) (fun k hk => (hown.lt k hk).1)).setCell (p := ⟨b, 1, none⟩) hB _
  · refine ((HN1.out.trans HNB.out (by rw [HS1.out]; exact Nat.le_refl _)).trans (fun k _ hk _ => heap_setCell_other _ _ _ _ (fun e => hk e)) ?_)
    rw [← HS1.out]; exact HSZ.out

set_option maxRecDepth 100000 in
set_option maxHeartbeats 2000000 in
theorem wbld_byte (B b : Nat) (l : List UInt8) (c : UInt8) (w : World) (h : isBldW w B b l) (hlen : l.length + 1 ≤ 140737488355328) (hBw : B ≤ w.heap.size) :
    Calls Tryz.prog 58 #[.pointer (some ⟨b, 0, none⟩), .int .u8 (c.toNat : Int)] w fun e w' => e = .returned .nilIface ∧ isBldW w' B b (l ++ [c]) ∧ Below B w w' ∧ NonB b w w' := by
  obtain ⟨i0, hi, hz0, hz1, hz2⟩ := info_parts info_u8
  have hbl : (Lib.byteCells l).length = l.length := by simp [Lib.byteCells]
  go_enter Tryz.func58, Tryz.ntmps58
  go_wp2_with fail
  refine (wcopy_any B b l _ h).mono ?_
  rintro e w1 ⟨rfl, h1, hb1, hn1, hs1⟩
  have HN1 := Lib.hid hn1
  have HS1 := Lib.hid hs1
  obtain ⟨hB, v, hbk, hown, hne⟩ := h1
  have c0 : w1.cell? ⟨b, 0, none⟩ = some (.pointer (some ⟨b, 0, none⟩)) := by rw [Lib.cell_of_heap hbk]; rfl
  have c1 : w1.cell? ⟨b, 1, none⟩ = some v := by rw [Lib.cell_of_heap hbk]; rfl
  clear hn1 hs1
  have hownB : ownsB w1 B v l := by have h := hown; rw [hbl] at h; exact h
  go_wp2_with (at_builtin; refine wpList_append_byte rfl _ _ rfl B v l rfl (hownB.alloc _) ⟨w1.heap.size, 0, none⟩ 1 rfl (c.toNat : Int) c ?c3 rfl ?c4 ?c5 ?_)
  case c3 => simp [Addr.add]
  case c4 => omega
  case c5 => have := hb1.size; simp; omega
  intro v' w2 hown' hgrow0 _
  have hgrow : w1.grownBy w2 v.ownBlock := ⟨hgrow0.os, hgrow0.tape, hgrow0.output, Nat.le_trans (by simp) hgrow0.size, fun k hk hne => (hgrow0.block k (by simp; omega) hne).trans (Below.heap_alloc _ _ _ hk)⟩
  have hlt : b < w1.heap.size := by
    rcases Nat.lt_or_ge b w1.heap.size with h' | h'
    · exact h'
    · simp [Array.getElem?_eq_none h'] at hbk
  have hb2 : w2.heap[b]? = some (.cells #[.pointer (some ⟨b, 0, none⟩), v] 111 (0, 0)) := by
    rw [hgrow.block b hlt (fun e => hne e.symm)]
    exact hbk
  have d0 : w2.cell? ⟨b, 0, none⟩ = some (.pointer (some ⟨b, 0, none⟩)) := by rw [Lib.cell_of_heap hb2]; rfl
  have d1 : w2.cell? ⟨b, 1, none⟩ = some v := by rw [Lib.cell_of_heap hb2]; rfl
  have f1 : w2.frozen? ⟨b, 1, none⟩ = false := Lib.frozen_of_heap hb2 1
  obtain ⟨ao, n', cap, rfl⟩ : ∃ ao n' cap, v' = .slice ao n' cap := by
    rcases hown'.2 with ⟨hv, _⟩ | ⟨g, cap, cur, hv, _⟩
    · exact ⟨_, _, _, hv⟩
    · exact ⟨_, _, _, hv⟩
  have HO : Hid (w2.ownsRow B 5 1 (.slice ao n' cap) (Lib.byteCells (l ++ [c])).length (Lib.byteCells (l ++ [c]))) := by
    have h : w2.ownsRow B 5 1 (.slice ao n' cap) (Lib.byteCells (l ++ [c])).length (Lib.byteCells (l ++ [c])) := by
      have e : (Lib.byteCells (l ++ [c])).length = (l ++ [c]).length := by simp [Lib.byteCells]
      rw [e]
      exact hown'
    exact h
  have HNB : Hid (NonB b w1 w2) := Lib.hid (show NonB b w1 w2 from fun k hk hkb hu => hgrow.block k hk (fun e => by
    rcases hown.2 with ⟨hv, _⟩ | ⟨g, cap', cur, hv, _, hh, _⟩
    · rw [hv] at e; cases e
    · rw [hv] at e
      have : k = g := by simpa [Value.ownBlock] using e
      subst this
      exact hu _ _ hh))
  have HSZ : Hid (w1.heap.size ≤ w2.heap.size) := Lib.hid hgrow.size
  clear hown' hownB
  go_wp2
  go_ret
  refine ⟨rfl, .inr ?_, ?_, ?_⟩
  · exact Lib.BuilderAt.put (T := 111) (e := 5) hB hb2 HO.out (by decide)
  · exact (hb1.grown hgrow (by have := hb1.size; omega) (fun k hk => (hown.lt k hk).1)).setCell (p := ⟨b, 1, none⟩) hB _
  · refine ((HN1.out.trans HNB.out (by rw [HS1.out]; exact Nat.le_refl _)).trans (fun k _ hk _ => heap_setCell_other _ _ _ _ (fun e => hk e)) ?_)
    rw [← HS1.out]; exact HSZ.out


set_option maxRecDepth 100000 in
theorem wbld_len (B b : Nat) (l : List UInt8) (w : World) (h : isBldW w B b l) :
    Calls Tryz.prog 61 #[.pointer (some ⟨b, 0, none⟩)] w fun e w' => e = .returned (.int .i64 (l.length : Int)) ∧ w = w' := by
  have hbl : (Lib.byteCells l).length = l.length := by simp [Lib.byteCells]
  obtain ⟨p, hB, v, hbk, hown, hne⟩ : ∃ p, Lib.BuilderAt 111 5 B b p (Lib.byteCells l) w := by
    rcases h with h | h
    · exact ⟨_, h⟩
    · exact ⟨_, h⟩
  have c1 : w.cell? ⟨b, 1, none⟩ = some v := by rw [Lib.cell_of_heap hbk]; rfl
  obtain ⟨a, cp, rfl⟩ : ∃ a cp, v = .slice a l.length cp := by
    rcases hown.2 with ⟨hv, h0⟩ | ⟨g, cap, cur, hv, _⟩
    · exact ⟨none, 0, by rw [hv]; rw [hbl] at h0; rw [h0]⟩
    · exact ⟨_, _, by rw [hv, hbl]⟩
  generalize l.length = n at c1 ⊢
  clear hown hbk hne hbl h
  go_enter Tryz.func61, Tryz.ntmps61
  go_wp2
  go_ret
  exact ⟨rfl, rfl⟩

set_option maxRecDepth 100000 in
set_option maxHeartbeats 2000000 in
theorem wbld_string (B b : Nat) (l : List UInt8) (w : World) (h : isBldW w B b l) (h0 : l ≠ []) :
    Calls Tryz.prog 62 #[.pointer (some ⟨b, 0, none⟩)] w fun e w' => e = .returned (.string ⟨l.toArray⟩) ∧ Below B w w' := by
  have hbl : (Lib.byteCells l).length = l.length := by simp [Lib.byteCells]
  obtain ⟨p, hB, v, hbk, hown, hne⟩ : ∃ p, Lib.BuilderAt 111 5 B b p (Lib.byteCells l) w := by
    rcases h with h | h
    · exact ⟨_, h⟩
    · exact ⟨_, h⟩
  rw [hbl] at hown
  have hpos : 0 < l.length := List.length_pos_iff.2 h0
  obtain ⟨g, cap, cur, hv, hbg, hg, hcl, hcm, hcs⟩ : ∃ g cap cur, v = .slice (some ⟨g, 0, none⟩) l.length cap ∧ B ≤ g ∧ w.heap[g]? = some (.cells cur 5 (0, 0)) ∧ l.length ≤ cap ∧ cap ≤ maxLen ∧ cur.size = cap * 1 := by
    rcases hown.2 with ⟨hv, hn⟩ | ⟨g, cap, cur, hv, hb, hh, hc, hm, hs, _⟩
    · exact absurd hn (by omega)
    · exact ⟨g, cap, cur, hv, hb, hh, hc, hm, hs⟩
  subst hv
  have c1 : w.drew.cell? ⟨b, 1, none⟩ = some (.slice (some ⟨g, 0, none⟩) l.length cap) := by
    have : w.drew.heap[b]? = some (.cells #[p, .slice (some ⟨g, 0, none⟩) l.length cap] 111 (0, 0)) := hbk
    rw [Lib.cell_of_heap this]; rfl
  have hSD : (Builtin.unsafeSliceData_ #[63] 165 #[.slice (some ⟨g, 0, none⟩) l.length cap]).run Tryz.prog w.drew = .ok (.pointer (some ⟨g, 0, none⟩)) w.drew :=
    Lib.run_unsafeSliceData_row _ _ _ _ _ _ (by omega)
  have hUS : (Builtin.unsafeString_ #[165, 3] 9 #[.pointer (some ⟨g, 0, none⟩), .int .i64 l.length]).run Tryz.prog w.drew = .ok (.string ⟨l.toArray⟩) (w.drew.freeze ⟨g, 0, none⟩ l.length) := by
    refine Lib.run_unsafeString_row w.drew 165 3 9 5 Tryz.underlying165 (by kernel_rfl) g cur.size (by have hg' : w.drew.heap[g]? = some (.cells cur 5 (0, 0)) := hg; simp [World.shape?, hg']) l h0 (by omega) (by unfold maxLen at hcm; omega) ?_
    intro j x hx
    have := hown.cells (g := g) rfl j (.int .u8 x.toNat) (by simp [Lib.byteCells, hx])
    exact this
  clear hown hcl hcm hpos hcs
  go_enter Tryz.func62, Tryz.ntmps62
  go_wp2
  go_region
  all_goals (go_wp2; go_ret; exact ⟨rfl, Lib.below_freeze (Below.drew (Below.refl B w)) (p := ⟨g, 0, none⟩) hbg _⟩)

end Go.Proofs.YtkafhlpnhgipeaaGreatDoor
/-
  Plain mathematics of chapter 1: how a number is written in sevens of bits ('putL'), and what a text begins with ('getL'). No Go text is named here.
-/
namespace Go.Proofs.YtkafhlpnhgipeaaGreatDoor

/-- A number's bytes: seven bits each, the lowest first. -/
def putL (n : Nat) : List UInt8 := if n < 128 then [UInt8.ofNat n] else UInt8.ofNat (n % 128 + 128) :: putL (n / 128)
termination_by n
decreasing_by omega

/-- What bytes come to. -/
def valL : List UInt8 → Nat
  | [] => 0
  | c :: r => c.toNat % 128 + 128 * valL r

/-- Where a number's bytes end, from place i on: an error's number, or how many bytes there are. -/
def scan : Nat → List UInt8 → Nat ⊕ Nat
  | _, [] => .inl 7
  | i, c :: r => if i = 9 ∧ 1 < c.toNat then .inl 4 else if 0 < i ∧ c.toNat = 0 then .inl 3 else if c.toNat < 128 then .inr (i + 1) else scan (i + 1) r

/-- What a text begins with: a number, how many bytes it has, an error's number (0: none). -/
def getL (l : List UInt8) : Nat × Nat × Nat := match scan 0 l with
  | .inl e => (0, 0, e)
  | .inr k => (valL (l.take k), k, 0)

theorem putL_small {n : Nat} (h : n < 128) : putL n = [UInt8.ofNat n] := by rw [putL, if_pos h]
theorem putL_big {n : Nat} (h : ¬ n < 128) : putL n = UInt8.ofNat (n % 128 + 128) :: putL (n / 128) := by rw [putL, if_neg h]
theorem putL_pos (n : Nat) : 0 < (putL n).length := by
  by_cases h : n < 128
  · rw [putL_small h]; simp
  · rw [putL_big h]; simp

theorem toNat_ofNat_lt {n : Nat} (h : n < 256) : (UInt8.ofNat n).toNat = n := by simp; omega
theorem ofNat_toNat (c : UInt8) : UInt8.ofNat c.toNat = c := by simp

theorem valL_putL (n : Nat) : valL (putL n) = n := by
  induction n using Nat.strongRecOn with
  | ind n ih =>
    by_cases h : n < 128
    · rw [putL_small h, valL, valL, toNat_ofNat_lt (by omega)]; omega
    · rw [putL_big h, valL, toNat_ofNat_lt (by omega), ih (n / 128) (by omega)]; omega

theorem putL_len (j : Nat) : ∀ n, n < 128 ^ j → 0 < j → (putL n).length ≤ j := by
  induction j with
  | zero => intro n _ h; omega
  | succ j ih =>
    intro n hn _
    by_cases h : n < 128
    · rw [putL_small h]; simp
    · rw [putL_big h, List.length_cons]
      have hj : 0 < j := by
        rcases Nat.eq_zero_or_pos j with rfl | h'
        · simp at hn; omega
        · exact h'
      have h2 : n / 128 < 128 ^ j := by
        rw [Nat.pow_succ] at hn
        exact Nat.div_lt_of_lt_mul (by rw [Nat.mul_comm]; exact hn)
      have := ih (n / 128) h2 hj
      omega

theorem putL_le10 {n : Nat} (h : n < 18446744073709551616) : (putL n).length ≤ 10 :=
  putL_len 10 n (Nat.lt_of_lt_of_le h (by decide)) (by decide)

theorem pow9 : 128 ^ 9 = 9223372036854775808 := by decide

/-- What is written is read. -/
theorem scan_put (more : List UInt8) (m : Nat) : ∀ i, m * 128 ^ i < 18446744073709551616 → (0 < i → 0 < m) → i ≤ 9 → scan i (putL m ++ more) = .inr (i + (putL m).length) := by
  induction m using Nat.strongRecOn with
  | ind m ih =>
    intro i hm hi h9
    by_cases h : m < 128
    · rw [putL_small h, List.cons_append, List.nil_append, scan, toNat_ofNat_lt (by omega)]
      have n1 : ¬ (i = 9 ∧ 1 < m) := by
        rintro ⟨rfl, h1⟩
        rw [pow9] at hm; omega
      rw [if_neg n1, if_neg (by omega), if_pos h]; rfl
    · rw [putL_big h, List.cons_append, scan, toNat_ofNat_lt (by omega)]
      have n9 : i ≠ 9 := by rintro rfl; rw [pow9] at hm; omega
      rw [if_neg (by omega), if_neg (by omega), if_neg (by omega)]
      have hm2 : m / 128 * 128 ^ (i + 1) < 18446744073709551616 := by
        rw [Nat.pow_succ, Nat.mul_comm (128 ^ i), ← Nat.mul_assoc]
        exact Nat.lt_of_le_of_lt (Nat.mul_le_mul_right _ (Nat.div_mul_le_self m 128)) hm
      rw [ih (m / 128) (by omega) (i + 1) hm2 (by omega) (by omega), List.length_cons]
      congr 1; omega

theorem getL_put (m : Nat) (more : List UInt8) (hm : m < 18446744073709551616) : getL (putL m ++ more) = (m, (putL m).length, 0) := by
  unfold getL
  rw [scan_put more m 0 (by simpa using hm) (by omega) (by omega)]
  simp [valL_putL]

/-- No beginning is one. -/
theorem scan_cut (m : Nat) : ∀ i j, m * 128 ^ i < 18446744073709551616 → (0 < i → 0 < m) → i ≤ 9 → j < (putL m).length → scan i ((putL m).take j) = .inl 7 := by
  induction m using Nat.strongRecOn with
  | ind m ih =>
    intro i j hm hi h9 hj
    cases j with
    | zero => simp [scan]
    | succ j =>
      by_cases h : m < 128
      · rw [putL_small h] at hj; simp at hj
      · rw [putL_big h] at hj ⊢
        rw [List.take_succ_cons, scan, toNat_ofNat_lt (by omega)]
        have n9 : i ≠ 9 := by rintro rfl; rw [pow9] at hm; omega
        rw [if_neg (by omega), if_neg (by omega), if_neg (by omega)]
        have hm2 : m / 128 * 128 ^ (i + 1) < 18446744073709551616 := by
          rw [Nat.pow_succ, Nat.mul_comm (128 ^ i), ← Nat.mul_assoc]
          exact Nat.lt_of_le_of_lt (Nat.mul_le_mul_right _ (Nat.div_mul_le_self m 128)) hm
        exact ih (m / 128) (by omega) (i + 1) j hm2 (by omega) (by omega) (by simpa using hj)

theorem getL_cut (m j : Nat) (hm : m < 18446744073709551616) (hj : j < (putL m).length) : getL ((putL m).take j) = (0, 0, 7) := by
  unfold getL
  rw [scan_cut m 0 j (by simpa using hm) (by omega) (by omega) hj]

/-- Just one way: what is read is written so. -/
theorem scan_only (l : List UInt8) : ∀ i k, scan i l = .inr k → ∃ j, k = i + j ∧ 1 ≤ j ∧ j ≤ l.length ∧ putL (valL (l.take j)) = l.take j ∧ (0 < i → 0 < valL (l.take j)) := by
  induction l with
  | nil => intro i k h; simp [scan] at h
  | cons c r ih =>
    intro i k h
    have hc := c.toNat_lt
    rw [scan] at h
    by_cases h1 : i = 9 ∧ 1 < c.toNat
    · rw [if_pos h1] at h; cases h
    · rw [if_neg h1] at h
      by_cases h2 : 0 < i ∧ c.toNat = 0
      · rw [if_pos h2] at h; cases h
      · rw [if_neg h2] at h
        by_cases h3 : c.toNat < 128
        · rw [if_pos h3] at h
          injection h with h
          have hv : valL [c] = c.toNat := by rw [valL, valL]; omega
          refine ⟨1, h.symm, by omega, by simp, ?_, ?_⟩
          · rw [List.take_succ_cons, List.take_zero, hv, putL_small h3, ofNat_toNat]
          · intro hi; rw [List.take_succ_cons, List.take_zero, hv]; omega
        · rw [if_neg h3] at h
          obtain ⟨j, e1, e2, e3, e4, e5⟩ := ih (i + 1) k h
          have hp := e5 (by omega)
          refine ⟨j + 1, by omega, by omega, by simp; omega, ?_, ?_⟩
          · rw [List.take_succ_cons, valL, putL_big (by omega)]
            rw [show (c.toNat % 128 + 128 * valL (List.take j r)) / 128 = valL (List.take j r) by omega, show (c.toNat % 128 + 128 * valL (List.take j r)) % 128 + 128 = c.toNat by omega, e4, ofNat_toNat]
          · intro _; rw [List.take_succ_cons, valL]; omega

theorem getL_only {l : List UInt8} {n k : Nat} (h : getL l = (n, k, 0)) : 1 ≤ k ∧ k ≤ l.length ∧ putL n = l.take k := by
  unfold getL at h
  split at h
  · rename_i e he
    simp only [Prod.mk.injEq] at h
    obtain ⟨_, _, rfl⟩ := h
    exfalso
    have : ∀ (l : List UInt8) (i : Nat), scan i l ≠ .inl 0 := by
      intro l
      induction l with
      | nil => intro i h; simp [scan] at h
      | cons c r ih =>
        intro i h
        rw [scan] at h
        split at h
        · cases h
        · split at h
          · cases h
          · split at h
            · cases h
            · exact ih _ h
    exact this _ _ he
  · rename_i k' hk
    simp only [Prod.mk.injEq] at h
    obtain ⟨rfl, rfl, _⟩ := h
    obtain ⟨j, e1, e2, e3, e4, _⟩ := scan_only l 0 k' hk
    obtain rfl : k' = j := by omega
    exact ⟨e2, e3, e4⟩

theorem scan_err (l : List UInt8) : ∀ (i e : Nat), scan i l = .inl e → e = 7 ∨ e = 4 ∨ e = 3 := by
  induction l with
  | nil => intro i e h; simp [scan] at h; omega
  | cons c r ih =>
    intro i e h
    rw [scan] at h
    split at h
    · injection h with h; omega
    · split at h
      · injection h with h; omega
      · split at h
        · cases h
        · exact ih _ _ h

/-- Whatever is told besides: an error has neither number nor bytes; the errors. -/
theorem getL_bad {l : List UInt8} (h : (getL l).2.2 ≠ 0) : (getL l).1 = 0 ∧ (getL l).2.1 = 0 ∧ ((getL l).2.2 = 7 ∨ (getL l).2.2 = 4 ∨ (getL l).2.2 = 3) := by
  unfold getL at h ⊢
  split
  · rename_i e he; exact ⟨rfl, rfl, scan_err _ _ _ he⟩
  · rename_i k hk; simp [hk] at h

theorem getL_err (l : List UInt8) : (getL l).2.2 = 0 ∨ (getL l).2.2 = 7 ∨ (getL l).2.2 = 4 ∨ (getL l).2.2 = 3 := by
  by_cases h : (getL l).2.2 = 0
  · exact .inl h
  · exact .inr (getL_bad h).2.2

theorem valL_append (a : List UInt8) (c : UInt8) : valL (a ++ [c]) = valL a + c.toNat % 128 * 128 ^ a.length := by
  induction a with
  | nil => simp [valL]
  | cons d r ih =>
    rw [List.cons_append, valL, ih, valL, List.length_cons, Nat.pow_succ, Nat.mul_add, ← Nat.add_assoc]
    congr 1
    rw [Nat.mul_comm, Nat.mul_assoc]

theorem valL_lt (a : List UInt8) : valL a < 128 ^ a.length := by
  induction a with
  | nil => simp [valL]
  | cons d r ih =>
    rw [valL, List.length_cons, Nat.pow_succ]
    have : d.toNat % 128 < 128 := Nat.mod_lt _ (by decide)
    have h2 : 128 * (valL r + 1) ≤ 128 * 128 ^ r.length := Nat.mul_le_mul_left 128 ih
    rw [Nat.mul_comm (128 ^ r.length)]
    omega

theorem valL_take_succ (l : List UInt8) (k : Nat) (h : k < l.length) : valL (l.take (k + 1)) = valL (l.take k) + l[k].toNat % 128 * 128 ^ k := by
  rw [List.take_succ_eq_append_getElem h, valL_append]
  congr 3
  simp; omega

theorem scan_drop (l : List UInt8) (i : Nat) (h : i < l.length) : scan i (l.drop i) = if i = 9 ∧ 1 < l[i].toNat then .inl 4 else if 0 < i ∧ l[i].toNat = 0 then .inl 3 else if l[i].toNat < 128 then .inr (i + 1) else scan (i + 1) (l.drop (i + 1)) := by
  rw [List.drop_eq_getElem_cons h, scan]

/-- How many bytes a number has: one more for each seven bits. -/
def sevens (n : Nat) : Nat := if n < 128 then 1 else sevens (n / 128) + 1
termination_by n
decreasing_by omega
theorem sevens_small {n : Nat} (h : n < 128) : sevens n = 1 := by rw [sevens, if_pos h]
theorem sevens_big {n : Nat} (h : ¬ n < 128) : sevens n = sevens (n / 128) + 1 := by rw [sevens, if_neg h]
theorem sevens_pos (n : Nat) : 1 ≤ sevens n := by
  by_cases h : n < 128
  · rw [sevens_small h]; omega
  · rw [sevens_big h]; omega
theorem putL_sevens (n : Nat) : (putL n).length = sevens n := by
  induction n using Nat.strongRecOn with
  | ind n ih =>
    by_cases h : n < 128
    · rw [putL_small h, sevens_small h]; rfl
    · rw [putL_big h, sevens_big h, List.length_cons, ih (n / 128) (by omega)]
theorem sevens_mono : ∀ (b a : Nat), a ≤ b → sevens a ≤ sevens b := by
  intro b
  induction b using Nat.strongRecOn with
  | ind b ih =>
    intro a h
    by_cases h1 : a < 128
    · rw [sevens_small h1]; exact sevens_pos b
    · rw [sevens_big h1, sevens_big (n := b) (by omega)]
      have := ih (b / 128) (by omega) (a / 128) (Nat.div_le_div_right h)
      omega

theorem scan_ten (l : List UInt8) : ∀ (i k : Nat), i ≤ 9 → scan i l = .inr k → k ≤ 10 ∧ i < k ∧ k - i ≤ l.length ∧ (k = 10 → ∀ c, l[9 - i]? = some c → c.toNat ≤ 1) := by
  induction l with
  | nil => intro i k _ h; simp [scan] at h
  | cons c r ih =>
    intro i k hi h
    rw [scan] at h
    by_cases h1 : i = 9 ∧ 1 < c.toNat
    · rw [if_pos h1] at h; cases h
    · rw [if_neg h1] at h
      by_cases h2 : 0 < i ∧ c.toNat = 0
      · rw [if_pos h2] at h; cases h
      · rw [if_neg h2] at h
        by_cases h3 : c.toNat < 128
        · rw [if_pos h3] at h
          injection h with h
          subst h
          refine ⟨by omega, by omega, by simp, ?_⟩
          intro h9 d hd
          obtain rfl : i = 9 := by omega
          simp at hd; subst hd; omega
        · rw [if_neg h3] at h
          obtain ⟨a, b, c', d⟩ := ih (i + 1) k (by omega) h
          refine ⟨a, by omega, by simp; omega, ?_⟩
          intro h9 e he
          rw [show 9 - i = (9 - (i + 1)) + 1 by omega, List.getElem?_cons_succ] at he
          exact d h9 e he

/-- A number's bytes: ten at most; it is below 2^64. -/
theorem scan_lt {l : List UInt8} {k : Nat} (h : scan 0 l = .inr k) : 1 ≤ k ∧ k ≤ 10 ∧ k ≤ l.length ∧ valL (l.take k) < 18446744073709551616 := by
  obtain ⟨a, b, c, d⟩ := scan_ten l 0 k (by omega) h
  refine ⟨by omega, a, by omega, ?_⟩
  by_cases h10 : k = 10
  · subst h10
    have hl : 9 < l.length := by omega
    rw [valL_take_succ l 9 hl]
    have h1 := valL_lt (l.take 9)
    have h2 := d rfl l[9] (by rw [List.getElem?_eq_getElem hl])
    have h3 : (l.take 9).length = 9 := by simp; omega
    rw [h3, pow9] at h1
    rw [pow9]
    have h4 : l[9].toNat % 128 ≤ 1 := by omega
    have := Nat.mul_le_mul_right 9223372036854775808 h4
    omega
  · have h1 := valL_lt (l.take k)
    have h3 : (l.take k).length = k := by simp; omega
    have h4 : 128 ^ k ≤ 128 ^ 9 := Nat.pow_le_pow_right (by decide) (by omega)
    rw [h3] at h1
    rw [pow9] at h4
    omega
end Go.Proofs.YtkafhlpnhgipeaaGreatDoor
/-
  The contract of vary.Get: whatever text comes in, it answers what 'getL' gives for its bytes, and the world is as it was.
-/
namespace Go.Proofs.YtkafhlpnhgipeaaGreatDoor
open Go.RowKit

/-- An error as a value of type error: nil, or an Errno. -/
def errV (e : Nat) : Value := if e = 0 then .nilIface else .iface 27 (.int .i64 e)
/-- A number, how many bytes it has, an error. -/
def numV (r : Nat × Nat × Nat) : Value := .tuple #[.int .u64 r.1, .int .i64 r.2.1, errV r.2.2]

theorem pow128 (k : Nat) : (2 : Nat) ^ (7 * k) = 128 ^ k := by rw [Nat.pow_mul]
theorem or_shift (acc x k : Nat) (ha : acc < 128 ^ k) (hx : x < 128) (hk : k ≤ 9) (h9 : k = 9 → x ≤ 1) :
    bits .or .u64 (acc : Int) (IntKind.u64.wrap ((x : Int) * 2 ^ (7 * k))) = ((acc + x * 128 ^ k : Nat) : Int) ∧ acc + x * 128 ^ k < 18446744073709551616 := by
  have hb : acc + x * 128 ^ k < 18446744073709551616 := by
    by_cases h : k = 9
    · subst h; have := h9 rfl; rw [pow9] at ha ⊢; omega
    · have hp : 128 ^ k ≤ 128 ^ 8 := Nat.pow_le_pow_right (by decide) (by omega)
      have h8 : 128 ^ 8 = 72057594037927936 := by decide
      have := Nat.mul_le_mul (show x ≤ 127 by omega) hp
      omega
  refine ⟨?_, hb⟩
  have e1 : ((x : Int) * 2 ^ (7 * k)) = ((x * 128 ^ k : Nat) : Int) := by
    rw [← pow128, Int.natCast_mul, Int.natCast_pow]; rfl
  rw [e1, IntWalk.u64_in _ ⟨by omega, by omega⟩, u64_or_nat _ _ (by omega) (by omega), ← pow128]
  congr 1
  rw [Nat.add_comm, Nat.mul_comm x, Nat.two_pow_add_eq_or_of_lt (by rw [pow128]; exact ha), Nat.or_comm]

theorem num_ret {l : List UInt8} {n k e : Nat} {a b : Int} {v : Value} (h : getL l = (n, k, e)) (ha : a = n) (hb : b = k) (hv : v = errV e) :
    Ending.returned (.tuple #[.int .u64 a, .int .i64 b, v]) = .returned (numV (getL l)) := by
  rw [h, ha, hb, hv]; rfl
theorem getL_of_bad {l : List UInt8} {e : Nat} (h : scan 0 l = .inl e) : getL l = (0, 0, e) := by unfold getL; rw [h]
theorem getL_of_ok {l : List UInt8} {k : Nat} (h : scan 0 l = .inr k) : getL l = (valL (l.take k), k, 0) := by unfold getL; rw [h]
theorem scan_at (s : ByteArray) (k : Nat) (h : k < s.size) : scan k (s.data.toList.drop k) = if k = 9 ∧ 1 < s[k].toNat then .inl 4 else if 0 < k ∧ s[k].toNat = 0 then .inl 3 else if s[k].toNat < 128 then .inr (k + 1) else scan (k + 1) (s.data.toList.drop (k + 1)) :=
  scan_drop s.data.toList k (by simpa using h)
theorem val_at (s : ByteArray) (k : Nat) (h : k < s.size) (hk : k ≤ 9) (h9 : k = 9 → s[k].toNat ≤ 1) :
    bits .or .u64 ((valL (s.data.toList.take k) : Nat) : Int) (IntKind.u64.wrap ((s[k].toNat : Int) % 128 * 2 ^ (7 * k))) = ((valL (s.data.toList.take (k + 1)) : Nat) : Int) := by
  have h' : k < s.data.toList.length := by simpa using h
  have hl := valL_lt (s.data.toList.take k)
  rw [List.length_take, Nat.min_eq_left (by omega)] at hl
  have hm : s[k].toNat % 128 < 128 := Nat.mod_lt _ (by decide)
  have := (or_shift _ (s[k].toNat % 128) k hl hm hk (by intro e; have := h9 e; omega)).1
  rw [valL_take_succ _ _ h']
  exact this
theorem val_at9 (s : ByteArray) (h : 9 < s.size) (h9 : s[9].toNat ≤ 1) :
    bits .or .u64 ((valL (s.data.toList.take 9) : Nat) : Int) ((s[9].toNat : Int) % 128 * 9223372036854775808) = ((valL (s.data.toList.take 10) : Nat) : Int) := by
  rw [← val_at s 9 h (by omega) (fun _ => h9)]
  congr 1
  rw [show (2 : Int) ^ (7 * 9) = 9223372036854775808 by decide, IntWalk.u64_in _ ⟨by omega, by omega⟩]

set_option maxRecDepth 100000 in
set_option maxHeartbeats 1000000 in
theorem get_any (s : ByteArray) (w : World) (hs : s.size ≤ maxLen) :
    Calls Tryz.prog 126 #[.string s] w fun e w' => e = .returned (numV (getL s.data.toList)) ∧ w = w' := by
  unfold maxLen at hs
  go_enter Tryz.func126, Tryz.ntmps126
  go_wp2
  go_loop [5, 10] (fun n i => ∃ k : Nat, k ≤ s.size ∧ k ≤ 9 ∧ i = .int .i64 k ∧ n = .int .u64 (valL (s.data.toList.take k)) ∧ scan 0 s.data.toList = scan k (s.data.toList.drop k)) (fun _ i => s.size - (intOf i).toNat)
  case atStart => exact ⟨0, Nat.zero_le _, Nat.zero_le _, rfl, rfl, rfl⟩
  case round =>
    obtain ⟨k, hk, hk9, rfl, rfl, hsc⟩ := hrel
    have HSC := Lib.hid hsc
    clear hsc
    by_cases hlt : k < s.size
    · by_cases h9 : k = 9
      · subst h9
        go_wp2
        · have h1 : 1 < (s[9].toNat : Int) := by assumption
          go_ret3
          exact ⟨num_ret (getL_of_bad (by rw [HSC.out, scan_at s 9 hlt, if_pos ⟨rfl, by omega⟩])) rfl rfl rfl, rfl⟩
        · have h1 : (s[9].toNat : Int) ≤ 1 := by assumption
          have h2 : ((s[9].toNat : Int) == 0) = true := by assumption
          have h2' : s[9].toNat = 0 := by have := eq_of_beq h2; omega
          go_ret3
          exact ⟨num_ret (getL_of_bad (by rw [HSC.out, scan_at s 9 hlt, if_neg (by omega), if_pos ⟨by omega, h2'⟩])) rfl rfl rfl, rfl⟩
        · have h1 : (s[9].toNat : Int) ≤ 1 := by assumption
          have h2 : ((s[9].toNat : Int) == 0) = false := by assumption
          have h2' : s[9].toNat ≠ 0 := by intro h; rw [h] at h2; exact absurd h2 (by decide)
          go_ret3
          exact ⟨num_ret (getL_of_ok (by rw [HSC.out, scan_at s 9 hlt, if_neg (by omega), if_neg (by omega), if_pos (by omega)])) (val_at9 s hlt (by omega)) rfl rfl, rfl⟩
      · have hb : ((k : Int) == 9) = false := by simp; omega
        have H9 := Lib.hid h9
        clear h9
        go_wp2
        · have h1 : 0 < k := by assumption
          have h2 : ((s[k].toNat : Int) == 0) = true := by assumption
          have h2' : s[k].toNat = 0 := by have := eq_of_beq h2; omega
          go_ret3
          exact ⟨num_ret (getL_of_bad (by rw [HSC.out, scan_at s k hlt, if_neg (by intro h; exact H9.out h.1), if_pos ⟨h1, h2'⟩])) rfl rfl rfl, rfl⟩
        · have h2 : ((s[k].toNat : Int) == 0) = false := by assumption
          have h2' : s[k].toNat ≠ 0 := by intro h; rw [h] at h2; exact absurd h2 (by decide)
          have h3 : (s[k].toNat : Int) < 128 := by assumption
          go_ret3
          exact ⟨num_ret (getL_of_ok (by rw [HSC.out, scan_at s k hlt, if_neg (by intro h; exact H9.out h.1), if_neg (by intro h; exact h2' h.2), if_pos (by omega)])) (val_at s k hlt hk9 (fun h => absurd h H9.out)) rfl rfl, rfl⟩
        · have h2 : ((s[k].toNat : Int) == 0) = false := by assumption
          have h2' : s[k].toNat ≠ 0 := by intro h; rw [h] at h2; exact absurd h2 (by decide)
          have h3 : 128 ≤ (s[k].toNat : Int) := by assumption
          go_round
          case rel => exact ⟨k + 1, by omega, by have := H9.out; omega, by go_num, by rw [val_at s k hlt hk9 (fun h => absurd h H9.out)], by rw [HSC.out, scan_at s k hlt, if_neg (by intro h; exact H9.out h.1), if_neg (by intro h; exact h2' h.2), if_neg (by omega)]⟩
          case measure => simp [intOf]; omega
        · have h1 : ¬ 0 < k := by assumption
          have h3 : (s[k].toNat : Int) < 128 := by assumption
          go_ret3
          exact ⟨num_ret (getL_of_ok (by rw [HSC.out, scan_at s k hlt, if_neg (by intro h; exact H9.out h.1), if_neg (by omega), if_pos (by omega)])) (val_at s k hlt hk9 (fun h => absurd h H9.out)) rfl rfl, rfl⟩
        · have h1 : ¬ 0 < k := by assumption
          have h3 : 128 ≤ (s[k].toNat : Int) := by assumption
          go_round
          case rel => exact ⟨k + 1, by omega, by omega, by go_num, by rw [val_at s k hlt hk9 (fun h => absurd h H9.out)], by rw [HSC.out, scan_at s k hlt, if_neg (by intro h; exact H9.out h.1), if_neg (by omega), if_neg (by omega)]⟩
          case measure => simp [intOf]; omega
    · go_wp2
      go_ret3
      exact ⟨num_ret (getL_of_bad (by rw [HSC.out, List.drop_eq_nil_of_le (by simp; omega), scan])) rfl rfl rfl, rfl⟩
end Go.Proofs.YtkafhlpnhgipeaaGreatDoor
/-
  Writes, plain: what is wrong with one.
-/
namespace Go.Proofs.YtkafhlpnhgipeaaGreatDoor
open Go.RowKit


def hasV (K : Int) : Bool := decide (K = 1) || decide (K = 4)
def hasN (K : Int) : Bool := decide (K = 3) || decide (K = 4)
def idOk (T R : Int) : Bool := decide (1 ≤ T ∧ T ≤ 1099511627776 ∧ 0 ≤ R ∧ R ≤ 200)
def fitsN (K N : Int) : Bool := if K = 3 then decide (-1125899906842624 ≤ N) && decide (N ≤ 1125899906842624) else if K = 4 then decide (0 ≤ N) && decide (N ≤ 1000) else true
/-- What is wrong with a write: an error's number. -/
def wriE (T R K : Int) (key val : ByteArray) (N : Int) : Nat :=
  if K < 1 ∨ 4 < K then 1 else if idOk T R = false then 2 else if 40 < key.size ∨ 300 < val.size then 4 else if (0 < val.size ∧ hasV K = false) ∨ (N ≠ 0 ∧ hasN K = false) then 3 else if fitsN K N = false then 2 else 0

theorem wriE_kind {T R K : Int} {key val : ByteArray} {N : Int} (h : K < 1 ∨ 4 < K) : wriE T R K key val N = 1 := if_pos h
theorem wriE_id {T R K : Int} {key val : ByteArray} {N : Int} (h : ¬ (K < 1 ∨ 4 < K)) (h1 : idOk T R = false) : wriE T R K key val N = 2 := by unfold wriE; rw [if_neg h, if_pos h1]
theorem wriE_size {T R K : Int} {key val : ByteArray} {N : Int} (h : ¬ (K < 1 ∨ 4 < K)) (h1 : idOk T R = true) (h2 : 40 < key.size ∨ 300 < val.size) : wriE T R K key val N = 4 := by
  unfold wriE; rw [if_neg h, if_neg (by rw [h1]; decide), if_pos h2]
theorem wriE_form {T R K : Int} {key val : ByteArray} {N : Int} (h : ¬ (K < 1 ∨ 4 < K)) (h1 : idOk T R = true) (h2 : ¬ (40 < key.size ∨ 300 < val.size)) (h3 : (0 < val.size ∧ hasV K = false) ∨ (N ≠ 0 ∧ hasN K = false)) : wriE T R K key val N = 3 := by
  unfold wriE; rw [if_neg h, if_neg (by rw [h1]; decide), if_neg h2, if_pos h3]
theorem wriE_fits {T R K : Int} {key val : ByteArray} {N : Int} (h : ¬ (K < 1 ∨ 4 < K)) (h1 : idOk T R = true) (h2 : ¬ (40 < key.size ∨ 300 < val.size)) (h3 : ¬ ((0 < val.size ∧ hasV K = false) ∨ (N ≠ 0 ∧ hasN K = false))) :
    wriE T R K key val N = if fitsN K N = false then 2 else 0 := by
  unfold wriE; rw [if_neg h, if_neg (by rw [h1]; decide), if_neg h2, if_neg h3]
theorem wriE_rest {T R K : Int} {key val : ByteArray} {N : Int} (h : ¬ (K < 1 ∨ 4 < K)) (h1 : idOk T R = true) (h2 : ¬ (40 < key.size ∨ 300 < val.size)) :
    wriE T R K key val N = if ((decide (0 < val.size) && !hasV K) || (decide (N ≠ 0) && !hasN K)) = true then 3 else if fitsN K N = true then 0 else 2 := by
  unfold wriE
  rw [if_neg h, if_neg (by rw [h1]; decide), if_neg h2]
  cases hasV K <;> cases hasN K <;> cases fitsN K N <;> simp
theorem empty_of {s : ByteArray} (h : ¬ 0 < s.size) : s = ⟨#[]⟩ := by
  cases s with
  | mk d => have : d.size = 0 := by have h2 : ¬ 0 < d.size := h; omega
            rw [Array.eq_empty_of_size_eq_zero this]
theorem some_of {s : ByteArray} (h : 0 < s.size) : s ≠ ⟨#[]⟩ := by rintro rfl; exact absurd h (by decide)
theorem bne_empty {s : ByteArray} (h : 0 < s.size) : (s.toList != []) = true := by
  rw [ByteArray.toList_eq, bne_iff_ne]
  intro e
  have : s.data.toList.length = 0 := by rw [e]; rfl
  have h2 : s.data.toList.length = s.size := Array.length_toList
  omega

/-- A write that is right. -/
theorem wriE_good {T R K : Int} {key val : ByteArray} {N : Int} (h : wriE T R K key val N = 0) :
    ¬ (K < 1 ∨ 4 < K) ∧ idOk T R = true ∧ key.size ≤ 40 ∧ val.size ≤ 300 ∧ ¬ ((0 < val.size ∧ hasV K = false) ∨ (N ≠ 0 ∧ hasN K = false)) ∧ fitsN K N = true := by
  unfold wriE at h
  split at h
  · simp at h
  · split at h
    · simp at h
    · split at h
      · simp at h
      · split at h
        · simp at h
        · split at h
          · simp at h
          · rename_i h1 h2 h3 h4 h5
            exact ⟨h1, by simpa using h2, by omega, by omega, h4, by simpa using h5⟩

end Go.Proofs.YtkafhlpnhgipeaaGreatDoor
/-
  An api.Write that comes in: what the row's own reading and reach say of it.
-/
namespace Go.Proofs.YtkafhlpnhgipeaaGreatDoor
open Go.ChangeShapes Go.WideShapes Go.ChangeAt Go.RowKit

theorem laidOutW : laidOutB Tryz.prog = true := by kernel_rfl

/-- A write: its time, its replica, its kind, its key, its value, its number. -/
structure Wr where
  time : Int
  rep : Int
  kind : Int
  key : ByteArray
  value : ByteArray
  n : Int
def wrC (x : Wr) : List Value := [.int .i64 x.time, .int .i64 x.rep, .int .i64 x.kind, .string x.key, .string x.value, .int .i64 x.n]
def wrV (x : Wr) : Value := .agg (wrC x).toArray
def WrOk (x : Wr) : Prop := -9223372036854775808 ≤ x.n ∧ x.n ≤ 9223372036854775807 ∧ x.key.size ≤ 140737488351232 ∧ x.value.size ≤ 140737488351232

/-- A struct of two fields, each of one cell, read. -/
theorem pair_fields {H : Type} {enc : TypeId × Value → H} {P : Program} {W : World} {spare : Nat → Bool} {held : Bool} {n : Nat} {t : TypeId} {cs : List Value} {x : DataW H × List MemPlace} {p q : Field}
    (ht : P.underlying t = some (.struct #[p, q])) (h1 : Go.Deep.oneCellFields P #[p, q] = true) (h3 : P.cellsOf t = 2)
    (h : DataW.trod enc P W 0 spare held n t cs = some x) :
    ∃ (a b : Value) (u v : DataW H × List MemPlace) (m : Nat), cs = [a, b] ∧ x.1 = .agg [u.1, v.1] ∧
      DataW.trod enc P W 0 spare held m p.type [a] = some u ∧ DataW.trod enc P W 0 spare held m q.type [b] = some v := by
  obtain ⟨xs, m, _, hx, hl, hxl, hf⟩ := DataW.trod_struct ht h
  rw [h3] at hl
  have hxl' : xs.length = 2 := hxl
  match cs, hl with
  | [a, b], _ =>
    match xs, hxl' with
    | [u, v], _ =>
      have one := Go.Deep.hone_of h1
      have g0 := hf 0 p rfl
      have g1 := hf 1 q rfl
      rw [(one 0 p rfl).1, (one 0 p rfl).2] at g0
      rw [(one 1 q rfl).1, (one 1 q rfl).2] at g1
      exact ⟨a, b, u, v, m, rfl, by rw [hx]; rfl, g0, g1⟩

/-- How a write reads. -/
def wrD {H : Type} (x : Wr) : DataW H := .agg [.agg [.lit (.int .i64 x.time), .lit (.int .i64 x.rep)], .lit (.int .i64 x.kind), .lit (.string x.key.data.toList), .lit (.string x.value.data.toList), .lit (.int .i64 x.n)]

set_option maxRecDepth 100000 in
theorem wr_elem {H : Type} {enc : TypeId × Value → H} {W : World} {spare : Nat → Bool} {held : Bool} {n : Nat} {cs : List Value} {x : DataW H × List MemPlace}
    (h : DataW.trod enc Tryz.prog W 0 spare held n 46 cs = some x) : ∃ t : Wr, cs = wrC t ∧ x.1 = wrD t ∧ -9223372036854775808 ≤ t.n ∧ t.n ≤ 9223372036854775807 := by
  obtain ⟨xs, m, _, hx, hl, hxl, hf⟩ := DataW.trod_struct Tryz.underlying46 h
  have c6 : Tryz.prog.cellsOf 46 = 6 := by kernel_rfl
  have c2 : Tryz.prog.cellsOf 44 = 2 := by kernel_rfl
  have cI : Tryz.prog.cellsOf 3 = 1 := by kernel_rfl
  have cS : Tryz.prog.cellsOf 9 = 1 := by kernel_rfl
  rw [c6] at hl
  have hxl' : xs.length = 5 := hxl
  match cs, hl with
  | [a, b, c, d, e, f], _ =>
    match xs, hxl' with
    | [u0, u1, u2, u3, u4], _ =>
      have g0 := hf 0 _ rfl
      have g1 := hf 1 _ rfl
      have g2 := hf 2 _ rfl
      have g3 := hf 3 _ rfl
      have g4 := hf 4 _ rfl
      simp [c2, cI, cS] at g0 g1 g2 g3 g4
      obtain ⟨a', b', y0, y1, m', hab, hy, t0, t1⟩ := pair_fields Tryz.underlying44 (by kernel_rfl) (by kernel_rfl) g0
      simp at hab
      obtain ⟨rfl, rfl⟩ := hab
      obtain ⟨T, e0, f0, _⟩ := DataW.trod_int Tryz.underlying3 t0
      obtain ⟨R, e1, f1, _⟩ := DataW.trod_int Tryz.underlying3 t1
      obtain ⟨K, e2, f2, _⟩ := DataW.trod_int Tryz.underlying3 g1
      obtain ⟨key, e3, f3, _⟩ := DataW.trod_string Tryz.underlying9 g2
      obtain ⟨val, e4, f4, _⟩ := DataW.trod_string Tryz.underlying9 g3
      obtain ⟨N, e5, f5, w5⟩ := DataW.trod_int Tryz.underlying3 g4
      obtain rfl := List.head_eq_of_cons_eq e0
      obtain rfl := List.head_eq_of_cons_eq e1
      obtain rfl := List.head_eq_of_cons_eq e2
      obtain rfl := List.head_eq_of_cons_eq e3
      obtain rfl := List.head_eq_of_cons_eq e4
      obtain rfl := List.head_eq_of_cons_eq e5
      have b5 := bounds_i64 w5
      refine ⟨⟨T, R, K, key, val, N⟩, rfl, ?_, b5.1, b5.2⟩
      rw [hx]
      simp only [List.map_cons, List.map_nil, hy, f0, f1, f2, f3, f4, f5]
      rfl

set_option maxRecDepth 100000 in
theorem writeArg {H : Type} {enc : TypeId × Value → H} {W : World} {spare : Nat → Bool} {held : Bool} {v : Value} {d : DataW H} {p : List MemPlace} {base : Nat}
    (hv : Value.okWide Tryz.prog W .any base 46 v) (h : DataW.Trod enc Tryz.prog W 0 spare held 46 v d p)
    (hw : ∀ x ∈ DataW.weights Tryz.prog 46 d, x ≤ reachBytes) : ∃ x : Wr, v = wrV x ∧ WrOk x := by
  obtain ⟨cs, rfl, hsz⟩ := okWide_struct Tryz.underlying46 hv
  obtain ⟨fuel, hf⟩ := h
  obtain ⟨x, hx, hd, h1, h2⟩ := wr_elem hf
  obtain rfl : d = wrD x := hd
  refine ⟨x, ?_, h1, h2, ?_, ?_⟩
  · unfold wrV; rw [← hx]; simp [Value.cells]
  · have := hw x.key.size (by
      unfold wrD
      rw [DataW.weights, Tryz.underlying46]
      simp [DataW.weightsEach, DataW.weights, Tryz.underlying44])
    unfold reachBytes at this; omega
  · have := hw x.value.size (by
      unfold wrD
      rw [DataW.weights, Tryz.underlying46]
      simp [DataW.weightsEach, DataW.weights, Tryz.underlying44])
    unfold reachBytes at this; omega
end Go.Proofs.YtkafhlpnhgipeaaGreatDoor
