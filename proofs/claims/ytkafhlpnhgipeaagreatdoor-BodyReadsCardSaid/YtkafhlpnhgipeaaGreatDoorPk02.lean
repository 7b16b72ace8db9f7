import Derived.Test.YtkafhlpnhgipeaaGreatDoorPk00
import Derived.Test.YtkafhlpnhgipeaaGreatDoorPk01
import Derived.Lib.Hide
import Derived.Lib.Builder
import Derived.Lib.AppendStr
import Derived.Lib.UnsafeStr
import Derived.Laws.Externs
import Derived.Outline
import Derived.Test.YtkafhlpnhgipeaaGreatDoorProg
import Derived.WalkKit
import Derived.Handy
import Derived.LaidEql
import Derived.Stop.Asserts
import Derived.RowKitTokens
import Derived.BigQuiet
import Derived.Deep.QuietTactic
import Derived.WalkSmall
import Derived.KernelRfl
import Derived.Below
/-
  A strings.Builder of the call's own: what WriteString and String do to it. (This translation's copyCheck is not the shelf's: the loader refuses its panic.)
-/
namespace Go.Proofs.YtkafhlpnhgipeaaGreatDoor
open Go.RowKit

theorem bldSize : (Tryz.prog.info? 109).map (·.size) = some 2 := by kernel_rfl
theorem bldLies : liesAt Tryz.prog Tryz.prog.depth 109 (2 / Tryz.prog.cellsOf 109) 0 109 1 = true := by kernel_rfl
/-- A builder in block b of the call's own (from B on) that holds the bytes l. -/
def isBld (w : World) (B b : Nat) (l : List UInt8) : Prop := Lib.IsBuilder 109 5 B b (Lib.byteCells l) w

theorem bld_new (w : World) (B : Nat) (h : B ≤ w.heap.size) : isBld (w.alloc (.cells #[.pointer none, .slice none 0 0] 109)) B w.heap.size [] :=
  .inl ⟨h, .slice none 0 0, heap_alloc_new w _, World.ownsRow_nil _ _ _ _, by simp [Value.ownBlock]⟩
theorem isBld.below {w w' : World} {B b : Nat} {l : List UInt8} (h : isBld w B b l) (hb : Below w.heap.size w w') : isBld w' B b l := by
  have hone : ∀ {p : Value}, Lib.BuilderAt 109 5 B b p (Lib.byteCells l) w → Lib.BuilderAt 109 5 B b p (Lib.byteCells l) w' := by
    intro p h
    have hlt := h.lt
    obtain ⟨hB, v, hbk, hown, hne⟩ := h
    refine ⟨hB, v, (hb.block b hlt).trans hbk, ?_, hne⟩
    refine World.ownsRow.kept hown (row := none) ⟨hb.os, hb.tape, hb.output, hb.size, fun k hk _ => hb.block k hk⟩ ?_
    cases hv : v.ownBlock with
    | none => exact .inl rfl
    | some g => exact .inr (by simp)
  rcases h with h | h
  · exact .inl (hone h)
  · exact .inr (hone h)
theorem isBld.lt {w : World} {B b : Nat} {l : List UInt8} (h : isBld w B b l) : B ≤ b ∧ b < w.heap.size := by
  rcases h with h | h
  · exact ⟨h.1, h.lt⟩
  · exact ⟨h.1, h.lt⟩
theorem isBld.alloc {w : World} {B b : Nat} {l : List UInt8} (h : isBld w B b l) (o : Obj) : isBld (w.alloc o) B b l := h.below ((Below.refl _ _).alloc (Nat.le_refl _) _)

set_option maxRecDepth 100000 in
set_option maxHeartbeats 1000000 in
theorem copy_used (b : Nat) (w : World) (h0 : w.cell? ⟨b, 0, none⟩ = some (.pointer (some ⟨b, 0, none⟩))) :
    Calls Tryz.prog 90 #[.pointer (some ⟨b, 0, none⟩)] w fun e w' => e = .returned (.tuple #[]) ∧ w' = w := by
  obtain ⟨j, hj, _⟩ := Option.map_eq_some_iff.1 bldSize
  go_enter Tryz.func90, Tryz.ntmps90
  go_wp2
  rw [Lib.run_neq_ptr_same w _ Tryz.underlying107 hj]
  go_wp2
  go_end0
  exact ⟨rfl, rfl⟩

set_option maxRecDepth 100000 in
set_option maxHeartbeats 1000000 in
theorem copy_fresh (b : Nat) (w : World) (h0 : w.cell? ⟨b, 0, none⟩ = some (.pointer none)) (hsh : w.shape? b = some (109, 2)) (hfz : w.frozen? ⟨b, 0, none⟩ = false) :
    Calls Tryz.prog 90 #[.pointer (some ⟨b, 0, none⟩)] w fun e w' => e = .returned (.tuple #[]) ∧ w' = w.setCell ⟨b, 0, none⟩ (.pointer (some ⟨b, 0, none⟩)) := by
  obtain ⟨j, hj, hjs⟩ := Option.map_eq_some_iff.1 bldSize
  go_enter Tryz.func90, Tryz.ntmps90
  go_wp2
  rw [Lib.run_to_unsafe w ⟨b, 0, none⟩ Tryz.underlying107 Tryz.underlying185 hj (by rw [hjs]; decide) hsh (Nat.zero_lt_succ 1)]
  simp only [Result.andThen]
  rw [Oper.upon_value]
  go_wp2
  rw [run_callFunc_extern Tryz.func117 (by kernel_rfl) (by kernel_rfl) (by kernel_rfl) (e := Extern.AbiNoEscape.same) (by kernel_rfl)]
  rw [Lib.run_noEscape]
  simp only [Result.andThen]
  rw [Oper.upon_value]
  go_wp2
  rw [Lib.run_from_unsafe w ⟨b, 0, none⟩ Tryz.underlying185 Tryz.underlying107 hj hsh bldLies]
  simp only [Result.andThen]
  rw [Oper.upon_value]
  go_wp2
  go_end0
  exact ⟨rfl, rfl⟩
theorem copy_any (B b : Nat) (l : List UInt8) (w : World) (h : isBld w B b l) :
    Calls Tryz.prog 90 #[.pointer (some ⟨b, 0, none⟩)] w fun e w' => e = .returned (.tuple #[]) ∧ Lib.BuilderAt 109 5 B b (.pointer (some ⟨b, 0, none⟩)) (Lib.byteCells l) w' ∧ Below B w w' := by
  rcases h with h | h
  · refine (copy_fresh b w h.cell0 h.shape h.frozen0).mono ?_
    rintro e w' ⟨rfl, rfl⟩
    exact ⟨rfl, h.used _, (Below.refl B w).setCell (p := ⟨b, 0, none⟩) h.1 _⟩
  · refine (copy_used b w h.cell0).mono ?_
    rintro e w' ⟨rfl, rfl⟩
    exact ⟨rfl, h, Below.refl B _⟩

set_option maxRecDepth 100000 in
set_option maxHeartbeats 2000000 in
theorem bld_write (B b : Nat) (l : List UInt8) (s : ByteArray) (w : World) (h : isBld w B b l) (hlen : l.length + s.size ≤ 140737488355328) (hBw : B ≤ w.heap.size) :
    Calls Tryz.prog 83 #[.pointer (some ⟨b, 0, none⟩), .string s] w fun e w' => e = .returned (.tuple #[.int .i64 s.size, .nilIface]) ∧ isBld w' B b (l ++ s.data.toList) ∧ Below B w w' := by
  obtain ⟨i0, hi, hz0, hz1, hz2⟩ := info_parts info_u8
  have hbl : (Lib.byteCells l).length = l.length := by simp [Lib.byteCells]
  go_enter Tryz.func83, Tryz.ntmps83
  go_wp2_with fail
  refine (copy_any B b l _ h).mono ?_
  rintro e w1 ⟨rfl, h1, hb1⟩
  obtain ⟨hB, v, hbk, hown, hne⟩ := h1
  have c0 : w1.cell? ⟨b, 0, none⟩ = some (.pointer (some ⟨b, 0, none⟩)) := by rw [Lib.cell_of_heap hbk]; rfl
  have c1 : w1.cell? ⟨b, 1, none⟩ = some v := by rw [Lib.cell_of_heap hbk]; rfl
  go_wp2_with (at_builtin; refine Lib.wpList_append_own_string _ rfl _ _ 63 9 rfl B 5 i0 Tryz.underlying63 Tryz.underlying9 hi hz0 hz1 hz2 _ _ _ rfl hown s rfl ?c3 ?c4 ?c5 ?_)
  case c3 => rw [hbl]; unfold maxLen; omega
  case c4 => rw [hbl]; omega
  case c5 => have := hb1.size; omega
  intro v' w2 hown' hgrow _
  have hlt : b < w1.heap.size := by
    rcases Nat.lt_or_ge b w1.heap.size with h' | h'
    · exact h'
    · simp [Array.getElem?_eq_none h'] at hbk
  have hb2 : w2.heap[b]? = some (.cells #[.pointer (some ⟨b, 0, none⟩), v] 109 (0, 0)) := by
    rw [hgrow.block b hlt (fun e => hne e.symm)]
    exact hbk
  have d0 : w2.cell? ⟨b, 0, none⟩ = some (.pointer (some ⟨b, 0, none⟩)) := by rw [Lib.cell_of_heap hb2]; rfl
  have d1 : w2.cell? ⟨b, 1, none⟩ = some v := by rw [Lib.cell_of_heap hb2]; rfl
  have f1 : w2.frozen? ⟨b, 1, none⟩ = false := Lib.frozen_of_heap hb2 1
  obtain ⟨ao, n', cap, rfl⟩ : ∃ ao n' cap, v' = .slice ao n' cap := by
    rcases hown'.2 with ⟨hv, _⟩ | ⟨g, cap, cur, hv, _⟩
    · exact ⟨_, _, _, hv⟩
    · exact ⟨_, _, _, hv⟩
  have HO : Hid (w2.ownsRow B 5 1 (.slice ao n' cap) (Lib.byteCells (l ++ s.data.toList)).length (Lib.byteCells (l ++ s.data.toList))) := by
    have h : w2.ownsRow B 5 1 (.slice ao n' cap) (Lib.byteCells (l ++ s.data.toList)).length (Lib.byteCells (l ++ s.data.toList)) := by
      have e : Lib.byteCells (l ++ s.data.toList) = Lib.byteCells l ++ Lib.strCells s := by simp [Lib.byteCells, Lib.strCells]
      rw [e, List.length_append, Lib.strCells_length, hbl]
      exact hown'
    exact h
  clear hown'
  go_wp2
  go_ret2
  refine ⟨rfl, .inr ?_, ?_⟩
  · exact Lib.BuilderAt.put (T := 109) (e := 5) hB hb2 HO.out (by decide)
  · exact (hb1.grown hgrow (by have := hb1.size; omega) (fun k hk => (hown.lt k hk).1)).setCell (p := ⟨b, 1, none⟩) hB _
theorem bld_string (B b : Nat) (l : List UInt8) (w : World) (h : isBld w B b l) (hBw : B ≤ w.heap.size) :
    Calls Tryz.prog 62 #[.pointer (some ⟨b, 0, none⟩)] w fun e w' => e = .returned (.string ⟨l.toArray⟩) ∧ Below B w w' :=
  Tryz.Builder_String_any B b l w h hBw
end Go.Proofs.YtkafhlpnhgipeaaGreatDoor
/-
  errors.As at this program's one target, a variable of api.Errno: of a nil error; of an Errno; of an *api.At. After the guide's worked example of errors.As, at this program's types.
-/
namespace Go.Proofs.YtkafhlpnhgipeaaGreatDoor
open Go.RowKit Go.Extern.Stop Go.Stop Go.Extern

theorem as_nil (t : Value) (w : World) :
    Calls Tryz.prog 96 #[.nilIface, t] w fun e w' => e = .returned (.bool false) ∧ w = w' := by
  go_enter Tryz.func96, Tryz.ntmps96
  go_wp2
  go_ret
  exact ⟨rfl, rfl⟩

namespace As
theorem valueOfP (t : Addr) (w : World) : (ReflectliteValue.unpack (.iface 167 (.pointer (some t)))).run Tryz.prog w
    = .ok (.agg #[.pointer (some ⟨5, 167, none⟩), .pointer (some ⟨w.heap.size, 0, none⟩), .int .u64 150]) (w.alloc (.cells #[.pointer (some t)] 167)) := by kernel_rfl
theorem typeP (a : Addr) (w : World) : (ReflectliteValue.methodAny (ReflectliteValue.valueError "reflectlite.Value.Type" 0) (fun t _ _ _ => ReflectliteType.toType t) #[.agg #[.pointer (some ⟨5, 167, none⟩), .pointer (some a), .int .u64 150]]).run Tryz.prog w
    = .ok (.iface 210 (.agg #[.pointer (some ⟨5, 167, none⟩)])) w := by kernel_rfl
theorem methodKind (h : Value) (w : World) : (Go.method 362 210 (.agg #[h]) "Kind").run Tryz.prog w = .ok (169, h) w := by kernel_rfl
theorem kindP (w : World) : ((ReflectliteType.abiMethod fun t => (fun a : Nat => Value.int IntKind.u8 (a : Int)) <$> Rtype.kind t) #[.pointer (some ⟨5, 167, none⟩)]).run Tryz.prog w = .ok (.int .u8 22) w := by kernel_rfl
theorem kindE (w : World) : ((ReflectliteType.abiMethod fun t => (fun a : Nat => Value.int IntKind.u8 (a : Int)) <$> Rtype.kind t) #[.pointer (some ⟨5, 27, none⟩)]).run Tryz.prog w = .ok (.int .u8 2) w := by kernel_rfl
theorem isNilForm (a : Addr) (W : World) : (ReflectliteValue.method (ReflectliteValue.valueError "reflectlite.Value.IsNil" 0) ReflectliteValue.isNil #[.agg #[.pointer (some ⟨5, 167, none⟩), .pointer (some a), .int .u64 150]]).run Tryz.prog W = (ReflectliteValue.isNil 167 a 150 22).run Tryz.prog W := by kernel_rfl
theorem isNilP (a p : Addr) (W : World) (ha : W.cell? a = some (.pointer (some p))) :
    (ReflectliteValue.method (ReflectliteValue.valueError "reflectlite.Value.IsNil" 0) ReflectliteValue.isNil #[.agg #[.pointer (some ⟨5, 167, none⟩), .pointer (some a), .int .u64 150]]).run Tryz.prog W = .ok (.bool false) W := by
  rw [isNilForm]
  simp [ReflectliteValue.isNil, loadVar, isAgg, underlying, Tryz.underlying167, ha, Result.andThen]
theorem methodElem (h : Value) (w : World) : (Go.method 362 210 (.agg #[h]) "Elem").run Tryz.prog w = .ok (182, .agg #[h]) w := by kernel_rfl
theorem methodImplements (h : Value) (w : World) : (Go.method 362 210 (.agg #[h]) "Implements").run Tryz.prog w = .ok (183, .agg #[h]) w := by kernel_rfl
theorem methodAssignableTo (h : Value) (w : World) : (Go.method 362 210 (.agg #[h]) "AssignableTo").run Tryz.prog w = .ok (180, .agg #[h]) w := by kernel_rfl
theorem elemP (w : World) : (ReflectliteType.method ReflectliteType.elem #[.agg #[.pointer (some ⟨5, 167, none⟩)]]).run Tryz.prog w = .ok (.iface 210 (.agg #[.pointer (some ⟨5, 27, none⟩)])) w := by kernel_rfl
theorem implementsE (w : World) : (ReflectliteType.relation "Implements" ReflectliteType.implements_ #[.agg #[.pointer (some ⟨5, 27, none⟩)], .iface 210 (.agg #[.pointer (some ⟨5, 33, none⟩)])]).run Tryz.prog w = .ok (.bool true) w := by kernel_rfl
theorem typeOfE (v : Value) (w : World) : (ReflectliteType.typeOf #[.iface 27 v]).run Tryz.prog w = .ok (.iface 210 (.agg #[.pointer (some ⟨5, 27, none⟩)])) w := by kernel_rfl
theorem typeOfA (v : Value) (w : World) : (ReflectliteType.typeOf #[.iface 122 v]).run Tryz.prog w = .ok (.iface 210 (.agg #[.pointer (some ⟨5, 122, none⟩)])) w := by kernel_rfl
theorem assignableE (w : World) : (ReflectliteType.relation "AssignableTo" ReflectliteType.assignableTo #[.agg #[.pointer (some ⟨5, 27, none⟩)], .iface 210 (.agg #[.pointer (some ⟨5, 27, none⟩)])]).run Tryz.prog w = .ok (.bool true) w := by kernel_rfl
theorem assignableA (w : World) : (ReflectliteType.relation "AssignableTo" ReflectliteType.assignableTo #[.agg #[.pointer (some ⟨5, 122, none⟩)], .iface 210 (.agg #[.pointer (some ⟨5, 27, none⟩)])]).run Tryz.prog w = .ok (.bool false) w := by kernel_rfl
theorem valueOfE (e : Int) (w : World) : (ReflectliteValue.unpack (.iface 27 (.int .i64 e))).run Tryz.prog w
    = .ok (.agg #[.pointer (some ⟨5, 27, none⟩), .pointer (some ⟨w.heap.size, 0, none⟩), .int .u64 130]) (w.alloc (.cells #[.int .i64 e] 27)) := by kernel_rfl
theorem elemOfP (w : World) : (Rtype.elem? 167).run Tryz.prog w = .ok (some 27) w := by kernel_rfl
theorem mkE (p : Addr) (w : World) : (ReflectliteValue.mk 27 p ReflectliteValue.flagAddr).run Tryz.prog w = .ok (.agg #[.pointer (some ⟨5, 27, none⟩), .pointer (some p), .int .u64 386]) w := by kernel_rfl
theorem elemForm (a : Addr) (W : World) : (ReflectliteValue.method (ReflectliteValue.valueError "reflectlite.Value.Elem" 0) ReflectliteValue.elem #[.agg #[.pointer (some ⟨5, 167, none⟩), .pointer (some a), .int .u64 150]]).run Tryz.prog W = (ReflectliteValue.elem 167 a 150 22).run Tryz.prog W := by kernel_rfl
theorem elemVP (a p : Addr) (W : World) (ha : W.cell? a = some (.pointer (some p))) :
    (ReflectliteValue.method (ReflectliteValue.valueError "reflectlite.Value.Elem" 0) ReflectliteValue.elem #[.agg #[.pointer (some ⟨5, 167, none⟩), .pointer (some a), .int .u64 150]]).run Tryz.prog W
      = .ok (.agg #[.pointer (some ⟨5, 27, none⟩), .pointer (some p), .int .u64 386]) W := by
  rw [elemForm]
  simp [ReflectliteValue.elem, loadVar, isAgg, underlying, Tryz.underlying167, ha, Result.andThen, elemOfP, mkE]
theorem setForm (ta b : Addr) (W : World) : (ReflectliteValue.set #[.agg #[.pointer (some ⟨5, 27, none⟩), .pointer (some ta), .int .u64 386], .agg #[.pointer (some ⟨5, 27, none⟩), .pointer (some b), .int .u64 130]]).run Tryz.prog W
    = (do let val ← loadVar 27 b; storeVar 27 ta val; pure (Value.tuple #[]) : Sem Value).run Tryz.prog W := by kernel_rfl
theorem setE (ta b : Addr) (e : Int) (old : Value) (W : World) (hb : W.cell? b = some (.int .i64 e)) (ht : W.cell? ta = some old) (hf : W.frozen? ta = false) :
    (ReflectliteValue.set #[.agg #[.pointer (some ⟨5, 27, none⟩), .pointer (some ta), .int .u64 386], .agg #[.pointer (some ⟨5, 27, none⟩), .pointer (some b), .int .u64 130]]).run Tryz.prog W
      = .ok (.tuple #[]) (W.setCell ta (.int .i64 e)) := by
  rw [setForm]
  simp [loadVar, isAgg, underlying, Tryz.underlying27, hb, Result.andThen, storeVar, Value.cells, storeCells, Addr.add]
  rw [run_store Tryz.prog W ta _ _ (by rfl)]
  simp [ht, hf]
/-- What the type switches ask of an *api.At, and of an api.Errno. -/
theorem noAsA (v : Value) (xT : TypeId) (w : World) : (Instr.typeAssert (.iface 122 v) xT 215 true).run Tryz.prog w = .ok (.tuple #[.nilIface, .bool false]) w := run_typeAssert_lacksB Tryz.underlying215 (by kernel_rfl) (by kernel_rfl) v xT w
theorem unwrapA (v : Value) (xT : TypeId) (w : World) : (Instr.typeAssert (.iface 122 v) xT 126 true).run Tryz.prog w = .ok (.tuple #[.iface 122 v, .bool true]) w := run_typeAssert_hasB Tryz.underlying126 (by kernel_rfl) v xT w
theorem noUnwrapE (v : Value) (xT : TypeId) (w : World) : (Instr.typeAssert (.iface 27 v) xT 126 true).run Tryz.prog w = .ok (.tuple #[.nilIface, .bool false]) w := run_typeAssert_lacksB Tryz.underlying126 (by kernel_rfl) (by kernel_rfl) v xT w
theorem noAtE (v : Value) (xT : TypeId) (w : World) : (Instr.typeAssert (.iface 27 v) xT 122 true).run Tryz.prog w = .ok (.tuple #[.pointer none, .bool false]) w := by kernel_rfl
theorem isAtA (v : Value) (xT : TypeId) (w : World) : (Instr.typeAssert (.iface 122 v) xT 122 true).run Tryz.prog w = .ok (.tuple #[v, .bool true]) w := by kernel_rfl
end As
end Go.Proofs.YtkafhlpnhgipeaaGreatDoor
/-
  errors.As(e, &x) with x a variable of api.Errno: of an Errno it answers true and x is that Errno; of an *api.At it answers true and x is the Errno in it. (The walks.)
-/
namespace Go.Proofs.YtkafhlpnhgipeaaGreatDoor
open Go.RowKit Go.Extern.Stop Go.Stop Go.Extern

/-- The variable errors.errorType holds the handle of the type error. -/
def errT (w : World) : Prop := w.cell? ⟨0, 0, none⟩ = some (.iface 210 (.agg #[.pointer (some ⟨5, 33, none⟩)]))

/-- The memory that errors.As lays. -/
def asWorld (w : World) (t : Addr) : World :=
  ((w.alloc (.cells #[.pointer (some t)] 167)).alloc (.cells #[.pointer (some ⟨5, 167, none⟩), .pointer (some ⟨w.heap.size, 0, none⟩), .int .u64 150] 190)).alloc (.cells #[.pointer (some ⟨5, 167, none⟩), .pointer (some ⟨w.heap.size, 0, none⟩), .int .u64 150] 190)

theorem lt_of_cell {w : World} {a : Addr} {v : Value} (h : w.cell? a = some v) : a.block < w.heap.size := by
  rcases Nat.lt_or_ge a.block w.heap.size with h' | h'
  · exact h'
  · simp [World.cell?, Array.getElem?_eq_none h'] at h

set_option maxRecDepth 100000 in
set_option maxHeartbeats 4000000 in
theorem as_errno (e : Int) (t : Addr) (old : Value) (w : World) (hg : errT w) (ht0 : w.cell? t = some old) (hf0 : w.frozen? t = false) :
    Calls Tryz.prog 96 #[.iface 27 (.int .i64 e), .iface 167 (.pointer (some t))] w fun ev w' => ev = .returned (.bool true) ∧ ((asWorld w t).alloc (.cells #[.int .i64 e] 27)).setCell t (.int .i64 e) = w' := by
  unfold asWorld
  unfold errT at hg
  have h6 := @run_callFunc_extern Tryz.prog 122 _ (fun args => ReflectliteValue.unpack (args.getD 0 (.tuple #[]))) Tryz.func122 (by kernel_rfl) (by kernel_rfl) (by kernel_rfl) (by kernel_rfl)
  have h7 := @run_callFunc_extern Tryz.prog 123 _ (ReflectliteValue.methodAny (ReflectliteValue.valueError "reflectlite.Value.Type" 0) (fun t _ _ _ => ReflectliteType.toType t)) Tryz.func123 (by kernel_rfl) (by kernel_rfl) (by kernel_rfl) (by kernel_rfl)
  have h8 := @run_callFunc_extern Tryz.prog 124 _ (ReflectliteValue.method (ReflectliteValue.valueError "reflectlite.Value.IsNil" 0) ReflectliteValue.isNil) Tryz.func124 (by kernel_rfl) (by kernel_rfl) (by kernel_rfl) (by kernel_rfl)
  have h27 := @run_callFunc_extern Tryz.prog 169 _ (ReflectliteType.abiMethod fun t => do pure (.int .u8 (← Rtype.kind t))) Tryz.func169 (by kernel_rfl) (by kernel_rfl) (by kernel_rfl) (by kernel_rfl)
  have h37 := @run_callFunc_extern Tryz.prog 182 _ (ReflectliteType.method ReflectliteType.elem) Tryz.func182 (by kernel_rfl) (by kernel_rfl) (by kernel_rfl) (by kernel_rfl)
  have h38 := @run_callFunc_extern Tryz.prog 183 _ (ReflectliteType.relation "Implements" ReflectliteType.implements_) Tryz.func183 (by kernel_rfl) (by kernel_rfl) (by kernel_rfl) (by kernel_rfl)
  have h10 := @run_callFunc_extern Tryz.prog 134 _ ReflectliteType.typeOf Tryz.func134 (by kernel_rfl) (by kernel_rfl) (by kernel_rfl) (by kernel_rfl)
  have h35 := @run_callFunc_extern Tryz.prog 180 _ (ReflectliteType.relation "AssignableTo" ReflectliteType.assignableTo) Tryz.func180 (by kernel_rfl) (by kernel_rfl) (by kernel_rfl) (by kernel_rfl)
  have h11 := @run_callFunc_extern Tryz.prog 135 _ (ReflectliteValue.method (ReflectliteValue.valueError "reflectlite.Value.Elem" 0) ReflectliteValue.elem) Tryz.func135 (by kernel_rfl) (by kernel_rfl) (by kernel_rfl) (by kernel_rfl)
  have h12 := @run_callFunc_extern Tryz.prog 136 _ ReflectliteValue.set Tryz.func136 (by kernel_rfl) (by kernel_rfl) (by kernel_rfl) (by kernel_rfl)
  have tO := As.typeOfE
  have mA := As.methodAssignableTo
  have aE := As.assignableE
  have vE := As.valueOfE
  have f6 := As.valueOfP
  have f7 := As.typeP
  have mK := As.methodKind
  have mE := As.methodElem
  have mI := As.methodImplements
  have kP := As.kindP
  have kE := As.kindE
  have eP := As.elemP
  have iE := As.implementsE
  have htl := lt_of_cell ht0
  have hlt : 0 < w.heap.size := lt_of_cell hg
  have n8 := As.isNilP ⟨w.heap.size, 0, none⟩ t ((w.alloc (.cells #[.pointer (some t)] 167)).alloc (.cells #[.pointer (some ⟨5, 167, none⟩), .pointer (some ⟨w.heap.size, 0, none⟩), .int .u64 150] 190)) (by simp)
  have hg2 : ((w.alloc (.cells #[.pointer (some t)] 167)).alloc (.cells #[.pointer (some ⟨5, 167, none⟩), .pointer (some ⟨w.heap.size, 0, none⟩), .int .u64 150] 190)).cell? ⟨0, 0, none⟩ = some (.iface 210 (.agg #[.pointer (some ⟨5, 33, none⟩)])) := by
    rw [World.cell?_alloc_lt _ _ ⟨0, 0, none⟩ (by simp only [World.size_alloc]; omega), World.cell?_alloc_lt _ _ ⟨0, 0, none⟩ hlt]; exact hg
  have el := As.elemVP ⟨w.heap.size, 0, none⟩ t (((w.alloc (.cells #[.pointer (some t)] 167)).alloc (.cells #[.pointer (some ⟨5, 167, none⟩), .pointer (some ⟨w.heap.size, 0, none⟩), .int .u64 150] 190)).alloc (.cells #[.pointer (some ⟨5, 167, none⟩), .pointer (some ⟨w.heap.size, 0, none⟩), .int .u64 150] 190)) (by rw [World.cell?_alloc_lt _ _ ⟨w.heap.size, 0, none⟩ (by simp; omega)]; simp)
  have st := As.setE t ⟨w.heap.size + 1 + 1 + 1, 0, none⟩ e old ((((w.alloc (.cells #[.pointer (some t)] 167)).alloc (.cells #[.pointer (some ⟨5, 167, none⟩), .pointer (some ⟨w.heap.size, 0, none⟩), .int .u64 150] 190)).alloc (.cells #[.pointer (some ⟨5, 167, none⟩), .pointer (some ⟨w.heap.size, 0, none⟩), .int .u64 150] 190)).alloc (.cells #[.int .i64 e] 27))
    (by rw [World.cell?_alloc_at _ _ _ _ (by simp)]; rfl)
    (by rw [World.cell?_alloc_lt _ _ t (by simp; omega), World.cell?_alloc_lt _ _ t (by simp; omega), World.cell?_alloc_lt _ _ t (by simp; omega), World.cell?_alloc_lt _ _ t htl]; exact ht0)
    (by rw [World.frozen?_alloc_old _ _ t (by simp; omega), World.frozen?_alloc_old _ _ t (by simp; omega), World.frozen?_alloc_old _ _ t (by simp; omega), World.frozen?_alloc_old _ _ t (Nat.ne_of_lt htl)]; exact hf0)
  go_enter Tryz.func96, Tryz.ntmps96
  go_wp2
  refine wp_loop_rounds 1 ?_
  rw [rounds_succ]
  go_wp2
  go_ret
  exact ⟨rfl, rfl⟩
end Go.Proofs.YtkafhlpnhgipeaaGreatDoor
/-
  errors.As(e, &x) with x a variable of api.Errno, e an *api.At: it answers true, and x is the Errno in it. (The walk.)
-/
namespace Go.Proofs.YtkafhlpnhgipeaaGreatDoor
open Go.RowKit Go.Extern.Stop Go.Stop Go.Extern

set_option maxRecDepth 100000 in
set_option maxHeartbeats 4000000 in
theorem as_at (e : Int) (b off : Nat) (t : Addr) (old : Value) (w : World) (hg : errT w) (ht0 : w.cell? t = some old) (hf0 : w.frozen? t = false) (hp : w.cell? ⟨b, off, none⟩ = some (.int .i64 e)) :
    Calls Tryz.prog 96 #[.iface 122 (.pointer (some ⟨b, off, none⟩)), .iface 167 (.pointer (some t))] w fun ev w' => ev = .returned (.bool true) ∧ ((asWorld w t).alloc (.cells #[.int .i64 e] 27)).setCell t (.int .i64 e) = w' := by
  unfold asWorld
  unfold errT at hg
  have h6 := @run_callFunc_extern Tryz.prog 122 _ (fun args => ReflectliteValue.unpack (args.getD 0 (.tuple #[]))) Tryz.func122 (by kernel_rfl) (by kernel_rfl) (by kernel_rfl) (by kernel_rfl)
  have h7 := @run_callFunc_extern Tryz.prog 123 _ (ReflectliteValue.methodAny (ReflectliteValue.valueError "reflectlite.Value.Type" 0) (fun t _ _ _ => ReflectliteType.toType t)) Tryz.func123 (by kernel_rfl) (by kernel_rfl) (by kernel_rfl) (by kernel_rfl)
  have h8 := @run_callFunc_extern Tryz.prog 124 _ (ReflectliteValue.method (ReflectliteValue.valueError "reflectlite.Value.IsNil" 0) ReflectliteValue.isNil) Tryz.func124 (by kernel_rfl) (by kernel_rfl) (by kernel_rfl) (by kernel_rfl)
  have h27 := @run_callFunc_extern Tryz.prog 169 _ (ReflectliteType.abiMethod fun t => do pure (.int .u8 (← Rtype.kind t))) Tryz.func169 (by kernel_rfl) (by kernel_rfl) (by kernel_rfl) (by kernel_rfl)
  have h37 := @run_callFunc_extern Tryz.prog 182 _ (ReflectliteType.method ReflectliteType.elem) Tryz.func182 (by kernel_rfl) (by kernel_rfl) (by kernel_rfl) (by kernel_rfl)
  have h38 := @run_callFunc_extern Tryz.prog 183 _ (ReflectliteType.relation "Implements" ReflectliteType.implements_) Tryz.func183 (by kernel_rfl) (by kernel_rfl) (by kernel_rfl) (by kernel_rfl)
  have h10 := @run_callFunc_extern Tryz.prog 134 _ ReflectliteType.typeOf Tryz.func134 (by kernel_rfl) (by kernel_rfl) (by kernel_rfl) (by kernel_rfl)
  have h35 := @run_callFunc_extern Tryz.prog 180 _ (ReflectliteType.relation "AssignableTo" ReflectliteType.assignableTo) Tryz.func180 (by kernel_rfl) (by kernel_rfl) (by kernel_rfl) (by kernel_rfl)
  have h11 := @run_callFunc_extern Tryz.prog 135 _ (ReflectliteValue.method (ReflectliteValue.valueError "reflectlite.Value.Elem" 0) ReflectliteValue.elem) Tryz.func135 (by kernel_rfl) (by kernel_rfl) (by kernel_rfl) (by kernel_rfl)
  have h12 := @run_callFunc_extern Tryz.prog 136 _ ReflectliteValue.set Tryz.func136 (by kernel_rfl) (by kernel_rfl) (by kernel_rfl) (by kernel_rfl)
  have tO := As.typeOfE
  have mA := As.methodAssignableTo
  have aE := As.assignableE
  have vE := As.valueOfE
  have f6 := As.valueOfP
  have f7 := As.typeP
  have mK := As.methodKind
  have mE := As.methodElem
  have mI := As.methodImplements
  have kP := As.kindP
  have kE := As.kindE
  have eP := As.elemP
  have iE := As.implementsE
  have tA := As.typeOfA
  have nA := As.noAsA
  have uA := As.unwrapA
  have aA := As.assignableA
  have hbl : b < w.heap.size := lt_of_cell hp
  have hp3 : (((w.alloc (.cells #[.pointer (some t)] 167)).alloc (.cells #[.pointer (some ⟨5, 167, none⟩), .pointer (some ⟨w.heap.size, 0, none⟩), .int .u64 150] 190)).alloc (.cells #[.pointer (some ⟨5, 167, none⟩), .pointer (some ⟨w.heap.size, 0, none⟩), .int .u64 150] 190)).cell? ⟨b, off, none⟩ = some (.int .i64 e) := by
    rw [World.cell?_alloc_lt _ _ ⟨b, off, none⟩ (by simp; omega), World.cell?_alloc_lt _ _ ⟨b, off, none⟩ (by simp; omega), World.cell?_alloc_lt _ _ ⟨b, off, none⟩ hbl]; exact hp
  have htl := lt_of_cell ht0
  have hlt : 0 < w.heap.size := lt_of_cell hg
  have n8 := As.isNilP ⟨w.heap.size, 0, none⟩ t ((w.alloc (.cells #[.pointer (some t)] 167)).alloc (.cells #[.pointer (some ⟨5, 167, none⟩), .pointer (some ⟨w.heap.size, 0, none⟩), .int .u64 150] 190)) (by simp)
  have hg2 : ((w.alloc (.cells #[.pointer (some t)] 167)).alloc (.cells #[.pointer (some ⟨5, 167, none⟩), .pointer (some ⟨w.heap.size, 0, none⟩), .int .u64 150] 190)).cell? ⟨0, 0, none⟩ = some (.iface 210 (.agg #[.pointer (some ⟨5, 33, none⟩)])) := by
    rw [World.cell?_alloc_lt _ _ ⟨0, 0, none⟩ (by simp only [World.size_alloc]; omega), World.cell?_alloc_lt _ _ ⟨0, 0, none⟩ hlt]; exact hg
  have el := As.elemVP ⟨w.heap.size, 0, none⟩ t (((w.alloc (.cells #[.pointer (some t)] 167)).alloc (.cells #[.pointer (some ⟨5, 167, none⟩), .pointer (some ⟨w.heap.size, 0, none⟩), .int .u64 150] 190)).alloc (.cells #[.pointer (some ⟨5, 167, none⟩), .pointer (some ⟨w.heap.size, 0, none⟩), .int .u64 150] 190)) (by rw [World.cell?_alloc_lt _ _ ⟨w.heap.size, 0, none⟩ (by simp; omega)]; simp)
  have st := As.setE t ⟨w.heap.size + 1 + 1 + 1, 0, none⟩ e old ((((w.alloc (.cells #[.pointer (some t)] 167)).alloc (.cells #[.pointer (some ⟨5, 167, none⟩), .pointer (some ⟨w.heap.size, 0, none⟩), .int .u64 150] 190)).alloc (.cells #[.pointer (some ⟨5, 167, none⟩), .pointer (some ⟨w.heap.size, 0, none⟩), .int .u64 150] 190)).alloc (.cells #[.int .i64 e] 27))
    (by rw [World.cell?_alloc_at _ _ _ _ (by simp)]; rfl)
    (by rw [World.cell?_alloc_lt _ _ t (by simp; omega), World.cell?_alloc_lt _ _ t (by simp; omega), World.cell?_alloc_lt _ _ t (by simp; omega), World.cell?_alloc_lt _ _ t htl]; exact ht0)
    (by rw [World.frozen?_alloc_old _ _ t (by simp; omega), World.frozen?_alloc_old _ _ t (by simp; omega), World.frozen?_alloc_old _ _ t (by simp; omega), World.frozen?_alloc_old _ _ t (Nat.ne_of_lt htl)]; exact hf0)
  go_enter Tryz.func96, Tryz.ntmps96
  go_wp2
  refine wp_loop_rounds 2 ?_
  rw [rounds_succ]
  go_wp2
  rw [rounds_succ]
  go_wp2
  go_ret
  exact ⟨rfl, rfl⟩
end Go.Proofs.YtkafhlpnhgipeaaGreatDoor
/-
  api.Tell and plain.Place: the Errno in an error (nil, an Errno, an *api.At), and its place. The laws' own 'bare' and 'placed' besides.
-/
namespace Go.Proofs.YtkafhlpnhgipeaaGreatDoor
open Go.RowKit

theorem tell_nil (w : World) : Calls Tryz.prog 63 #[.nilIface] w fun e w' => e = .returned (.int .i64 0) ∧ w = w' := by
  go_enter Tryz.func63, Tryz.ntmps63
  go_wp2
  go_ret
  exact ⟨rfl, rfl⟩

theorem errT.alloc {w : World} (h : errT w) (o : Obj) : errT (w.alloc o) := by
  unfold errT at h ⊢
  rw [World.cell?_alloc_lt _ _ _ (lt_of_cell h)]; exact h

theorem errT.below {w w' : World} (h : errT w) (hb : Below w.heap.size w w') : errT w' := by
  unfold errT at h ⊢
  rw [hb.cell (lt_of_cell h)]; exact h

theorem asEnd {w w' : World} {B : Nat} {e : Int} {old : Value} (hB : B < w.heap.size) (ht0 : w.cell? ⟨B, 0, none⟩ = some old)
    (h : ((asWorld w ⟨B, 0, none⟩).alloc (.cells #[.int .i64 e] 27)).setCell ⟨B, 0, none⟩ (.int .i64 e) = w') : w'.cell? ⟨B, 0, none⟩ = some (.int .i64 e) ∧ Below B w w' := by
  subst h
  have hs : (asWorld w ⟨B, 0, none⟩).heap.size = w.heap.size + 1 + 1 + 1 := by simp [asWorld]
  have hc : ((asWorld w ⟨B, 0, none⟩).alloc (.cells #[.int .i64 e] 27)).cell? ⟨B, 0, none⟩ = some old := by
    rw [World.cell?_alloc_lt _ _ _ (by rw [hs]; show B < _; omega)]
    unfold asWorld
    rw [World.cell?_alloc_lt _ _ _ (by simp; omega), World.cell?_alloc_lt _ _ _ (by simp; omega), World.cell?_alloc_lt _ _ _ hB]
    exact ht0
  refine ⟨World.cell?_setCell_same _ _ _ hc, ?_⟩
  refine Below.setCell ?_ (show B ≤ B from Nat.le_refl _) _
  refine Below.alloc ?_ (by rw [hs]; omega) _
  unfold asWorld
  exact (((Below.refl _ _).alloc (by omega) _).alloc (by simp; omega) _).alloc (by simp; omega) _

/-- An error that is no nil: an Errno, or an *api.At in memory; which Errno it is. -/
def isErr (w : World) (v : Value) (e : Int) : Prop :=
  v = .iface 27 (.int .i64 e) ∨ ∃ b off pl, v = .iface 122 (.pointer (some ⟨b, off, none⟩)) ∧ w.cell? ⟨b, off, none⟩ = some (.int .i64 e) ∧ w.cell? ⟨b, off + 1, none⟩ = some (.int .i64 pl)

theorem as_err (v : Value) (e : Int) (B : Nat) (old : Value) (w : World) (hg : errT w) (hB : B < w.heap.size) (ht0 : w.cell? ⟨B, 0, none⟩ = some old) (hf0 : w.frozen? ⟨B, 0, none⟩ = false) (hv : isErr w v e) :
    Calls Tryz.prog 96 #[v, .iface 167 (.pointer (some ⟨B, 0, none⟩))] w fun ev w' => ev = .returned (.bool true) ∧ w'.cell? ⟨B, 0, none⟩ = some (.int .i64 e) ∧ Below B w w' := by
  rcases hv with rfl | ⟨b, off, pl, rfl, hp, _⟩
  · exact (as_errno e _ old w hg ht0 hf0).mono fun _ _ ⟨h1, h2⟩ => ⟨h1, asEnd hB ht0 h2⟩
  · exact (as_at e b off _ old w hg ht0 hf0 hp).mono fun _ _ ⟨h1, h2⟩ => ⟨h1, asEnd hB ht0 h2⟩

theorem isErr.alloc {w : World} {v : Value} {e : Int} (h : isErr w v e) (o : Obj) : isErr (w.alloc o) v e := by
  rcases h with h | ⟨b, off, pl, h1, h2, h3⟩
  · exact .inl h
  · exact .inr ⟨b, off, pl, h1, by rw [World.cell?_alloc_lt _ _ _ (lt_of_cell h2)]; exact h2, by rw [World.cell?_alloc_lt _ _ _ (lt_of_cell h3)]; exact h3⟩
theorem isErr.below {w w' : World} {v : Value} {e : Int} (h : isErr w v e) (hb : Below w.heap.size w w') : isErr w' v e := by
  rcases h with h | ⟨b, off, pl, h1, h2, h3⟩
  · exact .inl h
  · exact .inr ⟨b, off, pl, h1, by rw [hb.cell (lt_of_cell h2)]; exact h2, by rw [hb.cell (lt_of_cell h3)]; exact h3⟩
theorem isErr.iface {w : World} {v : Value} {e : Int} (h : isErr w v e) : ∃ t u, v = .iface t u := by
  rcases h with h | ⟨b, off, pl, h1, h2, h3⟩
  · exact ⟨_, _, h⟩
  · exact ⟨_, _, h1⟩

set_option maxRecDepth 100000 in
set_option maxHeartbeats 1000000 in
theorem tell_err (v : Value) (e : Int) (w : World) (hg : errT w) (hv : isErr w v e) : Calls Tryz.prog 63 #[v] w fun r w' => r = .returned (.int .i64 e) ∧ Below w.heap.size w w' := by
  have HG := Lib.hid (hg.alloc (.cells #[.int .i64 0] 27))
  have HV := Lib.hid (hv.alloc (.cells #[.int .i64 0] 27))
  obtain ⟨t, u, rfl⟩ := hv.iface
  clear hg hv
  go_enter Tryz.func63, Tryz.ntmps63
  go_wp2_with (go_at_call 96; refine (as_err _ e w.heap.size (.int .i64 0) _ HG.out (by simp) (by simp) (by simp) HV.out).mono ?_; rintro ev w' ⟨rfl, hc, hb⟩; clear HG HV)
  go_ret
  exact ⟨rfl, ((Below.refl _ _).alloc (Nat.le_refl _) _).trans (by assumption)⟩
end Go.Proofs.YtkafhlpnhgipeaaGreatDoor
/-
  plain.Place: the Errno in an error, and its place (-1: none). The laws' own 'bare' and 'placed' besides.
-/
namespace Go.Proofs.YtkafhlpnhgipeaaGreatDoor
open Go.RowKit

/-- An error with a place, or none: nil, an Errno, an *api.At in memory. -/
def placeIs (w : World) (v : Value) (e pl : Int) : Prop :=
  (v = .nilIface ∧ e = 0 ∧ pl = -1) ∨ (v = .iface 27 (.int .i64 e) ∧ pl = -1) ∨ ∃ b off, v = .iface 122 (.pointer (some ⟨b, off, none⟩)) ∧ w.cell? ⟨b, off, none⟩ = some (.int .i64 e) ∧ w.cell? ⟨b, off + 1, none⟩ = some (.int .i64 pl)

theorem placeIs.alloc {w : World} {v : Value} {e pl : Int} (h : placeIs w v e pl) (o : Obj) : placeIs (w.alloc o) v e pl := by
  rcases h with h | h | ⟨b, off, h1, h2, h3⟩
  · exact .inl h
  · exact .inr (.inl h)
  · exact .inr (.inr ⟨b, off, h1, by rw [World.cell?_alloc_lt _ _ _ (lt_of_cell h2)]; exact h2, by rw [World.cell?_alloc_lt _ _ _ (lt_of_cell h3)]; exact h3⟩)
theorem placeIs.below {w w' : World} {v : Value} {e pl : Int} (h : placeIs w v e pl) (hb : Below w.heap.size w w') : placeIs w' v e pl := by
  rcases h with h | h | ⟨b, off, h1, h2, h3⟩
  · exact .inl h
  · exact .inr (.inl h)
  · exact .inr (.inr ⟨b, off, h1, by rw [hb.cell (lt_of_cell h2)]; exact h2, by rw [hb.cell (lt_of_cell h3)]; exact h3⟩)

set_option maxRecDepth 100000 in
set_option maxHeartbeats 1000000 in
theorem place_nil (w : World) : Calls Tryz.prog 26 #[.nilIface] w fun r w' => r = .returned (.tuple #[.int .i64 0, .int .i64 (-1)]) ∧ w = w' := by
  go_enter Tryz.func26, Tryz.ntmps26
  go_wp2_with (go_at_call 63; refine (tell_nil _).mono ?_; rintro e w' ⟨rfl, rfl⟩)
  refine wp_loop_rounds 1 ?_
  rw [rounds_succ]
  go_wp2
  go_ret2
  exact ⟨rfl, rfl⟩

set_option maxRecDepth 100000 in
set_option maxHeartbeats 1000000 in
theorem place_errno (e : Int) (w : World) (hg : errT w) : Calls Tryz.prog 26 #[.iface 27 (.int .i64 e)] w fun r w' => r = .returned (.tuple #[.int .i64 e, .int .i64 (-1)]) ∧ Below w.heap.size w w' := by
  have nU := As.noUnwrapE
  have nA := As.noAtE
  have HG := Lib.hid hg
  clear hg
  go_enter Tryz.func26, Tryz.ntmps26
  go_wp2_with (go_at_call 63; refine (tell_err _ e _ HG.out (.inl rfl)).mono ?_; rintro r w' ⟨rfl, hb⟩)
  refine wp_loop_rounds 1 ?_
  rw [rounds_succ]
  go_wp2
  go_ret2
  exact ⟨rfl, by assumption⟩

set_option maxRecDepth 100000 in
set_option maxHeartbeats 1000000 in
theorem place_at (e pl : Int) (b off : Nat) (w : World) (hg : errT w) (hc0 : w.cell? ⟨b, off, none⟩ = some (.int .i64 e)) (hc1 : w.cell? ⟨b, off + 1, none⟩ = some (.int .i64 pl)) :
    Calls Tryz.prog 26 #[.iface 122 (.pointer (some ⟨b, off, none⟩))] w fun r w' => r = .returned (.tuple #[.int .i64 e, .int .i64 pl]) ∧ Below w.heap.size w w' := by
  have iA := As.isAtA
  have HG := Lib.hid hg
  have HV : Hid (isErr w (.iface 122 (.pointer (some ⟨b, off, none⟩))) e) := .inr ⟨b, off, pl, rfl, hc0, hc1⟩
  have H1 := Lib.hid hc1
  have hlt := lt_of_cell hc0
  clear hg hc0 hc1
  go_enter Tryz.func26, Tryz.ntmps26
  go_wp2_with fail
  refine (tell_err _ e _ HG.out HV.out).mono ?_
  rintro r w1 ⟨rfl, hb⟩
  have hc1 : w1.cell? ⟨b, off + 1, none⟩ = some (.int .i64 pl) := (hb.cell hlt).trans H1.out
  have HB := Lib.hid hb
  clear hb
  go_wp2
  refine wp_loop_rounds 1 ?_
  rw [rounds_succ]
  go_wp2
  go_quiet (fail)
  go_wp2
  go_ret2
  exact ⟨rfl, below_drewN HB.out _⟩

theorem place_any (v : Value) (e pl : Int) (w : World) (hg : errT w) (h : placeIs w v e pl) :
    Calls Tryz.prog 26 #[v] w fun r w' => r = .returned (.tuple #[.int .i64 e, .int .i64 pl]) ∧ Below w.heap.size w w' := by
  rcases h with ⟨rfl, rfl, rfl⟩ | ⟨rfl, rfl⟩ | ⟨b, off, rfl, h0, h1⟩
  · exact (place_nil w).mono fun _ _ ⟨h1, h2⟩ => ⟨h1, h2 ▸ Below.refl _ _⟩
  · exact place_errno e w hg
  · exact place_at e pl b off w hg h0 h1


set_option maxRecDepth 100000 in
theorem placed_ok (v : Value) (e pl : Int) (w : World) (hg : errT w) (h : placeIs w v e pl) :
    Calls Tryz.prog 8 #[v, .agg #[.int .i64 e, .int .i64 pl]] w fun r w' => r = .returned (.bool true) ∧ Below w.heap.size w w' := by
  have HG := Lib.hid (hg.alloc (.cells #[.int .i64 e, .int .i64 pl] 29))
  have HP := Lib.hid (h.alloc (.cells #[.int .i64 e, .int .i64 pl] 29))
  clear hg h
  go_enter Tryz.func8, Tryz.ntmps8
  go_wp2_with fail
  refine (place_any _ _ _ _ HG.out HP.out).mono ?_
  rintro r w1 ⟨rfl, hb⟩
  have c0 : w1.cell? ⟨w.heap.size, 0, none⟩ = some (.int .i64 e) := (hb.cell (by simp)).trans (by simp)
  have c1 : w1.cell? ⟨w.heap.size, 1, none⟩ = some (.int .i64 pl) := (hb.cell (by simp)).trans (by simp)
  have HB : Hid (Below w.heap.size w w1) := ((Below.refl _ _).alloc (Nat.le_refl _) _).trans (hb.mono (by simp))
  clear hb HG HP
  go_wp2
  go_ret
  exact ⟨rfl, HB.out⟩
end Go.Proofs.YtkafhlpnhgipeaaGreatDoor
/-
  An *api.At in memory, or no error; worlds that draw.
-/
namespace Go.Proofs.YtkafhlpnhgipeaaGreatDoor
open Go.RowKit

/-- No error, or an *api.At in memory: its number, its place. -/
def atIs (w : World) (v : Value) (r : Nat × Int) : Prop :=
  (r = (0, -1) ∧ v = .nilIface) ∨ (r.1 ≠ 0 ∧ ∃ b, v = .iface 122 (.pointer (some ⟨b, 0, none⟩)) ∧ b < w.heap.size ∧ w.cell? ⟨b, 0, none⟩ = some (.int .i64 (r.1 : Nat)) ∧ w.cell? ⟨b, 1, none⟩ = some (.int .i64 r.2))
theorem atIs.below {w w' : World} {v : Value} {r : Nat × Int} (h : atIs w v r) (hb : Below w.heap.size w w') : atIs w' v r := by
  rcases h with h | ⟨h0, b, h1, h2, h3, h4⟩
  · exact .inl h
  · exact .inr ⟨h0, b, h1, Nat.lt_of_lt_of_le h2 hb.size, (hb.cell (p := ⟨b, 0, none⟩) h2).trans h3, (hb.cell (p := ⟨b, 1, none⟩) h2).trans h4⟩
theorem atIs.new (w : World) (e : Nat) (pl : Int) (he : e ≠ 0) : atIs (w.alloc (.cells #[.int .i64 e, .int .i64 pl] 125)) (.iface 122 (.pointer (some ⟨w.heap.size, 0, none⟩))) (e, pl) :=
  .inr ⟨he, _, rfl, by simp, by simp, by simp⟩
def RightIs (w : World) (r : Nat × Int) (e : Ending) (w' : World) : Prop :=
  ∃ v, e = .returned v ∧ atIs w' v r ∧ Below w.heap.size w w'
theorem atIs.place {w : World} {v : Value} {e : Nat} {pl : Int} (h : atIs w v (e, pl)) : placeIs w v e pl := by
  rcases h with ⟨h1, h2⟩ | ⟨_, b, h1, _, h3, h4⟩
  · simp only [Prod.mk.injEq] at h1
    exact .inl ⟨h2, by omega, h1.2⟩
  · exact .inr (.inr ⟨b, 0, h1, h3, h4⟩)
theorem atIs.isErr {w : World} {v : Value} {r : Nat × Int} (h : atIs w v r) (h0 : r.1 ≠ 0) : isErr w v (r.1 : Nat) := by
  rcases h with ⟨h1, h2⟩ | ⟨_, b, h1, _, h3, h4⟩
  · exact absurd (by rw [h1]) h0
  · exact .inr ⟨b, 0, _, h1, h3, h4⟩

/-- No error, an Errno alone, or an *api.At in memory: an error's number and place. -/
def anyErr (w : World) (v : Value) (r : Nat × Int) : Prop := atIs w v r ∨ (r.1 ≠ 0 ∧ r.2 = -1 ∧ v = .iface 27 (.int .i64 (r.1 : Nat)))
theorem anyErr.below {w w' : World} {v : Value} {r : Nat × Int} (h : anyErr w v r) (hb : Below w.heap.size w w') : anyErr w' v r := by
  rcases h with h | h
  · exact .inl (h.below hb)
  · exact .inr h
theorem anyErr.nil {w : World} {v : Value} {r : Nat × Int} (h : anyErr w v r) (h0 : r.1 = 0) : v = .nilIface := by
  rcases h with (⟨_, h⟩ | ⟨h, _⟩) | ⟨h, _⟩
  · exact h
  · exact absurd h0 h
  · exact absurd h0 h
theorem anyErr.iface {w : World} {v : Value} {r : Nat × Int} (h : anyErr w v r) (h0 : r.1 ≠ 0) : ∃ t u, v = .iface t u := by
  rcases h with (⟨h, _⟩ | ⟨_, b, h, _⟩) | ⟨_, _, h⟩
  · exact absurd (by rw [h]) h0
  · exact ⟨_, _, h⟩
  · exact ⟨_, _, h⟩
theorem anyErr.place {w : World} {v : Value} {e : Nat} {pl : Int} (h : anyErr w v (e, pl)) : placeIs w v e pl := by
  rcases h with h | ⟨_, h1, h2⟩
  · exact h.place
  · exact .inr (.inl ⟨h2, h1⟩)
theorem anyErr.isErr {w : World} {v : Value} {r : Nat × Int} (h : anyErr w v r) (h0 : r.1 ≠ 0) : isErr w v (r.1 : Nat) := by
  rcases h with h | ⟨_, h1, h2⟩
  · exact h.isErr h0
  · exact .inl h2
def VRightIs (w : World) (r : Nat × Int) (e : Ending) (w' : World) : Prop :=
  ∃ v, e = .returned v ∧ anyErr w' v r ∧ Below w.heap.size w w'

theorem undrew3 {w w' : World} (h : Below w.drew.heap.size w.drew w') : Below w.heap.size w w' := ((Below.refl _ _).drew).trans h
theorem below_drewq {w w' : World} {B : Nat} (h : Below B w w') (q : Nat) : Below B w (w'.drewN q) := by
  induction q with
  | zero => exact h
  | succ q ih => exact ih.drew
end Go.Proofs.YtkafhlpnhgipeaaGreatDoor
/-
  What a write into a strings.Builder leaves as it was: every block that is neither its own nor a row of bytes.
-/
namespace Go.Proofs.YtkafhlpnhgipeaaGreatDoor
open Go.RowKit

/-- All blocks that are neither so nor rows of bytes are as they were. -/
def NonB (b : Nat) (w w' : World) : Prop := ∀ k, k < w.heap.size → k ≠ b → (∀ cs fz, w.heap[k]? ≠ some (.cells cs 5 fz)) → w'.heap[k]? = w.heap[k]?
theorem NonB.of {b : Nat} {w w' : World} (h : Below w.heap.size w w') : NonB b w w' := fun k hk _ _ => h.block k hk
theorem NonB.trans {b : Nat} {w w1 w2 : World} (h : NonB b w w1) (k : NonB b w1 w2) (hs : w.heap.size ≤ w1.heap.size) : NonB b w w2 := fun i hi hb hu => by
  have e := h i hi hb hu
  exact (k i (by omega) hb (fun cs fz => by rw [e]; exact hu cs fz)).trans e
/-- A row of another type is kept. -/
theorem NonB.row {b : Nat} {w w' : World} {base size n : Nat} {e : TypeId} {v : Value} {xs : List Value} (h : NonB b w w') (ho : w.ownsRow base e size v n xs) (he : e ≠ 5) (hb : v.ownBlock ≠ some b) : w'.ownsRow base e size v n xs := by
  have hlt := World.ownsRow.lt ho
  refine ⟨ho.1, ?_⟩
  rcases ho.2 with h1 | ⟨g, cap, cur, hv, hbg, hh, r⟩
  · exact .inl h1
  · subst hv
    refine .inr ⟨g, cap, cur, rfl, hbg, ?_, r⟩
    rw [h g (hlt g rfl).2 (fun hc => hb (by rw [hc]; rfl)) (fun cs fz hc => by rw [hh] at hc; injection hc with hc; injection hc with _ ht; exact he ht)]
    exact hh

theorem copy_any2 (B b : Nat) (l : List UInt8) (w : World) (h : isBld w B b l) :
    Calls Tryz.prog 90 #[.pointer (some ⟨b, 0, none⟩)] w fun e w' => e = .returned (.tuple #[]) ∧ Lib.BuilderAt 109 5 B b (.pointer (some ⟨b, 0, none⟩)) (Lib.byteCells l) w' ∧ Below B w w' ∧ NonB b w w' ∧ w'.heap.size = w.heap.size := by
  rcases h with h | h
  · refine (copy_fresh b w h.cell0 h.shape h.frozen0).mono ?_
    rintro e w' ⟨rfl, rfl⟩
    exact ⟨rfl, h.used _, (Below.refl B w).setCell (p := ⟨b, 0, none⟩) h.1 _, fun k _ hk _ => heap_setCell_other _ _ _ _ (fun e => hk e), by simp⟩
  · refine (copy_used b w h.cell0).mono ?_
    rintro e w' ⟨rfl, rfl⟩
    exact ⟨rfl, h, Below.refl B _, fun k _ _ _ => rfl, rfl⟩

set_option maxRecDepth 100000 in
set_option maxHeartbeats 2000000 in
theorem bld_write2 (B b : Nat) (l : List UInt8) (s : ByteArray) (w : World) (h : isBld w B b l) (hlen : l.length + s.size ≤ 140737488355328) (hBw : B ≤ w.heap.size) :
    Calls Tryz.prog 83 #[.pointer (some ⟨b, 0, none⟩), .string s] w fun e w' => e = .returned (.tuple #[.int .i64 s.size, .nilIface]) ∧ isBld w' B b (l ++ s.data.toList) ∧ Below B w w' ∧ NonB b w w' := by
  obtain ⟨i0, hi, hz0, hz1, hz2⟩ := info_parts info_u8
  have hbl : (Lib.byteCells l).length = l.length := by simp [Lib.byteCells]
  go_enter Tryz.func83, Tryz.ntmps83
  go_wp2_with fail
  refine (copy_any2 B b l _ h).mono ?_
  rintro e w1 ⟨rfl, h1, hb1, hn1, hs1⟩
  have HN1 := Lib.hid hn1
  have HS1 := Lib.hid hs1
  obtain ⟨hB, v, hbk, hown, hne⟩ := h1
  have c0 : w1.cell? ⟨b, 0, none⟩ = some (.pointer (some ⟨b, 0, none⟩)) := by rw [Lib.cell_of_heap hbk]; rfl
  have c1 : w1.cell? ⟨b, 1, none⟩ = some v := by rw [Lib.cell_of_heap hbk]; rfl
  clear hn1 hs1
  go_wp2_with (at_builtin; refine Lib.wpList_append_own_string _ rfl _ _ 63 9 rfl B 5 i0 Tryz.underlying63 Tryz.underlying9 hi hz0 hz1 hz2 _ _ _ rfl hown s rfl ?c3 ?c4 ?c5 ?_)
  case c3 => rw [hbl]; unfold maxLen; omega
  case c4 => rw [hbl]; omega
  case c5 => have := hb1.size; omega
  intro v' w2 hown' hgrow _
  have hlt : b < w1.heap.size := by
    rcases Nat.lt_or_ge b w1.heap.size with h' | h'
    · exact h'
    · simp [Array.getElem?_eq_none h'] at hbk
  have hb2 : w2.heap[b]? = some (.cells #[.pointer (some ⟨b, 0, none⟩), v] 109 (0, 0)) := by
    rw [hgrow.block b hlt (fun e => hne e.symm)]
    exact hbk
  have d0 : w2.cell? ⟨b, 0, none⟩ = some (.pointer (some ⟨b, 0, none⟩)) := by rw [Lib.cell_of_heap hb2]; rfl
  have d1 : w2.cell? ⟨b, 1, none⟩ = some v := by rw [Lib.cell_of_heap hb2]; rfl
  have f1 : w2.frozen? ⟨b, 1, none⟩ = false := Lib.frozen_of_heap hb2 1
  obtain ⟨ao, n', cap, rfl⟩ : ∃ ao n' cap, v' = .slice ao n' cap := by
    rcases hown'.2 with ⟨hv, _⟩ | ⟨g, cap, cur, hv, _⟩
    · exact ⟨_, _, _, hv⟩
    · exact ⟨_, _, _, hv⟩
  have HO : Hid (w2.ownsRow B 5 1 (.slice ao n' cap) (Lib.byteCells (l ++ s.data.toList)).length (Lib.byteCells (l ++ s.data.toList))) := by
    have h : w2.ownsRow B 5 1 (.slice ao n' cap) (Lib.byteCells (l ++ s.data.toList)).length (Lib.byteCells (l ++ s.data.toList)) := by
      have e : Lib.byteCells (l ++ s.data.toList) = Lib.byteCells l ++ Lib.strCells s := by simp [Lib.byteCells, Lib.strCells]
      rw [e, List.length_append, Lib.strCells_length, hbl]
      exact hown'
    exact h
  have HNB : Hid (NonB b w1 w2) := Lib.hid (show NonB b w1 w2 from fun k hk hkb hu => hgrow.block k hk (fun e => by
    rcases hown.2 with ⟨hv, _⟩ | ⟨g, cap', cur, hv, _, hh, _⟩
    · rw [hv] at e; cases e
    · rw [hv] at e
      have : k = g := by simpa [Value.ownBlock] using e
      subst this
      exact hu _ _ hh))
  have HSZ : Hid (w1.heap.size ≤ w2.heap.size) := Lib.hid hgrow.size
  clear hown'
  go_wp2
  go_ret2
  refine ⟨rfl, .inr ?_, ?_, ?_⟩
  · exact Lib.BuilderAt.put (T := 109) (e := 5) hB hb2 HO.out (by decide)
  · exact (hb1.grown hgrow (by have := hb1.size; omega) (fun k hk => (hown.lt k hk).1)).setCell (p := ⟨b, 1, none⟩) hB _
  · refine ((HN1.out.trans HNB.out (by rw [HS1.out]; exact Nat.le_refl _)).trans (fun k _ hk _ => heap_setCell_other _ _ _ _ (fun e => hk e)) ?_)
    rw [← HS1.out]; exact HSZ.out
end Go.Proofs.YtkafhlpnhgipeaaGreatDoor
