/-
  A []byte that the call itself makes: what append of one byte does to it, and what string(b) of it is. For this seat's types of []byte and byte.
-/
import Derived.Test.YtjnbnkaocoamlabDoorProg
import Derived.WalkKit
import Derived.Handy
import Derived.Laws.IdiomStrings
import Derived.KernelRfl
namespace Go.Proofs.YtjnbnkaocoamlabDoor
open Go.RowKit

/-- A byte as a cell. -/
def byteV (c : UInt8) : Value := .int .u8 (c.toNat : Int)

theorem info_u8 : (Tryd.prog.info? 5).map (fun i => (i.zero, i.size, i.bytes)) = some (some (.int .u8 0), 1, 1) := by kernel_rfl

/-- The slice v owns the bytes l, in blocks from base on. -/
def ownsB (w : World) (base : Nat) (v : Value) (l : List UInt8) : Prop := w.ownsRow base 5 1 v l.length (l.map byteV)

theorem ownsB_nil (w : World) (base : Nat) : ownsB w base (.slice none 0 0) [] := World.ownsRow_nil _ _ _ _
theorem ownsB.alloc {w : World} {base : Nat} {v : Value} {l : List UInt8} (h : ownsB w base v l) (o : Obj) : ownsB (w.alloc o) base v l := World.ownsRow.alloc h o

theorem wpList_append_byte {w : World} {ops : Array Oper} {rest : List Oper} {o : Oper} {a : Act} {Q : Exit → Act → World → Prop} (hgd : o.guard = none) (s x : Operand)
    (ho : o.op = .call { callee := .builtin .append, args := #[s, x], argTypes := #[53, 53] })
    (base : Nat) (v : Value) (l : List UInt8) (hs : a.eval s = v) (hown : ownsB w base v l)
    (ad : Addr) (c : Nat) (hx : a.eval x = .slice (some ad) 1 c) (b : Int) (d : UInt8) (hcell : w.cell? (ad.add 0) = some (.int .u8 b)) (hb : b = (d.toNat : Int))
    (hlen : l.length + 1 ≤ 140737488355328) (hbase : base ≤ w.heap.size)
    (h : ∀ v' w', ownsB w' base v' (l ++ [d]) → w.grownBy w' v.ownBlock → v' ≠ .slice none 0 0 → wpList Tryd.prog ops Q rest (a.put o.dst v') w') : wpList Tryd.prog ops Q (o :: rest) a w := by
  obtain ⟨i0, hi, hz0, hz1, hz2⟩ := info_parts info_u8
  refine wpList_append_own w hgd s x 53 ho base 5 i0 (.int .u8 0) 1 1 Tryd.underlying53 hi hz0 hz1 hz2 rfl (by decide) v l.length (l.map byteV) hs hown ad 1 c [byteV d] hx rfl ?_ ?_ (by unfold maxLen; omega) (by omega) hbase ?_
  · intro j u hj
    match j, hj with
    | 0, hj => simp at hj; subst hj; rw [hcell, hb]; rfl
  · intro u hu; simp at hu; subst hu; rfl
  · intro v' w' h1 h2 h3
    refine h v' w' ?_ h2 ?_
    · unfold ownsB
      rw [List.length_append, List.map_append]
      exact h1
    · intro e; have := (h3.1 e).2; omega

/-- 'string(b)'. -/
theorem run_string_ownsB {w : World} {base : Nat} {v : Value} {l : List UInt8} (h : ownsB w base v l) :
    (convert 53 9 v).run Tryd.prog w = .ok (.string ⟨l.toArray⟩) w := by
  have hall := h
  obtain ⟨h0, h1⟩ := h
  rcases h1 with ⟨rfl, hn⟩ | ⟨g, cap, cur, rfl, hb, hh, hc, hm, hs, ht⟩
  · have : l = [] := List.length_eq_zero_iff.1 hn
    subst this
    rw [run_convert_bytes_string w _ _ _ _ _ _ Tryd.underlying53 Tryd.underlying5 Tryd.underlying9]
    rfl
  · refine run_convert_bytes_back w _ _ _ _ _ _ Tryd.underlying53 Tryd.underlying5 Tryd.underlying9 fun j hj => ?_
    exact World.ownsRow.cells hall rfl j (byteV l[j]) (by simp [List.getElem?_eq_getElem hj])
end Go.Proofs.YtjnbnkaocoamlabDoor
