/-
  A []int that comes in: what the row's own reading and reach say of it (without texts: see KeyArg).
-/
import Derived.Test.YtjnbnkaocoamlaaDoorProg
import Derived.WalkKit
import Derived.Handy
import Derived.KernelRfl
import Derived.SliceStrings
import Derived.ChangeSlices
import Derived.SizedLaws
import Derived.Laws.Rows
import Derived.Below
import Derived.ProofKit
namespace Go.Proofs.YtjnbnkaocoamlaaDoor
open Go.ChangeShapes Go.WideShapes Go.ChangeAt Go.RowKit

theorem laidOutN : laidOutB Tryd.prog = true := by kernel_rfl
def IsNums (w : World) (v : Value) (l : List Int) : Prop :=
  ∃ a cap, v = .slice a l.length cap ∧ l.length ≤ cap ∧ ∀ k n, l[k]? = some n → ∃ b off, a = some ⟨b, off, none⟩ ∧ b < w.heap.size ∧ w.cell? ⟨b, off + k, none⟩ = some (.int .i64 n)
theorem IsNums.below {w w' : World} {v : Value} {l : List Int} (h : IsNums w v l) (hb : Below w.heap.size w w') : IsNums w' v l := by
  obtain ⟨a, cap, h1, h2, h3⟩ := h
  exact ⟨a, cap, h1, h2, fun k s hk => by obtain ⟨b, off, e, hlt, hc⟩ := h3 k s hk; exact ⟨b, off, e, Nat.lt_of_lt_of_le hlt hb.size, (hb.cell hlt).trans hc⟩⟩
theorem isNums_nil (w : World) : IsNums w (.slice none 0 0) [] := ⟨none, 0, rfl, Nat.le_refl _, fun k s h => by simp at h⟩
theorem numsArg {H : Type} {enc : TypeId × Value → H} {W : World} {spare : Nat → Bool} {held : Bool} {a0 : Option Addr} {len0 cap0 fuel : Nat} {d : DataW H} {p : List MemPlace}
    (hf : DataW.trod enc Tryd.prog W 0 spare held fuel 43 [.slice a0 len0 cap0] = some (d, p))
    (hw : ∀ x ∈ DataW.weights Tryd.prog 43 d, x ≤ reachBytes) :
    ∃ xs, IsNums W (.slice a0 len0 cap0) xs ∧ xs.length ≤ 140737488351232 ∧ ∀ n ∈ xs, -9223372036854775808 ≤ n ∧ n ≤ 9223372036854775807 := by
  rcases open_ints Tryd.underlying43 Tryd.underlying3 (by kernel_rfl) hf with ⟨hcs, _⟩ | ⟨a, l, c, ss, hcs, _, hl, hm, hz, hx, hcell, hws⟩
  · simp at hcs
    obtain ⟨rfl, rfl, rfl⟩ := hcs
    exact ⟨[], isNums_nil W, by simp, fun s hs => by cases hs⟩
  · simp at hcs
    obtain ⟨rfl, rfl, rfl⟩ := hcs
    have hll : len0 ≤ ss.length := by rw [hz]; split <;> omega
    have hlen : (ss.take len0).length = len0 := by rw [List.length_take]; omega
    refine ⟨ss.take len0, ⟨some a, cap0, by rw [hlen], by omega, fun k s hk => ?_⟩, ?_, ?_⟩
    · have hkl : k < len0 := by have := (List.getElem?_eq_some_iff.1 hk).1; omega
      rw [List.getElem?_take_of_lt hkl] at hk
      obtain ⟨b, off, spot⟩ := a
      have hci := hcell k (by omega)
      have hc0 := hcell 0 (by omega)
      have hspot : spot = none := by simpa [Addr.add] using World.cell?_spot hc0
      subst hspot
      refine ⟨b, off, rfl, ?_, ?_⟩
      · have := block_lt_of_cell hc0
        simpa [Addr.add] using this
      · have e : ss.getD k 0 = s := by simp [hk]
        rw [← e, ← hci]
        by_cases hi0 : k = 0 <;> simp [Addr.add, hi0]
    · have hd : d = .slice (lits .i64 (ss.take len0)) (lits .i64 (ss.drop len0)) := (Prod.mk.inj hx).1
      have h8 : Tryd.prog.bytesOf 3 = 8 := by kernel_rfl
      have := hw (((lits .i64 (ss.take len0) : List (DataW H)).length + (lits .i64 (ss.drop len0) : List (DataW H)).length) * 8) (by
        rw [hd, DataW.weights, Tryd.underlying43]
        simp only [h8]
        exact List.mem_cons_self)
      unfold reachBytes at this
      have e : (lits .i64 (ss.take len0) : List (DataW H)).length = len0 := by simp [lits]; omega
      omega
    · intro n hn
      exact bounds_i64 (hws n (List.mem_of_mem_take hn))
end Go.Proofs.YtjnbnkaocoamlaaDoor
