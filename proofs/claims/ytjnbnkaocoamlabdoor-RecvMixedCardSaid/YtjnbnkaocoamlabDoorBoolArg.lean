/-
  A []bool that comes in: what the row's own reading and reach say of it.
-/
import Derived.Test.YtjnbnkaocoamlabDoorProg
import Derived.WalkKit
import Derived.Handy
import Derived.KernelRfl
import Derived.Deep.Grids
import Derived.SizedLaws
import Derived.Laws.Rows
import Derived.Below
import Derived.ProofKit
namespace Go.Proofs.YtjnbnkaocoamlabDoor
open Go.ChangeShapes Go.WideShapes Go.ChangeAt Go.RowKit

theorem laidOutB2 : laidOutB Tryd.prog = true := by kernel_rfl
def IsBools (w : World) (v : Value) (l : List Bool) : Prop :=
  ∃ a cap, v = .slice a l.length cap ∧ l.length ≤ cap ∧ ∀ k n, l[k]? = some n → ∃ b off, a = some ⟨b, off, none⟩ ∧ b < w.heap.size ∧ w.cell? ⟨b, off + k, none⟩ = some (.bool n)
theorem isBools_nil (w : World) : IsBools w (.slice none 0 0) [] := ⟨none, 0, rfl, Nat.le_refl _, fun k s h => by simp at h⟩
theorem boolsArg {H : Type} {enc : TypeId × Value → H} {W : World} {held : Bool} {a0 : Option Addr} {len0 cap0 fuel : Nat} {d : DataW H} {p : List MemPlace}
    (hf : DataW.trod enc Tryd.prog W 0 (fun _ => true) held fuel 22 [.slice a0 len0 cap0] = some (d, p))
    (hw : ∀ x ∈ DataW.weights Tryd.prog 22 d, x ≤ reachBytes) :
    ∃ xs, IsBools W (.slice a0 len0 cap0) xs ∧ xs.length ≤ 140737488351232 ∧ ∀ n ∈ xs, n = n := by
  rcases Go.Deep.open_bools Tryd.underlying22 Tryd.underlying4 (by kernel_rfl) hf with ⟨hcs, _⟩ | ⟨a, l, c, B, hcs, _, hl, hm, hx, hcell⟩
  · simp at hcs
    obtain ⟨rfl, rfl, rfl⟩ := hcs
    exact ⟨[], isBools_nil W, by simp, fun _ _ => rfl⟩
  · simp at hcs
    obtain ⟨rfl, rfl, rfl⟩ := hcs
    have hlen : ((List.range len0).map B).length = len0 := by simp
    refine ⟨(List.range len0).map B, ⟨some a, cap0, by rw [hlen], by omega, fun k s hk => ?_⟩, ?_, fun _ _ => rfl⟩
    · have hkl : k < len0 := by have := (List.getElem?_eq_some_iff.1 hk).1; omega
      have e : B k = s := by simpa [hkl] using hk
      obtain ⟨b, off, spot⟩ := a
      have hci := hcell k (by omega)
      have hc0 := hcell 0 (by omega)
      have hspot : spot = none := by simpa [Addr.add] using World.cell?_spot hc0
      subst hspot
      refine ⟨b, off, rfl, ?_, ?_⟩
      · have := block_lt_of_cell hc0
        simpa [Addr.add] using this
      · rw [← e, ← hci]
        by_cases hi0 : k = 0 <;> simp [Addr.add, hi0]
    · have hd := (Prod.mk.inj hx).1
      have h8 : Tryd.prog.bytesOf 4 = 1 := by kernel_rfl
      rw [hlen]
      have hmx : maxLen ≤ 140737488351232 ∨ True := .inr trivial
      have := hw ((((List.range len0).map fun i => (DataW.lit (.bool (B i)) : DataW H)).length + ((List.range (cap0 - len0)).map fun j => (DataW.lit (.bool (B (len0 + j))) : DataW H)).length) * 1) (by
        rw [hd]
        unfold Go.Deep.boolRow
        rw [DataW.weights, Tryd.underlying22]
        simp only [h8]
        exact List.mem_cons_self)
      unfold reachBytes at this
      simp only [List.length_map, List.length_range] at this
      omega
end Go.Proofs.YtjnbnkaocoamlabDoor
