/-
  api.Tell and plain.Place: the Errno in an error (nil, an Errno, an *api.At), and its place. The laws' own 'bare' and 'placed' besides.
-/
import Derived.Test.YtjnbnkaocoamlabDoorAsW
import Derived.Lib.Hide
namespace Go.Proofs.YtjnbnkaocoamlabDoor
open Go.RowKit

theorem tell_nil (w : World) : Calls Tryd.prog 14 #[.nilIface] w fun e w' => e = .returned (.int .i64 0) ∧ w = w' := by
  go_enter Tryd.func14, Tryd.ntmps14
  go_wp2
  go_ret
  exact ⟨rfl, rfl⟩

theorem errT.alloc {w : World} (h : errT w) (o : Obj) : errT (w.alloc o) := by
  unfold errT at h ⊢
  rw [World.cell?_alloc_lt _ _ _ (lt_of_cell h)]; exact h

theorem errT.below {w w' : World} (h : errT w) (hb : Below w.heap.size w w') : errT w' := by
  unfold errT at h ⊢
  rw [hb.cell (lt_of_cell h)]; exact h

theorem asEnd {w w' : World} {B : Nat} {e : Int} {old : Value} (hB : B < w.heap.size) (ht0 : w.cell? ⟨B, 0, none⟩ = some old)
    (h : ((asWorld w ⟨B, 0, none⟩).alloc (.cells #[.int .i64 e] 43)).setCell ⟨B, 0, none⟩ (.int .i64 e) = w') : w'.cell? ⟨B, 0, none⟩ = some (.int .i64 e) ∧ Below B w w' := by
  subst h
  have hs : (asWorld w ⟨B, 0, none⟩).heap.size = w.heap.size + 1 + 1 + 1 := by simp [asWorld]
  have hc : ((asWorld w ⟨B, 0, none⟩).alloc (.cells #[.int .i64 e] 43)).cell? ⟨B, 0, none⟩ = some old := by
    rw [World.cell?_alloc_lt _ _ _ (by rw [hs]; show B < _; omega)]
    unfold asWorld
    rw [World.cell?_alloc_lt _ _ _ (by simp; omega), World.cell?_alloc_lt _ _ _ (by simp; omega), World.cell?_alloc_lt _ _ _ hB]
    exact ht0
  refine ⟨World.cell?_setCell_same _ _ _ hc, ?_⟩
  refine Below.setCell ?_ (show B ≤ B from Nat.le_refl _) _
  refine Below.alloc ?_ (by rw [hs]; omega) _
  unfold asWorld
  exact (((Below.refl _ _).alloc (by omega) _).alloc (by simp; omega) _).alloc (by simp; omega) _

/-- An error that is no nil: an Errno, or an *api.At in memory; which Errno it is. -/
def isErr (w : World) (v : Value) (e : Int) : Prop :=
  v = .iface 43 (.int .i64 e) ∨ ∃ (b off : Nat) (pl : Int), False ∧ w.cell? ⟨b, off, none⟩ = some (.int .i64 e) ∧ w.cell? ⟨b, off + 1, none⟩ = some (.int .i64 pl)

theorem as_err (v : Value) (e : Int) (B : Nat) (old : Value) (w : World) (hg : errT w) (hB : B < w.heap.size) (ht0 : w.cell? ⟨B, 0, none⟩ = some old) (hf0 : w.frozen? ⟨B, 0, none⟩ = false) (hv : isErr w v e) :
    Calls Tryd.prog 28 #[v, .iface 64 (.pointer (some ⟨B, 0, none⟩))] w fun ev w' => ev = .returned (.bool true) ∧ w'.cell? ⟨B, 0, none⟩ = some (.int .i64 e) ∧ Below B w w' := by
  rcases hv with rfl | ⟨b, off, pl, hf, hp, _⟩
  · exact (as_errno e _ old w hg ht0 hf0).mono fun _ _ ⟨h1, h2⟩ => ⟨h1, asEnd hB ht0 h2⟩
  · exact hf.elim

theorem isErr.alloc {w : World} {v : Value} {e : Int} (h : isErr w v e) (o : Obj) : isErr (w.alloc o) v e := by
  rcases h with h | ⟨b, off, pl, h1, h2, h3⟩
  · exact .inl h
  · exact .inr ⟨b, off, pl, h1, by rw [World.cell?_alloc_lt _ _ _ (lt_of_cell h2)]; exact h2, by rw [World.cell?_alloc_lt _ _ _ (lt_of_cell h3)]; exact h3⟩
theorem isErr.below {w w' : World} {v : Value} {e : Int} (h : isErr w v e) (hb : Below w.heap.size w w') : isErr w' v e := by
  rcases h with h | ⟨b, off, pl, h1, h2, h3⟩
  · exact .inl h
  · exact .inr ⟨b, off, pl, h1, by rw [hb.cell (lt_of_cell h2)]; exact h2, by rw [hb.cell (lt_of_cell h3)]; exact h3⟩
theorem isErr.iface {w : World} {v : Value} {e : Int} (h : isErr w v e) : ∃ t u, v = .iface t u := by
  rcases h with h | ⟨b, off, pl, h1, h2, h3⟩
  · exact ⟨_, _, h⟩
  · exact h1.elim

set_option maxRecDepth 100000 in
set_option maxHeartbeats 1000000 in
theorem tell_err (v : Value) (e : Int) (w : World) (hg : errT w) (hv : isErr w v e) : Calls Tryd.prog 14 #[v] w fun r w' => r = .returned (.int .i64 e) ∧ Below w.heap.size w w' := by
  have HG := Lib.hid (hg.alloc (.cells #[.int .i64 0] 43))
  have HV := Lib.hid (hv.alloc (.cells #[.int .i64 0] 43))
  obtain ⟨t, u, rfl⟩ := hv.iface
  clear hg hv
  go_enter Tryd.func14, Tryd.ntmps14
  go_wp2_with (go_at_call 28; refine (as_err _ e w.heap.size (.int .i64 0) _ HG.out (by simp) (by simp) (by simp) HV.out).mono ?_; rintro ev w' ⟨rfl, hc, hb⟩; clear HG HV)
  go_ret
  exact ⟨rfl, ((Below.refl _ _).alloc (Nat.le_refl _) _).trans (by assumption)⟩
end Go.Proofs.YtjnbnkaocoamlabDoor
