/-
  plain.Place: the Errno in an error, and its place (-1: none). The laws' own 'bare' and 'placed' besides.
-/
import Derived.Test.YtggokgiebdadpaaDoorTell
import Derived.BigQuiet
import Derived.Deep.QuietTactic
import Derived.WalkSmall
namespace Go.Proofs.YtggokgiebdadpaaDoor
open Go.RowKit

/-- An error with a place, or none: nil, an Errno, an *api.At in memory. -/
def placeIs (w : World) (v : Value) (e pl : Int) : Prop :=
  (v = .nilIface ∧ e = 0 ∧ pl = -1) ∨ (v = .iface 23 (.int .i64 e) ∧ pl = -1) ∨ ∃ b off, v = .iface 62 (.pointer (some ⟨b, off, none⟩)) ∧ w.cell? ⟨b, off, none⟩ = some (.int .i64 e) ∧ w.cell? ⟨b, off + 1, none⟩ = some (.int .i64 pl)

theorem placeIs.alloc {w : World} {v : Value} {e pl : Int} (h : placeIs w v e pl) (o : Obj) : placeIs (w.alloc o) v e pl := by
  rcases h with h | h | ⟨b, off, h1, h2, h3⟩
  · exact .inl h
  · exact .inr (.inl h)
  · exact .inr (.inr ⟨b, off, h1, by rw [World.cell?_alloc_lt _ _ _ (lt_of_cell h2)]; exact h2, by rw [World.cell?_alloc_lt _ _ _ (lt_of_cell h3)]; exact h3⟩)
theorem placeIs.below {w w' : World} {v : Value} {e pl : Int} (h : placeIs w v e pl) (hb : Below w.heap.size w w') : placeIs w' v e pl := by
  rcases h with h | h | ⟨b, off, h1, h2, h3⟩
  · exact .inl h
  · exact .inr (.inl h)
  · exact .inr (.inr ⟨b, off, h1, by rw [hb.cell (lt_of_cell h2)]; exact h2, by rw [hb.cell (lt_of_cell h3)]; exact h3⟩)

set_option maxRecDepth 100000 in
set_option maxHeartbeats 1000000 in
theorem place_nil (w : World) : Calls Tryd.prog 18 #[.nilIface] w fun r w' => r = .returned (.tuple #[.int .i64 0, .int .i64 (-1)]) ∧ w = w' := by
  go_enter Tryd.func18, Tryd.ntmps18
  go_wp2_with (go_at_call 34; refine (tell_nil _).mono ?_; rintro e w' ⟨rfl, rfl⟩)
  refine wp_loop_rounds 1 ?_
  rw [rounds_succ]
  go_wp2
  go_ret2
  exact ⟨rfl, rfl⟩

set_option maxRecDepth 100000 in
set_option maxHeartbeats 1000000 in
theorem place_errno (e : Int) (w : World) (hg : errT w) : Calls Tryd.prog 18 #[.iface 23 (.int .i64 e)] w fun r w' => r = .returned (.tuple #[.int .i64 e, .int .i64 (-1)]) ∧ Below w.heap.size w w' := by
  have nU := As.noUnwrapE
  have nA := As.noAtE
  have HG := Lib.hid hg
  clear hg
  go_enter Tryd.func18, Tryd.ntmps18
  go_wp2_with (go_at_call 34; refine (tell_err _ e _ HG.out (.inl rfl)).mono ?_; rintro r w' ⟨rfl, hb⟩)
  refine wp_loop_rounds 1 ?_
  rw [rounds_succ]
  go_wp2
  go_ret2
  exact ⟨rfl, by assumption⟩

set_option maxRecDepth 100000 in
set_option maxHeartbeats 1000000 in
theorem place_at (e pl : Int) (b off : Nat) (w : World) (hg : errT w) (hc0 : w.cell? ⟨b, off, none⟩ = some (.int .i64 e)) (hc1 : w.cell? ⟨b, off + 1, none⟩ = some (.int .i64 pl)) :
    Calls Tryd.prog 18 #[.iface 62 (.pointer (some ⟨b, off, none⟩))] w fun r w' => r = .returned (.tuple #[.int .i64 e, .int .i64 pl]) ∧ Below w.heap.size w w' := by
  have iA := As.isAtA
  have HG := Lib.hid hg
  have HV : Hid (isErr w (.iface 62 (.pointer (some ⟨b, off, none⟩))) e) := .inr ⟨b, off, pl, rfl, hc0, hc1⟩
  have H1 := Lib.hid hc1
  have hlt := lt_of_cell hc0
  clear hg hc0 hc1
  go_enter Tryd.func18, Tryd.ntmps18
  go_wp2_with fail
  refine (tell_err _ e _ HG.out HV.out).mono ?_
  rintro r w1 ⟨rfl, hb⟩
  have hc1 : w1.cell? ⟨b, off + 1, none⟩ = some (.int .i64 pl) := (hb.cell hlt).trans H1.out
  have HB := Lib.hid hb
  clear hb
  go_wp2
  refine wp_loop_rounds 1 ?_
  rw [rounds_succ]
  go_wp2
  go_quiet (fail)
  go_wp2
  go_ret2
  exact ⟨rfl, below_drewN HB.out _⟩

theorem place_any (v : Value) (e pl : Int) (w : World) (hg : errT w) (h : placeIs w v e pl) :
    Calls Tryd.prog 18 #[v] w fun r w' => r = .returned (.tuple #[.int .i64 e, .int .i64 pl]) ∧ Below w.heap.size w w' := by
  rcases h with ⟨rfl, rfl, rfl⟩ | ⟨rfl, rfl⟩ | ⟨b, off, rfl, h0, h1⟩
  · exact (place_nil w).mono fun _ _ ⟨h1, h2⟩ => ⟨h1, h2 ▸ Below.refl _ _⟩
  · exact place_errno e w hg
  · exact place_at e pl b off w hg h0 h1

set_option maxRecDepth 100000 in
theorem bare_ok (v : Value) (e : Int) (w : World) (hg : errT w) (h : placeIs w v e (-1)) :
    Calls Tryd.prog 7 #[v, .int .i64 e] w fun r w' => r = .returned (.bool true) ∧ Below w.heap.size w w' := by
  go_enter Tryd.func7, Tryd.ntmps7
  go_wp2_with (go_at_call 18; refine (place_any _ _ _ _ hg h).mono ?_; rintro r w' ⟨rfl, hb⟩)
  go_ret
  exact ⟨rfl, by assumption⟩

end Go.Proofs.YtggokgiebdadpaaDoor
