/-
  vector.Read as its callers meet it.
-/
import Derived.Test.YthdflbaknfiglaaDoorVecRead
namespace Go.Proofs.YthdflbaknfiglaaDoor
open Go.RowKit

theorem vread_good (s : ByteArray) (n : Nat) (l : List Ent) (w : World) (hs : s.size ≤ 1000000) (hg : errT w) (h : vreadF s.data.toList = (0, n, l)) :
    Calls Tryd.prog 29 #[.string s] w fun e w' => ∃ v, e = .returned (.tuple #[v, .int .i64 (n : Int), .nilIface]) ∧ IsEnts w' v l ∧ Below w.heap.size w w' :=
  (vread_any s w hs hg).mono fun e w' ⟨v, h1, h2, h3⟩ => by
    rw [h] at h1 h2
    exact ⟨v, h1, h2.is, h3⟩
theorem vread_err (s : ByteArray) (e : Nat) (w : World) (hs : s.size ≤ 1000000) (hg : errT w) (h : vreadF s.data.toList = (e, 0, [])) (he : e ≠ 0) :
    Calls Tryd.prog 29 #[.string s] w fun x w' => ∃ v, x = .returned (.tuple #[v, .int .i64 0, .iface 27 (.int .i64 (e : Nat))]) ∧ IsEnts w' v [] ∧ Below w.heap.size w w' :=
  (vread_any s w hs hg).mono fun x w' ⟨v, h1, h2, h3⟩ => by
    rw [h] at h1 h2
    simp only at h1
    rw [noV_e he] at h1
    exact ⟨v, h1, h2.is, h3⟩
/-- What is told besides: an error has neither bytes nor entries. -/
theorem vread_cases (s : List UInt8) : (∃ e, vreadF s = (e, 0, []) ∧ e ≠ 0) ∨ ∃ n l, vreadF s = (0, n, l) := by
  rcases intL_cases s 16 with ⟨e, hi, he, _⟩ | ⟨R, j, hi, _⟩
  · exact .inl ⟨e, vread_few hi he, he⟩
  · match hr : rdA R (s.drop j) j 0 [] with
    | .inl e =>
      refine .inl ⟨e, vread_bad hi hr, ?_⟩
      have : ∀ (k : Nat) (s : List UInt8) (used : Nat) (least : Int) (acc : List Ent), rdA k s used least acc = .inl e → e ≠ 0 := by
        intro k
        induction k with
        | zero => intro s used least acc h; cases h
        | succ k ih =>
          intro s used least acc h
          match hg : getR s 0 least [] with
          | .inl e' => rw [rdA_bad hg] at h; injection h with h; subst h; exact getR_err hg
          | .inr (run, j) => rw [rdA_ok hg] at h; exact ih _ _ _ _ h
      exact this _ _ _ _ _ hr
    | .inr (l, n) =>
      by_cases h0 : (vrightF l).1 = 0
      · exact .inr ⟨n, l, vread_ok hi hr h0⟩
      · exact .inl ⟨_, vread_wrong hi hr h0, h0⟩
end Go.Proofs.YthdflbaknfiglaaDoor
