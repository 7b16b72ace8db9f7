/-
  The contracts of vary.Int and of the document's Int: both answer what 'intL' gives.
-/
import Derived.Test.YtjnbnkaocoamlabDoorCounted
namespace Go.Proofs.YtjnbnkaocoamlabDoor
open Go.RowKit

/-- A number of no more than so much. -/
def intL (l : List UInt8) (most : Int) : Nat × Nat × Nat :=
  if (getL l).2.2 ≠ 0 then (0, 0, (getL l).2.2) else if most < 0 ∨ most < (getL l).1 then (0, 0, 2) else getL l
/-- An int, how many bytes it has, an error. -/
def intV (r : Nat × Nat × Nat) : Value := .tuple #[.int .i64 r.1, .int .i64 r.2.1, errV r.2.2]
def intR (r : Nat × Nat × Nat) : Value := .tuple #[.int .i64 r.1, .int .i64 r.2.1, .int .i64 r.2.2]

theorem intL_bad {l : List UInt8} {most : Int} {e : Nat} (h : getL l = (0, 0, e)) (he : e ≠ 0) : intL l most = (0, 0, e) := by
  unfold intL; rw [h]; rw [if_pos (by exact he)]
theorem intL_range {l : List UInt8} {most : Int} {n k : Nat} (h : getL l = (n, k, 0)) (hm : most < 0 ∨ most < n) : intL l most = (0, 0, 2) := by
  unfold intL; rw [h]; rw [if_neg (by simp), if_pos hm]
theorem intL_ok {l : List UInt8} {most : Int} {n k : Nat} (h : getL l = (n, k, 0)) (hm : ¬ (most < 0 ∨ most < n)) : intL l most = (n, k, 0) := by
  unfold intL; rw [h]; rw [if_neg (by simp), if_neg hm]
theorem getL_cases (l : List UInt8) : (∃ e, getL l = (0, 0, e) ∧ e ≠ 0) ∨ ∃ n k, getL l = (n, k, 0) ∧ n ≤ 18446744073709551615 ∧ 1 ≤ k ∧ k ≤ 10 ∧ k ≤ l.length := by
  unfold getL
  split
  · rename_i e he
    refine .inl ⟨e, rfl, ?_⟩
    have := scan_err _ _ _ he
    omega
  · rename_i k hk
    obtain ⟨a, b, c, d⟩ := scan_lt hk
    exact .inr ⟨_, _, rfl, by omega, a, b, c⟩

set_option maxRecDepth 100000 in
set_option maxHeartbeats 1000000 in
theorem int_any (s : ByteArray) (most : Int) (w : World) (hs : s.size ≤ maxLen) (h0 : -9223372036854775808 ≤ most) (h1 : most ≤ 9223372036854775807) :
    Calls Tryd.prog 40 #[.string s, .int .i64 most] w fun r w' => r = .returned (intV (intL s.data.toList most)) ∧ w = w' := by
  rcases getL_cases s.data.toList with ⟨e, hg, he⟩ | ⟨n, k, hg, hn, hk1, hk2, hk3⟩
  · have HP : Hid (intV (intL s.data.toList most) = .tuple #[.int .i64 0, .int .i64 0, .iface 43 (.int .i64 e)]) := by
      show intV _ = _
      rw [intL_bad hg he]; unfold intV errV; rw [if_neg he]; rfl
    have HG := Lib.hid hg
    clear hg
    rw [HP.out]
    go_enter Tryd.func40, Tryd.ntmps40
    go_wp2_with (go_at_call 46; refine (get_bad _ _ hs e HG.out he).mono ?_; rintro r w' ⟨rfl, rfl⟩)
    go_ret3
    exact ⟨rfl, rfl⟩
  · by_cases hm : most < 0
    · have HP : Hid (intV (intL s.data.toList most) = .tuple #[.int .i64 0, .int .i64 0, .iface 43 (.int .i64 2)]) := by
        show intV _ = _
        rw [intL_range hg (.inl hm)]; rfl
      have HG := Lib.hid hg
      clear hg
      rw [HP.out]
      go_enter Tryd.func40, Tryd.ntmps40
      go_wp2_with (go_at_call 46; refine (get_ok _ _ hs n k HG.out).mono ?_; rintro r w' ⟨rfl, rfl⟩)
      go_ret3
      exact ⟨rfl, rfl⟩
    · have hm' : 0 ≤ most := by omega
      by_cases hr : most < (n : Int)
      · have HP : Hid (intV (intL s.data.toList most) = .tuple #[.int .i64 0, .int .i64 0, .iface 43 (.int .i64 2)]) := by
          show intV _ = _
          rw [intL_range hg (.inr hr)]; rfl
        have HG := Lib.hid hg
        clear hg hm
        rw [HP.out]
        go_enter Tryd.func40, Tryd.ntmps40
        go_wp2_with (go_at_call 46; refine (get_ok _ _ hs n k HG.out).mono ?_; rintro r w' ⟨rfl, rfl⟩)
        go_ret3
        exact ⟨rfl, rfl⟩
      · have HP : Hid (intV (intL s.data.toList most) = .tuple #[.int .i64 n, .int .i64 k, .nilIface]) := by
          show intV _ = _
          rw [intL_ok hg (by omega)]; rfl
        have HG := Lib.hid hg
        have hr' : (n : Int) ≤ most := by omega
        clear hg hm hr
        rw [HP.out]
        go_enter Tryd.func40, Tryd.ntmps40
        go_wp2_with (go_at_call 46; refine (get_ok _ _ hs n k HG.out).mono ?_; rintro r w' ⟨rfl, rfl⟩)
        go_ret3
        exact ⟨rfl, rfl⟩
end Go.Proofs.YtjnbnkaocoamlabDoor
