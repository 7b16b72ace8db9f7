/-
  The contract of the document's Int: it answers what 'intL' gives.
-/
import Derived.Test.YtggokgiebdadpaaDoorVaryInt
import Derived.Test.YtggokgiebdadpaaDoorUnvary
namespace Go.Proofs.YtggokgiebdadpaaDoor
open Go.RowKit

theorem unvary_ok (s : ByteArray) (w : World) (hs : s.size ≤ maxLen) (n k : Nat) (h : getL s.data.toList = (n, k, 0)) :
    Calls Tryd.prog 39 #[.string s] w fun e w' => e = .returned (.tuple #[.int .u64 n, .int .i64 k, .int .i64 0]) ∧ w = w' :=
  (unvary_any s w hs).mono fun e w' ⟨h1, h2⟩ => ⟨h1.trans (by rw [h]; rfl), h2⟩
theorem unvary_bad (s : ByteArray) (w : World) (hs : s.size ≤ maxLen) (e : Nat) (h : getL s.data.toList = (0, 0, e)) :
    Calls Tryd.prog 39 #[.string s] w fun r w' => r = .returned (.tuple #[.int .u64 0, .int .i64 0, .int .i64 e]) ∧ w = w' :=
  (unvary_any s w hs).mono fun r w' ⟨h1, h2⟩ => ⟨h1.trans (by rw [h]; rfl), h2⟩

set_option maxRecDepth 100000 in
set_option maxHeartbeats 1000000 in
theorem rint_any (s : ByteArray) (most : Int) (w : World) (hs : s.size ≤ maxLen) (h0 : -9223372036854775808 ≤ most) (h1 : most ≤ 9223372036854775807) :
    Calls Tryd.prog 28 #[.string s, .int .i64 most] w fun r w' => r = .returned (intR (intL s.data.toList most)) ∧ w = w' := by
  rcases getL_cases s.data.toList with ⟨e, hg, he⟩ | ⟨n, k, hg, hn, hk1, hk2, hk3⟩
  · have HP : Hid (intR (intL s.data.toList most) = .tuple #[.int .i64 0, .int .i64 0, .int .i64 e]) := by
      show intR _ = _
      rw [intL_bad hg he]; rfl
    have HG := Lib.hid hg
    have hne : ((e : Int) != 0) = true := by simp; omega
    clear hg
    rw [HP.out]
    go_enter Tryd.func28, Tryd.ntmps28
    go_wp2_with (go_at_call 39; refine (unvary_bad _ _ hs e HG.out).mono ?_; rintro r w' ⟨rfl, rfl⟩)
    go_ret3
    exact ⟨rfl, rfl⟩
  · by_cases hm : most < 0
    · have HP : Hid (intR (intL s.data.toList most) = .tuple #[.int .i64 0, .int .i64 0, .int .i64 2]) := by
        show intR _ = _
        rw [intL_range hg (.inl hm)]; rfl
      have HG := Lib.hid hg
      clear hg
      rw [HP.out]
      go_enter Tryd.func28, Tryd.ntmps28
      go_wp2_with (go_at_call 39; refine (unvary_ok _ _ hs n k HG.out).mono ?_; rintro r w' ⟨rfl, rfl⟩)
      go_ret3
      exact ⟨rfl, rfl⟩
    · have hm' : 0 ≤ most := by omega
      by_cases hr : most < (n : Int)
      · have HP : Hid (intR (intL s.data.toList most) = .tuple #[.int .i64 0, .int .i64 0, .int .i64 2]) := by
          show intR _ = _
          rw [intL_range hg (.inr hr)]; rfl
        have HG := Lib.hid hg
        clear hg hm
        rw [HP.out]
        go_enter Tryd.func28, Tryd.ntmps28
        go_wp2_with (go_at_call 39; refine (unvary_ok _ _ hs n k HG.out).mono ?_; rintro r w' ⟨rfl, rfl⟩)
        go_ret3
        exact ⟨rfl, rfl⟩
      · have HP : Hid (intR (intL s.data.toList most) = .tuple #[.int .i64 n, .int .i64 k, .int .i64 0]) := by
          show intR _ = _
          rw [intL_ok hg (by omega)]; rfl
        have HG := Lib.hid hg
        have hr' : (n : Int) ≤ most := by omega
        clear hg hm hr
        rw [HP.out]
        go_enter Tryd.func28, Tryd.ntmps28
        go_wp2_with (go_at_call 39; refine (unvary_ok _ _ hs n k HG.out).mono ?_; rintro r w' ⟨rfl, rfl⟩)
        go_ret3
        exact ⟨rfl, rfl⟩
end Go.Proofs.YtggokgiebdadpaaDoor
