/-
  The contracts of the document's Span and Unspan.
-/
import Derived.Test.YtimaddmgooefdaaDoorSpan
import Derived.Test.YtimaddmgooefdaaDoorRefVary
import Derived.Test.YtimaddmgooefdaaDoorRefInt
namespace Go.Proofs.YtimaddmgooefdaaDoor
open Go.RowKit

set_option maxRecDepth 100000 in
theorem rspan_ok (s : ByteArray) (w : World) (hs : s.size ≤ 2000) :
    Calls Tryd.prog 39 #[.string s] w fun r w' => r = .returned (.tuple #[.string (spanB s), .int .i64 0]) ∧ Below w.heap.size w w' := by
  have hl := putL_le10 (n := s.size) (by omega)
  have HP : Hid (spanB s = ⟨(putL s.size).toArray⟩ ++ s) := rfl
  go_enter Tryd.func39, Tryd.ntmps39
  go_wp2_with (go_at_call 40; refine (rvary_any s.size _ (by omega)).mono ?_; rintro r w1 ⟨rfl, hb1⟩)
  go_ret2
  exact ⟨by rw [HP.out]; rfl, by assumption⟩

set_option maxRecDepth 100000 in
theorem rspan_bad (s : ByteArray) (w : World) (hs : 2000 < s.size) (hm : s.size ≤ maxLen) :
    Calls Tryd.prog 39 #[.string s] w fun r w' => r = .returned (.tuple #[.string ⟨#[]⟩, .int .i64 4]) ∧ w = w' := by
  unfold maxLen at hm
  go_enter Tryd.func39, Tryd.ntmps39
  go_wp2
  go_ret2
  exact ⟨rfl, rfl⟩

set_option maxRecDepth 100000 in
set_option maxHeartbeats 2000000 in
theorem runspan_any (s : ByteArray) (w : World) (hs : s.size ≤ 140737488351232) :
    Calls Tryd.prog 51 #[.string s] w fun r w' => r = .returned (spanR (getS s.data.toList)) ∧ w = w' := by
  have hs2 : s.size ≤ maxLen := by unfold maxLen; omega
  rcases getL_cases s.data.toList with ⟨e, hg, he⟩ | ⟨n, k, hg, hn, hk1, hk2, hk3⟩
  · have HP : Hid (spanR (getS s.data.toList) = .tuple #[.string ⟨#[]⟩, .int .i64 0, .int .i64 e]) := by
      show spanR _ = _
      rw [getS_bad hg he]; rfl
    have HG := Lib.hid hg
    have hne : ((e : Int) != 0) = true := by simp; omega
    clear hg
    rw [HP.out]
    go_enter Tryd.func51, Tryd.ntmps51
    go_wp2_with (go_at_call 48; refine (unvary_bad _ _ hs2 e HG.out).mono ?_; rintro r w' ⟨rfl, rfl⟩)
    go_ret3
    exact ⟨rfl, rfl⟩
  · rw [← size_data] at hk3
    by_cases h2 : 2000 < n
    · have HP : Hid (spanR (getS s.data.toList) = .tuple #[.string ⟨#[]⟩, .int .i64 0, .int .i64 4]) := by
        show spanR _ = _
        rw [getS_big hg h2]; rfl
      have HG := Lib.hid hg
      clear hg
      rw [HP.out]
      go_enter Tryd.func51, Tryd.ntmps51
      go_wp2_with (go_at_call 48; refine (unvary_ok _ _ hs2 n k HG.out).mono ?_; rintro r w' ⟨rfl, rfl⟩)
      go_ret3
      exact ⟨rfl, rfl⟩
    · have h2' : n ≤ 2000 := by omega
      by_cases h3 : s.size < k + n
      · have HP : Hid (spanR (getS s.data.toList) = .tuple #[.string ⟨#[]⟩, .int .i64 0, .int .i64 7]) := by
          show spanR _ = _
          rw [getS_miss hg h2 (by rw [← size_data]; exact h3)]; rfl
        have HG := Lib.hid hg
        clear hg h2
        rw [HP.out]
        go_enter Tryd.func51, Tryd.ntmps51
        go_wp2_with (go_at_call 48; refine (unvary_ok _ _ hs2 n k HG.out).mono ?_; rintro r w' ⟨rfl, rfl⟩)
        go_ret3
        exact ⟨rfl, rfl⟩
      · have hx : s.extract k (k + n) = ⟨((s.data.toList.drop k).take n).toArray⟩ := bs_ext (by rw [ext_data, List.drop_take, Nat.add_sub_cancel_left])
        have HP : Hid (spanR (getS s.data.toList) = .tuple #[.string (s.extract k (k + n)), .int .i64 ((k : Int) + n), .int .i64 0]) := by
          show spanR _ = _
          rw [getS_ok hg h2 (by rw [← size_data]; exact h3), hx]; rfl
        have HG := Lib.hid hg
        have h3' : k + n ≤ s.size := by omega
        clear hg h2 h3 hx
        rw [HP.out]
        go_enter Tryd.func51, Tryd.ntmps51
        go_wp2_with (go_at_call 48; refine (unvary_ok _ _ hs2 n k HG.out).mono ?_; rintro r w' ⟨rfl, rfl⟩)
        go_ret3
        exact ⟨rfl, rfl⟩
end Go.Proofs.YtimaddmgooefdaaDoor
