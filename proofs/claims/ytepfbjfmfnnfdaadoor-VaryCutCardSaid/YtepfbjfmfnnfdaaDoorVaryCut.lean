/-
  The walk of 'packtrainkeep.VaryCut': no beginning of a number's bytes is one.
-/
import Derived.Test.YtepfbjfmfnnfdaaDoorCounted
import Derived.Test.YtepfbjfmfnnfdaaDoorPick
import Derived.Test.YtepfbjfmfnnfdaaDoorStr
namespace Go.Proofs.YtepfbjfmfnnfdaaDoor
open Go.RowKit

set_option maxRecDepth 100000 in
set_option maxHeartbeats 1000000 in
theorem varyCut_walk (a : Int) (a0 : 0 ≤ a) (a1 : a ≤ 18446744073709551615) (b : Int) (_b0 : -9223372036854775808 ≤ b) (_b1 : b ≤ 9223372036854775807) (w : World) (hg : errT w) :
    Calls Tryd.prog 8 #[.int .u64 a, .int .i64 b] w fun e w' => e = .returned (.bool true) ∧ Below w.heap.size w w' := by
  obtain ⟨n, rfl⟩ := Int.eq_ofNat_of_zero_le a0
  go_enter Tryd.func8, Tryd.ntmps8
  go_wp2_with fail
  refine (counted_any _ hg).mono ?_
  rintro r w1 ⟨rfl, hb1⟩
  have HG := Lib.hid (hg.below hb1)
  clear hg
  go_wp2_with fail
  refine (put_nat n _ (by omega)).mono ?_
  rintro r w2 ⟨rfl, hb2⟩
  have HB : Hid (Below w.heap.size w w2) := hb1.trans (hb2.mono hb1.size)
  have HG2 : Hid (errT w2) := HG.out.below hb2
  have hl := putL_le10 (n := n) (by omega)
  have hl0 := putL_pos n
  have HC : Hid (∀ j, j < (putL n).length → getL ((putL n).take j) = (0, 0, 7)) := fun j hj => getL_cut n j (by omega) hj
  obtain ⟨l, hl'⟩ : ∃ l, l = putL n := ⟨_, rfl⟩
  rw [← hl'] at hl hl0 HC ⊢
  clear hl' HG hb1 hb2
  have hne : l.isEmpty = false := by cases l <;> simp at hl0 ⊢
  go_wp2_with fail
  refine (pick_any b l.length _ (by omega) (by omega)).mono ?_
  rintro r w' ⟨rfl, rfl⟩
  obtain ⟨k, hk, hkl⟩ : ∃ k : Nat, pickN b l.length = k ∧ k < l.length := by
    have := pickN_pos (a := b) (n := l.length) (by omega)
    exact ⟨(pickN b l.length).toNat, by omega, by omega⟩
  rw [hk]
  clear hk
  go_wp2_with fail
  refine (get_bad _ _ ?_ 7 ?_ (by decide)).mono ?_
  · rw [size_data, ext_data]; simp; unfold maxLen; omega
  · rw [ext_data, List.drop_zero]; exact HC.out k hkl
  rintro r w' ⟨rfl, rfl⟩
  go_wp2_with fail
  refine (tell_err _ 7 _ HG2.out (.inl rfl)).mono ?_
  rintro r w3 ⟨rfl, hb3⟩
  have HB3 : Hid (Below w.heap.size w w3) := HB.out.trans (hb3.mono HB.out.size)
  clear hb3
  go_wp2
  go_ret
  exact ⟨rfl, HB3.out⟩
end Go.Proofs.YtepfbjfmfnnfdaaDoor
