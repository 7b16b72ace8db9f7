/-
  The fact that the laws ask first ('squeezed'); Squeeze and Swell as the laws meet them.
-/
import Derived.Test.YtjhmlmcibpjagaaDoorLzSwell
namespace Go.Proofs.YtjhmlmcibpjagaaDoor
open Go.RowKit

theorem lzsq_as (s T : ByteArray) (w : World) (hs : s.size ≤ 20000) (hT : (⟨(sqL s.data.toList).toArray⟩ : ByteArray) = T) :
    Calls Tryd.prog 21 #[.string s] w fun e w' => e = .returned (.tuple #[.string T, .nilIface]) ∧ Below w.heap.size w w' := by
  subst hT; exact lzsq_any s w hs
/-- Bytes of right tokens swell to their text. -/
theorem lzswell_as (T s : ByteArray) (w : World) (hs : T.size ≤ 400000) (hg : errT w) (h1 : swellF T.data.toList = s.data.toList) (h2 : (readF T.data.toList).1 = (0, -1)) :
    Calls Tryd.prog 18 #[.string T] w fun e w' => e = .returned (.tuple #[.string s, .nilIface]) ∧ Below w.heap.size w w' :=
  (lzswell_any T w hs hg).mono fun e w' ⟨err, he, hat, hb⟩ => by
    obtain rfl := hat.nil (by rw [h2])
    exact ⟨by rw [he, h1, bs_of], hb⟩

set_option maxRecDepth 100000 in
set_option maxHeartbeats 1000000 in
theorem squeezed_any (w : World) (hg : errT w) : Calls Tryd.prog 22 #[] w fun e w' => e = .returned (.bool true) ∧ Below w.heap.size w w' := by
  have HG := Lib.hid hg
  clear hg
  go_enter Tryd.func22, Tryd.ntmps22
  go_wp2_with fail
  refine (lzsq_as ⟨#[97, 98, 99, 97, 98, 99, 97, 98, 99]⟩ ⟨#[6, 97, 98, 99, 5, 2]⟩ _ (by decide) (by show (⟨(sqL abc9).toArray⟩ : ByteArray) = _; rw [abc9_sq])).mono ?_
  rintro r w1 ⟨rfl, hb1⟩
  have HB1 := Lib.hid hb1
  have HG1 := Lib.hid (HG.out.below hb1)
  clear hb1
  go_wp2_with fail
  refine (lzswell_as ⟨#[6, 97, 98, 99, 5, 2]⟩ ⟨#[97, 98, 99, 97, 98, 99, 97, 98, 99]⟩ _ (by decide) HG1.out (by show swellF [6, 97, 98, 99, 5, 2] = abc9; rw [← abc9_sq]; exact (swell_sq abc9 (by decide)).1) (by show (readF [6, 97, 98, 99, 5, 2]).1 = _; rw [← abc9_sq]; exact (swell_sq abc9 (by decide)).2)).mono ?_
  rintro r w2 ⟨rfl, hb2⟩
  have HB2 : Hid (Below w.heap.size w w2) := HB1.out.trans (hb2.mono HB1.out.size)
  clear hb2
  go_wp2
  go_ret
  exact ⟨rfl, HB2.out⟩
end Go.Proofs.YtjhmlmcibpjagaaDoor
