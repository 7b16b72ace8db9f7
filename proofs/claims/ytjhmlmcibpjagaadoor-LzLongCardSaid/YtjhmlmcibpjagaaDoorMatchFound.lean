/-
  The fact that the laws of chapter 4 ask first ('found').
-/
import Derived.Test.YtjhmlmcibpjagaaDoorMatchText
import Derived.Test.YtjhmlmcibpjagaaDoorMatchTokens
namespace Go.Proofs.YtjhmlmcibpjagaaDoor
open Go.RowKit

def abcL : List UInt8 := [97, 98, 99, 97, 98, 99, 97, 98, 99]
def abT : List Tok := [⟨⟨#[97, 98]⟩, 0, 0⟩, ⟨⟨#[]⟩, 1, 4⟩]
theorem abc_find : find abcL 3 = (3, 6) := by decide
theorem abc_toks : (toks abcL).length = 2 := by decide
theorem ab_right : rightF abT 0 0 = (0, -1) := by decide
theorem ab_text : textF abT = [97, 98, 98, 98, 98, 98] := by decide
theorem ab_is (w : World) : IsToks (w.alloc (.cells #[.string ⟨#[97, 98]⟩, .int .i64 0, .int .i64 0, .string ⟨#[]⟩, .int .i64 1, .int .i64 4] 42)) (.slice (some ⟨w.heap.size, 0, none⟩) 2 2) abT := by
  refine .inr ⟨w.heap.size, 0, 2, rfl, by decide, by simp, fun j u hj => ?_⟩
  rw [Nat.zero_add, cell_of_row _ _ _ _ _ _ (heap_alloc_new w _), ← hj]
  simp [toksC, abT, tokC]

set_option maxRecDepth 100000 in
set_option maxHeartbeats 1000000 in
theorem found_any (w : World) : Calls Tryd.prog 24 #[] w fun e w' => e = .returned (.bool true) ∧ Below w.heap.size w w' := by
  go_enter Tryd.func24, Tryd.ntmps24
  go_wp2_with fail
  refine (find_nat ⟨#[97, 98, 99, 97, 98, 99, 97, 98, 99]⟩ 3 _ (by decide) (by decide)).mono ?_
  rintro e w1 ⟨rfl, q1, rfl⟩
  rw [show findV (find (⟨#[97, 98, 99, 97, 98, 99, 97, 98, 99]⟩ : ByteArray).data.toList 3) = .tuple #[.int .i64 3, .int .i64 6] from by show findV (find abcL 3) = _; rw [abc_find]; rfl]
  go_wp2_with fail
  refine (text_any _ abT _ (ab_is _) (by decide) (by decide)).mono ?_
  rintro e w2 ⟨err, rfl, hat, hb2⟩
  rw [ab_text]
  rw [ab_right] at hat
  obtain rfl : err = .nilIface := by
    rcases hat with ⟨_, h⟩ | ⟨h, _⟩
    · exact h
    · exact absurd rfl h
  have HB2 : Hid (Below w.heap.size w w2) := ((below_drewN (Below.refl _ _) q1).alloc (Nat.le_refl _) _).trans (hb2.mono (by simp))
  clear hat hb2
  go_wp2_with fail
  refine (tokens_any ⟨#[97, 98, 99, 97, 98, 99, 97, 98, 99]⟩ _ (by decide)).mono ?_
  rintro e w3 ⟨v, rfl, ho, hb3⟩
  have HB3 : Hid (Below w.heap.size w w3) := HB2.out.trans (hb3.mono HB2.out.size)
  obtain ⟨a, c, rfl, _⟩ := ho.is.form
  rw [show (toks (⟨#[97, 98, 99, 97, 98, 99, 97, 98, 99]⟩ : ByteArray).data.toList).length = 2 from abc_toks]
  clear hb3 ho
  go_wp2
  go_ret
  exact ⟨rfl, HB3.out⟩
end Go.Proofs.YtjhmlmcibpjagaaDoor
