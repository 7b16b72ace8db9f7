/-
  The contracts of the document's Squeeze and of lz.Squeeze.
-/
import Derived.Test.YtjhmlmcibpjagaaDoorLzWrite
import Derived.Test.YtjhmlmcibpjagaaDoorLzRefWrite
import Derived.Test.YtjhmlmcibpjagaaDoorMatchTokens
import Derived.Test.YtjhmlmcibpjagaaDoorMatchTx
import Derived.Test.YtjhmlmcibpjagaaDoorMatchRefTokens
namespace Go.Proofs.YtjhmlmcibpjagaaDoor
open Go.RowKit

/-- A text in fewer bytes. -/
def sqL (s : List UInt8) : List UInt8 := writeL (toks s)
theorem sq_is (s : List UInt8) (h : s.length ≤ 20000) : writeF (toks s) = sqL s ∧ rightF (toks s) 0 0 = (0, -1) := by
  have h1 := (toks_text s h).1
  refine ⟨?_, h1⟩
  unfold writeF; rw [if_pos (by rw [h1])]; rfl
theorem toks_few (s : List UInt8) (h : s.length ≤ 400000) : (toks s).length ≤ 9223372036854775807 ∧ ∀ t ∈ toks s, t.own.size ≤ 140737488351232 := by
  have h1 := tks_len s s.length 0 0
  refine ⟨by unfold toks; omega, fun t ht => ?_⟩
  have := tks_own s _ _ _ t ht
  omega

set_option maxRecDepth 100000 in
set_option maxHeartbeats 1000000 in
theorem lzsq_any (s : ByteArray) (w : World) (hs : s.size ≤ 20000) :
    Calls Tryd.prog 21 #[.string s] w fun e w' => e = .returned (.tuple #[.string ⟨(sqL s.data.toList).toArray⟩, .nilIface]) ∧ Below w.heap.size w w' := by
  have hl : s.data.toList.length ≤ 20000 := by rw [← size_data]; exact hs
  obtain ⟨f1, f2⟩ := toks_few s.data.toList (by omega)
  obtain ⟨g1, g2⟩ := sq_is s.data.toList hl
  have F1 := Lib.hid f1
  have F2 := Lib.hid f2
  have G1 := Lib.hid g1
  have G2 := Lib.hid g2
  clear f1 f2 g1 g2 hl
  go_enter Tryd.func21, Tryd.ntmps21
  go_wp2_with fail
  refine (tokens_any s _ (by omega)).mono ?_
  rintro r w1 ⟨v, rfl, hown, hb1⟩
  have HO := Lib.hid hown
  have HB1 := Lib.hid hb1
  clear hown hb1
  go_wp2_with fail
  refine (lzwrite_any v _ _ HO.out.is F1.out F2.out).mono ?_
  rintro r w2 ⟨err, rfl, hat, hb2⟩
  obtain rfl : err = .nilIface := by
    rcases hat with ⟨_, h⟩ | ⟨h, _⟩
    · exact h
    · exact absurd (by rw [G2.out]) h
  rw [G1.out]
  have HB2 : Hid (Below w.heap.size w w2) := HB1.out.trans (hb2.mono HB1.out.size)
  clear hat hb2
  go_wp2
  go_ret2
  exact ⟨rfl, HB2.out⟩
set_option maxRecDepth 100000 in
theorem lzsq_big (s : ByteArray) (w : World) (hs : 20000 < s.size) (hm : s.size ≤ maxLen) :
    Calls Tryd.prog 21 #[.string s] w fun e w' => e = .returned (.tuple #[.string ⟨#[]⟩, .iface 24 (.int .i64 4)]) ∧ w = w' := by
  unfold maxLen at hm
  go_enter Tryd.func21, Tryd.ntmps21
  go_wp2
  go_ret2
  exact ⟨rfl, rfl⟩

set_option maxRecDepth 100000 in
theorem bare_any (e : Int) (w : World) : Calls Tryd.prog 43 #[.int .i64 e] w fun r w' => r = .returned (.agg #[.int .i64 e, .int .i64 (-1)]) ∧ Below w.heap.size w w' := by
  go_enter Tryd.func43, Tryd.ntmps43
  go_wp2
  refine bodyPost_ret (v := .agg #[.int .i64 e, .int .i64 (-1)]) (by simp [results, Tryd.results43, go_sem]) rfl ?_
  exact ⟨rfl, (Below.refl _ _).alloc (Nat.le_refl _) _⟩
set_option maxRecDepth 100000 in
set_option maxHeartbeats 1000000 in
theorem rsq_any (s : ByteArray) (w : World) (hs : s.size ≤ 20000) :
    Calls Tryd.prog 20 #[.string s] w fun e w' => e = .returned (.tuple #[.string ⟨(sqL s.data.toList).toArray⟩, .agg #[.int .i64 0, .int .i64 (-1)]]) ∧ Below w.heap.size w w' := by
  have hl : s.data.toList.length ≤ 20000 := by rw [← size_data]; exact hs
  obtain ⟨f1, f2⟩ := toks_few s.data.toList (by omega)
  obtain ⟨g1, g2⟩ := sq_is s.data.toList hl
  have HFV : Hid (faultV (rightF (toks s.data.toList) 0 0) = .agg #[.int .i64 0, .int .i64 (-1)]) := by
    have h : faultV (rightF (toks s.data.toList) 0 0) = .agg #[.int .i64 0, .int .i64 (-1)] := by rw [g2]; rfl
    exact h
  have F1 := Lib.hid f1
  have F2 := Lib.hid f2
  have G1 := Lib.hid g1
  clear f1 f2 g1 g2 hl
  go_enter Tryd.func20, Tryd.ntmps20
  go_wp2_with fail
  refine (rtokens_any s _ (by omega)).mono ?_
  rintro r w1 ⟨v, rfl, hown, hb1⟩
  have HO := Lib.hid hown
  have HB1 := Lib.hid hb1
  clear hown hb1
  go_wp2_with fail
  refine (rwrite_any v _ _ HO.out.is F1.out F2.out).mono ?_
  rintro r w2 ⟨rfl, hb2⟩
  rw [G1.out, HFV.out]
  have hl1 : w.heap.size < w1.heap.size := Nat.lt_of_lt_of_le (by simp) HB1.out.size
  have hl2 : w.heap.size < w2.heap.size := Nat.lt_of_lt_of_le hl1 hb2.size
  have x0 : w2.cell? ⟨w.heap.size, 0, none⟩ = some (.int .i64 0) := (hb2.cell hl1).trans ((HB1.out.cell (by simp)).trans (by simp))
  have x1 : w2.cell? ⟨w.heap.size, 1, none⟩ = some (.int .i64 0) := (hb2.cell hl1).trans ((HB1.out.cell (by simp)).trans (by simp))
  have y0 : w2.frozen? ⟨w.heap.size, 0, none⟩ = false := (hb2.frozen hl1).trans ((HB1.out.frozen (by simp)).trans (by simp))
  have y1 : w2.frozen? ⟨w.heap.size, 1, none⟩ = false := (hb2.frozen hl1).trans ((HB1.out.frozen (by simp)).trans (by simp))
  have HB2 : Hid (Below w.heap.size w w2) := ((Below.refl _ _).alloc (Nat.le_refl _) _).trans ((HB1.out.mono (by simp)).trans (hb2.mono (Nat.le_of_lt hl1)))
  clear hb2
  go_wp2
  refine bodyPost_ret (v := .tuple #[.string ⟨(sqL s.data.toList).toArray⟩, .agg #[.int .i64 0, .int .i64 (-1)]]) (by simp [results, Tryd.results20, go_sem, x0, x1]) rfl ?_
  exact ⟨rfl, (HB2.out.setCell (Nat.le_refl _) _).setCell (Nat.le_refl _) _⟩
set_option maxRecDepth 100000 in
set_option maxHeartbeats 1000000 in
theorem rsq_big (s : ByteArray) (w : World) (hs : 20000 < s.size) (hm : s.size ≤ maxLen) :
    Calls Tryd.prog 20 #[.string s] w fun e w' => e = .returned (.tuple #[.string ⟨#[]⟩, .agg #[.int .i64 4, .int .i64 (-1)]]) ∧ Below w.heap.size w w' := by
  unfold maxLen at hm
  go_enter Tryd.func20, Tryd.ntmps20
  go_wp2_with fail
  refine (bare_any 4 _).mono ?_
  rintro r w1 ⟨rfl, hb1⟩
  have x0 : w1.cell? ⟨w.heap.size, 0, none⟩ = some (.int .i64 0) := (hb1.cell (by simp)).trans (by simp)
  have x1 : w1.cell? ⟨w.heap.size, 1, none⟩ = some (.int .i64 0) := (hb1.cell (by simp)).trans (by simp)
  have y0 : w1.frozen? ⟨w.heap.size, 0, none⟩ = false := (hb1.frozen (by simp)).trans (by simp)
  have y1 : w1.frozen? ⟨w.heap.size, 1, none⟩ = false := (hb1.frozen (by simp)).trans (by simp)
  have HB1 : Hid (Below w.heap.size w w1) := ((Below.refl _ _).alloc (Nat.le_refl _) _).trans (hb1.mono (by simp))
  clear hb1
  go_wp2
  refine bodyPost_ret (v := .tuple #[.string ⟨#[]⟩, .agg #[.int .i64 4, .int .i64 (-1)]]) (by simp [results, Tryd.results20, go_sem, x0, x1]) rfl ?_
  exact ⟨rfl, (HB1.out.setCell (Nat.le_refl _) _).setCell (Nat.le_refl _) _⟩
end Go.Proofs.YtjhmlmcibpjagaaDoor
