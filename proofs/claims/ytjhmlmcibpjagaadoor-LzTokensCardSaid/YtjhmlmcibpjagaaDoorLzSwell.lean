/-
  The contract of lz.Swell; the fact that the laws ask first ('squeezed').
-/
import Derived.Test.YtjhmlmcibpjagaaDoorLzRead
import Derived.Test.YtjhmlmcibpjagaaDoorLzSq
import Derived.Test.YtjhmlmcibpjagaaDoorMatchText
namespace Go.Proofs.YtjhmlmcibpjagaaDoor
open Go.RowKit

theorem rdF_err {s : List UInt8} {f a e p : Nat} {l : List Tok} {b : List Nat} (h : rdF s f a l b = .inl (e, p)) : e ≠ 0 := by
  induction f generalizing a l b with
  | zero => cases h
  | succ f ih =>
    by_cases hlt : a < s.length
    · match hg : getT (s.drop a) with
      | .inl (e', p') =>
        rw [rdF_bad hlt hg] at h
        injection h with h
        injection h with h1 h2
        subst h1
        exact getT_err hg
      | .inr (t, k) => rw [rdF_ok hlt hg] at h; exact ih h
    · rw [rdF_end hlt] at h; cases h
/-- What bytes swell to. -/
def swellF (s : List UInt8) : List UInt8 := if (readF s).1.1 = 0 then textL [] (readF s).2 else []
theorem swell_ok {s : List UInt8} (h : (readF s).1.1 = 0) : swellF s = textL [] (readF s).2 := by unfold swellF; rw [if_pos h]
theorem swell_bad {s : List UInt8} (h : ¬ (readF s).1.1 = 0) : swellF s = [] := by unfold swellF; rw [if_neg h]
/-- Where nothing is wrong no place is told. -/
theorem read_good {s : List UInt8} (h : (readF s).1.1 = 0) : (readF s).1 = (0, -1) := by
  match hr : rdF s s.length 0 [] [] with
  | .inl (e, p) =>
    rw [readF_bad hr] at h
    exact absurd h (rdF_err hr)
  | .inr (l, b) =>
    by_cases hw : (rightF l 0 0).1 = 0
    · rw [readF_ok hr hw]
    · rw [readF_wrong hr hw] at h
      exact absurd h hw

def SwellIs (w : World) (s : List UInt8) (e : Ending) (w' : World) : Prop :=
  ∃ err, e = .returned (.tuple #[.string ⟨(swellF s).toArray⟩, err]) ∧ atIs w' err (readF s).1 ∧ Below w.heap.size w w'

set_option maxRecDepth 100000 in
set_option maxHeartbeats 2000000 in
theorem lzswell_any (s : ByteArray) (w : World) (hs : s.size ≤ 400000) (hg : errT w) :
    Calls Tryd.prog 18 #[.string s] w (SwellIs w s.data.toList) := by
  have HG := Lib.hid hg
  clear hg
  by_cases hr : (readF s.data.toList).1.1 = 0
  · have HS := Lib.hid (swell_ok hr)
    have hr2 := (read_only hr).1
    obtain ⟨f1, _, _⟩ := right_few hr2
    have HF1 : Hid ((readF s.data.toList).2.length ≤ 9223372036854775807) := Lib.hid (show (readF s.data.toList).2.length ≤ 9223372036854775807 by omega)
    have HF2 : Hid (∀ t ∈ (readF s.data.toList).2, t.own.size ≤ 140737488351232) := Lib.hid (show ∀ t ∈ (readF s.data.toList).2, t.own.size ≤ 140737488351232 from fun t ht => by have := right_own hr2 t ht; omega)
    have HR0 := Lib.hid hr
    have HRG := Lib.hid (read_good hr)
    have HR2 := Lib.hid hr2
    have HT : Hid (textF (readF s.data.toList).2 = textL [] (readF s.data.toList).2) := Lib.hid (show textF (readF s.data.toList).2 = textL [] (readF s.data.toList).2 by unfold textF; rw [if_pos hr2])
    clear hr hr2 f1
    go_enter Tryd.func18, Tryd.ntmps18
    go_wp2_with fail
    refine (lzread_any s _ hs HG.out).mono ?_
    rintro r w1 ⟨v, err, rfl, hok, hat, hb1⟩
    obtain rfl := hat.nil HR0.out
    have HK := Lib.hid hok
    have HB1 := Lib.hid hb1
    clear hok hat hb1
    go_wp2_with fail
    refine (text_any v _ _ HK.out.is HF1.out HF2.out).mono ?_
    rintro r w2 ⟨err, rfl, hat, hb2⟩
    obtain rfl := hat.nil HR2.out
    have HB2 : Hid (Below w.heap.size w w2) := HB1.out.trans (hb2.mono HB1.out.size)
    clear hat hb2
    go_wp2
    go_ret2
    refine ⟨.nilIface, ?_, .inl ⟨HRG.out, rfl⟩, HB2.out⟩
    rw [HS.out, HT.out]; rfl
  · have HS := Lib.hid (swell_bad hr)
    have HR0 := Lib.hid hr
    clear hr
    go_enter Tryd.func18, Tryd.ntmps18
    go_wp2_with fail
    refine (lzread_any s _ hs HG.out).mono ?_
    rintro r w1 ⟨v, err, rfl, hok, hat, hb1⟩
    obtain ⟨ty, u, rfl⟩ := hat.iface HR0.out
    have HAT := Lib.hid hat
    have HB1 := Lib.hid hb1
    clear hok hat hb1
    go_wp2
    go_ret2
    exact ⟨_, by rw [HS.out]; rfl, HAT.out, HB1.out⟩

def abc9 : List UInt8 := [97, 98, 99, 97, 98, 99, 97, 98, 99]
theorem abc9_find : find abc9 0 = (0, 0) ∧ find abc9 1 = (0, 0) ∧ find abc9 2 = (0, 0) ∧ find abc9 3 = (3, 6) := by decide
theorem abc9_toks : toks abc9 = [⟨⟨#[97, 98, 99]⟩, 0, 0⟩, repT 3 6] := by decide
theorem abc9_sq : sqL abc9 = [6, 97, 98, 99, 5, 2] := by
  unfold sqL
  rw [abc9_toks, writeL_cons, writeL_cons, writeL_nil, putT_own (by decide), putT_rep (by decide)]
  rw [putL_small (by decide), putL_small (by decide), putL_small (by decide)]
  rfl
theorem swell_sq (s : List UInt8) (h : s.length ≤ 20000) : swellF (sqL s) = s ∧ (readF (sqL s)).1 = (0, -1) := by
  have h1 := toks_text s h
  have h2 : readF (sqL s) = ((0, -1), toks s) := read_write (by rw [h1.1])
  refine ⟨?_, by rw [h2]⟩
  rw [swell_ok (by rw [h2]), h2]; exact h1.2
theorem sq_len (s : List UInt8) (h : s.length ≤ 20000) : (sqL s).length ≤ 220000 := (right_few (l := toks s) (by rw [(toks_text s h).1])).2.1
end Go.Proofs.YtjhmlmcibpjagaaDoor
