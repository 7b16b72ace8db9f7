/-
  The contracts of strings.Clone and match.own.
-/
import Derived.Test.YtjhmlmcibpjagaaDoorToks
import Derived.Test.YtjhmlmcibpjagaaDoorShelf
import Derived.Lib.Hide
import Derived.Outline
namespace Go.Proofs.YtjhmlmcibpjagaaDoor
open Go.RowKit

set_option maxRecDepth 100000 in
theorem clone_s (s : ByteArray) (w : World) (hs : s.size ≤ 140737488351232) :
    Calls Tryd.prog 58 #[.string s] w fun e w' => e = .returned (.string s) ∧ Below w.heap.size w w' := by
  go_enter Tryd.func58, Tryd.ntmps58
  go_wp2_with fail
  refine (Tryd.stringslite_Clone s _ (by omega)).mono ?_
  rintro r w1 ⟨rfl, hb1⟩
  have HB := Lib.hid hb1
  clear hb1
  go_wp2
  go_ret
  exact ⟨rfl, HB.out⟩

theorem toL (s : ByteArray) : s.toList = s.data.toList := ByteArray.toList_eq s
/-- What 'own' answers: the tokens and one more, if there is any text. -/
def OwnIs (w : World) (base : Nat) (l : List Tok) (e : Ending) (w' : World) : Prop :=
  ∃ v, e = .returned v ∧ ownsK w' base v l ∧ Below base w w'

set_option maxRecDepth 100000 in
set_option maxHeartbeats 1000000 in
theorem own_any (v : Value) (l : List Tok) (s : ByteArray) (base : Nat) (w : World) (hs : s.size ≤ 140737488351232) (hb : base ≤ w.heap.size) (ho : ownsK w base v l) (hl : l.length ≤ 999999) :
    Calls Tryd.prog 61 #[v, .string s] w (OwnIs w base (l ++ ownT s.data.toList)) := by
  by_cases hz : s.data.toList = []
  · have h1 : s.toList = [] := by rw [toL]; exact hz
    have h2 : s.toList.isEmpty = true := by rw [h1]; rfl
    have HO : Hid (ownsK w base v (l ++ ownT s.data.toList)) := by
      have h : ownsK w base v (l ++ ownT s.data.toList) := by rw [hz, ownT_nil, List.append_nil]; exact ho
      exact h
    clear ho hz
    go_enter Tryd.func61, Tryd.ntmps61
    go_wp2
    go_ret
    exact ⟨_, rfl, HO.out, Below.refl _ _⟩
  · have h2 : s.toList.isEmpty = false := by rw [toL]; cases h : s.data.toList with
                                                       | nil => exact absurd h hz
                                                       | cons => rfl
    have HO := Lib.hid ho
    have HT : Hid (ownT s.data.toList = [⟨s, 0, 0⟩]) := by
      have h : ownT s.data.toList = [⟨s, 0, 0⟩] := by rw [ownT_cons hz]
      exact h
    clear ho hz
    go_enter Tryd.func61, Tryd.ntmps61
    go_wp2_with fail
    refine (clone_s s _ hs).mono ?_
    rintro r w1 ⟨rfl, hb1⟩
    have HO1 := Lib.hid (HO.out.below hb1)
    have HB1 : Hid (Below base w w1) := hb1.mono hb
    have hbs : base ≤ w1.heap.size := Nat.le_trans hb hb1.size
    clear hb1
    go_wp2_with (at_builtin; refine wpList_append_tok rfl _ _ rfl base _ l rfl (HO1.out.alloc _) w1.heap.size 1 rfl ⟨s, 0, 0⟩ ?c1 ?c2 ?c3 ?_)
    case c1 => exact tokBlk_new _ _ _ _
    case c2 => omega
    case c3 => simp; omega
    · intro g cap w2 ho2 hg2
      have HB2 : Hid (Below base w w2) := (HB1.out.alloc hbs _).grown hg2 (by simp; omega) (fun g hg => (HO1.out.lt g hg).1)
      have HO2 := Lib.hid ho2
      clear ho2 hg2
      go_wp2
      go_ret
      exact ⟨_, rfl, by rw [HT.out]; exact HO2.out, HB2.out⟩
end Go.Proofs.YtjhmlmcibpjagaaDoor
