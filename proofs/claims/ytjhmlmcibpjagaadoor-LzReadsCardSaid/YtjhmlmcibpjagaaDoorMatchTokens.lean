/-
  The contract of match.Tokens.
-/
import Derived.Test.YtjhmlmcibpjagaaDoorMatchFind
import Derived.Test.YtjhmlmcibpjagaaDoorMatchOwn
import Derived.Test.YtjhmlmcibpjagaaDoorStr
import Derived.WalkSpells
namespace Go.Proofs.YtjhmlmcibpjagaaDoor
open Go.RowKit

/-- What Tokens answers. -/
def TokensIs (w : World) (l : List Tok) (e : Ending) (w' : World) : Prop :=
  ∃ v, e = .returned v ∧ ownsK w' w.heap.size v l ∧ Below w.heap.size w w'

set_option maxRecDepth 100000 in
set_option maxHeartbeats 2000000 in
theorem tokens_any (s : ByteArray) (w : World) (hs : s.size ≤ 400000) :
    Calls Tryd.prog 45 #[.string s] w (TokensIs w (toks s.data.toList)) := by
  have HS : Hid (s.size ≤ maxLen) := by have h : s.size ≤ maxLen := by unfold maxLen; omega
                                        exact h
  have hlen : s.data.toList.length = s.size := (size_data s).symm
  have HL := Lib.hid hlen
  clear hlen
  go_enter Tryd.func45, Tryd.ntmps45
  go_wp2
  go_loopw [3, 4, 5] (fun v fr a wr => ∃ (f fr' a' : Nat) (acc : List Tok), fr = .int .i64 fr' ∧ a = .int .i64 a' ∧ fr' ≤ a' ∧ a' ≤ s.size ∧ s.size ≤ a' + f ∧ acc.length ≤ 2 * a' ∧ toks s.data.toList = acc ++ tks s.data.toList f fr' a' ∧ ownsK wr w.heap.size v acc ∧ Below w.heap.size w wr) (fun _ _ a _ => s.size - (intOf a).toNat)
  case atStart => exact ⟨s.size, 0, 0, [], rfl, rfl, Nat.le_refl _, Nat.zero_le _, by omega, by simp, by unfold toks; rw [HL.out]; rfl, ownsK_nil _ _, Below.refl _ _⟩
  case round =>
    obtain ⟨f, fr, a, acc, rfl, rfl, hfa, ha, hf, hac, heq, hown, hbel⟩ := hrel
    have HEQ := Lib.hid heq
    have HOWN := Lib.hid hown
    have HBEL := Lib.hid hbel
    clear heq hown hbel
    by_cases hlt : a < s.size
    · obtain ⟨f, rfl⟩ : ∃ f', f = f' + 1 := ⟨f - 1, by omega⟩
      have hl : a < s.data.toList.length := by rw [HL.out]; exact hlt
      rcases find_cases s.data.toList a with ⟨hz, _⟩ | ⟨b, n, hfn, _, hb1, hb2, hb3, hn1, hn2, hn3, _⟩
      · have HR : Hid (findV (find s.data.toList a) = .tuple #[.int .i64 0, .int .i64 0]) := by
          have h : findV (find s.data.toList a) = .tuple #[.int .i64 0, .int .i64 0] := by rw [hz]; rfl
          exact h
        have HN : Hid (toks s.data.toList = acc ++ tks s.data.toList f fr (a + 1)) := by
          have h : toks s.data.toList = acc ++ tks s.data.toList f fr (a + 1) := by rw [HEQ.out, tks_step hl (by rw [hz])]
          exact h
        clear hz hl HEQ
        go_wp2_with fail
        refine (find_nat s a _ HS.out hlt).mono ?_
        rintro e w1 ⟨rfl, q1, rfl⟩
        rw [HR.out]
        go_wp2
        go_roundw
        case rel => exact ⟨f, fr, a + 1, acc, rfl, by go_num, by omega, by omega, by omega, by omega, HN.out, HOWN.out.drewN _, below_drewN HBEL.out _⟩
        case measure => simp [intOf]; omega
      · rw [HL.out] at hn3
        have HR : Hid (findV (find s.data.toList a) = .tuple #[.int .i64 b, .int .i64 n]) := by
          have h : findV (find s.data.toList a) = .tuple #[.int .i64 b, .int .i64 n] := by rw [hfn]; rfl
          exact h
        have hn0 : ((n : Int) == 0) = false := by simp; omega
        have hxs : (s.extract fr a).size ≤ 140737488351232 := by rw [ByteArray.size_extract]; omega
        have HXS := Lib.hid hxs
        obtain ⟨L1, hL1⟩ : ∃ L1, acc ++ ownT (s.extract fr a).data.toList = L1 := ⟨_, rfl⟩
        have hol : (acc ++ ownT (s.extract fr a).data.toList).length ≤ 2 * a + 1 := by
          rw [List.length_append]
          have : (ownT (s.extract fr a).data.toList).length ≤ 1 := by unfold ownT; split <;> simp
          omega
        rw [hL1] at hol
        have HOL := Lib.hid hol
        have HN : Hid (toks s.data.toList = (L1 ++ [repT b n]) ++ tks s.data.toList f (a + n) (a + n)) := by
          have h : toks s.data.toList = (L1 ++ [repT b n]) ++ tks s.data.toList f (a + n) (a + n) := by
            rw [HEQ.out, tks_rep hl hfn (by omega), ← hL1, ext_data]; simp
          exact h
        have HL1 := Lib.hid hL1
        clear hL1
        have HAC : Hid (acc.length ≤ 999999) := by have h : acc.length ≤ 999999 := by omega
                                                   exact h
        clear hfn hl HEQ hxs hol
        have e1 : (fr : Int) ≤ (a : Int) := by omega
        have e2 : (a : Int) ≤ (s.size : Int) := by omega
        go_wp2_with fail
        refine (find_nat s a _ HS.out hlt).mono ?_
        rintro e w1 ⟨rfl, q1, rfl⟩
        rw [HR.out]
        go_wp2_with fail
        refine (own_any _ acc _ w.heap.size (wr.drewN q1) HXS.out HBEL.out.size (HOWN.out.drewN _) HAC.out).mono ?_
        rintro r w1 ⟨v1, rfl, ho1, hb1⟩
        rw [HL1.out] at ho1
        have hb2 : Below w.heap.size w w1 := (below_drewN HBEL.out q1).trans hb1
        have HB2 := Lib.hid hb2
        have HO1 := Lib.hid ho1
        have hz1 := hb2.size
        have HOL1 : Hid (L1.length + 1 ≤ 1000000) := by
          have h : L1.length + 1 ≤ 1000000 := by have := HOL.out; omega
          exact h
        clear hb1 hb2 ho1 HOWN HBEL
        go_wp2_with (at_builtin; refine wpList_append_tok rfl _ _ rfl w.heap.size _ L1 rfl (HO1.out.alloc _) w1.heap.size 1 rfl (repT b n) ?c1 ?c2 ?c3 ?_)
        case c1 => exact tokBlk_new _ _ _ _
        case c2 => exact HOL1.out
        case c3 => simp; omega
        · intro g cap w2 ho2 hg2
          have HB3 : Hid (Below w.heap.size w w2) := (HB2.out.alloc hz1 _).grown hg2 (by simp; omega) (fun g hg => (HO1.out.lt g hg).1)
          have HO2 := Lib.hid ho2
          clear ho2 hg2
          go_wp2
          go_roundw
          case rel => exact ⟨f, a + n, a + n, _, by go_num, by go_num, Nat.le_refl _, by omega, by omega, by rw [List.length_append]; simp only [List.length_singleton]; have := HOL.out; omega, HN.out, HO2.out, HB3.out⟩
          case measure => simp [intOf]; omega
    · obtain rfl : a = s.size := by omega
      have hxs : (s.extract fr s.size).size ≤ 140737488351232 := by rw [ByteArray.size_extract]; omega
      have HXS := Lib.hid hxs
      have HN : Hid (toks s.data.toList = acc ++ ownT (s.extract fr s.size).data.toList) := by
        have h : toks s.data.toList = acc ++ ownT (s.extract fr s.size).data.toList := by
          rw [HEQ.out, tks_end (by rw [HL.out]; omega), ext_data]
        exact h
      have HAC : Hid (acc.length ≤ 999999) := by have h : acc.length ≤ 999999 := by omega
                                                 exact h
      clear hxs HEQ
      go_wp2_with fail
      refine (own_any _ acc _ w.heap.size wr HXS.out HBEL.out.size HOWN.out HAC.out).mono ?_
      rintro r w1 ⟨v1, rfl, ho1, hb1⟩
      have HO1 := Lib.hid ho1
      have HB1 : Hid (Below w.heap.size w w1) := HBEL.out.trans hb1
      clear ho1 hb1
      go_wp2
      go_ret
      exact ⟨_, rfl, by rw [HN.out]; exact HO1.out, HB1.out⟩
end Go.Proofs.YtjhmlmcibpjagaaDoor
