/-
  The contract of the document's Tokens.
-/
import Derived.Test.YtjhmlmcibpjagaaDoorMatchRefFind
import Derived.Test.YtjhmlmcibpjagaaDoorMatchTokens
import Derived.RegionTactic
import Derived.Deep.RegionHeld3
import Derived.WalkSmall
namespace Go.Proofs.YtjhmlmcibpjagaaDoor
open Go.RowKit

/-- What the loop keeps: tokens that are done, behind them a text of its own that may still grow. -/
def RT (s : ByteArray) (B a : Nat) (v : Value) (w wr : World) : Prop :=
  ∃ (f fr : Nat) (acc : List Tok), fr ≤ a ∧ a ≤ s.size ∧ s.size ≤ a + f ∧ acc.length ≤ a ∧ toks s.data.toList = acc ++ tks s.data.toList f fr a ∧ Below B w wr ∧
    ((fr = a ∧ (acc = [] ∨ ∃ r b n, acc = r ++ [repT b n]) ∧ ownsK wr B v acc) ∨ (fr < a ∧ ownsK wr B v (acc ++ [⟨s.extract fr a, 0, 0⟩])))

theorem pend (s : ByteArray) (fr a : Nat) (h : fr < a) (ha : a ≤ s.size) : ownT ((s.data.toList.take a).drop fr) = [⟨s.extract fr a, 0, 0⟩] := by
  have hne : (s.data.toList.take a).drop fr ≠ [] := by
    intro e
    have := congrArg List.length e
    rw [List.length_drop, List.length_take, ← size_data] at this
    simp at this; omega
  rw [ownT_cons hne, ← ext_data, bs_of]
theorem pend0 (s : ByteArray) (a : Nat) : ownT ((s.data.toList.take a).drop a) = [] := by
  have : (s.data.toList.take a).drop a = [] := by apply List.drop_eq_nil_of_le; simp; omega
  rw [this]; rfl
theorem ext_join (s : ByteArray) (fr a : Nat) (h : fr ≤ a) (ha : a < s.size) : s.extract fr a ++ s.extract a (a + 1) = s.extract fr (a + 1) := by
  apply bs_ext
  rw [app_data, ext_data, ext_data, ext_data]
  have hl : a < s.data.toList.length := by rw [← size_data]; exact ha
  rw [← List.drop_append_of_le_length (by rw [List.length_take]; omega)]
  congr 1
  rw [List.take_succ_eq_append_getElem hl]
  congr 1
  rw [List.drop_append_of_le_length (by rw [List.length_take]; omega)]
  simp

theorem ext_ne (s : ByteArray) (fr a : Nat) (h : fr < a) (ha : a ≤ s.size) : (s.extract fr a).toList.isEmpty = false := by
  rw [toL]
  have hl : (s.extract fr a).data.toList.length = a - fr := by rw [← size_data, ByteArray.size_extract]; omega
  cases h2 : (s.extract fr a).data.toList with
  | nil => rw [h2] at hl; simp at hl; omega
  | cons => rfl

set_option maxRecDepth 100000 in
set_option maxHeartbeats 2000000 in
theorem rtokens_any (s : ByteArray) (w : World) (hs : s.size ≤ 400000) :
    Calls Tryd.prog 44 #[.string s] w (TokensIs w (toks s.data.toList)) := by
  have HS : Hid (s.size ≤ maxLen) := by have h : s.size ≤ maxLen := by unfold maxLen; omega
                                        exact h
  have hlen : s.data.toList.length = s.size := (size_data s).symm
  have HL := Lib.hid hlen
  clear hlen
  go_enter Tryd.func44, Tryd.ntmps44
  go_wp2
  go_loopw [3, 4] (fun v a wr => ∃ a' : Nat, a = .int .i64 a' ∧ a' ≤ s.size ∧ RT s w.heap.size a' v w wr) (fun _ a _ => s.size - (intOf a).toNat)
  case atStart => exact ⟨0, rfl, by omega, s.size, 0, [], Nat.le_refl _, Nat.zero_le _, by omega, by simp, by unfold toks; rw [HL.out]; rfl, Below.refl _ _, .inl ⟨rfl, .inl rfl, ownsK_nil _ _⟩⟩
  case round =>
    obtain ⟨a, rfl, ha, hRT⟩ := hrel
    have HRT := Lib.hid hRT
    clear hRT
    by_cases hlt : a < s.size
    · obtain ⟨f, fr, acc, hfr, _, hf, hac, heq, hbel, hown⟩ := HRT.out
      have HBEL := Lib.hid hbel
      have HOWN := Lib.hid hown
      have HEQ := Lib.hid heq
      clear hbel hown heq HRT
      obtain ⟨f, rfl⟩ : ∃ f', f = f' + 1 := ⟨f - 1, by omega⟩
      have hl : a < s.data.toList.length := by rw [HL.out]; exact hlt
      rcases find_cases s.data.toList a with ⟨hz, _⟩ | ⟨b, n, hfn, _, hb1, hb2, hb3, hn1, hn2, hn3, _⟩
      · have HR : Hid (findV (find s.data.toList a) = .tuple #[.int .i64 0, .int .i64 0]) := by
          have h : findV (find s.data.toList a) = .tuple #[.int .i64 0, .int .i64 0] := by rw [hz]; rfl
          exact h
        have HN : Hid (toks s.data.toList = acc ++ tks s.data.toList f fr (a + 1)) := by
          have h : toks s.data.toList = acc ++ tks s.data.toList f fr (a + 1) := by rw [HEQ.out, tks_step hl (by rw [hz])]
          exact h
        clear hz hl HEQ
        rcases HOWN.out with ⟨hfa, hacc, ho⟩ | ⟨hfa, ho⟩
        · subst hfa
          have HACC := Lib.hid hacc
          have HO := Lib.hid ho
          obtain ⟨t, ht⟩ : ∃ t : ByteArray, t = ⟨#[]⟩ := ⟨_, rfl⟩
          have HT := Lib.hid ht
          have HB0 : Hid (Below w.heap.size w wr) := HBEL.out
          obtain ⟨k, hk⟩ : ∃ k, k = acc.length := ⟨_, rfl⟩
          have HK := Lib.hid hk
          have hkl : k ≤ s.size := by omega
          have HKL : Hid (acc.length + 1 ≤ 1000000) := by have h : acc.length + 1 ≤ 1000000 := by omega
                                                          exact h
          have e1 : (fr : Int) ≤ (fr : Int) + 1 := by omega
          have e2 : (fr : Int) + 1 ≤ (s.size : Int) := by omega
          have hzr := HB0.out.size
          have HAC := Lib.hid hac
          clear ho HOWN HBEL hacc ht
          rcases HACC.out with hnil | ⟨r, b0, n0, hrep⟩
          · obtain ⟨va, vc, hv, _⟩ := HO.out.is.form
            have hkz : acc.length = 0 := by rw [hnil]; rfl
            rw [hkz] at hv
            subst hv
            clear hkz hac hk HACC hnil
            go_wp2_with fail
            refine (rfind_nat s fr _ HS.out hlt).mono ?_
            rintro e w1 ⟨rfl, q1, rfl⟩
            rw [HR.out]
            go_wp2_with (at_builtin; refine wpList_append_tok rfl _ _ rfl w.heap.size _ acc rfl ((HO.out.drewN _).alloc _) wr.heap.size 1 rfl ⟨⟨#[]⟩, 0, 0⟩ ?a1 ?a2 ?a3 ?_)
            case a1 => exact tokBlk_new _ _ _ _
            case a2 => exact HKL.out
            case a3 => simp; omega
            · intro g cap w2 ho2 hg2
              have hbel2 : Below w.heap.size w w2 := ((below_drewN HB0.out q1).alloc hzr _).grown hg2 (by simp; omega) (fun g hg => (HO.out.lt g hg).1)
              have HB2 := Lib.hid hbel2
              obtain ⟨hc1, hc2, hc3⟩ := ho2.last rfl
              simp only at hc1
              rw [← HT.out] at hc1
              have HO2 := Lib.hid ho2
              rw [← HK.out] at hc1 hc2
              rw [← HK.out]
              have htz : t.size ≤ 400000 := by rw [HT.out]; decide
              clear ho2 hg2 hbel2
              go_wp2
              go_region
              clear hc1 hc2 htz
              go_wp2
              go_roundw
              case rel =>
                refine ⟨fr + 1, by go_num, by omega, f, fr, acc, by omega, by omega, by omega, by have := HAC.out; omega, HN.out, (below_drewN HB2.out _).setCell hc3 _, .inr ⟨by omega, ?_⟩⟩
                rw [HK.out, HT.out, show (⟨#[]⟩ : ByteArray) ++ s.extract fr (fr + 1) = s.extract fr (fr + 1) from bs_ext (by rw [app_data]; rfl)]
                exact (HO2.out.drewN _).stored rfl _
              case measure => simp [intOf]; omega
          · have ho := HO.out
            rw [hrep] at ho
            obtain ⟨g0, cap0, hv⟩ := ho.form
            subst hv
            obtain ⟨hc1, hc2, hc3⟩ := ho.last rfl
            obtain ⟨k0, hk0⟩ : ∃ k, k = r.length := ⟨_, rfl⟩
            have hkk : acc.length = k0 + 1 := by rw [hrep, hk0, List.length_append]; rfl
            rw [← hk0] at hc1 hc2 HO
            rw [← hk0]
            have hc1' : wr.cell? ⟨g0, k0 * 3, none⟩ = some (.string ⟨#[]⟩) := hc1
            have hkb : ((k0 : Int) + 1 == 0) = false := by simp; omega
            have hkl0 : k0 ≤ s.size := by omega
            clear ho hac hk HACC hrep hc1 hk0 hkk
            go_wp2_with fail
            refine (rfind_nat s fr _ HS.out hlt).mono ?_
            rintro e w1 ⟨rfl, q1, rfl⟩
            rw [HR.out]
            go_wp2_with (at_builtin; refine wpList_append_tok rfl _ _ rfl w.heap.size _ acc rfl ((HO.out.drewN _).alloc _) wr.heap.size 1 rfl ⟨⟨#[]⟩, 0, 0⟩ ?b1 ?b2 ?b3 ?_)
            case b1 => exact tokBlk_new _ _ _ _
            case b2 => exact HKL.out
            case b3 => simp; omega
            · intro g cap w2 ho2 hg2
              clear hc1' hc2 hc3 hkb
              have hbel2 : Below w.heap.size w w2 := ((below_drewN HB0.out q1).alloc hzr _).grown hg2 (by simp; omega) (fun g hg => (HO.out.lt g hg).1)
              have HB2 := Lib.hid hbel2
              obtain ⟨hc1, hc2, hc3⟩ := ho2.last rfl
              simp only at hc1
              rw [← HT.out] at hc1
              have HO2 := Lib.hid ho2
              rw [← HK.out] at hc1 hc2
              rw [← HK.out]
              have htz : t.size ≤ 400000 := by rw [HT.out]; decide
              clear ho2 hg2 hbel2
              go_wp2
              go_region
              clear hc1 hc2 htz
              go_wp2
              go_roundw
              case rel =>
                refine ⟨fr + 1, by go_num, by omega, f, fr, acc, by omega, by omega, by omega, by have := HAC.out; omega, HN.out, (below_drewN HB2.out _).setCell hc3 _, .inr ⟨by omega, ?_⟩⟩
                rw [HK.out, HT.out, show (⟨#[]⟩ : ByteArray) ++ s.extract fr (fr + 1) = s.extract fr (fr + 1) from bs_ext (by rw [app_data]; rfl)]
                exact (HO2.out.drewN _).stored rfl _
              case measure => simp [intOf]; omega
        · obtain ⟨g, cap, hv⟩ := ho.form
          subst hv
          obtain ⟨hc1, hc2, hc3⟩ := ho.last rfl
          have HO := Lib.hid ho
          obtain ⟨k, hk⟩ : ∃ k, k = acc.length := ⟨_, rfl⟩
          rw [← hk] at hc1 hc2 HO
          rw [← hk]
          have HK := Lib.hid hk
          obtain ⟨t, ht⟩ : ∃ t, t = s.extract fr a := ⟨_, rfl⟩
          have hte : t.toList.isEmpty = false := by rw [ht]; exact ext_ne s fr a hfa ha
          have htz : t.size ≤ 400000 := by rw [ht, ByteArray.size_extract]; omega
          have hkb : ((k : Int) + 1 == 0) = false := by simp; omega
          simp only at hc1
          rw [← ht] at hc1
          have HT := Lib.hid ht
          have e1 : (a : Int) ≤ (a : Int) + 1 := by omega
          have e2 : (a : Int) + 1 ≤ (s.size : Int) := by omega
          have hkl : k ≤ s.size := by omega
          have HAC := Lib.hid hac
          clear ho hk ht HOWN hac
          go_wp2_with fail
          refine (rfind_nat s a _ HS.out hlt).mono ?_
          rintro e w1 ⟨rfl, q1, rfl⟩
          rw [HR.out]
          go_wp2
          go_region
          clear hc1 hc2 hte htz hkb
          go_wp2
          go_roundw
          case rel =>
            refine ⟨a + 1, by go_num, by omega, f, fr, acc, by omega, by omega, by omega, by have := HAC.out; omega, HN.out, (below_drewN HBEL.out _).setCell hc3 _, .inr ⟨by omega, ?_⟩⟩
            rw [HK.out, HT.out, ext_join s fr a hfr hlt]
            have h := HO.out
            rw [HK.out] at h
            exact (h.drewN _).stored rfl _
          case measure => simp [intOf]; omega
      · rw [HL.out] at hn3
        have HR : Hid (findV (find s.data.toList a) = .tuple #[.int .i64 b, .int .i64 n]) := by
          have h : findV (find s.data.toList a) = .tuple #[.int .i64 b, .int .i64 n] := by rw [hfn]; rfl
          exact h
        obtain ⟨L1, hL1, ho1⟩ : ∃ L1, acc ++ ownT ((s.data.toList.take a).drop fr) = L1 ∧ ownsK wr w.heap.size u3 L1 := by
          refine ⟨_, rfl, ?_⟩
          rcases HOWN.out with ⟨h1, _, h2⟩ | ⟨h1, h2⟩
          · rw [h1, pend0, List.append_nil]; exact h2
          · rw [pend s fr a h1 ha]; exact h2
        have hol : L1.length ≤ a + 1 := by
          rw [← hL1, List.length_append]
          have : (ownT ((s.data.toList.take a).drop fr)).length ≤ 1 := by unfold ownT; split <;> simp
          omega
        have HN : Hid (toks s.data.toList = (L1 ++ [repT b n]) ++ tks s.data.toList f (a + n) (a + n)) := by
          have h : toks s.data.toList = (L1 ++ [repT b n]) ++ tks s.data.toList f (a + n) (a + n) := by
            rw [HEQ.out, tks_rep hl hfn (by omega), ← hL1]; simp
          exact h
        have HO1 := Lib.hid ho1
        have HOL := Lib.hid hol
        have HOL1 : Hid (L1.length + 1 ≤ 1000000) := by have h : L1.length + 1 ≤ 1000000 := by omega
                                                        exact h
        have hn0 : 0 < n := by omega
        have hz1 := HBEL.out.size
        clear hfn hl HEQ hL1 ho1 hol HOWN
        go_wp2_with fail
        refine (rfind_nat s a _ HS.out hlt).mono ?_
        rintro e w1 ⟨rfl, q1, rfl⟩
        rw [HR.out]
        go_wp2_with (at_builtin; refine wpList_append_tok rfl _ _ rfl w.heap.size _ L1 rfl ((HO1.out.drewN _).alloc _) wr.heap.size 1 rfl (repT b n) ?d1 ?d2 ?d3 ?_)
        case d1 => exact tokBlk_new _ _ _ _
        case d2 => exact HOL1.out
        case d3 => simp; omega
        · intro g cap w2 ho2 hg2
          have HB2 : Hid (Below w.heap.size w w2) := ((below_drewN HBEL.out q1).alloc hz1 _).grown hg2 (by simp; omega) (fun g hg => (HO1.out.lt g hg).1)
          have HO2 := Lib.hid ho2
          clear ho2 hg2
          go_wp2
          go_roundw
          case rel => exact ⟨a + n, by go_num, by omega, f, a + n, _, Nat.le_refl _, by omega, by omega, by rw [List.length_append]; simp only [List.length_singleton]; have := HOL.out; omega, HN.out, HB2.out, .inl ⟨rfl, .inr ⟨_, _, _, rfl⟩, HO2.out⟩⟩
          case measure => simp [intOf]; omega
    · obtain rfl : a = s.size := by omega
      obtain ⟨f, fr, acc, hfr, _, hf, hac, heq, hbel, hown⟩ := HRT.out
      have HBEL := Lib.hid hbel
      have HN : Hid (ownsK wr w.heap.size u3 (toks s.data.toList)) := by
        have h : ownsK wr w.heap.size u3 (toks s.data.toList) := by
          rw [heq, tks_end (by rw [HL.out]; omega)]
          rcases hown with ⟨h1, _, h2⟩ | ⟨h1, h2⟩
          · rw [h1, pend0, List.append_nil]; exact h2
          · rw [pend s fr s.size h1 (Nat.le_refl _)]; exact h2
        exact h
      clear hbel hown heq HRT
      go_wp2
      go_ret
      exact ⟨_, rfl, HN.out, HBEL.out⟩
end Go.Proofs.YtjhmlmcibpjagaaDoor
