/-
  The contract of match.Text.
-/
import Derived.Test.YtjhmlmcibpjagaaDoorMatchRight
import Derived.Test.YtjhmlmcibpjagaaDoorBufS
namespace Go.Proofs.YtjhmlmcibpjagaaDoor
open Go.RowKit

/-- The text that tokens make, if they are right. -/
def textF (l : List Tok) : List UInt8 := if (rightF l 0 0).1 = 0 then textL [] l else []
def TextIs (w : World) (l : List Tok) (e : Ending) (w' : World) : Prop :=
  ∃ err, e = .returned (.tuple #[.string ⟨(textF l).toArray⟩, err]) ∧ atIs w' err (rightF l 0 0) ∧ Below w.heap.size w w'

theorem textL_cons (b : List UInt8) (t : Tok) (r : List Tok) : textL b (t :: r) = textL (stepT b t) r := rfl
theorem repL_succ (b : List UInt8) (k n : Nat) : repL b k (n + 1) = repL (b ++ [b.getD (b.length - k) 0]) k n := rfl

set_option maxRecDepth 100000 in
set_option maxHeartbeats 4000000 in
theorem text_any (v : Value) (l : List Tok) (w : World) (hv : IsToks w v l) (hl : l.length ≤ 9223372036854775807) (hz : ∀ t ∈ l, t.own.size ≤ 140737488351232) :
    Calls Tryd.prog 42 #[v] w (TextIs w l) := by
  have HV := Lib.hid hv
  have HLL := Lib.hid hl
  have HZ := Lib.hid hz
  by_cases hr : (rightF l 0 0).1 = 0
  · have HR := Lib.hid (rightF_any hr)
    have HT : Hid (textF l = textL [] l) := by
      have h : textF l = textL [] l := by unfold textF; rw [if_pos hr]
      exact h
    have HR0 := Lib.hid hr
    obtain ⟨a1, c1, rfl, f1⟩ := hv.form
    have F1 := Lib.hid f1
    obtain ⟨n, hn⟩ : ∃ n, n = l.length := ⟨_, rfl⟩
    rw [← hn] at hl ⊢ HV
    have HN := Lib.hid hn
    clear hv f1 hn hz hr
    go_enter Tryd.func42, Tryd.ntmps42
    go_wp2_with fail
    refine (right_any _ l _ HV.out HLL.out HZ.out).mono ?_
    rintro r w0 ⟨err, rfl, hat, hb0⟩
    obtain rfl : err = .nilIface := by
      rcases hat with ⟨_, h⟩ | ⟨h, _⟩
      · exact h
      · exact absurd HR0.out h
    have HB0 := Lib.hid hb0
    clear hat hb0
    go_wp2
    go_loopw [5, 15] (fun v i wr => ∃ (k : Nat) (acc : List UInt8), k ≤ n ∧ i = .int .i64 k ∧ textL [] l = textL acc (l.drop k) ∧ (rightF (l.drop k) k acc.length).1 = 0 ∧ acc.length ≤ 20000 ∧ ownsB wr w.heap.size v acc ∧ Below w.heap.size w wr) (fun _ i _ => n - (intOf i).toNat)
    case atStart => exact ⟨0, [], by omega, rfl, rfl, HR0.out, by simp, ownsB_nil _ _, HB0.out⟩
    case round =>
      obtain ⟨k, acc, hk, rfl, htx, hrt, hac, hown, hbel⟩ := hrel
      have HTX := Lib.hid htx
      have HRT := Lib.hid hrt
      have HO := Lib.hid hown
      have HB := Lib.hid hbel
      clear htx hrt hown hbel
      by_cases hlt : k < n
      · have hkl : k < l.length := by have := HN.out; omega
        obtain ⟨t, ht⟩ : ∃ t, l[k]? = some t := ⟨l[k], List.getElem?_eq_getElem hkl⟩
        obtain ⟨b1, o1, rfl, hb1, p0, p1, p2⟩ := F1.out k t ht
        have hd : l.drop k = t :: l.drop (k + 1) := by
          rw [List.drop_eq_getElem_cons hkl]; congr 1
          rw [List.getElem?_eq_getElem hkl] at ht; exact Option.some.inj ht
        obtain ⟨own, back, size⟩ := t
        simp only at p0 p1 p2
        have q0 := (HB.out.cell (p := ⟨b1, o1 + k * 3, none⟩) hb1).trans p0
        have q1 := (HB.out.cell (p := ⟨b1, o1 + k * 3 + 1, none⟩) hb1).trans p1
        have q2 := (HB.out.cell (p := ⟨b1, o1 + k * 3 + 2, none⟩) hb1).trans p2
        have hzr := HB.out.size
        have hrt := HRT.out
        rw [hd] at hrt
        obtain ⟨hw0, hw1⟩ := rightF_head hrt
        have hle := wrongN_le hw0
        obtain ⟨nn, hnn⟩ : ∃ nn : Nat, size = nn := by
          rcases wrongN_ok hw0 with ⟨_, h, _⟩ | ⟨_, h, _⟩
          · exact ⟨0, h⟩
          · exact Int.eq_ofNat_of_zero_le (Int.le_trans (by decide) h)
        subst hnn
        have hfacts : own.size ≤ 20000 ∧ nn ≤ 67 ∧ (0 < nn → own.size = 0 ∧ 1 ≤ back ∧ back ≤ acc.length) := by
          rcases wrongN_ok hw0 with ⟨h1, h2, h3, h4⟩ | ⟨h1, h2, h3, h4, h5, h6, h7⟩
          · simp only at h1 h2 h3 h4
            exact ⟨by omega, by omega, fun h => absurd h (by omega)⟩
          · simp only at h1 h2 h3 h4 h5 h6 h7
            exact ⟨by omega, by omega, fun h => ⟨h1, h4, h6⟩⟩
        have HD : Hid (textL [] l = textL (repL (acc ++ own.data.toList) back.toNat nn) (l.drop (k + 1))) := by
          have h : textL [] l = textL (repL (acc ++ own.data.toList) back.toNat nn) (l.drop (k + 1)) := by
            rw [HTX.out, hd, textL_cons]; rfl
          exact h
        have HW1 : Hid ((rightF (l.drop (k + 1)) (k + 1) ((acc ++ own.data.toList).length + nn)).1 = 0) := by
          have h : (rightF (l.drop (k + 1)) (k + 1) ((acc ++ own.data.toList).length + nn)).1 = 0 := by
            have e : (acc ++ own.data.toList).length + nn = acc.length + lenT ⟨own, back, nn⟩ := by
              rw [List.length_append, ← size_data]; show _ = _ + (own.size + (nn : Int).toNat); omega
            rw [e]; exact hw1
          exact h
        have hle2 : (acc ++ own.data.toList).length + nn ≤ 20000 := by
          rw [List.length_append, ← size_data]
          have h : lenT ⟨own, back, nn⟩ = own.size + nn := by show own.size + (nn : Int).toNat = _; omega
          omega
        obtain ⟨acc1, hacc1⟩ : ∃ acc1, acc ++ own.data.toList = acc1 := ⟨_, rfl⟩
        have hal : acc.length ≤ acc1.length := by rw [← hacc1, List.length_append]; omega
        rw [hacc1] at HD HW1 hle2
        have HA1 := Lib.hid hacc1
        obtain ⟨f1', f2', f3'⟩ := hfacts
        have HF3 := Lib.hid f3'
        clear p0 p1 p2 ht hd hkl hrt hw0 hw1 hle HTX HRT hacc1 f3'
        go_wp2_with (at_builtin; refine wpList_append_text rfl _ _ rfl w.heap.size _ acc rfl (HO.out.alloc _) own rfl ?c1 ?c2 ?_)
        case c1 => omega
        case c2 => simp; omega
        · intro v1 w1 ho1 hg1
          rw [HA1.out] at ho1
          have htb : tokBlk w1 wr.heap.size ⟨own, back, nn⟩ := (tokBlk_new wr own back nn).grown hg1 ((HO.out.alloc _).ne_tok (tokBlk_new wr own back nn))
          have hbel1 : Below w.heap.size w w1 := (HB.out.alloc hzr _).grown hg1 (by simp; omega) (fun g hg => (HO.out.lt g hg).1)
          have HTB := Lib.hid htb
          have HO1 := Lib.hid ho1
          have HB1 := Lib.hid hbel1
          obtain ⟨_, _, t2⟩ := htb.cells
          simp only at t2
          clear ho1 hg1 htb hbel1 q0 q1 q2
          go_wp2
          obtain ⟨Bt, hBt⟩ : ∃ B, B = wr.heap.size := ⟨_, rfl⟩
          rw [← hBt]
          rw [← hBt] at HTB
          clear t2 hBt hzr HB HO
          go_loopw [5, 25] (fun v j wi => ∃ (j' : Nat) (b : List UInt8), j' ≤ nn ∧ j = .int .i64 j' ∧ repL acc1 back.toNat nn = repL b back.toNat (nn - j') ∧ b.length = acc1.length + j' ∧ ownsB wi w.heap.size v b ∧ tokBlk wi Bt ⟨own, back, nn⟩ ∧ Below w.heap.size w wi) (fun _ j _ => nn - (intOf j).toNat)
          case atStart => exact ⟨0, acc1, by omega, rfl, rfl, rfl, HO1.out, HTB.out, HB1.out⟩
          case round =>
            obtain ⟨j, b, hj, rfl, hrep, hbl, hown, htb, hbel⟩ := hrel
            have HREP := Lib.hid hrep
            have HBL := Lib.hid hbl
            by_cases hjl : j < nn
            · obtain ⟨_, hk1, hk2⟩ := HF3.out (by omega)
              obtain ⟨kb, rfl⟩ := Int.eq_ofNat_of_zero_le (show 0 ≤ back by omega)
              rcases hown.forms with ⟨_, hnil⟩ | ⟨g, cap, hv, hbg, hgl, hcells⟩
              · rw [hnil] at hbl; simp at hbl; omega
              · subst hv
                obtain ⟨m, hm⟩ : ∃ m, m = b.length := ⟨_, rfl⟩
                obtain ⟨r, hr⟩ : ∃ r, r = b.length - kb := ⟨_, rfl⟩
                have hcr := hcells r (by omega)
                obtain ⟨_, t1, _⟩ := htb.cells
                simp only at t1
                have e1 : (m : Int) - (kb : Int) = (r : Int) := by omega
                have hrm : r < m := by omega
                have hm2 : m ≤ 20100 := by omega
                have HRN : Hid (repL acc1 kb nn = repL (b ++ [b.getD r 0]) kb (nn - (j + 1))) := by
                  have h : repL acc1 kb nn = repL (b ++ [b.getD r 0]) kb (nn - (j + 1)) := by
                    have h2 := HREP.out
                    rw [Int.toNat_natCast, show nn - j = (nn - (j + 1)) + 1 by omega, repL_succ, ← hr] at h2
                    exact h2
                  exact h
                obtain ⟨c, hc⟩ : ∃ c, b.getD r 0 = c := ⟨_, rfl⟩
                rw [hc] at hcr HRN
                rw [← hm]
                have HOW := Lib.hid hown
                rw [← hm] at HOW
                have HTB2 := Lib.hid htb
                have HB2 := Lib.hid hbel
                have HM := Lib.hid hm
                have hzi := hbel.size
                clear hrep hbl hown htb hbel hcells hr hc hm HREP
                go_wp2_with (at_builtin; refine wpList_append_byte rfl _ _ rfl w.heap.size _ b rfl (HOW.out.alloc _) ⟨wr.heap.size, 0, none⟩ 1 rfl ((c.toNat : Nat) : Int) c ?d1 ?d2 ?d3 ?d4 ?_)
                case d2 => rfl
                case d3 => have := HM.out; omega
                case d4 => first | omega | (simp; omega)
                · intro v2 w2 ho2 hg2 _
                  have HB3 : Hid (Below w.heap.size w w2) := (HB2.out.alloc hzi _).grown hg2 (by simp; omega) (fun g hg => (HOW.out.lt g hg).1)
                  have HTB3 : Hid (tokBlk w2 Bt ⟨own, kb, nn⟩) := (HTB2.out.alloc _).grown hg2 (HOW.out.ne_tok HTB2.out)
                  have HO3 := Lib.hid ho2
                  clear ho2 hg2 hcr t1
                  go_wp2
                  go_roundw
                  case rel => exact ⟨j + 1, b ++ [c], by omega, by go_num, by rw [Int.toNat_natCast]; exact HRN.out, by rw [List.length_append, List.length_singleton, HBL.out]; omega, HO3.out, HTB3.out, HB3.out⟩
                  case measure => simp [intOf]; omega
            · have HRN : Hid (textL [] l = textL b (l.drop (k + 1))) := by
                have h : textL [] l = textL b (l.drop (k + 1)) := by rw [HD.out, HREP.out, show nn - j = 0 by omega]; rfl
                exact h
              have HRW : Hid ((rightF (l.drop (k + 1)) (k + 1) b.length).1 = 0) := by
                have h : (rightF (l.drop (k + 1)) (k + 1) b.length).1 = 0 := by rw [hbl, show j = nn by omega]; exact HW1.out
                exact h
              have HOW := Lib.hid hown
              have HB2 := Lib.hid hbel
              obtain ⟨_, _, t2⟩ := htb.cells
              clear hrep hbl hown hbel htb
              go_wp2
              go_roundw
              case rel => exact ⟨k + 1, b, by omega, by go_num, HRN.out, HRW.out, by have := HBL.out; omega, HOW.out, HB2.out⟩
              case measure => simp [intOf]; omega
      · have HRN : Hid (textF l = acc) := by
          have h : textF l = acc := by rw [HT.out, HTX.out, List.drop_eq_nil_of_le (by have := HN.out; omega)]; rfl
          exact h
        have hcv := run_string_ownsB HO.out
        go_wp2
        go_ret2
        exact ⟨_, by rw [HRN.out]; rfl, .inl ⟨HR.out, rfl⟩, HB.out⟩
  · have HT : Hid (textF l = []) := by
      have h : textF l = [] := by unfold textF; rw [if_neg hr]
      exact h
    have HR0 := Lib.hid hr
    clear hv hl hz hr
    go_enter Tryd.func42, Tryd.ntmps42
    go_wp2_with fail
    refine (right_any _ l _ HV.out HLL.out HZ.out).mono ?_
    rintro r w0 ⟨err, rfl, hat, hb0⟩
    have HAT := Lib.hid hat
    have HB0 := Lib.hid hb0
    obtain ⟨b, rfl, _⟩ : ∃ b, err = .iface 78 (.pointer (some ⟨b, 0, none⟩)) ∧ True := by
      rcases hat with ⟨h, _⟩ | ⟨_, b, h, _⟩
      · exact absurd (by rw [h]) HR0.out
      · exact ⟨b, h, trivial⟩
    clear hat hb0
    go_wp2
    go_ret2
    exact ⟨_, by rw [HT.out]; rfl, HAT.out, HB0.out⟩
end Go.Proofs.YtjhmlmcibpjagaaDoor
