/-
  The contract of the laws' 'big' (law): it ends, and writes nothing.
-/
import Derived.Test.YtiipnifnejnhlaaDoorBatBigM
import Derived.Lib.Hide
import Derived.Outline
namespace Go.Proofs.YtiipnifnejnhlaaDoor
open Go.RowKit

set_option maxRecDepth 100000 in
set_option maxHeartbeats 4000000 in
theorem bigL_any (vf vh vw : Value) (f h : List Ent) (l : List Wr) (w : World) (hx : BatIs w vf vh vw f h l) :
    Calls Tryd.prog 8 #[.agg #[vf, vh, vw]] w fun e w' => e = .returned (.bool (bigV 300 f h l)) ∧ Below w.heap.size w w' := by
  obtain ⟨hf, hh, hv, hlf, hlh, hlw, hok⟩ := hx
  obtain ⟨af, cf, rfl, _⟩ := hf.form
  obtain ⟨ah, ch, rfl, _⟩ := hh.form
  obtain ⟨aw, cw, rfl, fw⟩ := hv.form
  have FW := Lib.hid fw
  obtain ⟨nf, hnf⟩ : ∃ n, n = f.length := ⟨_, rfl⟩
  obtain ⟨nh, hnh⟩ : ∃ n, n = h.length := ⟨_, rfl⟩
  obtain ⟨n, hn⟩ : ∃ n, n = l.length := ⟨_, rfl⟩
  rw [← hnf, ← hnh, ← hn]
  rw [← hn] at hlw
  have HN := Lib.hid hn
  have hbv : bigV 300 f h l = decide (300 < bigS (IntKind.i64.wrap (IntKind.i64.wrap ((nf : Int) + (nh : Int)) + (n : Int))) l) := by rw [hnf, hnh, hn]; rfl
  obtain ⟨s1, hs1⟩ : ∃ s, IntKind.i64.wrap ((nf : Int) + (nh : Int)) = s := ⟨_, rfl⟩
  obtain ⟨s2, hs2⟩ : ∃ s, IntKind.i64.wrap (s1 + (n : Int)) = s := ⟨_, rfl⟩
  rw [hs1, hs2] at hbv
  have HBV := Lib.hid hbv
  clear hf hh hv hlf hlh hnf hnh hn fw hok hbv
  go_enter Tryd.func8, Tryd.ntmps8
  go_wp2
  clear hs1 hs2
  go_loopw [3, 20] (fun s i wr => ∃ (x : Int) (k : Nat), s = .int .i64 x ∧ k ≤ n ∧ i = .int .i64 k ∧ bigS s2 l = bigS x (l.drop k) ∧ Below w.heap.size w wr) (fun _ i _ => n - (intOf i).toNat)
  case atStart => exact ⟨_, 0, rfl, by omega, rfl, rfl, (Below.refl _ _).alloc (Nat.le_refl _) _⟩
  case round =>
    obtain ⟨x, k, rfl, hk, rfl, heq, hbel⟩ := hrel
    have HEQ := Lib.hid heq
    clear heq
    have HB := Lib.hid hbel
    have hzr := hbel.size
    clear hbel
    by_cases hlt : k < n
    · obtain ⟨t, ht⟩ : ∃ t, l[k]? = some t := ⟨l[k]'(by have := HN.out; omega), List.getElem?_eq_getElem _⟩
      obtain ⟨b1, o1, rfl, hb1, p0, p1, p2, p3, p4, p5⟩ := FW.out k t ht
      have q0 := (HB.out.cell (p := ⟨b1, o1 + k * 6, none⟩) hb1).trans p0
      have q1 := (HB.out.cell (p := ⟨b1, o1 + k * 6 + 1, none⟩) hb1).trans p1
      have q2 := (HB.out.cell (p := ⟨b1, o1 + k * 6 + 2, none⟩) hb1).trans p2
      have q3 := (HB.out.cell (p := ⟨b1, o1 + k * 6 + 3, none⟩) hb1).trans p3
      have q4 := (HB.out.cell (p := ⟨b1, o1 + k * 6 + 4, none⟩) hb1).trans p4
      have q5 := (HB.out.cell (p := ⟨b1, o1 + k * 6 + 5, none⟩) hb1).trans p5
      have hd := bigS_drop x ht
      obtain ⟨T, R, K, key, val, N⟩ := t
      simp only at q0 q1 q2 q3 q4 q5 hd
      obtain ⟨u, hu⟩ : ∃ u, IntKind.i64.wrap ((key.size : Int) + (val.size : Int)) = u := ⟨_, rfl⟩
      obtain ⟨y, hy⟩ : ∃ y, IntKind.i64.wrap (u.tdiv 8) = y := ⟨_, rfl⟩
      obtain ⟨z, hz⟩ : ∃ z, IntKind.i64.wrap (x + y) = z := ⟨_, rfl⟩
      rw [hu, hy, hz] at hd
      have HD : Hid (bigS s2 l = bigS z (l.drop (k + 1))) := Lib.hid (HEQ.out.trans hd)
      clear hd
      clear p0 p1 p2 p3 p4 p5 ht
      go_wp2
      go_roundw
      case rel => exact ⟨_, k + 1, rfl, by omega, by go_num, HD.out, HB.out.alloc hzr _⟩
      case measure => simp [intOf]; omega
    · have HD : Hid (bigV 300 f h l = decide (300 < x)) := Lib.hid (by rw [HBV.out, HEQ.out, List.drop_eq_nil_of_le (by have := HN.out; omega)]; rfl)
      go_wp2
      go_ret
      exact ⟨by rw [HD.out]; rfl, HB.out⟩

theorem bigL_as (vf vh vw : Value) (f h : List Ent) (l : List Wr) (c : Bool) (w : World) (hx : BatIs w vf vh vw f h l) (hc : bigV 300 f h l = c) :
    Calls Tryd.prog 8 #[.agg #[vf, vh, vw]] w fun e w' => e = .returned (.bool c) ∧ Below w.heap.size w w' := by
  subst hc; exact bigL_any vf vh vw f h l w hx
end Go.Proofs.YtiipnifnejnhlaaDoor
