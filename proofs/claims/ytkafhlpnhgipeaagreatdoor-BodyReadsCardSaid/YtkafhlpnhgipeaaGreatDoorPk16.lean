import Derived.Test.YtkafhlpnhgipeaaGreatDoorPk05
import Derived.Test.YtkafhlpnhgipeaaGreatDoorPk07
import Derived.Test.YtkafhlpnhgipeaaGreatDoorProg
import Derived.Test.YtkafhlpnhgipeaaGreatDoorPk10
import Derived.Test.YtkafhlpnhgipeaaGreatDoorPk14
import Derived.RegionTactic
import Derived.WalkSpells
import Derived.WalkKit
import Derived.Handy
import Derived.KernelRfl
import Derived.Below
import Derived.Defers
import Derived.Recover
import Derived.WalkLawsBesides
import Derived.Lib.Hide
import Derived.Outline
/-
  The contracts of vector.get and vector.Read.
-/
namespace Go.Proofs.YtkafhlpnhgipeaaGreatDoor
open Go.RowKit

theorem ext_dropV (s : ByteArray) (a : Nat) : (s.extract a s.size).data.toList = s.data.toList.drop a := by
  rw [ext_data, List.take_of_length_le (by rw [← size_data]; exact Nat.le_refl _)]
theorem vint_bad (s : ByteArray) (most : Int) (w : World) (hs : s.size ≤ maxLen) (h0 : -9223372036854775808 ≤ most) (h1 : most ≤ 9223372036854775807) (e : Nat) (h : intL s.data.toList most = (0, 0, e)) (he : e ≠ 0) :
    Calls Tryz.prog 97 #[.string s, .int .i64 most] w fun r w' => r = .returned (.tuple #[.int .i64 0, .int .i64 0, .iface 27 (.int .i64 (e : Nat))]) ∧ w = w' :=
  (int_any s most w hs h0 h1).mono fun r w' ⟨h1, h2⟩ => ⟨h1.trans (by rw [h]; unfold intV errV; rw [if_neg he]; rfl), h2⟩
theorem vint_ok (s : ByteArray) (most : Int) (w : World) (hs : s.size ≤ maxLen) (h0 : -9223372036854775808 ≤ most) (h1 : most ≤ 9223372036854775807) (n k : Nat) (h : intL s.data.toList most = (n, k, 0)) :
    Calls Tryz.prog 97 #[.string s, .int .i64 most] w fun r w' => r = .returned (.tuple #[.int .i64 n, .int .i64 k, .nilIface]) ∧ w = w' :=
  (int_any s most w hs h0 h1).mono fun r w' ⟨h1, h2⟩ => ⟨h1.trans (by rw [h]; rfl), h2⟩

/-- What 'get' answers: an Errno and nothing beside it, or a run, and how many bytes it has. -/
def VGetIs (w : World) (r : Nat ⊕ (List Ent × Nat)) (e : Ending) (w' : World) : Prop :=
  match r with
  | .inl er => e = .returned (.tuple #[.slice none 0 0, .int .i64 0, .iface 27 (.int .i64 (er : Nat))]) ∧ Below w.heap.size w w'
  | .inr (run, k) => ∃ v, e = .returned (.tuple #[v, .int .i64 (k : Nat), .nilIface]) ∧ ownsE w' w.heap.size v run ∧ Below w.heap.size w w'
theorem vget_bad {w : World} {x : Nat ⊕ (List Ent × Nat)} {er : Nat} (h : x = .inl er) (w' : World) (hb : Below w.heap.size w w') : VGetIs w x (.returned (.tuple #[.slice none 0 0, .int .i64 0, .iface 27 (.int .i64 (er : Nat))])) w' := by
  rw [h]; exact ⟨rfl, hb⟩
theorem vget_good {w : World} {x : Nat ⊕ (List Ent × Nat)} {run : List Ent} {k : Nat} (h : x = .inr (run, k)) (v : Value) (w' : World) (ho : ownsE w' w.heap.size v run) (hb : Below w.heap.size w w') : VGetIs w x (.returned (.tuple #[v, .int .i64 (k : Nat), .nilIface])) w' := by
  rw [h]; exact ⟨v, rfl, ho, hb⟩

theorem idx2_0 (w : World) : (Instr.index 201 (.agg #[.int .i64 200, .int .i64 16]) (.int .i64 0)).run Tryz.prog w = .ok (.int .i64 200) w := by kernel_rfl
theorem idx2_1 (w : World) : (Instr.index 201 (.agg #[.int .i64 200, .int .i64 16]) (.int .i64 1)).run Tryz.prog w = .ok (.int .i64 16) w := by kernel_rfl

/-- The gap and how many, in the call's first block. -/
def HD (w wr : World) (g c : Int) : Prop := wr.heap[w.heap.size]? = some (.cells #[.int .i64 g, .int .i64 c] 201 (0, 0)) ∧ Below w.heap.size w wr
theorem HD.start (w : World) : HD w (w.alloc (.cells #[.int .i64 0, .int .i64 0] 201)) 0 0 := ⟨heap_alloc_new _ _, (Below.refl _ _).alloc (Nat.le_refl _) _⟩
theorem HD.lt {w wr : World} {g c : Int} (h : HD w wr g c) : w.heap.size < wr.heap.size := (Array.getElem?_eq_some_iff.1 h.1).1
theorem HD.cells {w wr : World} {g c : Int} (h : HD w wr g c) : wr.cell? ⟨w.heap.size, 0, none⟩ = some (.int .i64 g) ∧ wr.cell? ⟨w.heap.size, 1, none⟩ = some (.int .i64 c) ∧ wr.frozen? ⟨w.heap.size, 0, none⟩ = false ∧ wr.frozen? ⟨w.heap.size, 1, none⟩ = false :=
  ⟨cell_of_row _ _ 0 _ _ (0, 0) h.1, cell_of_row _ _ 1 _ _ (0, 0) h.1, frozen_of_row _ _ _ _ _ h.1, frozen_of_row _ _ _ _ _ h.1⟩
theorem HD.set0 {w wr : World} {g c : Int} (h : HD w wr g c) (x : Int) : HD w (wr.setCell ⟨w.heap.size, 0, none⟩ (.int .i64 x)) x c := ⟨by rw [heap_setCell_same _ _ _ _ _ _ h.1]; rfl, h.2.setCell (Nat.le_refl _) _⟩
theorem HD.set1 {w wr : World} {g c : Int} (h : HD w wr g c) (x : Int) : HD w (wr.setCell ⟨w.heap.size, 1, none⟩ (.int .i64 x)) g x := ⟨by rw [heap_setCell_same _ _ _ _ _ _ h.1]; rfl, h.2.setCell (Nat.le_refl _) _⟩

/-- How far the gap and how many are read. -/
def HL (s : List UInt8) (w : World) (k a : Nat) (wr : World) : Prop :=
  (k = 0 ∧ a = 0 ∧ HD w wr 0 0) ∨
  (k = 1 ∧ ∃ g, intL s 200 = (g, a, 0) ∧ a ≤ s.length ∧ HD w wr (g : Nat) 0) ∨
  (k = 2 ∧ ∃ g j c i, a = j + i ∧ j + i ≤ s.length ∧ g ≤ 200 ∧ c ≤ 16 ∧ intL s 200 = (g, j, 0) ∧ intL (s.drop j) 16 = (c, i, 0) ∧ HD w wr (g : Nat) (c : Nat))

set_option maxRecDepth 100000 in
set_option maxHeartbeats 4000000 in
theorem vget_any (s : ByteArray) (least : Int) (w : World) (hs : s.size ≤ 1000000) (hl0 : 0 ≤ least) (hl1 : least ≤ 1000000) :
    Calls Tryz.prog 98 #[.string s, .int .i64 least] w (VGetIs w (getR s.data.toList 0 least [])) := by
  have i0 := idx2_0
  have i1 := idx2_1
  have hsl : s.data.toList.length = s.size := (size_data s).symm
  have HSL := Lib.hid hsl
  clear hsl
  go_enter Tryz.func98, Tryz.ntmps98
  go_wp2
  go_loopw [7, 20] (fun av i wr => ∃ k a : Nat, k ≤ 2 ∧ i = .int .i64 k ∧ av = .int .i64 a ∧ HL s.data.toList w k a wr) (fun _ i _ => 2 - (intOf i).toNat)
  case atStart => exact ⟨0, 0, by omega, rfl, rfl, .inl ⟨rfl, rfl, HD.start w⟩⟩
  case round =>
    obtain ⟨k, a, hk, rfl, rfl, hh⟩ := hrel
    have HM : Hid ((s.extract a s.size).size ≤ maxLen) := Lib.hid (show (s.extract a s.size).size ≤ maxLen by rw [ByteArray.size_extract]; unfold maxLen; omega)
    have HE := Lib.hid (ext_dropV s a)
    have d3 : (0 : Int) ≤ (a : Int) := by omega
    rcases hh with ⟨rfl, ha, hd⟩ | ⟨rfl, g, hg, hal, hd⟩ | ⟨rfl, g, j, c, i, ha, hji, hg2, hc2, hg, hc, hd⟩
    · have HDD := Lib.hid hd
      obtain ⟨c0, c1, y0, y1⟩ := hd.cells
      have hz := hd.lt
      have HA := Lib.hid ha
      have d4 : (a : Int) ≤ (s.size : Int) := by omega
      clear hd ha
      rcases intL_cases s.data.toList 200 with ⟨e, hi, he, _⟩ | ⟨n, j, hi, hn, hj1, hj2, hj3, _⟩
      · have HI : Hid (intL (s.extract a s.size).data.toList 200 = (0, 0, e)) := Lib.hid (show intL (s.extract a s.size).data.toList 200 = (0, 0, e) by rw [HE.out, HA.out]; exact hi)
        have HR := Lib.hid (getR_gap (used := 0) (least := least) (acc := []) hi he)
        have HNE := Lib.hid he
        clear hi he
        go_wp2_with fail
        refine (vint_bad _ 200 _ HM.out (by decide) (by decide) e HI.out HNE.out).mono ?_
        rintro r w' ⟨rfl, rfl⟩
        go_wp2
        go_ret3
        exact vget_bad HR.out _ HDD.out.2
      · have HI : Hid (intL (s.extract a s.size).data.toList 200 = (n, j, 0)) := Lib.hid (show intL (s.extract a s.size).data.toList 200 = (n, j, 0) by rw [HE.out, HA.out]; exact hi)
        have HI2 := Lib.hid hi
        have hj4 : j ≤ s.size := by rw [← HSL.out]; exact hj3
        have HJ3 := Lib.hid hj3
        have eaj : (a : Int) + (j : Int) = (j : Int) := by have := HA.out; omega
        clear hi hj3
        go_wp2_with fail
        refine (vint_ok _ 200 _ HM.out (by decide) (by decide) n j HI.out).mono ?_
        rintro r w' ⟨rfl, rfl⟩
        go_wp2
        go_roundw
        case rel => exact ⟨1, j, by omega, rfl, rfl, .inr (.inl ⟨rfl, n, HI2.out, HJ3.out, HDD.out.set0 _⟩)⟩
        case measure => simp [intOf]
    · have HDD := Lib.hid hd
      obtain ⟨c0, c1, y0, y1⟩ := hd.cells
      have hz := hd.lt
      have HG := Lib.hid hg
      have hg2 : (g : Int) ≤ 200 := by
        rcases intL_cases s.data.toList 200 with ⟨e, hi, he, _⟩ | ⟨n, j, hi, hn, _⟩
        · rw [hg] at hi; simp only [Prod.mk.injEq] at hi; exact absurd hi.2.2.symm he
        · rw [hg] at hi; simp only [Prod.mk.injEq] at hi; omega
      have has : a ≤ s.size := by rw [← HSL.out]; exact hal
      have d4 : (a : Int) ≤ (s.size : Int) := by omega
      clear hd hg hal
      rcases intL_cases (s.data.toList.drop a) 16 with ⟨e, hi, he, _⟩ | ⟨n, j, hi, hn, hj1, hj2, hj3, _⟩
      · have HI : Hid (intL (s.extract a s.size).data.toList 16 = (0, 0, e)) := Lib.hid (show intL (s.extract a s.size).data.toList 16 = (0, 0, e) by rw [HE.out]; exact hi)
        have HR := Lib.hid (getR_many (used := 0) (least := least) (acc := []) HG.out hi he)
        have HNE := Lib.hid he
        clear hi he
        go_wp2_with fail
        refine (vint_bad _ 16 _ HM.out (by decide) (by decide) e HI.out HNE.out).mono ?_
        rintro r w' ⟨rfl, rfl⟩
        go_wp2
        go_ret3
        exact vget_bad HR.out _ HDD.out.2
      · have HI : Hid (intL (s.extract a s.size).data.toList 16 = (n, j, 0)) := Lib.hid (show intL (s.extract a s.size).data.toList 16 = (n, j, 0) by rw [HE.out]; exact hi)
        have HI2 := Lib.hid hi
        rw [List.length_drop, HSL.out] at hj3
        have HJ3 : Hid (a + j ≤ s.data.toList.length) := Lib.hid (show a + j ≤ s.data.toList.length by rw [HSL.out]; omega)
        have hn16 : n ≤ 16 := by omega
        have hg200 : g ≤ 200 := by omega
        clear hi
        go_wp2_with fail
        refine (vint_ok _ 16 _ HM.out (by decide) (by decide) n j HI.out).mono ?_
        rintro r w' ⟨rfl, rfl⟩
        go_wp2
        go_roundw
        case rel => exact ⟨2, a + j, by omega, rfl, by go_num, .inr (.inr ⟨rfl, g, a, n, j, rfl, HJ3.out, hg200, hn16, HG.out, HI2.out, HDD.out.set1 _⟩)⟩
        case measure => simp [intOf]
    · have HDD := Lib.hid hd
      obtain ⟨c0, c1, y0, y1⟩ := hd.cells
      have HR := Lib.hid (getR_ok (used := 0) (least := least) (acc := []) hg hc)
      have HA := Lib.hid ha
      have has : a ≤ s.size := by rw [← HSL.out, ha]; exact hji
      have HST : Hid (getR s.data.toList 0 least [] = tmA (c + 1) (s.data.toList.drop a) a (least + g) []) := Lib.hid (show getR s.data.toList 0 least [] = tmA (c + 1) (s.data.toList.drop a) a (least + g) [] by
        rw [HR.out, ha, List.drop_drop, Nat.zero_add])
      have eg : 0 ≤ least + (g : Int) := by omega
      have eg2 : least + (g : Int) ≤ 1000200 := by omega
      have hz := hd.lt
      clear hd ha hg hc hji
      rw [show ((2 : Nat) : Int) = 2 from rfl]
      go_wp2
      go_loopw [7, 14, 46] (fun av rv i wr => ∃ (m b : Nat) (acc : List Ent), m ≤ c + 1 ∧ i = .int .i64 m ∧ av = .int .i64 b ∧ b ≤ s.size ∧ acc.length = m ∧ getR s.data.toList 0 least [] = tmA (c + 1 - m) (s.data.toList.drop b) b (least + g + m) acc ∧ ownsE wr (w.heap.size + 1) rv acc ∧ HD w wr g c) (fun _ _ i _ => c + 1 - (intOf i).toNat)
      case atStart => exact ⟨0, a, [], by omega, rfl, rfl, has, rfl, by simpa using HST.out, ownsE_nil _ _, HDD.out⟩
      case round =>
        obtain ⟨m, b, acc, hm, rfl, rfl, hbs, hal, heq, ho, hd⟩ := hrel
        have HEQ := Lib.hid heq
        have HO := Lib.hid ho
        have HDJ := Lib.hid hd
        have HAL := Lib.hid hal
        obtain ⟨z0, z1, _, _⟩ := hd.cells
        have hz2 := hd.lt
        have HMB : Hid ((s.extract b s.size).size ≤ maxLen) := Lib.hid (show (s.extract b s.size).size ≤ maxLen by rw [ByteArray.size_extract]; unfold maxLen; omega)
        have HEB := Lib.hid (ext_dropV s b)
        have e3 : (0 : Int) ≤ (b : Int) := by omega
        have e4 : (b : Int) ≤ (s.size : Int) := by omega
        clear heq ho hd hal c0 c1 y0 y1
        by_cases hlt : m < c + 1
        · have hlt' : (m : Int) < (c : Int) + 1 := by omega
          obtain ⟨c', hc'⟩ : ∃ c', c + 1 - m = c' + 1 := ⟨c - m, by omega⟩
          rcases intL_cases (s.data.toList.drop b) 1099511627776 with ⟨e, hi, he, _⟩ | ⟨n, j, hi, hn, hj1, hj2, hj3, _⟩
          · have HI : Hid (intL (s.extract b s.size).data.toList 1099511627776 = (0, 0, e)) := Lib.hid (show intL (s.extract b s.size).data.toList 1099511627776 = (0, 0, e) by rw [HEB.out]; exact hi)
            have HRB : Hid (getR s.data.toList 0 least [] = .inl e) := Lib.hid (show getR s.data.toList 0 least [] = .inl e by rw [HEQ.out, hc', tmA_bad hi he])
            have HNE := Lib.hid he
            clear hi he hc'
            go_wp2_with fail
            refine (vint_bad _ 1099511627776 _ HMB.out (by decide) (by decide) e HI.out HNE.out).mono ?_
            rintro r w' ⟨rfl, rfl⟩
            go_wp2
            go_ret3
            exact vget_bad HRB.out _ HDJ.out.2
          · have HI : Hid (intL (s.extract b s.size).data.toList 1099511627776 = (n, j, 0)) := Lib.hid (show intL (s.extract b s.size).data.toList 1099511627776 = (n, j, 0) by rw [HEB.out]; exact hi)
            have HRB : Hid (getR s.data.toList 0 least [] = tmA (c + 1 - (m + 1)) (s.data.toList.drop (b + j)) (b + j) (least + g + ((m + 1 : Nat) : Int)) (acc ++ [⟨least + g + m, n⟩])) := Lib.hid (show getR s.data.toList 0 least [] = tmA (c + 1 - (m + 1)) (s.data.toList.drop (b + j)) (b + j) (least + g + ((m + 1 : Nat) : Int)) (acc ++ [⟨least + g + m, n⟩]) by
              rw [HEQ.out, hc', tmA_ok hi, List.drop_drop, show c + 1 - (m + 1) = c' by omega]
              congr 1; omega)
            rw [List.length_drop, HSL.out] at hj3
            obtain ⟨y, hy⟩ : ∃ y, y = least + (g : Int) + (m : Int) := ⟨_, rfl⟩
            rw [← hy] at HRB
            have hyb : 0 ≤ y ∧ y ≤ 1000300 := by omega
            have ey : least + (g : Int) + (m : Int) = y := hy.symm
            obtain ⟨acc2, hacc⟩ : ∃ acc2, acc ++ [(⟨y, (n : Int)⟩ : Ent)] = acc2 := ⟨_, rfl⟩
            have HAC := Lib.hid hacc
            rw [hacc] at HRB
            have HAL2 : Hid (acc2.length = m + 1) := Lib.hid (show acc2.length = m + 1 by rw [← hacc, List.length_append, HAL.out]; rfl)
            clear hi hc' hy hacc
            go_wp2_with fail
            refine (vint_ok _ 1099511627776 _ HMB.out (by decide) (by decide) n j HI.out).mono ?_
            rintro r w' ⟨rfl, rfl⟩
            go_wp2_with (at_builtin; refine wpList_append_ent rfl _ _ rfl (w.heap.size + 1) _ acc rfl (HO.out.alloc _) _ 1 rfl ⟨y, n⟩ ?c1 ?c2 ?c3 ?_)
            case c1 => exact entBlk_new _ _ _
            case c2 => have := HAL.out; omega
            case c3 => simp; omega
            · intro gg cap w3 ho3 hg3
              rw [HAC.out, HAL.out] at ho3
              have HO3 := Lib.hid ho3
              have HD3 : Hid (HD w w3 g c) := Lib.hid (show HD w w3 g c from ⟨by
                rw [hg3.block _ (by simp; omega) (fun e => by have := (HO.out.lt w.heap.size e.symm).1; omega), Below.heap_alloc _ _ _ hz2]
                exact HDJ.out.1, (HDJ.out.2.alloc (Nat.le_of_lt hz2) _).grown hg3 (by simp; omega) (fun k hk => by have := (HO.out.lt k hk).1; omega)⟩)
              clear ho3 hg3
              have hal3 := HAL.out
              rw [hal3]
              clear hal3
              go_wp2
              go_roundw
              case rel => exact ⟨m + 1, b + j, acc2, by omega, by go_num, by go_num, by omega, HAL2.out, HRB.out, HO3.out, HD3.out⟩
              case measure => simp [intOf]; omega
        · have hme : m = c + 1 := by omega
          have HRE : Hid (getR s.data.toList 0 least [] = .inr (acc, b)) := Lib.hid (show getR s.data.toList 0 least [] = .inr (acc, b) by
            rw [HEQ.out, hme, Nat.sub_self]; rfl)
          have hlt' : (c : Int) + 1 ≤ (m : Int) := by omega
          clear hme
          go_wp2
          go_ret3
          exact vget_good HRE.out _ _ (HO.out.mono (Nat.le_succ _)) HDJ.out.2
end Go.Proofs.YtkafhlpnhgipeaaGreatDoor
/-
  The contract of vector.Read.
-/
namespace Go.Proofs.YtkafhlpnhgipeaaGreatDoor
open Go.RowKit

def VReadIs (w : World) (s : List UInt8) (e : Ending) (w' : World) : Prop :=
  ∃ v, e = .returned (.tuple #[v, .int .i64 ((vreadF s).2.1 : Nat), noV (vreadF s).1]) ∧ ownsE w' w.heap.size v (vreadF s).2.2 ∧ Below w.heap.size w w'
theorem vread_is_bad {w : World} {s : List UInt8} {e : Nat} (h : vreadF s = (e, 0, [])) (he : e ≠ 0) (w' : World) (hb : Below w.heap.size w w') : VReadIs w s (.returned (.tuple #[.slice none 0 0, .int .i64 0, .iface 27 (.int .i64 (e : Nat))])) w' := by
  refine ⟨.slice none 0 0, ?_, ?_, hb⟩
  · rw [h]; simp only; rw [noV_e he]; rfl
  · rw [h]; exact ownsE_nil _ _
theorem vread_is_ok {w : World} {s : List UInt8} {n : Nat} {l : List Ent} (h : vreadF s = (0, n, l)) (v : Value) (w' : World) (ho : ownsE w' w.heap.size v l) (hb : Below w.heap.size w w') : VReadIs w s (.returned (.tuple #[v, .int .i64 (n : Nat), .nilIface])) w' := by
  refine ⟨v, ?_, ?_, hb⟩
  · rw [h]; rfl
  · rw [h]; exact ho

theorem vgetR_bad {w : World} {x : Nat ⊕ (List Ent × Nat)} {er : Nat} (h : x = .inl er) {e : Ending} {w' : World} (hg : VGetIs w x e w') : e = .returned (.tuple #[.slice none 0 0, .int .i64 0, .iface 27 (.int .i64 (er : Nat))]) ∧ Below w.heap.size w w' := by
  rw [h] at hg; exact hg
theorem vgetR_good {w : World} {x : Nat ⊕ (List Ent × Nat)} {run : List Ent} {k : Nat} (h : x = .inr (run, k)) {e : Ending} {w' : World} (hg : VGetIs w x e w') : ∃ v, e = .returned (.tuple #[v, .int .i64 (k : Nat), .nilIface]) ∧ ownsE w' w.heap.size v run ∧ Below w.heap.size w w' := by
  rw [h] at hg; exact hg

theorem getR_err {s : List UInt8} {used e : Nat} {least : Int} {acc : List Ent} (h : getR s used least acc = .inl e) : e ≠ 0 := by
  have htm : ∀ (k : Nat) (s : List UInt8) (used : Nat) (r : Int) (acc : List Ent), tmA k s used r acc = .inl e → e ≠ 0 := by
    intro k
    induction k with
    | zero => intro s used r acc h; cases h
    | succ k ih =>
      intro s used r acc h
      rcases intL_cases s 1099511627776 with ⟨e', hi, he, _⟩ | ⟨t, j, hi, _⟩
      · rw [tmA_bad hi he] at h; injection h with h; subst h; exact he
      · rw [tmA_ok hi] at h; exact ih _ _ _ _ h
  rcases intL_cases s 200 with ⟨e', hi, he, _⟩ | ⟨g, j, hi, _⟩
  · rw [getR_gap hi he] at h; injection h with h; subst h; exact he
  · rcases intL_cases (s.drop j) 16 with ⟨e', hi2, he, _⟩ | ⟨c, i, hi2, _⟩
    · rw [getR_many hi hi2 he] at h; injection h with h; subst h; exact he
    · rw [getR_ok hi hi2] at h; exact htm _ _ _ _ _ h

theorem consec_bd {l : List Ent} : ∀ {r : Int}, consec r l → ∀ e ∈ l, r ≤ e.rep ∧ e.rep < r + l.length := by
  induction l with
  | nil => intro r _ e h; cases h
  | cons d t ih =>
    intro r h e he
    rw [List.length_cons]
    rcases List.mem_cons.1 he with rfl | he
    · have := h.1; omega
    · have := ih h.2 e he; omega

set_option maxRecDepth 100000 in
set_option maxHeartbeats 4000000 in
theorem vread_any (s : ByteArray) (w : World) (hs : s.size ≤ 1000000) (hg : errT w) :
    Calls Tryz.prog 71 #[.string s] w (VReadIs w s.data.toList) := by
  have HG := Lib.hid hg
  have hsl : s.data.toList.length = s.size := (size_data s).symm
  have HSL := Lib.hid hsl
  have HM0 : Hid (s.size ≤ maxLen) := Lib.hid (show s.size ≤ maxLen by unfold maxLen; omega)
  clear hsl hg
  rcases intL_cases s.data.toList 16 with ⟨e, hi, he, _⟩ | ⟨R, j, hi, hR, hj1, hj2, hj3, _⟩
  · have HI := Lib.hid hi
    have HV := Lib.hid (vread_few hi he)
    have HNE := Lib.hid he
    clear hi he
    go_enter Tryz.func71, Tryz.ntmps71
    go_wp2_with fail
    refine (vint_bad _ 16 _ HM0.out (by decide) (by decide) e HI.out HNE.out).mono ?_
    rintro r w' ⟨rfl, rfl⟩
    go_wp2
    go_ret3
    exact vread_is_bad HV.out HNE.out _ (Below.refl _ _)
  · have HI := Lib.hid hi
    rw [HSL.out] at hj3
    have hR16 : R ≤ 16 := by omega
    clear hi
    go_enter Tryz.func71, Tryz.ntmps71
    go_wp2_with fail
    refine (vint_ok _ 16 _ HM0.out (by decide) (by decide) R j HI.out).mono ?_
    rintro r w' ⟨rfl, rfl⟩
    go_wp2
    go_loopw [6, 8, 9, 24] (fun av lv bv i wr => ∃ (k a : Nat) (least : Int) (acc : List Ent), k ≤ R ∧ i = .int .i64 k ∧ av = .int .i64 a ∧ a ≤ s.size ∧ bv = .int .i64 least ∧ 0 ≤ least ∧ least ≤ 300 * (k : Int) ∧ acc.length ≤ 17 * k ∧ rdA R (s.data.toList.drop j) j 0 [] = rdA (R - k) (s.data.toList.drop a) a least acc ∧ ownsE wr w.heap.size lv acc ∧ Below w.heap.size w wr) (fun _ _ _ i _ => R - (intOf i).toNat)
    case atStart => exact ⟨0, j, 0, [], by omega, rfl, rfl, hj3, rfl, by omega, by omega, by simp, rfl, ownsE_nil _ _, Below.refl _ _⟩
    case round =>
      obtain ⟨k, a, least, acc, hk, rfl, rfl, has, rfl, hl0, hl3, hal, heq, ho, hb⟩ := hrel
      have HEQ := Lib.hid heq
      have HO := Lib.hid ho
      have HB := Lib.hid hb
      have hzr := hb.size
      have HAL := Lib.hid hal
      have HE := Lib.hid (ext_dropV s a)
      have hxs : (s.extract a s.size).size ≤ 1000000 := by rw [ByteArray.size_extract]; omega
      have HXS := Lib.hid hxs
      have e3 : (0 : Int) ≤ (a : Int) := by omega
      have e4 : (a : Int) ≤ (s.size : Int) := by omega
      clear heq ho hb hal hxs
      by_cases hlt : k < R
      · have hlt' : (k : Int) < (R : Int) := by omega
        obtain ⟨c', hc'⟩ : ∃ c', R - k = c' + 1 := ⟨R - k - 1, by omega⟩
        match hgr : getR (s.data.toList.drop a) 0 least [] with
        | .inl e =>
          have HGR : Hid (getR (s.extract a s.size).data.toList 0 least [] = .inl e) := Lib.hid (show getR (s.extract a s.size).data.toList 0 least [] = .inl e by rw [HE.out]; exact hgr)
          have HV := Lib.hid (vread_bad HI.out (show rdA R (s.data.toList.drop j) j 0 [] = .inl e by rw [HEQ.out, hc', rdA_bad hgr]))
          have HNE := Lib.hid (getR_err hgr)
          clear hgr hc'
          go_wp2_with fail
          refine (vget_any (s.extract a s.size) least _ HXS.out hl0 (by omega)).mono ?_
          intro r w1 hgi
          obtain ⟨rfl, hb1⟩ := vgetR_bad HGR.out hgi
          have HB1 : Hid (Below w.heap.size w w1) := HB.out.trans (hb1.mono hzr)
          clear hgi hb1
          go_wp2
          go_ret3
          exact vread_is_bad HV.out HNE.out _ HB1.out
        | .inr (run, i) =>
          have HGR : Hid (getR (s.extract a s.size).data.toList 0 least [] = .inr (run, i)) := Lib.hid (show getR (s.extract a s.size).data.toList 0 least [] = .inr (run, i) by rw [HE.out]; exact hgr)
          obtain ⟨run', hr', g1, g2, g3, g4, g5, _, g6, _, _⟩ := getR_only hgr
          rw [List.nil_append] at hr'
          subst hr'
          rw [List.length_drop, HSL.out] at g6
          have hpos : 0 < run.length := List.length_pos_iff.2 g1
          have hlast := consec_last g5 g1
          have hbd := consec_bd g5
          have HRB : Hid (∀ e ∈ run, 0 ≤ e.rep ∧ e.rep ≤ 1000000) := Lib.hid (show ∀ e ∈ run, 0 ≤ e.rep ∧ e.rep ≤ 1000000 from fun e he => by have := hbd e he; omega)
          have HNIL := Lib.hid g1
          obtain ⟨lr, hlr⟩ : ∃ x, (run.getLastD ⟨0, 0⟩).rep = x := ⟨_, rfl⟩
          have HLR := Lib.hid hlr
          have HST : Hid (rdA R (s.data.toList.drop j) j 0 [] = rdA (R - (k + 1)) (s.data.toList.drop (a + i)) (a + i) (lr + 2) (acc ++ run)) := Lib.hid (show rdA R (s.data.toList.drop j) j 0 [] = rdA (R - (k + 1)) (s.data.toList.drop (a + i)) (a + i) (lr + 2) (acc ++ run) by
            rw [HEQ.out, hc', rdA_ok hgr, List.drop_drop, hlr, show R - (k + 1) = c' by omega])
          rw [hlr] at hlast
          have HLB : Hid (0 ≤ lr + 2 ∧ lr + 2 ≤ 300 * ((k + 1 : Nat) : Int)) := Lib.hid (show 0 ≤ lr + 2 ∧ lr + 2 ≤ 300 * ((k + 1 : Nat) : Int) by omega)
          have HRL : Hid (run.length ≤ 17) := Lib.hid g2
          have HAI : Hid (a + i ≤ s.size) := Lib.hid (show a + i ≤ s.size by omega)
          have hib : (i : Int) ≤ 1000000 := by omega
          clear hgr hc' g1 g2 g3 g4 g5 g6 hbd hlr hlast
          go_wp2_with fail
          refine (vget_any (s.extract a s.size) least _ HXS.out hl0 (by omega)).mono ?_
          intro r w1 hgi
          obtain ⟨v, rfl, how, hb1⟩ := vgetR_good HGR.out hgi
          have HOW := Lib.hid how
          have HB1 : Hid (Below w.heap.size w w1) := HB.out.trans (hb1.mono hzr)
          have HO1 := Lib.hid (HO.out.below hb1)
          have HZ : Hid (∀ x, Value.ownBlock u8 = some x → x < wr.heap.size) := Lib.hid (fun x hx => (HO.out.lt x hx).2)
          rcases how.form with ⟨_, hn⟩ | ⟨gB, cap, rfl, hgb, hgl, hcs⟩
          · rw [hn] at hpos; simp at hpos
          · have HCS := Lib.hid hcs
            clear hgi hb1 how hcs
            go_wp2_with (at_builtin; refine wpList_append_ents rfl _ _ rfl w.heap.size _ acc rfl HO1.out gB 0 cap run.length rfl run rfl (fun j u hj => by rw [Nat.zero_add]; exact HCS.out j u hj) hpos ?c1 ?c2 ?_)
            case c1 => have := HAL.out; have := HRL.out; omega
            case c2 => have := HB1.out.size; omega
            · intro g3 cap3 w3 ho3 hg3
              have HO3 := Lib.hid ho3
              have HB3 : Hid (Below w.heap.size w w3) := HB1.out.grown hg3 HB1.out.size (fun k hk => (HO1.out.lt k hk).1)
              have HRW : Hid (IsEnts w3 (.slice (some ⟨gB, 0, none⟩) run.length cap) run) := Lib.hid (World.ownsRow.kept HOW.out hg3 (.inr (fun e => by have := HZ.out gB e.symm; omega)) |> fun h => (show ownsE w3 wr.heap.size _ run from h).is)
              have HAL3 : Hid ((acc ++ run).length ≤ 17 * (k + 1)) := Lib.hid (show (acc ++ run).length ≤ 17 * (k + 1) by have := HAL.out; have := HRL.out; rw [List.length_append]; omega)
              obtain ⟨q, hq⟩ : ∃ q, run.length = q := ⟨_, rfl⟩
              rw [hq] at HRW hpos ⊢
              have HQ := Lib.hid hq
              clear ho3 hg3 hq
              go_wp2_with fail
              refine (behind_any _ run _ HRW.out HNIL.out (by have := HRL.out; omega) HRB.out).mono ?_
              rintro r w' ⟨rfl, rfl⟩
              rw [HLR.out]
              go_wp2
              go_roundw
              case rel => exact ⟨k + 1, a + i, lr + 2, acc ++ run, by omega, by go_num, by go_num, HAI.out, rfl, HLB.out.1, HLB.out.2, HAL3.out, HST.out, by have h := HO3.out; rw [HQ.out] at h; exact h, HB3.out⟩
              case measure => simp [intOf]; omega
      · have hkr : k = R := by omega
        have HRR : Hid (rdA R (s.data.toList.drop j) j 0 [] = .inr (acc, a)) := Lib.hid (show rdA R (s.data.toList.drop j) j 0 [] = .inr (acc, a) by rw [HEQ.out, hkr, Nat.sub_self]; rfl)
        have hlt' : (R : Int) ≤ (k : Int) := by omega
        have hal9 : acc.length ≤ 9223372036854775807 := by have := HAL.out; omega
        have HI9 := Lib.hid hal9
        clear hkr hal9
        by_cases h0 : (vrightF acc).1 = 0
        · have HV := Lib.hid (vread_ok HI.out HRR.out h0)
          have H0 := Lib.hid h0
          clear h0
          go_wp2_with fail
          refine (vbare_any _ acc _ HO.out.is HI9.out (HG.out.below HB.out)).mono ?_
          rintro r w1 ⟨rfl, hb1⟩
          rw [H0.out, noV_0]
          have HB1 : Hid (Below w.heap.size w w1) := HB.out.trans (hb1.mono hzr)
          have HO1 := Lib.hid (HO.out.below hb1)
          clear hb1
          go_wp2
          go_ret3
          exact vread_is_ok HV.out _ _ HO1.out HB1.out
        · have HV := Lib.hid (vread_wrong HI.out HRR.out h0)
          have HQ := Lib.hid (noV_e h0)
          have H0 := Lib.hid h0
          clear h0
          go_wp2_with fail
          refine (vbare_any _ acc _ HO.out.is HI9.out (HG.out.below HB.out)).mono ?_
          rintro r w1 ⟨rfl, hb1⟩
          rw [HQ.out]
          have HB1 : Hid (Below w.heap.size w w1) := HB.out.trans (hb1.mono hzr)
          clear hb1
          go_wp2
          go_ret3
          exact vread_is_bad HV.out H0.out _ HB1.out
end Go.Proofs.YtkafhlpnhgipeaaGreatDoor
/-
  vector.Read as its callers meet it.
-/
namespace Go.Proofs.YtkafhlpnhgipeaaGreatDoor
open Go.RowKit

theorem vread_good (s : ByteArray) (n : Nat) (l : List Ent) (w : World) (hs : s.size ≤ 1000000) (hg : errT w) (h : vreadF s.data.toList = (0, n, l)) :
    Calls Tryz.prog 71 #[.string s] w fun e w' => ∃ v, e = .returned (.tuple #[v, .int .i64 (n : Int), .nilIface]) ∧ IsEnts w' v l ∧ Below w.heap.size w w' :=
  (vread_any s w hs hg).mono fun e w' ⟨v, h1, h2, h3⟩ => by
    rw [h] at h1 h2
    exact ⟨v, h1, h2.is, h3⟩
theorem vread_err (s : ByteArray) (e : Nat) (w : World) (hs : s.size ≤ 1000000) (hg : errT w) (h : vreadF s.data.toList = (e, 0, [])) (he : e ≠ 0) :
    Calls Tryz.prog 71 #[.string s] w fun x w' => ∃ v, x = .returned (.tuple #[v, .int .i64 0, .iface 27 (.int .i64 (e : Nat))]) ∧ IsEnts w' v [] ∧ Below w.heap.size w w' :=
  (vread_any s w hs hg).mono fun x w' ⟨v, h1, h2, h3⟩ => by
    rw [h] at h1 h2
    simp only at h1
    rw [noV_e he] at h1
    exact ⟨v, h1, h2.is, h3⟩
/-- What is told besides: an error has neither bytes nor entries. -/
theorem vread_cases (s : List UInt8) : (∃ e, vreadF s = (e, 0, []) ∧ e ≠ 0) ∨ ∃ n l, vreadF s = (0, n, l) := by
  rcases intL_cases s 16 with ⟨e, hi, he, _⟩ | ⟨R, j, hi, _⟩
  · exact .inl ⟨e, vread_few hi he, he⟩
  · match hr : rdA R (s.drop j) j 0 [] with
    | .inl e =>
      refine .inl ⟨e, vread_bad hi hr, ?_⟩
      have : ∀ (k : Nat) (s : List UInt8) (used : Nat) (least : Int) (acc : List Ent), rdA k s used least acc = .inl e → e ≠ 0 := by
        intro k
        induction k with
        | zero => intro s used least acc h; cases h
        | succ k ih =>
          intro s used least acc h
          match hg : getR s 0 least [] with
          | .inl e' => rw [rdA_bad hg] at h; injection h with h; subst h; exact getR_err hg
          | .inr (run, j) => rw [rdA_ok hg] at h; exact ih _ _ _ _ h
      exact this _ _ _ _ _ hr
    | .inr (l, n) =>
      by_cases h0 : (vrightF l).1 = 0
      · exact .inr ⟨n, l, vread_ok hi hr h0⟩
      · exact .inl ⟨_, vread_wrong hi hr h0, h0⟩
end Go.Proofs.YtkafhlpnhgipeaaGreatDoor
/-
  What the document's functions throw, and catch; a scanner's next number.
-/
namespace Go.Proofs.YtkafhlpnhgipeaaGreatDoor
open Go.RowKit

set_option maxRecDepth 100000 in
theorem throw_any (e pl : Int) (w : World) : Calls Tryz.prog 30 #[.int .i64 e, .int .i64 pl] w fun r w' => r = .panicked [{ v := .iface 130 (.agg #[.int .i64 e, .int .i64 pl]), recovered := false }] ∧ w' = w := by
  go_enter Tryz.func30, Tryz.ntmps30
  go_wp2
  exact ⟨rfl, rfl, rfl⟩
set_option maxRecDepth 100000 in
theorem isThrown (v : Value) (xT : TypeId) (w : World) : (Instr.typeAssert (.iface 130 v) xT 130 true).run Tryz.prog w = .ok (.tuple #[v, .bool true]) w := by
  simp [Instr.typeAssert, run_underlying Tryz.underlying130]
set_option maxRecDepth 100000 in
theorem caught_pan (F : Nat) (e pl x y : Int) (older : List PanicEntry) (w : World) (hF : F < w.heap.size) (h0 : w.cell? ⟨F, 0, none⟩ = some (.int .i64 x)) (h1 : w.cell? ⟨F, 1, none⟩ = some (.int .i64 y)) (z0 : w.frozen? ⟨F, 0, none⟩ = false) (z1 : w.frozen? ⟨F, 1, none⟩ = false) :
    CallsD Tryz.prog 28 #[.pointer (some ⟨F, 0, none⟩)] (.panicking ({ v := .iface 130 (.agg #[.int .i64 e, .int .i64 pl]), recovered := false } :: older)) w fun r u' w' =>
      r = .returned (.tuple #[]) ∧ u' = .panicking ({ v := .iface 130 (.agg #[.int .i64 e, .int .i64 pl]), recovered := true } :: older) ∧ w' = ((w.setCell ⟨F, 0, none⟩ (.int .i64 e)).setCell ⟨F, 1, none⟩ (.int .i64 pl)).alloc (.cells #[.int .i64 e, .int .i64 pl] 130) := by
  have iT := isThrown
  refine callsD_of_wpS Tryz.func28 rfl fun c₀ cs hu => ?_
  apply wpS_seq
  apply wpS_region
  simp [wpOpsS, go_sem, recoverD, hu, Tryz.ntmps28, Exit.thenS]
  refine wpS_of_wp ?_
  rw [show (#[.pointer (some ⟨F, 0, none⟩)] ++ ((Array.replicate 19 undef).setIfInBounds 4 (.iface 130 (.agg #[.int .i64 e, .int .i64 pl]))).setIfInBounds 1 (.iface 130 (.agg #[.int .i64 e, .int .i64 pl])) : Array Value) = #[.pointer (some ⟨F, 0, none⟩), undef, .iface 130 (.agg #[.int .i64 e, .int .i64 pl]), undef, undef, .iface 130 (.agg #[.int .i64 e, .int .i64 pl]), undef, undef, undef, undef, undef, undef, undef, undef, undef, undef, undef, undef, undef, undef] by kernel_rfl]
  go_wp2
  simp [bodyPostS, results, Tryz.results28]
set_option maxRecDepth 100000 in
theorem caught_idle (p : Value) (w : World) :
    CallsD Tryz.prog 28 #[p] .returning w fun r u' w' => r = .returned (.tuple #[]) ∧ u' = .returning ∧ w' = w := by
  refine callsD_of_wpS Tryz.func28 rfl fun c₀ cs hu => ?_
  apply wpS_seq
  apply wpS_region
  simp [wpOpsS, go_sem, recoverD, hu, Tryz.ntmps28, Exit.thenS]
  refine wpS_of_wp ?_
  rw [show (#[p] ++ ((Array.replicate 19 undef).setIfInBounds 4 .nilIface).setIfInBounds 1 .nilIface : Array Value) = #[p, undef, .nilIface, undef, undef, .nilIface, undef, undef, undef, undef, undef, undef, undef, undef, undef, undef, undef, undef, undef, undef] by kernel_rfl]
  go_wp2
  cases c₀
  simp_all [bodyPostS, results, Tryz.results28]


/-- A scanner in memory: its text, and where it stands. -/
def Sc (w : World) (S : Nat) (s : ByteArray) (a : Nat) : Prop := w.heap[S]? = some (.cells #[.string s, .int .i64 (a : Int)] 75 (0, 0))
theorem Sc.cells {w : World} {S : Nat} {s : ByteArray} {a : Nat} (h : Sc w S s a) : w.cell? ⟨S, 0, none⟩ = some (.string s) ∧ w.cell? ⟨S, 1, none⟩ = some (.int .i64 (a : Int)) ∧ w.frozen? ⟨S, 1, none⟩ = false ∧ S < w.heap.size := by
  refine ⟨cell_of_row _ _ 0 _ _ (0, 0) h, cell_of_row _ _ 1 _ _ (0, 0) h, Lib.frozen_of_heap h 1, ?_⟩
  exact (Array.getElem?_eq_some_iff.1 h).1
theorem Sc.kept {w w' : World} {S : Nat} {s : ByteArray} {a : Nat} {row : Option Nat} (h : Sc w S s a) (hg : w.grownBy w' row) (hne : row ≠ some S) : Sc w' S s a := (hg.block S h.cells.2.2.2 (fun e => hne e.symm)).trans h
theorem Sc.moved {w : World} {S : Nat} {s : ByteArray} {a b : Nat} (h : Sc w S s a) : Sc (w.setCell ⟨S, 1, none⟩ (.int .i64 (b : Int))) S s b := by
  unfold Sc at h ⊢
  simp [World.setCell, Array.getElem?_modify, h]
theorem grown_drewN (w : World) (n : Nat) (row : Option Nat) : w.grownBy (w.drewN n) row := ⟨rfl, rfl, rfl, Nat.le_refl _, fun _ _ _ => rfl⟩
theorem grown_setS {w w1 : World} {S : Nat} (h : w.grownBy w1 (some S)) (v : Value) : w.grownBy (w1.setCell ⟨S, 1, none⟩ v) (some S) :=
  ⟨h.os, h.tape, h.output, by simpa using h.size, fun k hk hne => by
    have hk2 : S ≠ k := fun e => hne (by rw [e])
    simp only [World.setCell, Array.getElem?_modify, if_neg hk2]
    exact h.block k hk hne⟩
theorem rint_q (s : ByteArray) (most : Int) (V : Value) (w : World) (m : Nat) (hs : s.size ≤ maxLen) (h0 : -9223372036854775808 ≤ most) (h1 : most ≤ 9223372036854775807) (hV : intR (intL s.data.toList most) = V) :
    Calls Tryz.prog 66 #[.string s, .int .i64 most] (w.drewN m) fun r w' => r = .returned V ∧ ∃ q, w' = w.drewN q :=
  (rint_any s most (w.drewN m) hs h0 h1).mono fun _ _ ⟨h2, h3⟩ => ⟨by rw [h2, hV], m, h3.symm⟩

set_option maxRecDepth 100000 in
theorem next_ok (S : Nat) (s : ByteArray) (a n k : Nat) (most : Int) (w : World) (h : Sc w S s a) (hs : s.size ≤ 1000000) (ha : a ≤ s.size) (hm0 : 0 ≤ most) (hm : most ≤ 1099511627776) (hg : intL (s.data.toList.drop a) most = (n, k, 0)) (hk : k ≤ 10) :
    Calls Tryz.prog 31 #[.pointer (some ⟨S, 0, none⟩), .int .i64 most] w fun e w' => e = .returned (.int .i64 (n : Int)) ∧ Sc w' S s (a + k) ∧ w.grownBy w' (some S) := by
  obtain ⟨c0, c1, z1, hS⟩ := h.cells
  have H := Lib.hid h
  have HM : Hid ((s.extract a s.size).size ≤ maxLen) := Lib.hid (show (s.extract a s.size).size ≤ maxLen by rw [ByteArray.size_extract]; unfold maxLen; omega)
  have HGL : Hid (intR (intL (s.extract a s.size).data.toList most) = .tuple #[.int .i64 (n : Int), .int .i64 (k : Int), .int .i64 0]) := Lib.hid (show intR (intL (s.extract a s.size).data.toList most) = .tuple #[.int .i64 (n : Int), .int .i64 (k : Int), .int .i64 0] by rw [ext_dropV, hg]; rfl)
  have d3 : (0 : Int) ≤ (a : Int) := by omega
  have d4 : (a : Int) ≤ (s.size : Int) := by omega
  have kw : IntKind.i64.wrap ((a : Int) + (k : Int)) = (a : Int) + (k : Int) := IntWalk.i64_in _ (by omega)
  clear h hg
  go_enter Tryz.func31, Tryz.ntmps31
  go_wp2
  go_quiet ((go_at_call 66; with_reducible exact rint_q (s.extract a s.size) most _ _ _ HM.out (by omega) (by omega) HGL.out))
  go_wp2
  go_ret
  have e : (a : Int) + (k : Int) = ((a + k : Nat) : Int) := by simp
  rw [e]
  refine ⟨rfl, Sc.moved (H.out.kept (grown_drewN w _ none) (by simp)), ?_⟩
  exact grown_setS (grown_drewN w _ _) _

set_option maxRecDepth 100000 in
theorem next_bad (S : Nat) (s : ByteArray) (a x : Nat) (most : Int) (w : World) (h : Sc w S s a) (hs : s.size ≤ 1000000) (ha : a ≤ s.size) (hm0 : 0 ≤ most) (hm : most ≤ 1099511627776) (hg : intL (s.data.toList.drop a) most = (0, 0, x)) (hx : x ≠ 0) :
    Calls Tryz.prog 31 #[.pointer (some ⟨S, 0, none⟩), .int .i64 most] w fun e w' => e = .panicked [{ v := .iface 130 (.agg #[.int .i64 (x : Int), .int .i64 (a : Int)]), recovered := false }] ∧ w.grownBy w' (some S) := by
  obtain ⟨c0, c1, z1, hS⟩ := h.cells
  have H := Lib.hid h
  have HM : Hid ((s.extract a s.size).size ≤ maxLen) := Lib.hid (show (s.extract a s.size).size ≤ maxLen by rw [ByteArray.size_extract]; unfold maxLen; omega)
  have HGL : Hid (intR (intL (s.extract a s.size).data.toList most) = .tuple #[.int .i64 0, .int .i64 0, .int .i64 (x : Int)]) := Lib.hid (show intR (intL (s.extract a s.size).data.toList most) = .tuple #[.int .i64 0, .int .i64 0, .int .i64 (x : Int)] by rw [ext_dropV, hg]; rfl)
  have d3 : (0 : Int) ≤ (a : Int) := by omega
  have d4 : (a : Int) ≤ (s.size : Int) := by omega
  have hne : ((x : Int) != 0) = true := by simp; omega
  clear h hg hx
  go_enter Tryz.func31, Tryz.ntmps31
  go_wp2
  go_quiet ((go_at_call 66; with_reducible exact rint_q (s.extract a s.size) most _ _ _ HM.out (by omega) (by omega) HGL.out))
  go_wp2_with fail
  refine (throw_any x (a : Int) _).mono ?_
  rintro r w' ⟨rfl, rfl⟩
  first
    | exact ⟨rfl, rfl, grown_drewN w _ _⟩
    | (show bodyPost _ _ _ _ _ _; exact ⟨rfl, rfl, grown_drewN w _ _⟩)
    | exact (show (_ ∧ _ ∧ _) from ⟨rfl, rfl, grown_drewN w _ _⟩)
    | (refine And.intro rfl (And.intro rfl ?_); exact grown_drewN w _ _)
    | (refine And.intro rfl ?_; exact grown_drewN w _ _)
/-- What is kept goes on being kept: by what changes the scanner, or what was made later. -/
theorem grown_on {w w1 w2 : World} {S : Nat} {row : Option Nat} (h : w.grownBy w1 (some S)) (h2 : w1.grownBy w2 row) (hr : ∀ k, row = some k → k = S ∨ w.heap.size ≤ k) : w.grownBy w2 (some S) := by
  refine ⟨h2.os.trans h.os, h2.tape.trans h.tape, h2.output.trans h.output, Nat.le_trans h.size h2.size, fun k hk hne => ?_⟩
  rw [h2.block k (Nat.lt_of_lt_of_le hk h.size) (fun e => by
    rcases hr k e.symm with rfl | h
    · exact hne rfl
    · omega)]
  exact h.block k hk hne
end Go.Proofs.YtkafhlpnhgipeaaGreatDoor
