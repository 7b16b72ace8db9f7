/-
  slices.Reverse of writes, in place.
-/
import Derived.Test.YtcoejiehckileaaDoorWrDel
import Derived.Deep.RegionHeld3
namespace Go.Proofs.YtcoejiehckileaaDoor
open Go.RowKit

set_option maxRecDepth 100000 in
theorem wrev_nil (w : World) :
    Calls Tryd.prog 29 #[.slice none 0 0] w fun e w' => e = .returned (.tuple #[]) ∧ w' = w := by
  go_enter Tryd.func29, Tryd.ntmps29
  go_wp2
  go_loopw [2, 3] (fun iv jv wr => iv = .int .i64 0 ∧ jv = .int .i64 (-1) ∧ wr = w) (fun _ _ _ => 0)
  case atStart => exact ⟨rfl, by rfl, rfl⟩
  case round =>
    obtain ⟨rfl, rfl, rfl⟩ := hrel
    go_wp2
    go_end0
    exact ⟨rfl, rfl⟩
set_option maxRecDepth 100000 in
theorem wrev_zero (p : Addr) (c : Nat) (w : World) :
    Calls Tryd.prog 29 #[.slice (some p) 0 c] w fun e w' => e = .returned (.tuple #[]) ∧ w' = w := by
  go_enter Tryd.func29, Tryd.ntmps29
  go_wp2
  go_loopw [2, 3] (fun iv jv wr => iv = .int .i64 0 ∧ jv = .int .i64 (-1) ∧ wr = w) (fun _ _ _ => 0)
  case atStart => exact ⟨rfl, by rfl, rfl⟩
  case round =>
    obtain ⟨rfl, rfl, rfl⟩ := hrel
    go_wp2
    go_end0
    exact ⟨rfl, rfl⟩
theorem row_drew {w : World} {g : Nat} {o : Option Obj} (h : w.heap[g]? = o) : w.drew.heap[g]? = o := h
theorem grown_six {a w : World} {g : Nat} (h : a.grownBy w (some g)) (i : Nat) (x : Wr) : a.grownBy ((((((w.setCell ⟨g, i * 6, none⟩ (.int .i64 x.time)).setCell ⟨g, i * 6 + 1, none⟩ (.int .i64 x.rep)).setCell ⟨g, i * 6 + 2, none⟩ (.int .i64 x.kind)).setCell ⟨g, i * 6 + 3, none⟩ (.string x.key)).setCell ⟨g, i * 6 + 4, none⟩ (.string x.value)).setCell ⟨g, i * 6 + 5, none⟩ (.int .i64 x.n)) (some g) :=
  grown_cell (grown_cell (grown_cell (grown_cell (grown_cell (grown_cell h _ _) _ _) _ _) _ _) _ _) _ _
/-- So far turned: what lay outside [k, m] lies at its mirror's place. -/
def Turned (cur : Array Value) (l : List Wr) (k m : Nat) : Prop := ∀ p t, l[p]? = some t → (p < k ∨ m < p → AtW cur (l.length - 1 - p) t) ∧ (k ≤ p → p ≤ m → AtW cur p t)
set_option maxRecDepth 100000 in
set_option maxHeartbeats 4000000 in
theorem wrev_any (base g n cap : Nat) (l : List Wr) (w : World) (ho : ownsW w base (.slice (some ⟨g, 0, none⟩) n cap) l) (hn0 : 0 < n) (hn1 : n ≤ 1000) :
    Calls Tryd.prog 29 #[.slice (some ⟨g, 0, none⟩) n cap] w fun e w' => e = .returned (.tuple #[]) ∧ IsWrs w' (.slice (some ⟨g, 0, none⟩) n cap) l.reverse ∧ w.grownBy w' (some g) := by
  obtain ⟨cur, hcur, hbg, hln, hnc, hcm, hcs, hat⟩ := owns_at ho
  have HCUR := Lib.hid hcur
  have HCS := Lib.hid hcs
  have HAT := Lib.hid hat
  have HLN := Lib.hid hln
  have HBG := Lib.hid hbg
  clear hcur hcs hat hln hbg ho
  have hwn : wrap64 ((n : Int) - 1) = ((n - 1 : Nat) : Int) := by unfold wrap64; omega
  go_enter Tryd.func29, Tryd.ntmps29
  go_wp2
  go_loopw [2, 3] (fun iv jv wr => ∃ k m : Nat, ∃ cur : Array Value, iv = .int .i64 k ∧ jv = .int .i64 m ∧ k + m + 1 = n ∧ k ≤ m + 1 ∧ wr.heap[g]? = some (.cells cur 37 (0, 0)) ∧ cur.size = cap * 6 ∧ Turned cur l k m ∧ w.grownBy wr (some g)) (fun _ j _ => (intOf j).toNat)
  case atStart => exact ⟨0, n - 1, cur, rfl, by congr 1; omega, by omega, by omega, HCUR.out, HCS.out, fun p t ht => ⟨fun h => by have := (List.getElem?_eq_some_iff.1 ht).1; have := HLN.out; omega, fun _ _ => HAT.out p t ht⟩, grown_refl _ _⟩
  case round =>
    obtain ⟨k, m, cur2, rfl, rfl, hkm, hkm2, hc2, hs2, htu, hb2⟩ := hrel
    have HC2 := Lib.hid hc2
    have HS2 := Lib.hid hs2
    have HTU := Lib.hid htu
    have HB2 := Lib.hid hb2
    have HKM := Lib.hid hkm
    clear hc2 hs2 htu hb2 HCUR HCS HAT hwn
    by_cases hlt : k < m
    · have b0 : decide ((k : Int) < (m : Int)) = true := by simpa using hlt
      have hkn : k < n := by omega
      have hmn : m < n := by omega
      have hne : ¬ k = m := by omega
      have hne2 : ¬ m = k := by omega
      have hw1 : wrap64 ((m : Int) - 1) = ((m - 1 : Nat) : Int) := by unfold wrap64; omega
      have hw2 : IntKind.i64.wrap ((m : Int) - 1) = ((m - 1 : Nat) : Int) := by rw [IntKind.wrap_i64]; omega
      obtain ⟨x, hx⟩ : ∃ x, l[k]? = some x := ⟨l[k]'(by rw [HLN.out]; exact hkn), List.getElem?_eq_getElem _⟩
      obtain ⟨y, hy⟩ : ∃ y, l[m]? = some y := ⟨l[m]'(by rw [HLN.out]; exact hmn), List.getElem?_eq_getElem _⟩
      have hxa := (HTU.out k x hx).2 (Nat.le_refl _) (by omega)
      have hya := (HTU.out m y hy).2 (by omega) (Nat.le_refl _)
      have HX := Lib.hid hx
      have HY := Lib.hid hy
      obtain ⟨T, Re, K, key, val, N⟩ := x
      obtain ⟨T', Re', K', key', val', N'⟩ := y
      have q0 : wr.cell? ⟨g, k * 6, none⟩ = some (.int .i64 T) := (cell_of_row _ _ _ _ _ _ HC2.out).trans (hxa 0 (by omega))
      have qf0 : wr.frozen? ⟨g, k * 6, none⟩ = false := frozen_of_row _ _ _ _ _ HC2.out
      have q1 : wr.cell? ⟨g, k * 6 + 1, none⟩ = some (.int .i64 Re) := (cell_of_row _ _ _ _ _ _ HC2.out).trans (hxa 1 (by omega))
      have qf1 : wr.frozen? ⟨g, k * 6 + 1, none⟩ = false := frozen_of_row _ _ _ _ _ HC2.out
      have q2 : wr.cell? ⟨g, k * 6 + 2, none⟩ = some (.int .i64 K) := (cell_of_row _ _ _ _ _ _ HC2.out).trans (hxa 2 (by omega))
      have qf2 : wr.frozen? ⟨g, k * 6 + 2, none⟩ = false := frozen_of_row _ _ _ _ _ HC2.out
      have q3 : wr.cell? ⟨g, k * 6 + 3, none⟩ = some (.string key) := (cell_of_row _ _ _ _ _ _ HC2.out).trans (hxa 3 (by omega))
      have qf3 : wr.frozen? ⟨g, k * 6 + 3, none⟩ = false := frozen_of_row _ _ _ _ _ HC2.out
      have q4 : wr.cell? ⟨g, k * 6 + 4, none⟩ = some (.string val) := (cell_of_row _ _ _ _ _ _ HC2.out).trans (hxa 4 (by omega))
      have qf4 : wr.frozen? ⟨g, k * 6 + 4, none⟩ = false := frozen_of_row _ _ _ _ _ HC2.out
      have q5 : wr.cell? ⟨g, k * 6 + 5, none⟩ = some (.int .i64 N) := (cell_of_row _ _ _ _ _ _ HC2.out).trans (hxa 5 (by omega))
      have qf5 : wr.frozen? ⟨g, k * 6 + 5, none⟩ = false := frozen_of_row _ _ _ _ _ HC2.out
      have r0 : wr.cell? ⟨g, m * 6, none⟩ = some (.int .i64 T') := (cell_of_row _ _ _ _ _ _ HC2.out).trans (hya 0 (by omega))
      have rf0 : wr.frozen? ⟨g, m * 6, none⟩ = false := frozen_of_row _ _ _ _ _ HC2.out
      have r1 : wr.cell? ⟨g, m * 6 + 1, none⟩ = some (.int .i64 Re') := (cell_of_row _ _ _ _ _ _ HC2.out).trans (hya 1 (by omega))
      have rf1 : wr.frozen? ⟨g, m * 6 + 1, none⟩ = false := frozen_of_row _ _ _ _ _ HC2.out
      have r2 : wr.cell? ⟨g, m * 6 + 2, none⟩ = some (.int .i64 K') := (cell_of_row _ _ _ _ _ _ HC2.out).trans (hya 2 (by omega))
      have rf2 : wr.frozen? ⟨g, m * 6 + 2, none⟩ = false := frozen_of_row _ _ _ _ _ HC2.out
      have r3 : wr.cell? ⟨g, m * 6 + 3, none⟩ = some (.string key') := (cell_of_row _ _ _ _ _ _ HC2.out).trans (hya 3 (by omega))
      have rf3 : wr.frozen? ⟨g, m * 6 + 3, none⟩ = false := frozen_of_row _ _ _ _ _ HC2.out
      have r4 : wr.cell? ⟨g, m * 6 + 4, none⟩ = some (.string val') := (cell_of_row _ _ _ _ _ _ HC2.out).trans (hya 4 (by omega))
      have rf4 : wr.frozen? ⟨g, m * 6 + 4, none⟩ = false := frozen_of_row _ _ _ _ _ HC2.out
      have r5 : wr.cell? ⟨g, m * 6 + 5, none⟩ = some (.int .i64 N') := (cell_of_row _ _ _ _ _ _ HC2.out).trans (hya 5 (by omega))
      have rf5 : wr.frozen? ⟨g, m * 6 + 5, none⟩ = false := frozen_of_row _ _ _ _ _ HC2.out
      clear hx hy hxa hya hkm hkm2
      go_wp2
      go_region
      have hc3 := row_set6 (i := m) (row_set6 (i := k) HC2.out ⟨T', Re', K', key', val', N'⟩) ⟨T, Re, K, key, val, N⟩
      have hb3 := grown_drew (grown_six (grown_six HB2.out k ⟨T', Re', K', key', val', N'⟩) m ⟨T, Re, K, key, val, N⟩)
      generalize hW : World.drew _ = w5
      have HC3 : Hid (w5.heap[g]? = some (.cells (set6 (set6 cur2 k ⟨T', Re', K', key', val', N'⟩) m ⟨T, Re, K, key, val, N⟩) 37 (0, 0))) := Lib.hid (by rw [← hW]; exact row_drew hc3)
      have HB3 : Hid (w.grownBy w5 (some g)) := Lib.hid (by rw [← hW]; exact hb3)
      clear hW hb3
      clear hc3 q0 q1 q2 q3 q4 q5 r0 r1 r2 r3 r4 r5 qf0 qf1 qf2 qf3 qf4 qf5 rf0 rf1 rf2 rf3 rf4 rf5
      go_wp2
      go_roundw
      · refine ⟨k + 1, m - 1, set6 (set6 cur2 k ⟨T', Re', K', key', val', N'⟩) m ⟨T, Re, K, key, val, N⟩, by simp, ?_, by have := HKM.out; omega, by omega, HC3.out, by rw [set6_size, set6_size]; exact HS2.out, ?_, HB3.out⟩
        · congr 1
        · have hks : k * 6 + 6 ≤ cur2.size := by have := HS2.out; omega
          have hms : m * 6 + 6 ≤ (set6 cur2 k ⟨T', Re', K', key', val', N'⟩).size := by rw [set6_size]; have := HS2.out; omega
          have h3 := HLN.out
          have h4 := HKM.out
          intro p t ht
          have hpl := (List.getElem?_eq_some_iff.1 ht).1
          have h5 := HTU.out p t ht
          refine ⟨fun hp => ?_, fun hp1 hp2 => (AtW.set6_ne (h5.2 (by omega) (by omega)) (by omega)).set6_ne (by omega)⟩
          by_cases e1 : p = k
          · subst e1
            obtain rfl : t = ⟨T, Re, K, key, val, N⟩ := Option.some.inj (ht.symm.trans HX.out)
            rw [show l.length - 1 - p = m by omega]
            exact set6_at hms
          · by_cases e2 : p = m
            · subst e2
              obtain rfl : t = ⟨T', Re', K', key', val', N'⟩ := Option.some.inj (ht.symm.trans HY.out)
              rw [show l.length - 1 - p = k by omega]
              exact (set6_at hks).set6_ne (by omega)
            · exact (AtW.set6_ne (h5.1 (by omega)) (by omega)).set6_ne (by omega)
      · simp [intOf]; omega
    · have b0 : decide ((k : Int) < (m : Int)) = false := by simp; omega
      go_wp2
      go_end0
      refine ⟨rfl, ?_, HB2.out⟩
      have hl : l.reverse.length = n := by rw [List.length_reverse]; exact HLN.out
      have h1 := isWrs_of (F := l.reverse) (cap := cap) HC2.out (by rw [hl]; exact hnc) (fun p t ht => by
        have hp := (List.getElem?_eq_some_iff.1 ht).1
        rw [List.length_reverse] at hp
        rw [List.getElem?_reverse hp] at ht
        have h2 := HTU.out _ t ht
        have h3 := HLN.out
        by_cases hq : l.length - 1 - p < k ∨ m < l.length - 1 - p
        · have h4 := h2.1 hq
          rwa [show l.length - 1 - (l.length - 1 - p) = p by omega] at h4
        · have h4 := h2.2 (by omega) (by omega)
          rwa [show l.length - 1 - p = p by omega] at h4)
      rw [hl] at h1
      exact h1
end Go.Proofs.YtcoejiehckileaaDoor
