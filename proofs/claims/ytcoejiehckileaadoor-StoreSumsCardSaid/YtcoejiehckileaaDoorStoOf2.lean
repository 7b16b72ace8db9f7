/-
  store.Of: the answer lies in new memory. (As XStoOf.)
-/
import Derived.Test.YtcoejiehckileaaDoorStoOf
import Derived.Test.YtcoejiehckileaaDoorStoCells2
namespace Go.Proofs.YtcoejiehckileaaDoor
open Go.RowKit Go.Maps

set_option maxRecDepth 100000 in
set_option maxHeartbeats 8000000 in
theorem of_new (v : Value) (l : List Wr) (w : World) (h : IsWrs w v l) (hr : ∀ x ∈ l, wrF x = 0) (hl : l.length ≤ 100000) :
    Calls Tryd.prog 13 #[v] w fun e w' => ∃ u, e = .returned (.tuple #[u, .nilIface]) ∧ IsCells w' u (cellsF l) ∧ Below w.heap.size w w' ∧ ∀ k, u.ownBlock = some k → w.heap.size ≤ k := by
  obtain ⟨a, c, rfl, hf⟩ := h.form
  have HI := Lib.hid h
  have HF := Lib.hid hf
  have HR := Lib.hid hr
  obtain ⟨n, hn⟩ : ∃ n, n = l.length := ⟨_, rfl⟩
  rw [← hn] at hl ⊢
  have HN := Lib.hid hn
  clear h hf hr hn
  obtain ⟨P, hP⟩ : ∃ P, P = w.heap.size + 1 := ⟨_, rfl⟩
  have HP := Lib.hid hP
  clear hP
  go_enter Tryd.func13, Tryd.ntmps13
  go_wp2_with (go_at_call 16; refine (new_any _).mono ?_; rintro r w1 ⟨rfl, hs1, hb1⟩; have HS1 : Hid (StoB w1 w.heap.size (w.heap.size + 2) P 0 (fun _ => cel0)) := Lib.hid (by rw [HP.out]; exact hs1); have HB1 := Lib.hid hb1; clear hs1 hb1; rw [← HP.out])
  go_loopw [11] (fun i wr => ∃ k : Nat, k ≤ n ∧ i = .int .i64 k ∧ StoB wr w.heap.size (w.heap.size + 2) P k (cellK (l.take k)) ∧ Below w.heap.size w wr) (fun i _ => n - (intOf i).toNat)
  case atStart => exact ⟨0, by omega, rfl, by rw [List.take_zero, cellK_nil]; exact HS1.out, HB1.out⟩
  case round =>
    obtain ⟨k, hk, rfl, hs, hb⟩ := hrel
    have HS := Lib.hid hs
    have HB := Lib.hid hb
    clear hs hb HS1 HB1
    by_cases hlt : k < n
    · have b1 : decide ((k : Int) < (n : Int)) = true := by simpa using hlt
      obtain ⟨x, hx⟩ : ∃ x, l[k]? = some x := ⟨l[k]'(by rw [← HN.out]; exact hlt), List.getElem?_eq_getElem _⟩
      obtain ⟨b, off, rfl, hbl, c0, c1, c2, c3, c4, c5⟩ := HF.out k x hx
      have HX := Lib.hid hx
      have hx0 : wrF x = 0 := HR.out x (List.mem_of_getElem? hx)
      obtain ⟨T, Re, K, key, val, N⟩ := x
      simp only at c0 c1 c2 c3 c4 c5
      have HX0 := Lib.hid hx0
      have HBL := Lib.hid hbl
      have d : ∀ j u, w.cell? ⟨b, j, none⟩ = some u → wr.cell? ⟨b, j, none⟩ = some u := fun j u hu => (HB.out.cell (p := ⟨b, j, none⟩) HBL.out).trans hu
      have e0 := d _ _ c0
      have e1 := d _ _ c1
      have e2 := d _ _ c2
      have e3 := d _ _ c3
      have e4 := d _ _ c4
      have e5 := d _ _ c5
      have HSR : Hid (w.heap.size ≤ wr.heap.size) := Lib.hid HB.out.size
      clear hx hx0 c0 c1 c2 c3 c4 c5 d hbl
      go_wp2_with (go_at_call 18; obtain ⟨M, D, L, hs, hBP, hBM⟩ := HS.out.grown (grown_alloc (grown_refl _ none) (.cells #[.int .i64 T, .int .i64 Re, .int .i64 K, .string key, .string val, .int .i64 N] 37)); refine (do_good _ w.heap.size (w.heap.size + 2) P M k D _ L T Re K key val N hs HX0.out (by omega) hBP hBM).mono ?_; rintro r w3 ⟨rfl, hs3, hb3, _⟩; have HS3 := Lib.hid hs3; have HB3 := Lib.hid hb3; clear hs hBP hBM hs3 hb3)
      go_roundw
      · refine ⟨k + 1, by omega, by simp, ?_, ?_⟩
        · rw [List.take_add_one, HX.out]
          show StoB _ _ _ _ _ (cellK (l.take k ++ [_]))
          rw [← stepG_cellK]
          exact HS3.out
        · exact (HB.out.alloc HSR.out _).trans HB3.out
      · simp [intOf]; omega
    · have b1 : decide ((k : Int) < (n : Int)) = false := by simp; omega
      obtain rfl : k = n := by omega
      have HT : Hid (StoB wr w.heap.size (w.heap.size + 2) P k (cellK l)) := Lib.hid (by have := HS.out; rwa [List.take_of_length_le (by rw [HN.out]; exact Nat.le_refl _)] at this)
      clear HS
      go_wp2_with (go_at_call 20; obtain ⟨M, D, L, hs, hBP, hBM⟩ := HT.out; refine (cells_new _ (w.heap.size + 2) P M k D _ L hs (by omega) (keys_ok HR.out)).mono ?_; rintro r w3 ⟨u, z, rfl, hz, hu, hb3, hfr⟩; have HFR := Lib.hid hfr; have HU : Hid (IsCells w3 u (cellsF l)) := Lib.hid (by rw [← hz.is]; exact hu); have HB3 := Lib.hid hb3; clear hs hBP hBM hz hu hb3 hfr)
      go_ret2
      exact ⟨u, rfl, HU.out, HB.out.trans (HB3.out.mono HB.out.size), fun k e => Nat.le_trans HB.out.size (HFR.out k e)⟩
end Go.Proofs.YtcoejiehckileaaDoor
