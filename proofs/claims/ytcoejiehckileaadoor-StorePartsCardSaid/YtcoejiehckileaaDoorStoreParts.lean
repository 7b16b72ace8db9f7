/-
  The walk of 'packtrainkeep.StoreParts'.
-/
import Derived.Test.YtcoejiehckileaaDoorStoLaw
import Derived.Test.YtcoejiehckileaaDoorWrCat
namespace Go.Proofs.YtcoejiehckileaaDoor
open Go.RowKit

theorem allWrs2 {w : World} {B : Nat} {v1 v2 : Value} {l1 l2 : List Wr} {T : TypeId} (h : w.heap[B]? = some (.cells #[v1, v2] T (0, 0))) (h1 : IsWrs w v1 l1) (h2 : IsWrs w v2 l2) : AllWrs w B [v1, v2] [l1, l2] := by
  refine ⟨rfl, fun j v hj => ?_⟩
  match j, hj with
  | 0, hj => simp at hj; subst hj; exact ⟨l1, rfl, cell_of_row _ _ 0 _ _ _ h, h1⟩
  | 1, hj => simp at hj; subst hj; exact ⟨l2, rfl, cell_of_row _ _ 1 _ _ _ h, h2⟩

theorem ownsW.keep {w w' : World} {base : Nat} {v : Value} {l : List Wr} (h : ownsW w base v l) (hk : KeepW w w') : ownsW w' base v l := by
  refine ⟨h.1, ?_⟩
  rcases h.2 with h1 | ⟨g, cap, cur, hv, hg, hh, r⟩
  · exact .inl h1
  · exact .inr ⟨g, cap, cur, hv, hg, hk _ _ hh, r⟩

set_option maxRecDepth 100000 in
set_option maxHeartbeats 8000000 in
theorem storeParts_walk (W : World) (v1 : Value) (l1 : List Wr) (hi1 : IsWrs W v1 l1) (hl1 : l1.length ≤ 9223372036854775807) (hok1 : ∀ t ∈ l1, WrOk t) (v2 : Value) (l2 : List Wr) (hi2 : IsWrs W v2 l2) (hl2 : l2.length ≤ 9223372036854775807) (hok2 : ∀ t ∈ l2, WrOk t) {Q : Prop} (_ : Q) :
    Calls Tryd.prog 4 #[v1, v2] W fun e w' => e = .returned (.bool true) ∧ Below W.heap.size W w' := by
  have HI1 := Lib.hid hi1
  have HI2 := Lib.hid hi2
  have HOK1 := Lib.hid hok1
  have HOK2 := Lib.hid hok2
  clear hi1 hi2 hok1 hok2
  go_enter Tryd.func4, Tryd.ntmps4
  go_wp2_with (go_at_call 11; refine (stored_any _).mono ?_; rintro r w1 ⟨rfl, hb1⟩; have HB1 := Lib.hid hb1; clear hb1)
  refine (right_any v1 l1 _ (HI1.out.below HB1.out) hl1 HOK1.out).mono ?_
  rintro r w2 ⟨u1, rfl, ho2, hb2⟩
  have HO2 := Lib.hid ho2
  have HB2 : Hid (Below W.heap.size W w2) := Lib.hid (HB1.out.trans (hb2.mono HB1.out.size))
  clear ho2 hb2
  go_wp2_with fail
  refine (right_any v2 l2 _ (HI2.out.below HB2.out) hl2 HOK2.out).mono ?_
  rintro r w3 ⟨u2, rfl, ho3, hb3⟩
  have hr : ∀ x ∈ rightL l1 ++ rightL l2, wrF x = 0 := fun x hx => by
    rcases List.mem_append.1 hx with hx | hx <;> exact (rightL_ok hx).1
  have hn1 := rightL_len l1
  have hn2 := rightL_len l2
  have HA : Hid (IsWrs w3 u1 (rightL l1) ∧ IsWrs w3 u2 (rightL l2)) := Lib.hid ⟨(HO2.out.below hb3).is, ho3.is⟩
  have HB3 : Hid (Below W.heap.size W w3) := Lib.hid (HB2.out.trans (hb3.mono HB2.out.size))
  obtain ⟨x1, m1, y1, rfl⟩ : ∃ a n c, u1 = .slice a n c := by obtain ⟨a, c, e, _⟩ := HA.out.1.form; exact ⟨a, _, c, e⟩
  obtain ⟨x2, m2, y2, rfl⟩ : ∃ a n c, u2 = .slice a n c := by obtain ⟨a, c, e, _⟩ := HA.out.2.form; exact ⟨a, _, c, e⟩
  generalize rightL l1 = a at hr hn1 HA HO2
  generalize rightL l2 = b at hr hn2 HA ho3
  have HR := Lib.hid hr
  obtain ⟨L, hL⟩ : ∃ L, L = a ++ b := ⟨_, rfl⟩
  have hLn : L.length ≤ 1000 := by rw [hL, List.length_append]; omega
  have hfl : [a, b].flatten = L := by rw [hL]; simp
  rw [← hL] at HR
  have HFL := Lib.hid hfl
  clear ho3 hb3 hr hn1 hn2 hL hfl HO2
  obtain ⟨P, hP⟩ : ∃ P, P = w3.heap.size + 1 := ⟨_, rfl⟩
  have HP := Lib.hid hP
  clear hP
  go_wp2_with (first
    | (go_at_call 16; refine (new_any _).mono ?_; rintro r w4 ⟨rfl, hs4, hb4⟩; have HS4 : Hid (StoB w4 w3.heap.size (w3.heap.size + 2) P 0 (fun _ => cel0)) := Lib.hid (by rw [HP.out]; exact hs4); have HB4 := Lib.hid hb4; clear hs4 hb4; rw [← HP.out])
    | (go_at_call 17; refine (wcat_any [_, _] [a, b] w4.heap.size 2 2 _ (allWrs2 (MapKept.heap_alloc w4 _).1 ((HA.out.1.below HB4.out).alloc _) ((HA.out.2.below HB4.out).alloc _)) rfl (by omega) (by rw [HFL.out]; omega) (by simp)).mono ?_; rintro r w5 ⟨v5, rfl, ho5, hb5⟩; rw [HFL.out] at ho5; have HS5 : Hid (StoB w5 w3.heap.size (w3.heap.size + 2) P 0 (fun _ => cel0)) := Lib.hid (HS4.out.grown (grown_on (grown_alloc (grown_refl _ none) _) (grown_of_below hb5))); have HB5 : Hid (Below w3.heap.size w3 w5) := Lib.hid ((HB4.out.alloc HB4.out.size _).trans (hb5.mono (by have := HB4.out.size; simp; omega))); obtain ⟨a5, c5, rfl, _⟩ := ho5.is.form; have HO5 := Lib.hid (ho5.mono (base' := w3.heap.size) (by have := HB4.out.size; simp; omega)); clear ho5 hb5))
  obtain ⟨n, hn⟩ : ∃ n, n = L.length := ⟨_, rfl⟩
  rw [← hn] at hLn HO5 ⊢
  have HN := Lib.hid hn
  clear hn
  go_loopw [22] (fun i wr => ∃ k : Nat, k ≤ n ∧ i = .int .i64 k ∧ StoB wr w3.heap.size (w3.heap.size + 2) P k (cellK (L.take k)) ∧ Below w3.heap.size w3 wr ∧ ownsW wr w3.heap.size (.slice a5 n c5) L) (fun i _ => n - (intOf i).toNat)
  case atStart => exact ⟨0, by omega, rfl, by rw [List.take_zero, cellK_nil]; exact HS5.out, HB5.out, HO5.out⟩
  case round =>
    obtain ⟨k, hk, rfl, hs, hb, ho⟩ := hrel
    have HS := Lib.hid hs
    have HB := Lib.hid hb
    have HO := Lib.hid ho
    clear hs hb ho HS4 HB4 HS5 HB5 HO5
    by_cases hlt : k < n
    · have b1 : decide ((k : Int) < (n : Int)) = true := by simpa using hlt
      obtain ⟨x, hx⟩ : ∃ x, L[k]? = some x := ⟨L[k]'(by rw [← HN.out]; exact hlt), List.getElem?_eq_getElem _⟩
      obtain ⟨_, _, e, hf⟩ := HO.out.is.form
      obtain ⟨ee, en, ec⟩ := Value.slice.inj e
      clear en ec
      subst ee
      obtain ⟨b, off, rfl, hbl, c0, c1, c2, c3, c4, c5'⟩ := hf k x hx
      have HX := Lib.hid hx
      have hx0 : wrF x = 0 := HR.out x (List.mem_of_getElem? hx)
      obtain ⟨T, Re, K, key, val, N⟩ := x
      simp only at c0 c1 c2 c3 c4 c5'
      have HX0 := Lib.hid hx0
      have HSR : Hid (w3.heap.size ≤ wr.heap.size) := Lib.hid HB.out.size
      clear hx hx0 hbl e hf
      go_wp2_with (go_at_call 18; obtain ⟨M, D, G, hs, hBP, hBM⟩ := HS.out.grown (grown_alloc (grown_refl _ none) (.cells #[.int .i64 T, .int .i64 Re, .int .i64 K, .string key, .string val, .int .i64 N] 37)); refine (do_good _ w3.heap.size (w3.heap.size + 2) P M k D _ G T Re K key val N hs HX0.out (by omega) hBP hBM).mono ?_; rintro r w6 ⟨rfl, hs6, hb6, hk6⟩; have HS6 := Lib.hid hs6; have HB6 := Lib.hid hb6; have HK6 := Lib.hid hk6; clear hs hBP hBM hs6 hb6 hk6)
      go_roundw
      · refine ⟨k + 1, by omega, by simp, ?_, (HB.out.alloc HSR.out _).trans HB6.out, (HO.out.alloc _).keep HK6.out⟩
        rw [List.take_add_one, HX.out]
        show StoB _ _ _ _ _ (cellK (L.take k ++ [_]))
        rw [← stepG_cellK]
        exact HS6.out
      · simp [intOf]; omega
    · have b1 : decide ((k : Int) < (n : Int)) = false := by simp; omega
      obtain rfl : k = n := by omega
      have HT : Hid (StoB wr w3.heap.size (w3.heap.size + 2) P k (cellK L)) := Lib.hid (by have := HS.out; rwa [List.take_of_length_le (by rw [HN.out]; exact Nat.le_refl _)] at this)
      clear HS
      go_wp2_with (first
        | (go_at_call 17; refine (wcat_any [_, _] [a, b] wr.heap.size 2 2 _ (allWrs2 (MapKept.heap_alloc wr _).1 ((HA.out.1.below HB.out).alloc _) ((HA.out.2.below HB.out).alloc _)) rfl (by omega) (by rw [HFL.out, ← HN.out]; omega) (by simp)).mono ?_; rintro r w7 ⟨v7, rfl, ho7, hb7⟩; rw [HFL.out] at ho7; have HI7 : Hid (IsWrs w7 v7 L) := Lib.hid ho7.is; have HG7 : Hid (wr.grownBy w7 none) := Lib.hid (grown_on (grown_alloc (grown_refl _ none) _) (grown_of_below hb7)); clear ho7 hb7)
        | (go_at_call 13; refine (of_good _ L _ HI7.out HR.out (by rw [← HN.out]; omega)).mono ?_; rintro r w8 ⟨u8, rfl, hu8, hb8⟩; have HU8 := Lib.hid hu8; have HG8 : Hid (wr.grownBy w8 none) := Lib.hid (grown_on HG7.out (grown_of_below hb8)); clear hu8 hb8)
        | (go_at_call 20; obtain ⟨M, D, G, hs, hBP, hBM⟩ := HT.out.grown HG8.out; refine (cells_any _ (w3.heap.size + 2) P M k D _ G hs (by omega) (keys_ok HR.out)).mono ?_; rintro r w9 ⟨u9, z, rfl, hz, hu9, hb9⟩; have HU9 : Hid (IsCells w9 u9 (cellsF L)) := Lib.hid (by rw [← hz.is]; exact hu9); have HB9 := Lib.hid hb9; clear hs hBP hBM hz hu9 hb9)
        | (go_at_call 19; refine (same_cells _ _ L _ HU9.out (HU8.out.below HB9.out) (by rw [← HN.out]; omega)).mono ?_; rintro r w10 ⟨rfl, hb10⟩; have HB10 := Lib.hid hb10; clear hb10))
      go_ret
      refine ⟨rfl, ?_⟩
      have g9 : wr.grownBy w10 none := grown_on (grown_on HG8.out (grown_of_below HB9.out)) (grown_of_below HB10.out)
      exact (HB3.out.trans (HB.out.mono HB3.out.size)).trans (below_of_grown (Below.refl _ wr) g9 (Nat.le_trans HB3.out.size HB.out.size) (fun g e => by cases e))
end Go.Proofs.YtcoejiehckileaaDoor
