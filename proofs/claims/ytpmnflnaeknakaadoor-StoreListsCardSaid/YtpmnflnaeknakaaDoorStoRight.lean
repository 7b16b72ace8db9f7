/-
  The contract of the laws' right: the first sixty writes that are right.
-/
import Derived.Test.YtpmnflnaeknakaaDoorStoDo
import Derived.Test.YtpmnflnaeknakaaDoorWrs
namespace Go.Proofs.YtpmnflnaeknakaaDoor
open Go.RowKit

def okW (x : Wr) : Bool := decide (wrF x = 0)
def rightL (l : List Wr) : List Wr := (l.filter okW).take 60
theorem rightL_ok {l : List Wr} {x : Wr} (h : x ∈ rightL l) : wrF x = 0 ∧ x ∈ l := by
  have h1 := List.mem_of_mem_take h
  rw [List.mem_filter] at h1
  exact ⟨by simpa [okW] using h1.2, h1.1⟩
theorem rightL_len (l : List Wr) : (rightL l).length ≤ 60 := by unfold rightL; rw [List.length_take]; omega
theorem take_snoc {l : List Wr} {k : Nat} {x : Wr} (hx : l[k]? = some x) : l.take (k + 1) = l.take k ++ [x] := by rw [List.take_add_one, hx]; rfl
theorem rightL_full {l : List Wr} {k : Nat} {x : Wr} (hx : l[k]? = some x) (h : ¬ (rightL (l.take k)).length < 60) : rightL (l.take (k + 1)) = rightL (l.take k) := by
  unfold rightL at h ⊢
  rw [take_snoc hx, List.filter_append]
  rw [List.length_take] at h
  rw [List.take_append_of_le_length (by omega)]
theorem rightL_yes {l : List Wr} {k : Nat} {x : Wr} (hx : l[k]? = some x) (h : (rightL (l.take k)).length < 60) (h0 : wrF x = 0) : rightL (l.take (k + 1)) = rightL (l.take k) ++ [x] := by
  unfold rightL at h ⊢
  rw [take_snoc hx, List.filter_append]
  rw [List.length_take] at h
  have e : [x].filter okW = [x] := by simp [okW, h0]
  rw [e, List.take_of_length_le (l := (l.take k).filter okW) (by omega), List.take_of_length_le (by rw [List.length_append]; simp; omega)]
theorem rightL_no {l : List Wr} {k : Nat} {x : Wr} (hx : l[k]? = some x) (h0 : wrF x ≠ 0) : rightL (l.take (k + 1)) = rightL (l.take k) := by
  unfold rightL
  rw [take_snoc hx, List.filter_append]
  have e : [x].filter okW = [] := by simp [okW, h0]
  rw [e, List.append_nil]

theorem wrs_grown {w w' : World} {base : Nat} {v : Value} {l : List Wr} (h : ownsW w base v l) (hg : w.grownBy w' none) : ownsW w' base v l :=
  World.ownsRow.kept h hg (by cases e : v.ownBlock with
    | none => exact .inl rfl
    | some g => exact .inr (by simp))

set_option maxRecDepth 100000 in
set_option maxHeartbeats 8000000 in
theorem right_any (v : Value) (l : List Wr) (w : World) (h : IsWrs w v l) (hl : l.length ≤ 9223372036854775807) (hok : ∀ x ∈ l, WrOk x) :
    Calls Tryd.prog 5 #[v] w fun e w' => ∃ u, e = .returned u ∧ ownsW w' w.heap.size u (rightL l) ∧ Below w.heap.size w w' := by
  obtain ⟨a, c, rfl, hf⟩ := h.form
  have HF := Lib.hid hf
  have HOK := Lib.hid hok
  obtain ⟨n, hn⟩ : ∃ n, n = l.length := ⟨_, rfl⟩
  rw [← hn] at hl ⊢
  have HN := Lib.hid hn
  clear h hf hok hn
  go_enter Tryd.func5, Tryd.ntmps5
  go_wp2
  go_loopw [3, 8] (fun u i wr => ∃ k : Nat, k ≤ n ∧ i = .int .i64 k ∧ ownsW wr w.heap.size u (rightL (l.take k)) ∧ Below w.heap.size w wr) (fun _ i _ => n - (intOf i).toNat)
  case atStart => exact ⟨0, by omega, rfl, ownsW_nil _ _, Below.refl _ _⟩
  case round =>
    obtain ⟨k, hk, rfl, ho, hb⟩ := hrel
    have HO := Lib.hid ho
    have HB := Lib.hid hb
    by_cases hlt : k < n
    · have b1 : decide ((k : Int) < (n : Int)) = true := by simpa using hlt
      obtain ⟨x, hx⟩ : ∃ x, l[k]? = some x := ⟨l[k]'(by rw [← HN.out]; exact hlt), List.getElem?_eq_getElem _⟩
      obtain ⟨b, off, rfl, hbl, c0, c1, c2, c3, c4, c5⟩ := HF.out k x hx
      have hxo := HOK.out x (List.mem_of_getElem? hx)
      obtain ⟨T, Re, K, key, val, N⟩ := x
      simp only at c0 c1 c2 c3 c4 c5
      have HX := Lib.hid hx
      have d : ∀ j u, w.cell? ⟨b, j, none⟩ = some u → wr.cell? ⟨b, j, none⟩ = some u := fun j u hu => (HB.out.cell (p := ⟨b, j, none⟩) hbl).trans hu
      have e0 := d _ _ c0
      have e1 := d _ _ c1
      have e2 := d _ _ c2
      have e3 := d _ _ c3
      have e4 := d _ _ c4
      have e5 := d _ _ c5
      have hks : key.size ≤ 140737488351232 := hxo.2.2.1
      have hvs : val.size ≤ 140737488351232 := hxo.2.2.2
      have HSR := Lib.hid HB.out.size
      obtain ⟨au, cu, m, rfl, hm⟩ : ∃ a c m, u3 = .slice a m c ∧ m = (rightL (l.take k)).length := by
        rcases HO.out.is.form with ⟨a, c, e, _⟩
        exact ⟨a, c, _, e, rfl⟩
      have hm60 : m ≤ 60 := by rw [hm]; exact rightL_len _
      have HM := Lib.hid hm
      clear hx c0 c1 c2 c3 c4 c5 d hbl hxo ho hb hm
      by_cases hfull : m < 60
      · have b2 : decide ((m : Int) < 60) = true := by simp; omega
        by_cases h0 : wriE T Re K key val N = 0
        · have HE : Hid (errV (wriE T Re K key val N) = .nilIface) := Lib.hid (by rw [h0]; rfl)
          have H0 : Hid (wrF ⟨T, Re, K, key, val, N⟩ = 0) := Lib.hid h0
          clear h0
          go_wp2_with (first
            | (go_at_call 10; refine (wright_any T Re K key val N _ hks hvs).mono ?_; rintro r w3 ⟨rfl, hb3⟩; rw [HE.out]; have hrow := (hb3.block wr.heap.size (by simp)).trans (MapKept.heap_alloc wr (.cells #[.int .i64 T, .int .i64 Re, .int .i64 K, .string key, .string val, .int .i64 N] 29)).1; have HB3 : Hid (wr.grownBy w3 none) := Lib.hid (grown_on (grown_alloc (grown_refl _ none) _) (grown_of_below hb3)); have p0 := cell_of_row _ _ 0 _ _ _ hrow; have p1 := cell_of_row _ _ 1 _ _ _ hrow; have p2 := cell_of_row _ _ 2 _ _ _ hrow; have p3 := cell_of_row _ _ 3 _ _ _ hrow; have p4 := cell_of_row _ _ 4 _ _ _ hrow; have p5 := cell_of_row _ _ 5 _ _ _ hrow; clear hb3 hrow)
            | (at_builtin; refine wpList_append_wr rfl _ _ rfl w.heap.size (.slice au m cu) (rightL (l.take k)) rfl ((wrs_grown HO.out HB3.out).alloc _) w3.heap.size 1 rfl ⟨T, Re, K, key, val, N⟩ (MapKept.heap_alloc w3 _).1 (by have := rightL_len (l.take k); omega) (by have := HSR.out; have := HB3.out.size; simp; omega) ?_; intro g cap w5 ho5 hg5; have HO5 := Lib.hid ho5; have HG5 := Lib.hid hg5; clear ho5 hg5))
          go_roundw
          · refine ⟨k + 1, by omega, by simp, ?_, ?_⟩
            · rw [rightL_yes HX.out (by rw [← HM.out]; exact hfull) H0.out]; exact HO5.out
            · exact below_of_grown (below_of_grown HB.out (grown_alloc HB3.out _) HSR.out (fun g e => by cases e)) HG5.out (by have := HSR.out; have := HB3.out.size; simp; omega) (fun g e => (HO.out.lt g e).1)
          · simp [intOf]; omega
        · have HE : Hid (errV (wriE T Re K key val N) = .iface 48 (.int .i64 ((wriE T Re K key val N : Nat) : Int))) := Lib.hid (by unfold errV; rw [if_neg h0])
          have H0 : Hid (wrF ⟨T, Re, K, key, val, N⟩ ≠ 0) := Lib.hid h0
          clear h0
          go_wp2_with (go_at_call 10; refine (wright_any T Re K key val N _ hks hvs).mono ?_; rintro r w3 ⟨rfl, hb3⟩; rw [HE.out]; have HB3 : Hid (wr.grownBy w3 none) := Lib.hid (grown_on (grown_alloc (grown_refl _ none) _) (grown_of_below hb3)); clear hb3)
          go_roundw
          · refine ⟨k + 1, by omega, by simp, ?_, ?_⟩
            · rw [rightL_no HX.out H0.out]; exact wrs_grown HO.out HB3.out
            · exact below_of_grown HB.out HB3.out HSR.out (fun g e => by cases e)
          · simp [intOf]; omega
      · have b2 : decide ((m : Int) < 60) = false := by simp; omega
        go_wp2
        go_roundw
        · refine ⟨k + 1, by omega, by simp, ?_, ?_⟩
          · rw [rightL_full HX.out (by rw [← HM.out]; exact hfull)]; exact HO.out.alloc _
          · exact HB.out.alloc HSR.out _
        · simp [intOf]; omega
    · have b1 : decide ((k : Int) < (n : Int)) = false := by simp; omega
      obtain rfl : k = n := by omega
      have HT : Hid (ownsW wr w.heap.size u3 (rightL l)) := Lib.hid (by rwa [List.take_of_length_le (by rw [HN.out]; exact Nat.le_refl _)] at ho)
      clear HO ho hb
      go_wp2
      go_ret
      exact ⟨_, rfl, HT.out, HB.out⟩
end Go.Proofs.YtpmnflnaeknakaaDoor
