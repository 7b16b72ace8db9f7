/-
  The contracts of store.New and store.Of, where all writes are right.
-/
import Derived.Test.YtpmnflnaeknakaaGreatDoorStoDo
import Derived.Test.YtpmnflnaeknakaaGreatDoorStoCells
import Derived.Test.YtpmnflnaeknakaaGreatDoorWrs
namespace Go.Proofs.YtpmnflnaeknakaaGreatDoor
open Go.RowKit Go.Maps

set_option maxRecDepth 100000 in
theorem new_any (w : World) : Calls Tryz.prog 5 #[] w fun e w' => e = .returned (.pointer (some ⟨w.heap.size + 1, 0, none⟩)) ∧ StoB w' w.heap.size (w.heap.size + 2) (w.heap.size + 1) 0 (fun _ => cel0) ∧ Below w.heap.size w w' := by
  have hmm := @run_makeMap Tryz.prog
  go_enter Tryz.func5, Tryz.ntmps5
  go_wp2
  go_ret
  have old : ∀ (W : World) (o : Obj) (k : Nat), k < W.heap.size → (W.alloc o).heap[k]? = W.heap[k]? := fun W o k hk => (MapKept.heap_alloc W o).2 k hk
  have s1 : (w.alloc (.map #[] 0)).heap.size = w.heap.size + 1 := by simp
  have hrow : ((w.alloc (.map #[] 0)).alloc (.cells #[.map (some w.heap.size)] 51)).heap[w.heap.size + 1]? = some (.cells #[.map (some w.heap.size)] 51 (0, 0)) := by
    have := (MapKept.heap_alloc (w.alloc (.map #[] 0)) (.cells #[.map (some w.heap.size)] 51)).1
    rwa [s1] at this
  refine ⟨rfl, ⟨w.heap.size, _, _, ⟨hrow, (World.ownsMap_made w _ _ _).alloc _, stoD_nil, fun k hk => (by cases hk), fun j k hj _ _ => (by cases hj), fun _ => Nat.le_refl _, fun _ => ⟨Nat.zero_le _, fun s hs => (by cases hs)⟩, fun _ => neat0, (by omega), (by omega), (by simp), (by omega)⟩, by omega, Nat.le_refl _⟩, ((Below.refl _ _).alloc (Nat.le_refl _) _).alloc (by simp) _⟩

theorem keys_ok {l : List Wr} (h : ∀ x ∈ l, wrF x = 0) (k : ByteArray) (hk : live (cellK l k) = true) : k.size ≤ 140737488351232 := by
  by_cases e : ∃ x ∈ l, x.key = k
  · obtain ⟨x, hx, rfl⟩ := e
    have := (wrF_good (h x hx)).2.1
    omega
  · rw [cellK_none (fun x hx e2 => e ⟨x, hx, e2⟩)] at hk
    cases hk

set_option maxRecDepth 100000 in
set_option maxHeartbeats 8000000 in
theorem of_good (v : Value) (l : List Wr) (w : World) (h : IsWrs w v l) (hr : ∀ x ∈ l, wrF x = 0) (hl : l.length ≤ 100000) :
    Calls Tryz.prog 9 #[v] w fun e w' => ∃ u, e = .returned (.tuple #[u, .nilIface]) ∧ IsCells w' u (cellsF l) ∧ Below w.heap.size w w' := by
  obtain ⟨a, c, rfl, hf⟩ := h.form
  have HI := Lib.hid h
  have HF := Lib.hid hf
  have HR := Lib.hid hr
  obtain ⟨n, hn⟩ : ∃ n, n = l.length := ⟨_, rfl⟩
  rw [← hn] at hl ⊢
  have HN := Lib.hid hn
  clear h hf hr hn
  obtain ⟨P, hP⟩ : ∃ P, P = w.heap.size + 1 := ⟨_, rfl⟩
  have HP := Lib.hid hP
  clear hP
  go_enter Tryz.func9, Tryz.ntmps9
  go_wp2_with (go_at_call 5; refine (new_any _).mono ?_; rintro r w1 ⟨rfl, hs1, hb1⟩; have HS1 : Hid (StoB w1 w.heap.size (w.heap.size + 2) P 0 (fun _ => cel0)) := Lib.hid (by rw [HP.out]; exact hs1); have HB1 := Lib.hid hb1; clear hs1 hb1; rw [← HP.out])
  go_loopw [11] (fun i wr => ∃ k : Nat, k ≤ n ∧ i = .int .i64 k ∧ StoB wr w.heap.size (w.heap.size + 2) P k (cellK (l.take k)) ∧ Below w.heap.size w wr) (fun i _ => n - (intOf i).toNat)
  case atStart => exact ⟨0, by omega, rfl, by rw [List.take_zero, cellK_nil]; exact HS1.out, HB1.out⟩
  case round =>
    obtain ⟨k, hk, rfl, hs, hb⟩ := hrel
    have HS := Lib.hid hs
    have HB := Lib.hid hb
    clear hs hb HS1 HB1
    by_cases hlt : k < n
    · have b1 : decide ((k : Int) < (n : Int)) = true := by simpa using hlt
      obtain ⟨x, hx⟩ : ∃ x, l[k]? = some x := ⟨l[k]'(by rw [← HN.out]; exact hlt), List.getElem?_eq_getElem _⟩
      obtain ⟨b, off, rfl, hbl, c0, c1, c2, c3, c4, c5⟩ := HF.out k x hx
      have HX := Lib.hid hx
      have hx0 : wrF x = 0 := HR.out x (List.mem_of_getElem? hx)
      obtain ⟨T, Re, K, key, val, N⟩ := x
      simp only at c0 c1 c2 c3 c4 c5
      have HX0 := Lib.hid hx0
      have HBL := Lib.hid hbl
      have d : ∀ j u, w.cell? ⟨b, j, none⟩ = some u → wr.cell? ⟨b, j, none⟩ = some u := fun j u hu => (HB.out.cell (p := ⟨b, j, none⟩) HBL.out).trans hu
      have e0 := d _ _ c0
      have e1 := d _ _ c1
      have e2 := d _ _ c2
      have e3 := d _ _ c3
      have e4 := d _ _ c4
      have e5 := d _ _ c5
      have HSR : Hid (w.heap.size ≤ wr.heap.size) := Lib.hid HB.out.size
      clear hx hx0 c0 c1 c2 c3 c4 c5 d hbl
      go_wp2_with (go_at_call 8; obtain ⟨M, D, L, hs, hBP, hBM⟩ := HS.out.grown (grown_alloc (grown_refl _ none) (.cells #[.int .i64 T, .int .i64 Re, .int .i64 K, .string key, .string val, .int .i64 N] 32)); refine (do_good _ w.heap.size (w.heap.size + 2) P M k D _ L T Re K key val N hs HX0.out (by omega) hBP hBM).mono ?_; rintro r w3 ⟨rfl, hs3, hb3, _⟩; have HS3 := Lib.hid hs3; have HB3 := Lib.hid hb3; clear hs hBP hBM hs3 hb3)
      go_roundw
      · refine ⟨k + 1, by omega, by simp, ?_, ?_⟩
        · rw [List.take_add_one, HX.out]
          show StoB _ _ _ _ _ (cellK (l.take k ++ [_]))
          rw [← stepG_cellK]
          exact HS3.out
        · exact (HB.out.alloc HSR.out _).trans HB3.out
      · simp [intOf]; omega
    · have b1 : decide ((k : Int) < (n : Int)) = false := by simp; omega
      obtain rfl : k = n := by omega
      have HT : Hid (StoB wr w.heap.size (w.heap.size + 2) P k (cellK l)) := Lib.hid (by have := HS.out; rwa [List.take_of_length_le (by rw [HN.out]; exact Nat.le_refl _)] at this)
      clear HS
      go_wp2_with (go_at_call 12; obtain ⟨M, D, L, hs, hBP, hBM⟩ := HT.out; refine (cells_any _ (w.heap.size + 2) P M k D _ L hs (by omega) (keys_ok HR.out)).mono ?_; rintro r w3 ⟨u, z, rfl, hz, hu, hb3⟩; have HU : Hid (IsCells w3 u (cellsF l)) := Lib.hid (by rw [← hz.is]; exact hu); have HB3 := Lib.hid hb3; clear hs hBP hBM hz hu hb3)
      go_ret2
      exact ⟨u, rfl, HU.out, HB.out.trans (HB3.out.mono HB.out.size)⟩
end Go.Proofs.YtpmnflnaeknakaaGreatDoor
