/-
  The contracts of (*disk.Disk).Write, Read.
-/
import Derived.Test.YtjnbnkaocoamlaaDskFn
import Derived.Laws.IdiomStrings
import Derived.Deep.RegionHeld3
import Derived.Laws.Tables
import Derived.RegionTactic
namespace Go.Proofs.Ytjnbnkaocoamlaa
open Go.RowKit

theorem dput_bad {X : Dsk} {i : Int} {s : List UInt8} (h : dwE X.n i s.length ≠ 0) : dPut X i s = X := if_neg h
theorem dput_ok {X : Dsk} {i : Nat} {s : List UInt8} (h : i < X.n) (hs : s.length ≤ 32) : dPut X i s = dWr X i s ∧ dwE X.n i s.length = 0 := by
  have e : dwE X.n i s.length = 0 := by unfold dwE; rw [if_neg (by omega), if_neg (by omega)]
  exact ⟨by unfold dPut; rw [if_pos e, Int.toNat_natCast], e⟩
theorem DskIn.put_run {w : World} {d L M : Nat} {X : Dsk} (h : DskIn w d L M X) {i : Nat} (hi : i < X.n) {s : List UInt8} (hs : s.length ≤ 32) :
    ∃ w', (Instr.mapUpdate 63 (.map (some M)) (.int .i64 (i : Int)) (secV s)).run Try.prog w = .ok () w' ∧ DskIn w' d L M (dWr X i s) ∧ But (dF L M) w w' := by
  have h140 := h.n140
  obtain ⟨D, hD, hown⟩ := h.map
  obtain ⟨w', h1, h2, h3⟩ := hown.update (key := .int .i64 (i : Int)) (val := secV s) keyedI Try.underlying63 (by decide) (keyIn i (by omega)) (secR_mk s)
  exact ⟨w', h1, h.put hi hs hD h2 h3, but_grown h3⟩
set_option maxRecDepth 100000 in
set_option maxHeartbeats 1000000 in
theorem dwrite_any (d L M : Nat) (X : Dsk) (i : Int) (s : ByteArray) (w : World) (h : DskIn w d L M X) :
    Calls Try.prog 22 #[.pointer (some ⟨d, 0, none⟩), .int .i64 i, .string s] w fun e w' =>
      e = .returned (errV (dwE X.n i s.data.toList.length)) ∧ DskIn w' d L M (dPut X i s.data.toList) ∧ But (dF L M) w w' := by
  have hsz : s.data.toList.length = s.size := by simp
  have HC := Lib.hid (fun W => has_any d L M X i W)
  have c1 := h.c1
  have HH := Lib.hid h
  clear h
  by_cases h0 : 0 ≤ i ∧ i < X.n
  · have HD : Hid (decide (0 ≤ i ∧ i < X.n) = true) := Lib.hid (decide_eq_true h0)
    obtain ⟨k, rfl⟩ : ∃ k : Nat, i = k := ⟨i.toNat, by omega⟩
    have hk : k < X.n := by omega
    clear h0
    by_cases h1 : 32 < s.size
    · have HE : Hid (errV (dwE X.n k s.data.toList.length) = .iface 72 (.int .i64 4)) := Lib.hid (by unfold dwE; rw [if_neg (by omega), if_pos (by omega)]; rfl)
      have HP : Hid (dPut X k s.data.toList = X) := Lib.hid (dput_bad (by unfold dwE; rw [if_neg (by omega), if_pos (by omega)]; decide))
      rw [HE.out, HP.out]
      have h1' : (32 : Int) < (s.size : Int) := by omega
      clear h1 hsz
      go_enter Try.func22, Try.ntmps22
      go_wp2_with fail
      refine (HC.out _ HH.out).mono ?_
      rintro e w' ⟨rfl, rfl⟩
      rw [HD.out]
      go_wp2_with fail
      go_ret
      exact ⟨rfl, HH.out, But.refl _ _⟩
    · have hp := dput_ok (X := X) (i := k) (s := s.data.toList) hk (by omega)
      have HE : Hid (errV (dwE X.n k s.data.toList.length) = .nilIface) := Lib.hid (by rw [hp.2]; rfl)
      have HP : Hid (dPut X k s.data.toList = dWr X k s.data.toList) := Lib.hid hp.1
      have HS : Hid (s.data.toList.length ≤ 32) := Lib.hid (by omega)
      have HS2 : Hid (s.size ≤ 32) := Lib.hid (by omega)
      have HK := Lib.hid hk
      rw [HE.out, HP.out]
      have h1' : ¬ (32 : Int) < (s.size : Int) := by omega
      clear h1 hp hsz hk
      go_enter Try.func22, Try.ntmps22
      go_wp2_with fail
      refine (HC.out _ HH.out).mono ?_
      rintro e w' ⟨rfl, rfl⟩
      rw [HD.out]
      go_wp2
      have HF : Hid (∀ W, Calls Try.prog 34 #[.string s] W fun e w' => e = .returned (secV s.data.toList) ∧ Below W.heap.size W w') := Lib.hid (fun W => dfill_any s W HS2.out)
      go_region_held3 (fun w2 => w2.cell? ⟨d, 1, none⟩ = some (.map (some M))) (first | exact c1 | exact c1' | exact c2) (first | (go_at_call 34; ((with_reducible refine (HF.out _).mono ?_); rintro r w2 ⟨rfl, hb2⟩; have HD2 : Hid (DskIn w2 d L M X) := Lib.hid (HH.out.drew.below hb2); have HB2 : Hid (But (dF L M) w' w2) := Lib.hid ((But.refl _ _).drew.below_on hb2); have c1' : w2.cell? ⟨d, 1, none⟩ = some (.map (some M)) := HD2.out.c1; obtain ⟨w3, hrun, hq⟩ := HD2.out.put_run HK.out HS.out; have HD3 : Hid (DskIn w3 d L M (dWr X k s.data.toList)) := Lib.hid hq.1; have HB3 : Hid (But (dF L M) w' w3) := Lib.hid (HB2.out.trans hq.2); have c2 : w3.cell? ⟨d, 1, none⟩ = some (.map (some M)) := HD3.out.c1; clear hb2 hq)) | fail)
      go_wp2
      go_ret
      exact ⟨rfl, HD3.out, HB3.out⟩
  · have HD : Hid (decide (0 ≤ i ∧ i < X.n) = false) := Lib.hid (decide_eq_false h0)
    have hw : dwE X.n i s.data.toList.length = 2 := by unfold dwE; rw [if_pos (by omega)]
    have HE : Hid (errV (dwE X.n i s.data.toList.length) = .iface 72 (.int .i64 2)) := Lib.hid (by rw [hw]; rfl)
    have HP : Hid (dPut X i s.data.toList = X) := Lib.hid (dput_bad (by rw [hw]; decide))
    rw [HE.out, HP.out]
    clear hw h0 hsz
    go_enter Try.func22, Try.ntmps22
    go_wp2_with fail
    refine (HC.out _ HH.out).mono ?_
    rintro e w' ⟨rfl, rfl⟩
    rw [HD.out]
    go_wp2_with fail
    go_ret
    exact ⟨rfl, HH.out, But.refl _ _⟩

theorem sec_conv (W : World) (B : Nat) (c : List UInt8) (t : TypeId) (hc : c.length = 32) (h : W.heap[B]? = some (.cells (secA c) t (0, 0))) :
    (convert 33 9 (.slice (some ⟨B, 0, none⟩) 32 32)).run Try.prog W = .ok (.string ⟨c.toArray⟩) W := by
  have := run_convert_bytes_back (P := Try.prog) W 33 9 5 ⟨B, 0, none⟩ 32 c Try.underlying33 Try.underlying5 Try.underlying9 (fun j hj => by
    have hadd : (⟨B, 0, none⟩ : Addr).add j = ⟨B, j, none⟩ := by unfold Addr.add; split <;> simp_all
    rw [hadd, cell_of_row _ _ _ _ _ _ h, secA_at _ _ (by omega), List.getD_eq_getElem?_getD, List.getElem?_eq_getElem hj]
    rfl)
  rw [hc] at this
  exact this
set_option maxRecDepth 100000 in
theorem dread_bad (d L M : Nat) (X : Dsk) (i : Int) (w : World) (h : DskIn w d L M X) (h0 : ¬ (0 ≤ i ∧ i < X.n)) :
    Calls Try.prog 23 #[.pointer (some ⟨d, 0, none⟩), .int .i64 i] w fun e w' => e = .returned (.tuple #[.string ⟨#[]⟩, errV 2]) ∧ w' = w := by
  have HC := Lib.hid (fun W => has_any d L M X i W)
  have HD : Hid (decide (0 ≤ i ∧ i < X.n) = false) := Lib.hid (decide_eq_false h0)
  have HE : Hid (errV 2 = .iface 72 (.int .i64 2)) := Lib.hid rfl
  rw [HE.out]
  have HH := Lib.hid h
  clear h h0
  go_enter Try.func23, Try.ntmps23
  go_wp2_with fail
  refine (HC.out _ HH.out).mono ?_
  rintro e w' ⟨rfl, rfl⟩
  rw [HD.out]
  go_wp2_with fail
  go_ret2
  exact ⟨rfl, rfl⟩
set_option maxRecDepth 100000 in
set_option maxHeartbeats 1000000 in
theorem dread_ok (d L M : Nat) (X : Dsk) (k : Nat) (w : World) (h : DskIn w d L M X) (hk : k < X.n) :
    Calls Try.prog 23 #[.pointer (some ⟨d, 0, none⟩), .int .i64 (k : Int)] w fun e w' => e = .returned (.tuple #[.string ⟨(X.cur k).toArray⟩, .nilIface]) ∧ Below w.heap.size w w' := by
  have HC := Lib.hid (fun W => has_any d L M X k W)
  have HD : Hid (decide (0 ≤ (k : Int) ∧ (k : Int) < X.n) = true) := Lib.hid (decide_eq_true ⟨by omega, by omega⟩)
  have c1 := h.c1
  have HH := Lib.hid h
  have HK := Lib.hid hk
  have H140 := Lib.hid h.n140
  obtain ⟨D, hD, hown⟩ := h.map
  have HM := Lib.hid hown
  have HDD := Lib.hid hD
  obtain ⟨c, hc⟩ : ∃ c, c = X.cur k := ⟨_, rfl⟩
  have HCL : Hid (c.length = 32) := Lib.hid (by rw [hc]; exact h.ok.len k hk)
  rw [← hc]
  have HCC := Lib.hid hc
  cases hdir : X.dir k with
  | true =>
    have HDV := Lib.hid hdir
    have HS1 : Hid (lit32.size = (secA c).size) := Lib.hid (by rw [secA_size]; rfl)
    have HI1 := Lib.hid (secA_info c)
    have HO1 := Lib.hid (secA_ones c)
    clear h hk hown hD hc hdir
    go_enter Try.func23, Try.ntmps23
    go_wp2_with fail
    refine (HC.out _ HH.out).mono ?_
    rintro e w' ⟨rfl, rfl⟩
    rw [HD.out]
    go_wp2_with (first
      | (at_lookup; refine wpList_sec_ok rfl _ _ rfl M D X rfl HDD.out HM.out k HK.out H140.out rfl ?_; rw [HDV.out, if_pos rfl, ← HCC.out])
      | (refine wpList_store_row rfl _ _ _ rfl _ (secA c) rfl rfl _ _ (heap_alloc_new _ _) HI1.out HS1.out HO1.out ?_; generalize hW : World.setRow _ _ _ = W; have hr : W.heap[w'.heap.size]? = some (.cells (secA c) 65 (0, 0)) := (by rw [← hW]; exact setRow_heap _ _ _ _ _ _ (heap_alloc_new _ _)); have HB : Hid (Below w'.heap.size w' W) := Lib.hid (by rw [← hW]; exact below_setRow ((Below.refl _ _).alloc (Nat.le_refl _) _) (Nat.le_refl _) _); have hconv := sec_conv W _ c _ HCL.out hr; clear hW))
    go_ret2
    exact ⟨rfl, HB.out⟩
  | false =>
    have HSC : Hid (c = X.saf k) := Lib.hid (by rw [hc]; exact h.ok.same k hk hdir)
    have HDV := Lib.hid hdir
    have HS1 : Hid (lit32.size = (secA []).size) := Lib.hid rfl
    have HI1 := Lib.hid (secA_info [])
    have HO1 := Lib.hid (secA_ones [])
    have HS2 : Hid ((secA []).size = (secA c).size) := Lib.hid (by rw [secA_size, secA_size])
    have HI2 := Lib.hid (secA_info c)
    have HI3 : Hid ((Try.prog.info? 65).map (·.size) = some (secL c).length) := Lib.hid (by rw [secL_len]; exact sec_size)
    have HO2 := Lib.hid (secA_ones c)
    have c0 := h.c0
    have hk1 : (k : Int) < (X.n : Int) := by omega
    clear h hk hown hD hc hdir
    go_enter Try.func23, Try.ntmps23
    go_wp2_with fail
    refine (HC.out _ HH.out).mono ?_
    rintro e w' ⟨rfl, rfl⟩
    rw [HD.out]
    go_wp2_with (first
      | (at_lookup; refine wpList_sec_ok rfl _ _ rfl M D X rfl HDD.out HM.out k HK.out H140.out rfl ?_; rw [HDV.out, if_neg Bool.false_ne_true])
      | (refine wpList_store_row rfl _ _ _ rfl _ (secA []) rfl rfl _ _ (heap_alloc_new _ _) HI1.out HS1.out HO1.out ?_; generalize hW : World.setRow _ _ _ = W; have hr : W.heap[w'.heap.size]? = some (.cells (secA []) 65 (0, 0)) := (by rw [← hW]; exact setRow_heap _ _ _ _ _ _ (heap_alloc_new _ _)); have HB : Hid (Below w'.heap.size w' W) := Lib.hid (by rw [← hW]; exact below_setRow ((Below.refl _ _).alloc (Nat.le_refl _) _) (Nat.le_refl _) _); have HR := Lib.hid hr; clear hW hr; have HX : Hid (DskIn W d L M X) := Lib.hid (HH.out.below HB.out); have c0' := HX.out.c0; have HRG : Hid (W.rangeAt L (k * 32) (secL c)) := Lib.hid (by rw [HSC.out]; exact HX.out.cells k HK.out))
      | (refine wpList_load_mid rfl _ _ rfl L (k * 32) rfl (secL c) _ HRG.out Try.underlying65 rfl HI3.out ?_)
      | (refine wpList_store_row rfl _ _ _ rfl _ (secA c) rfl rfl _ _ HR.out HI2.out HS2.out HO2.out ?_; generalize hW : World.setRow _ _ _ = W2; have hr : W2.heap[w'.heap.size]? = some (.cells (secA c) 65 (0, 0)) := (by rw [← hW]; exact setRow_heap _ _ _ _ _ _ HR.out); have HB2 : Hid (Below w'.heap.size w' W2) := Lib.hid (by rw [← hW]; exact below_setRow HB.out (Nat.le_refl _) _); have hconv := sec_conv W2 _ c _ HCL.out hr; clear hW))
    go_ret2
    exact ⟨rfl, HB2.out⟩
end Go.Proofs.Ytjnbnkaocoamlaa
