/-
  The contract of (*recv.Receiver).Text.
-/
import Derived.Test.YtjnbnkaocoamlabDoorRcvOff
import Derived.Test.YtjnbnkaocoamlabDoorCrcMore
import Derived.Deep.RegionHeld3
import Derived.Laws.IdiomStrings
namespace Go.Proofs.YtjnbnkaocoamlabDoor
open Go.RowKit

def textV (X : Rcv) : Value := .tuple #[.string (if textE X = 0 then ⟨(textR X).toArray⟩ else ⟨#[]⟩), errV (textE X)]
theorem text_conv (W : World) (B : Nat) (X : Rcv) (t : TypeId) (h : W.heap[B]? = some (.cells (dataC X.came X.tot) t (0, 0))) :
    (convert 53 9 (.slice (some ⟨B, 0, none⟩) X.tot X.tot)).run Tryd.prog W = .ok (.string ⟨(textR X).toArray⟩) W := by
  have hl : (textR X).length = X.tot := by simp [textR]
  have := run_convert_bytes_back (P := Tryd.prog) W 53 9 5 ⟨B, 0, none⟩ X.tot (textR X) Tryd.underlying53 Tryd.underlying5 Tryd.underlying9 (fun j hj => by
    have hadd : (⟨B, 0, none⟩ : Addr).add j = ⟨B, j, none⟩ := by unfold Addr.add; split <;> simp_all
    rw [hadd, cell_of_row _ _ _ _ _ _ h, dataC_at _ (by omega)]
    simp [textR])
  rw [hl] at this
  exact this
set_option maxRecDepth 100000 in
set_option maxHeartbeats 2000000 in
theorem text_any (r d L M DB TB : Nat) (vd vt : Value) (X : Rcv) (w : World) (h : RcvIn w r d L M DB TB vd vt X) :
    Calls Tryd.prog 13 #[.pointer (some ⟨r, 0, none⟩)] w fun e w' => e = .returned (textV X) ∧ Below w.heap.size w w' := by
  have HH := Lib.hid h
  have HOF := Lib.hid (fun W h => offer_any r d L M DB TB vd vt X W h)
  have c1 := h.c1
  have c2 := h.c2
  have hle := offR_le h.none_
  have ht := h.tot
  by_cases h0 : X.tot = 0
  · have HV : Hid (textV X = .tuple #[.string ⟨#[]⟩, .iface 43 (.int .i64 8)]) := Lib.hid (by
      have e : textE X = 8 := by unfold textE; rw [if_pos h0]
      unfold textV
      rw [e]; rfl)
    have HC : Hid (decide (0 < X.tot) = false) := Lib.hid (decide_eq_false (by omega))
    rw [HV.out]
    clear h hle ht c1 c2 h0
    go_enter Tryd.func13, Tryd.ntmps13
    go_wp2_with fail
    refine (came_any r d L M DB TB vd vt X w HH.out).mono ?_
    rintro e w' ⟨rfl, rfl⟩
    rw [HC.out]
    go_wp2_with fail
    go_ret2
    exact ⟨rfl, Below.refl _ _⟩
  · have HC : Hid (decide (0 < X.tot) = true) := Lib.hid (decide_eq_true (by omega))
    rcases h.rows with ⟨h1, _, _⟩ | ⟨_, rfl, _, h3, _⟩
    · exact absurd h1 h0
    have H3 := Lib.hid h3
    obtain ⟨k, hk⟩ : ∃ k, k = offR X := ⟨_, rfl⟩
    obtain ⟨n, hn⟩ : ∃ n, n = X.tot := ⟨_, rfl⟩
    rw [← hk, ← hn] at hle
    rw [← hn] at ht c2
    by_cases hlt : k < n
    · have HV : Hid (textV X = .tuple #[.string ⟨#[]⟩, .iface 43 (.int .i64 7)]) := Lib.hid (by
        have e : textE X = 7 := by unfold textE; rw [if_neg h0, if_pos (by omega)]
        unfold textV
        rw [e]; rfl)
      rw [HV.out]
      have HK := Lib.hid hk
      have hkn : (k : Int) < (n : Int) := by omega
      clear h h3 h0 hk hn c1 hlt
      go_enter Tryd.func13, Tryd.ntmps13
      go_wp2_with fail
      refine (came_any r d L M DB TB _ vt X w HH.out).mono ?_
      rintro e w' ⟨rfl, rfl⟩
      rw [HC.out]
      go_wp2_with fail
      have HOF2 : Hid (∀ W, RcvIn W r d L M DB TB (.slice (some ⟨DB, 0, none⟩) X.tot X.tot) vt X → Calls Tryd.prog 12 #[.pointer (some ⟨r, 0, none⟩)] W fun e w' => e = .returned (.int .i64 (k : Int)) ∧ w' = W) := Lib.hid (fun W h => by rw [HK.out]; exact HOF.out W h)
      go_region_held3 (fun w2 => w2.cell? ⟨r, 2, none⟩ = some (.slice (some ⟨DB, 0, none⟩) n n)) (first | exact c2) (first | (go_at_call 12; ((with_reducible refine (HOF2.out _ (HH.out.below (Below.refl _ _).drew)).mono ?_); rintro r w2 ⟨rfl, rfl⟩)) | fail)
      go_wp2_with fail
      go_ret2
      exact ⟨rfl, (Below.refl _ _).drew⟩
    · obtain rfl : k = n := by omega
      obtain ⟨S, hS⟩ : ∃ S : ByteArray, S = ⟨(textR X).toArray⟩ := ⟨_, rfl⟩
      have hSd : S.data.toList = textR X := by rw [hS]
      have hSz : S.size = k := by rw [hS, hn]; show (textR X).toArray.size = X.tot; simp [textR]
      obtain ⟨sm, hsm⟩ : ∃ sm, sm = sum S.data.toList := ⟨_, rfl⟩
      have HSM : Hid (∀ W, Calls Tryd.prog 17 #[.string S] W fun e w' => e = .returned (.int .u32 (sm : Int)) ∧ W = w') := Lib.hid (fun W => by rw [hsm]; exact sum_any S W (by unfold maxLen; omega))
      have HCV : Hid (∀ W, RcvIn W r d L M DB TB (.slice (some ⟨DB, 0, none⟩) X.tot X.tot) vt X → (convert 53 9 (.slice (some ⟨DB, 0, none⟩) k k)).run Tryd.prog W = .ok (.string S) W) := Lib.hid (fun W hW => by
        rcases hW.rows with ⟨h1, _, _⟩ | ⟨_, _, _, h3, _⟩
        · exact absurd h1 h0
        · rw [hn, hS]; exact text_conv W DB X _ h3)
      have HK : Hid (∀ W, RcvIn W r d L M DB TB (.slice (some ⟨DB, 0, none⟩) X.tot X.tot) vt X → Calls Tryd.prog 12 #[.pointer (some ⟨r, 0, none⟩)] W fun e w' => e = .returned (.int .i64 (k : Int)) ∧ w' = W) := Lib.hid (fun W h => by rw [hk]; exact HOF.out W h)
      have HTE : Hid (textE X = if sm ≠ X.nm then 15 else 0) := Lib.hid (by unfold textE; rw [if_neg h0, if_neg (by omega), hsm, hSd])
      have HTV : Hid (textV X = .tuple #[.string (if textE X = 0 then S else ⟨#[]⟩), errV (textE X)]) := Lib.hid (by unfold textV; rw [hS])
      have hconv := HCV.out w.drew (HH.out.below (Below.refl _ _).drew)
      have hkk : ¬ (k : Int) < (k : Int) := by omega
      clear h h3 H3 h0 hk hn hS hSd hSz hsm hlt hle ht
      by_cases hnm : sm = X.nm
      · have HV : Hid (textV X = .tuple #[.string S, .nilIface]) := Lib.hid (by rw [HTV.out, HTE.out, if_neg (show ¬ sm ≠ X.nm from fun h => h hnm)]; rfl)
        rw [HV.out]
        have hne : ((sm : Int) != (X.nm : Int)) = false := by rw [hnm]; simp
        clear hnm
        go_enter Tryd.func13, Tryd.ntmps13
        go_wp2_with fail
        refine (came_any r d L M DB TB _ vt X w HH.out).mono ?_
        rintro e w' ⟨rfl, rfl⟩
        rw [HC.out]
        go_wp2_with fail
        go_region_held3 (fun w2 => w2.cell? ⟨r, 2, none⟩ = some (.slice (some ⟨DB, 0, none⟩) k k)) (first | exact c2) (first | (go_at_call 12; ((with_reducible refine (HK.out _ (HH.out.below (Below.refl _ _).drew)).mono ?_); rintro r w2 ⟨rfl, rfl⟩)) | fail)
        go_wp2_with fail
        go_region_held3 (fun w2 => w2.cell? ⟨r, 1, none⟩ = some (.int .u32 (X.nm : Int))) (first | exact c1) (first | (go_at_call 17; ((with_reducible refine (HSM.out _).mono ?_); rintro r w2 ⟨rfl, rfl⟩)) | fail)
        go_wp2_with fail
        go_ret2
        exact ⟨rfl, (Below.refl _ _).drew.drew⟩
      · have HV : Hid (textV X = .tuple #[.string ⟨#[]⟩, .iface 43 (.int .i64 15)]) := Lib.hid (by rw [HTV.out, HTE.out, if_pos (show sm ≠ X.nm from hnm)]; rfl)
        rw [HV.out]
        have hne : ((sm : Int) != (X.nm : Int)) = true := by simp; omega
        clear hnm
        go_enter Tryd.func13, Tryd.ntmps13
        go_wp2_with fail
        refine (came_any r d L M DB TB _ vt X w HH.out).mono ?_
        rintro e w' ⟨rfl, rfl⟩
        rw [HC.out]
        go_wp2_with fail
        go_region_held3 (fun w2 => w2.cell? ⟨r, 2, none⟩ = some (.slice (some ⟨DB, 0, none⟩) k k)) (first | exact c2) (first | (go_at_call 12; ((with_reducible refine (HK.out _ (HH.out.below (Below.refl _ _).drew)).mono ?_); rintro r w2 ⟨rfl, rfl⟩)) | fail)
        go_wp2_with fail
        go_region_held3 (fun w2 => w2.cell? ⟨r, 1, none⟩ = some (.int .u32 (X.nm : Int))) (first | exact c1) (first | (go_at_call 17; ((with_reducible refine (HSM.out _).mono ?_); rintro r w2 ⟨rfl, rfl⟩)) | fail)
        go_wp2_with fail
        go_ret2
        exact ⟨rfl, (Below.refl _ _).drew.drew⟩
end Go.Proofs.YtjnbnkaocoamlabDoor
