/-
  The walk of 'packtrainkeep.DiskSyncs'.
-/
import Derived.Test.YtjnbnkaocoamlaaDabs
import Derived.Test.YtjnbnkaocoamlaaSpin
namespace Go.Proofs.Ytjnbnkaocoamlaa
open Go.RowKit

theorem allL_len (X : Dsk) : (allL X).length = 8 := by simp [allL]
theorem allL_congr {X Y : Dsk} (h : ∀ i, X.cur i = Y.cur i) : allL X = allL Y := by unfold allL; simp only [h]
/-- All of a disk, as a row of cells. -/
theorem all_row {w : World} {base : Nat} {v : Value} {X : Dsk} (h : ownsS w base v (allL X)) : ∃ g cap, v = .slice (some ⟨g, 0, none⟩) 8 cap ∧ base ≤ g ∧ g < w.heap.size ∧ ∀ j, j < 8 → w.cell? ⟨g, j, none⟩ = some (.string ((allL X).getD j ByteArray.empty)) := by
  rcases h.forms with ⟨_, h0⟩ | ⟨g, cap, rfl, hb, hg, hc⟩
  · have := allL_len X; rw [h0] at this; cases this
  · rw [allL_len] at hc
    exact ⟨g, cap, by rw [allL_len], hb, hg, hc⟩
set_option maxRecDepth 100000 in
set_option maxHeartbeats 2000000 in
theorem diskSyncs_walk (w : World) (v : Value) (l : List DabA) (hv : IsDabAs w v l) (_ : l.length ≤ 9223372036854775807) (_ : ∀ t ∈ l, DabAOk t) (mask : Int) (h0 : 0 ≤ mask) (h1 : mask ≤ 18446744073709551615) :
    Calls Try.prog 4 #[v, .int .u64 mask] w fun e w' => e = .returned (.bool true) ∧ Below w.heap.size w w' := by
  obtain ⟨m, rfl⟩ : ∃ m : Nat, mask = m := ⟨mask.toNat, by omega⟩
  have HV := Lib.hid hv
  have hm : m < 18446744073709551616 := by omega
  clear hv h0 h1
  go_enter Try.func4, Try.ntmps4
  go_wp2_with fail
  refine (spinning_any w).mono ?_
  rintro r w1 ⟨rfl, hb1⟩
  have HB1 := Lib.hid hb1
  clear hb1
  go_wp2_with fail
  refine (light_any v l w1 (HV.out.below HB1.out)).mono ?_
  rintro r w2 ⟨⟨rfl, hlt⟩ | ⟨rfl, _⟩, hb2⟩
  · have HB2 := Lib.hid (HB1.out.trans (hb2.mono HB1.out.size))
    have HLT := Lib.hid hlt
    clear hb2 hlt
    go_wp2_with fail
    refine (spun_any v l w2 (HV.out.below HB2.out) (by have := HLT.out.1; omega)).mono ?_
    rintro r w3 ⟨d, L, M, rfl, hd3, hb3, hd, hL, hM⟩
    have HD3 := Lib.hid hd3
    have HB3 := Lib.hid (HB2.out.trans (hb3.mono HB2.out.size))
    have HLM : Hid (w.heap.size ≤ L ∧ w.heap.size ≤ M) := Lib.hid ⟨Nat.le_trans HB2.out.size hL, Nat.le_trans HB2.out.size hM⟩
    clear hd3 hb3 hd hL hM
    have HN : Hid ((spunD l).n = 8) := Lib.hid (spunD_n l)
    generalize hX : spunD l = X at HD3 HN
    clear hX
    go_wp2_with fail
    refine (all_any d L M X w3 HD3.out HN.out).mono ?_
    rintro r w4 ⟨u, rfl, ho4, hb4⟩
    obtain ⟨g, cap, rfl, hbg, hg4, hc4⟩ := all_row ho4
    have HD4 := Lib.hid (HD3.out.below hb4)
    have HB4 := Lib.hid (HB3.out.trans (hb4.mono HB3.out.size))
    have HC4 := Lib.hid hc4
    have HG4 : Hid (w3.heap.size ≤ g ∧ g < w4.heap.size ∧ L < w3.heap.size ∧ M < w3.heap.size) := Lib.hid ⟨hbg, hg4, HD3.out.lL, HD3.out.lM⟩
    clear ho4 hb4 hbg hg4 hc4
    go_wp2_with fail
    refine (sync_any d L M X w4 HD4.out).mono ?_
    rintro r w5 ⟨rfl, hd5, hb5⟩
    have HD5 := Lib.hid hd5
    have HB5 := Lib.hid (on_disk HB4.out hb5 HLM.out.1 HLM.out.2)
    have HC5 : Hid (∀ j, j < 8 → w5.cell? ⟨g, j, none⟩ = some (.string ((allL X).getD j ByteArray.empty))) := Lib.hid (fun j hj => (cell_disk hb5 HG4.out.2.1 (by have := HG4.out; omega) (by have := HG4.out; omega) j).trans (HC4.out j hj))
    have HS5 : Hid (g < w5.heap.size) := Lib.hid (Nat.lt_of_lt_of_le HG4.out.2.1 hb5.size)
    clear hd5 hb5
    go_wp2_with fail
    refine (dirty_any d L M _ w5 HD5.out).mono ?_
    rintro r w6 ⟨vd, rfl, hrow, hnil, hb6⟩
    obtain rfl := hnil.2 (dirty_sync X)
    have HD6 := Lib.hid (HD5.out.below hb6)
    have HB6 := Lib.hid (HB5.out.trans (hb6.mono HB5.out.size))
    have HC6 : Hid (∀ j, j < 8 → w6.cell? ⟨g, j, none⟩ = some (.string ((allL X).getD j ByteArray.empty))) := Lib.hid (fun j hj => (hb6.cell (p := ⟨g, j, none⟩) HS5.out).trans (HC5.out j hj))
    have HS6 : Hid (g < w6.heap.size) := Lib.hid (Nat.lt_of_lt_of_le HS5.out hb6.size)
    clear hrow hnil hb6
    go_wp2_with fail
    refine (crash_any d L M _ m w6 HD6.out hm).mono ?_
    rintro r w7 ⟨rfl, hd7, hb7⟩
    have HD7 := Lib.hid hd7
    have HB7 := Lib.hid (on_disk HB6.out hb7 HLM.out.1 HLM.out.2)
    have HC7 : Hid (∀ j, j < 8 → w7.cell? ⟨g, j, none⟩ = some (.string ((allL X).getD j ByteArray.empty))) := Lib.hid (fun j hj => (cell_disk hb7 HS6.out (by have := HG4.out; omega) (by have := HG4.out; omega) j).trans (HC6.out j hj))
    have HS7 : Hid (g < w7.heap.size) := Lib.hid (Nat.lt_of_lt_of_le HS6.out hb7.size)
    clear hd7 hb7
    go_wp2_with fail
    refine (all_any d L M _ w7 HD7.out HN.out).mono ?_
    rintro r w8 ⟨u2, rfl, ho8, hb8⟩
    have hal : allL (dCrash (dSync X) m) = allL X := allL_congr (fun i => sync_lasts X m i)
    obtain ⟨g2, cap2, rfl, _, hg8, hc8⟩ := all_row ho8
    rw [hal] at hc8
    have HB8 := Lib.hid (HB7.out.trans (hb8.mono HB7.out.size))
    have HC8 : Hid (∀ j, j < 8 → w8.cell? ⟨g, j, none⟩ = some (.string ((allL X).getD j ByteArray.empty))) := Lib.hid (fun j hj => (hb8.cell (p := ⟨g, j, none⟩) HS7.out).trans (HC7.out j hj))
    have HC9 := Lib.hid hc8
    clear ho8 hb8 hal hg8 hc8
    go_wp2_with fail
    refine (Try.slices_Equal_string g 0 8 cap g2 0 8 cap2 (allL X) (allL X) w8 (by rw [allL_len]; exact Nat.le_refl _) (by rw [allL_len]; exact Nat.le_refl _) (by decide) (by decide) (fun j hj => by rw [allL_len] at hj; rw [Nat.zero_add]; exact HC8.out j hj) (fun j hj => by rw [allL_len] at hj; rw [Nat.zero_add]; exact HC9.out j hj)).mono ?_
    rintro r w9 ⟨rfl, q, rfl⟩
    have HT : Hid (decide (List.take 8 (allL X) = List.take 8 (allL X)) = true) := Lib.hid (decide_eq_true rfl)
    rw [HT.out]
    go_wp2_with fail
    go_ret
    exact ⟨rfl, below_drewN HB8.out q⟩
  · have HB2 := Lib.hid (HB1.out.trans (hb2.mono HB1.out.size))
    go_wp2_with fail
    go_ret
    exact ⟨rfl, HB2.out⟩
end Go.Proofs.Ytjnbnkaocoamlaa
