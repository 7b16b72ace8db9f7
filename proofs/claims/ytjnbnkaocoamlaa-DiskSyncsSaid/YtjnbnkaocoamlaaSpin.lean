/-
  The laws' fact 'spinning': sectors.
-/
import Derived.Test.YtjnbnkaocoamlaaDskCrash
import Derived.Test.YtjnbnkaocoamlaaDskNew
import Derived.Test.YtjnbnkaocoamlaaShelf
namespace Go.Proofs.Ytjnbnkaocoamlaa
open Go.RowKit

def spX1 : Dsk := dPut (dNew 3) 2 [97, 98]
def spX2 : Dsk := dPut spX1 0 [99]
def spX3 : Dsk := dCrash spX2 2
theorem spX_facts : dirtyL spX2 = [0, 2] ∧ spX3.cur 2 = padD [97, 98] ∧ spX3.cur 0 = padD [] ∧ dirtyL spX3 = [] ∧ spX3.n = 3 ∧ spX2.n = 3 ∧ spX1.n = 3 := by decide +kernel

theorem info_u8s : (Try.prog.info? 5).map (fun i => (i.zero, i.size, i.bytes)) = some (some (.int .u8 0), 1, 1) := by kernel_rfl
theorem run_make_u8 (w : World) :
    (Instr.makeSlice 33 (.int .i64 32) (.int .i64 32)).run Try.prog w = .ok (.slice (some ⟨w.heap.size, 0, none⟩) 32 32) (w.alloc (.cells (secA (padD [])) 5)) := by
  cases hq : Try.prog.info? 5 with
  | none => have := info_u8s; rw [hq] at this; cases this
  | some i0 =>
    have h3 := info_u8s
    rw [hq] at h3
    simp only [Option.map_some, Option.some.injEq, Prod.mk.injEq] at h3
    obtain ⟨hz0, hz1, hz2⟩ := h3
    have h := run_makeSlice (P := Try.prog) w 33 5 i0 (.int .u8 0) Try.underlying33 hq hz0 .i64 .i64 32 32 (by omega) (Int.le_refl _) (by rw [hz1]; decide) (by rw [hz2]; decide) (by omega)
    have e : madeCells (Value.int .u8 0).cells (Int.toNat 32 * 1) = secA (padD []) := by kernel_rfl
    rw [h, hz1, e]
    rfl
set_option maxRecDepth 100000 in
set_option maxHeartbeats 2000000 in
theorem spinning_any (w : World) :
    Calls Try.prog 6 #[] w fun e w' => e = .returned (.bool true) ∧ Below w.heap.size w w' := by
  have HFX := Lib.hid spX_facts
  go_enter Try.func6, Try.ntmps6
  go_wp2_with fail
  refine (new_good 3 w (by decide)).mono ?_
  rintro r w1 ⟨d, L, M, rfl, hD, hB, hd, hL, hM⟩
  have HD1 := Lib.hid hD
  have HB1 := Lib.hid hB
  have HF : Hid (w.heap.size ≤ d ∧ w.heap.size ≤ L ∧ w.heap.size ≤ M) := Lib.hid ⟨hd, hL, hM⟩
  have HLM : Hid (w.heap.size ≤ L ∧ w.heap.size ≤ M) := Lib.hid ⟨hL, hM⟩
  clear hD hB hd hL hM
  go_wp2_with fail
  refine (dwrite_any d L M _ 2 ⟨#[97, 98]⟩ w1 HD1.out).mono ?_
  rintro r w2 ⟨rfl, hd2, hb2⟩
  have HE2 : Hid (errV (dwE (dNew 3).n 2 (⟨#[97, 98]⟩ : ByteArray).data.toList.length) = .nilIface) := Lib.hid rfl
  rw [HE2.out]
  have HD2 : Hid (DskIn w2 d L M spX1) := Lib.hid hd2
  have HB2 := Lib.hid (on_disk HB1.out hb2 HLM.out.1 HLM.out.2)
  clear hd2 hb2
  go_wp2_with fail
  refine (dwrite_any d L M _ 0 ⟨#[99]⟩ w2 HD2.out).mono ?_
  rintro r w3 ⟨rfl, hd3, hb3⟩
  have HE3 : Hid (errV (dwE spX1.n 0 (⟨#[99]⟩ : ByteArray).data.toList.length) = .nilIface) := Lib.hid (by rw [HFX.out.2.2.2.2.2.2]; rfl)
  rw [HE3.out]
  have HD3 : Hid (DskIn w3 d L M spX2) := Lib.hid hd3
  have HB3 := Lib.hid (on_disk HB2.out hb3 HLM.out.1 HLM.out.2)
  clear hd3 hb3
  go_wp2_with fail
  refine (dirty_any d L M _ w3 HD3.out).mono ?_
  rintro r w4 ⟨v, rfl, hrow, hnil, hb4⟩
  rw [HFX.out.1] at hrow hnil
  rcases hrow.2 with ⟨rfl, hz⟩ | ⟨g, cap, cur, rfl, hbase, hgb, r1, r2, r3, r4⟩
  · cases hz
  have hc0 : w4.cell? ⟨g, 0, none⟩ = some (.int .i64 0) := by
    rw [cell_of_row _ _ _ _ _ _ hgb]
    have h1 : (cur.toList.take (2 * 1))[0]? = ((dirtyI spX2).map encZ)[0]? := by rw [← r4]; rfl
    rw [List.getElem?_take_of_lt (by omega), Array.getElem?_toList] at h1
    rw [h1, dirtyI, HFX.out.1]; rfl
  have hc1 : w4.cell? ⟨g, 1, none⟩ = some (.int .i64 2) := by
    rw [cell_of_row _ _ _ _ _ _ hgb]
    have h1 : (cur.toList.take (2 * 1))[1]? = ((dirtyI spX2).map encZ)[1]? := by rw [← r4]; rfl
    rw [List.getElem?_take_of_lt (by omega), Array.getElem?_toList] at h1
    rw [h1, dirtyI, HFX.out.1]; rfl
  have HD4 := Lib.hid (HD3.out.below hb4)
  have HB4 := Lib.hid (HB3.out.trans (hb4.mono HB3.out.size))
  have HG4 : Hid (w3.heap.size ≤ g ∧ g < w4.heap.size) := Lib.hid ⟨hbase, (Array.getElem?_eq_some_iff.1 hgb).1⟩
  have HGL : Hid (L < w3.heap.size ∧ M < w3.heap.size) := Lib.hid ⟨HD3.out.lL, HD3.out.lM⟩
  have HC0 := Lib.hid hc0
  have HC1 := Lib.hid hc1
  clear hrow hnil hgb r1 r2 r3 r4 hb4 hc0 hc1 hbase
  go_wp2_with fail
  refine (crash_any d L M _ 2 w4 HD4.out (by decide)).mono ?_
  rintro r w5 ⟨rfl, hd5, hb5⟩
  have HC0 : Hid (w5.cell? ⟨g, 0, none⟩ = some (.int .i64 0)) := Lib.hid ((cell_disk hb5 HG4.out.2 (by have := HG4.out; have := HGL.out; omega) (by have := HG4.out; have := HGL.out; omega) 0).trans HC0.out)
  have HC1 : Hid (w5.cell? ⟨g, 1, none⟩ = some (.int .i64 2)) := Lib.hid ((cell_disk hb5 HG4.out.2 (by have := HG4.out; have := HGL.out; omega) (by have := HG4.out; have := HGL.out; omega) 1).trans HC1.out)
  have HD5 : Hid (DskIn w5 d L M spX3) := Lib.hid hd5
  have HB5 := Lib.hid (on_disk HB4.out hb5 HLM.out.1 HLM.out.2)
  have HG5 : Hid (g < w5.heap.size) := Lib.hid (Nat.lt_of_lt_of_le HG4.out.2 hb5.size)
  clear hd5 hb5
  go_wp2_with fail
  refine (dread_ok d L M _ 2 w5 HD5.out (by rw [HFX.out.2.2.2.2.1]; decide)).mono ?_
  rintro r w6 ⟨rfl, hb6⟩
  rw [HFX.out.2.1]
  have HD6 := Lib.hid (HD5.out.below hb6)
  have HB6 := Lib.hid (HB5.out.trans (hb6.mono HB5.out.size))
  have HC0 := Lib.hid ((hb6.cell (p := ⟨g, 0, none⟩) HG5.out).trans HC0.out)
  have HC1 := Lib.hid ((hb6.cell (p := ⟨g, 1, none⟩) HG5.out).trans HC1.out)
  have HG6 : Hid (g < w6.heap.size) := Lib.hid (Nat.lt_of_lt_of_le HG5.out hb6.size)
  clear hb6
  generalize hA : (⟨(padD [97, 98]).toArray⟩ : ByteArray) = A
  have HA := Lib.hid hA
  clear hA
  go_wp2_with fail
  refine (dread_ok d L M _ 0 w6 HD6.out (by rw [HFX.out.2.2.2.2.1]; decide)).mono ?_
  rintro r w7 ⟨rfl, hb7⟩
  rw [HFX.out.2.2.1]
  have HD7 := Lib.hid (HD6.out.below hb7)
  have HB7 := Lib.hid (HB6.out.trans (hb7.mono HB6.out.size))
  have HC0 := Lib.hid ((hb7.cell (p := ⟨g, 0, none⟩) HG6.out).trans HC0.out)
  have HC1 := Lib.hid ((hb7.cell (p := ⟨g, 1, none⟩) HG6.out).trans HC1.out)
  have HG7 : Hid (g < w7.heap.size) := Lib.hid (Nat.lt_of_lt_of_le HG6.out hb7.size)
  clear hb7
  generalize hZ : (⟨(padD []).toArray⟩ : ByteArray) = Z
  have HZ := Lib.hid hZ
  clear hZ
  go_wp2_with fail
  have hq1 : ∀ j, j < [(0 : Int), 2].length → (w7.alloc (.cells #[.int .i64 0, .int .i64 2] 3)).cell? ⟨g, 0 + j, none⟩ = some (.int .i64 (List.getD [(0 : Int), 2] j 0)) := fun j hj => by
    rw [World.cell?_alloc_lt _ _ _ HG7.out, Nat.zero_add]
    match j, hj with
    | 0, _ => exact HC0.out
    | 1, _ => exact HC1.out
  have hq2 : ∀ j, j < [(0 : Int), 2].length → (w7.alloc (.cells #[.int .i64 0, .int .i64 2] 3)).cell? ⟨w7.heap.size, 0 + j, none⟩ = some (.int .i64 (List.getD [(0 : Int), 2] j 0)) := fun j hj => by
    rw [Nat.zero_add, cell_of_row _ _ _ _ _ _ (heap_alloc_new w7 _)]
    match j, hj with
    | 0, _ => rfl
    | 1, _ => rfl
  refine (Try.slices_Equal_int g 0 2 cap w7.heap.size 0 2 2 [0, 2] [0, 2] _ (Nat.le_refl _) (Nat.le_refl _) (by decide) (by decide) hq1 hq2).mono ?_
  rintro r w8 ⟨rfl, q, rfl⟩
  have HT : Hid ((List.take 2 [(0 : Int), 2] == List.take 2 [0, 2]) = true) := Lib.hid rfl
  rw [HT.out]
  have HB8 : Hid (Below w.heap.size w ((w7.alloc (.cells #[.int .i64 0, .int .i64 2] 3)).drewN q)) := Lib.hid (below_drewN (HB7.out.alloc HB7.out.size _) q)
  have HD8 : Hid (DskIn ((w7.alloc (.cells #[.int .i64 0, .int .i64 2] 3)).drewN q) d L M spX3) := Lib.hid (HD7.out.below (below_drewN ((Below.refl _ _).alloc (Nat.le_refl _) _) q))
  clear hq1 hq2
  generalize (w7.alloc (.cells #[.int .i64 0, .int .i64 2] 3)).drewN q = w8 at HB8 HD8 ⊢
  go_wp2_with fail
  refine (Try.strings_HasPrefix A _ w8).mono ?_
  rintro r w9 ⟨rfl, rfl⟩
  have HPR : Hid (Lib.hasPrefix A.data.toList (⟨#[97, 98]⟩ : ByteArray).data.toList = true) := Lib.hid (by rw [← HA.out]; decide +kernel)
  rw [HPR.out]
  have hmk := run_make_u8 w9
  have hconv := sec_conv (w9.alloc (.cells (secA (padD [])) 5)) w9.heap.size (padD []) _ (by decide) (heap_alloc_new w9 _)
  rw [HZ.out] at hconv
  have HDA := Lib.hid (HD8.out.alloc (.cells (secA (padD [])) 5))
  have HBA := Lib.hid (HB8.out.alloc HB8.out.size (.cells (secA (padD [])) 5))
  go_wp2_with fail
  refine (dirty_any d L M _ _ HDA.out).mono ?_
  rintro r w10 ⟨v, rfl, hrow, hnil, hb10⟩
  obtain rfl := hnil.2 HFX.out.2.2.2.1
  have HB10 := Lib.hid (HBA.out.trans (hb10.mono HBA.out.size))
  clear hrow hnil hb10 hmk hconv
  go_wp2_with fail
  go_ret
  exact ⟨rfl, HB10.out⟩
end Go.Proofs.Ytjnbnkaocoamlaa
