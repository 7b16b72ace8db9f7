/-
  The laws' fact 'taken': pieces that come.
-/
import Derived.Test.YtjnbnkaocoamlabDoorRcvLaw
import Derived.Test.YtjnbnkaocoamlabDoorTell
namespace Go.Proofs.YtjnbnkaocoamlabDoor
open Go.RowKit

theorem chk_at {w : World} {g : Nat} {s : ByteArray} {z n i : Nat} (h : ∀ i t, (cutK s z n)[i]? = some t → w.cell? ⟨g, i * 4, none⟩ = some (.int .u32 t.nm) ∧ w.cell? ⟨g, i * 4 + 1, none⟩ = some (.int .i64 t.tot) ∧ w.cell? ⟨g, i * 4 + 2, none⟩ = some (.int .i64 t.pos) ∧ w.cell? ⟨g, i * 4 + 3, none⟩ = some (.string t.dat)) (hi : i < n) :
    w.cell? ⟨g, i * 4, none⟩ = some (.int .u32 (piece s z i).nm) ∧ w.cell? ⟨g, i * 4 + 1, none⟩ = some (.int .i64 (piece s z i).tot) ∧ w.cell? ⟨g, i * 4 + 2, none⟩ = some (.int .i64 (piece s z i).pos) ∧ w.cell? ⟨g, i * 4 + 3, none⟩ = some (.string (piece s z i).dat) :=
  h i _ (cutK_at s z n i hi)
/-- The cells of all pieces of a text. -/
def PiecesAt (w : World) (g : Nat) (s : ByteArray) (z n : Nat) : Prop := g < w.heap.size ∧ ∀ i, i < n → w.cell? ⟨g, i * 4, none⟩ = some (.int .u32 (piece s z i).nm) ∧ w.cell? ⟨g, i * 4 + 1, none⟩ = some (.int .i64 (piece s z i).tot) ∧ w.cell? ⟨g, i * 4 + 2, none⟩ = some (.int .i64 (piece s z i).pos) ∧ w.cell? ⟨g, i * 4 + 3, none⟩ = some (.string (piece s z i).dat)
theorem PiecesAt.but {w w' : World} {F : Nat → Prop} {g : Nat} {s : ByteArray} {z n : Nat} (h : PiecesAt w g s z n) (hb : But F w w') (hg : ¬ F g) : PiecesAt w' g s z n :=
  ⟨Nat.lt_of_lt_of_le h.1 hb.size, fun i hi => by
    obtain ⟨a, b, c, d⟩ := h.2 i hi
    exact ⟨(hb.cell (p := ⟨g, i * 4, none⟩) h.1 hg).trans a, (hb.cell (p := ⟨g, i * 4 + 1, none⟩) h.1 hg).trans b, (hb.cell (p := ⟨g, i * 4 + 2, none⟩) h.1 hg).trans c, (hb.cell (p := ⟨g, i * 4 + 3, none⟩) h.1 hg).trans d⟩⟩
theorem PiecesAt.below {w w' : World} {g : Nat} {s : ByteArray} {z n : Nat} (h : PiecesAt w g s z n) (hb : Below w.heap.size w w') : PiecesAt w' g s z n := h.but (F := fun _ => False) (But.of_below hb) id
theorem pieces_of {w : World} {base : Nat} {v : Value} {s : ByteArray} {z n : Nat} (h : ownsC w base v (cutK s z n)) (hn : 0 < n) : ∃ g cap, v = .slice (some ⟨g, 0, none⟩) n cap ∧ PiecesAt w g s z n := by
  obtain ⟨g, cap, e, hg, hc⟩ := h.cells (by rw [cutK_len]; exact hn)
  rw [cutK_len] at e
  exact ⟨g, cap, e, hg, fun i hi => chk_at hc hi⟩

set_option maxRecDepth 100000 in
set_option maxHeartbeats 4000000 in
theorem taken_any (w : World) (hg : errT w) :
    Calls Tryd.prog 4 #[] w fun e w' => e = .returned (.bool true) ∧ Below w.heap.size w w' := by
  obtain ⟨S, hS⟩ : ∃ S : ByteArray, (⟨#[97, 98, 99, 100, 101]⟩ : ByteArray) = S := ⟨_, rfl⟩
  have hSz : S.size = 5 := by rw [← hS]; rfl
  have hN : cutN S.size 2 = 3 := by rw [hSz]; rfl
  obtain ⟨T2, t2a, t2b, t2c, t2d⟩ := piece_ok S 2 2 (by omega) (by omega) (by decide) (by decide)
  obtain ⟨T0, t0a, t0b, t0c, t0d⟩ := piece_ok S 2 0 (by omega) (by omega) (by decide) (by decide)
  have HG := Lib.hid hg
  have HCUT := Lib.hid (cut_ok S 2 w (by omega) (by omega) (by decide) (by decide))
  rw [hN] at HCUT
  have HW2 := Lib.hid (fun W => cwrite_ok (piece S 2 2) T2 W t2d (piece_right S 2 2 (by omega) (by omega) (by decide) (by decide)) t2a)
  have HW0 := Lib.hid (fun W => cwrite_ok (piece S 2 0) T0 W t0d (piece_right S 2 0 (by omega) (by omega) (by decide) (by decide)) t0a)
  have H2 : Hid (T2.size ≤ 300 ∧ creadF T2.data.toList = (piece S 2 2, 0)) := Lib.hid ⟨t2b, t2c⟩
  have H0 : Hid (T0.size ≤ 300 ∧ creadF T0.data.toList = (piece S 2 0, 0)) := Lib.hid ⟨t0b, t0c⟩
  have HSZ := Lib.hid hSz
  clear hg hSz hN t2a t2b t2c t2d t0a t0b t0c t0d
  go_enter Tryd.func4, Tryd.ntmps4
  rw [hS]
  clear hS
  go_wp2_with fail
  refine HCUT.out.mono ?_
  rintro r w1 ⟨v, rfl, ho, hb⟩
  obtain ⟨g, cap, rfl, hp⟩ := pieces_of ho (by decide)
  have HP := Lib.hid hp
  have HB := Lib.hid hb
  clear ho hp hb HCUT
  go_wp2_with fail
  refine (rnew_any w1).mono ?_
  rintro q w2 ⟨r, F, rfl, hr, hb, hF⟩
  have HR := Lib.hid hr
  have HP2 := Lib.hid (HP.out.below hb)
  have HB2 := Lib.hid (HB.out.trans (hb.mono HB.out.size))
  have HF : Hid (∀ k, F k → w1.heap.size ≤ k) := Lib.hid hF
  have HGL : Hid (g < w1.heap.size) := Lib.hid HP.out.1
  have HLW : Hid (w.heap.size ≤ w1.heap.size) := Lib.hid HB.out.size
  clear hr hb hF HP HB
  go_wp2_with fail
  have HW0' := HW0
  unfold chkV at HW2 HW0
  have HBC : Hid ((w2.alloc (.cells #[.int .i64 2, .int .i64 0] 3)).cell? ⟨w2.heap.size, 0, none⟩ = some (.int .i64 2) ∧ (w2.alloc (.cells #[.int .i64 2, .int .i64 0] 3)).cell? ⟨w2.heap.size, 1, none⟩ = some (.int .i64 0)) := Lib.hid ⟨(cell_of_row _ _ _ _ _ _ (heap_alloc_new w2 _)).trans rfl, (cell_of_row _ _ _ _ _ _ (heap_alloc_new w2 _)).trans rfl⟩
  have HBL : Hid (w2.heap.size < (w2.alloc (.cells #[.int .i64 2, .int .i64 0] 3)).heap.size) := Lib.hid (Array.getElem?_eq_some_iff.1 (heap_alloc_new w2 _)).1
  have HSEP : Hid (∀ k, F k → ¬ (k = w2.heap.size ∨ k = g)) := Lib.hid (fun k hk hx => by
    have h1 := HR.out.lt k hk
    have h2 := HF.out k hk
    have h3 := HGL.out
    rcases hx with e | e <;> omega)
  have HFW : Hid (∀ k, F k → w.heap.size ≤ k) := Lib.hid (fun k hk => Nat.le_trans HLW.out (HF.out k hk))
  have HR := Lib.hid (HR.out.alloc (.cells #[.int .i64 2, .int .i64 0] 3))
  have HP := Lib.hid (HP2.out.below ((Below.refl _ _).alloc (Nat.le_refl _) (.cells #[.int .i64 2, .int .i64 0] 3)))
  have HB := Lib.hid (HB2.out.alloc HB2.out.size (.cells #[.int .i64 2, .int .i64 0] 3))
  clear HP2 HB2 HF HGL HW0'
  generalize w2.alloc (.cells #[.int .i64 2, .int .i64 0] 3) = w3 at HBC HBL HR HP HB ⊢
  generalize w2.heap.size = B at HBC HBL HSEP ⊢
  refine wp_loop_rounds 3 ?_
  obtain ⟨p0, p1, p2, p3⟩ := (show w3.cell? ⟨g, 8, none⟩ = some (.int .u32 (piece S 2 2).nm) ∧ w3.cell? ⟨g, 8 + 1, none⟩ = some (.int .i64 (piece S 2 2).tot) ∧ w3.cell? ⟨g, 8 + 2, none⟩ = some (.int .i64 (piece S 2 2).pos) ∧ w3.cell? ⟨g, 8 + 3, none⟩ = some (.string (piece S 2 2).dat) from HP.out.2 2 (by decide))
  have b0 : w3.cell? ⟨B, 0, none⟩ = some (.int .i64 2) := HBC.out.1
  rw [rounds_succ]
  go_wp2_with fail
  refine (HW2.out _).mono ?_
  rintro q wa ⟨rfl, hba⟩
  have HR := Lib.hid (HR.out.below hba)
  have HP := Lib.hid (HP.out.below hba)
  have HB := Lib.hid (HB.out.trans (hba.mono HB.out.size))
  have HBC : Hid (wa.cell? ⟨B, 0, none⟩ = some (.int .i64 2) ∧ wa.cell? ⟨B, 1, none⟩ = some (.int .i64 0)) := Lib.hid ⟨(hba.cell (p := ⟨B, 0, none⟩) HBL.out).trans HBC.out.1, (hba.cell (p := ⟨B, 1, none⟩) HBL.out).trans HBC.out.2⟩
  have HBL : Hid (B < wa.heap.size) := Lib.hid (Nat.lt_of_lt_of_le HBL.out hba.size)
  have HLWA : Hid (w.heap.size ≤ wa.heap.size) := Lib.hid HB.out.size
  clear hba p0 p1 p2 p3 b0
  go_wp2_with fail
  refine (tookAt r F _ S T2 _ 2 2 wa HR.out (partO_new S) (by rw [HSZ.out]; decide) H2.out.1 H2.out.2).mono ?_
  rintro q wb ⟨F1, rfl, hr, hb, hF⟩
  have hnB : ¬ F B := fun h => HSEP.out B h (.inl rfl)
  have hng : ¬ F g := fun h => HSEP.out g h (.inr rfl)
  have HSEP : Hid (∀ k, F1 k → ¬ (k = B ∨ k = g)) := Lib.hid (fun k hk hx => by
    rcases hF k hk with h | h
    · exact HSEP.out k h hx
    · have := HBL.out; have := HP.out.1; rcases hx with e | e <;> omega)
  have HR := Lib.hid hr
  have HB := Lib.hid (But.on HB.out hb HB.out.size HFW.out)
  have HFW : Hid (∀ k, F1 k → w.heap.size ≤ k) := Lib.hid (fun k hk => by
    rcases hF k hk with h | h
    · exact HFW.out k h
    · have := HLWA.out; omega)
  have HP := Lib.hid (HP.out.but hb hng)
  have HBC : Hid (wb.cell? ⟨B, 0, none⟩ = some (.int .i64 2) ∧ wb.cell? ⟨B, 1, none⟩ = some (.int .i64 0)) := Lib.hid ⟨(hb.cell (p := ⟨B, 0, none⟩) HBL.out hnB).trans HBC.out.1, (hb.cell (p := ⟨B, 1, none⟩) HBL.out hnB).trans HBC.out.2⟩
  have HBL : Hid (B < wb.heap.size) := Lib.hid (Nat.lt_of_lt_of_le HBL.out hb.size)
  clear hr hb hF hnB hng
  go_wp2_with fail
  have HP1 : Hid (PartO S _ _) := Lib.hid (.inl ((partO_new S).took (z := 2) (k := 2) (by rw [HSZ.out]; decide)))
  obtain ⟨p0, p1, p2, p3⟩ := (show wb.cell? ⟨g, 0, none⟩ = some (.int .u32 (piece S 2 0).nm) ∧ wb.cell? ⟨g, 0 + 1, none⟩ = some (.int .i64 (piece S 2 0).tot) ∧ wb.cell? ⟨g, 0 + 2, none⟩ = some (.int .i64 (piece S 2 0).pos) ∧ wb.cell? ⟨g, 0 + 3, none⟩ = some (.string (piece S 2 0).dat) from HP.out.2 0 (by decide))
  have b0 : wb.cell? ⟨B, 1, none⟩ = some (.int .i64 0) := HBC.out.2
  rw [rounds_succ]
  go_wp2_with fail
  refine (HW0.out _).mono ?_
  rintro q wc ⟨rfl, hba⟩
  have HR := Lib.hid (HR.out.below hba)
  have HP := Lib.hid (HP.out.below hba)
  have HB := Lib.hid (HB.out.trans (hba.mono HB.out.size))
  have HBC : Hid (wc.cell? ⟨B, 0, none⟩ = some (.int .i64 2) ∧ wc.cell? ⟨B, 1, none⟩ = some (.int .i64 0)) := Lib.hid ⟨(hba.cell (p := ⟨B, 0, none⟩) HBL.out).trans HBC.out.1, (hba.cell (p := ⟨B, 1, none⟩) HBL.out).trans HBC.out.2⟩
  have HBL : Hid (B < wc.heap.size) := Lib.hid (Nat.lt_of_lt_of_le HBL.out hba.size)
  have HLWA : Hid (w.heap.size ≤ wc.heap.size) := Lib.hid HB.out.size
  clear hba p0 p1 p2 p3 b0
  go_wp2_with fail
  refine (tookAt r F1 _ S T0 _ 2 0 wc HR.out HP1.out (by rw [HSZ.out]; decide) H0.out.1 H0.out.2).mono ?_
  rintro q wd ⟨F2, rfl, hr, hb, hF⟩
  have hnB : ¬ F1 B := fun h => HSEP.out B h (.inl rfl)
  have hng : ¬ F1 g := fun h => HSEP.out g h (.inr rfl)
  have HSEP : Hid (∀ k, F2 k → ¬ (k = B ∨ k = g)) := Lib.hid (fun k hk hx => by
    rcases hF k hk with h | h
    · exact HSEP.out k h hx
    · have := HBL.out; have := HP.out.1; rcases hx with e | e <;> omega)
  have HR := Lib.hid hr
  have HB := Lib.hid (But.on HB.out hb HB.out.size HFW.out)
  have HFW : Hid (∀ k, F2 k → w.heap.size ≤ k) := Lib.hid (fun k hk => by
    rcases hF k hk with h | h
    · exact HFW.out k h
    · have := HLWA.out; omega)
  have HP := Lib.hid (HP.out.but hb hng)
  have HBC : Hid (wd.cell? ⟨B, 0, none⟩ = some (.int .i64 2) ∧ wd.cell? ⟨B, 1, none⟩ = some (.int .i64 0)) := Lib.hid ⟨(hb.cell (p := ⟨B, 0, none⟩) HBL.out hnB).trans HBC.out.1, (hb.cell (p := ⟨B, 1, none⟩) HBL.out hnB).trans HBC.out.2⟩
  have HBL : Hid (B < wd.heap.size) := Lib.hid (Nat.lt_of_lt_of_le HBL.out hb.size)
  clear hr hb hF hnB hng
  go_wp2_with fail
  have HPT := Lib.hid (HP1.out.took (z := 2) (k := 0) (by rw [HSZ.out]; decide))
  have HOF : Hid (offR (tookR (tookR rNew S 2 2) S 2 0) = 2) := Lib.hid (part_off HPT.out (by rw [HSZ.out]; decide) (fun i hi => .inr ⟨by omega, by omega⟩) (fun _ h => by rcases h with (h | h) | h; exact h; omega; omega))
  have HTV : Hid (textV (tookR (tookR rNew S 2 2) S 2 0) = .tuple #[.string ⟨#[]⟩, .iface 43 (.int .i64 7)]) := Lib.hid (by
    have e := part_missing HPT.out (by rw [HSZ.out]; decide) (m := 2) (by rw [HSZ.out]; decide) (fun i hi => .inr ⟨by omega, by omega⟩) (fun h => by rcases h with (h | h) | h; exact h; omega; omega)
    unfold textV
    rw [e]; rfl)
  rw [rounds_succ]
  go_wp2_with fail
  refine (textAt r F2 _ wd HR.out).mono ?_
  rintro q we ⟨rfl, hbe⟩
  rw [HTV.out]
  have HR := Lib.hid (HR.out.below hbe)
  have HB := Lib.hid (HB.out.trans (hbe.mono HB.out.size))
  clear hbe
  go_wp2_with fail
  refine (offerAt r F2 _ we HR.out).mono ?_
  rintro q wf ⟨rfl, rfl⟩
  rw [HOF.out]
  go_wp2_with fail
  refine (tell_err _ 7 wf (HG.out.below HB.out) (.inl rfl)).mono ?_
  rintro q wh ⟨rfl, hbh⟩
  have HR := Lib.hid (HR.out.below hbh)
  have HB := Lib.hid (HB.out.trans (hbh.mono HB.out.size))
  clear hbh
  go_wp2_with fail
  refine (safeAt r F2 _ wh HR.out).mono ?_
  rintro q wi ⟨rfl, rfl⟩
  have HSF : Hid (((tookR (tookR rNew S 2 2) S 2 0).safe : Int) = 0) := Lib.hid rfl
  rw [HSF.out]
  go_wp2_with fail
  go_ret
  exact ⟨rfl, HB.out⟩
end Go.Proofs.YtjnbnkaocoamlabDoor
