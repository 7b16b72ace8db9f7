/-
  The fact that the laws ask first: 'pieced'.
-/
import Derived.Test.YtjnbnkaocoamlabDoorChkFill
import Derived.Test.YtjnbnkaocoamlabDoorChkCut
import Derived.BigQuiet
import Derived.Deep.QuietTactic
namespace Go.Proofs.YtjnbnkaocoamlabDoor
open Go.RowKit

theorem cread_l (s : ByteArray) (c : Chk) (e : Nat) (w : World) (hs : s.size ≤ 1000000) (h : creadF s.data.toList = (c, e)) :
    Calls Tryd.prog 16 #[.string s] w fun r w' => r = .returned (.tuple #[chkV c, errV e]) ∧ Below w.heap.size w w' := by
  have h1 := cread_any s w hs
  rw [h] at h1
  exact h1
/-- The bytes of a piece that is right: no more than so many, and the first one. -/
theorem cwr_facts (c : Chk) (h : crE c.tot c.pos c.dat.size = 0) : ∃ T : ByteArray, cwrL c = T.data.toList ∧ T.size = 9 + (putL c.tot.toNat).length + (putL c.pos.toNat).length + c.dat.size ∧ T.size ≤ 300 ∧ T.data.toList.head? = some 67 := by
  have hr := crE_ok.1 h
  refine ⟨⟨(cwrL c).toArray⟩, by simp, ?_, ?_, ?_⟩
  · rw [bs_size']
    unfold cwrL pieceL sealL
    simp [tail4_len]
    omega
  · rw [bs_size']
    have h1 := put_small (n := c.tot.toNat) (by omega)
    have h2 := put_small (n := c.pos.toNat) (by omega)
    unfold cwrL pieceL sealL
    simp [tail4_len]
    omega
  · unfold cwrL pieceL sealL
    simp

set_option maxRecDepth 100000 in
set_option maxHeartbeats 2000000 in
theorem pieced_any (w : World) :
    Calls Tryd.prog 5 #[] w fun e w' => e = .returned (.bool true) ∧ Below w.heap.size w w' := by
  obtain ⟨S, hS⟩ : ∃ S : ByteArray, (⟨#[97, 98, 99, 100, 101]⟩ : ByteArray) = S := ⟨_, rfl⟩
  obtain ⟨E, hE⟩ : ∃ S : ByteArray, (⟨#[101]⟩ : ByteArray) = S := ⟨_, rfl⟩
  obtain ⟨K, hK⟩ : ∃ K, sum S.data.toList = K := ⟨_, rfl⟩
  have hSz : S.size = 5 := by rw [← hS]; rfl
  have hN : cutN S.size 2 = 3 := by rw [hSz]; rfl
  have hE2 : S.extract 4 5 = E := by rw [← hS, ← hE]; decide
  have p2 : (cutK S 2 3)[2]? = some ⟨K, 5, 4, E⟩ := by
    rw [cutK_at _ _ _ _ (by decide)]; unfold piece; rw [hK, hSz]; exact congrArg (fun e => some (⟨K, 5, 4, e⟩ : Chk)) hE2
  obtain ⟨D, p0⟩ : ∃ D, (cutK S 2 3)[0]? = some ⟨K, 5, 0, D⟩ := ⟨S.extract 0 2, by
    rw [cutK_at _ _ _ _ (by decide)]; unfold piece; rw [hK, hSz]; rfl⟩
  have hKl : K < 4294967296 := by rw [← hK]; exact sum_lt _
  have hr : crE 5 4 E.size = 0 := by rw [← hE]; decide
  have hok : ChkOk ⟨K, 5, 4, E⟩ := ⟨hKl, by show -9223372036854775808 ≤ (5 : Int); decide, by show (5 : Int) ≤ 9223372036854775807; decide, by show -9223372036854775808 ≤ (4 : Int); decide, by show (4 : Int) ≤ 9223372036854775807; decide, by show E.size ≤ _; rw [← hE]; decide⟩
  obtain ⟨T, hT, hTz, hT3, hT0⟩ := cwr_facts ⟨K, 5, 4, E⟩ hr
  have hTz2 : T.size = 12 := by rw [hTz, ← hE, show (5 : Int).toNat = 5 from rfl, show (4 : Int).toNat = 4 from rfl, putL_small (by decide), putL_small (by decide)]; rfl
  have HC := Lib.hid (fun w' => cut_ok S 2 w' (by omega) (by omega) (by decide) (by decide))
  rw [hN] at HC
  have HWR := Lib.hid (fun w' => cwrite_ok ⟨K, 5, 4, E⟩ T w' hok hr hT)
  have HRD := Lib.hid (fun w' => cread_l T ⟨K, 5, 4, E⟩ 0 w' (by omega) (by rw [← hT]; exact cread_write _ hKl hr))
  unfold chkV at HWR HRD
  simp only at HWR HRD
  have hT1 : ∀ h : 0 < T.size, (T[0]'h).toNat = 67 := fun h => by
    have h1 : T.data.toList[0]? = some 67 := by rw [← List.head?_eq_getElem?]; exact hT0
    have h2 : T.data.toList[0]'(by simp; omega) = 67 := (List.getElem?_eq_some_iff.1 h1).2
    have h3 : (T[0]'h) = T.data.toList[0]'(by simp; omega) := rfl
    rw [h3, h2]; rfl
  have hT2 : (0 : Nat) < T.size := by omega
  have P2 := Lib.hid p2
  have P0 := Lib.hid p0
  have HTZ := Lib.hid hTz2
  have HT1 := Lib.hid hT1
  clear hTz2 hN hE2 p2 p0 hKl hr hok hT hTz hT3 hT0 hSz hK hT1
  go_enter Tryd.func5, Tryd.ntmps5
  rw [hS, hE]
  go_wp2_with fail
  refine (HC.out w).mono ?_
  rintro r w1 ⟨v, rfl, ho, hb1⟩
  have HB1 := Lib.hid hb1
  obtain ⟨g, cap, rfl, hg, hcs⟩ := ho.cells (by rw [cutK_len]; decide)
  rw [cutK_len]
  have HG := Lib.hid hg
  have HCS := Lib.hid hcs
  obtain ⟨c8, c9, c10, c11⟩ := hcs 2 _ P2.out
  simp only [Nat.reduceMul, Nat.reduceAdd] at c8 c9 c10 c11
  clear ho hb1 hg hcs
  go_wp2_with fail
  refine (HWR.out w1).mono ?_
  rintro r w2 ⟨rfl, hb⟩
  have HB2 : Hid (Below w.heap.size w w2) := HB1.out.trans (hb.mono HB1.out.size)
  have HZ2 := Lib.hid hb
  clear hb
  go_wp2_with fail
  refine (HRD.out w2).mono ?_
  rintro r w3 ⟨rfl, hb⟩
  have HB3 : Hid (Below w.heap.size w w3) := HB2.out.trans (hb.mono HB2.out.size)
  have HZ3 : Hid (Below w1.heap.size w1 w3) := HZ2.out.trans (hb.mono HZ2.out.size)
  clear hb c8 c9 c10 c11
  have HZ4 : Hid (Below w1.heap.size w1 (w3.alloc (.cells #[.int .u32 K, .int .i64 5, .int .i64 4, .string E] 34))) := Lib.hid (HZ3.out.alloc HZ3.out.size _)
  have HB4 : Hid (Below w.heap.size w (w3.alloc (.cells #[.int .u32 K, .int .i64 5, .int .i64 4, .string E] 34))) := Lib.hid (HB3.out.alloc HB3.out.size _)
  obtain ⟨d0, d1, d2, d3⟩ := chkAt_new w3 ⟨K, 5, 4, E⟩
  obtain ⟨c8, c9, c10, c11⟩ := HCS.out 2 _ P2.out
  obtain ⟨_, b1, _, _⟩ := HCS.out 0 _ P0.out
  simp only [Nat.reduceMul, Nat.reduceAdd] at c8 c9 c10 c11 b1 d0 d1 d2 d3
  rw [← HZ4.out.cell (p := ⟨g, 8, none⟩) HG.out] at c8
  rw [← HZ4.out.cell (p := ⟨g, 9, none⟩) HG.out] at c9
  rw [← HZ4.out.cell (p := ⟨g, 10, none⟩) HG.out] at c10
  rw [← HZ4.out.cell (p := ⟨g, 11, none⟩) HG.out] at c11
  rw [← HZ4.out.cell (p := ⟨g, 1, none⟩) HG.out] at b1
  have t1 := HT1.out hT2
  have t2 := HTZ.out
  rw [show errV 0 = .nilIface from rfl]
  go_wp2_with fail
  go_quiet (fail)
  go_wp2
  go_ret
  exact ⟨rfl, below_drewN HB4.out _⟩
end Go.Proofs.YtjnbnkaocoamlabDoor
