/-
  The walk of 'packtrainlaw.OldReads'.
-/
import Derived.Test.YtjkbmfpomgcblaaGreatDoorKr38
import Derived.Test.YtjkbmfpomgcblaaGreatDoorKr07
import Derived.Test.YtjkbmfpomgcblaaGreatDoorKr09
namespace Go.Proofs.YtjkbmfpomgcblaaGreatDoor
open Go.RowKit

set_option maxRecDepth 100000 in
set_option maxHeartbeats 4000000 in
theorem oldReads_walk (s : ByteArray) (hs0 : s.size ≤ 140737488351232) (w : World) (hg : errT w) :
    Calls Tryz.prog 7 #[.string s] w fun e w' => e = .returned (.bool true) ∧ Below w.heap.size w w' := by
  have HG := Lib.hid hg
  clear hg
  by_cases hbig : 2000 < s.size
  · have d1 : (2000 : Int) < (s.size : Int) := by omega
    go_enter Tryz.func7, Tryz.ntmps7
    go_wp2
    go_ret
    exact ⟨rfl, Below.refl _ _⟩
  have d1 : (s.size : Int) ≤ 2000 := by omega
  have HS : Hid (s.size ≤ 400000) := Lib.hid (by omega)
  obtain ⟨x, pl, f, h, l, hr⟩ := oOut_any (oldF s.data.toList)
  have HR := Lib.hid hr
  clear hr
  obtain ⟨nf, hnf⟩ : ∃ nf, nf = f.length := ⟨_, rfl⟩
  obtain ⟨nh, hnh⟩ : ∃ nh, nh = h.length := ⟨_, rfl⟩
  obtain ⟨n, hn⟩ : ∃ n, n = l.length := ⟨_, rfl⟩
  have HU : Hid (∀ w, Calls Tryz.prog 32 #[.string s] w fun r w' => ∃ a1 c1 a2 c2 a3 c3, r = .returned (.tuple #[.agg #[.slice a1 nf c1, .slice a2 nh c2, .slice a3 n c3], .agg #[.int .i64 (x : Int), .int .i64 pl]]) ∧ BatIs w' (.slice a1 nf c1) (.slice a2 nh c2) (.slice a3 n c3) f h l ∧ Below w.heap.size w w') := Lib.hid (fun w => by
    rw [hnf, hnh, hn]
    refine (rold_as s w HS.out).mono ?_
    intro r w' hq
    obtain ⟨a1, c1, a2, c2, a3, c3, h1, h2, h3⟩ := hq x pl f h l HR.out
    exact ⟨a1, c1, a2, c2, a3, c3, h1, h2.bat, h3⟩)
  have HRD : Hid (∀ w, errT w → Calls Tryz.prog 33 #[.string s] w fun r w' => ∃ a1 c1 a2 c2 a3 c3 err, r = .returned (.tuple #[.agg #[.slice a1 nf c1, .slice a2 nh c2, .slice a3 n c3], err]) ∧ BatIs w' (.slice a1 nf c1) (.slice a2 nh c2) (.slice a3 n c3) f h l ∧ anyErr w' err (x, pl) ∧ Below w.heap.size w w') := Lib.hid (fun w hg => by
    rw [hnf, hnh, hn]
    exact (oread_any s w HS.out hg).mono (fun r w' hq => rdIs_as hq HR.out))
  clear hnf hnh hn hs0 hbig
  go_enter Tryz.func7, Tryz.ntmps7
  go_wp2_with fail
  refine (HU.out _).mono ?_
  rintro r w1 ⟨a1, c1, a2, c2, a3, c3, rfl, hx1, hb1⟩
  have HX1 := Lib.hid ((hx1.alloc (.cells #[.slice a1 nf c1, .slice a2 nh c2, .slice a3 n c3] 25)).alloc (.cells #[.int .i64 (x : Int), .int .i64 pl] 46))
  have HB1 : Hid (Below w.heap.size w ((w1.alloc (.cells #[.slice a1 nf c1, .slice a2 nh c2, .slice a3 n c3] 25)).alloc (.cells #[.int .i64 (x : Int), .int .i64 pl] 46))) := Lib.hid ((hb1.alloc hb1.size _).alloc (by have := hb1.size; simp; omega) _)
  have HA1 := Lib.hid ((batAt_new w1 (.slice a1 nf c1) (.slice a2 nh c2) (.slice a3 n c3) 25).below ((Below.refl _ _).alloc (Nat.le_refl _) (.cells #[.int .i64 (x : Int), .int .i64 pl] 46)) (by simp))
  have HF1 : Hid (rowF ((w1.alloc (.cells #[.slice a1 nf c1, .slice a2 nh c2, .slice a3 n c3] 25)).alloc (.cells #[.int .i64 (x : Int), .int .i64 pl] 46)) (w1.heap.size + 1) (x : Int) pl) := Lib.hid (heap_alloc2_new w1 _ _)
  have HZ1 : Hid (w1.heap.size + 1 < ((w1.alloc (.cells #[.slice a1 nf c1, .slice a2 nh c2, .slice a3 n c3] 25)).alloc (.cells #[.int .i64 (x : Int), .int .i64 pl] 46)).heap.size) := Lib.hid (by simp)
  clear hx1 hb1
  go_wp2_with fail
  refine (HRD.out _ (HG.out.below HB1.out)).mono ?_
  generalize (w1.alloc (.cells #[.slice a1 nf c1, .slice a2 nh c2, .slice a3 n c3] 25)).alloc (.cells #[.int .i64 (x : Int), .int .i64 pl] 46) = W at HX1 HB1 HA1 HF1 HZ1 ⊢
  rintro r w2 ⟨e1, d1', e2, d2', e3, d3', err, rfl, hx2, hat, hb2⟩
  have HX2 := Lib.hid (hx2.alloc (.cells #[.slice e1 nf d1', .slice e2 nh d2', .slice e3 n d3'] 25))
  have HE2 : Hid (Below W.heap.size W (w2.alloc (.cells #[.slice e1 nf d1', .slice e2 nh d2', .slice e3 n d3'] 25))) := Lib.hid (hb2.alloc hb2.size _)
  have HAT := Lib.hid (hat.below (w' := w2.alloc (.cells #[.slice e1 nf d1', .slice e2 nh d2', .slice e3 n d3'] 25)) ((Below.refl _ _).alloc (Nat.le_refl _) _))
  have HA2 := Lib.hid (batAt_new w2 (.slice e1 nf d1') (.slice e2 nh d2') (.slice e3 n d3') 25)
  have HZ2 : Hid (w2.heap.size < (w2.alloc (.cells #[.slice e1 nf d1', .slice e2 nh d2', .slice e3 n d3'] 25)).heap.size) := Lib.hid (by simp)
  have HX1b := Lib.hid (HX1.out.below HE2.out)
  have HA1b := Lib.hid (HA1.out.below HE2.out (by have := HZ1.out; omega))
  have HF1b := Lib.hid (rowF.below HF1.out HE2.out HZ1.out)
  have HB2 : Hid (Below w.heap.size w (w2.alloc (.cells #[.slice e1 nf d1', .slice e2 nh d2', .slice e3 n d3'] 25))) := HB1.out.trans (HE2.out.mono HB1.out.size)
  have HZ1b : Hid (w1.heap.size + 1 < (w2.alloc (.cells #[.slice e1 nf d1', .slice e2 nh d2', .slice e3 n d3'] 25)).heap.size) := Lib.hid (Nat.lt_of_lt_of_le HZ1.out HE2.out.size)
  clear hx2 hat hb2 HX1 HA1 HF1 HB1 HE2
  obtain ⟨g0, g1⟩ := HF1b.out.at
  go_wp2_with fail
  refine (placed_ok _ x pl _ (HG.out.below HB2.out) HAT.out.place).mono ?_
  generalize w2.alloc (.cells #[.slice e1 nf d1', .slice e2 nh d2', .slice e3 n d3'] 25) = W2 at HX2 HAT HA2 HZ2 HX1b HA1b HF1b HB2 HZ1b g0 g1 ⊢
  rintro r w3 ⟨rfl, hb3⟩
  have HB3 : Hid (Below w.heap.size w w3) := HB2.out.trans (hb3.mono HB2.out.size)
  have HX13 := Lib.hid (HX1b.out.below hb3)
  have HX23 := Lib.hid (HX2.out.below hb3)
  obtain ⟨p0, p1, p2⟩ := HA1b.out.below hb3 (by have := HZ1b.out; omega)
  obtain ⟨q0, q1, q2⟩ := HA2.out.below hb3 HZ2.out
  clear hb3 g0 g1
  go_wp2_with fail
  refine (rbsame_as _ _ _ _ _ _ f h l f h l true w3 HX13.out HX23.out (sameV_self f h l)).mono ?_
  rintro r w4 ⟨rfl, hb4⟩
  have HB4 : Hid (Below w.heap.size w w4) := HB3.out.trans (hb4.mono HB3.out.size)
  clear hb4
  go_wp2
  go_ret
  exact ⟨rfl, HB4.out⟩
end Go.Proofs.YtjkbmfpomgcblaaGreatDoor
