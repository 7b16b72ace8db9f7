/-
  The walk of 'packtrainlaw.LzWrites'.
-/
import Derived.Test.YtjhmlmcibpjagaaDoorLzWrite
import Derived.Test.YtjhmlmcibpjagaaDoorLzRefWrite
import Derived.Test.YtjhmlmcibpjagaaDoorHeavy
namespace Go.Proofs.YtjhmlmcibpjagaaDoor
open Go.RowKit

set_option maxRecDepth 100000 in
set_option maxHeartbeats 4000000 in
theorem lzWrites_walk (w : World) (a : Option Addr) (len cap : Nat) (l : List Tok) (hv : IsToks w (.slice a len cap) l) (hn : l.length = len) (hc : len ≤ cap) (hm : cap ≤ maxLen) (hz : ∀ t ∈ l, t.own.size ≤ 140737488351232) (hg : errT w) :
    Calls Tryd.prog 3 #[.slice a len cap] w fun e w' => e = .returned (.bool true) ∧ Below w.heap.size w w' := by
  unfold maxLen at hm
  have HV := Lib.hid hv
  have HZ := Lib.hid hz
  have HG := Lib.hid hg
  have HLL : Hid (l.length ≤ 9223372036854775807) := Lib.hid (show l.length ≤ 9223372036854775807 by omega)
  obtain ⟨e, pl, hr⟩ : ∃ e pl, rightF l 0 0 = (e, pl) := ⟨_, _, rfl⟩
  have HR := Lib.hid hr
  have HFV : Hid (faultV (rightF l 0 0) = .agg #[.int .i64 e, .int .i64 pl]) := by
    have h : faultV (rightF l 0 0) = .agg #[.int .i64 e, .int .i64 pl] := by rw [hr]; rfl
    exact h
  obtain ⟨T, hT⟩ : ∃ T : ByteArray, ⟨(writeF l).toArray⟩ = T := ⟨_, rfl⟩
  have HT := Lib.hid hT
  clear hv hz hg hr hn hT
  go_enter Tryd.func3, Tryd.ntmps3
  go_wp2_with fail
  refine (heavy_any _ l _ HV.out HLL.out).mono ?_
  rintro r w1 ⟨b, rfl, hb1⟩
  have HB1 := Lib.hid hb1
  have HV1 := Lib.hid (HV.out.below hb1)
  have HG1 := Lib.hid (HG.out.below hb1)
  clear hb1
  cases b with
  | true =>
    go_wp2
    go_ret
    exact ⟨rfl, HB1.out⟩
  | false =>
    go_wp2_with fail
    refine (rwrite_any _ l _ HV1.out HLL.out HZ.out).mono ?_
    rintro r w2 ⟨rfl, hb2⟩
    rw [HFV.out, HT.out]
    have HB2 : Hid (Below w.heap.size w w2) := HB1.out.trans (hb2.mono HB1.out.size)
    have HV2 := Lib.hid ((HV1.out.below hb2).alloc (.cells #[.int .i64 e, .int .i64 pl] 26))
    have HG2 := Lib.hid ((HG1.out.below hb2).alloc (.cells #[.int .i64 e, .int .i64 pl] 26))
    clear hb2
    go_wp2_with fail
    refine (lzwrite_any _ l _ HV2.out HLL.out HZ.out).mono ?_
    rintro r w3 ⟨err, rfl, hat, hb3⟩
    rw [HT.out]
    rw [HR.out] at hat
    have HP3 := Lib.hid hat.place
    have hlt3 : w2.heap.size < (w2.alloc (.cells #[.int .i64 e, .int .i64 pl] 26)).heap.size := by simp
    have u0 : w3.cell? ⟨w2.heap.size, 0, none⟩ = some (.int .i64 e) := (hb3.cell hlt3).trans (by simp)
    have u1 : w3.cell? ⟨w2.heap.size, 1, none⟩ = some (.int .i64 pl) := (hb3.cell hlt3).trans (by simp)
    have HB3 : Hid (Below w.heap.size w w3) := (HB2.out.alloc HB2.out.size _).trans (hb3.mono (by simp; have := HB2.out.size; omega))
    have HG3 := Lib.hid (HG2.out.below hb3)
    clear hat hb3 hlt3
    go_wp2_with fail
    refine (placed_ok err e pl _ HG3.out HP3.out).mono ?_
    rintro r w4 ⟨rfl, hb4⟩
    have HB4 := Lib.hid (HB3.out.trans (hb4.mono HB3.out.size))
    clear hb4
    go_wp2
    go_ret
    exact ⟨by first | rfl | simp, HB4.out⟩
end Go.Proofs.YtjhmlmcibpjagaaDoor
