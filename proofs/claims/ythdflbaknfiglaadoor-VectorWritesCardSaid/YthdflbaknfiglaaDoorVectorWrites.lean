/-
  The walk of 'packtrainlaw.VectorWrites'.
-/
import Derived.Test.YthdflbaknfiglaaDoorVecRefX
namespace Go.Proofs.YthdflbaknfiglaaDoor
open Go.RowKit

theorem rvwrite_any (v : Value) (l : List Ent) (w : World) (hv : IsEnts w v l) (hl : l.length ≤ 9223372036854775807) :
    Calls Tryd.prog 26 #[v] w (RVWriteIs w l) := by
  by_cases h0 : (vrightF l).1 = 0
  · exact rvwrite_good v l w hv hl h0
  · exact rvwrite_bad v l w hv hl h0

set_option maxRecDepth 100000 in
set_option maxHeartbeats 4000000 in
theorem vectorWrites_walk (w : World) (a : Option Addr) (len cap : Nat) (l : List Ent) (hv : IsEnts w (.slice a len cap) l) (hn : l.length = len) (hc : len ≤ cap) (hm : cap ≤ maxLen) (hg : errT w) :
    Calls Tryd.prog 5 #[.slice a len cap] w fun e w' => e = .returned (.bool true) ∧ Below w.heap.size w w' := by
  unfold maxLen at hm
  have HV := Lib.hid hv
  have HG := Lib.hid hg
  have HLL : Hid (l.length ≤ 9223372036854775807) := Lib.hid (show l.length ≤ 9223372036854775807 by omega)
  obtain ⟨e, pl, hr⟩ : ∃ e pl, vrightF l = (e, pl) := ⟨_, _, rfl⟩
  have HR := Lib.hid hr
  have HFV := Lib.hid (faultV_is hr)
  obtain ⟨T, hT⟩ : ∃ T : ByteArray, ⟨(vwriteF l).toArray⟩ = T := ⟨_, rfl⟩
  have HT := Lib.hid hT
  clear hv hg hr hn hT
  by_cases h100 : len ≤ 100
  · go_enter Tryd.func5, Tryd.ntmps5
    go_wp2_with fail
    refine (rvwrite_any _ l _ HV.out HLL.out).mono ?_
    rintro r w2 ⟨rfl, hb2⟩
    rw [HFV.out, HT.out]
    have HB2 := Lib.hid hb2
    have HV2 := Lib.hid ((HV.out.below hb2).alloc (.cells #[.int .i64 e, .int .i64 pl] 29))
    have HG2 := Lib.hid ((HG.out.below hb2).alloc (.cells #[.int .i64 e, .int .i64 pl] 29))
    clear hb2
    go_wp2_with fail
    refine (vwrite_any _ l _ HV2.out HLL.out).mono ?_
    rintro r w3 ⟨err, rfl, hat, hb3⟩
    rw [HT.out]
    rw [HR.out] at hat
    have HP3 := Lib.hid hat.place
    have hlt3 : w2.heap.size < (w2.alloc (.cells #[.int .i64 e, .int .i64 pl] 29)).heap.size := by simp
    have u0 : w3.cell? ⟨w2.heap.size, 0, none⟩ = some (.int .i64 e) := (hb3.cell hlt3).trans (by simp)
    have u1 : w3.cell? ⟨w2.heap.size, 1, none⟩ = some (.int .i64 pl) := (hb3.cell hlt3).trans (by simp)
    have HB3 : Hid (Below w.heap.size w w3) := (HB2.out.alloc HB2.out.size _).trans (hb3.mono (by simp; have := HB2.out.size; omega))
    have HG3 := Lib.hid (HG2.out.below hb3)
    clear hat hb3 hlt3
    go_wp2_with fail
    refine (placed_ok err e pl _ HG3.out HP3.out).mono ?_
    rintro r w4 ⟨rfl, hb4⟩
    have HB4 := Lib.hid (HB3.out.trans (hb4.mono HB3.out.size))
    clear hb4
    go_wp2
    go_ret
    exact ⟨by first | rfl | simp, HB4.out⟩
  · have d1 : 100 < (len : Int) := by omega
    go_enter Tryd.func5, Tryd.ntmps5
    go_wp2
    go_ret
    exact ⟨rfl, Below.refl _ _⟩
end Go.Proofs.YthdflbaknfiglaaDoor
