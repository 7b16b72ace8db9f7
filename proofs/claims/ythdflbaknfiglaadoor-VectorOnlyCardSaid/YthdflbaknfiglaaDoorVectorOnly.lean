/-
  The walk of 'packtrainkeep.VectorOnly'.
-/
import Derived.Test.YthdflbaknfiglaaDoorVecFact
import Derived.Test.YthdflbaknfiglaaDoorVecReadAs
namespace Go.Proofs.YthdflbaknfiglaaDoor
open Go.RowKit

set_option maxRecDepth 100000 in
set_option maxHeartbeats 4000000 in
theorem vectorOnly_walk (s : ByteArray) (_ : s.size ≤ maxLen) (w : World) (hg : errT w) :
    Calls Tryd.prog 8 #[.string s] w fun e w' => e = .returned (.bool true) ∧ Below w.heap.size w w' := by
  have HG := Lib.hid hg
  clear hg
  by_cases h500 : s.size ≤ 500
  · have d1 : (s.size : Int) ≤ 500 := by omega
    rcases vread_cases s.data.toList with ⟨e, hv, he⟩ | ⟨n, l, hv⟩
    · have HV := Lib.hid hv
      have HNE := Lib.hid he
      clear hv he
      go_enter Tryd.func8, Tryd.ntmps8
      go_wp2_with fail
      refine (known_any _ HG.out).mono ?_
      rintro r w1 ⟨rfl, hb1⟩
      have HB1 := Lib.hid hb1
      clear hb1
      go_wp2_with fail
      refine (vread_err s e _ (by omega) (HG.out.below HB1.out) HV.out HNE.out).mono ?_
      rintro r w2 ⟨v, rfl, hi, hb2⟩
      obtain ⟨a, c, rfl, _⟩ := hi.form
      have HB2 : Hid (Below w.heap.size w w2) := HB1.out.trans (hb2.mono HB1.out.size)
      clear hb2 hi
      go_wp2
      go_ret
      exact ⟨by first | rfl | simp, HB2.out⟩
    · obtain ⟨hr, hn1, hn2, hw⟩ := vread_only hv
      have hns : n ≤ s.size := by rw [size_data]; exact hn2
      have hns' : (n : Int) ≤ (s.size : Int) := by omega
      have hn1' : (1 : Int) ≤ (n : Int) := by omega
      have hn0' : (0 : Int) ≤ (n : Int) := by omega
      have HW : Hid (vwriteL l = (s.extract 0 n).data.toList) := Lib.hid (show vwriteL l = (s.extract 0 n).data.toList by rw [hw, ext_data, List.drop_zero])
      have HV := Lib.hid hv
      have HR := Lib.hid hr
      have HR0 := Lib.hid ((vright_ok l).2 hr)
      have HL : Hid (l.length ≤ 9223372036854775807) := Lib.hid (show l.length ≤ 9223372036854775807 by have := hr.1; omega)
      clear hr hn2 hw hv
      go_enter Tryd.func8, Tryd.ntmps8
      go_wp2_with fail
      refine (known_any _ HG.out).mono ?_
      rintro r w1 ⟨rfl, hb1⟩
      have HB1 := Lib.hid hb1
      clear hb1
      go_wp2_with fail
      refine (vread_good s n l _ (by omega) (HG.out.below HB1.out) HV.out).mono ?_
      rintro r w2 ⟨v, rfl, hi, hb2⟩
      have HI := Lib.hid hi
      have HB2 : Hid (Below w.heap.size w w2) := HB1.out.trans (hb2.mono HB1.out.size)
      clear hb2 hi
      go_wp2_with fail
      refine (vwrite_good v l (s.extract 0 n) _ HI.out HL.out HR.out HW.out).mono ?_
      rintro r w3 ⟨rfl, hb3⟩
      have HI3 := Lib.hid (HI.out.below hb3)
      have HB3 : Hid (Below w.heap.size w w3) := HB2.out.trans (hb3.mono HB2.out.size)
      clear hb3
      go_wp2_with fail
      refine (vright_any v l _ HI3.out HL.out).mono ?_
      rintro r w4 ⟨err, rfl, hat, hb4⟩
      obtain rfl := hat.nil HR0.out
      have HB4 : Hid (Below w.heap.size w w4) := HB3.out.trans (hb4.mono HB3.out.size)
      clear hb4 hat
      go_wp2
      go_ret
      exact ⟨by first | rfl | simp, HB4.out⟩
  · have d1 : 500 < (s.size : Int) := by omega
    go_enter Tryd.func8, Tryd.ntmps8
    go_wp2_with fail
    refine (known_any _ HG.out).mono ?_
    rintro r w1 ⟨rfl, hb1⟩
    have HB1 := Lib.hid hb1
    clear hb1
    go_wp2
    go_ret
    exact ⟨rfl, HB1.out⟩
end Go.Proofs.YthdflbaknfiglaaDoor
