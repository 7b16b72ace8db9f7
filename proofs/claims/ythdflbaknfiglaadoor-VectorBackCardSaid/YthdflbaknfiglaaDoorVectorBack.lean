/-
  The walk of 'packtrainkeep.VectorBack'.
-/
import Derived.Test.YthdflbaknfiglaaDoorVecFact
import Derived.Test.YthdflbaknfiglaaDoorVecReadAs
namespace Go.Proofs.YthdflbaknfiglaaDoor
open Go.RowKit

set_option maxRecDepth 100000 in
set_option maxHeartbeats 4000000 in
theorem vectorBack_walk (w : World) (a : Option Addr) (len cap : Nat) (l : List Ent) (hv : IsEnts w (.slice a len cap) l) (hn : l.length = len) (hc : len ≤ cap) (hm : cap ≤ maxLen) (more : ByteArray) (_ : more.size ≤ maxLen) (hg : errT w) :
    Calls Tryd.prog 7 #[.slice a len cap, .string more] w fun e w' => e = .returned (.bool true) ∧ Below w.heap.size w w' := by
  have HV := Lib.hid hv
  have HL : Hid (l.length ≤ 9223372036854775807) := Lib.hid (show l.length ≤ 9223372036854775807 by unfold maxLen at hm; omega)
  have HN := Lib.hid hn
  have HG := Lib.hid hg
  clear hv hm hg hn hc
  by_cases h60 : len ≤ 60
  · by_cases h100 : more.size ≤ 100
    · have d1 : (len : Int) ≤ 60 := by omega
      have d2 : (more.size : Int) ≤ 100 := by omega
      by_cases h0 : (vrightF l).1 = 0
      · have hr := (vright_ok l).1 h0
        have hwl := (vwrite_len hr).1
        obtain ⟨T, hT⟩ : ∃ T : ByteArray, ⟨(vwriteL l).toArray⟩ = T := ⟨_, rfl⟩
        have hTd : vwriteL l = T.data.toList := by rw [← hT]
        have hTs : T.size ≤ 500 := by rw [size_data, ← hTd]; exact hwl
        have HRD : Hid (vreadF (T ++ more).data.toList = (0, T.size, l)) := Lib.hid (show vreadF (T ++ more).data.toList = (0, T.size, l) by
          rw [app_data, ← hTd, vread_write hr, hTd, size_data])
        have HTD := Lib.hid hTd
        have HR := Lib.hid hr
        have H0 := Lib.hid h0
        have HTM : Hid ((T ++ more).size ≤ 1000000) := Lib.hid (show (T ++ more).size ≤ 1000000 by rw [app_size]; omega)
        clear hr hwl hT hTd h0
        go_enter Tryd.func7, Tryd.ntmps7
        go_wp2_with fail
        refine (known_any _ HG.out).mono ?_
        rintro r w1 ⟨rfl, hb1⟩
        have HB1 := Lib.hid hb1
        clear hb1
        go_wp2_with fail
        refine (vwrite_good _ l T _ (HV.out.below HB1.out) HL.out HR.out HTD.out).mono ?_
        rintro r w2 ⟨rfl, hb2⟩
        have HB2 : Hid (Below w.heap.size w w2) := HB1.out.trans (hb2.mono HB1.out.size)
        clear hb2
        go_wp2_with fail
        refine (vright_any _ l _ (HV.out.below HB2.out) HL.out).mono ?_
        rintro r w3 ⟨err, rfl, hat, hb3⟩
        obtain rfl := hat.nil H0.out
        have HB3 : Hid (Below w.heap.size w w3) := HB2.out.trans (hb3.mono HB2.out.size)
        clear hb3 hat
        go_wp2_with fail
        refine (vread_good (T ++ more) T.size l _ HTM.out (HG.out.below HB3.out) HRD.out).mono ?_
        rintro r w4 ⟨v, rfl, hi, hb4⟩
        have HI := Lib.hid hi
        have HB4 : Hid (Below w.heap.size w w4) := HB3.out.trans (hb4.mono HB3.out.size)
        clear hb4 hi
        go_wp2_with fail
        refine (equal_same _ v l _ (HV.out.below HB4.out) HI.out (by have := HN.out; omega)).mono ?_
        rintro r w' ⟨rfl, q, rfl⟩
        go_wp2
        go_ret
        exact ⟨by first | rfl | simp, below_drewN HB4.out q⟩
      · have H0 := Lib.hid h0
        have HW : Hid ((⟨(vwriteF l).toArray⟩ : ByteArray) = ⟨#[]⟩) := Lib.hid (show (⟨(vwriteF l).toArray⟩ : ByteArray) = ⟨#[]⟩ by unfold vwriteF; rw [if_neg h0])
        clear h0
        go_enter Tryd.func7, Tryd.ntmps7
        go_wp2_with fail
        refine (known_any _ HG.out).mono ?_
        rintro r w1 ⟨rfl, hb1⟩
        have HB1 := Lib.hid hb1
        clear hb1
        go_wp2_with fail
        refine (vwrite_any _ l _ (HV.out.below HB1.out) HL.out).mono ?_
        rintro r w2 ⟨err, rfl, hat, hb2⟩
        rw [HW.out]
        obtain ⟨t, u, rfl⟩ := hat.iface H0.out
        have HB2 : Hid (Below w.heap.size w w2) := HB1.out.trans (hb2.mono HB1.out.size)
        clear hb2 hat
        go_wp2_with fail
        refine (vright_any _ l _ (HV.out.below HB2.out) HL.out).mono ?_
        rintro r w3 ⟨err, rfl, hat, hb3⟩
        obtain ⟨t2, u2, rfl⟩ := hat.iface H0.out
        have HB3 : Hid (Below w.heap.size w w3) := HB2.out.trans (hb3.mono HB2.out.size)
        clear hb3 hat
        go_wp2
        go_ret
        exact ⟨by first | rfl | simp, HB3.out⟩
    · have d1 : (len : Int) ≤ 60 := by omega
      have d2 : 100 < (more.size : Int) := by omega
      go_enter Tryd.func7, Tryd.ntmps7
      go_wp2_with fail
      refine (known_any _ HG.out).mono ?_
      rintro r w1 ⟨rfl, hb1⟩
      have HB1 := Lib.hid hb1
      clear hb1
      go_wp2
      go_ret
      exact ⟨rfl, HB1.out⟩
  · have d1 : 60 < (len : Int) := by omega
    go_enter Tryd.func7, Tryd.ntmps7
    go_wp2_with fail
    refine (known_any _ HG.out).mono ?_
    rintro r w1 ⟨rfl, hb1⟩
    have HB1 := Lib.hid hb1
    clear hb1
    go_wp2
    go_ret
    exact ⟨rfl, HB1.out⟩
end Go.Proofs.YthdflbaknfiglaaDoor
