/-
  The walk of 'packtrainlaw.KeysTables'.
-/
import Derived.Test.YtimaddmgooefdaaKeyRefTable
import Derived.Test.YtimaddmgooefdaaKeyEq
import Derived.Deep.QuietTactic
import Derived.BigQuiet
namespace Go.Proofs.Ytimaddmgooefdaa
open Go.RowKit

set_option maxRecDepth 100000 in
set_option maxHeartbeats 4000000 in
theorem keysTables_walk (w : World) (v : Value) (l : List ByteArray) (hv : IsTexts w v l) (hl : l.length ≤ 140737488351232) (hs : ∀ s ∈ l, s.size ≤ 140737488351232) :
    Calls Try.prog 3 #[v] w fun e w' => e = .returned (.bool true) ∧ Below w.heap.size w w' := by
  obtain ⟨a1, c1, rfl⟩ := hv.form
  have HV := Lib.hid hv
  have HS := Lib.hid hs
  obtain ⟨n, hn⟩ : ∃ n, n = l.length := ⟨_, rfl⟩
  rw [← hn] at hl HV ⊢
  have HN := Lib.hid hn
  clear hv hs hn
  by_cases hbig : 150 < n
  · go_enter Try.func3, Try.ntmps3
    go_wp2
    go_ret
    exact ⟨rfl, Below.refl _ _⟩
  · go_enter Try.func3, Try.ntmps3
    go_wp2_with fail
    refine (rtab_any _ l w HV.out (by have := HN.out; omega)).mono ?_
    rintro r w1 ⟨v1, v2, rfl, ho1, ho2, hb1⟩
    have HT1 := Lib.hid ho1.isTexts
    have HN1 := Lib.hid ho2.isNums
    have HV1 := Lib.hid (HV.out.below hb1)
    have HB1 := Lib.hid hb1
    clear ho1 ho2 hb1 HV
    go_wp2_with fail
    refine (ktab_any _ l w1 HV1.out (by have := HN.out; omega) HS.out).mono ?_
    rintro r w2 ⟨u1, u2, rfl, ho1, ho2, hb2⟩
    have HT2 := Lib.hid ho1.isTexts
    have HN2 := Lib.hid ho2.isNums
    have HT3 := Lib.hid (HT1.out.below hb2)
    have HN3 := Lib.hid (HN1.out.below hb2)
    have HB2 := Lib.hid (HB1.out.trans (hb2.mono HB1.out.size))
    have hlen : (tabK [] l).length ≤ 9223372036854775807 := by have h1 := tabK_len l []; have h2 := HN.out; have h3 : ([] : List ByteArray).length = 0 := rfl; omega
    have hlen2 : ((atK [] l).map Int.ofNat).length ≤ 9223372036854775807 := by rw [List.length_map, atK_len, ← HN.out]; omega
    have HL := Lib.hid (And.intro hlen hlen2)
    clear ho1 ho2 hb2 HT1 HN1 HB1 hlen hlen2 HV1
    go_wp2_with fail
    refine (teq_same _ _ _ w2 HT3.out HT2.out HL.out.1).mono ?_
    rintro r w3 ⟨rfl, q, rfl⟩
    go_wp2_with fail
    refine (neq_same _ _ _ _ (HN3.out.drewN q) (HN2.out.drewN q) HL.out.2).mono ?_
    rintro r w4 ⟨rfl, q2, rfl⟩
    go_wp2
    go_ret
    exact ⟨rfl, HB2.out.trans ⟨rfl, rfl, rfl, Nat.le_refl _, fun _ _ => rfl⟩⟩
end Go.Proofs.Ytimaddmgooefdaa
