/-
  The walk of 'packtrainkeep.KeysBack'.
-/
import Derived.Test.YtimaddmgooefdaaDoorKeyTabled
import Derived.Test.YtimaddmgooefdaaDoorPlace
namespace Go.Proofs.YtimaddmgooefdaaDoor
open Go.RowKit

theorem atK_wf (l : List ByteArray) (hl : l.length ≤ 1000) : ∀ n ∈ (atK [] l).map Int.ofNat, -9223372036854775808 ≤ n ∧ n ≤ 9223372036854775807 := by
  intro n hn
  obtain ⟨k, hk, rfl⟩ := List.mem_map.1 hn
  have h : ∀ r t, ∀ j ∈ atK t r, j ≤ t.length + r.length := by
    intro r
    induction r with
    | nil => intro t j hj; cases hj
    | cons s r ih =>
      intro t j hj
      have hadd : (addK t s).length ≤ t.length + 1 := by unfold addK; split <;> simp
      rcases List.mem_cons.1 hj with rfl | hj
      · have : idxB t s ≤ t.length := List.findIdx_le_length
        simp; omega
      · have := ih (addK t s) j hj
        simp; omega
  have := h l [] k hk
  simp at this
  show _ ≤ ((k : Nat) : Int) ∧ ((k : Nat) : Int) ≤ _
  omega
theorem tabK_sizes {l : List ByteArray} {B : Nat} (h : ∀ s ∈ l, s.size ≤ B) : ∀ s ∈ tabK [] l, s.size ≤ B := by
  intro s hs
  rcases tabK_sub l [] s hs with h1 | h1
  · cases h1
  · exact h s h1

set_option maxRecDepth 100000 in
set_option maxHeartbeats 4000000 in
theorem keysBack_walk (w : World) (v : Value) (l : List ByteArray) (hv : IsTexts w v l) (hl : l.length ≤ 140737488351232) (hs : ∀ s ∈ l, s.size ≤ 140737488351232) (hg : errT w) :
    Calls Tryd.prog 4 #[v] w fun e w' => e = .returned (.bool true) ∧ Below w.heap.size w w' := by
  obtain ⟨a1, c1, rfl⟩ := hv.form
  have HV := Lib.hid hv
  have HS := Lib.hid hs
  have HG := Lib.hid hg
  obtain ⟨n, hn⟩ : ∃ n, n = l.length := ⟨_, rfl⟩
  rw [← hn] at hl HV ⊢
  have HN := Lib.hid hn
  clear hv hs hg hn
  go_enter Tryd.func4, Tryd.ntmps4
  go_wp2_with fail
  refine (tabled_any w HG.out).mono ?_
  rintro r w0 ⟨rfl, hb0⟩
  have HB0 := Lib.hid hb0
  have HV0 := Lib.hid (HV.out.below hb0)
  have HG0 := Lib.hid (HG.out.below hb0)
  clear hb0
  by_cases hbig : 100 < n
  · go_wp2
    go_ret
    exact ⟨rfl, HB0.out⟩
  · have HL6 : Hid (l.length ≤ 1000) := Lib.hid (by rw [← HN.out]; omega)
    have HT6 : Hid ((tabK [] l).length ≤ 1000) := Lib.hid (by show _ ≤ _; have h1 := tabK_len l []; have h2 := HN.out; have h3 : ([] : List ByteArray).length = 0 := rfl; omega)
    go_wp2_with fail
    refine (ktab_any _ l w0 HV0.out (Nat.le_trans HL6.out (by decide)) HS.out).mono ?_
    rintro r w1 ⟨v1, v2, rfl, ho1, ho2, hb1⟩
    obtain ⟨a2, c2, rfl⟩ := ho2.isNums.form
    have hln : ((atK [] l).map Int.ofNat).length = n := by rw [List.length_map, atK_len, HN.out]
    have HT1 := Lib.hid ho1.isTexts
    have HN1 := Lib.hid ho2.isNums
    rw [hln] at HN1 ⊢
    have HLN := Lib.hid hln
    have HV1 := Lib.hid (HV0.out.below hb1)
    have HB1 := Lib.hid (HB0.out.trans (hb1.mono HB0.out.size))
    clear ho1 ho2 hb1 hln HV0
    go_wp2_with fail
    refine (klist_any _ _ (tabK [] l) ((atK [] l).map Int.ofNat) w1 HT1.out HN1.out (Nat.le_trans HT6.out (by decide)) (by rw [HLN.out]; omega) (tabK_sizes HS.out)).mono ?_
    rintro r w2 ⟨u1, err, rfl, ho, he, hb2⟩
    rw [listF_table] at ho he
    obtain rfl := he.nil rfl
    have HV2 := Lib.hid (HV1.out.below hb2)
    have HO2 := Lib.hid ho.isTexts
    have HB2 := Lib.hid (HB1.out.trans (hb2.mono HB1.out.size))
    clear ho he hb2 HV1
    go_wp2_with fail
    refine (teq_same _ _ l w2 HV2.out HO2.out (Nat.le_trans HL6.out (by decide))).mono ?_
    rintro r w4 ⟨rfl, hq4⟩
    have hb4 : Below w2.heap.size w2 w4 := by obtain ⟨q, rfl⟩ := hq4; exact drewN_below _ q
    have HB4 := Lib.hid (HB2.out.trans (hb4.mono HB2.out.size))
    clear hq4 hb4
    go_wp2
    go_ret
    exact ⟨by simp, HB4.out⟩
end Go.Proofs.YtimaddmgooefdaaDoor
