/-
  The walk of 'packtrainlaw.MatchTokens'.
-/
import Derived.Test.YtoimmdkfgepdeaaMatchRefTokens
import Derived.Test.YtoimmdkfgepdeaaToksEq
import Derived.Test.YtoimmdkfgepdeaaMatchTx
namespace Go.Proofs.Ytoimmdkfgepdeaa
open Go.RowKit

set_option maxRecDepth 100000 in
set_option maxHeartbeats 1000000 in
theorem matchTokens_walk (s : ByteArray) (hs : s.size ≤ maxLen) (w : World) :
    Calls Try.prog 4 #[.string s] w fun e w' => e = .returned (.bool true) ∧ Below w.heap.size w w' := by
  unfold maxLen at hs
  by_cases h3 : 1500 < s.size
  · go_enter Try.func4, Try.ntmps4
    go_wp2
    go_ret
    exact ⟨rfl, Below.refl _ _⟩
  · have NB : Hid (s.size ≤ 400000) := by have h : s.size ≤ 400000 := by omega
                                          exact h
    obtain ⟨l, hl⟩ : ∃ l, toks s.data.toList = l := ⟨_, rfl⟩
    have hll : l.length ≤ 1000000 := by
      have := tks_len s.data.toList s.data.toList.length 0 0
      rw [← hl]
      unfold toks
      have e : s.data.toList.length = s.size := (size_data s).symm
      omega
    have HLL := Lib.hid hll
    have HL := Lib.hid hl
    clear hl hll
    go_enter Try.func4, Try.ntmps4
    go_wp2_with fail
    refine (tokens_any s _ NB.out).mono ?_
    rintro e w1 ⟨v1, rfl, ho1, hb1⟩
    rw [HL.out] at ho1
    have HO1 := Lib.hid ho1
    have HB1 := Lib.hid hb1
    clear ho1 hb1
    go_wp2_with fail
    refine (rtokens_any s _ NB.out).mono ?_
    rintro e w2 ⟨v2, rfl, ho2, hb2⟩
    rw [HL.out] at ho2
    have HI1 := Lib.hid (HO1.out.is.below hb2)
    have HI2 := Lib.hid ho2.is
    have HB2 : Hid (Below w.heap.size w w2) := HB1.out.trans (hb2.mono HB1.out.size)
    clear ho2 hb2
    go_wp2_with fail
    refine (equal_toks v1 v2 l _ HI1.out HI2.out HLL.out).mono ?_
    rintro e w3 ⟨rfl, q, rfl⟩
    go_wp2
    go_ret
    exact ⟨rfl, below_drewN HB2.out _⟩
end Go.Proofs.Ytoimmdkfgepdeaa
