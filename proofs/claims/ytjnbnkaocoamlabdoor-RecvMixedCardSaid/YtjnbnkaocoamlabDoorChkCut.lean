/-
  The contract of chunk.Cut.
-/
import Derived.Test.YtjnbnkaocoamlabDoorChks
import Derived.Test.YtjnbnkaocoamlabDoorCrcOpen
import Derived.Test.YtjnbnkaocoamlabDoorCrcMore
import Derived.WalkSpells
import Derived.WalkLawsBesides
import Derived.Lib.Hide
import Derived.Outline
namespace Go.Proofs.YtjnbnkaocoamlabDoor
open Go.RowKit

/-- What is wrong with a text and a size of pieces. -/
def cutE (n : Nat) (z : Int) : Nat := if n < 1 ∨ 4096 < n then 4 else if z < 1 ∨ 256 < z then 2 else 0

set_option maxRecDepth 100000 in
set_option maxHeartbeats 1000000 in
theorem cut_bad (s : ByteArray) (z : Int) (e : Nat) (w : World) (hs : s.size ≤ maxLen) (z0 : -9223372036854775808 ≤ z) (z1 : z ≤ 9223372036854775807) (h : cutE s.size z = e) (he : e ≠ 0) :
    Calls Tryd.prog 7 #[.string s, .int .i64 z] w fun r w' => r = .returned (.tuple #[.slice none 0 0, .iface 43 (.int .i64 e)]) ∧ w = w' := by
  unfold maxLen at hs
  by_cases h1 : s.size < 1
  · obtain rfl : 4 = e := by rw [← h]; unfold cutE; rw [if_pos (.inl h1)]
    go_enter Tryd.func7, Tryd.ntmps7
    go_wp2
    go_ret2
    exact ⟨rfl, rfl⟩
  · by_cases h2 : 4096 < s.size
    · obtain rfl : 4 = e := by rw [← h]; unfold cutE; rw [if_pos (.inr h2)]
      go_enter Tryd.func7, Tryd.ntmps7
      go_wp2
      go_ret2
      exact ⟨rfl, rfl⟩
    · by_cases h3 : z < 1
      · obtain rfl : 2 = e := by rw [← h]; unfold cutE; rw [if_neg (by omega), if_pos (.inl h3)]
        go_enter Tryd.func7, Tryd.ntmps7
        go_wp2
        go_ret2
        exact ⟨rfl, rfl⟩
      · by_cases h4 : 256 < z
        · obtain rfl : 2 = e := by rw [← h]; unfold cutE; rw [if_neg (by omega), if_pos (.inr h4)]
          go_enter Tryd.func7, Tryd.ntmps7
          go_wp2
          go_ret2
          exact ⟨rfl, rfl⟩
        · exfalso
          apply he
          rw [← h]; unfold cutE; rw [if_neg (by omega), if_neg (by omega)]

set_option maxRecDepth 100000 in
set_option maxHeartbeats 2000000 in
theorem cut_ok (s : ByteArray) (z : Nat) (w : World) (hs1 : 1 ≤ s.size) (hs2 : s.size ≤ 4096) (hz1 : 1 ≤ z) (hz2 : z ≤ 256) :
    Calls Tryd.prog 7 #[.string s, .int .i64 z] w fun e w' => ∃ v, e = .returned (.tuple #[v, .nilIface]) ∧ ownsC w' w.heap.size v (cutK s z (cutN s.size z)) ∧ Below w.heap.size w w' := by
  obtain ⟨S, hS⟩ : ∃ S, sum s.data.toList = S := ⟨_, rfl⟩
  have HSS := Lib.hid hS
  have HSL : Hid (s.size ≤ maxLen) := Lib.hid (by unfold maxLen; omega)
  clear hS
  go_enter Tryd.func7, Tryd.ntmps7
  go_wp2_with fail
  refine (sum_any s _ HSL.out).mono ?_
  rintro e w' ⟨rfl, rfl⟩
  rw [HSS.out]
  go_wp2
  go_loopw [6, 8] (fun v a wr => ∃ k : Nat, a = .int .i64 (k * z : Nat) ∧ k ≤ cutN s.size z ∧ ownsC wr w.heap.size v (cutK s z k) ∧ Below w.heap.size w wr) (fun _ a _ => s.size - (intOf a).toNat)
  case atStart => exact ⟨0, by simp, Nat.zero_le _, ownsC_nil _ _, Below.refl _ _⟩
  case round =>
    obtain ⟨k, rfl, hk, hown, hbel⟩ := hrel
    have HOWN := Lib.hid hown
    have HBEL := Lib.hid hbel
    have HK := Lib.hid hk
    clear hown hbel hk
    obtain ⟨a, ha⟩ : ∃ a, k * z = a := ⟨_, rfl⟩
    rw [ha]
    have HA := Lib.hid ha
    clear ha
    by_cases hlt : a < s.size
    · obtain ⟨b, hb⟩ : ∃ b, min (a + z) s.size = b := ⟨_, rfl⟩
      have hab : a ≤ b := by omega
      have hbs : b ≤ s.size := by omega
      have HPC : Hid (cutK s z (k + 1) = cutK s z k ++ [⟨S, s.size, (a : Nat), s.extract a b⟩]) := Lib.hid (by
        rw [cutK_succ]; unfold piece; rw [HSS.out, HA.out, hb])
      have e1 : (a : Int) ≤ (b : Int) := by omega
      have e2 : (b : Int) ≤ (s.size : Int) := by omega
      have e3 : min ((a : Int) + (z : Int)) (s.size : Int) = (b : Int) := by omega
      have e4 : IntKind.i64.wrap ((a : Int) + (z : Int)) = (a : Int) + (z : Int) := IntWalk.i64_in _ (by omega)
      have HN : Hid ((k + 1) * z = a + z) := Lib.hid (by rw [Nat.succ_mul, HA.out])
      have HKL : Hid (k + 1 ≤ cutN s.size z) := Lib.hid ((cutN_lt (by omega)).1 (by rw [HA.out]; exact hlt))
      have HLN : Hid ((cutK s z k).length + 1 ≤ 1000000) := Lib.hid (by
        rw [cutK_len]
        have h1 := HKL.out
        have h2 := cutN_le s.size z (by omega)
        omega)
      have HXS : Hid ((s.extract a b).size ≤ 140737488351232) := Lib.hid (by rw [ByteArray.size_extract]; omega)
      clear hb hab hbs
      go_wp2_with fail
      refine (clone_s _ _ HXS.out).mono ?_
      rintro r w1 ⟨rfl, hb1⟩
      have HO1 := Lib.hid (HOWN.out.below hb1)
      have HB1 : Hid (Below w.heap.size w w1) := HBEL.out.trans (hb1.mono HBEL.out.size)
      have hz1' := HB1.out.size
      generalize s.extract a b = D at HPC ⊢
      clear hb1 HOWN HBEL HXS
      go_wp2_with (at_builtin; refine wpList_append_chk rfl _ _ rfl w.heap.size _ (cutK s z k) rfl (HO1.out.alloc _) w1.heap.size 1 rfl ⟨S, s.size, (a : Nat), D⟩ ?c1 ?c2 ?c3 ?_)
      case c1 => exact chkBlk_new _ _ _ _ _
      case c2 => exact HLN.out
      case c3 => simp; omega
      · intro g cap w2 ho2 hg2
        have HB3 : Hid (Below w.heap.size w w2) := (HB1.out.alloc hz1' _).grown hg2 (by simp; omega) (fun g hg => (HO1.out.lt g hg).1)
        have HO2 := Lib.hid ho2
        rw [← HPC.out] at HO2
        clear ho2 hg2
        go_wp2
        go_roundw
        case rel => exact ⟨k + 1, by rw [HN.out]; simp, HKL.out, HO2.out, HB3.out⟩
        case measure => simp [intOf]; omega
    · have HE : Hid (cutN s.size z = k) := Lib.hid (cutN_end (by omega) HK.out (by rw [HA.out]; exact hlt)).symm
      go_wp2
      go_ret2
      exact ⟨_, rfl, by rw [HE.out]; exact HOWN.out, HBEL.out⟩
/-- One's own pieces, cell by cell. -/
theorem ownsC.cells {w : World} {base : Nat} {v : Value} {l : List Chk} (h : ownsC w base v l) (hl : 0 < l.length) : ∃ g cap, v = .slice (some ⟨g, 0, none⟩) l.length cap ∧ g < w.heap.size ∧ ∀ i t, l[i]? = some t →
    w.cell? ⟨g, i * 4, none⟩ = some (.int .u32 t.nm) ∧ w.cell? ⟨g, i * 4 + 1, none⟩ = some (.int .i64 t.tot) ∧ w.cell? ⟨g, i * 4 + 2, none⟩ = some (.int .i64 t.pos) ∧ w.cell? ⟨g, i * 4 + 3, none⟩ = some (.string t.dat) := by
  have hlt := h.lt
  have hall := h
  obtain ⟨h0, h1⟩ := h
  rcases h1 with ⟨rfl, hn⟩ | ⟨g, cap, cur, rfl, hb, hh, hc, hm, hs, ht⟩
  · omega
  · refine ⟨g, cap, rfl, (hlt g rfl).2, fun i t hi => ?_⟩
    have hil : i < l.length := (List.getElem?_eq_some_iff.1 hi).1
    have k : ∀ j, j < 4 → w.cell? ⟨g, i * 4 + j, none⟩ = (chkC t)[j]? := fun j hj => by
      rw [World.ownsRow.cellAt hall (i * 4 + j) (by omega)]
      exact chksC_at l i j t hi hj
    exact ⟨k 0 (by omega), k 1 (by omega), k 2 (by omega), k 3 (by omega)⟩
end Go.Proofs.YtjnbnkaocoamlabDoor
