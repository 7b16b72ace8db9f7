/-
  The walk of 'packtrainkeep.ChunkMany'.
-/
import Derived.Test.YtggokgiebdadpaaChkPieced
import Derived.Test.YtggokgiebdadpaaPick
namespace Go.Proofs.Ytggokgiebdadpaa
open Go.RowKit

theorem rep_x (n : Nat) : ∃ S : ByteArray, (⟨(Lib.repeatL (⟨#[120]⟩ : ByteArray).data.toList n).toArray⟩ : ByteArray) = S ∧ S.size = n := by
  refine ⟨_, rfl, ?_⟩
  rw [bs_size']
  induction n with
  | zero => rfl
  | succ n ih => show (_ ++ Lib.repeatL _ n).length = n + 1; rw [List.length_append, ih]; show 1 + n = n + 1; omega

set_option maxRecDepth 100000 in
set_option maxHeartbeats 2000000 in
theorem chunkMany_walk (a : Int) (_ : -9223372036854775808 ≤ a) (_ : a ≤ 9223372036854775807) (b : Int) (_ : -9223372036854775808 ≤ b) (_ : b ≤ 9223372036854775807) (w : World) :
    Calls Try.prog 6 #[.int .i64 a, .int .i64 b] w fun e w' => e = .returned (.bool true) ∧ Below w.heap.size w w' := by
  have h1 := pickN_pos (a := a) (show (0 : Int) < 4096 by decide)
  have h2 := pickN_pos (a := b) (show (0 : Int) < 256 by decide)
  obtain ⟨p, hp⟩ := Int.eq_ofNat_of_zero_le h1.1
  obtain ⟨q, hq⟩ := Int.eq_ofNat_of_zero_le h2.1
  obtain ⟨n, hn⟩ : ∃ n, p + 1 = n := ⟨_, rfl⟩
  obtain ⟨z, hz⟩ : ∃ z, q + 1 = z := ⟨_, rfl⟩
  have kn : IntKind.i64.wrap (1 + (p : Int)) = (n : Int) := by rw [IntWalk.i64_in _ (by omega)]; omega
  have kz : IntKind.i64.wrap (1 + (q : Int)) = (z : Int) := by rw [IntWalk.i64_in _ (by omega)]; omega
  have kn2 : 1 + (p : Int) = (n : Int) := by omega
  have kz2 : 1 + (q : Int) = (z : Int) := by omega
  have HP := Lib.hid hp
  have HQ := Lib.hid hq
  obtain ⟨S, hS, hSz⟩ := rep_x n
  have HRP : Hid (∀ w', Calls Try.prog 16 #[.string ⟨#[120]⟩, .int .i64 n] w' fun e w2 => e = .returned (.string S) ∧ Below w'.heap.size w' w2) := Lib.hid (fun w' => by
    have h := Try.strings_Repeat ⟨#[120]⟩ n w' (by omega) (by show 1 * n ≤ _; omega)
    rw [hS] at h
    exact h)
  have HC := Lib.hid (fun w' => cut_ok S z w' (by omega) (by omega) (by omega) (by omega))
  rw [hSz] at HC
  have hn1 : 1 ≤ n := by omega
  have hcn : (((cutN n z : Nat) : Int) == ((n : Int) + (z : Int) - 1) / (z : Int)) = true := by
    rw [beq_iff_eq]
    unfold cutN
    rw [show (n : Int) + (z : Int) - 1 = ((n + z - 1 : Nat) : Int) by omega]
    exact Int.natCast_ediv _ _
  have hn2 : n ≤ 4096 := by omega
  have hz1 : 1 ≤ z := by omega
  have hz2 : z ≤ 256 := by omega
  clear hS hSz hp hq hn hz h1 h2
  go_enter Try.func6, Try.ntmps6
  go_wp2_with fail
  refine (pieced_any w).mono ?_
  rintro r w1 ⟨rfl, hb⟩
  have HB1 := Lib.hid hb
  clear hb
  go_wp2_with fail
  refine (pick_any a 4096 w1 (by decide) (by decide)).mono ?_
  rintro r w' ⟨rfl, rfl⟩
  rw [HP.out]
  go_wp2_with fail
  refine (pick_any b 256 w1 (by decide) (by decide)).mono ?_
  rintro r w' ⟨rfl, rfl⟩
  rw [HQ.out]
  go_wp2_with fail
  refine (HRP.out w1).mono ?_
  rintro r w2 ⟨rfl, hb⟩
  have HB2 : Hid (Below w.heap.size w w2) := HB1.out.trans (hb.mono HB1.out.size)
  clear hb
  go_wp2_with fail
  refine (HC.out w2).mono ?_
  rintro r w3 ⟨v, rfl, ho, hb⟩
  have HB3 : Hid (Below w.heap.size w w3) := HB2.out.trans (hb.mono HB2.out.size)
  obtain ⟨g, cap, rfl, _⟩ := ho.cells (by rw [cutK_len]; exact (cutN_lt (k := 0) (by omega)).1 (by omega))
  rw [cutK_len]
  clear hb ho
  go_wp2
  go_ret
  exact ⟨rfl, HB3.out⟩
end Go.Proofs.Ytggokgiebdadpaa
