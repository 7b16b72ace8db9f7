/-
  The fact that the laws of writes ask first: 'tailed'.
-/
import Derived.Test.YtimaddmgooefdaaWriteFill
import Derived.Test.YtimaddmgooefdaaWriteP
namespace Go.Proofs.Ytimaddmgooefdaa
open Go.RowKit

def tKey : ByteArray := ⟨#[107]⟩
def tVal : ByteArray := ⟨#[118]⟩
theorem tailed_e : wrE 1 0 4 ⟨#[107]⟩ ⟨#[118]⟩ 3 = 0 := by decide +kernel
theorem tailed_t : tailF 1 0 4 ⟨#[107]⟩ ⟨#[118]⟩ 3 = (⟨#[3, 1, 118]⟩, 0) := by
  rw [tailF_ok tailed_e]
  refine congrArg (fun x => (x, 0)) (bs_ext ?_)
  unfold tailB numB valB
  rw [app_data, if_neg (by decide), if_pos rfl, if_pos (by decide), spanB_data]
  unfold spanL
  rw [bs_data, putL_small (by decide), putL_small (by decide)]
  rfl
theorem tailed_n : getN 4 [3, 1, 118, 122] = (3, 1, 0) := by decide +kernel
theorem tailed_v : getV 4 [1, 118, 122] = ([118], 2, 0) := by decide +kernel

/-- What Fill answers where the tail is right. -/
theorem wfill_ok {T R K : Int} {key val : ByteArray} {N : Int} {s : ByteArray} {w : World} {v : List UInt8} {n : Int} {k j : Nat} (hk : key.size ≤ 140737488351232) (hs : s.size ≤ 140737488351232) (h : getN K s.data.toList = (n, k, 0)) (h2 : getV K (s.data.toList.drop k) = (v, j, 0)) (h3 : wrE T R K key ⟨v.toArray⟩ n = 0) :
    Calls Try.prog 14 #[.agg #[.int .i64 T, .int .i64 R, .int .i64 K, .string key, .string val, .int .i64 N], .string s] w fun e w' => e = .returned (.tuple #[.agg #[.int .i64 T, .int .i64 R, .int .i64 K, .string key, .string ⟨v.toArray⟩, .int .i64 n], .int .i64 ((k + j : Nat) : Int), .nilIface]) ∧ Below w.heap.size w w' := by
  refine (wfill_any T R K key val N s w hk hs).mono ?_
  rintro e w' ⟨⟨r, rfl, hr⟩, hb⟩
  refine ⟨?_, hb⟩
  have he : fillE T R K key s.data.toList = 0 := by rw [fillE_w h h2]; exact h3
  rcases hr with ⟨h0, _⟩ | ⟨_, rfl⟩
  · exact absurd he h0
  · rw [h]; simp only; rw [h2]; rfl
theorem wtail_ok {T R K : Int} {key val : ByteArray} {N : Int} {w : World} (hk : key.size ≤ 140737488351232) (hv : val.size ≤ 140737488351232) (h : wrE T R K key val N = 0) :
    Calls Try.prog 12 #[.agg #[.int .i64 T, .int .i64 R, .int .i64 K, .string key, .string val, .int .i64 N]] w fun e w' => e = .returned (.tuple #[.string (tailB K val N), .nilIface]) ∧ Below w.heap.size w w' :=
  (wtail_any T R K key val N w hk hv).mono fun e w' ⟨h1, h2⟩ => ⟨by rw [h1, tailF_ok h]; rfl, h2⟩

set_option maxRecDepth 100000 in
set_option maxHeartbeats 4000000 in
theorem tailed_any (w : World) : Calls Try.prog 11 #[] w fun r w' => r = .returned (.bool true) ∧ Below w.heap.size w w' := by
  go_enter Try.func11, Try.ntmps11
  go_wp2_with fail
  refine (wtail_any 1 0 4 ⟨#[107]⟩ ⟨#[118]⟩ 3 _ (by decide) (by decide)).mono ?_
  rintro r w1 ⟨rfl, hb1⟩
  rw [tailed_t]
  have HA1 := Lib.hid ((wrAt_new w 1 0 4 ⟨#[107]⟩ ⟨#[118]⟩ 3 32).below hb1 (by simp))
  have HB1 := Lib.hid (((Below.refl _ _).alloc (Nat.le_refl _) _).trans (hb1.mono (by simp)))
  have HL1 : Hid (w.heap.size < w1.heap.size) := Lib.hid (by have := hb1.size; simp at this; exact this)
  clear hb1
  obtain ⟨c0, c1, c2, c3, c4, c5⟩ := HA1.out
  unfold textV
  rw [show errV ((⟨#[3, 1, 118]⟩ : ByteArray), 0).2 = Value.nilIface from rfl]
  go_wp2_with fail
  have happ : ((⟨#[3, 1, 118]⟩ : ByteArray) ++ ⟨#[122]⟩) = ⟨#[3, 1, 118, 122]⟩ := bs_ext (by rw [app_data]; rfl)
  rw [happ]
  refine (wfill_ok (key := ⟨#[107]⟩) (v := [118]) (n := 3) (k := 1) (j := 2) (by decide) (by decide) tailed_n tailed_v tailed_e).mono ?_
  rintro r w2 ⟨rfl, hb2⟩
  have HA2 := Lib.hid (HA1.out.below hb2 HL1.out)
  have HB2 := Lib.hid (HB1.out.trans (hb2.mono (Nat.le_of_lt HL1.out)))
  have HL2 : Hid (w.heap.size < w2.heap.size) := Lib.hid (Nat.lt_of_lt_of_le HL1.out hb2.size)
  clear hb2 c0 c1 c2 c3 c4 c5
  obtain ⟨c0, c1, c2, c3, c4, c5⟩ := HA2.out.below ((Below.refl w2.heap.size w2).alloc (Nat.le_refl _) (.cells #[.int .i64 1, .int .i64 0, .int .i64 4, .string ⟨#[107]⟩, .string ⟨#[118]⟩, .int .i64 3] 32)) HL2.out
  go_wp2
  go_ret
  exact ⟨rfl, HB2.out.alloc HB2.out.size _⟩
end Go.Proofs.Ytimaddmgooefdaa
