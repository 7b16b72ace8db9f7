/-
  The walk of 'packtrainkeep.MatchFar'.
-/
import Derived.Test.YtoimmdkfgepdeaaMatchFound
import Derived.Test.YtoimmdkfgepdeaaPick
namespace Go.Proofs.Ytoimmdkfgepdeaa
open Go.RowKit

def sixL (c d : UInt8) : List UInt8 := [c, d, c, c, d, d]
def farL (c d : UInt8) (n : Nat) : List UInt8 := sixL c d ++ Lib.repeatL [d] n ++ sixL c d
theorem farL_len (c d : UInt8) (n : Nat) : (farL c d n).length = n + 12 := by
  unfold farL
  rw [List.length_append, List.length_append, Lib.repeatL_length]
  simp [sixL]; omega
theorem far_find (c d : UInt8) (n b z : Nat) (h : find (farL c d n) (n + 6) = (b, z)) (hn : n + 6 ≤ 1024) : 1 ≤ b ∧ 6 ≤ z := by
  have hl := farL_len c d n
  have hsm : sm (farL c d n) (n + 6) (n + 6) 6 = 6 := by
    refine sm_eq ⟨Nat.le_refl _, fun j hj => ?_, fun h => absurd h (Nat.lt_irrefl _)⟩
    have e1 : (farL c d n).getD (n + 6 + j) 0 = (sixL c d).getD j 0 := by
      unfold farL
      have hm : (sixL c d ++ Lib.repeatL [d] n).length = n + 6 := by rw [List.length_append, Lib.repeatL_length]; simp [sixL]; omega
      rw [List.getD_eq_getElem?_getD, List.getElem?_append_right (by omega), hm, show n + 6 + j - (n + 6) = j by omega, ← List.getD_eq_getElem?_getD]
    have e2 : (farL c d n).getD (n + 6 + j - (n + 6)) 0 = (sixL c d).getD j 0 := by
      unfold farL
      have h6 : (sixL c d).length = 6 := rfl
      rw [show n + 6 + j - (n + 6) = j by omega, List.append_assoc, List.getD_eq_getElem?_getD, List.getElem?_append_left (by omega), ← List.getD_eq_getElem?_getD]
    rw [e1, e2]
  rcases find_cases (farL c d n) (n + 6) with ⟨_, h3⟩ | ⟨b', z', h3, _, hb, _, _, _, _, _, _, h4, _⟩
  · have := h3 (by omega) (n + 6) (by omega) (by omega)
    rw [hl, show min 67 (n + 12 - (n + 6)) = 6 by omega, hsm] at this
    omega
  · rw [h] at h3
    simp only [Prod.mk.injEq] at h3
    obtain ⟨rfl, rfl⟩ := h3
    have := h4 (n + 6) (by omega) (by omega)
    rw [hl, show min 67 (n + 12 - (n + 6)) = 6 by omega, hsm] at this
    exact ⟨hb, this⟩
theorem find_near (l : List UInt8) (a b z : Nat) (h : find l a = (b, z)) : b ≤ 1024 := by
  rcases find_cases l a with ⟨h3, _⟩ | ⟨b', z', h3, _, _, h4, _⟩
  · rw [h] at h3; simp only [Prod.mk.injEq] at h3; omega
  · rw [h] at h3; simp only [Prod.mk.injEq] at h3; omega

theorem one_convs (c : UInt8) (w : World) : (convert 42 9 (.slice (some ⟨w.heap.size, 0, none⟩) 1 1)).run Try.prog (w.alloc (.cells #[.int .u8 (c.toNat : Int)] 5)) = .ok (.string ⟨#[c]⟩) (w.alloc (.cells #[.int .u8 (c.toNat : Int)] 5)) := by
  refine run_convert_bytes_back _ _ _ _ _ _ [c] Try.underlying42 Try.underlying5 Try.underlying9 fun j hj => ?_
  obtain rfl : j = 0 := by simp at hj; omega
  have hadd : (⟨w.heap.size, 0, none⟩ : Addr).add 0 = ⟨w.heap.size, 0, none⟩ := rfl
  rw [hadd, cell_of_row _ _ _ _ _ _ (heap_alloc_new w _)]
  rfl
theorem one_convs2 (c : UInt8) (w : World) (o : Obj) : (convert 42 9 (.slice (some ⟨w.heap.size + 1, 0, none⟩) 1 1)).run Try.prog ((w.alloc o).alloc (.cells #[.int .u8 (c.toNat : Int)] 5)) = .ok (.string ⟨#[c]⟩) ((w.alloc o).alloc (.cells #[.int .u8 (c.toNat : Int)] 5)) := by
  have h := one_convs c (w.alloc o)
  rw [World.size_alloc] at h
  exact h
theorem six_conv (c d : UInt8) (w : World) : (convert 42 9 (.slice (some ⟨w.heap.size, 0, none⟩) 6 6)).run Try.prog (w.alloc (.cells #[.int .u8 (c.toNat : Int), .int .u8 (d.toNat : Int), .int .u8 (c.toNat : Int), .int .u8 (c.toNat : Int), .int .u8 (d.toNat : Int), .int .u8 (d.toNat : Int)] 5)) = .ok (.string ⟨(sixL c d).toArray⟩) (w.alloc (.cells #[.int .u8 (c.toNat : Int), .int .u8 (d.toNat : Int), .int .u8 (c.toNat : Int), .int .u8 (c.toNat : Int), .int .u8 (d.toNat : Int), .int .u8 (d.toNat : Int)] 5)) := by
  refine run_convert_bytes_back _ _ _ _ _ _ (sixL c d) Try.underlying42 Try.underlying5 Try.underlying9 fun j hj => ?_
  have hadd : (⟨w.heap.size, 0, none⟩ : Addr).add j = ⟨w.heap.size, j, none⟩ := by unfold Addr.add; split <;> simp_all
  rw [hadd, cell_of_row _ _ _ _ _ _ (heap_alloc_new w _)]
  have hj6 : j < 6 := hj
  match j, hj6 with
  | 0, _ => rfl
  | 1, _ => rfl
  | 2, _ => rfl
  | 3, _ => rfl
  | 4, _ => rfl
  | 5, _ => rfl

theorem find_at (s : ByteArray) (a : Nat) (A : Int) (w : World) (hs : s.size ≤ maxLen) (hA : A = (a : Int)) (ha : a < s.size) :
    Calls Try.prog 12 #[.string s, .int .i64 A] w fun e w' => e = .returned (findV (find s.data.toList a)) ∧ ∃ q, w' = w.drewN q := by
  subst hA; exact find_nat s a w hs ha

set_option maxRecDepth 100000 in
set_option maxHeartbeats 2000000 in
theorem far_ne (c d : UInt8) (n0 : Int) (w : World) (hcd : c ≠ d) :
    Calls Try.prog 10 #[.int .u8 (c.toNat : Int), .int .u8 (d.toNat : Int), .int .i64 n0] w fun e w' => e = .returned (.bool true) ∧ Below w.heap.size w w' := by
  have hb : ((c.toNat : Int) == (d.toNat : Int)) = false := by rw [u8_eq]; simp [hcd]
  have hq := pickN_pos (a := n0) (show (0 : Int) < 300 by decide)
  obtain ⟨k, hk⟩ := Int.eq_ofNat_of_zero_le hq.1
  have hk3 : k < 300 := by have := hq.2; omega
  obtain ⟨n, hn⟩ : ∃ n, n = 900 + k := ⟨_, rfl⟩
  have hn1 : (900 : Int) + (k : Int) = (n : Int) := by omega
  have hn2 : n ≤ 1199 := by omega
  have HK := Lib.hid hk
  obtain ⟨b, z, hfz⟩ : ∃ b z, find (farL c d n) (n + 6) = (b, z) := ⟨_, _, rfl⟩
  have hb1024 := find_near _ _ _ _ hfz
  have hfar := far_find c d n b z hfz
  have HS : Hid ((⟨(sixL c d).toArray⟩ ++ ⟨(Lib.repeatL [d] n).toArray⟩ ++ ⟨(sixL c d).toArray⟩ : ByteArray).size = n + 12) := by
    have h : (⟨(sixL c d).toArray⟩ ++ ⟨(Lib.repeatL [d] n).toArray⟩ ++ ⟨(sixL c d).toArray⟩ : ByteArray).size = n + 12 := by
      rw [← farL_len c d n, size_data, app_data, app_data]; rfl
    exact h
  have HF : Hid (findV (find (⟨(sixL c d).toArray⟩ ++ ⟨(Lib.repeatL [d] n).toArray⟩ ++ ⟨(sixL c d).toArray⟩ : ByteArray).data.toList (n + 6)) = .tuple #[.int .i64 b, .int .i64 z]) := by
    have h : findV (find (⟨(sixL c d).toArray⟩ ++ ⟨(Lib.repeatL [d] n).toArray⟩ ++ ⟨(sixL c d).toArray⟩ : ByteArray).data.toList (n + 6)) = .tuple #[.int .i64 b, .int .i64 z] := by
      have e : (⟨(sixL c d).toArray⟩ ++ ⟨(Lib.repeatL [d] n).toArray⟩ ++ ⟨(sixL c d).toArray⟩ : ByteArray).data.toList = farL c d n := by rw [app_data, app_data]; rfl
      rw [e, hfz]; rfl
    exact h
  have HFAR := Lib.hid hfar
  have hl1 : (sixL c d).length = 6 := rfl
  have hl2 : (Lib.repeatL [d] n).length = n := by rw [Lib.repeatL_length]; simp
  have HZ1 : Hid ((⟨#[d]⟩ : ByteArray).size * n ≤ 140737488355328) := by
    have h : (⟨#[d]⟩ : ByteArray).size * n ≤ 140737488355328 := by show 1 * n ≤ _; omega
    exact h
  have HZ2 : Hid ((⟨(sixL c d).toArray⟩ ++ ⟨(Lib.repeatL [d] n).toArray⟩ ++ ⟨(sixL c d).toArray⟩ : ByteArray).size ≤ maxLen) := by
    have h : (⟨(sixL c d).toArray⟩ ++ ⟨(Lib.repeatL [d] n).toArray⟩ ++ ⟨(sixL c d).toArray⟩ : ByteArray).size ≤ maxLen := by rw [HS.out]; unfold maxLen; omega
    exact h
  clear hq hk hn hcd hfz hfar
  have hc6 := fun w => six_conv c d w
  have hc1 := fun w o => one_convs2 d w o
  go_enter Try.func10, Try.ntmps10
  go_wp2_with fail
  refine (found_any _).mono ?_
  rintro e w1 ⟨rfl, hb1⟩
  have HB1 := Lib.hid hb1
  clear hb1
  go_wp2_with fail
  refine (pick_any n0 300 _ (by omega) (by omega)).mono ?_
  rintro e w' ⟨rfl, rfl⟩
  rw [HK.out]
  go_wp2_with fail
  refine (Try.strings_Repeat ⟨#[d]⟩ n _ (by omega) HZ1.out).mono ?_
  rintro e w2 ⟨rfl, hb2⟩
  have HB2 : Hid (Below w.heap.size w w2) := ((HB1.out.alloc HB1.out.size _).alloc (by simp; have := HB1.out.size; omega) _).trans (hb2.mono (by simp; have := HB1.out.size; omega))
  clear hb2 hc6 hc1
  go_wp2_with fail
  refine (find_at _ (n + 6) _ _ HZ2.out (by omega) (by rw [HS.out]; omega)).mono ?_
  rintro e w3 ⟨rfl, q, rfl⟩
  rw [HF.out]
  clear hl2
  by_cases hle : n + 6 ≤ 1024
  · obtain ⟨h1, h2⟩ := HFAR.out hle
    have hle2 : (6 : Int) + (n : Int) ≤ 1024 := by omega
    have d1 : decide (6 ≤ (z : Int)) = true := by simp; omega
    have d2 : decide (1 ≤ (b : Int)) = true := by simp; omega
    clear hle
    go_wp2
    go_ret
    exact ⟨rfl, below_drewN HB2.out _⟩
  · have hle2 : ¬ (6 : Int) + (n : Int) ≤ 1024 := by omega
    have d2 : decide ((b : Int) ≤ 1024) = true := by simp; omega
    by_cases hz : z < 6
    · have d1 : decide ((z : Int) < 6) = true := by simp; omega
      clear hle hz
      go_wp2
      go_ret
      exact ⟨rfl, below_drewN HB2.out _⟩
    · have d1 : decide ((z : Int) < 6) = false := by simp; omega
      clear hle hz
      go_wp2
      go_ret
      exact ⟨rfl, below_drewN HB2.out _⟩

theorem u8_of (c : Int) (h0 : 0 ≤ c) (h1 : c ≤ 255) : ∃ x : UInt8, c = (x.toNat : Int) := by
  refine ⟨UInt8.ofNat c.toNat, ?_⟩
  have : (UInt8.ofNat c.toNat).toNat = c.toNat := by simp; omega
  rw [this]; omega

set_option maxRecDepth 100000 in
theorem matchFar_walk (c : Int) (c0 : 0 ≤ c) (c1 : c ≤ 255) (d : Int) (d0 : 0 ≤ d) (d1 : d ≤ 255) (n0 : Int) (_ : -9223372036854775808 ≤ n0) (_ : n0 ≤ 9223372036854775807) (w : World) :
    Calls Try.prog 10 #[.int .u8 c, .int .u8 d, .int .i64 n0] w fun e w' => e = .returned (.bool true) ∧ Below w.heap.size w w' := by
  obtain ⟨c, rfl⟩ := u8_of c c0 c1
  obtain ⟨d, rfl⟩ := u8_of d d0 d1
  by_cases hcd : c = d
  · have hb : ((c.toNat : Int) == (d.toNat : Int)) = true := by rw [u8_eq]; simp [hcd]
    clear hcd
    go_enter Try.func10, Try.ntmps10
    go_wp2_with fail
    refine (found_any _).mono ?_
    rintro e w1 ⟨rfl, hb1⟩
    have HB1 := Lib.hid hb1
    clear hb1
    go_wp2
    go_ret
    exact ⟨rfl, HB1.out⟩
  · exact far_ne c d n0 w hcd
end Go.Proofs.Ytoimmdkfgepdeaa
