/-
  sameCells, of cells that are the same.
-/
import Derived.Test.YtpmnflnaeknakaaGreatDoorStoCelM
import Derived.Test.YtpmnflnaeknakaaGreatDoorKeyEq
import Derived.BigQuiet
import Derived.WalkSmall
namespace Go.Proofs.YtpmnflnaeknakaaGreatDoor
open Go.RowKit Go.Maps

set_option maxRecDepth 100000 in
set_option maxHeartbeats 4000000 in
theorem sameone_any (k t : ByteArray) (h : Bool) (s : Int) (a a' : Option Addr) (n c c' : Nat) (l : List ByteArray) (w : World) (h1 : IsTexts w (.slice a n c) l) (h2 : IsTexts w (.slice a' n c') l) (hl : l.length ≤ 1000000) :
    Calls Tryz.prog 25 #[.agg #[.string k, .bool h, .string t, .int .i64 s, .slice a n c], .agg #[.string k, .bool h, .string t, .int .i64 s, .slice a' n c']] w fun e w' => e = .returned (.bool true) ∧ Below w.heap.size w w' := by
  have H1 := Lib.hid h1
  have H2 := Lib.hid h2
  have HL := Lib.hid hl
  clear h1 h2 hl
  go_enter Tryz.func25, Tryz.ntmps25
  go_wp2_with (go_at_call 26; refine (teq_same _ _ l _ ((H1.out.alloc _).alloc _) ((H2.out.alloc _).alloc _) (by have := HL.out; omega)).mono ?_; rintro r w1 ⟨rfl, q, rfl⟩)
  go_ret
  exact ⟨rfl, below_drewN (((Below.refl _ _).alloc (Nat.le_refl _) _).alloc (by simp) _) _⟩

set_option maxRecDepth 100000 in
set_option maxHeartbeats 4000000 in
theorem eqf_any (v v' : Value) (z : List (ByteArray × Cel)) (w : World) (h : IsCells w v z) (h' : IsCells w v' z) (hz : z.length ≤ 1000000) (hzl : ∀ p ∈ z, p.2.list.length ≤ 1000000) :
    Calls Tryz.prog 24 #[v, v', .func (.func 25) #[] #[]] w fun e w' => e = .returned (.bool true) ∧ Below w.heap.size w w' := by
  obtain ⟨zs, hv, hl, hc⟩ := h
  obtain ⟨zs', hv', hl', hc'⟩ := h'
  obtain ⟨a, cap, rfl, hf⟩ := hv.form
  obtain ⟨a', cap', rfl, hf'⟩ := hv'.form
  obtain ⟨n, hn⟩ : ∃ n, n = z.length := ⟨_, rfl⟩
  rw [hl', ← hn]
  rw [hl, ← hn]
  rw [← hn] at hz
  have HN := Lib.hid hn
  have HF := Lib.hid hf
  have HF' := Lib.hid hf'
  have HC := Lib.hid hc
  have HC' := Lib.hid hc'
  have HLL : Hid (zs.length = n ∧ zs'.length = n) := Lib.hid ⟨by rw [hl, hn], by rw [hl', hn]⟩
  have HZL := Lib.hid hzl
  clear hv hv' hl hl' hc hc' hf hf' hn hzl
  go_enter Tryz.func24, Tryz.ntmps24
  go_wp2
  go_loopw [17] (fun i wr => ∃ k : Nat, k ≤ n ∧ i = .int .i64 k ∧ Below w.heap.size w wr) (fun i _ => n - (intOf i).toNat)
  case atStart => exact ⟨0, by omega, rfl, Below.refl _ _⟩
  case round =>
    obtain ⟨k, hk, rfl, hb⟩ := hrel
    have HB := Lib.hid hb
    clear hb
    by_cases hlt : k < n
    · have b1 : decide ((k : Int) < (n : Int)) = true := by simpa using hlt
      obtain ⟨x, hx⟩ : ∃ x, zs[k]? = some x := ⟨zs[k]'(by rw [HLL.out.1]; exact hlt), List.getElem?_eq_getElem _⟩
      obtain ⟨y, hy⟩ : ∃ y, zs'[k]? = some y := ⟨zs'[k]'(by rw [HLL.out.2]; exact hlt), List.getElem?_eq_getElem _⟩
      obtain ⟨b, off, rfl, hbl, c0, c1, c2, c3, c4⟩ := HF.out k x hx
      obtain ⟨b', off', rfl, hbl', d0, d1, d2, d3, d4⟩ := HF'.out k y hy
      obtain ⟨p, hp, e1, e2, e3, e4, e5⟩ := HC.out k x hx
      obtain ⟨p', hp', f1, f2, f3, f4, f5⟩ := HC'.out k y hy
      rw [hp] at hp'
      obtain rfl := Option.some.inj hp'
      obtain ⟨kx, hxx, tx, sx, lx⟩ := x
      obtain ⟨ky, hyy, ty, sy, ly⟩ := y
      simp only at e1 e2 e3 e4 e5 f1 f2 f3 f4 f5 c0 c1 c2 c3 c4 d0 d1 d2 d3 d4
      obtain rfl : ky = kx := f1.trans e1.symm
      obtain rfl : hyy = hxx := f2.trans e2.symm
      obtain rfl : ty = tx := f3.trans e3.symm
      obtain rfl : sy = sx := f4.trans e4.symm
      obtain ⟨la, lc, rfl⟩ := e5.form
      obtain ⟨la', lc', rfl⟩ := f5.form
      have hq := HZL.out p (List.mem_of_getElem? hp)
      obtain ⟨m, hm⟩ : ∃ m, m = p.2.list.length := ⟨_, rfl⟩
      rw [← hm] at c4 d4 e5 f5
      have hq2 : p.2.list.length ≤ 1000000 := hq
      have HQ := Lib.hid hq2
      have E5 := Lib.hid e5
      have F5 := Lib.hid f5
      have up : ∀ B, B < w.heap.size → ∀ j u, w.cell? ⟨B, j, none⟩ = some u → wr.cell? ⟨B, j, none⟩ = some u := fun B hB j u hu => (HB.out.cell (p := ⟨B, j, none⟩) hB).trans hu
      have g0 := up _ hbl _ _ c0
      have g1 := up _ hbl _ _ c1
      have g2 := up _ hbl _ _ c2
      have g3 := up _ hbl _ _ c3
      have g4 := up _ hbl _ _ c4
      have i0 := up _ hbl' _ _ d0
      have i1 := up _ hbl' _ _ d1
      have i2 := up _ hbl' _ _ d2
      have i3 := up _ hbl' _ _ d3
      have i4 := up _ hbl' _ _ d4
      have hbr : b' < wr.heap.size := Nat.lt_of_lt_of_le hbl' HB.out.size
      have hbn : ¬ wr.heap.size = b' := by omega
      have hbn2 : ¬ b' = wr.heap.size := by omega
      have HSZ := Lib.hid HB.out.size
      clear up c0 c1 c2 c3 c4 d0 d1 d2 d3 d4 e1 e2 e3 e4 e5 f1 f2 f3 f4 f5 hp hx hy hbl hbl' hm hq hq2
      go_wp2_with (go_at_call 25; refine (sameone_any _ _ _ _ _ _ m _ _ p.2.list _ ((E5.out.below (HB.out.alloc HSZ.out _)).alloc _) ((F5.out.below (HB.out.alloc HSZ.out _)).alloc _) HQ.out).mono ?_; rintro r w3 ⟨rfl, hb3⟩; have HB3 := Lib.hid hb3; clear hb3)
      go_roundw
      · refine ⟨k + 1, by omega, by simp, ((HB.out.alloc HSZ.out _).alloc (by simp; have := HSZ.out; omega) _).trans (HB3.out.mono (by simp; have := HSZ.out; omega))⟩
      · simp [intOf]; omega
    · have b1 : decide ((k : Int) < (n : Int)) = false := by simp; omega
      go_wp2
      go_ret
      exact ⟨rfl, HB.out⟩

set_option maxRecDepth 100000 in
theorem same_any (v v' : Value) (z : List (ByteArray × Cel)) (w : World) (h : IsCells w v z) (h' : IsCells w v' z) (hz : z.length ≤ 1000000) (hzl : ∀ p ∈ z, p.2.list.length ≤ 1000000) :
    Calls Tryz.prog 11 #[v, v'] w fun e w' => e = .returned (.bool true) ∧ Below w.heap.size w w' := by
  have HH := Lib.hid h
  have HH' := Lib.hid h'
  have HZ := Lib.hid hz
  have HZL := Lib.hid hzl
  clear h h' hz hzl
  go_enter Tryz.func11, Tryz.ntmps11
  go_wp2_with (go_at_call 24; refine (eqf_any v v' z _ HH.out HH'.out HZ.out HZL.out).mono ?_; rintro r w3 ⟨rfl, hb3⟩; have HB3 := Lib.hid hb3; clear hb3)
  go_ret
  exact ⟨rfl, HB3.out⟩
end Go.Proofs.YtpmnflnaeknakaaGreatDoor
