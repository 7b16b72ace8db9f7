/-
  The walk of 'packtrainkeep.StoreLast'.
-/
import Derived.Test.YtcoejiehckileaaDoorStoLaw
import Derived.BigQuiet
import Derived.Deep.QuietTactic
namespace Go.Proofs.YtcoejiehckileaaDoor
open Go.RowKit

/-- One step of what was put last. -/
def lastS (k : ByteArray) (a : Bool × ByteArray) (w : Wr) : Bool × ByteArray := if w.key = k ∧ w.kind = 2 then (false, ⟨#[]⟩) else if w.key = k ∧ w.kind = 1 then (true, w.value) else a
theorem lastP_snoc {l : List Wr} {j : Nat} {x : Wr} (hx : l[j]? = some x) (k : ByteArray) : lastP (l.take (j + 1)) k = lastS k (lastP (l.take j) k) x := by
  unfold lastP
  rw [List.take_add_one, hx]
  show (l.take j ++ [x]).foldl _ _ = _
  rw [List.foldl_append]
  rfl

set_option maxRecDepth 100000 in
set_option maxHeartbeats 8000000 in
theorem storeLast_walk (W : World) (v : Value) (l : List Wr) (hi : IsWrs W v l) (hl : l.length ≤ 9223372036854775807) (hok : ∀ t ∈ l, WrOk t) {Q : Prop} (_ : Q) :
    Calls Tryd.prog 9 #[v] W fun e w' => e = .returned (.bool true) ∧ Below W.heap.size W w' := by
  have HI := Lib.hid hi
  have HOK := Lib.hid hok
  clear hi hok
  go_enter Tryd.func9, Tryd.ntmps9
  go_wp2_with (go_at_call 11; refine (stored_any _).mono ?_; rintro r w1 ⟨rfl, hb1⟩; have HB1 := Lib.hid hb1; clear hb1)
  refine (right_any v l _ (HI.out.below HB1.out) hl HOK.out).mono ?_
  rintro r w2 ⟨u, rfl, ho2, hb2⟩
  have hrt : ∀ x ∈ rightL l, wrF x = 0 := fun x hx => (rightL_ok hx).1
  have hln := rightL_len l
  generalize rightL l = L at ho2 hrt hln
  obtain ⟨au, cu, rfl, hf⟩ := ho2.is.form
  have HB2 : Hid (Below W.heap.size W w2) := Lib.hid (HB1.out.trans (hb2.mono HB1.out.size))
  have HO2 := Lib.hid ho2.is
  have HRT := Lib.hid hrt
  have HF := Lib.hid hf
  obtain ⟨m, hm⟩ : ∃ m, m = L.length := ⟨_, rfl⟩
  rw [← hm] at hln HO2 ⊢
  have HM := Lib.hid hm
  clear ho2 hb2 hrt hf hm HB1
  go_wp2_with (go_at_call 13; refine (of_good _ L _ HO2.out HRT.out (by have := HM.out; omega)).mono ?_; rintro r w3 ⟨u3, rfl, ⟨zs, hv3, hl3, hc3⟩, hb3⟩; obtain ⟨a3, c3, rfl, hf3⟩ := hv3.form; have HF3 := Lib.hid hf3; have HC3 := Lib.hid hc3; have HL3 := Lib.hid hl3; have HB3 := Lib.hid hb3; clear hv3 hl3 hc3 hf3 hb3)
  obtain ⟨n, hn⟩ : ∃ n, n = zs.length := ⟨_, rfl⟩
  have hn2 : n ≤ 60 := by rw [hn, HL3.out]; have := cellsF_len L; have := HM.out; omega
  rw [← hn]
  have HN := Lib.hid hn
  clear hn
  go_loopw [22] (fun i wr => ∃ k : Nat, k ≤ n ∧ i = .int .i64 k ∧ Below w3.heap.size w3 wr) (fun i _ => n - (intOf i).toNat)
  case atStart => exact ⟨0, by omega, rfl, Below.refl _ _⟩
  case round =>
    obtain ⟨k, hk, rfl, hb⟩ := hrel
    obtain ⟨wo, rfl⟩ : ∃ wo, wo = wr := ⟨_, rfl⟩
    have HB := Lib.hid hb
    clear hb
    by_cases hlt : k < n
    · have b1 : decide ((k : Int) < (n : Int)) = true := by simpa using hlt
      obtain ⟨x, hx⟩ : ∃ x, zs[k]? = some x := ⟨zs[k]'(by rw [← HN.out]; exact hlt), List.getElem?_eq_getElem _⟩
      obtain ⟨b, off, rfl, hbl, c0, c1, c2, c3', c4⟩ := HF3.out k x hx
      obtain ⟨⟨pk, pc⟩, hp, e1, e2, e3, e4, e5⟩ := HC3.out k x hx
      have hpc : cellK L pk = pc := (cellsF_mem.1 (List.mem_of_getElem? hp)).1
      have hla := cell_last L pk
      rw [hpc] at hla
      obtain ⟨kx, hxx, tx, sx, lx⟩ := x
      simp only at e1 e2 e3 e4 e5 c0 c1 c2 c3' c4
      rw [← e2, ← e3] at hla
      subst e1
      obtain ⟨la, lc, rfl⟩ := e5.form
      have HLA : Hid ((hxx, tx) = lastP L kx) := Lib.hid hla
      have up : ∀ j u, w3.cell? ⟨b, j, none⟩ = some u → wo.cell? ⟨b, j, none⟩ = some u := fun j u hu => (HB.out.cell (p := ⟨b, j, none⟩) hbl).trans hu
      have g0 := up _ _ c0
      have g1 := up _ _ c1
      have g2 := up _ _ c2
      have g3 := up _ _ c3'
      have g4 := up _ _ c4
      have HSR := Lib.hid HB.out.size
      clear hx c0 c1 c2 c3' c4 hp e2 e3 e4 e5 hpc hla up
      go_wp2
      obtain ⟨w4, hw4⟩ : ∃ w4, w4 = wo.alloc (.cells #[.string kx, .bool hxx, .string tx, .int .i64 sx, .slice la pc.list.length lc] 32) := ⟨_, rfl⟩
      have hrow4 : w4.heap[wo.heap.size]? = some (.cells #[.string kx, .bool hxx, .string tx, .int .i64 sx, .slice la pc.list.length lc] 32 (0, 0)) := by rw [hw4]; exact (MapKept.heap_alloc wo _).1
      have HR4 := Lib.hid hrow4
      have HB4 : Hid (Below w3.heap.size w3 w4) := Lib.hid (by rw [hw4]; exact HB.out.alloc HSR.out _)
      rw [← hw4]
      clear hw4 hrow4 g0 g1 g2 g3 g4
      go_loopw [7, 8, 28] (fun hv tv i wr => ∃ j : Nat, ∃ hh tt, j ≤ m ∧ i = .int .i64 j ∧ hv = .bool hh ∧ tv = .string tt ∧ (hh, tt) = lastP (L.take j) kx ∧ Below w4.heap.size w4 wr) (fun _ _ i _ => m - (intOf i).toNat)
      case atStart => exact ⟨0, false, ⟨#[]⟩, by omega, rfl, rfl, rfl, rfl, Below.refl _ _⟩
      case round =>
        obtain ⟨j, hh, tt, hj, rfl, rfl, rfl, hlp, hb⟩ := hrel
        have HLP := Lib.hid hlp
        have HB5 := Lib.hid hb
        clear hlp hb
        have hrow5 := (HB5.out.block wo.heap.size (Array.getElem?_eq_some_iff.1 HR4.out).1).trans HR4.out
        have g0 := cell_of_row _ _ 0 _ _ _ hrow5
        have g1 := cell_of_row _ _ 1 _ _ _ hrow5
        have g2 := cell_of_row _ _ 2 _ _ _ hrow5
        simp only [List.getElem?_toArray, List.getElem?_cons_zero, List.getElem?_cons_succ] at g0 g1 g2
        have hlw : wo.heap.size < wr.heap.size := Nat.lt_of_lt_of_le (Array.getElem?_eq_some_iff.1 HR4.out).1 HB5.out.size
        have hne : ¬ wr.heap.size = wo.heap.size := by omega
        have hne2 : ¬ wo.heap.size = wr.heap.size := by omega
        clear hrow5
        by_cases hlt2 : j < m
        · have b2 : decide ((j : Int) < (m : Int)) = true := by simpa using hlt2
          obtain ⟨y, hy⟩ : ∃ y, L[j]? = some y := ⟨L[j]'(by rw [← HM.out]; exact hlt2), List.getElem?_eq_getElem _⟩
          obtain ⟨b', off', rfl, hbl', d0, d1, d2, d3, d4, d5⟩ := HF.out j y hy
          have HY := Lib.hid hy
          obtain ⟨T, Re, K, key, val, N⟩ := y
          simp only at d0 d1 d2 d3 d4 d5
          have hb25 : Below w2.heap.size w2 wr := (HB3.out.trans (HB4.out.mono HB3.out.size)).trans (HB5.out.mono (Nat.le_trans HB3.out.size HB4.out.size))
          have up : ∀ j u, w2.cell? ⟨b', j, none⟩ = some u → wr.cell? ⟨b', j, none⟩ = some u := fun j u hu => (hb25.cell (p := ⟨b', j, none⟩) hbl').trans hu
          have i0 := up _ _ d0
          have i1 := up _ _ d1
          have i2 := up _ _ d2
          have i3 := up _ _ d3
          have i4 := up _ _ d4
          have i5 := up _ _ d5
          have HSR5 := Lib.hid HB5.out.size
          have HBA : Hid (Below w4.heap.size w4 (wr.alloc (.cells #[.int .i64 T, .int .i64 Re, .int .i64 K, .string key, .string val, .int .i64 N] 37))) := Lib.hid (HB5.out.alloc HSR5.out _)
          clear hy d0 d1 d2 d3 d4 d5 up hb25 hbl'
          by_cases hkey : key = kx
          · subst hkey
            by_cases h1 : K = 1
            · subst h1
              go_wp2
              go_quiet (fail)
              go_wp2
              go_roundw
              · exact ⟨j + 1, true, val, by omega, by simp, rfl, rfl, by rw [lastP_snoc HY.out, ← HLP.out]; simp [lastS], below_drewN HBA.out _⟩
              · simp [intOf]; omega
            · have k1 : (K == 1) = false := by simpa using h1
              by_cases h2 : K = 2
              · subst h2
                go_wp2
                go_roundw
                · exact ⟨j + 1, false, ⟨#[]⟩, by omega, by simp, rfl, rfl, by rw [lastP_snoc HY.out, ← HLP.out]; simp [lastS], HBA.out⟩
                · simp [intOf]; omega
              · have k2 : (K == 2) = false := by simpa using h2
                have HK : Hid (K ≠ 1 ∧ K ≠ 2) := Lib.hid ⟨h1, h2⟩
                go_wp2
                go_roundw
                · exact ⟨j + 1, hh, tt, by omega, by simp, rfl, rfl, by rw [lastP_snoc HY.out, ← HLP.out]; simp [lastS, HK.out.1, HK.out.2], HBA.out⟩
                · simp [intOf]; omega
          · have hs : (key.toList == kx.toList) = false := by
              rw [ByteArray.toList_eq, ByteArray.toList_eq, beq_eq_false_iff_ne]
              intro e
              exact hkey (by cases key; cases kx; simp_all)
            have HK := Lib.hid hkey
            clear hkey
            go_wp2
            go_roundw
            · exact ⟨j + 1, hh, tt, by omega, by simp, rfl, rfl, by rw [lastP_snoc HY.out, ← HLP.out]; simp [lastS, HK.out], HBA.out⟩
            · simp [intOf]; omega
        · have b2 : decide ((j : Int) < (m : Int)) = false := by simp; omega
          obtain rfl : j = m := by omega
          have he : (hxx, tx) = (hh, tt) := by rw [HLA.out, HLP.out, List.take_of_length_le (by rw [HM.out]; exact Nat.le_refl _)]
          simp only [Prod.mk.injEq] at he
          obtain ⟨rfl, rfl⟩ := he
          go_wp2
          go_roundw
          · exact ⟨k + 1, by omega, by simp, HB4.out.trans (HB5.out.mono HB4.out.size)⟩
          · simp [intOf]; omega
    · have b1 : decide ((k : Int) < (n : Int)) = false := by simp; omega
      go_wp2
      go_ret
      exact ⟨rfl, (HB2.out.trans (HB3.out.mono HB2.out.size)).trans (HB.out.mono (Nat.le_trans HB2.out.size HB3.out.size))⟩
end Go.Proofs.YtcoejiehckileaaDoor
