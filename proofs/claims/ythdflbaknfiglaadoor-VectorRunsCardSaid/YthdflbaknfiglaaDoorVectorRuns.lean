/-
  The walk of 'packtrainkeep.VectorRuns'.
-/
import Derived.Test.YthdflbaknfiglaaDoorVecFact
import Derived.Test.YthdflbaknfiglaaDoorVecLaw
import Derived.Test.YthdflbaknfiglaaDoorPick
namespace Go.Proofs.YthdflbaknfiglaaDoor
open Go.RowKit

/-- So many entries, so far from each other. -/
def mkF (g : Nat) (t : Int) : Nat → Nat → List Ent
  | _, 0 => []
  | k, m + 1 => ⟨((g * k : Nat) : Int), t⟩ :: mkF g t (k + 1) m
theorem mkF_snoc (g : Nat) (t : Int) (m : Nat) : ∀ k, mkF g t k (m + 1) = mkF g t k m ++ [⟨((g * (k + m) : Nat) : Int), t⟩] := by
  induction m with
  | zero => intro k; rfl
  | succ m ih =>
    intro k
    rw [mkF, ih (k + 1), mkF, List.cons_append, show k + 1 + m = k + (m + 1) by omega]
theorem mkF_len (g : Nat) (t : Int) (m : Nat) : ∀ k, (mkF g t k m).length = m := by
  induction m with
  | zero => intro k; rfl
  | succ m ih => intro k; rw [mkF, List.length_cons, ih]
theorem mkF_ok {g : Nat} {t : Int} (hg : 1 ≤ g) (h1 : 1 ≤ t) (h2 : t ≤ 1099511627776) (m : Nat) : ∀ (k : Nat) (last : Int), last < ((g * k : Nat) : Int) → g * (k + m) ≤ 200 + g → okV last (mkF g t k m) := by
  induction m with
  | zero => intro k last _ _; trivial
  | succ m ih =>
    intro k last hl hm
    have e1 : g * (k + 1) = g * k + g := Nat.mul_succ g k
    have e2 : g * (k + (m + 1)) = g * (k + m) + g := Nat.mul_succ g (k + m)
    have e3 : g * k ≤ g * (k + m) := Nat.mul_le_mul_left g (by omega)
    refine ⟨?_, ih (k + 1) _ (by simp only; omega) (by rw [show k + 1 + m = k + (m + 1) by omega]; exact hm)⟩
    rw [wrE_ok]
    simp only
    omega
theorem mkF_right {g : Nat} {t : Int} {m : Nat} (hg : 1 ≤ g) (hg2 : g ≤ 9) (h1 : 1 ≤ t) (h2 : t ≤ 1099511627776) (hm : m ≤ 16) : rightV (mkF g t 0 m) := by
  refine ⟨by rw [mkF_len]; exact hm, mkF_ok hg h1 h2 m 0 (-1) (by omega) ?_⟩
  rw [Nat.zero_add]
  have : g * m ≤ 9 * 16 := Nat.mul_le_mul hg2 hm
  omega
theorem mkF_times (g : Nat) (t : Int) (m : Nat) : ∀ k, (timesB (mkF g t k m)).length = m * (putL t.toNat).length := by
  induction m with
  | zero => intro k; simp [mkF, timesB]
  | succ m ih => intro k; rw [mkF, timesB_cons, List.length_append, ih, Nat.succ_mul]; simp only; omega
theorem mkF_consec (t : Int) (m : Nat) : ∀ k : Nat, consec (k : Int) (mkF 1 t k m) := by
  induction m with
  | zero => intro k; trivial
  | succ m ih =>
    intro k
    refine ⟨by simp, ?_⟩
    have := ih (k + 1)
    simpa using this
/-- Each alone. -/
def sing (g : Nat) (t : Int) : Nat → Nat → List (List Ent)
  | _, 0 => []
  | k, m + 1 => [⟨((g * k : Nat) : Int), t⟩] :: sing g t (k + 1) m
theorem sing_flat (g : Nat) (t : Int) (m : Nat) : ∀ k, (sing g t k m).flatten = mkF g t k m := by
  induction m with
  | zero => intro k; rfl
  | succ m ih => intro k; rw [sing, mkF, List.flatten_cons, ih]; rfl
theorem sing_len (g : Nat) (t : Int) (m : Nat) : ∀ k, (sing g t k m).length = m := by
  induction m with
  | zero => intro k; rfl
  | succ m ih => intro k; rw [sing, List.length_cons, ih]
theorem sing_is {g : Nat} (t : Int) (hg : 2 ≤ g) (m : Nat) : ∀ (k : Nat) (least : Int), least ≤ ((g * k : Nat) : Int) → isRuns least (sing g t k m) := by
  induction m with
  | zero => intro k least _; trivial
  | succ m ih =>
    intro k least hl
    have e1 : g * (k + 1) = g * k + g := Nat.mul_succ g k
    exact ⟨by simp, by simpa using hl, ⟨rfl, trivial⟩, ih (k + 1) _ (by simp only [List.getLastD_cons, List.getLastD_nil]; omega)⟩
theorem sing_bytes {g : Nat} (t : Int) (hg : 2 ≤ g) (hg2 : g ≤ 9) (m : Nat) : ∀ (k : Nat) (least : Int), least ≤ ((g * k : Nat) : Int) → ((g * k : Nat) : Int) - least ≤ 100 → (runsB least (sing g t k m)).length = m * (2 + (putL t.toNat).length) := by
  induction m with
  | zero => intro k least _ _; simp [sing, runsB]
  | succ m ih =>
    intro k least hl hl2
    have e1 : g * (k + 1) = g * k + g := Nat.mul_succ g k
    rw [sing, runsB, List.length_append, Nat.succ_mul]
    have h1 := ih (k + 1) (((g * k : Nat) : Int) + 2) (by omega) (by omega)
    simp only [List.getLastD_cons, List.getLastD_nil]
    rw [h1]
    unfold runB
    simp only [List.headD_cons, List.length_append, List.length_cons, List.length_nil, timesB, List.flatMap_cons, List.flatMap_nil, List.append_nil]
    rw [putL_small (n := (((g * k : Nat) : Int) - least).toNat) (by omega), putL_small (n := 0 + 1 - 1) (by omega)]
    simp only [List.length_cons, List.length_nil]
    omega
/-- Beside each other it is less: two bytes a replica. -/
theorem runs_less {g m : Nat} {t : Int} (hg : 2 ≤ g) (hg2 : g ≤ 9) (hm : 1 ≤ m) (hm2 : m ≤ 16) : (vwriteL (mkF g t 0 m)).length = (vwriteL (mkF 1 t 0 m)).length + 2 * (m - 1) := by
  have hne : mkF 1 t 0 m ≠ [] := by
    intro h; have := mkF_len 1 t m 0; rw [h] at this; simp at this; omega
  have hc := mkF_consec t m 0
  have e1 : runsL (mkF 1 t 0 m) = [mkF 1 t 0 m] := by
    have h : isRuns 0 [mkF 1 t 0 m] := ⟨hne, by rw [consec_head hc hne]; exact Int.le_refl _, by rw [consec_head hc hne]; exact hc, trivial⟩
    have := runs_of h
    simpa using this
  have e2 : runsL (mkF g t 0 m) = sing g t 0 m := by
    have := runs_of (sing_is t hg m 0 0 (by omega))
    rw [sing_flat] at this; exact this
  unfold vwriteL
  rw [e1, e2, List.length_append, List.length_append, sing_len, sing_bytes t hg hg2 m 0 0 (by omega) (by omega)]
  rw [runsB, runsB, List.append_nil]
  unfold runB
  rw [consec_head hc hne, mkF_len]
  simp only [List.length_append, List.length_cons, List.length_nil, mkF_times]
  rw [putL_small (n := m) (by omega), putL_small (n := 0 + 1) (by omega), putL_small (n := ((0 : Nat) - (0 : Int)).toNat) (by simp), putL_small (n := m - 1) (by omega)]
  simp only [List.length_cons, List.length_nil]
  rw [Nat.mul_add]
  omega

/-- append of one entry; where the row lies then. -/
theorem wpList_append_ent2 {w : World} {ops : Array Oper} {rest : List Oper} {o : Oper} {a : Act} {Q : Exit → Act → World → Prop} (hgd : o.guard = none) (s x : Operand)
    (ho : o.op = .call { callee := .builtin .append, args := #[s, x], argTypes := #[22, 22] })
    (base : Nat) (v : Value) (l : List Ent) (hs : a.eval s = v) (hown : ownsE w base v l)
    (B c : Nat) (hx : a.eval x = .slice (some ⟨B, 0, none⟩) 1 c) (t : Ent) (hcell : entBlk w B t)
    (hlen : l.length + 1 ≤ 1000000) (hbase : base ≤ w.heap.size)
    (h : ∀ g cap w', ownsE w' base (.slice (some ⟨g, 0, none⟩) (l.length + 1) cap) (l ++ [t]) → w.grownBy w' v.ownBlock → (v.ownBlock = some g ∨ g = w.heap.size) → wpList Tryd.prog ops Q rest (a.put o.dst (.slice (some ⟨g, 0, none⟩) (l.length + 1) cap)) w') : wpList Tryd.prog ops Q (o :: rest) a w := by
  obtain ⟨i0, hi, hz0, hz1, hz2⟩ := info_parts info_ent
  refine wpList_append_lies w hgd s x 22 ho base 40 i0 (.agg #[.int .i64 0, .int .i64 0]) 2 16 Tryd.underlying22 hi hz0 hz1 hz2 rfl (by decide) v l.length (entsC l) hs hown ⟨B, 0, none⟩ 1 c (entC t) hx rfl ?_ ?_ (by decide) (by unfold maxLen; omega) (by omega) hbase _ rfl ?_
  · intro j u hj
    have hadd : (⟨B, 0, none⟩ : Addr).add j = ⟨B, j, none⟩ := by unfold Addr.add; split <;> simp_all
    rw [hadd, cell_of_row _ _ _ _ _ _ hcell, ← hj]
    unfold entC; simp
  · intro u hu; simp [entC] at hu; rcases hu with rfl | rfl <;> rfl
  · intro g cap w' h1 h2 h3 _
    refine h g cap w' ?_ h2 h3
    unfold ownsE
    rw [List.length_append, entsC_app]
    simpa [entsC] using h1
/-- Two rows never share a block. -/
def apart (v u : Value) : Prop := v.ownBlock = none ∨ v.ownBlock ≠ u.ownBlock
theorem apart.symm {v u : Value} (h : apart v u) : apart u v := by
  rcases h with h | h
  · by_cases h2 : u.ownBlock = none
    · exact .inl h2
    · exact .inr (by rw [h]; exact h2)
  · exact .inr (Ne.symm h)
/-- Two rows of entries, apart. -/
def TwoE (w : World) (A B : List Ent) (va vb : Value) (wr : World) : Prop := ownsE wr w.heap.size va A ∧ ownsE wr w.heap.size vb B ∧ apart va vb ∧ Below w.heap.size w wr
theorem TwoE.alloc {w : World} {A B : List Ent} {va vb : Value} {wr : World} (h : TwoE w A B va vb wr) (o : Obj) : TwoE w A B va vb (wr.alloc o) := ⟨h.1.alloc o, h.2.1.alloc o, h.2.2.1, h.2.2.2.alloc h.2.2.2.size o⟩
theorem TwoE.swap {w : World} {A B : List Ent} {va vb : Value} {wr : World} (h : TwoE w A B va vb wr) : TwoE w B A vb va wr := ⟨h.2.1, h.1, h.2.2.1.symm, h.2.2.2⟩
theorem TwoE.grown {w : World} {A A' B : List Ent} {va vb : Value} {wr w' : World} {g n cap : Nat} (h : TwoE w A B va vb wr) (ho : ownsE w' w.heap.size (.slice (some ⟨g, 0, none⟩) n cap) A') (hg : wr.grownBy w' va.ownBlock) (hw : va.ownBlock = some g ∨ g = wr.heap.size) : TwoE w A' B (.slice (some ⟨g, 0, none⟩) n cap) vb w' := by
  obtain ⟨h1, h2, h3, h4⟩ := h
  refine ⟨ho, World.ownsRow.kept h2 hg h3.symm, ?_, h4.grown hg h4.size (fun k hk => (h1.lt k hk).1)⟩
  refine .inr ?_
  show some g ≠ vb.ownBlock
  rcases hw with hw | hw
  · rcases h3 with h | h
    · rw [h] at hw; cases hw
    · rw [hw] at h; exact h
  · intro e
    have := (h2.lt g e.symm).2
    omega

set_option maxRecDepth 100000 in
set_option maxHeartbeats 4000000 in
theorem vectorRuns_walk (n : Int) (_ : -9223372036854775808 ≤ n) (_ : n ≤ 9223372036854775807) (gap : Int) (_ : -9223372036854775808 ≤ gap) (_ : gap ≤ 9223372036854775807) (time : Int) (_ : -9223372036854775808 ≤ time) (_ : time ≤ 9223372036854775807) (w : World) (hg : errT w) :
    Calls Tryd.prog 14 #[.int .i64 n, .int .i64 gap, .int .i64 time] w fun e w' => e = .returned (.bool true) ∧ Below w.heap.size w w' := by
  have HG := Lib.hid hg
  have hp1 := pickN_pos (a := n) (n := 16) (by decide)
  have hp2 := pickN_pos (a := gap) (n := 8) (by decide)
  have hp3 := pickN_pos (a := time) (n := 1099511627776) (by decide)
  obtain ⟨p, hp⟩ := Int.eq_ofNat_of_zero_le hp1.1
  obtain ⟨q, hq⟩ := Int.eq_ofNat_of_zero_le hp2.1
  obtain ⟨r0, hr0⟩ := Int.eq_ofNat_of_zero_le hp3.1
  rw [hp] at hp1
  rw [hq] at hp2
  rw [hr0] at hp3
  have HP := Lib.hid hp
  have HQ := Lib.hid hq
  have HR0 := Lib.hid hr0
  obtain ⟨N, hN⟩ : ∃ N, N = p + 1 := ⟨_, rfl⟩
  obtain ⟨g, hgg⟩ : ∃ g, g = q + 2 := ⟨_, rfl⟩
  obtain ⟨t, ht⟩ : ∃ t, t = r0 + 1 := ⟨_, rfl⟩
  have eN : 1 + (p : Int) = (N : Int) := by omega
  have eg : 2 + (q : Int) = (g : Int) := by omega
  have et : 1 + (r0 : Int) = (t : Int) := by omega
  have hN1 : 1 ≤ N := by omega
  have hN2 : N ≤ 16 := by omega
  have hg1 : 2 ≤ g := by omega
  have hg2 : g ≤ 9 := by omega
  have ht1 : 1 ≤ t := by omega
  have ht2 : t ≤ 1099511627776 := by omega
  clear hg hp hq hr0 hN hgg ht
  have HRA : Hid (rightV (mkF 1 (t : Int) 0 N)) := Lib.hid (mkF_right (by omega) (by omega) (by omega) (by omega) hN2)
  have HRB : Hid (rightV (mkF g (t : Int) 0 N)) := Lib.hid (mkF_right (by omega) hg2 (by omega) (by omega) hN2)
  have hless := runs_less (t := (t : Int)) hg1 hg2 hN1 hN2
  obtain ⟨TA, hTA⟩ : ∃ T : ByteArray, ⟨(vwriteL (mkF 1 (t : Int) 0 N)).toArray⟩ = T := ⟨_, rfl⟩
  obtain ⟨TB, hTB⟩ : ∃ T : ByteArray, ⟨(vwriteL (mkF g (t : Int) 0 N)).toArray⟩ = T := ⟨_, rfl⟩
  have HTA : Hid (vwriteL (mkF 1 (t : Int) 0 N) = TA.data.toList) := Lib.hid (by rw [← hTA])
  have HTB : Hid (vwriteL (mkF g (t : Int) 0 N) = TB.data.toList) := Lib.hid (by rw [← hTB])
  have hsz : TB.size = TA.size + 2 * (N - 1) := by rw [size_data, size_data, ← HTA.out, ← HTB.out]; exact hless
  have hsa : TA.size ≤ 500 := by rw [size_data, ← HTA.out]; exact (vwrite_len HRA.out).1
  obtain ⟨za, hza⟩ : ∃ z, z = TA.size := ⟨_, rfl⟩
  obtain ⟨N1, hN11⟩ : ∃ x, x = N - 1 := ⟨_, rfl⟩
  have eN1 : (N : Int) - 1 = (N1 : Int) := by omega
  have eN2 : 2 * (N1 : Int) = ((2 * N1 : Nat) : Int) := by omega
  have HSZ : Hid ((TB.size : Int) = (TA.size : Int) + 2 * (N1 : Int)) := Lib.hid (by omega)
  have hN1b : N1 ≤ 15 := by omega
  clear hless hTA hTB hsz hza hN11
  go_enter Tryd.func14, Tryd.ntmps14
  go_wp2_with fail
  refine (known_any _ HG.out).mono ?_
  rintro r w1 ⟨rfl, hb1⟩
  have HB1 := Lib.hid hb1
  clear hb1
  go_wp2_with fail
  refine (pick_any n 16 _ (by decide) (by decide)).mono ?_
  rintro r w' ⟨rfl, rfl⟩
  rw [HP.out]
  go_wp2_with fail
  refine (pick_any gap 8 _ (by decide) (by decide)).mono ?_
  rintro r w' ⟨rfl, rfl⟩
  rw [HQ.out]
  go_wp2_with fail
  refine (pick_any time 1099511627776 _ (by decide) (by decide)).mono ?_
  rintro r w' ⟨rfl, rfl⟩
  rw [HR0.out]
  go_wp2
  clear eN eg et
  go_loopw [7, 8, 26] (fun va vb i wr => ∃ k : Nat, k ≤ N ∧ i = .int .i64 k ∧ TwoE w (mkF 1 (t : Int) 0 k) (mkF g (t : Int) 0 k) va vb wr) (fun _ _ i _ => N - (intOf i).toNat)
  case atStart => exact ⟨0, by omega, rfl, ownsE_nil _ _, ownsE_nil _ _, .inl rfl, HB1.out⟩
  case round =>
    obtain ⟨k, hk, rfl, htwo⟩ := hrel
    have HT := Lib.hid htwo
    have hz := htwo.2.2.2.size
    clear htwo
    have la := mkF_len 1 (t : Int) k 0
    have lb := mkF_len g (t : Int) k 0
    by_cases hlt : k < N
    · obtain ⟨gk, hgk⟩ : ∃ x, x = g * k := ⟨_, rfl⟩
      have egk : (g : Int) * (k : Int) = (gk : Int) := by rw [hgk]; simp
      have hgb : gk ≤ 144 := by rw [hgk]; exact Nat.mul_le_mul (m₂ := 16) hg2 (by omega)
      have HSA : Hid (mkF 1 (t : Int) 0 (k + 1) = mkF 1 (t : Int) 0 k ++ [⟨(k : Int), (t : Int)⟩]) := Lib.hid (show mkF 1 (t : Int) 0 (k + 1) = mkF 1 (t : Int) 0 k ++ [⟨(k : Int), (t : Int)⟩] by rw [mkF_snoc]; simp)
      have HSB : Hid (mkF g (t : Int) 0 (k + 1) = mkF g (t : Int) 0 k ++ [⟨(gk : Int), (t : Int)⟩]) := Lib.hid (show mkF g (t : Int) 0 (k + 1) = mkF g (t : Int) 0 k ++ [⟨(gk : Int), (t : Int)⟩] by rw [mkF_snoc, hgk]; simp)
      have HLA := Lib.hid la
      have HLB := Lib.hid lb
      clear hgk la lb
      go_wp2_with (at_builtin; refine wpList_append_ent2 rfl _ _ rfl w.heap.size _ (mkF 1 (t : Int) 0 k) rfl (HT.out.alloc _).1 wr.heap.size 1 rfl ⟨k, t⟩ ?c1 ?c2 ?c3 ?_)
      case c1 => exact entBlk_new _ _ _
      case c2 => have := HLA.out; omega
      case c3 => simp; omega
      · intro ga capa w2 ho2 hg2' hw2
        have HT2 := Lib.hid ((HT.out.alloc _).grown ho2 hg2' (by rw [World.size_alloc]; exact hw2))
        rw [← HSA.out] at HT2
        have hz2 := HT2.out.2.2.2.size
        clear ho2 hg2' hw2
        go_wp2_with (at_builtin; refine wpList_append_ent2 rfl _ _ rfl w.heap.size _ (mkF g (t : Int) 0 k) rfl (HT2.out.alloc _).2.1 w2.heap.size 1 rfl ⟨gk, t⟩ ?c4 ?c5 ?c6 ?_)
        case c4 => exact entBlk_new _ _ _
        case c5 => have := HLB.out; omega
        case c6 => simp; omega
        · intro gb capb w3 ho3 hg3' hw3
          have HT3 := Lib.hid ((HT2.out.alloc _).swap.grown ho3 hg3' (by rw [World.size_alloc]; exact hw3)).swap
          rw [← HSB.out] at HT3
          clear ho3 hg3' hw3
          go_wp2
          go_roundw
          case rel => exact ⟨k + 1, by omega, by go_num, HT3.out⟩
          case measure => simp [intOf]; omega
    · obtain rfl : k = N := by omega
      have HIA := Lib.hid HT.out.1.is
      have HIB := Lib.hid HT.out.2.1.is
      have HBL := Lib.hid HT.out.2.2.2
      clear hlt
      go_wp2_with fail
      refine (vwrite_good _ (mkF 1 (t : Int) 0 k) TA _ HIA.out (by omega) HRA.out HTA.out).mono ?_
      rintro r w2 ⟨rfl, hb2⟩
      have HB2 : Hid (Below w.heap.size w w2) := HBL.out.trans (hb2.mono hz)
      have HIB2 := Lib.hid (HIB.out.below hb2)
      clear hb2
      go_wp2_with fail
      refine (vwrite_good _ (mkF g (t : Int) 0 k) TB _ HIB2.out (by omega) HRB.out HTB.out).mono ?_
      rintro r w3 ⟨rfl, hb3⟩
      have HB3 : Hid (Below w.heap.size w w3) := HB2.out.trans (hb3.mono HB2.out.size)
      clear hb3 la lb
      have hb5 : ((TB.size : Int) == (TA.size : Int) + 2 * (N1 : Int)) = true := by have := HSZ.out; simp; omega
      clear eN2
      go_wp2
      go_ret
      exact ⟨by first | rfl | simp, HB3.out⟩
end Go.Proofs.YthdflbaknfiglaaDoor
