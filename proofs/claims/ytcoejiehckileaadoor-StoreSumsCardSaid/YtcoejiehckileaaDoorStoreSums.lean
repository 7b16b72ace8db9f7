/-
  The walk of 'packtrainkeep.StoreSums'.
-/
import Derived.Test.YtcoejiehckileaaDoorWrRev
import Derived.Test.YtcoejiehckileaaDoorSumM
import Derived.Test.YtcoejiehckileaaDoorStoOf2
namespace Go.Proofs.YtcoejiehckileaaDoor
open Go.RowKit

/-- What is added. -/
def addsL (l : List Wr) : List Wr := l.filter (fun w => decide (w.kind = 3))
theorem addsL_yes {L : List Wr} {k : Nat} {x : Wr} (hx : L[k]? = some x) (h : x.kind = 3) : addsL (L.take (k + 1)) = addsL (L.take k) ++ [x] := by
  unfold addsL; rw [filt_snoc' _ hx, if_pos (by simpa using h)]
theorem addsL_no {L : List Wr} {k : Nat} {x : Wr} (hx : L[k]? = some x) (h : x.kind ≠ 3) : addsL (L.take (k + 1)) = addsL (L.take k) := by
  unfold addsL; rw [filt_snoc' _ hx, if_neg (by simpa using h), List.append_nil]
theorem addsL_len (L : List Wr) : (addsL L).length ≤ L.length := List.length_filter_le _ _
/-- slices.Reverse, of one's own writes. -/
theorem wrev2 (base : Nat) (v : Value) (l : List Wr) (w : World) (ho : ownsW w base v l) (hl : l.length ≤ 1000) :
    Calls Tryd.prog 29 #[v] w fun e w' => e = .returned (.tuple #[]) ∧ IsWrs w' v l.reverse ∧ w.grownBy w' v.ownBlock := by
  by_cases hz : l.length = 0
  · have hl0 : l = [] := List.length_eq_zero_iff.1 hz
    subst hl0
    rcases ho.2 with ⟨rfl, _⟩ | ⟨g, cap, cur, rfl, hb, hh, h1, h2, h3, h4⟩
    · refine (wrev_nil w).mono ?_
      rintro e w' ⟨rfl, rfl⟩
      exact ⟨rfl, .inl ⟨_, _, rfl, rfl⟩, grown_refl _ _⟩
    · refine (wrev_zero _ _ w).mono ?_
      rintro e w' ⟨rfl, rfl⟩
      exact ⟨rfl, .inl ⟨_, _, rfl, rfl⟩, grown_refl _ _⟩
  · rcases ho.2 with ⟨_, e⟩ | ⟨g, cap, cur, rfl, _⟩
    · exact absurd e hz
    · exact wrev_any base g l.length cap l w ho (by omega) hl
theorem texts_none (w : World) (a : Option Addr) (c : Nat) : IsTexts w (.slice a 0 c) [] := by first | exact .inl ⟨_, _, rfl, rfl⟩ | exact ⟨_, _, rfl, fun i t h => by simp at h⟩ | (unfold IsTexts; simp)
/-- Sums alone, read behind a store elsewhere. -/
theorem cells_stay {w w' : World} {u : Value} {z : List (ByteArray × Cel)} {base : Nat} (h : IsCells w u z) (hz : ∀ p ∈ z, p.2.list = []) (hu : ∀ k, u.ownBlock = some k → base ≤ k) (hg : ∀ k, base ≤ k → k < w.heap.size → w'.heap[k]? = w.heap[k]?) (hs : w.heap.size ≤ w'.heap.size) : IsCells w' u z := by
  obtain ⟨zs, h1, h2, h3⟩ := h
  refine ⟨zs, ?_, h2, fun i c hc => ?_⟩
  · rcases h1 with h1 | ⟨b, off, c, rfl, a1, a2, a3⟩
    · exact .inl h1
    · refine .inr ⟨b, off, c, rfl, a1, Nat.lt_of_lt_of_le a2 hs, fun j t hj => ?_⟩
      rw [← a3 j t hj]
      exact World.cell?_of_block (hg b (hu b rfl) a2)
  · obtain ⟨p, a, b, c1, d, e, f⟩ := h3 i c hc
    refine ⟨p, a, b, c1, d, e, ?_⟩
    rw [hz p (List.mem_of_getElem? a)] at f ⊢
    obtain ⟨q, r, e2⟩ := f.form
    rw [e2]
    exact texts_none _ _ _
theorem own_ne {w : World} {base M : Nat} {v : Value} {l : List Wr} (h : ownsW w base v l) (hM : M < base) : v.ownBlock = none ∨ v.ownBlock ≠ some M := by
  cases e : v.ownBlock with
  | none => exact .inl rfl
  | some g => exact .inr (fun e2 => by have := (h.lt g e).1; have e3 : g = M := Option.some.inj e2; omega)
theorem own_ne2 {w : World} {base M : Nat} {v : Value} {l : List Wr} (h : ownsW w base v l) (hM : M < base ∨ w.heap.size ≤ M) : some M ≠ v.ownBlock := fun e => by
  have h1 := h.lt M e.symm
  omega
theorem grown_via {a b c : World} {M : Nat} {o : Option Nat} (h : a.grownBy b (some M)) (k : b.grownBy c o) (ho : ∀ g, o = some g → g = M ∨ a.heap.size ≤ g) : a.grownBy c (some M) :=
  ⟨k.os.trans h.os, k.tape.trans h.tape, k.output.trans h.output, Nat.le_trans h.size k.size, fun i hi hne => (k.block i (Nat.lt_of_lt_of_le hi h.size) (fun e => by
    rcases ho i e.symm with rfl | h2
    · exact hne rfl
    · omega)).trans (h.block i hi hne)⟩
theorem adds_kind (L : List Wr) : ∀ w ∈ addsL L, w.kind = 3 := fun w hw => by simpa using (List.mem_filter.1 hw).2
theorem adds_cells {A : List Wr} (hA : ∀ w ∈ A, w.kind = 3) : ∀ p ∈ cellsF A, p.2.list = [] ∧ p.2.sum = sumW A p.1 := by
  rintro ⟨k, c⟩ hp
  obtain ⟨rfl, _⟩ := cellsF_mem.1 hp
  rw [cell_adds hA]
  exact ⟨rfl, rfl⟩

set_option maxRecDepth 100000 in
set_option maxHeartbeats 8000000 in
theorem storeSums_walk (W : World) (v : Value) (l : List Wr) (hi : IsWrs W v l) (hl : l.length ≤ 9223372036854775807) (hok : ∀ t ∈ l, WrOk t) {Q : Prop} (_ : Q) :
    Calls Tryd.prog 7 #[v] W fun e w' => e = .returned (.bool true) ∧ Below W.heap.size W w' := by
  have HI := Lib.hid hi
  have HOK := Lib.hid hok
  clear hi hok
  have hmm := @run_makeMap Tryd.prog
  go_enter Tryd.func7, Tryd.ntmps7
  go_wp2_with (go_at_call 11; refine (stored_any _).mono ?_; rintro r w1 ⟨rfl, hb1⟩; have HB1 := Lib.hid hb1; clear hb1)
  refine (right_any v l _ ((HI.out.below HB1.out).alloc _) hl HOK.out).mono ?_
  rintro r w3 ⟨u1, rfl, ho3, hb3⟩
  have hr : ∀ x ∈ rightL l, wrF x = 0 ∧ x ∈ l := fun x hx => rightL_ok hx
  have hn1 := rightL_len l
  obtain ⟨M, hM⟩ : ∃ M, M = w1.heap.size := ⟨_, rfl⟩
  have HS3 : Hid (ownsSum w3 M 0 (sumW [])) := Lib.hid (by rw [hM, sumW_nil]; exact (ownsSum_made w1).below hb3)
  have HO3 : Hid (ownsW w3 (M + 1) u1 (rightL l)) := Lib.hid (by have h := ho3; rw [World.size_alloc] at h; rw [hM]; exact h)
  have HB3 : Hid (Below W.heap.size W w3) := Lib.hid ((HB1.out.alloc HB1.out.size _).trans (hb3.mono (by have := HB1.out.size; simp; omega)))
  have HMS : Hid (W.heap.size ≤ M ∧ M < w3.heap.size) := Lib.hid ⟨by rw [hM]; exact HB1.out.size, by have := hb3.size; simp at this; omega⟩
  obtain ⟨a5, c5, rfl, _⟩ := ho3.is.form
  rw [← hM]
  clear ho3 hb3 hM HB1
  generalize rightL l = L at hr hn1 HO3 ⊢
  have HR : Hid (∀ x ∈ L, wrF x = 0 ∧ WrOk x) := Lib.hid (fun x hx => ⟨(hr x hx).1, HOK.out x (hr x hx).2⟩)
  obtain ⟨n, hn⟩ : ∃ n, n = L.length := ⟨_, rfl⟩
  rw [← hn] at HO3 ⊢
  have HN := Lib.hid hn
  have hn60 : n ≤ 60 := by omega
  clear hr hn hn1
  go_wp2_with fail
  go_loopw [3, 19] (fun u i wr => ∃ k j : Nat, k ≤ n ∧ j ≤ k ∧ i = .int .i64 k ∧ ownsW wr w3.heap.size u (addsL (L.take k)) ∧ ownsSum wr M j (sumW (addsL (L.take k))) ∧ w3.grownBy wr (some M)) (fun _ i _ => n - (intOf i).toNat)
  case atStart => exact ⟨0, 0, by omega, by omega, rfl, ownsW_nil _ _, HS3.out, grown_refl _ _⟩
  case round =>
    obtain ⟨k, j, hk, hjk, rfl, ho, hs, hg⟩ := hrel
    obtain ⟨wo, rfl⟩ : ∃ wo, wo = wr := ⟨_, rfl⟩
    have HO := Lib.hid ho
    have HS := Lib.hid hs
    have HG := Lib.hid hg
    have HSR : Hid (w3.heap.size ≤ wo.heap.size) := Lib.hid hg.size
    have HOL : Hid (ownsW wo (M + 1) (.slice a5 n c5) L) := Lib.hid (World.ownsRow.kept HO3.out hg (own_ne HO3.out (Nat.lt_succ_self M)))
    clear ho hs hg HS3
    by_cases hlt : k < n
    · have b1 : decide ((k : Int) < (n : Int)) = true := by simpa using hlt
      obtain ⟨x, hx⟩ : ∃ x, L[k]? = some x := ⟨L[k]'(by rw [← HN.out]; exact hlt), List.getElem?_eq_getElem _⟩
      obtain ⟨_, _, e, hf⟩ := HOL.out.is.form
      obtain ⟨ee, en, ec⟩ := Value.slice.inj e
      clear en ec
      subst ee
      obtain ⟨b, off, rfl, hbl, c0, c1, c2, c3, c4, c5'⟩ := hf k x hx
      have HX := Lib.hid hx
      have hxo := HR.out x (List.mem_of_getElem? hx)
      obtain ⟨T, Re, K, key, val, N⟩ := x
      simp only at c0 c1 c2 c3 c4 c5'
      have hksz : key.size ≤ maxLen := by have h := hxo.2.2.2.1; simp only at h; unfold maxLen; omega
      have HLEN : Hid ((addsL (L.take k)).length ≤ 60) := Lib.hid (by have := addsL_len (L.take k); have := List.length_take_le' k L; have := HN.out; omega)
      clear hx hbl e hf hxo
      by_cases h3 : K = 3
      · subst h3
        go_wp2_with (first
          | (at_builtin; refine wpList_append_wr rfl _ _ rfl w3.heap.size _ _ rfl ((HO.out.alloc _).alloc _) (wo.heap.size + 1) 1 rfl ⟨T, Re, 3, key, val, N⟩ (alloc2_row wo _ _) (by have := HLEN.out; omega) (by have := HSR.out; simp; omega) ?_; intro g cap w5 ho5 hg5; have HO5 := Lib.hid ho5; have HG5 := Lib.hid hg5; have hrow5 := (hg5.block wo.heap.size (by simp; omega) (own_ne2 HO.out (.inr (Nat.le_refl _)))).trans (((MapKept.heap_alloc (wo.alloc (.cells #[.int .i64 T, .int .i64 Re, .int .i64 3, .string key, .string val, .int .i64 N] 37)) (.cells #[.int .i64 T, .int .i64 Re, .int .i64 3, .string key, .string val, .int .i64 N] 37)).2 wo.heap.size (by simp)).trans (MapKept.heap_alloc wo _).1); have HS5 : Hid (ownsSum w5 M j (sumW (addsL (L.take k)))) := Lib.hid (((HS.out.alloc _).alloc _).kept hg5 (own_ne2 HO.out (.inl HMS.out.2))); have p3 := cell_of_row _ _ 3 _ _ _ hrow5; have p5 := cell_of_row _ _ 5 _ _ _ hrow5; simp only [List.getElem?_toArray, List.getElem?_cons_zero, List.getElem?_cons_succ] at p3 p5; clear ho5 hg5 hrow5)
          | (at_lookup; refine wpList_sum_get rfl _ _ rfl M j (sumW (addsL (L.take k))) rfl HS5.out key rfl hksz ?_)
          | (at_mapUpdate; refine wpList_sum_put rfl _ _ _ rfl M j (sumW (addsL (L.take k))) rfl HS5.out (by unfold maxLen; omega) key _ rfl rfl hksz ?_ ?_))
        · unfold wrap64
          omega
        · intro w7 hs7 hg7
          have HS7 : Hid (ownsSum w7 M (j + 1) (sumW (addsL (L.take k) ++ [⟨T, Re, 3, key, val, N⟩]))) := Lib.hid (by
            have h := sumW_snoc (addsL (L.take k)) ⟨T, Re, 3, key, val, N⟩
            simp only at h
            rw [← h, IntKind.wrap_i64]
            unfold wrap64 at hs7
            exact hs7)
          have HG7 := Lib.hid hg7
          clear hs7 hg7
          go_wp2
          go_roundw
          · have hna := addsL_yes HX.out rfl
            refine ⟨k + 1, j + 1, by omega, by omega, by simp, ?_, ?_, ?_⟩
            · rw [hna]; exact World.ownsRow.kept HO5.out HG7.out (own_ne HO5.out HMS.out.2)
            · rw [hna]; exact HS7.out
            · exact grown_via (grown_via (grown_alloc (grown_alloc HG.out _) _) HG5.out (fun g e => .inr (HO.out.lt g e).1)) HG7.out (fun g e => .inl (Option.some.inj e).symm)
          · simp [intOf]; omega
      · have b2 : (K == 3) = false := by simpa using h3
        have HK := Lib.hid h3
        clear h3
        go_wp2
        go_roundw
        · refine ⟨k + 1, j, by omega, by omega, by simp, ?_, ?_, grown_alloc HG.out _⟩
          · rw [addsL_no HX.out HK.out]; exact HO.out.alloc _
          · rw [addsL_no HX.out HK.out]; exact HS.out.alloc _
        · simp [intOf]; omega
    · have b1 : decide ((k : Int) < (n : Int)) = false := by simp; omega
      obtain rfl : k = n := by omega
      have hfull : L.take k = L := List.take_of_length_le (by rw [HN.out]; exact Nat.le_refl _)
      rw [hfull] at HO HS
      have HAK := Lib.hid (adds_kind L)
      have HAR : Hid ((addsL L).length ≤ 60 ∧ ∀ x ∈ addsL L, wrF x = 0) := Lib.hid ⟨by have := addsL_len L; have := HN.out; omega, fun x hx => (HR.out x (List.mem_filter.1 hx).1).1⟩
      generalize addsL L = A at HO HS HAK HAR
      clear hfull
      go_wp2_with fail
      refine (of_new _ A _ HO.out.is HAR.out.2 (by have := HAR.out.1; omega)).mono ?_
      rintro r w6 ⟨ua, rfl, hua, hb6, hfr⟩
      obtain ⟨aa, na, ca, rfl⟩ : ∃ a n c, ua = .slice a n c := by obtain ⟨z, hz, _⟩ := hua; obtain ⟨a, c, e, _⟩ := hz.form; exact ⟨a, _, c, e⟩
      have HUA := Lib.hid hua
      have HB6 := Lib.hid hb6
      have HFR := Lib.hid hfr
      have HS6 : Hid (ownsSum w6 M j (sumW A)) := Lib.hid (HS.out.below hb6)
      clear hua hb6 hfr
      go_wp2_with fail
      refine (wrev2 w3.heap.size _ A w6 (HO.out.below HB6.out) (by have := HAR.out.1; omega)).mono ?_
      rintro r w7 ⟨rfl, hi7, hg7⟩
      have HI7 := Lib.hid hi7
      have HG7 := Lib.hid hg7
      have HUA7 : Hid (IsCells w7 (.slice aa na ca) (cellsF A)) := Lib.hid (cells_stay HUA.out (fun p hp => (adds_cells HAK.out p hp).1) HFR.out (fun k h1 h2 => hg7.block k h2 (own_ne2 HO.out (.inr h1))) hg7.size)
      have HS7 : Hid (ownsSum w7 M j (sumW A)) := Lib.hid (HS6.out.kept hg7 (own_ne2 HO.out (.inl HMS.out.2)))
      clear hi7 hg7
      go_wp2_with fail
      refine (of_good _ A.reverse w7 HI7.out (fun x hx => HAR.out.2 x (List.mem_reverse.1 hx)) (by have := HAR.out.1; simp; omega)).mono ?_
      rintro r w8 ⟨ub, rfl, hub, hb8⟩
      rw [cells_sums HAK.out] at hub
      have HUB := Lib.hid hub
      have HB8 := Lib.hid hb8
      have HUA8 : Hid (IsCells w8 (.slice aa na ca) (cellsF A)) := Lib.hid (HUA7.out.below hb8)
      have HS8 : Hid (ownsSum w8 M j (sumW A)) := Lib.hid (HS7.out.below hb8)
      obtain ⟨zs, hv, hlz, hcz⟩ := HUA8.out
      obtain ⟨aa', ca', e, hfa⟩ := hv.form
      obtain ⟨ee, en, ec⟩ := Value.slice.inj e
      subst ee
      have HFA := Lib.hid hfa
      have HCZ := Lib.hid hcz
      have HZN : Hid (na = zs.length) := Lib.hid en
      have hna60 : na ≤ 60 := by rw [en, hlz]; have := cellsF_len A; have := HAR.out.1; omega
      clear hub hb8 hv hlz hcz hfa e en ec
      go_wp2_with fail
      go_loopw [52] (fun i wr => ∃ q : Nat, q ≤ na ∧ i = .int .i64 q ∧ Below w8.heap.size w8 wr) (fun i _ => na - (intOf i).toNat)
      case atStart => exact ⟨0, by omega, rfl, Below.refl _ _⟩
      case round =>
        obtain ⟨q, hq, rfl, hb⟩ := hrel
        have HB := Lib.hid hb
        clear hb
        have HSR2 := Lib.hid HB.out.size
        by_cases hlt2 : q < na
        · have b3 : decide ((q : Int) < (na : Int)) = true := by simpa using hlt2
          obtain ⟨x, hx⟩ : ∃ x, zs[q]? = some x := ⟨zs[q]'(by rw [← HZN.out]; exact hlt2), List.getElem?_eq_getElem _⟩
          obtain ⟨b, off, rfl, hbl, c0, c1, c2, c3', c4⟩ := HFA.out q x hx
          obtain ⟨⟨pk, pc⟩, hp, e1, e2, e3, e4, e5⟩ := HCZ.out q x hx
          have hsum := (adds_cells HAK.out _ (List.mem_of_getElem? hp)).2
          have hkz := keys_ok HAR.out.2 pk (by rw [(cellsF_mem.1 (List.mem_of_getElem? hp)).1]; exact (cellsF_mem.1 (List.mem_of_getElem? hp)).2)
          obtain ⟨kx, hxx, tx, sx, lx⟩ := x
          simp only at e1 e2 e3 e4 e5 c0 c1 c2 c3' c4 hsum
          subst e1
          obtain ⟨la, lc, rfl⟩ := e5.form
          have hsx : sx = sumW A kx := e4.trans hsum
          have hne : (sx != sumW A kx) = false := by rw [hsx]; simp
          have HSX := Lib.hid hsx
          have hksz : kx.size ≤ maxLen := by unfold maxLen; omega
          have HSW : Hid (ownsSum (wr.alloc (.cells #[.string kx, .bool hxx, .string tx, .int .i64 sx, .slice la pc.list.length lc] 32)) M j (sumW A)) := Lib.hid ((HS8.out.below HB.out).alloc _)
          have up : ∀ j u, w8.cell? ⟨b, j, none⟩ = some u → wr.cell? ⟨b, j, none⟩ = some u := fun j u hu => (HB.out.cell (p := ⟨b, j, none⟩) hbl).trans hu
          have g0 := up _ _ c0
          have g1 := up _ _ c1
          have g2 := up _ _ c2
          have g3 := up _ _ c3'
          have g4 := up _ _ c4
          clear hx c0 c1 c2 c3' c4 hp e2 e3 e4 e5 hsum up hsx hkz
          go_wp2_with (at_lookup; refine wpList_sum_get rfl _ _ rfl M j (sumW A) rfl HSW.out kx rfl hksz ?_)
          go_roundw
          · exact ⟨q + 1, by omega, by simp, HB.out.alloc HSR2.out _⟩
          · simp [intOf]; omega
        · have b3 : decide ((q : Int) < (na : Int)) = false := by simp; omega
          go_wp2_with (go_at_call 19; refine (same_cells _ _ A _ (HUA8.out.below HB.out) (HUB.out.below HB.out) (by have := HAR.out.1; omega)).mono ?_; rintro r w9 ⟨rfl, hb9⟩; have HB9 := Lib.hid hb9; clear hb9)
          go_ret
          have z0 := HB3.out.size
          have z1 := below_of_grown HB3.out HG.out z0 (fun g e => by have e2 : M = g := Option.some.inj e; have := HMS.out.1; omega)
          have z6 := z1.trans (HB6.out.mono z1.size)
          have z7 := below_of_grown z6 HG7.out z6.size (fun g e => Nat.le_trans z0 (HO.out.lt g e).1)
          have z8 := z7.trans (HB8.out.mono z7.size)
          have z9 := z8.trans (HB.out.mono z8.size)
          exact ⟨rfl, z9.trans (HB9.out.mono z9.size)⟩
end Go.Proofs.YtcoejiehckileaaDoor
