/-
  The walk of 'packtrainkeep.StoreSorted'.
-/
import Derived.Test.YtcoejiehckileaaDoorStoLaw
import Derived.BigQuiet
import Derived.Deep.QuietTactic
import Derived.WalkLawsBesides
import Derived.Sort.Walk0
namespace Go.Proofs.YtcoejiehckileaaDoor
open Go.RowKit

set_option maxRecDepth 100000 in
theorem sorted1_any (T Re K N : Int) (key val k : ByteArray) (B : Nat) (w : World) (c : Bool) (hB : B < w.heap.size) (h0 : w.cell? ⟨B, 0, none⟩ = some (.string k)) (hc : (key.toList == k.toList) = c) :
    Calls Tryd.prog 15 #[.agg #[.int .i64 T, .int .i64 Re, .int .i64 K, .string key, .string val, .int .i64 N], .pointer (some ⟨B, 0, none⟩)] w fun e w' => e = .returned (.bool c) ∧ Below w.heap.size w w' := by
  have h1 : (w.alloc (.cells #[.int .i64 T, .int .i64 Re, .int .i64 K, .string key, .string val, .int .i64 N] 37)).cell? ⟨B, 0, none⟩ = some (.string k) := (World.cell?_alloc_lt _ _ _ hB).trans h0
  go_enter Tryd.func15, Tryd.ntmps15
  go_wp2
  go_ret
  exact ⟨by first | rfl | (rw [hc]), (Below.refl _ _).alloc (Nat.le_refl _) _⟩
theorem beqB_false {a b : ByteArray} (h : a ≠ b) : (a.toList == b.toList) = false := beq_eq_false_iff_ne.2 (fun h2 => h (by rw [ByteArray.toList_eq, ByteArray.toList_eq] at h2; exact ByteArray.ext (Array.ext' h2)))

set_option maxRecDepth 100000 in
set_option maxHeartbeats 2000000 in
theorem idxs_any (v : Value) (L : List Wr) (key : ByteArray) (B : Nat) (w : World) (hv : IsWrs w v L) (hl : L.length ≤ 1000000) (hB : B < w.heap.size) (h0 : w.cell? ⟨B, 0, none⟩ = some (.string key)) (hp : ∃ x ∈ L, x.key = key) :
    Calls Tryd.prog 36 #[v, .func (.func 15) #[] #[.pointer (some ⟨B, 0, none⟩)]] w fun e w' => (∃ p : Nat, e = .returned (.int .i64 (p : Int))) ∧ Below w.heap.size w w' := by
  obtain ⟨a1, c1, rfl, f1⟩ := hv.form
  have F1 := Lib.hid f1
  obtain ⟨n, hn⟩ : ∃ n, n = L.length := ⟨_, rfl⟩
  rw [← hn] at hl ⊢
  have HN := Lib.hid hn
  have HP := Lib.hid hp
  clear f1 hn hv hp
  go_enter Tryd.func36, Tryd.ntmps36
  go_wp2
  go_loopw [8] (fun i wr => ∃ k : Nat, k ≤ n ∧ i = .int .i64 k ∧ (∀ x ∈ L.take k, x.key ≠ key) ∧ Below w.heap.size w wr) (fun i _ => n - (intOf i).toNat)
  case atStart => exact ⟨0, Nat.zero_le _, rfl, fun x h => (by simp at h), Below.refl _ _⟩
  case round =>
    obtain ⟨k, hk, rfl, hne, hbel⟩ := hrel
    have HB := Lib.hid hbel
    have HNE := Lib.hid hne
    clear hbel hne
    have hlt : k < n := by
      refine Nat.lt_of_le_of_ne hk (fun e => ?_)
      obtain ⟨x, hx, hxk⟩ := HP.out
      exact HNE.out x (by rw [List.take_of_length_le (by rw [e, HN.out]; exact Nat.le_refl _)]; exact hx) hxk
    obtain ⟨x, hx⟩ : ∃ x, L[k]? = some x := ⟨L[k]'(by rw [← HN.out]; exact hlt), List.getElem?_eq_getElem _⟩
    obtain ⟨b1, o1, rfl, hb1, p0, p1, p2, p3, p4, p5⟩ := F1.out k x hx
    have d : ∀ j u, w.cell? ⟨b1, j, none⟩ = some u → wr.cell? ⟨b1, j, none⟩ = some u := fun j u hu => (HB.out.cell (p := ⟨b1, j, none⟩) hb1).trans hu
    have q0 := d _ _ p0
    have q1 := d _ _ p1
    have q2 := d _ _ p2
    have q3 := d _ _ p3
    have q4 := d _ _ p4
    have q5 := d _ _ p5
    have HC : Hid (wr.cell? ⟨B, 0, none⟩ = some (.string key)) := Lib.hid ((HB.out.cell (p := ⟨B, 0, none⟩) hB).trans h0)
    have HBW : Hid (B < wr.heap.size) := Lib.hid (Nat.lt_of_lt_of_le hB HB.out.size)
    have HX := Lib.hid hx
    obtain ⟨T, Re, K, key', val, N⟩ := x
    obtain ⟨c, hc⟩ : ∃ c, (key'.toList == key.toList) = c := ⟨_, rfl⟩
    have HCC := Lib.hid hc
    dsimp only at q0 q1 q2 q3 q4 q5
    clear p0 p1 p2 p3 p4 p5 d hx hc
    go_wp2_with fail
    refine (sorted1_any T Re K N key' val key B wr c HBW.out HC.out HCC.out).mono ?_
    rintro rr w1 ⟨rfl, hb1⟩
    have HB1 : Hid (Below w.heap.size w w1) := HB.out.trans (hb1.mono HB.out.size)
    clear hb1 q0 q1 q2 q3 q4 q5
    cases c with
    | true =>
      go_wp2
      go_ret
      exact ⟨⟨k, rfl⟩, HB1.out⟩
    | false =>
      go_wp2
      go_roundw
      · refine ⟨k + 1, by omega, by simp, fun y hy => ?_, HB1.out⟩
        rw [take_snoc HX.out] at hy
        rcases List.mem_append.1 hy with hy | hy
        · exact HNE.out y hy
        · obtain rfl := List.mem_singleton.1 hy
          intro e
          have h2 := HCC.out
          simp only at e
          rw [e, beq_self_eq_true] at h2
          cases h2
      · simp [intOf]; omega
set_option maxRecDepth 100000 in
theorem conts_any (v : Value) (L : List Wr) (key : ByteArray) (B : Nat) (w : World) (hv : IsWrs w v L) (hl : L.length ≤ 1000000) (hB : B < w.heap.size) (h0 : w.cell? ⟨B, 0, none⟩ = some (.string key)) (hp : ∃ x ∈ L, x.key = key) :
    Calls Tryd.prog 14 #[v, .func (.func 15) #[] #[.pointer (some ⟨B, 0, none⟩)]] w fun e w' => e = .returned (.bool true) ∧ Below w.heap.size w w' := by
  have HV := Lib.hid hv
  have HP := Lib.hid hp
  clear hv hp
  go_enter Tryd.func14, Tryd.ntmps14
  go_wp2_with fail
  refine (idxs_any v L key B w HV.out hl hB h0 HP.out).mono ?_
  rintro r w' ⟨⟨p, rfl⟩, hb⟩
  have b1 : decide ((0 : Int) ≤ (p : Int)) = true := by simp
  go_wp2
  go_ret
  exact ⟨rfl, hb⟩

theorem less_of {a b : ByteArray} (h : leB b a = false) : Op.bytesLess a.toList b.toList = true := by
  rw [bytesLess_eq, ByteArray.toList_eq, ByteArray.toList_eq]
  unfold leB at h
  have h1 := of_decide_eq_false h
  exact decide_eq_true (List.not_le.1 h1)
theorem cell_in {L : List Wr} {p : ByteArray × Cel} (h : p ∈ cellsF L) : ∃ x ∈ L, x.key = p.1 := by
  have h1 : p.1 ∈ (cellsF L).map (·.1) := List.mem_map_of_mem h
  rw [cellsF_keys] at h1
  exact keysS_mem.1 (List.mem_filter.1 h1).1
theorem sorted_lt (L : List Wr) {i j : Nat} (hij : i < j) {p q : ByteArray × Cel} (hp : (cellsF L)[i]? = some p) (hq : (cellsF L)[j]? = some q) : leB q.1 p.1 = false := by
  obtain ⟨hi, rfl⟩ := List.getElem?_eq_some_iff.1 hp
  obtain ⟨hj, rfl⟩ := List.getElem?_eq_some_iff.1 hq
  have h1 := List.pairwise_iff_getElem.1 (cellsF_sorted L) i j hi hj hij
  have h2 : ((cellsF L)[i]'hi).1 ≠ ((cellsF L)[j]'hj).1 := by
    have h3 := List.pairwise_iff_getElem.1 (List.nodup_iff_pairwise_ne.1 (cellsF_nodup L)) i j (by simpa using hi) (by simpa using hj) hij
    simpa using h3
  cases e : leB ((cellsF L)[j]'hj).1 ((cellsF L)[i]'hi).1 with
  | false => rfl
  | true => exact absurd (leB_anti h1 e) h2

set_option maxRecDepth 100000 in
set_option maxHeartbeats 8000000 in
theorem storeSorted_walk (W : World) (v : Value) (l : List Wr) (hi : IsWrs W v l) (hl : l.length ≤ 9223372036854775807) (hok : ∀ t ∈ l, WrOk t) {Q : Prop} (_ : Q) :
    Calls Tryd.prog 3 #[v] W fun e w' => e = .returned (.bool true) ∧ Below W.heap.size W w' := by
  have HI := Lib.hid hi
  have HOK := Lib.hid hok
  clear hi hok
  go_enter Tryd.func3, Tryd.ntmps3
  go_wp2_with (go_at_call 11; refine (stored_any _).mono ?_; rintro r w1 ⟨rfl, hb1⟩; have HB1 := Lib.hid hb1; clear hb1)
  refine (right_any v l _ (HI.out.below HB1.out) hl HOK.out).mono ?_
  rintro r w2 ⟨u, rfl, ho2, hb2⟩
  have hrt : ∀ x ∈ rightL l, wrF x = 0 := fun x hx => (rightL_ok hx).1
  have hln := rightL_len l
  generalize rightL l = L at ho2 hrt hln
  obtain ⟨au, cu, rfl, _⟩ := ho2.is.form
  have HB2 : Hid (Below W.heap.size W w2) := Lib.hid (HB1.out.trans (hb2.mono HB1.out.size))
  have HO2 := Lib.hid ho2.is
  have HRT := Lib.hid hrt
  obtain ⟨m, hm⟩ : ∃ m, m = L.length := ⟨_, rfl⟩
  rw [← hm] at hln HO2 ⊢
  have HM := Lib.hid hm
  clear ho2 hb2 hrt hm HB1
  go_wp2_with (go_at_call 13; refine (of_good _ L _ HO2.out HRT.out (by have := HM.out; omega)).mono ?_; rintro r w3 ⟨u3, rfl, ⟨zs, hv3, hl3, hc3⟩, hb3⟩; obtain ⟨a3, c3, rfl, hf3⟩ := hv3.form; have HF3 := Lib.hid hf3; have HC3 := Lib.hid hc3; have HL3 := Lib.hid hl3; have HB3 := Lib.hid hb3; have HI3 : Hid (IsWrs w3 (.slice au m cu) L) := Lib.hid (HO2.out.below hb3); clear hv3 hl3 hc3 hf3 hb3)
  obtain ⟨n, hn⟩ : ∃ n, n = zs.length := ⟨_, rfl⟩
  have hn2 : n ≤ 60 := by rw [hn, HL3.out]; have := cellsF_len L; have := HM.out; omega
  rw [← hn]
  have HN := Lib.hid hn
  clear hn
  go_loopw [18] (fun i wr => ∃ k : Nat, k ≤ n ∧ i = .int .i64 k ∧ Below w3.heap.size w3 wr) (fun i _ => n - (intOf i).toNat)
  case atStart => exact ⟨0, by omega, rfl, Below.refl _ _⟩
  case round =>
    obtain ⟨k, hk, rfl, hb⟩ := hrel
    obtain ⟨wo, rfl⟩ : ∃ wo, wo = wr := ⟨_, rfl⟩
    have HB := Lib.hid hb
    clear hb
    by_cases hlt : k < n
    · have b1 : decide ((k : Int) < (n : Int)) = true := by simpa using hlt
      obtain ⟨x, hx⟩ : ∃ x, zs[k]? = some x := ⟨zs[k]'(by rw [← HN.out]; exact hlt), List.getElem?_eq_getElem _⟩
      obtain ⟨b, off, rfl, hbl, c0, c1, c2, c3', c4⟩ := HF3.out k x hx
      obtain ⟨⟨pk, pc⟩, hp, e1, e2, e3, e4, e5⟩ := HC3.out k x hx
      have hpc := cellsF_mem.1 (List.mem_of_getElem? hp)
      have hneat := neat_cellK L pk
      rw [hpc.1] at hneat
      have hlive := hpc.2
      have hin := cell_in (List.mem_of_getElem? hp)
      obtain ⟨kx, hxx, tx, sx, lx⟩ := x
      simp only at e1 e2 e3 e4 e5 c0 c1 c2 c3' c4
      unfold Neat at hneat
      unfold live at hlive
      rw [← e2, ← e3] at hneat
      rw [← e2, ← e4] at hlive
      subst e1
      obtain ⟨la, lc, rfl⟩ := e5.form
      obtain ⟨q, hq⟩ : ∃ q, q = pc.list.length := ⟨_, rfl⟩
      have hle : (!pc.list.isEmpty) = !decide ((q : Int) = 0) := by rw [hq]; cases pc.list <;> simp <;> omega
      have hq60 : q ≤ 1000 := by rw [hq]; have := cellsF_lists L _ (List.mem_of_getElem? hp); have := HM.out; simp only at *; omega
      rw [hle] at hlive
      rw [← hq] at c4
      have up : ∀ j u, w3.cell? ⟨b, j, none⟩ = some u → wo.cell? ⟨b, j, none⟩ = some u := fun j u hu => (HB.out.cell (p := ⟨b, j, none⟩) hbl).trans hu
      have g0 := up _ _ c0
      have g1 := up _ _ c1
      have g2 := up _ _ c2
      have g3 := up _ _ c3'
      have g4 := up _ _ c4
      have hprev : Hid (0 < k → ∃ kp, w3.cell? ⟨b, off + (k - 1) * 5, none⟩ = some (.string kp) ∧ leB kx kp = false) := Lib.hid (fun h0 => by
        obtain ⟨y, hy⟩ : ∃ y, zs[k - 1]? = some y := ⟨zs[k - 1]'(by rw [← HN.out]; omega), List.getElem?_eq_getElem _⟩
        obtain ⟨b', off', e, _, d0, _⟩ := HF3.out (k - 1) y hy
        cases e
        obtain ⟨⟨qk, qc⟩, hp', f1, _⟩ := HC3.out (k - 1) y hy
        refine ⟨y.key, d0, ?_⟩
        rw [f1]
        exact sorted_lt L (by omega) hp' hp)
      have HIN := Lib.hid hin
      have HHN := Lib.hid hneat
      have HLV := Lib.hid hlive
      have HSR := Lib.hid HB.out.size
      clear hx c0 c1 c2 c3' c4 hp e2 e3 e4 e5 hpc up hq hle hin hneat hlive
      -- CASES
      go_wp2
      obtain ⟨w4, hw4⟩ : ∃ w4, w4 = wo.alloc (.cells #[.string kx, .bool hxx, .string tx, .int .i64 sx, .slice la q lc] 32) := ⟨_, rfl⟩
      have hrow4 : w4.heap[wo.heap.size]? = some (.cells #[.string kx, .bool hxx, .string tx, .int .i64 sx, .slice la q lc] 32 (0, 0)) := by rw [hw4]; exact (MapKept.heap_alloc wo _).1
      have HR4 : Hid (wo.heap.size < w4.heap.size ∧ w4.cell? ⟨wo.heap.size, 0, none⟩ = some (.string kx)) := Lib.hid ⟨(Array.getElem?_eq_some_iff.1 hrow4).1, cell_of_row _ _ 0 _ _ _ hrow4⟩
      have HB4 : Hid (Below w3.heap.size w3 w4) := Lib.hid (by rw [hw4]; exact HB.out.alloc HSR.out _)
      have f0 := cell_of_row _ _ 0 _ _ _ hrow4
      have f1 := cell_of_row _ _ 1 _ _ _ hrow4
      have f2 := cell_of_row _ _ 2 _ _ _ hrow4
      have f3 := cell_of_row _ _ 3 _ _ _ hrow4
      have f4 := cell_of_row _ _ 4 _ _ _ hrow4
      simp only [List.getElem?_toArray, List.getElem?_cons_zero, List.getElem?_cons_succ] at f0 f1 f2 f3 f4
      rw [← hw4]
      clear hw4 hrow4 g0 g1 g2 g3 g4
      by_cases h0 : 0 < k
      · obtain ⟨kp, hkp, hlt0⟩ := hprev.out h0
        have f5 := (HB4.out.cell (p := ⟨b, off + (k - 1) * 5, none⟩) hbl).trans hkp
        have b2 : decide ((0 : Int) < (k : Int)) = true := by simpa using h0
        have hwk : IntKind.i64.wrap ((k : Int) - 1) = ((k - 1 : Nat) : Int) := by rw [IntKind.wrap_i64]; omega
        have hbl5 : Op.bytesLess kp.toList kx.toList = true := less_of hlt0
        have hsn : k - 1 < n := by omega
        have hsn2 : ((k - 1 : Nat) : Int) < (n : Int) := by omega
        cases hxx with
        | true =>
          go_quiet (fail)
          go_wp2_with fail
          refine (conts_any _ L kx wo.heap.size _ (by exact HI3.out.below (below_drewN HB4.out _)) (by have := HM.out; omega) (by exact HR4.out.1) (by exact HR4.out.2) HIN.out).mono ?_
          rintro r w5 ⟨rfl, hb5⟩
          have HB5 := Lib.hid hb5
          clear hb5
          go_wp2
          go_roundw
          · exact ⟨k + 1, by omega, by simp, (below_drewN HB4.out _).trans (HB5.out.mono HB4.out.size)⟩
          · simp [intOf]; omega
        | false =>
          obtain rfl : tx = ⟨#[]⟩ := HHN.out rfl
          by_cases hz : sx = 0
          · subst hz
            have hqz : decide ((q : Int) = 0) = false := by have := HLV.out; simpa using this
            have hqz2 : ((q : Int) == 0) = false := hqz
            go_quiet (fail)
            go_wp2_with fail
            refine (conts_any _ L kx wo.heap.size _ (by exact HI3.out.below (below_drewN HB4.out _)) (by have := HM.out; omega) (by exact HR4.out.1) (by exact HR4.out.2) HIN.out).mono ?_
            rintro r w5 ⟨rfl, hb5⟩
            have HB5 := Lib.hid hb5
            clear hb5
            go_wp2
            go_roundw
            · exact ⟨k + 1, by omega, by simp, (below_drewN HB4.out _).trans (HB5.out.mono HB4.out.size)⟩
            · simp [intOf]; omega
          · have hz2 : (sx == 0) = false := by simpa using hz
            go_quiet (fail)
            go_wp2_with fail
            refine (conts_any _ L kx wo.heap.size _ (by exact HI3.out.below (below_drewN HB4.out _)) (by have := HM.out; omega) (by exact HR4.out.1) (by exact HR4.out.2) HIN.out).mono ?_
            rintro r w5 ⟨rfl, hb5⟩
            have HB5 := Lib.hid hb5
            clear hb5
            go_wp2
            go_roundw
            · exact ⟨k + 1, by omega, by simp, (below_drewN HB4.out _).trans (HB5.out.mono HB4.out.size)⟩
            · simp [intOf]; omega
      · obtain rfl : k = 0 := by omega
        cases hxx with
        | true =>
          go_quiet (fail)
          go_wp2_with fail
          refine (conts_any _ L kx wo.heap.size _ (by exact HI3.out.below (below_drewN HB4.out _)) (by have := HM.out; omega) (by exact HR4.out.1) (by exact HR4.out.2) HIN.out).mono ?_
          rintro r w5 ⟨rfl, hb5⟩
          have HB5 := Lib.hid hb5
          clear hb5
          go_wp2
          go_roundw
          · exact ⟨0 + 1, by omega, by simp, (below_drewN HB4.out _).trans (HB5.out.mono HB4.out.size)⟩
          · simp [intOf]; omega
        | false =>
          obtain rfl : tx = ⟨#[]⟩ := HHN.out rfl
          by_cases hz : sx = 0
          · subst hz
            have hqz : decide ((q : Int) = 0) = false := by have := HLV.out; simpa using this
            have hqz2 : ((q : Int) == 0) = false := hqz
            go_quiet (fail)
            go_wp2_with fail
            refine (conts_any _ L kx wo.heap.size _ (by exact HI3.out.below (below_drewN HB4.out _)) (by have := HM.out; omega) (by exact HR4.out.1) (by exact HR4.out.2) HIN.out).mono ?_
            rintro r w5 ⟨rfl, hb5⟩
            have HB5 := Lib.hid hb5
            clear hb5
            go_wp2
            go_roundw
            · exact ⟨0 + 1, by omega, by simp, (below_drewN HB4.out _).trans (HB5.out.mono HB4.out.size)⟩
            · simp [intOf]; omega
          · have hz2 : (sx == 0) = false := by simpa using hz
            go_quiet (fail)
            go_wp2_with fail
            refine (conts_any _ L kx wo.heap.size _ (by exact HI3.out.below (below_drewN HB4.out _)) (by have := HM.out; omega) (by exact HR4.out.1) (by exact HR4.out.2) HIN.out).mono ?_
            rintro r w5 ⟨rfl, hb5⟩
            have HB5 := Lib.hid hb5
            clear hb5
            go_wp2
            go_roundw
            · exact ⟨0 + 1, by omega, by simp, (below_drewN HB4.out _).trans (HB5.out.mono HB4.out.size)⟩
            · simp [intOf]; omega
    · have b1 : decide ((k : Int) < (n : Int)) = false := by simp; omega
      go_wp2
      go_ret
      exact ⟨rfl, (HB2.out.trans (HB3.out.mono HB2.out.size)).trans (HB.out.mono (Nat.le_trans HB2.out.size HB3.out.size))⟩
end Go.Proofs.YtcoejiehckileaaDoor
