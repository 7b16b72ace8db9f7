/-
  The walk of 'packtrainkeep.DiskEach'.
-/
import Derived.Test.YtjnbnkaocoamlaaDiskSyncsW
import Derived.Test.YtjnbnkaocoamlaaDabO
namespace Go.Proofs.Ytjnbnkaocoamlaa
open Go.RowKit

theorem idx_find (l : List Nat) (i : Nat) : Lib.idxOf (l.map fun i => ((i : Nat) : Int)) (i : Int) = if i ∈ l then ((l.idxOf i : Nat) : Int) else -1 := by
  unfold Lib.idxOf
  suffices h : ∀ s : Nat, Lib.idxFrom (l.map fun i => ((i : Nat) : Int)) (i : Int) s = if i ∈ l then ((s + l.idxOf i : Nat) : Int) else -1 by
    have := h 0
    rwa [Nat.zero_add] at this
  induction l with
  | nil => intro s; rfl
  | cons z r ih =>
    intro s
    rw [List.map_cons, Lib.idxFrom]
    by_cases e : z = i
    · subst e; simp
    · have e2 : ¬ ((z : Nat) : Int) = (i : Int) := by omega
      rw [if_neg (by simpa using e2), ih (s + 1)]
      have hm : (i ∈ z :: r) ↔ i ∈ r := by
        rw [List.mem_cons]
        exact ⟨fun h => h.resolve_left (fun h => e h.symm), .inr⟩
      by_cases hi : i ∈ r
      · have e3 : List.idxOf i (z :: r) = r.idxOf i + 1 := by rw [List.idxOf_cons, show (z == i) = false by simpa using e]; rfl
        rw [if_pos hi, if_pos (hm.2 hi), e3]
        congr 1; omega
      · rw [if_neg hi, if_neg (fun h => hi (hm.1 h))]
/-- Syncs, at the end. -/
def syncA : DabA := ⟨0, ⟨#[]⟩, true⟩
theorem spun_sync (a : List DabA) : spunD (a ++ [syncA]) = dSync (spunD a) := by
  unfold spunD
  rw [List.map_append, dSpun_app]
  rfl
theorem spun_more (a b : List DabA) : spunD (a ++ b) = dSpun (spunD a) (b.map dabP) := by
  unfold spunD
  rw [List.map_append, dSpun_app]
theorem each_old {a b : List DabA} (hb : ∀ x ∈ b, x.syncs = false) (i : Nat) : (spunD (a ++ [syncA] ++ b)).saf i = (spunD (a ++ [syncA])).cur i := by
  rw [spun_more, spun_saf _ (fun x hx => by obtain ⟨t, ht, rfl⟩ := List.mem_map.1 hx; exact hb t ht), spun_sync]
  rfl
theorem del_no {b : List DabA} : ∀ x ∈ b.filter (fun x => !x.syncs), x.syncs = false := fun x hx => by
  have := (List.mem_filter.1 hx).2
  simpa using this
/-- Where a sector stands among those that were written. -/
theorem index_any (v : Value) (base : Nat) (X : Dsk) (i : Nat) (w : World) (h : w.ownsRow base 3 1 v (dirtyL X).length ((dirtyI X).map encZ)) (hl : (dirtyL X).length ≤ 1000) :
    Calls Try.prog 20 #[v, .int .i64 (i : Int)] w fun e w' => e = .returned (.int .i64 (if i ∈ dirtyL X then (((dirtyL X).idxOf i : Nat) : Int) else -1)) ∧ w' = w := by
  have e := idx_find (dirtyL X) i
  rcases h.2 with ⟨rfl, hz⟩ | ⟨g, cap, cur, rfl, hbase, hgb, r1, r2, r3, r4⟩
  · have h0 : dirtyL X = [] := List.eq_nil_of_length_eq_zero hz
    rw [h0] at e ⊢
    rw [← e]
    exact Try.slices_Index_int_empty none 0 i w
  · have hlen : (dirtyI X).length = (dirtyL X).length := by unfold dirtyI; exact List.length_map _
    have := Try.slices_Index_int g 0 (dirtyL X).length cap (dirtyI X) (i : Int) w (by rw [hlen]; exact Nat.le_refl _) (by omega) (fun j hj => by
      rw [Nat.zero_add, cell_of_row _ _ _ _ _ _ hgb]
      have h1 : (cur.toList.take ((dirtyL X).length * 1))[j]? = ((dirtyI X).map encZ)[j]? := by rw [r4]
      rw [List.getElem?_take_of_lt (by omega), Array.getElem?_toList] at h1
      rw [h1, List.getElem?_map, List.getElem?_eq_getElem hj, List.getD_eq_getElem?_getD, List.getElem?_eq_getElem hj]
      rfl)
    rw [List.take_of_length_le (by rw [hlen]; exact Nat.le_refl _)] at this
    rw [← e]
    exact this
theorem bit_spell2 (mask k : Nat) (h : mask < 18446744073709551616) (hk : k ≤ 63) : (bits .and .u64 ((mask : Int) / 2 ^ k) 1 == 1) = bitD mask k := by
  have := bit_spell mask k h
  rw [show (min (k : Int) 63).toNat = k by omega] at this
  exact this

theorem is_sync {w : World} {B : Nat} (h : w.heap[B]? = some (.cells #[.int .i64 0, .string ⟨#[]⟩, .bool true] 30 (0, 0))) : IsDabAs w (.slice (some ⟨B, 0, none⟩) 1 1) [syncA] :=
  .inr ⟨B, 0, 1, rfl, ⟨by decide, by decide⟩, (Array.getElem?_eq_some_iff.1 h).1, fun j u hj => by
    rw [Nat.zero_add, cell_of_row _ _ _ _ _ _ h, ← hj]
    show (#[Value.int .i64 0, .string ⟨#[]⟩, .bool true])[j]? = (dabAsC [syncA])[j]?
    rw [List.getElem?_toArray]
    rfl⟩

set_option maxRecDepth 100000 in
set_option maxHeartbeats 4000000 in
theorem diskEach_walk (w : World) (va : Value) (a : List DabA) (ha : IsDabAs w va a) (_ : a.length ≤ 9223372036854775807) (_ : ∀ t ∈ a, DabAOk t) (vb : Value) (b : List DabA) (hb : IsDabAs w vb b) (_ : b.length ≤ 9223372036854775807) (_ : ∀ t ∈ b, DabAOk t) (mask : Int) (h0 : 0 ≤ mask) (h1 : mask ≤ 18446744073709551615) :
    Calls Try.prog 5 #[va, vb, .int .u64 mask] w fun e w' => e = .returned (.bool true) ∧ Below w.heap.size w w' := by
  obtain ⟨m, rfl⟩ : ∃ m : Nat, mask = m := ⟨mask.toNat, by omega⟩
  obtain ⟨aa, ca, rfl, _⟩ := ha.form
  have HVA := Lib.hid ha
  have HVB := Lib.hid hb
  have hm : m < 18446744073709551616 := by omega
  clear ha hb h0 h1
  go_enter Try.func5, Try.ntmps5
  go_wp2_with fail
  refine (spinning_any w).mono ?_
  rintro r w1 ⟨rfl, hb1⟩
  have HB1 := Lib.hid hb1
  clear hb1
  go_wp2_with fail
  refine (light_any _ a w1 (HVA.out.below HB1.out)).mono ?_
  rintro r w2 ⟨⟨rfl, hlt⟩ | ⟨rfl, _⟩, hb2⟩
  · have HB2 := Lib.hid (HB1.out.trans (hb2.mono HB1.out.size))
    have HLA := Lib.hid hlt
    clear hb2 hlt
    go_wp2_with fail
    refine (light_any vb b w2 (HVB.out.below HB2.out)).mono ?_
    rintro r w3 ⟨⟨rfl, hlt⟩ | ⟨rfl, _⟩, hb3⟩
    · have HB3 := Lib.hid (HB2.out.trans (hb3.mono HB2.out.size))
      have HLB := Lib.hid hlt
      clear hb3 hlt
      go_wp2_with fail
      refine (dclone_any vb b w3 (HVB.out.below HB3.out) (by have := HLB.out.1; omega)).mono ?_
      rintro r w4 ⟨v4, rfl, ho4, hb4⟩
      have HB4 := Lib.hid (HB3.out.trans (hb4.mono HB3.out.size))
      have HO4 := Lib.hid ho4
      have HS4 : Hid (w3.heap.size ≤ w4.heap.size) := Lib.hid hb4.size
      clear ho4 hb4
      go_wp2_with fail
      refine (deld_any v4 b w3.heap.size w4 HO4.out (by have := HLB.out.1; omega) HS4.out).mono ?_
      rintro r w5 ⟨v5, rfl, hi5, hb5⟩
      have HB5 : Hid (Below w.heap.size w w5) := Lib.hid (HB4.out.trans (hb5.mono HB3.out.size))
      obtain ⟨c, hc⟩ : ∃ c, c = b.filter (fun x => !x.syncs) := ⟨_, rfl⟩
      rw [← hc] at hi5
      obtain ⟨ac, cc, rfl, _⟩ := hi5.form
      have HVC := Lib.hid hi5
      have HCN : Hid (∀ x ∈ c, x.syncs = false) := Lib.hid (by rw [hc]; exact del_no)
      have HCL : Hid (c.length ≤ 60) := Lib.hid (by rw [hc]; exact Nat.le_trans (List.length_filter_le _ _) HLB.out.1)
      have HVA5 := Lib.hid (HVA.out.below HB5.out)
      clear hi5 hb5 hc
      go_wp2_with fail
      have HSY : Hid (IsDabAs (w5.alloc (.cells #[.int .i64 0, .string ⟨#[]⟩, .bool true] 30)) (.slice (some ⟨w5.heap.size, 0, none⟩) 1 1) [syncA]) := Lib.hid (is_sync (heap_alloc_new w5 _))
      have HB6 : Hid (Below w.heap.size w (w5.alloc (.cells #[.int .i64 0, .string ⟨#[]⟩, .bool true] 30))) := Lib.hid (HB5.out.alloc HB5.out.size _)
      have HVA6 := Lib.hid (HVA5.out.below ((Below.refl _ _).alloc (Nat.le_refl _) (.cells #[.int .i64 0, .string ⟨#[]⟩, .bool true] 30)))
      have HVC6 := Lib.hid (HVC.out.below ((Below.refl _ _).alloc (Nat.le_refl _) (.cells #[.int .i64 0, .string ⟨#[]⟩, .bool true] 30)))
      have e6 : (w5.alloc (.cells #[.int .i64 0, .string ⟨#[]⟩, .bool true] 30)).heap.size = w5.heap.size + 1 := by simp
      generalize w5.alloc (.cells #[.int .i64 0, .string ⟨#[]⟩, .bool true] 30) = w6 at HSY HB6 HVA6 HVC6 e6 ⊢
      rw [← e6]
      clear e6 HVA5 HVC HO4
      generalize w5.heap.size = B6 at HSY ⊢
      have HFL : Hid ([a, [syncA]].flatten = a ++ [syncA]) := Lib.hid (by simp)
      have HFM : Hid ([a, [syncA], c].flatten = a ++ [syncA] ++ c) := Lib.hid (by simp)
      have HA7 : Hid (AllDbs (w6.alloc (.cells #[.slice aa a.length ca, .slice (some ⟨B6, 0, none⟩) 1 1] 22)) w6.heap.size [.slice aa a.length ca, .slice (some ⟨B6, 0, none⟩) 1 1] [a, [syncA]]) := Lib.hid ⟨rfl, fun j v hj => by
        have hb := (Below.refl w6.heap.size w6).alloc (Nat.le_refl _) (.cells #[.slice aa a.length ca, .slice (some ⟨B6, 0, none⟩) 1 1] 22)
        match j, hj with
        | 0, hj => exact ⟨a, rfl, by rw [← (Option.some.inj hj)]; exact (cell_of_row _ _ _ _ _ _ (heap_alloc_new w6 _)).trans rfl, by rw [← (Option.some.inj hj)]; exact HVA6.out.below hb⟩
        | 1, hj => exact ⟨[syncA], rfl, by rw [← (Option.some.inj hj)]; exact (cell_of_row _ _ _ _ _ _ (heap_alloc_new w6 _)).trans rfl, by rw [← (Option.some.inj hj)]; exact HSY.out.below hb⟩⟩
      have HB7 := Lib.hid (HB6.out.alloc HB6.out.size (.cells #[.slice aa a.length ca, .slice (some ⟨B6, 0, none⟩) 1 1] 22))
      refine (dcat_any _ _ _ 2 2 _ HA7.out rfl (by decide) (by rw [HFL.out, List.length_append, List.length_singleton]; have := HLA.out.1; omega) (by simp)).mono ?_
      rintro r w8 ⟨u8, rfl, ho8, hb8⟩
      rw [HFL.out] at ho8
      have HI8 := Lib.hid ho8.is
      have HB8 := Lib.hid (HB7.out.trans (hb8.mono HB7.out.size))
      have hb68 : Below w6.heap.size w6 w8 := ((Below.refl _ _).alloc (Nat.le_refl _) _).trans (hb8.mono (by simp))
      have HVA8 := Lib.hid (HVA6.out.below hb68)
      have HVC8 := Lib.hid (HVC6.out.below hb68)
      have HVS8 := Lib.hid (HSY.out.below hb68)
      clear ho8 hb8 hb68
      go_wp2_with fail
      refine (spun_any u8 (a ++ [syncA]) w8 HI8.out (by rw [List.length_append, List.length_singleton]; have := HLA.out.1; omega)).mono ?_
      rintro r w9 ⟨d, L, M, rfl, hd9, hb9, hd, hL, hM⟩
      have HD9 := Lib.hid hd9
      have HB9 := Lib.hid (HB8.out.trans (hb9.mono HB8.out.size))
      have HLM : Hid (w.heap.size ≤ d ∧ w.heap.size ≤ L ∧ w.heap.size ≤ M) := Lib.hid ⟨Nat.le_trans HB8.out.size hd, Nat.le_trans HB8.out.size hL, Nat.le_trans HB8.out.size hM⟩
      have HVA9 := Lib.hid (HVA8.out.below hb9)
      have HVC9 := Lib.hid (HVC8.out.below hb9)
      have HVS9 := Lib.hid (HVS8.out.below hb9)
      clear hd9 hb9 hd hL hM HA7 HVA6 HVC6 HSY HVA8 HVC8 HVS8
      go_wp2_with fail
      have HAA : Hid (AllDbs (w9.alloc (.cells #[.slice aa a.length ca, .slice (some ⟨B6, 0, none⟩) 1 1, .slice ac c.length cc] 22)) w9.heap.size [.slice aa a.length ca, .slice (some ⟨B6, 0, none⟩) 1 1, .slice ac c.length cc] [a, [syncA], c]) := Lib.hid ⟨rfl, fun j v hj => by
        have hb := (Below.refl w9.heap.size w9).alloc (Nat.le_refl _) (.cells #[.slice aa a.length ca, .slice (some ⟨B6, 0, none⟩) 1 1, .slice ac c.length cc] 22)
        match j, hj with
        | 0, hj => exact ⟨a, rfl, by rw [← (Option.some.inj hj)]; exact (cell_of_row _ _ _ _ _ _ (heap_alloc_new w9 _)).trans rfl, by rw [← (Option.some.inj hj)]; exact HVA9.out.below hb⟩
        | 1, hj => exact ⟨[syncA], rfl, by rw [← (Option.some.inj hj)]; exact (cell_of_row _ _ _ _ _ _ (heap_alloc_new w9 _)).trans rfl, by rw [← (Option.some.inj hj)]; exact HVS9.out.below hb⟩
        | 2, hj => exact ⟨c, rfl, by rw [← (Option.some.inj hj)]; exact (cell_of_row _ _ _ _ _ _ (heap_alloc_new w9 _)).trans rfl, by rw [← (Option.some.inj hj)]; exact HVC9.out.below hb⟩⟩
      have HBA := Lib.hid (HB9.out.alloc HB9.out.size (.cells #[.slice aa a.length ca, .slice (some ⟨B6, 0, none⟩) 1 1, .slice ac c.length cc] 22))
      have HDA := Lib.hid (HD9.out.alloc (.cells #[.slice aa a.length ca, .slice (some ⟨B6, 0, none⟩) 1 1, .slice ac c.length cc] 22))
      refine (dcat_any _ _ _ 3 3 _ HAA.out rfl (by decide) (by rw [HFM.out, List.length_append, List.length_append, List.length_singleton]; have := HLA.out.1; have := HCL.out; omega) (by simp)).mono ?_
      rintro r w11 ⟨u11, rfl, ho11, hb11⟩
      rw [HFM.out] at ho11
      have HI11 := Lib.hid ho11.is
      have HB11 := Lib.hid (HBA.out.trans (hb11.mono HBA.out.size))
      have HD11 := Lib.hid (HDA.out.below hb11)
      clear ho11 hb11 HAA HVA9 HVC9 HVS9 HD9 HBA HDA
      go_wp2_with fail
      refine (spun_any u11 (a ++ [syncA] ++ c) w11 HI11.out (by rw [List.length_append, List.length_append, List.length_singleton]; have := HLA.out.1; have := HCL.out; omega)).mono ?_
      rintro r w12 ⟨d2, L2, M2, rfl, hd12, hb12, hd, hL, hM⟩
      have HE12 := Lib.hid hd12
      have HB12 := Lib.hid (HB11.out.trans (hb12.mono HB11.out.size))
      have HD12 := Lib.hid (HD11.out.below hb12)
      have HLM2 : Hid (w.heap.size ≤ d2 ∧ w.heap.size ≤ L2 ∧ w.heap.size ≤ M2) := Lib.hid ⟨Nat.le_trans HB11.out.size hd, Nat.le_trans HB11.out.size hL, Nat.le_trans HB11.out.size hM⟩
      clear hd12 hb12 hd hL hM HI11
      obtain ⟨X, hX⟩ : ∃ X, X = spunD (a ++ [syncA]) := ⟨_, rfl⟩
      obtain ⟨Y, hY⟩ : ∃ Y, Y = spunD (a ++ [syncA] ++ c) := ⟨_, rfl⟩
      have HXN : Hid (X.n = 8) := Lib.hid (by rw [hX]; exact spunD_n _)
      have HYN : Hid (Y.n = 8) := Lib.hid (by rw [hY]; exact spunD_n _)
      have HYOK : Hid (DskOk Y) := Lib.hid (by rw [hY]; exact spunD_ok _)
      have HOLD : Hid (∀ i, Y.saf i = X.cur i) := Lib.hid (fun i => by rw [hX, hY]; exact each_old HCN.out i)
      rw [← hX] at HD12
      rw [← hY] at HE12
      clear hX hY
      go_wp2_with fail
      refine (all_any d L M X w12 HD12.out HXN.out).mono ?_
      rintro r w13 ⟨u13, rfl, ho13, hb13⟩
      obtain ⟨g1, cap1, rfl, hk1, hg1, hc1⟩ := all_row ho13
      have HB13 := Lib.hid (HB12.out.trans (hb13.mono HB12.out.size))
      have HE13 := Lib.hid (HE12.out.below hb13)
      have HC1 := Lib.hid hc1
      have HG1 : Hid (L2 < g1 ∧ M2 < g1 ∧ g1 < w13.heap.size) := Lib.hid ⟨Nat.lt_of_lt_of_le HE12.out.lL hk1, Nat.lt_of_lt_of_le HE12.out.lM hk1, hg1⟩
      clear ho13 hb13 hk1 hg1 hc1 HD12
      go_wp2_with fail
      refine (all_any d2 L2 M2 Y w13 HE13.out HYN.out).mono ?_
      rintro r w14 ⟨u14, rfl, ho14, hb14⟩
      obtain ⟨g2, cap2, rfl, hk2, hg2, hc2⟩ := all_row ho14
      have HB14 := Lib.hid (HB13.out.trans (hb14.mono HB13.out.size))
      have HE14 := Lib.hid (HE13.out.below hb14)
      have HC2 := Lib.hid hc2
      have HC1 : Hid (∀ j, j < 8 → w14.cell? ⟨g1, j, none⟩ = some (.string ((allL X).getD j ByteArray.empty))) := Lib.hid (fun j hj => (hb14.cell (p := ⟨g1, j, none⟩) HG1.out.2.2).trans (HC1.out j hj))
      have HG1 : Hid (L2 < g1 ∧ M2 < g1 ∧ g1 < w14.heap.size) := Lib.hid ⟨HG1.out.1, HG1.out.2.1, Nat.lt_of_lt_of_le HG1.out.2.2 hb14.size⟩
      have HG2 : Hid (L2 < g2 ∧ M2 < g2 ∧ g2 < w14.heap.size) := Lib.hid ⟨Nat.lt_of_lt_of_le HE13.out.lL hk2, Nat.lt_of_lt_of_le HE13.out.lM hk2, hg2⟩
      clear ho14 hb14 hk2 hg2 hc2
      go_wp2_with fail
      refine (dirty_any d2 L2 M2 Y w14 HE14.out).mono ?_
      rintro r w15 ⟨vd, rfl, hrow, _, hb15⟩
      have HROW := Lib.hid hrow
      have HB15 := Lib.hid (HB14.out.trans (hb15.mono HB14.out.size))
      have HE15 := Lib.hid (HE14.out.below hb15)
      have HC1 : Hid (∀ j, j < 8 → w15.cell? ⟨g1, j, none⟩ = some (.string ((allL X).getD j ByteArray.empty))) := Lib.hid (fun j hj => (hb15.cell (p := ⟨g1, j, none⟩) HG1.out.2.2).trans (HC1.out j hj))
      have HC2 : Hid (∀ j, j < 8 → w15.cell? ⟨g2, j, none⟩ = some (.string ((allL Y).getD j ByteArray.empty))) := Lib.hid (fun j hj => (hb15.cell (p := ⟨g2, j, none⟩) HG2.out.2.2).trans (HC2.out j hj))
      have HG1 : Hid (L2 < g1 ∧ M2 < g1 ∧ g1 < w15.heap.size) := Lib.hid ⟨HG1.out.1, HG1.out.2.1, Nat.lt_of_lt_of_le HG1.out.2.2 hb15.size⟩
      have HG2 : Hid (L2 < g2 ∧ M2 < g2 ∧ g2 < w15.heap.size) := Lib.hid ⟨HG2.out.1, HG2.out.2.1, Nat.lt_of_lt_of_le HG2.out.2.2 hb15.size⟩
      have HOWN : Hid (∀ k, vd.ownBlock = some k → ¬ dF L2 M2 k) := Lib.hid (fun k hk hf => by
        have h1 := (hrow.lt k hk).1
        have h2 := HE14.out.lL
        have h3 := HE14.out.lM
        rcases hf with e | e <;> omega)
      clear hrow hb15
      go_wp2_with fail
      refine (crash_any d2 L2 M2 Y m w15 HE15.out hm).mono ?_
      rintro r w16 ⟨rfl, hd16, hb16⟩
      have HE16 := Lib.hid hd16
      have HB16 := Lib.hid (on_disk HB15.out hb16 HLM2.out.2.1 HLM2.out.2.2)
      have HROW := Lib.hid (ownsRow_but HROW.out hb16 HOWN.out)
      have HC1 : Hid (∀ j, j < 8 → w16.cell? ⟨g1, j, none⟩ = some (.string ((allL X).getD j ByteArray.empty))) := Lib.hid (fun j hj => (cell_disk hb16 HG1.out.2.2 (by have := HG1.out; omega) (by have := HG1.out; omega) j).trans (HC1.out j hj))
      have HC2 : Hid (∀ j, j < 8 → w16.cell? ⟨g2, j, none⟩ = some (.string ((allL Y).getD j ByteArray.empty))) := Lib.hid (fun j hj => (cell_disk hb16 HG2.out.2.2 (by have := HG2.out; omega) (by have := HG2.out; omega) j).trans (HC2.out j hj))
      have HG1 : Hid (L2 < g1 ∧ M2 < g1 ∧ g1 < w16.heap.size) := Lib.hid ⟨HG1.out.1, HG1.out.2.1, Nat.lt_of_lt_of_le HG1.out.2.2 hb16.size⟩
      have HG2 : Hid (L2 < g2 ∧ M2 < g2 ∧ g2 < w16.heap.size) := Lib.hid ⟨HG2.out.1, HG2.out.2.1, Nat.lt_of_lt_of_le HG2.out.2.2 hb16.size⟩
      clear hd16 hb16 HOWN
      go_wp2_with fail
      refine (all_any d2 L2 M2 _ w16 HE16.out HYN.out).mono ?_
      rintro r w17 ⟨u17, rfl, ho17, hb17⟩
      obtain ⟨g3, cap3, rfl, _, _, hc3⟩ := all_row ho17
      have HB17 := Lib.hid (HB16.out.trans (hb17.mono HB16.out.size))
      have HE17 := Lib.hid (HE16.out.below hb17)
      have HROW := Lib.hid (ownsRow_but HROW.out (But.of_below (F := fun _ => False) hb17) (fun _ _ h => h))
      have HC1 : Hid (∀ j, j < 8 → w17.cell? ⟨g1, j, none⟩ = some (.string ((allL X).getD j ByteArray.empty))) := Lib.hid (fun j hj => (hb17.cell (p := ⟨g1, j, none⟩) HG1.out.2.2).trans (HC1.out j hj))
      have HC2 : Hid (∀ j, j < 8 → w17.cell? ⟨g2, j, none⟩ = some (.string ((allL Y).getD j ByteArray.empty))) := Lib.hid (fun j hj => (hb17.cell (p := ⟨g2, j, none⟩) HG2.out.2.2).trans (HC2.out j hj))
      have HC3 := Lib.hid hc3
      have HDL : Hid ((dirtyL Y).length ≤ 8) := Lib.hid (by have := dirtyL_len Y; rw [HYN.out] at this; exact this)
      clear ho17 hb17 hc3 HG1 HG2
      go_wp2_with fail
      go_loopw [73] (fun i wr => ∃ k : Nat, k ≤ 8 ∧ i = .int .i64 k ∧ wr = w17) (fun i _ => 8 - (RowKit.intOf i).toNat)
      case atStart => exact ⟨0, Nat.zero_le _, rfl, rfl⟩
      case round =>
        obtain ⟨k, hk, rfl, rfl⟩ := hrel
        by_cases hlt8 : k < 8
        · have hl8 : (k : Int) < 8 := by omega
          obtain ⟨SX, hSX⟩ : ∃ S, S = (allL X).getD k ByteArray.empty := ⟨_, rfl⟩
          obtain ⟨SY, hSY⟩ : ∃ S, S = (allL Y).getD k ByteArray.empty := ⟨_, rfl⟩
          obtain ⟨SG, hSG⟩ : ∃ S, S = (allL (dCrash Y m)).getD k ByteArray.empty := ⟨_, rfl⟩
          have hx := HC1.out k hlt8
          have hy := HC2.out k hlt8
          have hg := HC3.out k hlt8
          rw [← hSX] at hx
          rw [← hSY] at hy
          rw [← hSG] at hg
          have gD : ∀ Z : Dsk, (allL Z).getD k ByteArray.empty = ⟨(Z.cur k).toArray⟩ := fun Z => by
            unfold allL
            rw [List.getD_eq_getElem?_getD, List.getElem?_map, List.getElem?_range hlt8]
            rfl
          have hcr := crash_each HYOK.out m k (by rw [HYN.out]; exact hlt8)
          have HEQ : Hid (SG = if k ∈ dirtyL Y ∧ bitD m ((dirtyL Y).idxOf k) = true then SY else SX) := Lib.hid (by
            rw [hSG, hSX, hSY, gD, gD, gD, hcr, HOLD.out]
            unfold lastsD
            split <;> rfl)
          clear hSX hSY hSG gD hcr
          go_wp2_with fail
          refine (index_any vd _ Y k _ HROW.out (by have := HDL.out; omega)).mono ?_
          rintro r w18 ⟨rfl, rfl⟩
          by_cases hmem : k ∈ dirtyL Y
          · obtain ⟨p, hp⟩ : ∃ p, p = (dirtyL Y).idxOf k := ⟨_, rfl⟩
            have hp8 : p ≤ 63 := by have := List.idxOf_lt_length_of_mem hmem; have := HDL.out; omega
            rw [if_pos hmem, ← hp]
            have hsp := bit_spell2 m p hm hp8
            have hp0 : (0 : Int) ≤ (p : Int) := by omega
            cases hbit : bitD m p with
            | true =>
              have HE2 : Hid (SG = SY) := Lib.hid (by rw [HEQ.out, if_pos ⟨hmem, by rw [← hp]; exact hbit⟩])
              rw [hbit] at hsp
              rw [HE2.out] at hg
              clear hmem hp hbit HEQ HE2
              go_wp2_with fail
              go_roundw
              · exact ⟨k + 1, by omega, by go_num, trivial⟩
              · simp [RowKit.intOf]; omega
            | false =>
              have HE2 : Hid (SG = SX) := Lib.hid (by rw [HEQ.out, if_neg (fun h => by rw [← hp, hbit] at h; cases h.2)])
              rw [hbit] at hsp
              rw [HE2.out] at hg
              clear hmem hp hbit HEQ HE2
              go_wp2_with fail
              go_roundw
              · exact ⟨k + 1, by omega, by go_num, trivial⟩
              · simp [RowKit.intOf]; omega
          · have HE2 : Hid (SG = SX) := Lib.hid (by rw [HEQ.out, if_neg (fun h => hmem h.1)])
            rw [if_neg hmem]
            rw [HE2.out] at hg
            clear hmem HEQ HE2
            go_wp2_with fail
            go_roundw
            · exact ⟨k + 1, by omega, by go_num, trivial⟩
            · simp [RowKit.intOf]; omega
        · obtain rfl : k = 8 := by omega
          go_wp2_with fail
          refine (dirty_any d2 L2 M2 _ _ HE17.out).mono ?_
          rintro r w18 ⟨v18, rfl, _, hnil, hb18⟩
          obtain rfl := hnil.2 (dirty_crash Y m)
          have HB18 := Lib.hid (HB17.out.trans (hb18.mono HB17.out.size))
          clear hnil hb18
          go_wp2_with fail
          go_ret
          exact ⟨rfl, HB18.out⟩
    · have HB3 := Lib.hid (HB2.out.trans (hb3.mono HB2.out.size))
      go_wp2_with fail
      go_ret
      exact ⟨rfl, HB3.out⟩
  · have HB2 := Lib.hid (HB1.out.trans (hb2.mono HB1.out.size))
    go_wp2_with fail
    go_ret
    exact ⟨rfl, HB2.out⟩
end Go.Proofs.Ytjnbnkaocoamlaa
