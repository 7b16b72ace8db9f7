/-
  The contract of a store's Cells.
-/
import Derived.Test.YtpmnflnaeknakaaGreatDoorStoCelM
import Derived.Test.YtpmnflnaeknakaaGreatDoorStoSort0
import Derived.Test.YtpmnflnaeknakaaGreatDoorStoApart
import Derived.Lib.Hide
import Derived.Sort.KeysCollected
namespace Go.Proofs.YtpmnflnaeknakaaGreatDoor
open Go.RowKit Go.Maps

theorem keyB_inv : ∀ key kl, keyOf Tryz.prog 9 key = some kl → ∃ x : ByteArray, key = .string x := fun key kl h => by
  obtain ⟨x, hx, _⟩ := Maps.keyOf_str Tryz.underlying9 h
  exact ⟨⟨x.toArray⟩, hx⟩
theorem cellB_inv : ∀ v y, cellR v = some y → ∃ c : CV, v = cvV c := fun v y h => by obtain ⟨c, h1, _⟩ := cellR_inv h; exact ⟨c, h1⟩
theorem keyB_size {x : ByteArray} {kl : Lit} (h : keyOf Tryz.prog 9 (.string x) = some kl) : x.size ≤ maxLen ∧ kl = keyL x := by
  obtain ⟨y, hy, hk, hs⟩ := Maps.keyOf_str Tryz.underlying9 h
  have e : x = ⟨y.toArray⟩ := Value.string.inj hy
  subst e
  exact ⟨by simpa [ByteArray.size] using hs, by rw [hk]; simp [keyL]⟩

/-- The loop's state. -/
structure CellsW (w wr : World) (R P M m : Nat) (D : DataW Value) (G : ByteArray → Cel) (L : ByteArray → Value) (left : Lit → Bool) (cnt : Nat) (ks : List ByteArray) (zs : List CV) (v : Value) : Prop where
  rng : wr.ranges Tryz.prog 9 cellR M w.heap.size m D left cnt
  nodup : ks.Nodup
  mem : ∀ k, k ∈ ks ↔ live (G k) = true ∧ left (keyL k) = false
  lsub : ∀ k, left (keyL k) = true → live (G k) = true
  own : ownsC wr (w.heap.size + 1) v zs
  rows : RowsAre wr (w.heap.size + 1) G ks zs
  bel : Below w.heap.size w wr
  cnt : ks.length + cnt ≤ m
  sz : w.heap.size + 1 ≤ wr.heap.size

theorem below_of_grown2 {B : Nat} {a w w' : World} (h : Below B a w) {o : Option Nat} (hg : w.grownBy w' o) (hB : B + 1 ≤ w.heap.size) (ho : ∀ g, o = some g → B ≤ g) : Below B a w' :=
  ⟨hg.os.trans h.os, hg.tape.trans h.tape, hg.output.trans h.output, Nat.le_trans h.size hg.size, fun k hk => (hg.block k (by omega) (fun e => by have := ho k e.symm; omega)).trans (h.block k hk)⟩
theorem ownsC.shape {w : World} {base : Nat} {v : Value} {l : List CV} (h : ownsC w base v l) : (v = .slice none 0 0 ∧ l = []) ∨ ∃ g cap, v = .slice (some ⟨g, 0, none⟩) l.length cap ∧ base ≤ g := by
  rcases h.2 with ⟨e, h0⟩ | ⟨g, cap, _, e, hb, _⟩
  · exact .inl ⟨e, List.length_eq_zero_iff.1 h0⟩
  · exact .inr ⟨g, cap, e, hb⟩
theorem range_off {wr : World} {base : Nat} {v : Value} {l : List CV} (h : ownsC wr base v l) {b : Nat} (hb : b < base) : some b ≠ v.ownBlock := fun e => by have := (h.lt b e.symm).1; omega

theorem RowsAre.off {w w' : World} {base b : Nat} {G : ByteArray → Cel} {ks : List ByteArray} {zs : List CV} (h : RowsAre w base G ks zs) (hg : w.grownBy w' (some b)) (hb : b < base) : RowsAre w' base G ks zs :=
  ⟨h.1, fun c hc => by
    obtain ⟨h1, h2, h3, h4⟩ := h.2 c hc
    exact ⟨h1, h2, h3, World.ownsRow.kept h4 hg (by
      cases e : c.list.ownBlock with
      | none => exact .inl rfl
      | some g => exact .inr (fun e2 => by have := (h4.lt g e).1; have e3 : g = b := Option.some.inj e2; omega))⟩⟩
theorem cells_own {w wr w1 w3 : World} {v : Value} {zs : List CV} {o : Obj} {o2 : Obj} (h : ownsC wr (w.heap.size + 1) v zs) (hg : wr.grownBy w1 (some w.heap.size)) (hb : Below (w1.alloc o).heap.size (w1.alloc o) w3) : ownsC (w3.alloc o2) (w.heap.size + 1) v zs :=
  (ownsC.below (w := w1.alloc o) (ownsC.alloc (World.ownsRow.kept h hg (by
    cases e : v.ownBlock with
    | none => exact .inl rfl
    | some g => exact .inr (fun e2 => by have := (h.lt g e).1; have e3 : g = w.heap.size := Option.some.inj e2; omega))) o) hb).alloc o2

set_option maxRecDepth 100000 in
set_option maxHeartbeats 8000000 in
theorem cells_any (w : World) (R P M m : Nat) (D : DataW Value) (G : ByteArray → Cel) (L : ByteArray → Value) (h : StoIn w R P M m D G L) (hm : m ≤ 100000) (hkb : ∀ k, live (G k) = true → k.size ≤ 140737488351232) :
    Calls Tryz.prog 12 #[.pointer (some ⟨P, 0, none⟩)] w fun e w' => ∃ v z, e = .returned v ∧ CellsOf G z ∧ IsCells w' v z ∧ Below w.heap.size w w' := by
  have HW := Lib.hid h
  have HM := Lib.hid hm
  have HKB := Lib.hid hkb
  have p0 : w.cell? ⟨P, 0, none⟩ = some (.map (some M)) := cell_of_row _ _ 0 _ _ _ h.row
  clear h hm hkb
  go_enter Tryz.func12, Tryz.ntmps12
  go_wp2_with (first | (at_range; refine wpList_range_own _ rfl _ 49 rfl 9 60 keyedS2 Tryz.underlying49 cellR M m D rfl HW.out.map ?_; intro w0 hrg0 hg0 hs0) | go_in)
  go_frame
  have HC0 : Hid (CellsW w w0 R P M m D G L (Maps.has D) (Maps.size D) [] [] (.slice none 0 0)) := Lib.hid ⟨hrg0, List.nodup_nil, fun k => by
    rw [HW.out.sto.has k]; simp, fun k hk => by rw [HW.out.sto.has k] at hk; exact hk, ownsC_nil _ _, ⟨rfl, fun c hc => by cases hc⟩, ⟨hg0.os, hg0.tape, hg0.output, hg0.size, fun k hk => hg0.block k hk (by simp)⟩, by
    have := HW.out.map.size_le; simpa using this, by omega⟩
  clear hrg0 hg0 hs0 p0
  go_loopw [3] (fun v wr => ∃ left cnt ks zs, CellsW w wr R P M m D G L left cnt ks zs v) (fun _ wr => wr.rangeLeft M w.heap.size)
  case atStart => exact ⟨_, _, _, _, HC0.out⟩
  case round =>
    obtain ⟨left, cnt, ks, zs, hc⟩ := hrel
    have HC := Lib.hid hc
    clear hc HC0
    go_wp2_with (first | (at_next; refine wpList_next_ranges _ rfl _ rfl 9 keyedS2 cellR Value.string cvV keyB_inv cellB_inv M w.heap.size m D left cnt rfl HC.out.rng ?_ ?_) | go_in)
    · intro hc0 hl0
      have hmem : ∀ k, k ∈ ks ↔ live (G k) = true := fun k => by rw [HC.out.mem k]; simp [hl0]
      have HMEM := Lib.hid hmem
      clear hc0 hl0 hmem
      rcases HC.out.own.shape with ⟨rfl, hz⟩ | ⟨g, cap, rfl, hgb⟩
      · have hk : ks = [] := by rw [← HC.out.rows.1, hz]; rfl
        have HK := Lib.hid hk
        clear hz hk
        go_wp2_with (go_at_call 28; refine (sortz_any _ _).mono ?_; rintro e w1 ⟨rfl, rfl⟩)
        go_ret
        obtain ⟨z, h1, h2⟩ := RowsAre.cells (ks' := ks) (v := .slice none 0 0) HC.out.rows HC.out.nodup (List.Perm.refl _) (by rw [HK.out]; exact List.Pairwise.nil) HMEM.out (by rw [HK.out]; exact IsCvs.nil _)
        exact ⟨_, z, rfl, h1, h2, HC.out.bel⟩
      · have hkl : zs.length = ks.length := by rw [← HC.out.rows.1, List.length_map]
        have hkz : ks.map (celAtK zs) = zs := by rw [← HC.out.rows.1]; exact celAtK_all (by rw [HC.out.rows.1]; exact HC.out.nodup)
        have HKZ : Hid (ownsC wr (w.heap.size + 1) (.slice (some ⟨g, 0, none⟩) ks.length cap) (ks.map (celAtK zs))) := Lib.hid (by rw [hkz, ← hkl]; exact HC.out.own)
        have HKN : Hid (ks.length ≤ 1000000) := Lib.hid (by have := HC.out.cnt; have := HM.out; omega)
        have HOW := Lib.hid HC.out.own
        have HROW := Lib.hid HC.out.rows
        have HND := Lib.hid HC.out.nodup
        have HBE := Lib.hid HC.out.bel
        have HSZ := Lib.hid HC.out.sz
        have HGB := Lib.hid hgb
        rw [hkl] at HOW ⊢
        clear hkl hkz HC hgb
        go_wp2_with (go_at_call 28; refine (sort_any 29 cells_cmp cells_eg (celAtK zs) (celAtK_key zs) (celAtK_one HROW.out) ks g cap (w.heap.size + 1) _ HKZ.out HKN.out).mono ?_; rintro e w1 ⟨rfl, ks', hp, hs, hv, hg1⟩; have HX : Hid (ks'.Perm ks ∧ ks'.Pairwise (fun a b => leB a b = true) ∧ IsCvs w1 (.slice (some ⟨g, 0, none⟩) ks.length cap) (ks'.map (celAtK zs)) ∧ wr.grownBy w1 (some g)) := Lib.hid ⟨hp, hs, hv, hg1⟩; clear hp hs hv hg1)
        go_ret
        obtain ⟨hp, hs, hv, hg1⟩ := HX.out
        obtain ⟨z, h1, h2⟩ := RowsAre.cells (HROW.out.kept HOW.out hg1) HND.out hp hs HMEM.out hv
        exact ⟨_, z, rfl, h1, h2, below_of_grown2 HBE.out hg1 HSZ.out (fun b e => by cases e; have := HGB.out; omega)⟩
    · intro x c kl yd yp w1 cnt1 hkey hlk hv hat hrg1 hlt hg1 hs1 hen
      obtain ⟨hxs, rfl⟩ := keyB_size hkey
      obtain ⟨c', e, hy⟩ := cellR_inv hv
      obtain rfl := cvV_inj e
      simp only [Prod.mk.injEq] at hy
      obtain ⟨rfl, rfl⟩ := hy
      obtain ⟨hl, rfl⟩ := HW.out.sto.entry hat
      obtain ⟨a, cc, hLx⟩ := (HW.out.own x hl).slice
      rw [hLx] at hen
      have hb1 : Below w.heap.size w w1 := below_of_grown2 HC.out.bel hg1 HC.out.sz (fun b e => by cases e; exact Nat.le_refl _)
      have hen2 : (Instr.entry (.pointer (some ⟨w.heap.size, 0, none⟩))).run Tryz.prog w1 = .ok (.tuple #[.string x, .agg #[.string x, .bool (G x).has, .string (G x).text, .int .i64 (G x).sum, .slice a (G x).list.length cc]]) w1 := hen
      have HLX : Hid (IsTexts w (.slice a (G x).list.length cc) (G x).list) := Lib.hid (by rw [← hLx]; exact (HW.out.own x hl).isTexts)
      obtain ⟨t, ht⟩ : ∃ t, t = (G x).text := ⟨_, rfl⟩
      obtain ⟨hh, hhh⟩ : ∃ hh, hh = (G x).has := ⟨_, rfl⟩
      obtain ⟨sm, hsm⟩ : ∃ sm, sm = (G x).sum := ⟨_, rfl⟩
      obtain ⟨ll, hll⟩ : ∃ ll, ll = (G x).list := ⟨_, rfl⟩
      obtain ⟨n, hn⟩ : ∃ n, n = (G x).list.length := ⟨_, rfl⟩
      have htx : t.size ≤ 140737488351232 := by rw [ht]; exact (HW.out.text x).1
      have htl : ∀ q ∈ ll, q.size ≤ 140737488351232 := by rw [hll]; exact (HW.out.text x).2
      have hlm : ll.length ≤ 1000000 := by rw [hll]; have := HW.out.len x; have := HM.out; omega
      have HEQ : Hid (t = (G x).text ∧ hh = (G x).has ∧ sm = (G x).sum ∧ ll = (G x).list) := Lib.hid ⟨ht, hhh, hsm, hll⟩
      rw [← ht, ← hhh, ← hsm, ← hn] at hen2
      rw [← hn, ← hll] at HLX
      have HTL := Lib.hid htl
      have HB1 := Lib.hid hb1
      have HG1 := Lib.hid hg1
      have HRG1 := Lib.hid hrg1
      have HLT := Lib.hid hlt
      have HLK := Lib.hid hlk
      have HL := Lib.hid hl
      have HS1 := Lib.hid hs1
      have hxs2 : x.size ≤ 140737488351232 := HKB.out x HL.out
      clear htl hb1 hg1 hrg1 hlt hlk hl hs1 hen hat hv hkey e hLx ht hhh hsm hll hn
      go_wp2_with fail
      refine (apart_any x t hh sm a n cc ll _ hxs2 htx (HLX.out.below (HB1.out.alloc HB1.out.size _)) hlm HTL.out).mono ?_
      rintro r w3 ⟨u, rfl, ho3, hb3⟩
      obtain ⟨au, cu, rfl⟩ := ho3.slice
      have HO3 := Lib.hid ho3
      have HB3 := Lib.hid hb3
      clear ho3 hb3
      go_wp2_with (first
        | (at_builtin; refine wpList_append_cv rfl _ _ rfl (w.heap.size + 1) u3 zs rfl (cells_own HC.out.own HG1.out HB3.out) w3.heap.size 1 rfl ⟨x, hh, t, sm, .slice au ll.length cu⟩ rfl (MapKept.heap_alloc w3 _).1 (by have := HC.out.cnt; have := HC.out.rows.1; have := HM.out; have h9 := congrArg List.length HC.out.rows.1; rw [List.length_map] at h9; omega) (by have := HB3.out.size; simp at this ⊢; have := HS1.out; have := HC.out.sz; omega) ?_; intro g cap w5 ho5 hg5; have HO5 := Lib.hid ho5; have HG5 := Lib.hid hg5; clear ho5 hg5))
      obtain ⟨rfl, rfl, rfl, rfl⟩ := HEQ.out
      have gA : w1.grownBy (w3.alloc (.cells #[.string x, .bool (G x).has, .string (G x).text, .int .i64 (G x).sum, .slice au (G x).list.length cu] 60)) none := grown_alloc (grown_on (grown_alloc (grown_refl _ none) _) (grown_of_below HB3.out)) _
      have hco := cells_own (o2 := .cells #[.string x, .bool (G x).has, .string (G x).text, .int .i64 (G x).sum, .slice au (G x).list.length cu] 60) HC.out.own HG1.out HB3.out
      have hMw : M < w.heap.size := Nat.lt_of_lt_of_le HW.out.mr HW.out.rw'
      have hr5 := (HRG1.out.kept gA (by simp) (by simp)).kept HG5.out (range_off HC.out.own (by omega)) (range_off HC.out.own (by omega))
      refine ⟨⟨_, cnt1, ks ++ [x], _, ⟨hr5, ?_, fun k => ?_, fun k hk => ?_, HO5.out, ?_, ?_, ?_, ?_⟩⟩, ?_⟩
      · rw [List.nodup_append]
        refine ⟨HC.out.nodup, by simp, fun a ha b hb => ?_⟩
        obtain rfl := List.mem_singleton.1 hb
        rintro rfl
        have := ((HC.out.mem a).1 ha).2
        rw [HLK.out] at this
        cases this
      · rw [List.mem_append, HC.out.mem k, List.mem_singleton]
        by_cases e : k = x
        · subst e
          have hsk : (keyL k).sameKey (keyL k) = true := by simp [keyL, Lit.sameKey]
          simp [hsk, HL.out]
        · have hsk : (keyL k).sameKey (keyL x) = false := Maps.sameKey_ne (fun e2 => e (keyL_inj e2))
          simp [hsk, e]
      · simp only [Bool.and_eq_true] at hk
        exact HC.out.lsub k hk.1
      · refine (((HC.out.rows.off HG1.out (Nat.lt_succ_self _)).grown gA).add (ownsS.mono (HO3.out.alloc _) ?_)).kept hco HG5.out
        have := HB1.out.size
        simp; omega
      · refine below_of_grown2 (below_of_grown2 HB1.out gA (by have := HS1.out; have := HC.out.sz; omega) (fun g e => by cases e)) HG5.out ?_ (fun g e => by have := (HC.out.own.lt g e).1; omega)
        have := gA.size; have := HS1.out; have := HC.out.sz; omega
      · have := HC.out.cnt; have := HLT.out; rw [List.length_append]; simp; omega
      · have := gA.size; have := HG5.out.size; have := HS1.out; have := HC.out.sz; omega
      · rw [hr5.left_eq, HC.out.rng.left_eq]; exact HLT.out
end Go.Proofs.YtpmnflnaeknakaaGreatDoor
