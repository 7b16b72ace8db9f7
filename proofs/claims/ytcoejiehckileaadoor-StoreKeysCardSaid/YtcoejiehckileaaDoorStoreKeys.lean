/-
  The walk of 'packtrainkeep.StoreKeys'.
-/
import Derived.Test.YtcoejiehckileaaDoorStoLaw
import Derived.Test.YtcoejiehckileaaDoorCvCat
namespace Go.Proofs.YtcoejiehckileaaDoor
open Go.RowKit Go.Sort

theorem wpList_append_wr_at {w : World} {ops : Array Oper} {rest : List Oper} {o : Oper} {a : Act} {Q : Exit → Act → World → Prop} (hgd : o.guard = none) (s x : Operand)
    (ho : o.op = .call { callee := .builtin .append, args := #[s, x], argTypes := #[22, 22] })
    (base : Nat) (v : Value) (l : List Wr) (hs : a.eval s = v) (hown : ownsW w base v l)
    (B c : Nat) (hx : a.eval x = .slice (some ⟨B, 0, none⟩) 1 c) (t : Wr) (hcell : wrBlk w B t)
    (hlen : l.length + 1 ≤ 1000000) (hbase : base ≤ w.heap.size)
    (h : ∀ g cap w', ownsW w' base (.slice (some ⟨g, 0, none⟩) (l.length + 1) cap) (l ++ [t]) → w.grownBy w' v.ownBlock → (v.ownBlock = some g ∨ g = w.heap.size) → wpList Tryd.prog ops Q rest (a.put o.dst (.slice (some ⟨g, 0, none⟩) (l.length + 1) cap)) w') : wpList Tryd.prog ops Q (o :: rest) a w := by
  obtain ⟨i0, hi, hz0, hz1, hz2⟩ := info_parts info_wr
  refine wpList_append_lies w hgd s x 22 ho base 37 i0 (.agg #[.int .i64 0, .int .i64 0, .int .i64 0, .string ⟨#[]⟩, .string ⟨#[]⟩, .int .i64 0]) 6 64 Tryd.underlying22 hi hz0 hz1 hz2 rfl (by decide) v l.length (wrsC l) hs hown ⟨B, 0, none⟩ 1 c (wrC t) hx rfl ?_ (wrC_cell t) (by decide) (by unfold maxLen; omega) (by omega) hbase _ rfl ?_
  · intro j u hj
    have hadd : (⟨B, 0, none⟩ : Addr).add j = ⟨B, j, none⟩ := by unfold Addr.add; split <;> simp_all
    rw [hadd, cell_of_row _ _ _ _ _ _ hcell, ← hj]
    simp
  · intro g cap w' h1 h2 h3 _
    refine h g cap w' ?_ h2 h3
    unfold ownsW
    rw [List.length_append, wrsC_app, wrsC_one]
    exact h1

/-- Cells that read as z, one by one. -/
def RelC (w : World) (zs : List CV) (z : List (ByteArray × Cel)) : Prop := zs.length = z.length ∧ ∀ (i : Nat) (c : CV), zs[i]? = some c → ∃ p : ByteArray × Cel, z[i]? = some p ∧ c.key = p.1 ∧ c.has = p.2.has ∧ c.text = p.2.text ∧ c.sum = p.2.sum ∧ IsTexts w c.list p.2.list
theorem RelC.below {w w' : World} {zs : List CV} {z : List (ByteArray × Cel)} (h : RelC w zs z) (hb : Below w.heap.size w w') : RelC w' zs z :=
  ⟨h.1, fun i c hc => by obtain ⟨p, a, b, c1, d, e, f⟩ := h.2 i c hc; exact ⟨p, a, b, c1, d, e, f.below hb⟩⟩
theorem RelC.app {w : World} {zs ys : List CV} {z y : List (ByteArray × Cel)} (h : RelC w zs z) (k : RelC w ys y) : RelC w (zs ++ ys) (z ++ y) := by
  refine ⟨by rw [List.length_append, List.length_append, h.1, k.1], fun i c hc => ?_⟩
  by_cases hi : i < zs.length
  · rw [List.getElem?_append_left hi] at hc
    obtain ⟨p, a, r⟩ := h.2 i c hc
    exact ⟨p, by rw [List.getElem?_append_left (by rw [← h.1]; exact hi)]; exact a, r⟩
  · rw [List.getElem?_append_right (by omega)] at hc
    obtain ⟨p, a, r⟩ := k.2 _ c hc
    exact ⟨p, by rw [List.getElem?_append_right (by rw [← h.1]; omega), ← h.1]; exact a, r⟩
theorem RelC.keys {w : World} {zs : List CV} {z : List (ByteArray × Cel)} (h : RelC w zs z) : zs.map (·.key) = z.map (·.1) := by
  apply List.ext_getElem?
  intro i
  rw [List.getElem?_map, List.getElem?_map]
  by_cases hi : i < zs.length
  · obtain ⟨c, hc⟩ : ∃ c, zs[i]? = some c := ⟨zs[i], List.getElem?_eq_getElem hi⟩
    obtain ⟨p, hp, e, _⟩ := h.2 i c hc
    rw [hc, hp]; simp [e]
  · rw [List.getElem?_eq_none (by omega), List.getElem?_eq_none (by rw [← h.1]; omega)]; rfl
theorem RelC.ones {w : World} {zs : List CV} {z : List (ByteArray × Cel)} (h : RelC w zs z) : ∀ c ∈ zs, c.list.oneCell' = true := fun c hc => by
  obtain ⟨i, hi⟩ := List.getElem?_of_mem hc
  obtain ⟨p, _, _, _, _, _, e⟩ := h.2 i c hi
  obtain ⟨a, q, e2⟩ := e.form
  rw [e2]; rfl
theorem celAtK_ones {zs : List CV} (h : ∀ c ∈ zs, c.list.oneCell' = true) (k : ByteArray) : (celAtK zs k).list.oneCell' = true := by
  unfold celAtK
  split
  · rename_i c e; exact h c (List.mem_of_find?_eq_some e)
  · rfl
/-- Cells under the key, cells under others. -/
def partsZ (L : List Wr) (k : ByteArray) : List (ByteArray × Cel) := cellsF (L.filter (fun w => decide (w.key = k))) ++ cellsF (L.filter (fun w => !decide (w.key = k)))
theorem parts_cell {L : List Wr} {k : ByteArray} {p : ByteArray × Cel} (h : p ∈ partsZ L k) : p.2 = cellK L p.1 := by
  obtain ⟨j, c⟩ := p
  rcases List.mem_append.1 h with h | h
  · obtain ⟨h1, h2⟩ := cellsF_mem.1 h
    rw [cellK_mine] at h1
    by_cases e : j = k
    · rw [if_pos e] at h1; exact h1.symm
    · rw [if_neg e] at h1; subst h1; cases h2
  · obtain ⟨h1, h2⟩ := cellsF_mem.1 h
    rw [cellK_others] at h1
    by_cases e : j = k
    · rw [if_pos e] at h1; subst h1; cases h2
    · rw [if_neg e] at h1; exact h1.symm
theorem parts_nodup (L : List Wr) (k : ByteArray) : ((partsZ L k).map (·.1)).Nodup := by
  unfold partsZ
  rw [List.map_append, List.nodup_append]
  refine ⟨cellsF_nodup _, cellsF_nodup _, fun a ha b hb => ?_⟩
  obtain ⟨⟨a', c⟩, h1, rfl⟩ := List.mem_map.1 ha
  obtain ⟨⟨b', d⟩, h2, rfl⟩ := List.mem_map.1 hb
  obtain ⟨e1, e2⟩ := cellsF_mem.1 h1
  obtain ⟨f1, f2⟩ := cellsF_mem.1 h2
  rw [cellK_mine] at e1
  rw [cellK_others] at f1
  have ha' : a' = k := by
    by_cases e : a' = k
    · exact e
    · rw [if_neg e] at e1; subst e1; cases e2
  have hb' : b' ≠ k := by
    intro e
    rw [if_pos e] at f1; subst f1; cases f2
  show a' ≠ b'
  rw [ha']; exact Ne.symm hb'
theorem parts_eq (L : List Wr) (k : ByteArray) : ((partsZ L k).map (·.1)).map (fun j => (j, cellK L j)) = partsZ L k := by
  rw [List.map_map]
  conv => rhs; rw [← List.map_id (partsZ L k)]
  refine List.map_congr_left (fun p hp => ?_)
  show (p.1, cellK L p.1) = p
  rw [← parts_cell hp]
theorem keys_cells {w w' : World} {v : Value} {L : List Wr} {k : ByteArray} {zs : List CV} {ks' : List ByteArray} (hr : RelC w zs (partsZ L k)) (hp : ks'.Perm (zs.map (·.key))) (hs : ks'.Pairwise (fun a b => leB a b = true)) (hb : Below w.heap.size w w') (hv : IsCvs w' v (ks'.map (celAtK zs))) : IsCells w' v (cellsF L) := by
  have hks : zs.map (·.key) = (partsZ L k).map (·.1) := hr.keys
  have hz : (ks'.map fun j => (j, cellK L j)) = cellsF L := by
    refine cells_keys L k ?_ (List.pairwise_map.2 hs)
    have h1 := hp.map (fun j => (j, cellK L j))
    rw [hks, parts_eq] at h1
    exact h1
  have hn : (zs.map (·.key)).Nodup := by rw [hks]; exact parts_nodup L k
  rw [← hz]
  refine ⟨_, hv, by rw [List.length_map, List.length_map], fun i c hc => ?_⟩
  rw [List.getElem?_map] at hc
  obtain ⟨j, hj, rfl⟩ := Option.map_eq_some_iff.1 hc
  obtain ⟨c0, hc0, rfl⟩ := List.mem_map.1 (hp.mem_iff.1 (List.mem_of_getElem? hj))
  rw [celAtK_mem hn hc0]
  obtain ⟨i0, hi0⟩ := List.getElem?_of_mem hc0
  obtain ⟨p, hpi, e1, e2, e3, e4, e5⟩ := hr.2 i0 c0 hi0
  have h2 := parts_cell (List.mem_of_getElem? hpi)
  rw [h2, ← e1] at e2 e3 e4 e5
  exact ⟨(c0.key, cellK L c0.key), by rw [List.getElem?_map, hj]; rfl, rfl, e2, e3, e4, e5.below hb⟩

set_option maxRecDepth 100000 in
theorem keys_cmp : CmpC 23 := by
  intro a b W
  obtain ⟨ka, ha, ta, sa, la⟩ := a
  obtain ⟨kb, hb, tb, sb, lb⟩ := b
  show Calls Tryd.prog 23 #[.agg #[.string ka, .bool ha, .string ta, .int .i64 sa, la], .agg #[.string kb, .bool hb, .string tb, .int .i64 sb, lb]] W fun e w' => e = .returned (.int .i64 (cfB ka kb)) ∧ ∃ q os', w' = grow (W.drewN q) os'
  unfold cfB
  have hcon := fun W' => Tryd.strings_Compare ka kb W'
  generalize Lib.compareBytes ka.data.toList kb.data.toList = r at hcon ⊢
  go_enter Tryd.func23, Tryd.ntmps23
  go_wp2_with (go_at_call 24; refine (hcon _).mono ?_; rintro e w' ⟨rfl, rfl⟩)
  go_ret
  exact ⟨rfl, 0, _, by rw [alloc_eq_grow, alloc_eq_grow, grow_grow]; rfl⟩
theorem keys_eg : ∀ args w, (callFunc 23 args).run Tryd.prog w = .ok (.enter 23 args) w := enters_of Tryd.func23 (by kernel_rfl) rfl
/-- The cells of both parts, sorted. -/
theorem keys_sort {wc w : World} {base : Nat} {v : Value} {zs : List CV} {L : List Wr} {k : ByteArray} (hr : RelC wc zs (partsZ L k)) (hb : Below wc.heap.size wc w) (ho : ownsC w base v zs) (hbase : wc.heap.size ≤ base) (hn : zs.length ≤ 1000000) :
    Calls Tryd.prog 22 #[v, .func (.func 23) #[] #[]] w fun e w' => e = .returned (.tuple #[]) ∧ IsCells w' v (cellsF L) ∧ Below wc.heap.size wc w' := by
  have hnd : (zs.map (·.key)).Nodup := by rw [hr.keys]; exact parts_nodup L k
  rcases ho.shape with ⟨rfl, rfl⟩ | ⟨g, cap, rfl, hg⟩
  · refine (sortz_any _ _).mono ?_
    rintro e w' ⟨rfl, rfl⟩
    exact ⟨rfl, keys_cells (ks' := []) hr (List.Perm.refl _) List.Pairwise.nil hb (IsCvs.nil _), hb⟩
  · have h1 : ownsC w base (.slice (some ⟨g, 0, none⟩) (zs.map (·.key)).length cap) ((zs.map (·.key)).map (celAtK zs)) := by
      rw [celAtK_all hnd, List.length_map]; exact ho
    have h2 := sort_any 23 keys_cmp keys_eg (celAtK zs) (celAtK_key zs) (celAtK_ones hr.ones) (zs.map (·.key)) g cap base w h1 (by rw [List.length_map]; exact hn)
    rw [List.length_map] at h2
    refine h2.mono ?_
    rintro e w' ⟨rfl, ks', hp, hs, hv, hgr⟩
    have hb' : Below wc.heap.size wc w' := below_of_grown hb hgr hb.size (fun j e => by cases e; omega)
    exact ⟨rfl, keys_cells hr hp hs hb' hv, hb'⟩
theorem allCvs2 {w : World} {B : Nat} {v1 v2 : Value} {l1 l2 : List CV} {T : TypeId} (h : w.heap[B]? = some (.cells #[v1, v2] T (0, 0))) (h1 : IsCvs w v1 l1) (h2 : IsCvs w v2 l2) (k1 : ∀ c ∈ l1, c.list.oneCell' = true) (k2 : ∀ c ∈ l2, c.list.oneCell' = true) : AllCvs w B [v1, v2] [l1, l2] := by
  refine ⟨rfl, fun j v hj => ?_⟩
  match j, hj with
  | 0, hj => simp at hj; subst hj; exact ⟨l1, rfl, cell_of_row _ _ 0 _ _ _ h, h1, k1⟩
  | 1, hj => simp at hj; subst hj; exact ⟨l2, rfl, cell_of_row _ _ 1 _ _ _ h, h2, k2⟩
theorem filt_snoc (p : Wr → Bool) {L : List Wr} {k : Nat} {x : Wr} (hx : L[k]? = some x) : (L.take (k + 1)).filter p = (L.take k).filter p ++ (if p x then [x] else []) := by
  rw [take_snoc hx, List.filter_append]
  congr 1
  cases e : p x <;> simp [e]
theorem filt_len (p : Wr → Bool) (L : List Wr) : (L.filter p).length ≤ L.length := List.length_filter_le _ _
/-- Two slices that share no block. -/
def Apart2 (u v : Value) : Prop := ∀ b, u.ownBlock = some b → v.ownBlock = some b → False
theorem Apart2.ne {u v : Value} (h : Apart2 u v) : v.ownBlock = none ∨ v.ownBlock ≠ u.ownBlock := by
  cases e : v.ownBlock with
  | none => exact .inl rfl
  | some b => exact .inr (fun c => h b c.symm e)
theorem Apart2.symm {u v : Value} (h : Apart2 u v) : Apart2 v u := fun b p q => h b q p
theorem Apart2.grow {w : World} {base : Nat} {u v : Value} {l : List Wr} (h : Apart2 u v) (hv : ownsW w base v l) {g n c : Nat} (hg : u.ownBlock = some g ∨ g = w.heap.size) : Apart2 (.slice (some ⟨g, 0, none⟩) n c) v := fun b p q => by
  obtain rfl : g = b := Option.some.inj p
  rcases hg with hg | rfl
  · exact h g hg q
  · have := (hv.lt _ q).2; omega

set_option maxRecDepth 100000 in
set_option maxHeartbeats 8000000 in
theorem storeKeys_walk (W : World) (v : Value) (l : List Wr) (hi : IsWrs W v l) (hl : l.length ≤ 9223372036854775807) (hok : ∀ t ∈ l, WrOk t) (key : ByteArray) {R : Prop} (_ : R) {Q : Prop} (_ : Q) :
    Calls Tryd.prog 5 #[v, .string key] W fun e w' => e = .returned (.bool true) ∧ Below W.heap.size W w' := by
  have HI := Lib.hid hi
  have HOK := Lib.hid hok
  clear hi hok
  go_enter Tryd.func5, Tryd.ntmps5
  go_wp2_with (go_at_call 11; refine (stored_any _).mono ?_; rintro r w1 ⟨rfl, hb1⟩; have HB1 := Lib.hid hb1; clear hb1)
  refine (right_any v l _ (HI.out.below HB1.out) hl HOK.out).mono ?_
  rintro r w3 ⟨u1, rfl, ho3, hb3⟩
  have HB3 : Hid (Below W.heap.size W w3) := Lib.hid (HB1.out.trans (hb3.mono HB1.out.size))
  have hr : ∀ x ∈ rightL l, wrF x = 0 := fun x hx => (rightL_ok hx).1
  have hn1 := rightL_len l
  obtain ⟨a5, c5, rfl, _⟩ := ho3.is.form
  generalize rightL l = L at hr hn1 ho3 ⊢
  have HR := Lib.hid hr
  have HIL : Hid (IsWrs w3 (.slice a5 L.length c5) L) := Lib.hid ho3.is
  obtain ⟨n, hn⟩ : ∃ n, n = L.length := ⟨_, rfl⟩
  rw [← hn] at HIL ⊢
  have HN := Lib.hid hn
  have hn60 : n ≤ 60 := by omega
  clear ho3 hb3 hr hn hn1
  go_wp2_with fail
  go_loopw [5, 6, 22] (fun u v i wr => ∃ k : Nat, k ≤ n ∧ i = .int .i64 k ∧ ownsW wr w3.heap.size u ((L.take k).filter (fun w => decide (w.key = key))) ∧ ownsW wr w3.heap.size v ((L.take k).filter (fun w => !decide (w.key = key))) ∧ Apart2 u v ∧ Below w3.heap.size w3 wr) (fun _ _ i _ => n - (intOf i).toNat)
  case atStart => exact ⟨0, by omega, rfl, ownsW_nil _ _, ownsW_nil _ _, fun b h => (by cases h), Below.refl _ _⟩
  case round =>
    obtain ⟨k, hk, rfl, hm, ho, hap, hb⟩ := hrel
    have HM := Lib.hid hm
    have HO := Lib.hid ho
    have HAP := Lib.hid hap
    have HB := Lib.hid hb
    have HSR : Hid (w3.heap.size ≤ wr.heap.size) := Lib.hid hb.size
    clear hm ho hap hb
    by_cases hlt : k < n
    · have b1 : decide ((k : Int) < (n : Int)) = true := by simpa using hlt
      obtain ⟨x, hx⟩ : ∃ x, L[k]? = some x := ⟨L[k]'(by rw [← HN.out]; exact hlt), List.getElem?_eq_getElem _⟩
      obtain ⟨_, _, e, hf⟩ := (HIL.out.below HB.out).form
      obtain ⟨ee, en, ec⟩ := Value.slice.inj e
      clear en ec
      subst ee
      obtain ⟨b, off, rfl, hbl, c0, c1, c2, c3, c4, c5'⟩ := hf k x hx
      have HX := Lib.hid hx
      obtain ⟨T, Re, K, key', val, N⟩ := x
      simp only at c0 c1 c2 c3 c4 c5'
      clear hx hbl e hf
      by_cases hkk : key' = key
      · subst hkk
        go_wp2_with (at_builtin; refine wpList_append_wr_at rfl _ _ rfl w3.heap.size _ _ rfl ((HM.out.alloc _).alloc _) (wr.heap.size + 1) 1 rfl ⟨T, Re, K, key', val, N⟩ (alloc2_row wr _ _) (by have := filt_len (fun w => decide (w.key = key')) (L.take k); have := List.length_take_le' k L; have := HN.out; omega) (by have := HSR.out; simp; omega) ?_; intro g cap w5 ho5 hg5 he5; have HO5 := Lib.hid ho5; have HG5 := Lib.hid hg5; have HE5 := Lib.hid he5; clear ho5 hg5 he5)
        go_roundw
        · refine ⟨k + 1, by omega, by simp, ?_, ?_, ?_, ?_⟩
          · rw [filt_snoc _ HX.out, if_pos (by simp)]; exact HO5.out
          · rw [filt_snoc _ HX.out, if_neg (by simp), List.append_nil]
            exact World.ownsRow.kept ((HO.out.alloc _).alloc _) HG5.out HAP.out.ne
          · exact HAP.out.grow ((HO.out.alloc _).alloc _) HE5.out
          · exact below_of_grown ((HB.out.alloc HSR.out _).alloc (by have := HSR.out; simp; omega) _) HG5.out (by have := HSR.out; simp; omega) (fun g e => (HM.out.lt g e).1)
        · simp [intOf]; omega
      · have b2 : decide (key' = key) = false := by simpa using hkk
        have b3 : (key'.toList == key.toList) = false := beq_eq_false_iff_ne.2 (fun h => hkk (by rw [ByteArray.toList_eq, ByteArray.toList_eq] at h; exact ByteArray.ext (Array.ext' h)))
        go_wp2_with (at_builtin; refine wpList_append_wr_at rfl _ _ rfl w3.heap.size _ _ rfl ((HO.out.alloc _).alloc _) (wr.heap.size + 1) 1 rfl ⟨T, Re, K, key', val, N⟩ (alloc2_row wr _ _) (by have := filt_len (fun w => !decide (w.key = key)) (L.take k); have := List.length_take_le' k L; have := HN.out; omega) (by have := HSR.out; simp; omega) ?_; intro g cap w5 ho5 hg5 he5; have HO5 := Lib.hid ho5; have HG5 := Lib.hid hg5; have HE5 := Lib.hid he5; clear ho5 hg5 he5)
        go_roundw
        · refine ⟨k + 1, by omega, by simp, ?_, ?_, ?_, ?_⟩
          · rw [filt_snoc _ HX.out, if_neg (by simpa using hkk), List.append_nil]
            exact World.ownsRow.kept ((HM.out.alloc _).alloc _) HG5.out HAP.out.symm.ne
          · rw [filt_snoc _ HX.out, if_pos (by simpa using hkk)]; exact HO5.out
          · exact (HAP.out.symm.grow ((HM.out.alloc _).alloc _) HE5.out).symm
          · exact below_of_grown ((HB.out.alloc HSR.out _).alloc (by have := HSR.out; simp; omega) _) HG5.out (by have := HSR.out; simp; omega) (fun g e => (HO.out.lt g e).1)
        · simp [intOf]; omega
    · have b1 : decide ((k : Int) < (n : Int)) = false := by simp; omega
      obtain rfl : k = n := by omega
      have hfull : L.take k = L := List.take_of_length_le (by rw [HN.out]; exact Nat.le_refl _)
      rw [hfull] at HM HO
      have HFM : Hid (((L.filter (fun w => decide (w.key = key))).length ≤ 60 ∧ (∀ x ∈ L.filter (fun w => decide (w.key = key)), wrF x = 0)) ∧ ((L.filter (fun w => !decide (w.key = key))).length ≤ 60 ∧ (∀ x ∈ L.filter (fun w => !decide (w.key = key)), wrF x = 0))) := Lib.hid ⟨⟨by have := filt_len (fun w => decide (w.key = key)) L; have := HN.out; omega, fun x hx => HR.out x (List.mem_filter.1 hx).1⟩, ⟨by have := filt_len (fun w => !decide (w.key = key)) L; have := HN.out; omega, fun x hx => HR.out x (List.mem_filter.1 hx).1⟩⟩
      have HMI : Hid (IsWrs wr _ _) := Lib.hid HM.out.is
      have HOI : Hid (IsWrs wr _ _) := Lib.hid HO.out.is
      clear HM HO hfull
      go_wp2_with fail
      refine (of_good _ L _ (HIL.out.below HB.out) HR.out (by rw [← HN.out]; omega)).mono ?_
      rintro r w6 ⟨ua, rfl, hua, hb6⟩
      have HUA := Lib.hid hua
      have HB6 := Lib.hid hb6
      clear hua hb6
      go_wp2_with fail
      refine (of_good _ _ _ (HMI.out.below HB6.out) HFM.out.1.2 (by have := HFM.out.1.1; omega)).mono ?_
      rintro r w7 ⟨ub, rfl, hub, hb7⟩
      have HUB := Lib.hid hub
      have HB7 : Hid (Below wr.heap.size wr w7) := Lib.hid (HB6.out.trans (hb7.mono HB6.out.size))
      have HA7 : Hid (IsCells w7 ua (cellsF L)) := Lib.hid (HUA.out.below hb7)
      clear hub hb7 HUA HB6
      go_wp2_with fail
      refine (of_good _ _ _ (HOI.out.below HB7.out) HFM.out.2.2 (by have := HFM.out.2.1; omega)).mono ?_
      rintro r w8 ⟨uc, rfl, huc, hb8⟩
      have HB8 : Hid (Below wr.heap.size wr w8) := Lib.hid (HB7.out.trans (hb8.mono HB7.out.size))
      have HA8 : Hid (IsCells w8 ua (cellsF L)) := Lib.hid (HA7.out.below hb8)
      obtain ⟨zb, hvb, hrb⟩ := HUB.out.below hb8
      obtain ⟨zc, hvc, hrc⟩ := huc
      obtain ⟨xb, yb, rfl, _⟩ := hvb.form
      obtain ⟨xc, yc, rfl, _⟩ := hvc.form
      have HVB := Lib.hid hvb
      have HVC := Lib.hid hvc
      have HRB : Hid (RelC w8 zb _) := Lib.hid hrb
      have HRC : Hid (RelC w8 zc _) := Lib.hid hrc
      have HRZ : Hid (RelC w8 (zb ++ zc) (partsZ L key)) := Lib.hid (HRB.out.app HRC.out)
      have HZN : Hid ((zb ++ zc).length ≤ 1000) := Lib.hid (by rw [List.length_append, hrb.1, hrc.1]; have := HFM.out; have := cellsF_len (L.filter (fun w => decide (w.key = key))); have := cellsF_len (L.filter (fun w => !decide (w.key = key))); omega)
      have HFL : Hid ([zb, zc].flatten = zb ++ zc) := Lib.hid (by simp)
      clear hb8 hvb hrb hvc hrc HUB HB7 HA7
      go_wp2_with fail
      refine (ccat_any [_, _] [zb, zc] w8.heap.size 2 2 _ (allCvs2 (MapKept.heap_alloc w8 _).1 (HVB.out.alloc _) (HVC.out.alloc _) HRB.out.ones HRC.out.ones) rfl (by omega) (by rw [HFL.out]; have := HZN.out; omega) (by simp)).mono ?_
      rintro r w9 ⟨u9, rfl, ho9, hb9⟩
      rw [HFL.out] at ho9
      have HO9 := Lib.hid ho9
      have HB9 : Hid (Below w8.heap.size w8 w9) := Lib.hid (((Below.refl _ w8).alloc (Nat.le_refl _) _).trans (hb9.mono (by simp)))
      clear ho9 hb9
      go_wp2_with fail
      refine (keys_sort HRZ.out HB9.out HO9.out (by simp) (by have := HZN.out; omega)).mono ?_
      rintro r w10 ⟨rfl, hu10, hb10⟩
      have HU10 := Lib.hid hu10
      have HB10 := Lib.hid hb10
      clear hu10 hb10
      go_wp2_with (go_at_call 19; refine (same_cells _ _ L _ (HA8.out.below HB10.out) HU10.out (by rw [← HN.out]; omega)).mono ?_; rintro r w11 ⟨rfl, hb11⟩; have HB11 := Lib.hid hb11; clear hb11)
      go_ret
      exact ⟨rfl, (HB3.out.trans (HB.out.mono HB3.out.size)).trans (((HB8.out.trans (HB10.out.mono HB8.out.size)).trans (HB11.out.mono (Nat.le_trans HB8.out.size HB10.out.size))).mono (Nat.le_trans HB3.out.size HSR.out))⟩
end Go.Proofs.YtcoejiehckileaaDoor
