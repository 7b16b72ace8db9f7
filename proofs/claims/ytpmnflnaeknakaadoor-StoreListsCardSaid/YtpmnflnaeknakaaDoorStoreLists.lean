/-
  The walk of 'packtrainkeep.StoreLists'.
-/
import Derived.Test.YtpmnflnaeknakaaDoorStrSeq
import Derived.Test.YtpmnflnaeknakaaDoorKeyEq
import Derived.Test.YtpmnflnaeknakaaDoorLstStep
import Derived.Test.YtpmnflnaeknakaaDoorWrAt
import Derived.Test.YtpmnflnaeknakaaDoorStrs2
namespace Go.Proofs.YtpmnflnaeknakaaDoor
open Go.RowKit

/-- What is inserted. -/
def insL4 (l : List Wr) : List Wr := l.filter (fun w => decide (w.kind = 4))
theorem ins_yes {L : List Wr} {k : Nat} {x : Wr} (hx : L[k]? = some x) (h : x.kind = 4) : insL4 (L.take (k + 1)) = insL4 (L.take k) ++ [x] := by
  unfold insL4; rw [filt_snoc' _ hx, if_pos (by simpa using h)]
theorem ins_no {L : List Wr} {k : Nat} {x : Wr} (hx : L[k]? = some x) (h : x.kind ≠ 4) : insL4 (L.take (k + 1)) = insL4 (L.take k) := by
  unfold insL4; rw [filt_snoc' _ hx, if_neg (by simpa using h), List.append_nil]
theorem ins_len (L : List Wr) : (insL4 L).length ≤ L.length := List.length_filter_le _ _
theorem LstW.off {w : World} {b n base : Nat} {D : DataW Value} {L : ByteArray → Value} {V : ByteArray → List ByteArray} {t : List ByteArray} (h : LstW w b n base D L V t) (k : ByteArray) : some b ≠ (L k).ownBlock := fun e => by
  have h1 := ((h.own k).lt b e.symm).1
  have h2 := h.low
  omega
theorem own_ne4 {w : World} {base M : Nat} {v : Value} {l : List Wr} (h : ownsW w base v l) (hM : M < base) : v.ownBlock = none ∨ v.ownBlock ≠ some M := by
  cases e : v.ownBlock with
  | none => exact .inl rfl
  | some g => exact .inr (fun e2 => by have := (h.lt g e).1; have e3 : g = M := Option.some.inj e2; omega)
theorem own_ne5 {w : World} {base M : Nat} {v : Value} {l : List Wr} (h : ownsW w base v l) (hM : M < base ∨ w.heap.size ≤ M) : some M ≠ v.ownBlock := fun e => by
  have h1 := h.lt M e.symm
  omega
theorem step_append_str_at (w : World) {ops : Array Oper} {o : Oper} {a : Act} {K : Act → World → Prop} {Q : Exit → Act → World → Prop} {E : Prop} (hgd : o.guard = none) (s x : Operand)
    (ho : o.op = .call { callee := .builtin .append, args := #[s, x], argTypes := #[30, 30] })
    (base : Nat) (v : Value) (l : List ByteArray) (hs : a.eval s = v) (hown : ownsS w base v l)
    (ad : Addr) (c : Nat) (hx : a.eval x = .slice (some ad) 1 c) (d : ByteArray) (hcell : w.cell? (ad.add 0) = some (.string d))
    (hlen : l.length + 1 ≤ 8796093022208) (hbase : base ≤ w.heap.size)
    (h : ∀ g cap w', ownsS w' base (.slice (some ⟨g, 0, none⟩) (l.length + 1) cap) (l ++ [d]) → w.grownBy w' v.ownBlock → (v.ownBlock = some g ∨ g = w.heap.size) → K (a.put o.dst (.slice (some ⟨g, 0, none⟩) (l.length + 1) cap)) w') :
    if Region.wanted o (yielded ops a.tmps) = true then Oper.wp Tryd.prog o a w K Q else E := by
  obtain ⟨i0, hi, hz0, hz1, hz2⟩ := info_parts info_str
  refine step_append_lies w hgd s x 30 ho base 9 i0 (.string ⟨#[]⟩) 1 16 Tryd.underlying30 hi hz0 hz1 hz2 rfl (by decide) v l.length (l.map Value.string) hs hown ad 1 c [.string d] hx rfl ?_ ?_ (by decide) (by unfold maxLen; omega) (by omega) hbase _ rfl ?_
  · intro j u hj
    match j, hj with
    | 0, hj => simp at hj; subst hj; exact hcell
  · intro u hu; simp at hu; subst hu; rfl
  · intro g cap w' h1 h2 h3 _
    refine h g cap w' ?_ h2 h3
    unfold ownsS
    rw [List.length_append, List.map_append]
    exact h1

theorem ins_kind (L : List Wr) : ∀ w ∈ insL4 L, w.kind = 4 := fun w hw => by simpa using (List.mem_filter.1 hw).2
theorem lists_live {A : List Wr} (h : ∀ w ∈ A, w.kind = 4) : (cellsF A).length = (tabK [] (A.map (·.key))).length := by
  unfold cellsF
  rw [List.filter_eq_self.2 ?_, List.length_map, (keysS_perm A).length_eq]
  intro p hp
  obtain ⟨k, hk, rfl⟩ := List.mem_map.1 hp
  obtain ⟨w, hw, rfl⟩ := keysS_mem.1 hk
  have h1 := (cell_lists h w.key).2.2
  have hm : w.value ∈ (cellK A w.key).list := h1.mem_iff.2 (List.mem_map.2 ⟨w, List.mem_filter.2 ⟨hw, by simp⟩, rfl⟩)
  cases e : (cellK A w.key).list with
  | nil => rw [e] at hm; cases hm
  | cons a r => simp [live, e]
theorem LstW.drew {w : World} {b n base : Nat} {D : DataW Value} {L : ByteArray → Value} {V : ByteArray → List ByteArray} {t : List ByteArray} (h : LstW w b n base D L V t) : LstW w.drew b n base D L V t := h.below ((Below.refl _ w).drew)
theorem valsK_len (l : List Wr) (k : ByteArray) : (valsK l k).length ≤ l.length := by unfold valsK; rw [List.length_map]; exact List.length_filter_le _ _

set_option maxRecDepth 100000 in
set_option maxHeartbeats 8000000 in
theorem storeLists_walk (W : World) (v : Value) (l : List Wr) (hi : IsWrs W v l) (hl : l.length ≤ 9223372036854775807) (hok : ∀ t ∈ l, WrOk t) {Q : Prop} (_ : Q) :
    Calls Tryd.prog 3 #[v] W fun e w' => e = .returned (.bool true) ∧ Below W.heap.size W w' := by
  have HI := Lib.hid hi
  have HOK := Lib.hid hok
  clear hi hok
  have hmm := @run_makeMap Tryd.prog
  go_enter Tryd.func3, Tryd.ntmps3
  go_wp2_with (go_at_call 4; refine (stored_any _).mono ?_; rintro r w1 ⟨rfl, hb1⟩; have HB1 := Lib.hid hb1; clear hb1)
  refine (right_any v l _ ((HI.out.below HB1.out).alloc _) hl HOK.out).mono ?_
  rintro r w3 ⟨u1, rfl, ho3, hb3⟩
  have hr : ∀ x ∈ rightL l, wrF x = 0 ∧ x ∈ l := fun x hx => rightL_ok hx
  have hn1 := rightL_len l
  obtain ⟨M, hM⟩ : ∃ M, M = w1.heap.size := ⟨_, rfl⟩
  have HS3 : Hid (LstW w3 M 0 w3.heap.size (.map []) (fun _ => .slice none 0 0) (valsK []) (tabK [] [])) := Lib.hid (by rw [hM, valsK_nil]; have h := (lstW_made w1).below hb3; exact ⟨h.d, h.map, fun _ => ownsS_nil _ _, h.apart, by have := hb3.size; simp at this; omega⟩)
  have HO3 : Hid (ownsW w3 (M + 1) u1 (rightL l)) := Lib.hid (by have h := ho3; rw [World.size_alloc] at h; rw [hM]; exact h)
  have HB3 : Hid (Below W.heap.size W w3) := Lib.hid ((HB1.out.alloc HB1.out.size _).trans (hb3.mono (by have := HB1.out.size; simp; omega)))
  have HMS : Hid (W.heap.size ≤ M ∧ M < w3.heap.size) := Lib.hid ⟨by rw [hM]; exact HB1.out.size, by have := hb3.size; simp at this; omega⟩
  obtain ⟨a5, c5, rfl, _⟩ := ho3.is.form
  rw [← hM]
  clear ho3 hb3 hM HB1
  generalize rightL l = L0 at hr hn1 HO3 ⊢
  have HR : Hid (∀ x ∈ L0, wrF x = 0 ∧ WrOk x) := Lib.hid (fun x hx => ⟨(hr x hx).1, HOK.out x (hr x hx).2⟩)
  obtain ⟨n, hn⟩ : ∃ n, n = L0.length := ⟨_, rfl⟩
  rw [← hn] at HO3 ⊢
  have HN := Lib.hid hn
  have hn60 : n ≤ 60 := by omega
  clear hr hn hn1
  go_wp2_with fail
  go_loopw [3, 17] (fun u i wr => ∃ k j : Nat, ∃ D L, k ≤ n ∧ j ≤ k ∧ i = .int .i64 k ∧ ownsW wr w3.heap.size u (insL4 (L0.take k)) ∧ LstW wr M j w3.heap.size D L (valsK (insL4 (L0.take k))) (tabK [] ((insL4 (L0.take k)).map (·.key))) ∧ (∀ q g, (L q).ownBlock = some g → u.ownBlock ≠ some g) ∧ w3.grownBy wr (some M)) (fun _ i _ => n - (intOf i).toNat)
  case atStart => exact ⟨0, 0, _, _, by omega, by omega, rfl, ownsW_nil _ _, HS3.out, fun q g h => (by cases h), grown_refl _ _⟩
  case round =>
    obtain ⟨k, j, D, L, hk, hjk, rfl, ho, hs, hap, hg⟩ := hrel
    obtain ⟨wo, rfl⟩ : ∃ wo, wo = wr := ⟨_, rfl⟩
    have HO := Lib.hid ho
    have HS := Lib.hid hs
    have HAP := Lib.hid hap
    have HG := Lib.hid hg
    have HSR : Hid (w3.heap.size ≤ wo.heap.size) := Lib.hid hg.size
    have HOL : Hid (ownsW wo (M + 1) (.slice a5 n c5) L0) := Lib.hid (World.ownsRow.kept HO3.out hg (own_ne4 HO3.out (Nat.lt_succ_self M)))
    clear ho hs hap hg HS3
    by_cases hlt : k < n
    · have b1 : decide ((k : Int) < (n : Int)) = true := by simpa using hlt
      obtain ⟨x, hx⟩ : ∃ x, L0[k]? = some x := ⟨L0[k]'(by rw [← HN.out]; exact hlt), List.getElem?_eq_getElem _⟩
      obtain ⟨_, _, e, hf⟩ := HOL.out.is.form
      obtain ⟨ee, en, ec⟩ := Value.slice.inj e
      clear en ec
      subst ee
      obtain ⟨b, off, rfl, hbl, c0, c1, c2, c3, c4, c5'⟩ := hf k x hx
      have HX := Lib.hid hx
      have hxo := HR.out x (List.mem_of_getElem? hx)
      obtain ⟨T, Re, K, key, val, N⟩ := x
      simp only at c0 c1 c2 c3 c4 c5'
      have hksz : key.size ≤ maxLen := by have h := hxo.2.2.2.1; simp only at h; unfold maxLen; omega
      have HLEN : Hid ((insL4 (L0.take k)).length ≤ 60) := Lib.hid (by have := ins_len (L0.take k); have := List.length_take_le' k L0; have := HN.out; omega)
      have HVL : Hid ((valsK (insL4 (L0.take k)) key).length ≤ 60) := Lib.hid (by unfold valsK; rw [List.length_map]; have := List.length_filter_le (fun w : Wr => decide (w.key = key)) (insL4 (L0.take k)); have := HLEN.out; omega)
      clear hx hbl e hf hxo
      by_cases h3 : K = 4
      · subst h3
        go_wp2_with (first
          | (at_builtin; refine wpList_append_wr_at rfl _ _ rfl w3.heap.size _ _ rfl ((HO.out.alloc _).alloc _) (wo.heap.size + 1) 1 rfl ⟨T, Re, 4, key, val, N⟩ (alloc2_row wo _ _) (by have := HLEN.out; omega) (by have := HSR.out; simp; omega) ?_; intro g cap w5 ho5 hg5 hat5; have HO5 := Lib.hid ho5; have HG5 := Lib.hid hg5; have HAT5 := Lib.hid hat5; have hrow5 := (hg5.block wo.heap.size (by simp; omega) (own_ne5 HO.out (.inr (Nat.le_refl _)))).trans (((MapKept.heap_alloc (wo.alloc (.cells #[.int .i64 T, .int .i64 Re, .int .i64 4, .string key, .string val, .int .i64 N] 29)) (.cells #[.int .i64 T, .int .i64 Re, .int .i64 4, .string key, .string val, .int .i64 N] 29)).2 wo.heap.size (by simp)).trans (MapKept.heap_alloc wo _).1); have HL5 : Hid (LstW w5 M j w3.heap.size D L (valsK (insL4 (L0.take k))) (tabK [] ((insL4 (L0.take k)).map (·.key)))) := Lib.hid (((HS.out.alloc _).alloc _).kept hg5 (own_ne5 HO.out (.inl HMS.out.2)) (fun q g e e2 => HAP.out q g e e2.symm)); have HROW5 := Lib.hid hrow5; have p3 := cell_of_row _ _ 3 _ _ _ hrow5; have p4 := cell_of_row _ _ 4 _ _ _ hrow5; simp only [List.getElem?_toArray, List.getElem?_cons_zero, List.getElem?_cons_succ] at p3 p4; clear ho5 hg5 hat5 hrow5))
        obtain ⟨W5, hW5⟩ : ∃ W5, W5 = (w5.alloc (.cells #[.string val] 9)).drew := ⟨_, rfl⟩
        have HL5d : Hid (LstW W5 M j w3.heap.size D L (valsK (insL4 (L0.take k))) (tabK [] ((insL4 (L0.take k)).map (·.key)))) := Lib.hid (by rw [hW5]; exact (HL5.out.alloc _).below ((Below.refl _ _).drew))
        have k0 := (HL5.out.below ((Below.refl _ w5).drew)).look hksz
        have k2 := HL5d.out.look hksz
        rw [hW5] at k2
        have p3d : w5.drew.cell? ⟨wo.heap.size, 3, none⟩ = some (.string key) := p3
        have p4d : w5.drew.cell? ⟨wo.heap.size, 4, none⟩ = some (.string val) := p4
        have hwl : wo.heap.size < w5.heap.size := by have := HG5.out.size; simp at this; omega
        have p3e : ((w5.alloc (.cells #[.string val] 9)).drew).cell? ⟨wo.heap.size, 3, none⟩ = some (.string key) := (World.cell?_alloc_lt w5 _ (⟨wo.heap.size, 3, none⟩ : Addr) hwl).trans p3
        have p4e : ((w5.alloc (.cells #[.string val] 9)).drew).cell? ⟨wo.heap.size, 4, none⟩ = some (.string val) := (World.cell?_alloc_lt w5 _ (⟨wo.heap.size, 4, none⟩ : Addr) hwl).trans p4
        have hl5 : w3.heap.size ≤ w5.heap.size := by have := HG5.out.size; have := HSR.out; simp at *; omega
        have HC5 : Hid (W5.cell? ⟨w5.heap.size, 0, none⟩ = some (.string val) ∧ W5.heap.size = w5.heap.size + 1) := Lib.hid (by rw [hW5]; exact ⟨cell_of_row _ _ 0 _ _ _ (MapKept.heap_alloc w5 _).1, by show (w5.alloc _).heap.size = _; simp⟩)
        have HP5 : Hid (W5.cell? ⟨wo.heap.size, 3, none⟩ = some (.string key) ∧ wo.heap.size < W5.heap.size ∧ some wo.heap.size ≠ (L key).ownBlock) := Lib.hid (by rw [hW5]; exact ⟨p3e, by show wo.heap.size < (w5.alloc _).heap.size; simp; omega, fun e => by have := ((HS.out.own key).lt _ e.symm).2; omega⟩)
        have HW5 := Lib.hid hW5
        clear hW5
        have HRW5 : Hid (W5.heap[wo.heap.size]? = some (.cells #[.int .i64 T, .int .i64 Re, .int .i64 4, .string key, .string val, .int .i64 N] 29 (0, 0))) := Lib.hid (by rw [HW5.out]; exact ((MapKept.heap_alloc w5 _).2 wo.heap.size hwl).trans HROW5.out)
        have HKSZ := Lib.hid hksz
        have k1 : w5.drew.cell? ⟨wo.heap.size, 3, none⟩ = some (.string key) ∧ w5.drew.cell? ⟨wo.heap.size, 4, none⟩ = some (.string val) := ⟨p3d, p4d⟩
        have k3 : W5.cell? ⟨wo.heap.size, 3, none⟩ = some (.string key) ∧ W5.cell? ⟨wo.heap.size, 4, none⟩ = some (.string val) := ⟨cell_of_row _ _ 3 _ _ _ HRW5.out, cell_of_row _ _ 4 _ _ _ HRW5.out⟩
        rw [HW5.out] at k3
        clear p3 p4 p3d p4d p3e p4e hksz
        refine wp_region_held_drew (S := fun W' => W'.cell? ⟨wo.heap.size, 3, none⟩ = some (.string key) ∧ W'.cell? ⟨wo.heap.size, 4, none⟩ = some (.string val)) (by kernel_rfl) k1 (fun hSS => ?_)
        clear hSS
        try simp only [Act.put, List.getElem_toArray, List.getElem_cons_zero, List.setIfInBounds_toArray, List.set_cons_zero, List.set_cons_succ]
        refine wpAnyH_take (i := 0) (v := ?vz1) rfl (by kernel_rfl) (by kernel_rfl) (by kernel_rfl) (fun _ _ _ h => h) (Or.inl ⟨by rfl, ?hz1⟩) (by assumption) ?rz1
        case hz1 => (intro W hSw; (try dsimp only at hSw); go_simp; all_goals (with_reducible rfl))
        try simp only [Act.put, List.getElem_toArray, List.getElem_cons_zero, List.setIfInBounds_toArray, List.set_cons_zero, List.set_cons_succ]
        refine wpAnyH_take (i := 1) (v := ?vz2) rfl (by kernel_rfl) (by kernel_rfl) (by kernel_rfl) (fun _ _ _ h => h) (Or.inl ⟨by rfl, ?hz2⟩) (by assumption) ?rz2
        case hz2 => (intro W hSw; (try dsimp only at hSw); go_simp; all_goals (with_reducible rfl))
        try simp only [Act.put, List.getElem_toArray, List.getElem_cons_zero, List.getElem_cons_succ, List.setIfInBounds_toArray, List.set_cons_zero, List.set_cons_succ]
        refine wpAnyH_take (i := 2) (v := ?vz3) rfl (by kernel_rfl) (by kernel_rfl) (by kernel_rfl) (fun _ _ _ h => h) (Or.inl ⟨by rfl, ?hz3⟩) (by assumption) ?rz3
        case hz3 => (intro W hSw; (try dsimp only at hSw); go_simp; all_goals (with_reducible rfl))
        try simp only [Act.put, List.getElem_toArray, List.getElem_cons_zero, List.getElem_cons_succ, List.setIfInBounds_toArray, List.set_cons_zero, List.set_cons_succ]
        refine wpAnyH_take (i := 3) (v := ?vz4) rfl (by kernel_rfl) (by kernel_rfl) (by kernel_rfl) (fun _ _ _ h => h) (Or.inl ⟨by rfl, ?hz4⟩) (by assumption) ?rz4
        case hz4 => (intro W hSw; (try dsimp only at hSw); go_simp; all_goals (with_reducible rfl))
        try simp only [Act.put, List.getElem_toArray, List.getElem_cons_zero, List.getElem_cons_succ, List.setIfInBounds_toArray, List.set_cons_zero, List.set_cons_succ]
        refine wpAnyH_take (i := 4) (v := ?vz5) rfl (by kernel_rfl) (by kernel_rfl) (by kernel_rfl) (fun _ _ _ h => h) (Or.inl ⟨by rfl, ?hz5⟩) (by assumption) ?rz5
        case hz5 => (intro W hSw; (try dsimp only at hSw); go_simp; all_goals (with_reducible rfl))
        try simp only [Act.put, List.getElem_toArray, List.getElem_cons_zero, List.getElem_cons_succ, List.setIfInBounds_toArray, List.set_cons_zero, List.set_cons_succ]
        refine wpAnyH_take (i := 5) (v := ?vz6) rfl (by kernel_rfl) (by kernel_rfl) (by kernel_rfl) (fun _ _ _ h => h) (Or.inl ⟨by rfl, ?hz6⟩) (by assumption) ?rz6
        case hz6 => (intro W hSw; (try dsimp only at hSw); go_simp; all_goals (with_reducible rfl))
        try simp only [Act.put, List.getElem_toArray, List.getElem_cons_zero, List.getElem_cons_succ, List.setIfInBounds_toArray, List.set_cons_zero, List.set_cons_succ]
        refine wpAnyH_take (i := 7) (v := ?vz7) rfl (by kernel_rfl) (by kernel_rfl) (by kernel_rfl) (fun _ _ _ h => h) (Or.inl ⟨by rfl, ?hz7⟩) (by assumption) ?rz7
        case hz7 => (intro W hSw; (try dsimp only at hSw); go_simp; all_goals (with_reducible rfl))
        try simp only [Act.put, List.getElem_toArray, List.getElem_cons_zero, List.getElem_cons_succ, List.setIfInBounds_toArray, List.set_cons_zero, List.set_cons_succ]
        refine wpAnyH_take (i := 8) (v := ?vz8) rfl (by kernel_rfl) (by kernel_rfl) (by kernel_rfl) (fun _ _ _ h => h) (Or.inl ⟨by rfl, ?hz8⟩) (by assumption) ?rz8
        case hz8 => (intro W hSw; (try dsimp only at hSw); go_simp; all_goals (with_reducible rfl))
        try simp only [Act.put, List.getElem_toArray, List.getElem_cons_zero, List.getElem_cons_succ, List.setIfInBounds_toArray, List.set_cons_zero, List.set_cons_succ]
        refine wpAnyH_ready (rs := [6, 9]) (by kernel_rfl) (by simp) ?_
        refine AllReadyH.cons rfl (fun KK hKK => ?_) (AllReadyH.cons rfl (fun KK hKK => ?_) (AllReadyH.nil))
        · go_simp
          refine hKK.out _ _ k1 (fun hSS => ?_)
          clear hKK hSS
          try simp only [Act.put, List.getElem_toArray, List.getElem_cons_zero, List.getElem_cons_succ, List.setIfInBounds_toArray, List.set_cons_zero, List.set_cons_succ]
          refine wpAnyH_ready (rs := [9]) (by kernel_rfl) (by simp) ?_
          refine AllReadyH.cons rfl (fun KK hKK => ?_) (AllReadyH.nil)
          go_simp
          refine hKK.out _ _ k3 (fun hSS => ?_)
          clear hKK hSS
          try simp only [Act.put, List.getElem_toArray, List.getElem_cons_zero, List.getElem_cons_succ, List.setIfInBounds_toArray, List.set_cons_zero, List.set_cons_succ]
          refine wpAnyH_ready (rs := [10]) (by kernel_rfl) (by simp) ?_
          refine AllReadyH.cons rfl (fun KK hKK => ?_) (AllReadyH.nil)
          rw [← HW5.out]
          refine step_append_str_at _ rfl _ _ rfl w3.heap.size (L key) (valsK (insL4 (L0.take k)) key) rfl (HL5d.out.own key) ⟨w5.heap.size, 0, none⟩ 1 rfl val (by simpa [Addr.add] using HC5.out.1) (by have := HVL.out; omega) (by have := HC5.out.2; omega) ?_
          intro g2 cap2 w6 ho6 hg6 hat6
          obtain ⟨w7, hrun7, hm7, hg7⟩ := World.ownsMap.update (key := .string key) (val := .slice (some ⟨g2, 0, none⟩) ((valsK (insL4 (L0.take k)) key).length + 1) cap2) (HL5d.out.map.kept hg6 (HL5d.out.off key)) keyedL Tryd.underlying24 (by unfold maxLen; omega) (keyLs HKSZ.out) (lstR_mk _ _ _)
          have hrow6 := (hg6.block wo.heap.size HP5.out.2.1 HP5.out.2.2).trans HRW5.out
          have hrow7 := (hg7.block wo.heap.size (Array.getElem?_eq_some_iff.1 hrow6).1 (fun e => by have e2 : wo.heap.size = M := Option.some.inj e; have := HMS.out.2; have := HSR.out; omega)).trans hrow6
          have k6 : w6.cell? ⟨wo.heap.size, 3, none⟩ = some (.string key) ∧ w6.cell? ⟨wo.heap.size, 4, none⟩ = some (.string val) := ⟨cell_of_row _ _ 3 _ _ _ hrow6, cell_of_row _ _ 4 _ _ _ hrow6⟩
          have k7 : w7.cell? ⟨wo.heap.size, 3, none⟩ = some (.string key) ∧ w7.cell? ⟨wo.heap.size, 4, none⟩ = some (.string val) := ⟨cell_of_row _ _ 3 _ _ _ hrow7, cell_of_row _ _ 4 _ _ _ hrow7⟩
          have HO6 := Lib.hid ho6
          have HG6 := Lib.hid hg6
          have HAT6 := Lib.hid hat6
          have HM7 := Lib.hid hm7
          have HG7 := Lib.hid hg7
          clear ho6 hg6 hat6 hm7 hg7 hrow6 hrow7
          refine hKK.out _ _ k6 (fun hSS => ?_)
          clear hKK hSS
          try simp only [Act.put, List.getElem_toArray, List.getElem_cons_zero, List.getElem_cons_succ, List.setIfInBounds_toArray, List.set_cons_zero, List.set_cons_succ]
          refine wpAnyH_ready (rs := [11]) (by kernel_rfl) (by simp) ?_
          refine AllReadyH.cons rfl (fun KK hKK => ?_) (AllReadyH.nil)
          go_simp
          refine hKK.out _ _ k7 (fun hSS => ?_)
          clear hKK hSS
          try simp only [Act.put, List.getElem_toArray, List.getElem_cons_zero, List.getElem_cons_succ, List.setIfInBounds_toArray, List.set_cons_zero, List.set_cons_succ]
          refine wpAnyH_done (by kernel_rfl) ?_ _
          have hz := lst_step (x := ⟨T, Re, 4, key, val, N⟩) HMS.out.2 HO.out HS.out HAP.out HG.out HO5.out HG5.out HAT5.out HL5d.out HW5.out HO6.out HG6.out HAT6.out HM7.out HG7.out
          have HZ := Lib.hid hz
          clear hz hrun7 k6 k7 k0 k2 k3
          go_wp2
          go_roundw
          · refine ⟨k + 1, j + 1, D.put (keyL key) (.held (.slice (some ⟨g2, 0, none⟩) ((valsK (insL4 (L0.take k)) key).length + 1) cap2)), upd L key (.slice (some ⟨g2, 0, none⟩) ((valsK (insL4 (L0.take k)) key).length + 1) cap2), by omega, by omega, by simp, ?_, ?_, HZ.out.2.2.1, HZ.out.2.2.2⟩
            · rw [ins_yes HX.out rfl]; exact HZ.out.1
            · rw [ins_yes HX.out rfl]; exact HZ.out.2.1
          · simp [intOf]; omega
        · go_simp
          refine hKK.out _ _ k3 (fun hSS => ?_)
          clear hKK hSS
          try simp only [Act.put, List.getElem_toArray, List.getElem_cons_zero, List.getElem_cons_succ, List.setIfInBounds_toArray, List.set_cons_zero, List.set_cons_succ]
          refine wpAnyH_ready (rs := [6]) (by kernel_rfl) (by simp) ?_
          refine AllReadyH.cons rfl (fun KK hKK => ?_) (AllReadyH.nil)
          go_simp
          refine hKK.out _ _ k3 (fun hSS => ?_)
          clear hKK hSS
          try simp only [Act.put, List.getElem_toArray, List.getElem_cons_zero, List.getElem_cons_succ, List.setIfInBounds_toArray, List.set_cons_zero, List.set_cons_succ]
          refine wpAnyH_ready (rs := [10]) (by kernel_rfl) (by simp) ?_
          refine AllReadyH.cons rfl (fun KK hKK => ?_) (AllReadyH.nil)
          rw [← HW5.out]
          refine step_append_str_at _ rfl _ _ rfl w3.heap.size (L key) (valsK (insL4 (L0.take k)) key) rfl (HL5d.out.own key) ⟨w5.heap.size, 0, none⟩ 1 rfl val (by simpa [Addr.add] using HC5.out.1) (by have := HVL.out; omega) (by have := HC5.out.2; omega) ?_
          intro g2 cap2 w6 ho6 hg6 hat6
          obtain ⟨w7, hrun7, hm7, hg7⟩ := World.ownsMap.update (key := .string key) (val := .slice (some ⟨g2, 0, none⟩) ((valsK (insL4 (L0.take k)) key).length + 1) cap2) (HL5d.out.map.kept hg6 (HL5d.out.off key)) keyedL Tryd.underlying24 (by unfold maxLen; omega) (keyLs HKSZ.out) (lstR_mk _ _ _)
          have hrow6 := (hg6.block wo.heap.size HP5.out.2.1 HP5.out.2.2).trans HRW5.out
          have hrow7 := (hg7.block wo.heap.size (Array.getElem?_eq_some_iff.1 hrow6).1 (fun e => by have e2 : wo.heap.size = M := Option.some.inj e; have := HMS.out.2; have := HSR.out; omega)).trans hrow6
          have k6 : w6.cell? ⟨wo.heap.size, 3, none⟩ = some (.string key) ∧ w6.cell? ⟨wo.heap.size, 4, none⟩ = some (.string val) := ⟨cell_of_row _ _ 3 _ _ _ hrow6, cell_of_row _ _ 4 _ _ _ hrow6⟩
          have k7 : w7.cell? ⟨wo.heap.size, 3, none⟩ = some (.string key) ∧ w7.cell? ⟨wo.heap.size, 4, none⟩ = some (.string val) := ⟨cell_of_row _ _ 3 _ _ _ hrow7, cell_of_row _ _ 4 _ _ _ hrow7⟩
          have HO6 := Lib.hid ho6
          have HG6 := Lib.hid hg6
          have HAT6 := Lib.hid hat6
          have HM7 := Lib.hid hm7
          have HG7 := Lib.hid hg7
          clear ho6 hg6 hat6 hm7 hg7 hrow6 hrow7
          refine hKK.out _ _ k6 (fun hSS => ?_)
          clear hKK hSS
          try simp only [Act.put, List.getElem_toArray, List.getElem_cons_zero, List.getElem_cons_succ, List.setIfInBounds_toArray, List.set_cons_zero, List.set_cons_succ]
          refine wpAnyH_ready (rs := [11]) (by kernel_rfl) (by simp) ?_
          refine AllReadyH.cons rfl (fun KK hKK => ?_) (AllReadyH.nil)
          go_simp
          refine hKK.out _ _ k7 (fun hSS => ?_)
          clear hKK hSS
          try simp only [Act.put, List.getElem_toArray, List.getElem_cons_zero, List.getElem_cons_succ, List.setIfInBounds_toArray, List.set_cons_zero, List.set_cons_succ]
          refine wpAnyH_done (by kernel_rfl) ?_ _
          have hz := lst_step (x := ⟨T, Re, 4, key, val, N⟩) HMS.out.2 HO.out HS.out HAP.out HG.out HO5.out HG5.out HAT5.out HL5d.out HW5.out HO6.out HG6.out HAT6.out HM7.out HG7.out
          have HZ := Lib.hid hz
          clear hz hrun7 k6 k7 k0 k2 k3
          go_wp2
          go_roundw
          · refine ⟨k + 1, j + 1, D.put (keyL key) (.held (.slice (some ⟨g2, 0, none⟩) ((valsK (insL4 (L0.take k)) key).length + 1) cap2)), upd L key (.slice (some ⟨g2, 0, none⟩) ((valsK (insL4 (L0.take k)) key).length + 1) cap2), by omega, by omega, by simp, ?_, ?_, HZ.out.2.2.1, HZ.out.2.2.2⟩
            · rw [ins_yes HX.out rfl]; exact HZ.out.1
            · rw [ins_yes HX.out rfl]; exact HZ.out.2.1
          · simp [intOf]; omega
      · have b2 : (K == 4) = false := by simpa using h3
        have HK := Lib.hid h3
        clear h3
        go_wp2
        go_roundw
        · refine ⟨k + 1, j, D, L, by omega, by omega, by simp, ?_, ?_, HAP.out, grown_alloc HG.out _⟩
          · rw [ins_no HX.out HK.out]; exact HO.out.alloc _
          · rw [ins_no HX.out HK.out]; exact HS.out.alloc _
        · simp [intOf]; omega
    · have b1 : decide ((k : Int) < (n : Int)) = false := by simp; omega
      obtain rfl : k = n := by omega
      have hfull : L0.take k = L0 := List.take_of_length_le (by rw [HN.out]; exact Nat.le_refl _)
      rw [hfull] at HO HS
      have HAK := Lib.hid (ins_kind L0)
      have HAR : Hid ((insL4 L0).length ≤ 60 ∧ ∀ x ∈ insL4 L0, wrF x = 0) := Lib.hid ⟨by have := ins_len L0; have := HN.out; omega, fun x hx => (HR.out x (List.mem_filter.1 hx).1).1⟩
      generalize insL4 L0 = A at HO HS HAK HAR
      clear hfull HAP
      go_wp2_with fail
      refine (of_good _ A _ HO.out.is HAR.out.2 (by have := HAR.out.1; omega)).mono ?_
      rintro r w6 ⟨ua, rfl, hua, hb6⟩
      have HB6 := Lib.hid hb6
      have HS6 : Hid (LstW w6 M j w3.heap.size D L (valsK A) (tabK [] (A.map (·.key)))) := Lib.hid (HS.out.below hb6)
      obtain ⟨zs, hv, hlz, hcz⟩ := hua
      obtain ⟨aa, ca, rfl, hfa⟩ := hv.form
      obtain ⟨na, hna⟩ : ∃ na, na = zs.length := ⟨_, rfl⟩
      rw [← hna]
      have hna60 : na ≤ 60 := by rw [hna, hlz]; have := cellsF_len A; have := HAR.out.1; omega
      have HFA := Lib.hid hfa
      have HCZ := Lib.hid hcz
      have HZN : Hid (na = zs.length) := Lib.hid hna
      have HSZ : Hid ((Maps.size D : Int) = (na : Int)) := Lib.hid (by rw [HS6.out.d.size, hna, hlz, lists_live HAK.out])
      clear hb6 hv hlz hcz hfa hna
      go_wp2_with fail
      go_loopw [47] (fun i wr => ∃ q : Nat, q ≤ na ∧ i = .int .i64 q ∧ Below w6.heap.size w6 wr) (fun i _ => na - (intOf i).toNat)
      case atStart => exact ⟨0, by omega, rfl, Below.refl _ _⟩
      case round =>
        obtain ⟨q, hq, rfl, hb⟩ := hrel
        obtain ⟨wi, rfl⟩ : ∃ wi, wi = wr := ⟨_, rfl⟩
        have HB := Lib.hid hb
        clear hb
        have HSR2 := Lib.hid HB.out.size
        have HSQ : Hid (LstW wi M j w3.heap.size D L (valsK A) (tabK [] (A.map (·.key)))) := Lib.hid (HS6.out.below HB.out)
        by_cases hlt2 : q < na
        · have b3 : decide ((q : Int) < (na : Int)) = true := by simpa using hlt2
          obtain ⟨x, hx⟩ : ∃ x, zs[q]? = some x := ⟨zs[q]'(by rw [← HZN.out]; exact hlt2), List.getElem?_eq_getElem _⟩
          obtain ⟨b, off, rfl, hbl, c0, c1, c2, c3', c4⟩ := HFA.out q x hx
          obtain ⟨⟨pk, pc⟩, hp, e1, e2, e3, e4, e5⟩ := HCZ.out q x hx
          have hpm := cellsF_mem.1 (List.mem_of_getElem? hp)
          have hkz := keys_ok HAR.out.2 pk (by rw [hpm.1]; exact hpm.2)
          have hperm := (cell_lists HAK.out pk).2.2
          rw [hpm.1] at hperm
          obtain ⟨kx, hxx, tx, sx, lx⟩ := x
          simp only at e1 e2 e3 e4 e5 c0 c1 c2 c3' c4
          subst e1
          have HSB : Hid (sortB pc.list = sortB (valsK A kx)) := Lib.hid (sortB_perm hperm)
          have HPL : Hid (pc.list.length ≤ 60) := Lib.hid (by rw [hperm.length_eq]; have := valsK_len A kx; have := HAR.out.1; show (valsK A kx).length ≤ 60; omega)
          obtain ⟨la, lc, rfl⟩ := e5.form
          have hksz : kx.size ≤ maxLen := by unfold maxLen; omega
          have E5 : Hid (IsTexts wi (.slice la pc.list.length lc) pc.list) := Lib.hid (e5.below HB.out)
          obtain ⟨pl, hpl⟩ : ∃ pl, pl = pc.list.length := ⟨_, rfl⟩
          rw [← hpl] at E5 c4
          have up : ∀ j u, w6.cell? ⟨b, j, none⟩ = some u → wi.cell? ⟨b, j, none⟩ = some u := fun j u hu => (HB.out.cell (p := ⟨b, j, none⟩) hbl).trans hu
          have g0 := up _ _ c0
          have g1 := up _ _ c1
          have g2 := up _ _ c2
          have g3 := up _ _ c3'
          have g4 := up _ _ c4
          clear hx c0 c1 c2 c3' c4 hp e2 e3 e4 e5 hpm hperm up hkz hpl
          go_wp2_with fail
          obtain ⟨w8, hw8⟩ : ∃ w8, w8 = (wi.alloc (.cells #[.string kx, .bool hxx, .string tx, .int .i64 sx, .slice la pl lc] 37)).drew := ⟨_, rfl⟩
          have HB8 : Hid (Below w6.heap.size w6 w8) := Lib.hid (by rw [hw8]; exact (HB.out.alloc HSR2.out _).drew)
          have HBI : Hid (Below wi.heap.size wi w8) := Lib.hid (by rw [hw8]; exact ((Below.refl _ wi).alloc (Nat.le_refl _) _).drew)
          have HL8 : Hid (LstW w8 M j w3.heap.size D L (valsK A) (tabK [] (A.map (·.key)))) := Lib.hid (HSQ.out.below HBI.out)
          have HR8 : Hid (w8.heap[wi.heap.size]? = some (.cells #[.string kx, .bool hxx, .string tx, .int .i64 sx, .slice la pl lc] 37 (0, 0))) := Lib.hid (by rw [hw8]; exact (MapKept.heap_alloc wi _).1)
          have HKZ := Lib.hid hksz
          have UP : Hid (∀ W', Below w8.heap.size w8 W' → W'.cell? ⟨wi.heap.size, 4, none⟩ = some (.slice la pl lc) ∧ W'.cell? ⟨wi.heap.size, 0, none⟩ = some (.string kx) ∧ (Instr.lookup 24 (.map (some M)) (.string kx) false).run Tryd.prog W' = .ok (L kx) W') := Lib.hid (fun W' h => by
            have hrow := (h.block wi.heap.size (Array.getElem?_eq_some_iff.1 HR8.out).1).trans HR8.out
            exact ⟨cell_of_row _ _ 4 _ _ _ hrow, cell_of_row _ _ 0 _ _ _ hrow, (HL8.out.below h).look HKZ.out⟩)
          have k0 := UP.out _ (Below.refl _ w8)
          rw [hw8] at k0
          have HW8 := Lib.hid hw8
          clear hw8 hksz g0 g1 g2 g3 g4
          refine wp_region_held_drew (S := fun W' => W'.cell? ⟨wi.heap.size, 4, none⟩ = some (.slice la pl lc) ∧ W'.cell? ⟨wi.heap.size, 0, none⟩ = some (.string kx) ∧ (Instr.lookup 24 (.map (some M)) (.string kx) false).run Tryd.prog W' = .ok (L kx) W') (by kernel_rfl) k0 (fun hSS => ?_)
          clear hSS
          try simp only [Act.put, List.getElem_toArray, List.getElem_cons_zero, List.setIfInBounds_toArray, List.set_cons_zero, List.set_cons_succ]
          rw [← HW8.out] at k0 ⊢
          refine wpAnyH_take (i := 0) (v := ?vq1) rfl (by kernel_rfl) (by kernel_rfl) (by kernel_rfl) (fun _ _ _ h => h) (Or.inl ⟨by rfl, ?hq1⟩) (by assumption) ?rq1
          case hq1 => (intro W hSw; (try dsimp only at hSw); go_simp; all_goals (with_reducible rfl))
          try simp only [Act.put, List.getElem_toArray, List.getElem_cons_zero, List.setIfInBounds_toArray, List.set_cons_zero, List.set_cons_succ]
          refine wpAnyH_take (i := 1) (v := ?vq2) rfl (by kernel_rfl) (by kernel_rfl) (by kernel_rfl) (fun _ _ _ h => h) (Or.inl ⟨by rfl, ?hq2⟩) (by assumption) ?rq2
          case hq2 => (intro W hSw; (try dsimp only at hSw); go_simp; all_goals (with_reducible rfl))
          try simp only [Act.put, List.getElem_toArray, List.getElem_cons_zero, List.getElem_cons_succ, List.setIfInBounds_toArray, List.set_cons_zero, List.set_cons_succ]
          refine wpAnyH_take (i := 4) (v := ?vq3) rfl (by kernel_rfl) (by kernel_rfl) (by kernel_rfl) (fun _ _ _ h => h) (Or.inl ⟨by rfl, ?hq3⟩) (by assumption) ?rq3
          case hq3 => (intro W hSw; (try dsimp only at hSw); go_simp; all_goals (with_reducible rfl))
          try simp only [Act.put, List.getElem_toArray, List.getElem_cons_zero, List.getElem_cons_succ, List.setIfInBounds_toArray, List.set_cons_zero, List.set_cons_succ]
          refine wpAnyH_take (i := 5) (v := ?vq4) rfl (by kernel_rfl) (by kernel_rfl) (by kernel_rfl) (fun _ _ _ h => h) (Or.inl ⟨by rfl, ?hq4⟩) (by assumption) ?rq4
          case hq4 => (intro W hSw; (try dsimp only at hSw); go_simp; all_goals (with_reducible rfl))
          try simp only [Act.put, List.getElem_toArray, List.getElem_cons_zero, List.getElem_cons_succ, List.setIfInBounds_toArray, List.set_cons_zero, List.set_cons_succ]
          refine wpAnyH_take (i := 6) (v := ?vq5) rfl (by kernel_rfl) (by kernel_rfl) (by kernel_rfl) (fun _ _ _ h => h) (Or.inl ⟨by rfl, ?hq5⟩) (by assumption) ?rq5
          case hq5 => (intro W hSw; (try dsimp only at hSw); go_simp; all_goals (with_reducible rfl))
          try simp only [Act.put, List.getElem_toArray, List.getElem_cons_zero, List.getElem_cons_succ, List.setIfInBounds_toArray, List.set_cons_zero, List.set_cons_succ]
          refine wpAnyH_take (i := 7) (v := ?vq6) rfl (by kernel_rfl) (by kernel_rfl) (by kernel_rfl) (fun _ _ _ h => h) (Or.inl ⟨by rfl, ?hq6⟩) (by assumption) ?rq6
          case hq6 => (intro W hSw; (try dsimp only at hSw); go_simp; all_goals (with_reducible rfl))
          try simp only [Act.put, List.getElem_toArray, List.getElem_cons_zero, List.getElem_cons_succ, List.setIfInBounds_toArray, List.set_cons_zero, List.set_cons_succ]
          refine wpAnyH_ready (rs := [2]) (by kernel_rfl) (by simp) ?_
          refine AllReadyH.cons rfl (fun KK hKK => ?_) AllReadyH.nil
          go_simp
          refine (values_any (.slice la pl lc) pc.list w8 (E5.out.below HBI.out)).mono ?_
          rintro r wa ⟨rfl, hwa⟩
          have ha : Below w8.heap.size w8 wa := by rw [hwa]; exact (Below.refl _ w8).alloc (Nat.le_refl _) _
          have HA := Lib.hid ha
          have HVA : Hid (wa.cell? ⟨w8.heap.size, 0, none⟩ = some (.slice la pl lc) ∧ w8.heap.size < wa.heap.size) := Lib.hid (by rw [hwa]; exact ⟨cell_of_row _ _ 0 _ _ _ (MapKept.heap_alloc w8 _).1, by simp⟩)
          have ka := UP.out _ ha
          clear ha hwa
          refine hKK.out _ _ ka (fun hSS => ?_)
          clear hKK hSS
          try simp only [Act.put, List.getElem_toArray, List.getElem_cons_zero, List.getElem_cons_succ, List.setIfInBounds_toArray, List.set_cons_zero, List.set_cons_succ]
          refine wpAnyH_ready (rs := [3]) (by kernel_rfl) (by simp) ?_
          refine AllReadyH.cons rfl (fun KK hKK => ?_) AllReadyH.nil
          go_simp
          refine (sorted_any w8.heap.size (.slice la pl lc) pc.list (by have := HPL.out; omega) wa HVA.out.2 HVA.out.1 ((E5.out.below HBI.out).below HA.out)).mono ?_
          rintro r wb ⟨ua, rfl, hta, hbb⟩
          have HBB : Hid (Below w8.heap.size w8 wb) := Lib.hid (HA.out.trans (hbb.mono HA.out.size))
          have HTA := Lib.hid hta
          have kb := UP.out _ HBB.out
          clear hta hbb ka
          refine hKK.out _ _ kb (fun hSS => ?_)
          clear hKK hSS
          try simp only [Act.put, List.getElem_toArray, List.getElem_cons_zero, List.getElem_cons_succ, List.setIfInBounds_toArray, List.set_cons_zero, List.set_cons_succ]
          refine wpAnyH_ready (rs := [8]) (by kernel_rfl) (by simp) ?_
          refine AllReadyH.cons rfl (fun KK hKK => ?_) AllReadyH.nil
          go_simp
          refine (values_any (L kx) (valsK A kx) wb (((HL8.out.below HBB.out).own kx).isTexts)).mono ?_
          rintro r wc ⟨rfl, hwc⟩
          have hc : Below wb.heap.size wb wc := by rw [hwc]; exact (Below.refl _ wb).alloc (Nat.le_refl _) _
          have HC := Lib.hid hc
          have HVC : Hid (wc.cell? ⟨wb.heap.size, 0, none⟩ = some (L kx) ∧ wb.heap.size < wc.heap.size) := Lib.hid (by rw [hwc]; exact ⟨cell_of_row _ _ 0 _ _ _ (MapKept.heap_alloc wb _).1, by simp⟩)
          have kc := UP.out _ (HBB.out.trans (hc.mono HBB.out.size))
          clear hc hwc kb
          refine hKK.out _ _ kc (fun hSS => ?_)
          clear hKK hSS
          try simp only [Act.put, List.getElem_toArray, List.getElem_cons_zero, List.getElem_cons_succ, List.setIfInBounds_toArray, List.set_cons_zero, List.set_cons_succ]
          refine wpAnyH_ready (rs := [9]) (by kernel_rfl) (by simp) ?_
          refine AllReadyH.cons rfl (fun KK hKK => ?_) AllReadyH.nil
          go_simp
          refine (sorted_any wb.heap.size (L kx) (valsK A kx) (by have := valsK_len A kx; have := HAR.out.1; omega) wc HVC.out.2 HVC.out.1 (((HL8.out.below (HBB.out.trans (HC.out.mono HBB.out.size))).own kx).isTexts)).mono ?_
          rintro r wd ⟨uc, rfl, htc, hbd⟩
          have HD : Hid (Below wb.heap.size wb wd) := Lib.hid (HC.out.trans (hbd.mono HC.out.size))
          have HTC : Hid (IsTexts wd uc (sortB pc.list)) := Lib.hid (by rw [HSB.out]; exact htc)
          have kd := UP.out _ (HBB.out.trans (HD.out.mono HBB.out.size))
          clear htc hbd kc
          refine hKK.out _ _ kd (fun hSS => ?_)
          clear hKK hSS
          try simp only [Act.put, List.getElem_toArray, List.getElem_cons_zero, List.getElem_cons_succ, List.setIfInBounds_toArray, List.set_cons_zero, List.set_cons_succ]
          refine wpAnyH_ready (rs := [10]) (by kernel_rfl) (by simp) ?_
          refine AllReadyH.cons rfl (fun KK hKK => ?_) AllReadyH.nil
          go_simp
          refine (teq_same ua uc (sortB pc.list) wd (HTA.out.below HD.out) HTC.out (by rw [sortB_len]; have := HPL.out; omega)).mono ?_
          rintro r we ⟨rfl, hwe⟩
          have HE : Hid (Below w8.heap.size w8 we) := Lib.hid (by obtain ⟨qq, rfl⟩ := hwe; exact below_drewN (HBB.out.trans (HD.out.mono HBB.out.size)) _)
          have ke := UP.out _ HE.out
          clear hwe kd
          refine hKK.out _ _ ke (fun hSS => ?_)
          clear hKK hSS
          try simp only [Act.put, List.getElem_toArray, List.getElem_cons_zero, List.getElem_cons_succ, List.setIfInBounds_toArray, List.set_cons_zero, List.set_cons_succ]
          refine wpAnyH_take (i := 11) (v := ?vq7) rfl (by kernel_rfl) (by kernel_rfl) (by kernel_rfl) (fun _ _ _ h => h) (Or.inl ⟨by rfl, ?hq7⟩) (by assumption) ?rq7
          case hq7 => (intro W hSw; (try dsimp only at hSw); go_simp; all_goals (with_reducible rfl))
          try simp only [Act.put, List.getElem_toArray, List.getElem_cons_zero, List.getElem_cons_succ, List.setIfInBounds_toArray, List.set_cons_zero, List.set_cons_succ]
          refine wpAnyH_done (by kernel_rfl) ?_ _
          clear k0 ke
          go_wp2
          go_roundw
          · exact ⟨q + 1, by omega, by simp, HB8.out.trans (HE.out.mono HB8.out.size)⟩
          · simp [intOf]; omega
        · have b3 : decide ((q : Int) < (na : Int)) = false := by simp; omega
          have hlen : (Builtin.len_ #[24] 3 #[.map (some M)]).run Tryd.prog wi = .ok (.int .i64 (na : Int)) wi := by
            rw [← HSZ.out]; exact HSQ.out.map.len Tryd.underlying24 _
          go_wp2
          go_ret
          have z0 := HB3.out.size
          have z1 := below_of_grown HB3.out HG.out z0 (fun g e => by have e2 : M = g := Option.some.inj e; have := HMS.out.1; omega)
          have z6 := z1.trans (HB6.out.mono z1.size)
          exact ⟨rfl, z6.trans (HB.out.mono z6.size)⟩
end Go.Proofs.YtpmnflnaeknakaaDoor
