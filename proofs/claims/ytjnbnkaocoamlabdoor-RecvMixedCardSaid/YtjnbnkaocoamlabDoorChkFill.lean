/-
  The contract of chunk.fill.
-/
import Derived.Test.YtjnbnkaocoamlabDoorChkWrite
import Derived.Test.YtjnbnkaocoamlabDoorVaryInt
import Derived.Test.YtjnbnkaocoamlabDoorCrcOpen
import Derived.Test.YtjnbnkaocoamlabDoorShelf
import Derived.WalkSpells
namespace Go.Proofs.YtjnbnkaocoamlabDoor
open Go.RowKit

/-- A piece in a block of the call's own. -/
def CkB (w W : World) (B : Nat) (c : Chk) : Prop :=
  W.heap[B]? = some (.cells #[.int .u32 c.nm, .int .i64 c.tot, .int .i64 c.pos, .string c.dat] 34 (0, 0)) ∧ Below w.heap.size w W ∧ w.heap.size ≤ B
theorem CkB.cells {w W : World} {B : Nat} {c : Chk} (h : CkB w W B c) :
    chkAt W B c ∧ W.frozen? ⟨B, 0, none⟩ = false ∧ W.frozen? ⟨B, 1, none⟩ = false ∧ W.frozen? ⟨B, 2, none⟩ = false ∧ W.frozen? ⟨B, 3, none⟩ = false ∧ B < W.heap.size := by
  obtain ⟨h1, _⟩ := h
  exact ⟨⟨cell_of_row _ _ 0 _ _ (0, 0) h1, cell_of_row _ _ 1 _ _ (0, 0) h1, cell_of_row _ _ 2 _ _ (0, 0) h1, cell_of_row _ _ 3 _ _ (0, 0) h1⟩, Lib.frozen_of_heap h1 0, Lib.frozen_of_heap h1 1, Lib.frozen_of_heap h1 2, Lib.frozen_of_heap h1 3, (Array.getElem?_eq_some_iff.1 h1).1⟩
theorem CkB.below {w W W2 : World} {B : Nat} {c : Chk} (h : CkB w W B c) (hb : Below W.heap.size W W2) : CkB w W2 B c := by
  have hz := h.cells.2.2.2.2.2
  obtain ⟨h1, h2, h3⟩ := h
  exact ⟨(hb.block _ hz).trans h1, h2.trans (hb.mono h2.size), h3⟩
theorem CkB.put {w W : World} {B o : Nat} {c d : Chk} {v : Value} (h : CkB w W B c) (hs : (#[.int .u32 c.nm, .int .i64 c.tot, .int .i64 c.pos, .string c.dat] : Array Value).setIfInBounds o v = #[.int .u32 d.nm, .int .i64 d.tot, .int .i64 d.pos, .string d.dat]) : CkB w (W.setCell ⟨B, o, none⟩ v) B d := by
  obtain ⟨h1, h2, h3⟩ := h
  exact ⟨by rw [heap_setCell_same _ _ _ _ _ _ h1, hs], h2.setCell h3 _, h3⟩
theorem CkB.other {w W : World} {B C o : Nat} {c : Chk} {v : Value} (h : CkB w W B c) (hne : B ≠ C) (hC : w.heap.size ≤ C) : CkB w (W.setCell ⟨C, o, none⟩ v) B c := by
  obtain ⟨h1, h2, h3⟩ := h
  exact ⟨by rw [heap_setCell_other _ _ _ _ hne]; exact h1, h2.setCell hC _, h3⟩
theorem CkB.new {w W : World} {c : Chk} (hb : Below w.heap.size w W) : CkB w (W.alloc (.cells #[.int .u32 c.nm, .int .i64 c.tot, .int .i64 c.pos, .string c.dat] 34)) W.heap.size c :=
  ⟨heap_alloc_new W _, hb.alloc hb.size _, hb.size⟩
theorem ext_dropC (s : ByteArray) (i : Nat) : (s.extract i s.size).data.toList = s.data.toList.drop i := by
  rw [ByteArray.data_extract, Array.toList_extract]
  apply List.take_of_length_le
  rw [List.length_drop]
  have : s.data.toList.length = s.size := by simp
  omega
theorem pre_c {s : List UInt8} : Lib.hasPrefix s [67] = true ↔ s.take 1 = [67] := by
  unfold Lib.hasPrefix
  rw [List.isPrefixOf_iff_prefix, List.prefix_iff_eq_take]
  exact ⟨fun h => h.symm, fun h => h.symm⟩
theorem pre_cn {s : List UInt8} (h : s.take 1 ≠ [67]) : Lib.hasPrefix s [67] = false := by
  cases hb : Lib.hasPrefix s [67] with
  | false => rfl
  | true => exact absurd (pre_c.1 hb) h
theorem CkB.put4 {w W : World} {B : Nat} {c : Chk} (h : CkB w W B c) (d : Chk) : CkB w ((((W.setCell ⟨B, 0, none⟩ (.int .u32 d.nm)).setCell ⟨B, 1, none⟩ (.int .i64 d.tot)).setCell ⟨B, 2, none⟩ (.int .i64 d.pos)).setCell ⟨B, 3, none⟩ (.string d.dat)) B d := by
  refine CkB.put (c := ⟨d.nm, d.tot, d.pos, c.dat⟩) (CkB.put (c := ⟨d.nm, d.tot, c.pos, c.dat⟩) (CkB.put (c := ⟨d.nm, c.tot, c.pos, c.dat⟩) (CkB.put h ?_) ?_) ?_) ?_
  all_goals rfl
theorem CkB.put0 {w W : World} {B : Nat} {c : Chk} (h : CkB w W B c) : CkB w ((((W.setCell ⟨B, 0, none⟩ (.int .u32 0)).setCell ⟨B, 1, none⟩ (.int .i64 0)).setCell ⟨B, 2, none⟩ (.int .i64 0)).setCell ⟨B, 3, none⟩ (.string ⟨#[]⟩)) B chk0 := h.put4 chk0
theorem CkB.away4 {w W : World} {B C : Nat} {c : Chk} (h : CkB w W B c) (hne : B ≠ C) (hC : w.heap.size ≤ C) (v0 v1 v2 v3 : Value) : CkB w ((((W.setCell ⟨C, 0, none⟩ v0).setCell ⟨C, 1, none⟩ v1).setCell ⟨C, 2, none⟩ v2).setCell ⟨C, 3, none⟩ v3) B c :=
  (((h.other hne hC).other hne hC).other hne hC).other hne hC
theorem CkB.drew {w W : World} {B : Nat} {c : Chk} (h : CkB w W B c) : CkB w W.drew B c := ⟨h.1, h.2.1.drew, h.2.2⟩
theorem CkB.zero {w W : World} {B : Nat} (h : CkB w W B chk0) : W.cell? ⟨B, 0, none⟩ = some (.int .u32 0) ∧ W.cell? ⟨B, 1, none⟩ = some (.int .i64 0) ∧ W.cell? ⟨B, 2, none⟩ = some (.int .i64 0) ∧ W.cell? ⟨B, 3, none⟩ = some (.string ⟨#[]⟩) := h.cells.1
theorem two_at (a b : Value) (w : World) : (Instr.index 86 (.agg #[a, b]) (.int .i64 0)).run Tryd.prog w = .ok a w ∧ (Instr.index 86 (.agg #[a, b]) (.int .i64 1)).run Tryd.prog w = .ok b w := ⟨by kernel_rfl, by kernel_rfl⟩
theorem int_l (s : ByteArray) (n k e : Nat) (w : World) (hs : s.size ≤ maxLen) (h : intL s.data.toList 4096 = (n, k, e)) :
    Calls Tryd.prog 40 #[.string s, .int .i64 4096] w fun r w' => r = .returned (.tuple #[.int .i64 n, .int .i64 k, errV e]) ∧ w = w' := by
  have h1 := int_any s 4096 w hs (by decide) (by decide)
  rw [h] at h1
  exact h1

set_option maxRecDepth 100000 in
set_option maxHeartbeats 2000000 in
theorem fill_any (s : ByteArray) (w : World) (hs : s.size ≤ 1000000) :
    Calls Tryd.prog 30 #[.string s] w fun e w' => e = .returned (.tuple #[chkV (fillF s.data.toList).1, errV (fillF s.data.toList).2]) ∧ Below w.heap.size w w' := by
  have HW : Hid (CkB w (w.alloc (.cells #[.int .u32 0, .int .i64 0, .int .i64 0, .string ⟨#[]⟩] 34)) w.heap.size chk0) := Lib.hid (CkB.new (c := chk0) (Below.refl _ _))
  rcases fill_ways s.data.toList with h1 | ⟨h1, h2⟩ | ⟨h1, h2, h3⟩
  · have HPB : Hid (Lib.hasPrefix s.data.toList [67] = false) := Lib.hid (pre_cn h1)
    have HA : Hid (Value.tuple #[chkV (fillF s.data.toList).1, errV (fillF s.data.toList).2] = .tuple #[.agg #[.int .u32 0, .int .i64 0, .int .i64 0, .string ⟨#[]⟩], .iface 43 (.int .i64 5)]) := Lib.hid (by rw [fill_name h1]; rfl)
    rw [HA.out]
    clear h1
    go_enter Tryd.func30, Tryd.ntmps30
    go_wp2_with fail
    generalize w.alloc (.cells #[.int .u32 0, .int .i64 0, .int .i64 0, .string ⟨#[]⟩] 34) = W at HW ⊢
    refine (Tryd.strings_HasPrefix s _ W).mono ?_
    rintro r w' ⟨rfl, rfl⟩
    rw [HPB.out]
    obtain ⟨_, z0, z1, z2, z3, _⟩ := HW.out.cells
    obtain ⟨c0, c1, c2, c3⟩ := HW.out.zero
    have HM := Lib.hid HW.out.put0
    go_wp2
    generalize (((w'.setCell ⟨w.heap.size, 0, none⟩ (.int .u32 0)).setCell ⟨w.heap.size, 1, none⟩ (.int .i64 0)).setCell ⟨w.heap.size, 2, none⟩ (.int .i64 0)).setCell ⟨w.heap.size, 3, none⟩ (.string ⟨#[]⟩) = WZ at HM ⊢
    obtain ⟨q0, q1, q2, q3⟩ := HM.out.zero
    refine bodyPost_ret (v := .tuple #[.agg #[.int .u32 0, .int .i64 0, .int .i64 0, .string ⟨#[]⟩], .iface 43 (.int .i64 5)]) (by simp [results, Tryd.results30, go_sem, q0, q1, q2, q3]) rfl ?_
    exact ⟨rfl, HM.out.2.1⟩
  · have HPB : Hid (Lib.hasPrefix s.data.toList [67] = true) := Lib.hid (pre_c.2 h1)
    have HA : Hid (Value.tuple #[chkV (fillF s.data.toList).1, errV (fillF s.data.toList).2] = .tuple #[.agg #[.int .u32 0, .int .i64 0, .int .i64 0, .string ⟨#[]⟩], .iface 43 (.int .i64 7)]) := Lib.hid (by rw [fill_few h1 h2]; rfl)
    have h5 : s.size < 5 := by have h := h2; simp at h; exact h
    rw [HA.out]
    clear h1 h2
    go_enter Tryd.func30, Tryd.ntmps30
    go_wp2_with fail
    generalize w.alloc (.cells #[.int .u32 0, .int .i64 0, .int .i64 0, .string ⟨#[]⟩] 34) = W at HW ⊢
    refine (Tryd.strings_HasPrefix s _ W).mono ?_
    rintro r w' ⟨rfl, rfl⟩
    rw [HPB.out]
    obtain ⟨_, z0, z1, z2, z3, _⟩ := HW.out.cells
    obtain ⟨c0, c1, c2, c3⟩ := HW.out.zero
    have HM := Lib.hid HW.out.put0
    go_wp2
    generalize (((w'.setCell ⟨w.heap.size, 0, none⟩ (.int .u32 0)).setCell ⟨w.heap.size, 1, none⟩ (.int .i64 0)).setCell ⟨w.heap.size, 2, none⟩ (.int .i64 0)).setCell ⟨w.heap.size, 3, none⟩ (.string ⟨#[]⟩) = WZ at HM ⊢
    obtain ⟨q0, q1, q2, q3⟩ := HM.out.zero
    refine bodyPost_ret (v := .tuple #[.agg #[.int .u32 0, .int .i64 0, .int .i64 0, .string ⟨#[]⟩], .iface 43 (.int .i64 7)]) (by simp [results, Tryd.results30, go_sem, q0, q1, q2, q3]) rfl ?_
    exact ⟨rfl, HM.out.2.1⟩
  · have HPB : Hid (Lib.hasPrefix s.data.toList [67] = true) := Lib.hid (pre_c.2 h1)
    have h5 : ¬ s.size < 5 := by have h := h2; simp at h; omega
    obtain ⟨S1, hS1⟩ : ∃ S, s.extract 1 s.size = S := ⟨_, rfl⟩
    obtain ⟨S2, hS2⟩ : ∃ S, S1.extract 4 S1.size = S := ⟨_, rfl⟩
    have y1 : S1.size = s.size - 1 := by rw [← hS1, ByteArray.size_extract]; omega
    have y2 : S2.size = s.size - 5 := by rw [← hS2, ByteArray.size_extract]; omega
    have d1 : S1.data.toList = s.data.toList.drop 1 := by rw [← hS1, ext_dropC]
    have d2 : S2.data.toList = s.data.toList.drop 5 := by rw [← hS2, ext_dropC, d1, List.drop_drop]
    obtain ⟨n, hn⟩ : ∃ n, val ((s.data.toList.drop 1).take 4) = n := ⟨_, rfl⟩
    have HN : Hid (∀ w', Calls Tryd.prog 39 #[.string S1] w' fun e w2 => e = .returned (.int .u32 n) ∧ w' = w2) := Lib.hid (fun w' => by
      have h := gname_any S1 w' (by unfold maxLen; omega) (by omega)
      rw [d1, hn] at h
      exact h)
    have i1 : (1 : Int) ≤ (s.size : Int) := by omega
    have i2 : (4 : Int) ≤ (S1.size : Int) := by omega
    have H3 := Lib.hid h3
    have H1 := Lib.hid h1
    have H2 := Lib.hid h2
    have Y2 : Hid (S2.size = s.size - 5) := Lib.hid y2
    have D2 := Lib.hid d2
    have HNN := Lib.hid hn
    have HM2 : Hid (S2.size ≤ maxLen) := Lib.hid (by unfold maxLen; omega)
    clear h1 h2 h3 y1 y2 d1 d2 hn
    go_enter Tryd.func30, Tryd.ntmps30
    go_wp2_with fail
    generalize w.alloc (.cells #[.int .u32 0, .int .i64 0, .int .i64 0, .string ⟨#[]⟩] 34) = W at HW ⊢
    refine (Tryd.strings_HasPrefix s _ W).mono ?_
    rintro r w' ⟨rfl, rfl⟩
    rw [HPB.out]
    have HP : Hid (CkB w (w'.alloc (.cells #[.int .u32 n, .int .i64 0, .int .i64 0, .string ⟨#[]⟩] 34)) w'.heap.size ⟨n, 0, 0, ⟨#[]⟩⟩) := Lib.hid (CkB.new (c := ⟨n, 0, 0, ⟨#[]⟩⟩) HW.out.2.1)
    have HR : Hid (CkB w (w'.alloc (.cells #[.int .u32 n, .int .i64 0, .int .i64 0, .string ⟨#[]⟩] 34)) w.heap.size chk0) := Lib.hid (HW.out.below ((Below.refl _ _).alloc (Nat.le_refl _) _))
    have hne : w.heap.size ≠ w'.heap.size := by have := HW.out.cells.2.2.2.2.2; omega
    have hne2 : w'.heap.size ≠ w.heap.size := fun e => hne e.symm
    have HCB : Hid (w.heap.size ≤ w'.heap.size) := Lib.hid HW.out.2.1.size
    go_wp2_with fail
    refine (HN.out _).mono ?_
    rintro r w'' ⟨rfl, rfl⟩
    go_wp2_with fail
    generalize w'.alloc (.cells #[.int .u32 n, .int .i64 0, .int .i64 0, .string ⟨#[]⟩] 34) = W2 at HP HR ⊢
    generalize w'.heap.size = C at HP HCB hne hne2 ⊢
    clear HW
    refine wp_loop_rounds 3 ?_
    rw [rounds_succ]
    rcases H3.out with ⟨e, h4, he⟩ | ⟨t, k, h4, ht, hk, hl, _, h6⟩
    · have HA : Hid (Value.tuple #[chkV (fillF s.data.toList).1, errV (fillF s.data.toList).2] = .tuple #[.agg #[.int .u32 0, .int .i64 0, .int .i64 0, .string ⟨#[]⟩], .iface 43 (.int .i64 e)]) := Lib.hid (by rw [fill_one H1.out H2.out h4 he]; unfold errV; rw [if_neg he]; rfl)
      have HI := Lib.hid (int_l S2 0 0 e W2 HM2.out (by rw [D2.out]; exact h4))
      have HE : Hid (errV e = .iface 43 (.int .i64 e)) := Lib.hid (by unfold errV; rw [if_neg he])
      clear h4 he
      obtain ⟨_, z0, z1, z2, z3, _⟩ := HR.out.cells
      obtain ⟨c0, c1, c2, c3⟩ := HR.out.zero
      obtain ⟨x0, x1⟩ := two_at (.pointer (some ⟨C, 1, none⟩)) (.pointer (some ⟨C, 2, none⟩)) W2
      go_wp2_with fail
      refine HI.out.mono ?_
      rintro r w'' ⟨rfl, rfl⟩
      rw [HE.out]
      have HM := Lib.hid HR.out.put0
      go_wp2
      generalize (((W2.setCell ⟨w.heap.size, 0, none⟩ (.int .u32 0)).setCell ⟨w.heap.size, 1, none⟩ (.int .i64 0)).setCell ⟨w.heap.size, 2, none⟩ (.int .i64 0)).setCell ⟨w.heap.size, 3, none⟩ (.string ⟨#[]⟩) = WZ at HM ⊢
      obtain ⟨q0, q1, q2, q3⟩ := HM.out.zero
      refine bodyPost_ret (v := .tuple #[.agg #[.int .u32 0, .int .i64 0, .int .i64 0, .string ⟨#[]⟩], .iface 43 (.int .i64 e)]) (by simp [results, Tryd.results30, go_sem, q0, q1, q2, q3]) rfl ?_
      exact ⟨by rw [HA.out], HM.out.2.1⟩
    · obtain ⟨S3, hS3⟩ : ∃ S, S2.extract k S2.size = S := ⟨_, rfl⟩
      have y3 : S3.size = s.size - (5 + k) := by have := Y2.out; rw [← hS3, ByteArray.size_extract]; omega
      have d3 : S3.data.toList = s.data.toList.drop (5 + k) := by rw [← hS3, ext_dropC, D2.out, List.drop_drop]
      have hl' : 5 + k ≤ s.size := by have h := hl; simp at h; exact h
      have i3 : (k : Int) ≤ (S2.size : Int) := by have := Y2.out; omega
      have i4 : (0 : Int) ≤ (k : Int) := by omega
      have HI := Lib.hid (int_l S2 t k 0 W2 HM2.out (by rw [D2.out]; exact h4))
      have H4 := Lib.hid h4
      have H6 := Lib.hid h6
      have Y3 := Lib.hid y3
      have D3 := Lib.hid d3
      have HT := Lib.hid ht
      have HM3 : Hid (S3.size ≤ maxLen) := Lib.hid (by unfold maxLen; omega)
      have HP2 : Hid (CkB w (W2.setCell ⟨C, 1, none⟩ (.int .i64 t)) C ⟨n, t, 0, ⟨#[]⟩⟩) := Lib.hid (HP.out.put rfl)
      have HR2 : Hid (CkB w (W2.setCell ⟨C, 1, none⟩ (.int .i64 t)) w.heap.size chk0) := Lib.hid (HR.out.other hne HCB.out)
      clear h4 h6 y3 d3 ht hl hl' hk
      obtain ⟨⟨c0, c1, c2, c3⟩, z0, z1, z2, z3, _⟩ := HP.out.cells
      obtain ⟨x0, x1⟩ := two_at (.pointer (some ⟨C, 1, none⟩)) (.pointer (some ⟨C, 2, none⟩)) W2
      simp only at c0 c1 c2 c3
      go_wp2_with fail
      refine HI.out.mono ?_
      rintro r w'' ⟨rfl, rfl⟩
      rw [show errV 0 = .nilIface from rfl]
      go_wp2_with fail
      go_region
      go_wp2_with fail
      have HP3 := Lib.hid HP2.out.drew
      have HR3 := Lib.hid HR2.out.drew
      generalize (W2.setCell ⟨C, 1, none⟩ (.int .i64 (t : Int))).drew = W3 at HP3 HR3 ⊢
      clear HP HR HP2 HR2 HI c0 c1 c2 c3 z0 z1 z2 z3 x0 x1 i1 i2
      obtain ⟨x0, x1⟩ := two_at (.pointer (some ⟨C, 1, none⟩)) (.pointer (some ⟨C, 2, none⟩)) W3
      rw [rounds_succ]
      rcases H6.out with ⟨e, h4, he⟩ | ⟨a, j, h4, ha, hj, hl, _⟩
      · have HA : Hid (Value.tuple #[chkV (fillF s.data.toList).1, errV (fillF s.data.toList).2] = .tuple #[.agg #[.int .u32 0, .int .i64 0, .int .i64 0, .string ⟨#[]⟩], .iface 43 (.int .i64 e)]) := Lib.hid (by rw [fill_two H1.out H2.out H4.out h4 he]; unfold errV; rw [if_neg he]; rfl)
        have HI := Lib.hid (int_l S3 0 0 e W3 HM3.out (by rw [D3.out]; exact h4))
        have HE : Hid (errV e = .iface 43 (.int .i64 e)) := Lib.hid (by unfold errV; rw [if_neg he])
        clear h4 he
        obtain ⟨_, z0, z1, z2, z3, _⟩ := HR3.out.cells
        obtain ⟨c0, c1, c2, c3⟩ := HR3.out.zero
        go_wp2_with fail
        refine HI.out.mono ?_
        rintro r w'' ⟨rfl, rfl⟩
        rw [HE.out]
        have HM := Lib.hid HR3.out.put0
        go_wp2
        generalize (((W3.setCell ⟨w.heap.size, 0, none⟩ (.int .u32 0)).setCell ⟨w.heap.size, 1, none⟩ (.int .i64 0)).setCell ⟨w.heap.size, 2, none⟩ (.int .i64 0)).setCell ⟨w.heap.size, 3, none⟩ (.string ⟨#[]⟩) = WZ at HM ⊢
        obtain ⟨q0, q1, q2, q3⟩ := HM.out.zero
        refine bodyPost_ret (v := .tuple #[.agg #[.int .u32 0, .int .i64 0, .int .i64 0, .string ⟨#[]⟩], .iface 43 (.int .i64 e)]) (by simp [results, Tryd.results30, go_sem, q0, q1, q2, q3]) rfl ?_
        exact ⟨by rw [HA.out], HM.out.2.1⟩
      · obtain ⟨S4, hS4⟩ : ∃ S, S3.extract j S3.size = S := ⟨_, rfl⟩
        have hl' : 5 + k + j ≤ s.size := by have h := hl; simp at h; exact h
        have y4 : S4.size = s.size - (5 + k + j) := by have := Y3.out; rw [← hS4, ByteArray.size_extract]; omega
        have d4 : S4.data.toList = s.data.toList.drop (5 + k + j) := by rw [← hS4, ext_dropC, D3.out, List.drop_drop]
        have i5 : (j : Int) ≤ (S3.size : Int) := by have := Y3.out; omega
        have i6 : (0 : Int) ≤ (j : Int) := by omega
        have HI := Lib.hid (int_l S3 a j 0 W3 HM3.out (by rw [D3.out]; exact h4))
        have HP4 : Hid (CkB w (W3.setCell ⟨C, 2, none⟩ (.int .i64 a)) C ⟨n, t, a, ⟨#[]⟩⟩) := Lib.hid (HP3.out.put rfl)
        have HR4 : Hid (CkB w (W3.setCell ⟨C, 2, none⟩ (.int .i64 a)) w.heap.size chk0) := Lib.hid (HR3.out.other hne HCB.out)
        have hzl : (s.data.toList.drop (5 + k + j)).length = S4.size := by rw [← d4]; simp
        have hmk : (⟨(s.data.toList.drop (5 + k + j)).toArray⟩ : ByteArray) = S4 := by rw [← d4, mk_bytes]
        have HF := fill_three H1.out H2.out H4.out h4
        rw [hzl, hmk, HNN.out] at HF
        have HF := Lib.hid HF
        have HOK : Hid (ChkOk ⟨n, t, a, S4⟩) := Lib.hid ⟨by
          have h := val_lt ((s.data.toList.drop 1).take 4)
          rw [HNN.out, List.length_take, List.length_drop] at h
          exact Nat.lt_of_lt_of_le h (Nat.pow_le_pow_right (by decide) (show 8 * min 4 (s.data.toList.length - 1) ≤ 32 by omega)), by show -9223372036854775808 ≤ (t : Int); omega, by have := HT.out; show (t : Int) ≤ 9223372036854775807; omega, by show -9223372036854775808 ≤ (a : Int); omega, by show (a : Int) ≤ 9223372036854775807; omega, by show S4.size ≤ 140737488351232; omega⟩
        clear h4 hl hl' y4 d4 hzl hmk hj ha
        obtain ⟨⟨c0, c1, c2, c3⟩, z0, z1, z2, z3, _⟩ := HP3.out.cells
        simp only at c0 c1 c2 c3
        go_wp2_with fail
        refine HI.out.mono ?_
        rintro r w'' ⟨rfl, rfl⟩
        rw [show errV 0 = .nilIface from rfl]
        go_wp2_with fail
        go_region
        go_wp2_with fail
        have HP5 := Lib.hid HP4.out.drew
        have HR5 := Lib.hid HR4.out.drew
        generalize (W3.setCell ⟨C, 2, none⟩ (.int .i64 (a : Int))).drew = W4 at HP5 HR5 ⊢
        clear HP3 HR3 HP4 HR4 HI c0 c1 c2 c3 z0 z1 z2 z3 x0 x1
        have HP6 : Hid (CkB w (W4.setCell ⟨C, 3, none⟩ (.string S4)) C ⟨n, t, a, S4⟩) := Lib.hid (HP5.out.put rfl)
        have HR6 : Hid (CkB w (W4.setCell ⟨C, 3, none⟩ (.string S4)) w.heap.size chk0) := Lib.hid (HR5.out.other hne HCB.out)
        obtain ⟨_, z0, z1, z2, z3, _⟩ := HP5.out.cells
        obtain ⟨⟨c0, c1, c2, c3⟩, _⟩ := HP5.out.cells
        simp only at c0 c1 c2 c3
        have HRT := Lib.hid (fun w' => cright_any ⟨n, t, a, S4⟩ w' HOK.out)
        unfold chkV at HRT
        simp only at HRT
        rw [rounds_succ]
        go_wp2_with fail
        generalize W4.setCell ⟨C, 3, none⟩ (.string S4) = W5 at HP6 HR6 ⊢
        clear c0 c1 c2 c3 z0 z1 z2 z3 HP5 HR5
        refine (HRT.out W5).mono ?_
        rintro r w6 ⟨rfl, hb⟩
        have HP7 := Lib.hid (HP6.out.below hb)
        have HR7 := Lib.hid (HR6.out.below hb)
        clear hb HP6 HR6
        obtain ⟨e, he⟩ : ∃ e, crE (t : Int) (a : Int) S4.size = e := ⟨_, rfl⟩
        rw [he]
        by_cases h0 : e = 0
        · subst h0
          have HA : Hid (Value.tuple #[chkV (fillF s.data.toList).1, errV (fillF s.data.toList).2] = .tuple #[.agg #[.int .u32 n, .int .i64 t, .int .i64 a, .string S4], .nilIface]) := Lib.hid (by rw [HF.out, he]; rfl)
          rw [show errV 0 = .nilIface from rfl]
          obtain ⟨_, z0, z1, z2, z3, _⟩ := HR7.out.cells
          obtain ⟨⟨c0, c1, c2, c3⟩, _⟩ := HP7.out.cells
          obtain ⟨b0, b1, b2, b3⟩ := HR7.out.zero
          simp only at c0 c1 c2 c3
          have HM := Lib.hid (HR7.out.put4 ⟨n, t, a, S4⟩)
          clear he
          go_wp2
          generalize (((w6.setCell ⟨w.heap.size, 0, none⟩ (.int .u32 (n : Int))).setCell ⟨w.heap.size, 1, none⟩ (.int .i64 (t : Int))).setCell ⟨w.heap.size, 2, none⟩ (.int .i64 (a : Int))).setCell ⟨w.heap.size, 3, none⟩ (.string S4) = WZ at HM ⊢
          obtain ⟨⟨q0, q1, q2, q3⟩, _⟩ := HM.out.cells
          simp only at q0 q1 q2 q3
          refine bodyPost_ret (v := .tuple #[.agg #[.int .u32 n, .int .i64 t, .int .i64 a, .string S4], .nilIface]) (by simp [results, Tryd.results30, go_sem, q0, q1, q2, q3]) rfl ?_
          exact ⟨by rw [HA.out], HM.out.2.1⟩
        · have HA : Hid (Value.tuple #[chkV (fillF s.data.toList).1, errV (fillF s.data.toList).2] = .tuple #[.agg #[.int .u32 0, .int .i64 0, .int .i64 0, .string ⟨#[]⟩], .iface 43 (.int .i64 e)]) := Lib.hid (by rw [HF.out, he, if_pos h0]; unfold errV; rw [if_neg h0]; rfl)
          have HE : Hid (errV e = .iface 43 (.int .i64 e)) := Lib.hid (by unfold errV; rw [if_neg h0])
          rw [HE.out]
          clear he h0
          obtain ⟨_, z0, z1, z2, z3, _⟩ := HR7.out.cells
          obtain ⟨c0, c1, c2, c3⟩ := HR7.out.zero
          have HM := Lib.hid HR7.out.put0
          go_wp2
          generalize (((w6.setCell ⟨w.heap.size, 0, none⟩ (.int .u32 0)).setCell ⟨w.heap.size, 1, none⟩ (.int .i64 0)).setCell ⟨w.heap.size, 2, none⟩ (.int .i64 0)).setCell ⟨w.heap.size, 3, none⟩ (.string ⟨#[]⟩) = WZ at HM ⊢
          obtain ⟨q0, q1, q2, q3⟩ := HM.out.zero
          refine bodyPost_ret (v := .tuple #[.agg #[.int .u32 0, .int .i64 0, .int .i64 0, .string ⟨#[]⟩], .iface 43 (.int .i64 e)]) (by simp [results, Tryd.results30, go_sem, q0, q1, q2, q3]) rfl ?_
          exact ⟨by rw [HA.out], HM.out.2.1⟩

set_option maxRecDepth 100000 in
set_option maxHeartbeats 2000000 in
theorem cread_any (s : ByteArray) (w : World) (hs : s.size ≤ 1000000) :
    Calls Tryd.prog 16 #[.string s] w fun e w' => e = .returned (.tuple #[chkV (creadF s.data.toList).1, errV (creadF s.data.toList).2]) ∧ Below w.heap.size w w' := by
  have HW : Hid (CkB w (w.alloc (.cells #[.int .u32 0, .int .i64 0, .int .i64 0, .string ⟨#[]⟩] 34)) w.heap.size chk0) := Lib.hid (CkB.new (c := chk0) (Below.refl _ _))
  obtain ⟨o, e, ho⟩ : ∃ o e, openL s.data.toList = (o, e) := ⟨_, _, rfl⟩
  obtain ⟨J, hJ⟩ : ∃ J : ByteArray, (⟨o.toArray⟩ : ByteArray) = J := ⟨_, rfl⟩
  have hJo : o = J.data.toList := by rw [← hJ]
  have HO : Hid (∀ w', Calls Tryd.prog 29 #[.string s] w' fun r w2 => r = .returned (.tuple #[.string J, errV e]) ∧ Below w'.heap.size w' w2) := Lib.hid (fun w' => by
    have h := open_any s w' (by omega)
    rw [ho] at h
    unfold openV at h
    rw [hJ] at h
    exact h)
  by_cases h0 : e = 0
  · subst h0
    have hR : creadF s.data.toList = fillF J.data.toList := by unfold creadF; rw [ho, if_neg (by simp), hJo]
    have hz : J.size ≤ 1000000 := by
      have h1 := openL_only ho
      have h2 := congrArg List.length h1
      unfold sealL at h2
      rw [List.length_append, hJo] at h2
      simp at h2
      omega
    obtain ⟨c, e, hF⟩ : ∃ c e, fillF J.data.toList = (c, e) := ⟨_, _, rfl⟩
    rw [hR, hF]
    have HF : Hid (∀ w', Calls Tryd.prog 30 #[.string J] w' fun r w2 => r = .returned (.tuple #[chkV c, errV e]) ∧ Below w'.heap.size w' w2) := Lib.hid (fun w' => by
      have h := fill_any J w' hz
      rw [hF] at h
      exact h)
    obtain ⟨n, t, a, D⟩ := c
    unfold chkV at HF ⊢
    simp only at HF ⊢
    clear hJ hJo ho hR hF hz hs
    generalize errV e = err at HF ⊢
    go_enter Tryd.func16, Tryd.ntmps16
    go_wp2_with fail
    generalize w.alloc (.cells #[.int .u32 0, .int .i64 0, .int .i64 0, .string ⟨#[]⟩] 34) = W at HW ⊢
    refine (HO.out W).mono ?_
    rintro r w1 ⟨rfl, hb⟩
    have HR1 := Lib.hid (HW.out.below hb)
    clear hb
    rw [show errV 0 = .nilIface from rfl]
    go_wp2_with fail
    refine (HF.out w1).mono ?_
    rintro r w2 ⟨rfl, hb⟩
    have HR2 := Lib.hid (HR1.out.below hb)
    clear hb
    obtain ⟨_, z0, z1, z2, z3, _⟩ := HR2.out.cells
    obtain ⟨c0, c1, c2, c3⟩ := HR2.out.zero
    have HM := Lib.hid (HR2.out.put4 ⟨n, t, a, D⟩)
    go_wp2
    generalize (((w2.setCell ⟨w.heap.size, 0, none⟩ (.int .u32 (n : Int))).setCell ⟨w.heap.size, 1, none⟩ (.int .i64 t)).setCell ⟨w.heap.size, 2, none⟩ (.int .i64 a)).setCell ⟨w.heap.size, 3, none⟩ (.string D) = WZ at HM ⊢
    obtain ⟨⟨q0, q1, q2, q3⟩, _⟩ := HM.out.cells
    simp only at q0 q1 q2 q3
    refine bodyPost_ret (v := .tuple #[.agg #[.int .u32 n, .int .i64 t, .int .i64 a, .string D], err]) (by simp [results, Tryd.results16, go_sem, q0, q1, q2, q3]) rfl ?_
    exact ⟨rfl, HM.out.2.1⟩
  · have HA : Hid (Value.tuple #[chkV (creadF s.data.toList).1, errV (creadF s.data.toList).2] = .tuple #[.agg #[.int .u32 0, .int .i64 0, .int .i64 0, .string ⟨#[]⟩], .iface 43 (.int .i64 e)]) := Lib.hid (by
      rw [cread_open (by rw [ho]; exact h0), ho]; unfold errV; rw [if_neg h0]; rfl)
    have HE : Hid (errV e = .iface 43 (.int .i64 e)) := Lib.hid (by unfold errV; rw [if_neg h0])
    clear hJ hJo ho h0 hs
    go_enter Tryd.func16, Tryd.ntmps16
    go_wp2_with fail
    generalize w.alloc (.cells #[.int .u32 0, .int .i64 0, .int .i64 0, .string ⟨#[]⟩] 34) = W at HW ⊢
    refine (HO.out W).mono ?_
    rintro r w1 ⟨rfl, hb⟩
    have HR1 := Lib.hid (HW.out.below hb)
    clear hb
    rw [HE.out]
    obtain ⟨_, z0, z1, z2, z3, _⟩ := HR1.out.cells
    obtain ⟨c0, c1, c2, c3⟩ := HR1.out.zero
    have HM := Lib.hid HR1.out.put0
    go_wp2
    generalize (((w1.setCell ⟨w.heap.size, 0, none⟩ (.int .u32 0)).setCell ⟨w.heap.size, 1, none⟩ (.int .i64 0)).setCell ⟨w.heap.size, 2, none⟩ (.int .i64 0)).setCell ⟨w.heap.size, 3, none⟩ (.string ⟨#[]⟩) = WZ at HM ⊢
    obtain ⟨q0, q1, q2, q3⟩ := HM.out.zero
    refine bodyPost_ret (v := .tuple #[.agg #[.int .u32 0, .int .i64 0, .int .i64 0, .string ⟨#[]⟩], .iface 43 (.int .i64 e)]) (by simp [results, Tryd.results16, go_sem, q0, q1, q2, q3]) rfl ?_
    exact ⟨by rw [HA.out], HM.out.2.1⟩
end Go.Proofs.YtjnbnkaocoamlabDoor
