/-
  The walk of 'packtrainkeep.DiskLast'.
-/
import Derived.Test.YtjnbnkaocoamlaaDiskSyncsW
import Derived.Test.YtjnbnkaocoamlaaRep8
import Derived.WalkLawsBesides
namespace Go.Proofs.Ytjnbnkaocoamlaa
open Go.RowKit

/-- The text that was written last into a sector. -/
def wantK (l : List DabA) (i : Nat) : ByteArray := l.foldl (fun w x => if x.syncs = false ∧ x.s.size ≤ 32 ∧ (pickN x.at_ 8).toNat = i then x.s else w) ⟨#[]⟩
theorem wantK_snoc {l : List DabA} {k : Nat} {x : DabA} (h : l[k]? = some x) (i : Nat) : wantK (l.take (k + 1)) i = if x.syncs = false ∧ x.s.size ≤ 32 ∧ (pickN x.at_ 8).toNat = i then x.s else wantK (l.take k) i := by
  unfold wantK
  rw [List.take_add_one, h, Option.toList_some, List.foldl_append]
  rfl
theorem want_last (l : List DabA) (i : Nat) : ∀ w : ByteArray, (l.foldl (fun w x => if x.syncs = false ∧ x.s.size ≤ 32 ∧ (pickN x.at_ 8).toNat = i then x.s else w) w).data.toList = lastW i w.data.toList (l.map dabP) := by
  induction l with
  | nil => intro w; rfl
  | cons x r ih =>
    intro w
    rw [List.foldl_cons, ih]
    unfold lastW
    rw [List.map_cons, List.foldl_cons]
    congr 1
    show _ = if x.syncs = false ∧ x.s.data.toList.length ≤ 32 ∧ (pickN x.at_ 8).toNat = i then x.s.data.toList else w.data.toList
    have e : x.s.data.toList.length = x.s.size := by simp
    rw [e]
    split <;> rfl
theorem wantK_le (l : List DabA) (i : Nat) : (wantK l i).size ≤ 32 := by
  unfold wantK
  suffices h : ∀ w : ByteArray, w.size ≤ 32 → (l.foldl (fun w x => if x.syncs = false ∧ x.s.size ≤ 32 ∧ (pickN x.at_ 8).toNat = i then x.s else w) w).size ≤ 32 from h _ (by decide)
  induction l with
  | nil => intro w h; exact h
  | cons x r ih =>
    intro w h
    refine ih _ ?_
    show (if x.syncs = false ∧ x.s.size ≤ 32 ∧ (pickN x.at_ 8).toNat = i then x.s else w).size ≤ 32
    split
    · rename_i hc; exact hc.2.1
    · exact h
theorem last_all (l : List DabA) (i : Nat) : (spunD l).cur i = padD (wantK l i).data.toList := by
  unfold spunD wantK
  rw [spun_last (l.map dabP) i (dNew 8) [] rfl, want_last]
theorem pad_cat (s : ByteArray) : (⟨(padD s.data.toList).toArray⟩ : ByteArray) = s ++ ⟨(List.replicate (32 - s.size) 0).toArray⟩ := by
  apply ByteArray.ext
  apply Array.ext'
  unfold padD
  simp

theorem run_make_z (w : World) (z : Nat) (hz : z ≤ 32) :
    (Instr.makeSlice 33 (.int .i64 (z : Int)) (.int .i64 (z : Int))).run Try.prog w = .ok (.slice (some ⟨w.heap.size, 0, none⟩) z z) (w.alloc (.cells (madeCells #[.int .u8 0] z) 5)) := by
  cases hq : Try.prog.info? 5 with
  | none => have := info_u8s; rw [hq] at this; cases this
  | some i0 =>
    have h3 := info_u8s
    rw [hq] at h3
    simp only [Option.map_some, Option.some.injEq, Prod.mk.injEq] at h3
    obtain ⟨hz0, hz1, hz2⟩ := h3
    have h := run_makeSlice (P := Try.prog) w 33 5 i0 (.int .u8 0) Try.underlying33 hq hz0 .i64 .i64 (z : Int) (z : Int) (by omega) (Int.le_refl _) (by rw [hz1]; omega) (by rw [hz2]; omega) (by omega)
    rw [h, hz1, Int.toNat_natCast, Nat.mul_one]
    rfl
theorem conv_z (w : World) (z : Nat) (Z : ByteArray) (hZ : Z = ⟨(List.replicate z 0).toArray⟩) :
    (convert 33 9 (.slice (some ⟨w.heap.size, 0, none⟩) z z)).run Try.prog (w.alloc (.cells (madeCells #[.int .u8 0] z) 5)) = .ok (.string Z) (w.alloc (.cells (madeCells #[.int .u8 0] z) 5)) := by
  have := run_convert_bytes_back (P := Try.prog) (w.alloc (.cells (madeCells #[.int .u8 0] z) 5)) 33 9 5 ⟨w.heap.size, 0, none⟩ z (List.replicate z (0 : UInt8)) Try.underlying33 Try.underlying5 Try.underlying9 (fun j hj => by
    have hadd : (⟨w.heap.size, 0, none⟩ : Addr).add j = ⟨w.heap.size, j, none⟩ := by unfold Addr.add; split <;> simp_all
    have hjz : j < z := by simpa using hj
    rw [hadd, cell_of_row _ _ _ _ _ _ (heap_alloc_new w _)]
    simp [madeCells, hjz, Nat.mod_one])
  rw [List.length_replicate] at this
  rw [hZ]
  exact this

set_option maxRecDepth 100000 in
set_option maxHeartbeats 4000000 in
theorem diskLast_walk (w : World) (v : Value) (l : List DabA) (hv : IsDabAs w v l) (_ : l.length ≤ 9223372036854775807) (_ : ∀ t ∈ l, DabAOk t) :
    Calls Try.prog 3 #[v] w fun e w' => e = .returned (.bool true) ∧ Below w.heap.size w w' := by
  have HV := Lib.hid hv
  obtain ⟨a1, c1, rfl, f1⟩ := hv.form
  have F1 := Lib.hid f1
  clear hv f1
  go_enter Try.func3, Try.ntmps3
  go_wp2_with fail
  refine (spinning_any w).mono ?_
  rintro r w1 ⟨rfl, hb1⟩
  have HB1 := Lib.hid hb1
  clear hb1
  go_wp2_with fail
  refine (light_any _ l w1 (HV.out.below HB1.out)).mono ?_
  rintro r w2 ⟨⟨rfl, hlt⟩ | ⟨rfl, _⟩, hb2⟩
  · have HB2 := Lib.hid (HB1.out.trans (hb2.mono HB1.out.size))
    have HLT := Lib.hid hlt
    clear hb2 hlt
    go_wp2_with fail
    refine (spun_any _ l w2 (HV.out.below HB2.out) (by have := HLT.out.1; omega)).mono ?_
    rintro r w3 ⟨d, L, M, rfl, hd3, hb3, hd, hL, hM⟩
    have HD3 := Lib.hid hd3
    have HB3 := Lib.hid (HB2.out.trans (hb3.mono HB2.out.size))
    clear hd3 hb3 hd hL hM
    go_wp2_with fail
    refine (repeat_any _ _ _ (by rw [cell_of_row _ _ _ _ _ _ (heap_alloc_new w3 _)]; rfl)).mono ?_
    rintro r w4 ⟨g, rfl, ha4, hg4, hb4⟩
    have HB3A := HB3.out.alloc HB3.out.size (.cells #[.string ⟨#[]⟩] 9)
    have HB4 := Lib.hid (HB3A.trans (hb4.mono HB3A.size))
    have HD4 := Lib.hid ((HD3.out.alloc (.cells #[.string ⟨#[]⟩] 9)).below hb4)
    have HA4 : Hid (At8 w4 g (wantK (l.take 0))) := Lib.hid ha4
    have HG : Hid (w.heap.size ≤ g ∧ d < g ∧ L < g ∧ M < g) := Lib.hid (by have h1 := HD3.out.ld; have h2 := HD3.out.lL; have h3 := HD3.out.lM; have h4 := HB3.out.size; simp at hg4; omega)
    clear ha4 hb4 hg4 HB3A
    obtain ⟨n, hn⟩ : ∃ n, n = l.length := ⟨_, rfl⟩
    have hn60 : n ≤ 60 := by rw [hn]; exact HLT.out.1
    rw [← hn]
    have HN := Lib.hid hn
    clear hn
    go_wp2_with fail
    go_loopw [22] (fun i wr => ∃ k : Nat, k ≤ n ∧ i = .int .i64 k ∧ At8 wr g (wantK (l.take k)) ∧ DskIn wr d L M (spunD l) ∧ Below w.heap.size w wr) (fun i _ => n - (RowKit.intOf i).toNat)
    case atStart => exact ⟨0, Nat.zero_le _, rfl, HA4.out, HD4.out, HB4.out⟩
    case round =>
      obtain ⟨k, hk, rfl, ha, hD, hbel⟩ := hrel
      have HB := Lib.hid hbel
      have HD := Lib.hid hD
      have HA := Lib.hid ha
      clear hbel hD ha
      by_cases hltk : k < n
      · obtain ⟨x, hx⟩ : ∃ x, l[k]? = some x := ⟨l[k]'(by rw [← HN.out]; exact hltk), List.getElem?_eq_getElem _⟩
        obtain ⟨b1, o1, rfl, hb1, p0, p1, p2⟩ := F1.out k x hx
        have q0 := (HB.out.cell (p := ⟨b1, _, none⟩) hb1).trans p0
        have q1 := (HB.out.cell (p := ⟨b1, _, none⟩) hb1).trans p1
        have q2 := (HB.out.cell (p := ⟨b1, _, none⟩) hb1).trans p2
        have HX := Lib.hid (wantK_snoc hx)
        clear p0 p1 p2 hx
        obtain ⟨At, S, sy⟩ := x
        dsimp only at q0 q1 q2
        have HAA : Hid (At8 (wr.alloc (.cells #[.int .i64 At, .string S, .bool sy] 30)) g (wantK (l.take k))) := Lib.hid (HA.out.below ((Below.refl _ _).alloc (Nat.le_refl _) _))
        have HDA : Hid (DskIn (wr.alloc (.cells #[.int .i64 At, .string S, .bool sy] 30)) d L M (spunD l)) := Lib.hid (HD.out.alloc _)
        have HBA : Hid (Below w.heap.size w (wr.alloc (.cells #[.int .i64 At, .string S, .bool sy] 30))) := Lib.hid (HB.out.alloc HB.out.size _)
        by_cases hc : sy = false ∧ S.size ≤ 32
        · obtain ⟨rfl, h32⟩ := hc
          have h32' : (S.size : Int) ≤ 32 := by omega
          obtain ⟨p, hp⟩ : ∃ p : Nat, pickN At 8 = p := ⟨(pickN At 8).toNat, by have := pickN_pos (a := At) (n := 8) (by decide); omega⟩
          have hp8 : p < 8 := by have := pickN_pos (a := At) (n := 8) (by decide); omega
          have HPK : Hid (∀ W, Calls Try.prog 10 #[.int .i64 At, .int .i64 8] W fun e w' => e = .returned (.int .i64 (p : Int)) ∧ W = w') := Lib.hid (fun W => by have := pick_any At 8 W (by decide) (by decide); rw [hp] at this; exact this)
          have HXX : Hid (wantK (l.take (k + 1)) = fun j => if j = p then S else wantK (l.take k) j) := Lib.hid (by
            funext j
            rw [HX.out]
            by_cases hj : j = p
            · rw [if_pos hj, if_pos ⟨rfl, h32, by rw [hp]; exact hj.symm⟩]
            · rw [if_neg hj, if_neg (fun h => hj (by have := h.2.2; rw [hp] at this; exact this.symm))])
          clear h32 hp
          go_wp2_with fail
          have HRA : Hid ((wr.alloc (.cells #[.int .i64 At, .string S, .bool false] 30)).heap[wr.heap.size]? = some (.cells #[.int .i64 At, .string S, .bool false] 30 (0, 0))) := Lib.hid (heap_alloc_new wr _)
          have HGB : Hid (g < wr.heap.size) := Lib.hid HA.out.lt
          generalize wr.alloc (.cells #[.int .i64 At, .string S, .bool false] 30) = W at HDA HBA HRA HAA ⊢
          generalize wr.heap.size = B at HRA HGB ⊢
          have c0 : W.cell? ⟨B, 0, none⟩ = some (.int .i64 At) ∧ W.cell? ⟨B, 1, none⟩ = some (.string S) := ⟨cell_of_row _ _ 0 _ _ _ HRA.out, cell_of_row _ _ 1 _ _ _ HRA.out⟩
          have hgB : ¬ B = g := by have := HGB.out; omega
          have cg : W.drew.cell? ⟨g, p, none⟩ = some (.string (wantK (l.take k) p)) := HAA.out.cell hp8
          have fg : W.drew.frozen? ⟨g, p, none⟩ = false := Lib.frozen_of_heap HAA.out p
          have c2 : (W.drew.setCell ⟨g, p, none⟩ (.string S)).cell? ⟨B, 0, none⟩ = some (.int .i64 At) ∧ (W.drew.setCell ⟨g, p, none⟩ (.string S)).cell? ⟨B, 1, none⟩ = some (.string S) := ⟨(World.cell?_setCell_other _ _ _ _ (by intro e; exact hgB (congrArg Addr.block e).symm)).trans c0.1, (World.cell?_setCell_other _ _ _ _ (by intro e; exact hgB (congrArg Addr.block e).symm)).trans c0.2⟩
          have hp8' : (p : Int) < 8 := by omega
          clear q0 q1 q2
          go_region_held3 (fun w2 => w2.cell? ⟨B, 0, none⟩ = some (.int .i64 At) ∧ w2.cell? ⟨B, 1, none⟩ = some (.string S)) (first | exact c0 | exact c2) (first | (go_at_call 10; ((with_reducible refine (HPK.out _).mono ?_); rintro r w2 ⟨rfl, rfl⟩)) | fail)
          go_wp2
          have HAS : Hid (At8 (W.drew.setCell ⟨g, p, none⟩ (.string S)) g (wantK (l.take (k + 1)))) := Lib.hid (by rw [HXX.out]; exact At8.set (w := W.drew) HAA.out hp8 S)
          go_roundw
          · exact ⟨k + 1, by omega, by go_num, HAS.out, (DskIn.but (G := fun i => i = g) HDA.out (But.setCell (F := fun i => i = g) (But.refl _ _) (.inl rfl) _) (by have := HG.out; omega) (by have := HG.out; omega) (by have := HG.out; omega)).drew, HBA.out.drew.setCell HG.out.1 _⟩
          · simp [RowKit.intOf]; omega
        · have HXX : Hid (wantK (l.take (k + 1)) = wantK (l.take k)) := Lib.hid (by
            funext j
            rw [HX.out, if_neg (fun h => hc ⟨h.1, h.2.1⟩)])
          cases sy with
          | true =>
            clear hc
            go_wp2_with fail
            go_roundw
            · exact ⟨k + 1, by omega, by go_num, by rw [HXX.out]; exact HAA.out, HDA.out, HBA.out⟩
            · simp [RowKit.intOf]; omega
          | false =>
            have h32' : ¬ (S.size : Int) ≤ 32 := fun h => hc ⟨rfl, by omega⟩
            clear hc
            go_wp2_with fail
            go_roundw
            · exact ⟨k + 1, by omega, by go_num, by rw [HXX.out]; exact HAA.out, HDA.out, HBA.out⟩
            · simp [RowKit.intOf]; omega
      · obtain rfl : k = n := by omega
        have HA2 : Hid (At8 wr g (wantK l)) := Lib.hid (by have := HA.out; rwa [List.take_of_length_le (by rw [HN.out]; exact Nat.le_refl _)] at this)
        clear HA HA4
        go_wp2_with fail
        refine (all_any d L M _ wr HD.out (spunD_n l)).mono ?_
        rintro r w5 ⟨u, rfl, ho5, hb5⟩
        obtain ⟨g2, cap2, rfl, _, hg5, hc5⟩ := all_row ho5
        have HB5 := Lib.hid (HB.out.trans (hb5.mono HB.out.size))
        have HA5 := Lib.hid (HA2.out.below hb5)
        have HC5 := Lib.hid hc5
        have HS5 := Lib.hid hg5
        clear ho5 hb5 hg5 hc5
        go_wp2_with fail
        go_loopw [47] (fun i wr => ∃ k : Nat, k ≤ 8 ∧ i = .int .i64 k ∧ Below w5.heap.size w5 wr) (fun i _ => 8 - (RowKit.intOf i).toNat)
        case atStart => exact ⟨0, Nat.zero_le _, rfl, Below.refl _ _⟩
        case round =>
          obtain ⟨j, hj, rfl, hb⟩ := hrel
          have HBW := Lib.hid hb
          clear hb
          by_cases hlt8 : j < 8
          · have hcg : wr.cell? ⟨g2, j, none⟩ = some (.string ((allL (spunD l)).getD j ByteArray.empty)) := (HBW.out.cell (p := ⟨g2, j, none⟩) HS5.out).trans (HC5.out j hlt8)
            have hcw : wr.cell? ⟨g, j, none⟩ = some (.string (wantK l j)) := (HBW.out.cell (p := ⟨g, j, none⟩) HA5.out.lt).trans (HA5.out.cell hlt8)
            have hcat : (allL (spunD l)).getD j ByteArray.empty = wantK l j ++ ⟨(List.replicate (32 - (wantK l j).size) 0).toArray⟩ := by
              unfold allL
              rw [List.getD_eq_getElem?_getD, List.getElem?_map, List.getElem?_range hlt8, Option.map_some, Option.getD_some, last_all, pad_cat]
            have hle := wantK_le l j
            rw [hcat] at hcg
            obtain ⟨S, hS⟩ : ∃ S, S = wantK l j := ⟨_, rfl⟩
            rw [← hS] at hcw hle hcg
            clear hcat hS
            obtain ⟨z, hz⟩ : ∃ z, z = 32 - S.size := ⟨_, rfl⟩
            rw [← hz] at hcg
            obtain ⟨Z, hZ⟩ : ∃ Z : ByteArray, Z = ⟨(List.replicate z 0).toArray⟩ := ⟨_, rfl⟩
            rw [← hZ] at hcg
            have hZs : Z.size = z := by rw [hZ]; show (List.replicate z (0 : UInt8)).toArray.size = z; simp
            obtain ⟨G, hG⟩ : ∃ G, S ++ Z = G := ⟨_, rfl⟩
            rw [hG] at hcg
            have hGs : (G.size : Int) = 32 := by rw [← hG, ByteArray.size_append]; omega
            have hGs2 : G.size = 32 := by omega
            have hzw : IntKind.i64.wrap (32 - (S.size : Int)) = (z : Int) := by rw [show (32 : Int) - (S.size : Int) = (z : Int) by omega]; exact IntWalk.i64_in _ (by omega)
            have hzi : (32 : Int) - (S.size : Int) = (z : Int) := by omega
            have hno : ¬ (9223372036854775807 < S.size + Z.size) := by omega
            have hj8 : (j : Int) < 8 := by omega
            have hd1 : decide ((8 : Int) ≤ (j : Int)) = false := decide_eq_false (by omega)
            have hd2 : ((G.size : Int) != 32) = false := by rw [hGs]; rfl
            have hwz : IntKind.i64.wrap (z : Int) = (z : Int) := IntWalk.i64_in _ (by omega)
            have hmk := run_make_z wr.drew z (by omega)
            have hconv : (convert 33 9 (.slice (some ⟨wr.heap.size, 0, none⟩) z z)).run Try.prog (wr.alloc (.cells (madeCells #[.int .u8 0] z) 5)).drew = .ok (.string Z) (wr.alloc (.cells (madeCells #[.int .u8 0] z) 5)).drew := conv_z wr.drew z Z hZ
            clear hz hZ hle hZs
            have _ := hj8
            have cA : wr.drew.cell? ⟨g2, j, none⟩ = some (.string G) ∧ wr.drew.cell? ⟨g, j, none⟩ = some (.string S) := ⟨hcg, hcw⟩
            have cB : (wr.drew.alloc (.cells (madeCells #[.int .u8 0] z) 5)).cell? ⟨g2, j, none⟩ = some (.string G) ∧ (wr.drew.alloc (.cells (madeCells #[.int .u8 0] z) 5)).cell? ⟨g, j, none⟩ = some (.string S) := ⟨(World.cell?_alloc_lt _ _ _ (World.block_lt_of_cell? _ _ hcg)).trans hcg, (World.cell?_alloc_lt _ _ _ (World.block_lt_of_cell? _ _ hcw)).trans hcw⟩
            clear hcg hcw
            go_wp2
            refine wp_region_held_drew (S := (fun W => W.cell? ⟨g2, j, none⟩ = some (.string G) ∧ W.cell? ⟨g, j, none⟩ = some (.string S))) (by kernel_rfl) cA (fun hHeld => ?_)
            refine wpAnyH_take (i := 0) (v := ?v0) rfl (by kernel_rfl) (by kernel_rfl) (by kernel_rfl) (fun _ _ _ h => h) (Or.inl ⟨by rfl, ?h0⟩) (by assumption) ?r0
            case h0 => (intro W hSw; (try dsimp only at hSw); go_simp; all_goals (with_reducible rfl))
            try simp only [Act.put, List.getElem_toArray, List.getElem_cons_zero, List.setIfInBounds_toArray, List.set_cons_zero, List.set_cons_succ]
            refine wpAnyH_take (i := 1) (v := ?v1) rfl (by kernel_rfl) (by kernel_rfl) (by kernel_rfl) (fun _ _ _ h => h) (Or.inl ⟨by rfl, ?h1⟩) (by assumption) ?r1
            case h1 => (intro W hSw; (try dsimp only at hSw); go_simp; all_goals (with_reducible rfl))
            try simp only [Act.put, List.getElem_toArray, List.getElem_cons_zero, List.getElem_cons_succ, List.setIfInBounds_toArray, List.set_cons_zero, List.set_cons_succ]
            refine wpAnyH_take (i := 2) (v := ?v2) rfl (by kernel_rfl) (by kernel_rfl) (by kernel_rfl) (fun _ _ _ h => h) (Or.inl ⟨by rfl, ?h2⟩) (by assumption) ?r2
            case h2 => (intro W hSw; (try dsimp only at hSw); go_simp; all_goals (with_reducible rfl))
            try simp only [Act.put, List.getElem_toArray, List.getElem_cons_zero, List.getElem_cons_succ, List.setIfInBounds_toArray, List.set_cons_zero, List.set_cons_succ]
            refine wpAnyH_take (i := 3) (v := ?v3) rfl (by kernel_rfl) (by kernel_rfl) (by kernel_rfl) (fun _ _ _ h => h) (Or.inl ⟨by rfl, ?h3⟩) (by assumption) ?r3
            case h3 => (intro W hSw; (try dsimp only at hSw); go_simp; all_goals (with_reducible rfl))
            try simp only [Act.put, List.getElem_toArray, List.getElem_cons_zero, List.getElem_cons_succ, List.setIfInBounds_toArray, List.set_cons_zero, List.set_cons_succ]
            refine wpAnyH_take (i := 4) (v := ?v4) rfl (by kernel_rfl) (by kernel_rfl) (by kernel_rfl) (fun _ _ _ h => h) (Or.inl ⟨by rfl, ?h4⟩) (by assumption) ?r4
            case h4 => (intro W hSw; (try dsimp only at hSw); go_simp; all_goals (with_reducible rfl))
            try simp only [Act.put, List.getElem_toArray, List.getElem_cons_zero, List.getElem_cons_succ, List.setIfInBounds_toArray, List.set_cons_zero, List.set_cons_succ]
            refine wpAnyH_take (i := 5) (v := ?v5) rfl (by kernel_rfl) (by kernel_rfl) (by kernel_rfl) (fun _ _ _ h => h) (Or.inl ⟨by rfl, ?h5⟩) (by assumption) ?r5
            case h5 => (intro W hSw; (try dsimp only at hSw); go_simp; all_goals (with_reducible rfl))
            try simp only [Act.put, List.getElem_toArray, List.getElem_cons_zero, List.getElem_cons_succ, List.setIfInBounds_toArray, List.set_cons_zero, List.set_cons_succ]
            refine wpAnyH_take (i := 6) (v := ?v6) rfl (by kernel_rfl) (by kernel_rfl) (by kernel_rfl) (fun _ _ _ h => h) (Or.inl ⟨by rfl, ?h6⟩) (by assumption) ?r6
            case h6 => (intro W hSw; (try dsimp only at hSw); go_simp; all_goals (with_reducible rfl))
            try simp only [Act.put, List.getElem_toArray, List.getElem_cons_zero, List.getElem_cons_succ, List.setIfInBounds_toArray, List.set_cons_zero, List.set_cons_succ]
            refine wpAnyH_take (i := 7) (v := ?v7) rfl (by kernel_rfl) (by kernel_rfl) (by kernel_rfl) (fun _ _ _ h => h) (Or.inl ⟨by rfl, ?h7⟩) (by assumption) ?r7
            case h7 => (intro W hSw; (try dsimp only at hSw); go_simp; all_goals (with_reducible rfl))
            try simp only [Act.put, List.getElem_toArray, List.getElem_cons_zero, List.getElem_cons_succ, List.setIfInBounds_toArray, List.set_cons_zero, List.set_cons_succ]
            refine wpAnyH_take (i := 8) (v := ?v8) rfl (by kernel_rfl) (by kernel_rfl) (by kernel_rfl) (fun _ _ _ h => h) (Or.inl ⟨by rfl, ?h8⟩) (by assumption) ?r8
            case h8 => (intro W hSw; (try dsimp only at hSw); go_simp; all_goals (with_reducible rfl))
            try simp only [Act.put, List.getElem_toArray, List.getElem_cons_zero, List.getElem_cons_succ, List.setIfInBounds_toArray, List.set_cons_zero, List.set_cons_succ]
            refine wpAnyH_take (i := 9) (v := ?v9) rfl (by kernel_rfl) (by kernel_rfl) (by kernel_rfl) (fun _ _ _ h => h) (Or.inl ⟨by rfl, ?h9⟩) (by assumption) ?r9
            case h9 => (intro W hSw; (try dsimp only at hSw); go_simp; all_goals (with_reducible rfl))
            try simp only [Act.put, List.getElem_toArray, List.getElem_cons_zero, List.getElem_cons_succ, List.setIfInBounds_toArray, List.set_cons_zero, List.set_cons_succ]
            refine wpAnyH_take (i := 10) (v := ?v10) rfl (by kernel_rfl) (by kernel_rfl) (by kernel_rfl) (fun _ _ _ h => h) (Or.inl ⟨by rfl, ?h10⟩) (by assumption) ?r10
            case h10 => (intro W hSw; (try dsimp only at hSw); go_simp; all_goals (with_reducible rfl))
            try simp only [Act.put, List.getElem_toArray, List.getElem_cons_zero, List.getElem_cons_succ, List.setIfInBounds_toArray, List.set_cons_zero, List.set_cons_succ]
            refine wpAnyH_take (i := 11) (v := ?v11) rfl (by kernel_rfl) (by kernel_rfl) (by kernel_rfl) (fun _ _ _ h => h) (Or.inl ⟨by rfl, ?h11⟩) (by assumption) ?r11
            case h11 => (intro W hSw; (try dsimp only at hSw); go_simp; all_goals (with_reducible rfl))
            try simp only [Act.put, List.getElem_toArray, List.getElem_cons_zero, List.getElem_cons_succ, List.setIfInBounds_toArray, List.set_cons_zero, List.set_cons_succ]
            refine wpAnyH_take (i := 12) (v := ?v12) rfl (by kernel_rfl) (by kernel_rfl) (by kernel_rfl) (fun _ _ _ h => h) (Or.inl ⟨by rfl, ?h12⟩) (by assumption) ?r12
            case h12 => (intro W hSw; (try dsimp only at hSw); go_simp; all_goals (with_reducible rfl))
            try simp only [Act.put, List.getElem_toArray, List.getElem_cons_zero, List.getElem_cons_succ, List.setIfInBounds_toArray, List.set_cons_zero, List.set_cons_succ]
            refine wpAnyH_take (i := 13) (v := ?v13) rfl (by kernel_rfl) (by kernel_rfl) (by kernel_rfl) (fun _ _ _ h => h) (Or.inl ⟨by rfl, ?h13⟩) (by assumption) ?r13
            case h13 => (intro W hSw; (try dsimp only at hSw); go_simp; all_goals (with_reducible rfl))
            try simp only [Act.put, List.getElem_toArray, List.getElem_cons_zero, List.getElem_cons_succ, List.setIfInBounds_toArray, List.set_cons_zero, List.set_cons_succ]
            refine wpAnyH_take (i := 14) (v := ?v14) rfl (by kernel_rfl) (by kernel_rfl) (by kernel_rfl) (fun _ _ _ h => h) (Or.inl ⟨by rfl, ?h14⟩) (by assumption) ?r14
            case h14 => (intro W hSw; (try dsimp only at hSw); go_simp; all_goals (with_reducible rfl))
            try simp only [Act.put, List.getElem_toArray, List.getElem_cons_zero, List.getElem_cons_succ, List.setIfInBounds_toArray, List.set_cons_zero, List.set_cons_succ]
            refine wpAnyH_take (i := 15) (v := ?v15) rfl (by kernel_rfl) (by kernel_rfl) (by kernel_rfl) (fun _ _ _ h => h) (Or.inl ⟨by rfl, ?h15⟩) (by assumption) ?r15
            case h15 => (intro W hSw; (try dsimp only at hSw); go_simp; all_goals (with_reducible rfl))
            try simp only [Act.put, List.getElem_toArray, List.getElem_cons_zero, List.getElem_cons_succ, List.setIfInBounds_toArray, List.set_cons_zero, List.set_cons_succ]
            refine wpAnyH_take (i := 16) (v := ?v16) rfl (by kernel_rfl) (by kernel_rfl) (by kernel_rfl) (fun _ _ _ h => h) (Or.inl ⟨by rfl, ?h16⟩) (by assumption) ?r16
            case h16 => (intro W hSw; (try dsimp only at hSw); go_simp; all_goals (with_reducible rfl))
            try simp only [Act.put, List.getElem_toArray, List.getElem_cons_zero, List.getElem_cons_succ, List.setIfInBounds_toArray, List.set_cons_zero, List.set_cons_succ]
            refine wpAnyH_take (i := 17) (v := ?v17) rfl (by kernel_rfl) (by kernel_rfl) (by kernel_rfl) (fun _ _ _ h => h) (Or.inl ⟨by rfl, ?h17⟩) (by assumption) ?r17
            case h17 => (intro W hSw; (try dsimp only at hSw); go_simp; all_goals (with_reducible rfl))
            try simp only [Act.put, List.getElem_toArray, List.getElem_cons_zero, List.getElem_cons_succ, List.setIfInBounds_toArray, List.set_cons_zero, List.set_cons_succ]
            refine wpAnyH_take (i := 18) (v := ?v18) rfl (by kernel_rfl) (by kernel_rfl) (by kernel_rfl) (fun _ _ _ h => h) (Or.inl ⟨by rfl, ?h18⟩) (by assumption) ?r18
            case h18 => (intro W hSw; (try dsimp only at hSw); go_simp; all_goals (with_reducible rfl))
            try simp only [Act.put, List.getElem_toArray, List.getElem_cons_zero, List.getElem_cons_succ, List.setIfInBounds_toArray, List.set_cons_zero, List.set_cons_succ]
            refine wpAnyH_take (i := 19) (v := ?v19) rfl (by kernel_rfl) (by kernel_rfl) (by kernel_rfl) (fun _ _ _ h => h) (Or.inl ⟨by rfl, ?h19⟩) (by assumption) ?r19
            case h19 => (intro W hSw; (try dsimp only at hSw); go_simp; all_goals (with_reducible rfl))
            try simp only [Act.put, List.getElem_toArray, List.getElem_cons_zero, List.getElem_cons_succ, List.setIfInBounds_toArray, List.set_cons_zero, List.set_cons_succ]
            refine wpAnyH_take (i := 20) (v := ?v20) rfl (by kernel_rfl) (by kernel_rfl) (by kernel_rfl) (fun _ _ _ h => h) (Or.inl ⟨by rfl, ?h20⟩) (by assumption) ?r20
            case h20 => (intro W hSw; (try dsimp only at hSw); go_simp; all_goals (with_reducible rfl))
            try simp only [Act.put, List.getElem_toArray, List.getElem_cons_zero, List.getElem_cons_succ, List.setIfInBounds_toArray, List.set_cons_zero, List.set_cons_succ]
            refine wpAnyH_take (i := 21) (v := ?v21) rfl (by kernel_rfl) (by kernel_rfl) (by kernel_rfl) (fun _ _ _ h => h) (Or.inl ⟨by rfl, ?h21⟩) (by assumption) ?r21
            case h21 => (intro W hSw; (try dsimp only at hSw); go_simp; all_goals (with_reducible rfl))
            try simp only [Act.put, List.getElem_toArray, List.getElem_cons_zero, List.getElem_cons_succ, List.setIfInBounds_toArray, List.set_cons_zero, List.set_cons_succ]
            refine wpAnyH_take (i := 22) (v := ?v22) rfl (by kernel_rfl) (by kernel_rfl) (by kernel_rfl) (fun _ _ _ h => h) (Or.inl ⟨by rfl, ?h22⟩) (by assumption) ?r22
            case h22 => (intro W hSw; (try dsimp only at hSw); go_simp; all_goals (with_reducible rfl))
            try simp only [Act.put, List.getElem_toArray, List.getElem_cons_zero, List.getElem_cons_succ, List.setIfInBounds_toArray, List.set_cons_zero, List.set_cons_succ]
            refine wpAnyH_take (i := 23) (v := ?v23) rfl (by kernel_rfl) (by kernel_rfl) (by kernel_rfl) (fun _ _ _ h => h) (Or.inl ⟨by rfl, ?h23⟩) (by assumption) ?r23
            case h23 => (intro W hSw; (try dsimp only at hSw); go_simp; all_goals (with_reducible rfl))
            try simp only [Act.put, List.getElem_toArray, List.getElem_cons_zero, List.getElem_cons_succ, List.setIfInBounds_toArray, List.set_cons_zero, List.set_cons_succ]
            refine wpAnyH_take (i := 24) (v := ?v24) rfl (by kernel_rfl) (by kernel_rfl) (by kernel_rfl) (fun _ _ _ h => h) (Or.inl ⟨by rfl, ?h24⟩) (by assumption) ?r24
            case h24 => (intro W hSw; (try dsimp only at hSw); go_simp; all_goals (with_reducible rfl))
            try simp only [Act.put, List.getElem_toArray, List.getElem_cons_zero, List.getElem_cons_succ, List.setIfInBounds_toArray, List.set_cons_zero, List.set_cons_succ]
            refine wpAnyH_take (i := 25) (v := ?v25) rfl (by kernel_rfl) (by kernel_rfl) (by kernel_rfl) (fun _ _ _ h => h) (Or.inl ⟨by rfl, ?h25⟩) (by assumption) ?r25
            case h25 => (intro W hSw; (try dsimp only at hSw); go_simp; all_goals (with_reducible rfl))
            try simp only [Act.put, List.getElem_toArray, List.getElem_cons_zero, List.getElem_cons_succ, List.setIfInBounds_toArray, List.set_cons_zero, List.set_cons_succ]
            refine wpAnyH_take (i := 26) (v := ?v26) rfl (by kernel_rfl) (by kernel_rfl) (by kernel_rfl) (fun _ _ _ h => h) (Or.inl ⟨by rfl, ?h26⟩) (by assumption) ?r26
            case h26 => (intro W hSw; (try dsimp only at hSw); go_simp; all_goals (with_reducible rfl))
            try simp only [Act.put, List.getElem_toArray, List.getElem_cons_zero, List.getElem_cons_succ, List.setIfInBounds_toArray, List.set_cons_zero, List.set_cons_succ]
            refine wpAnyH_ready (rs := [27]) (by kernel_rfl) (by simp) ?_
            refine AllReadyH.cons rfl (fun KK hKK => ?_) AllReadyH.nil
            go_simp
            refine hKK.out _ _ cB (fun hHeld27 => ?_)
            clear hKK hHeld
            try simp only [Act.put, List.getElem_toArray, List.getElem_cons_zero, List.getElem_cons_succ, List.setIfInBounds_toArray, List.set_cons_zero, List.set_cons_succ]
            refine wpAnyH_ready (rs := [28]) (by kernel_rfl) (by simp) ?_
            refine AllReadyH.cons rfl (fun KK hKK => ?_) AllReadyH.nil
            go_simp
            refine hKK.out _ _ cB (fun hHeld28 => ?_)
            clear hKK hHeld27
            try simp only [Act.put, List.getElem_toArray, List.getElem_cons_zero, List.getElem_cons_succ, List.setIfInBounds_toArray, List.set_cons_zero, List.set_cons_succ]
            refine wpAnyH_take (i := 29) (v := ?v29) rfl (by kernel_rfl) (by kernel_rfl) (by kernel_rfl) (fun _ _ _ h => h) (Or.inl ⟨by rfl, ?h29⟩) (by assumption) ?r29
            case h29 => (intro W hSw; (try dsimp only at hSw); go_simp; all_goals (with_reducible rfl))
            try simp only [Act.put, List.getElem_toArray, List.getElem_cons_zero, List.getElem_cons_succ, List.setIfInBounds_toArray, List.set_cons_zero, List.set_cons_succ]
            refine wpAnyH_take (i := 30) (v := ?v30) rfl (by kernel_rfl) (by kernel_rfl) (by kernel_rfl) (fun _ _ _ h => h) (Or.inl ⟨by rfl, ?h30⟩) (by assumption) ?r30
            case h30 => (intro W hSw; (try dsimp only at hSw); go_simp; all_goals (with_reducible rfl))
            try simp only [Act.put, List.getElem_toArray, List.getElem_cons_zero, List.getElem_cons_succ, List.setIfInBounds_toArray, List.set_cons_zero, List.set_cons_succ]
            refine wpAnyH_take (i := 31) (v := ?v31) rfl (by kernel_rfl) (by kernel_rfl) (by kernel_rfl) (fun _ _ _ h => h) (Or.inl ⟨by rfl, ?h31⟩) (by assumption) ?r31
            case h31 => (intro W hSw; (try dsimp only at hSw); go_simp; all_goals (with_reducible rfl))
            try simp only [Act.put, List.getElem_toArray, List.getElem_cons_zero, List.getElem_cons_succ, List.setIfInBounds_toArray, List.set_cons_zero, List.set_cons_succ]
            refine wpAnyH_done (by kernel_rfl) ?_ _
            go_wp2
            go_roundw
            · exact ⟨j + 1, by omega, by go_num, (HBW.out.alloc HBW.out.size _).drew⟩
            · simp [RowKit.intOf]; omega
          · obtain rfl : j = 8 := by omega
            go_wp2_with fail
            go_ret
            exact ⟨rfl, HB5.out.trans (HBW.out.mono HB5.out.size)⟩
  · have HB2 := Lib.hid (HB1.out.trans (hb2.mono HB1.out.size))
    go_wp2_with fail
    go_ret
    exact ⟨rfl, HB2.out⟩
end Go.Proofs.Ytjnbnkaocoamlaa
