/-
  The contract of vector.Join.
-/
import Derived.Test.YtiipnifnejnhlaaDoorVecArr
import Derived.RegionTactic
import Derived.Outline
namespace Go.Proofs.YtiipnifnejnhlaaDoor
open Go.RowKit

def JoinIs (w : World) (a b : List Ent) (e : Ending) (w' : World) : Prop :=
  ∃ v, e = .returned (.tuple #[v, noV (joinR a b).1]) ∧ ownsE w' w.heap.size v (joinR a b).2 ∧ Below w.heap.size w w'

theorem zero201 : Tryd.zeroCells100 = arrA fun _ => 0 := by rw [← arr0_is]; kernel_rfl
theorem zero201_w (w : World) : w.alloc (.cells Tryd.zeroCells100 100) = w.alloc (.cells (arrA fun _ => 0) 100) := by rw [zero201]

theorem idx_0 (x y : Value) (w : World) : (Instr.index 82 (.agg #[x, y]) (.int .i64 0)).run Tryd.prog w = .ok x w := by kernel_rfl
theorem idx_1 (x y : Value) (w : World) : (Instr.index 82 (.agg #[x, y]) (.int .i64 1)).run Tryd.prog w = .ok y w := by kernel_rfl

set_option maxRecDepth 100000 in
theorem idx_arr (G : Nat → Int) (k : Nat) (x : Int) (w : World) (h : k < 201) (hx : G k = x) : (Instr.index 100 (.agg (arrA G)) (.int .i64 (k : Int))).run Tryd.prog w = .ok (.int .i64 x) w := by
  have h2 := arrA_at G k h
  rw [hx] at h2
  simp [Instr.index, run_underlying Tryd.underlying100, asIntOf, h2, go_sem]
  intro hc; omega

/-- How far the two are in the array. -/
def JL (a b : List Ent) (w : World) (k : Nat) (wr : World) : Prop :=
  (k = 0 ∧ TJ (fun _ => 0) w wr) ∨ (k = 1 ∧ rightV a ∧ TJ (foldT (fun _ => 0) a) w wr) ∨ (k = 2 ∧ rightV a ∧ rightV b ∧ TJ (bothT a b) w wr)
theorem joinR_errs {a b : List Ent} {e : Nat} (h : joinR a b = (e, [])) (w w' : World) (he : e ≠ 0) (hb : Below w.heap.size w w') : JoinIs w a b (.returned (.tuple #[.slice none 0 0, .iface 31 (.int .i64 (e : Nat))])) w' := by
  refine ⟨.slice none 0 0, ?_, ?_, hb⟩
  · rw [h]; simp only; rw [noV_e he]
  · rw [h]; exact ownsE_nil _ _
theorem joinR_good {a b : List Ent} {l : List Ent} (h : joinR a b = (0, l)) (w w' : World) (v : Value) (ho : ownsE w' w.heap.size v l) (hb : Below w.heap.size w w') : JoinIs w a b (.returned (.tuple #[v, .nilIface])) w' := by
  refine ⟨v, ?_, ?_, hb⟩
  · rw [h]; rfl
  · rw [h]; exact ho

set_option maxRecDepth 100000 in
set_option maxHeartbeats 4000000 in
theorem vjoin_any (va vb : Value) (a b : List Ent) (w : World) (ha : IsEnts w va a) (hb : IsEnts w vb b) (hla : a.length ≤ 9223372036854775807) (hlb : b.length ≤ 9223372036854775807) (hg : errT w) :
    Calls Tryd.prog 41 #[va, vb] w (JoinIs w a b) := by
  have HVA := Lib.hid ha
  have HVB := Lib.hid hb
  have HLA := Lib.hid hla
  have HLB := Lib.hid hlb
  have HG := Lib.hid hg
  obtain ⟨aa, ca, rfl, fa⟩ := ha.form
  obtain ⟨ab, cb, rfl, fb⟩ := hb.form
  have FA := Lib.hid fa
  have FB := Lib.hid fb
  obtain ⟨na, hna⟩ : ∃ n, n = a.length := ⟨_, rfl⟩
  obtain ⟨nb, hnb⟩ : ∃ n, n = b.length := ⟨_, rfl⟩
  have HNA := Lib.hid hna
  have HNB := Lib.hid hnb
  rw [← hna] at HVA ⊢
  rw [← hnb] at HVB ⊢
  clear ha hb hla hlb hg fa fb hna hnb
  have i0 := idx_0
  have i1 := idx_1
  go_enter Tryd.func41, Tryd.ntmps41
  go_wp2
  rw [zero201_w]
  go_loopw [18] (fun i wr => ∃ k : Nat, k ≤ 2 ∧ i = .int .i64 k ∧ JL a b w k wr) (fun i _ => 2 - (intOf i).toNat)
  case atStart => exact ⟨0, by omega, rfl, .inl ⟨rfl, TJ.start w⟩⟩
  case round =>
    obtain ⟨k, hk, rfl, hj⟩ := hrel
    rcases hj with ⟨rfl, hT⟩ | ⟨rfl, hra, hT⟩ | ⟨rfl, hra, hrb, hT⟩
    · have HT := Lib.hid hT
      have HB := Lib.hid hT.2
      have hzr := hT.lt
      clear hT
      by_cases h0 : (vrightF a).1 = 0
      · have H0 := Lib.hid h0
        have HRA := Lib.hid ((vright_ok a).1 h0)
        clear h0
        go_wp2_with fail
        refine (vbare_any _ a _ (HVA.out.below HB.out) HLA.out (HG.out.below HB.out)).mono ?_
        rintro r w1 ⟨rfl, hb1⟩
        rw [H0.out, noV_0]
        have HT1 := Lib.hid (HT.out.below hb1)
        clear hb1
        go_wp2
        go_loopw [28] (fun i wr => ∃ k : Nat, k ≤ na ∧ i = .int .i64 k ∧ TJ (foldT (fun _ => 0) (a.take k)) w wr) (fun i _ => na - (intOf i).toNat)
        case atStart => exact ⟨0, by omega, rfl, HT1.out⟩
        case round =>
          obtain ⟨k, hk, rfl, hT⟩ := hrel
          by_cases hlt : k < na
          · obtain ⟨t, ht⟩ : ∃ t, a[k]? = some t := ⟨a[k]'(by have := HNA.out; omega), List.getElem?_eq_getElem _⟩
            obtain ⟨b1, o1, rfl, hb1, p0, p1⟩ := FA.out k t ht
            have hm := okV_mem HRA.out.2 t (List.mem_of_getElem? ht)
            have hsn := take_snocE ht
            obtain ⟨rep, time⟩ := t
            simp only at p0 p1 hm
            obtain ⟨r, rfl⟩ := Int.eq_ofNat_of_zero_le hm.1
            have hr : r < 201 := by omega
            have hr' : (r : Int) < 201 := by omega
            have hr0 : (0 : Int) ≤ (r : Int) := by omega
            have q0 := (hT.2.cell (p := ⟨b1, o1 + k * 2, none⟩) hb1).trans p0
            have q1 := (hT.2.cell (p := ⟨b1, o1 + k * 2 + 1, none⟩) hb1).trans p1
            obtain ⟨c0, y0⟩ := (hT.alloc (.cells #[.int .i64 (r : Int), .int .i64 time] 70)).cells r hr
            have hzt := hT.lt
            have h16 : na ≤ 16 := by rw [HNA.out]; exact HRA.out.1
            have HT0 := Lib.hid hT
            have HT2 := Lib.hid (hT.alloc (.cells #[.int .i64 (r : Int), .int .i64 time] 70))
            obtain ⟨x, hx⟩ : ∃ x, foldT (fun _ => 0) (a.take k) r = x := ⟨_, rfl⟩
            obtain ⟨m, hmx⟩ : ∃ m, max x time = m := ⟨_, rfl⟩
            have hmx2 : (if x < time then time else x) = m := by rw [← hmx]; split <;> omega
            rw [hx] at c0
            have HST : Hid (foldT (fun _ => 0) (a.take (k + 1)) = updT (foldT (fun _ => 0) (a.take k)) r m) := Lib.hid (show foldT (fun _ => 0) (a.take (k + 1)) = updT (foldT (fun _ => 0) (a.take k)) r m by rw [hsn, foldT_snoc]; simp only [Int.toNat_natCast]; rw [hx, hmx])
            have HRL := Lib.hid hr
            clear hm hsn ht p0 p1 hT hx hr
            go_wp2
            go_region
            all_goals
              go_wp2
              go_roundw
              case rel => exact ⟨k + 1, by omega, by go_num, by rw [HST.out]; first | exact ((HT0.out.set r HRL.out m).alloc _).drew | exact (HT2.out.set r HRL.out m).drew | exact HT2.out.drew.set r HRL.out m | exact HT2.out.set r HRL.out m⟩
              case measure => simp [intOf]; omega
          · have hkn : k = na := by omega
            have HT3 : Hid (TJ (foldT (fun _ => 0) a) w wr) := Lib.hid (show TJ (foldT (fun _ => 0) a) w wr by
              have h := hT
              rw [hkn, HNA.out, List.take_length] at h; exact h)
            clear hT hkn
            go_wp2
            go_roundw
            case rel => exact ⟨1, by omega, rfl, .inr (.inl ⟨rfl, HRA.out, HT3.out⟩)⟩
            case measure => simp [intOf]
      · have HJ := Lib.hid (joinR_a (b := b) h0)
        have H0 := Lib.hid h0
        have HQ := Lib.hid (noV_e h0)
        clear h0
        go_wp2_with fail
        refine (vbare_any _ a _ (HVA.out.below HB.out) HLA.out (HG.out.below HB.out)).mono ?_
        rintro r w1 ⟨rfl, hb1⟩
        rw [HQ.out]
        have HB1 := Lib.hid (HT.out.below hb1).2
        clear hb1
        go_wp2
        go_ret2
        exact joinR_errs HJ.out w _ H0.out HB1.out
    · have HT := Lib.hid hT
      have HB := Lib.hid hT.2
      have hzr := hT.lt
      have HRA := Lib.hid hra
      clear hT hra
      by_cases h0 : (vrightF b).1 = 0
      · have H0 := Lib.hid h0
        have HRB := Lib.hid ((vright_ok b).1 h0)
        clear h0
        go_wp2_with fail
        refine (vbare_any _ b _ (HVB.out.below HB.out) HLB.out (HG.out.below HB.out)).mono ?_
        rintro r w1 ⟨rfl, hb1⟩
        rw [H0.out, noV_0]
        have HT1 := Lib.hid (HT.out.below hb1)
        clear hb1
        go_wp2
        go_loopw [28] (fun i wr => ∃ k : Nat, k ≤ nb ∧ i = .int .i64 k ∧ TJ (foldT (foldT (fun _ => 0) a) (b.take k)) w wr) (fun i _ => nb - (intOf i).toNat)
        case atStart => exact ⟨0, by omega, rfl, HT1.out⟩
        case round =>
          obtain ⟨k, hk, rfl, hT⟩ := hrel
          by_cases hlt : k < nb
          · obtain ⟨t, ht⟩ : ∃ t, b[k]? = some t := ⟨b[k]'(by have := HNB.out; omega), List.getElem?_eq_getElem _⟩
            obtain ⟨b1, o1, rfl, hb1, p0, p1⟩ := FB.out k t ht
            have hm := okV_mem HRB.out.2 t (List.mem_of_getElem? ht)
            have hsn := take_snocE ht
            obtain ⟨rep, time⟩ := t
            simp only at p0 p1 hm
            obtain ⟨r, rfl⟩ := Int.eq_ofNat_of_zero_le hm.1
            have hr : r < 201 := by omega
            have hr' : (r : Int) < 201 := by omega
            have hr0 : (0 : Int) ≤ (r : Int) := by omega
            have q0 := (hT.2.cell (p := ⟨b1, o1 + k * 2, none⟩) hb1).trans p0
            have q1 := (hT.2.cell (p := ⟨b1, o1 + k * 2 + 1, none⟩) hb1).trans p1
            obtain ⟨c0, y0⟩ := (hT.alloc (.cells #[.int .i64 (r : Int), .int .i64 time] 70)).cells r hr
            have hzt := hT.lt
            have h16 : nb ≤ 16 := by rw [HNB.out]; exact HRB.out.1
            have HT0 := Lib.hid hT
            have HT2 := Lib.hid (hT.alloc (.cells #[.int .i64 (r : Int), .int .i64 time] 70))
            obtain ⟨x, hx⟩ : ∃ x, foldT (foldT (fun _ => 0) a) (b.take k) r = x := ⟨_, rfl⟩
            obtain ⟨m, hmx⟩ : ∃ m, max x time = m := ⟨_, rfl⟩
            have hmx2 : (if x < time then time else x) = m := by rw [← hmx]; split <;> omega
            rw [hx] at c0
            have HST : Hid (foldT (foldT (fun _ => 0) a) (b.take (k + 1)) = updT (foldT (foldT (fun _ => 0) a) (b.take k)) r m) := Lib.hid (show foldT (foldT (fun _ => 0) a) (b.take (k + 1)) = updT (foldT (foldT (fun _ => 0) a) (b.take k)) r m by rw [hsn, foldT_snoc]; simp only [Int.toNat_natCast]; rw [hx, hmx])
            have HRL := Lib.hid hr
            clear hm hsn ht p0 p1 hT hx hr
            go_wp2
            go_region
            all_goals
              go_wp2
              go_roundw
              case rel => exact ⟨k + 1, by omega, by go_num, by rw [HST.out]; first | exact ((HT0.out.set r HRL.out m).alloc _).drew | exact (HT2.out.set r HRL.out m).drew | exact HT2.out.drew.set r HRL.out m | exact HT2.out.set r HRL.out m⟩
              case measure => simp [intOf]; omega
          · have hkn : k = nb := by omega
            have HT3 : Hid (TJ (foldT (foldT (fun _ => 0) a) b) w wr) := Lib.hid (show TJ (foldT (foldT (fun _ => 0) a) b) w wr by
              have h := hT
              rw [hkn, HNB.out, List.take_length] at h; exact h)
            clear hT hkn
            go_wp2
            go_roundw
            case rel => exact ⟨2, by omega, rfl, .inr (.inr ⟨rfl, HRA.out, HRB.out, HT3.out⟩)⟩
            case measure => simp [intOf]
      · have HJ := Lib.hid (joinR_b ((vright_ok a).2 HRA.out) h0)
        have H0 := Lib.hid h0
        have HQ := Lib.hid (noV_e h0)
        clear h0
        go_wp2_with fail
        refine (vbare_any _ b _ (HVB.out.below HB.out) HLB.out (HG.out.below HB.out)).mono ?_
        rintro r w1 ⟨rfl, hb1⟩
        rw [HQ.out]
        have HB1 := Lib.hid (HT.out.below hb1).2
        clear hb1
        go_wp2
        go_ret2
        exact joinR_errs HJ.out w _ H0.out HB1.out
    · have HRA := Lib.hid hra
      have HRB := Lib.hid hrb
      have HB := Lib.hid hT.2
      have hzr := hT.lt
      have HG2 := Lib.hid hT.1
      have HI := Lib.hid (arr_infoA (bothT a b))
      clear hra hrb hT
      go_wp2_with (with_reducible refine wpList_load_row rfl _ _ rfl _ rfl _ _ _ _ HG2.out Tryd.underlying100 rfl HI.out ?_)
      have HJL : Hid (joinL a b = tab (bothT a b) 201) := Lib.hid (show joinL a b = tab (bothT a b) 201 from (tab_both HRA.out.2 HRB.out.2 201).symm)
      have HGT : Hid (∀ r, bothT a b r ≤ 1099511627776) := Lib.hid (show ∀ r, bothT a b r ≤ 1099511627776 from fun r => by rw [bothT_is HRA.out.2 HRB.out.2]; exact (jF_bd HRA.out.2 HRB.out.2 r).2)
      obtain ⟨G, hG⟩ : ∃ G, bothT a b = G := ⟨_, rfl⟩
      rw [hG] at HJL HGT ⊢
      clear HG2 HI hG
      go_loopw [12, 45] (fun lv i wr => ∃ k : Nat, k ≤ 201 ∧ i = .int .i64 k ∧ ownsE wr w.heap.size lv (tab G k) ∧ Below w.heap.size w wr) (fun _ i _ => 201 - (intOf i).toNat)
      case atStart => exact ⟨0, by omega, rfl, ownsE_nil _ _, HB.out⟩
      case round =>
        obtain ⟨k, hk, rfl, ho, hb⟩ := hrel
        have HO := Lib.hid ho
        have HB2 := Lib.hid hb
        have hz2 := hb.size
        clear ho hb
        by_cases hlt : k < 201
        · have hlt' : (k : Int) < 201 := by omega
          have hlen := tab_len G k
          by_cases hp : 0 < G k
          · have HT := Lib.hid (tab_yes hp)
            obtain ⟨y, hy⟩ : ∃ y, G k = y := ⟨_, rfl⟩
            rw [hy] at hp HT
            have hm := fun W => idx_arr G k y W hlt hy
            clear hy
            go_wp2_with (at_builtin; refine wpList_append_ent rfl _ _ rfl w.heap.size _ (tab G k) rfl (HO.out.alloc _) wr.heap.size 1 rfl ⟨k, y⟩ ?c1 ?c2 ?c3 ?_)
            case c1 => exact entBlk_new _ _ _
            case c2 => omega
            case c3 => simp; omega
            · intro g cap w2 ho2 hg2
              have HO2 : Hid (ownsE w2 w.heap.size (.slice (some ⟨g, 0, none⟩) ((tab G k).length + 1) cap) (tab G (k + 1))) := Lib.hid (show ownsE w2 w.heap.size (.slice (some ⟨g, 0, none⟩) ((tab G k).length + 1) cap) (tab G (k + 1)) by rw [HT.out]; exact ho2)
              have HB3 : Hid (Below w.heap.size w w2) := (HB2.out.alloc hz2 _).grown hg2 (by simp; omega) (fun g hg => (HO.out.lt g hg).1)
              clear ho2 hg2
              go_wp2
              go_roundw
              case rel => exact ⟨k + 1, by omega, by go_num, HO2.out, HB3.out⟩
              case measure => simp [intOf]; omega
          · have HT := Lib.hid (tab_no hp)
            obtain ⟨y, hy⟩ : ∃ y, G k = y := ⟨_, rfl⟩
            rw [hy] at hp
            have hm := fun W => idx_arr G k y W hlt hy
            clear hy
            go_wp2
            go_roundw
            case rel => exact ⟨k + 1, by omega, by go_num, by rw [HT.out]; exact HO.out, HB2.out⟩
            case measure => simp [intOf]; omega
        · obtain rfl : k = 201 := by omega
          have H0A := Lib.hid ((vright_ok a).2 HRA.out)
          have H0B := Lib.hid ((vright_ok b).2 HRB.out)
          rw [← HJL.out] at HO
          obtain ⟨av, cv, hv, _⟩ := HO.out.is.form
          subst hv
          obtain ⟨m, hm⟩ : ∃ m, m = (joinL a b).length := ⟨_, rfl⟩
          have HM := Lib.hid hm
          have hml : m ≤ 201 := by rw [hm, HJL.out]; exact tab_len G 201
          rw [← hm] at HO ⊢
          clear hm hlt
          by_cases h16 : 16 < m
          · have HJ := Lib.hid (joinR_many H0A.out H0B.out (by rw [← HM.out]; exact h16))
            go_wp2
            go_ret2
            exact joinR_errs HJ.out w _ (by decide) HB2.out
          · have HJ := Lib.hid (joinR_ok H0A.out H0B.out (by rw [← HM.out]; exact h16))
            go_wp2
            go_ret2
            exact joinR_good HJ.out w _ _ HO.out HB2.out
end Go.Proofs.YtiipnifnejnhlaaDoor
