/-
  The walk of 'packtrainkeep.SpanBack': what is written is read, one behind the other, whatever stands behind.
-/
import Derived.Test.YtepfbjfmfnnfdaaDoorSpanAll
import Derived.Test.YtepfbjfmfnnfdaaDoorSpanned
namespace Go.Proofs.YtepfbjfmfnnfdaaDoor
open Go.RowKit

/-- A []string that came in: its texts are xs. -/
def IsStrs (w : World) (a : Option Addr) (len : Nat) (xs : List ByteArray) : Prop :=
  xs.length = len ∧ (len = 0 ∨ 0 < len ∧ ∃ b off, a = some ⟨b, off, none⟩ ∧ b < w.heap.size ∧ ∀ i, i < len → w.cell? ⟨b, off + i, none⟩ = some (.string (xs.getD i ByteArray.empty)))

/-- Texts with their lengths ahead, one behind the other. -/
def catL (xs : List ByteArray) : List UInt8 := xs.flatMap fun s => spanL s.data.toList
def sizeL : List ByteArray → Nat
  | [] => 0
  | s :: r => s.size + sizeL r
theorem sizeL_snoc (xs : List ByteArray) (s : ByteArray) : sizeL (xs ++ [s]) = sizeL xs + s.size := by
  induction xs with
  | nil => simp [sizeL]
  | cons t r ih => rw [List.cons_append, sizeL, ih, sizeL]; omega
theorem sizeL_le (xs : List ByteArray) (B : Nat) (h : ∀ s ∈ xs, s.size ≤ B) : sizeL xs ≤ xs.length * B := by
  induction xs with
  | nil => simp [sizeL]
  | cons t r ih =>
    have h1 := h t (by simp)
    have h2 := ih (fun s hs => h s (by simp [hs]))
    rw [sizeL, List.length_cons, Nat.succ_mul]; omega
theorem sizeL_mem (xs : List ByteArray) (s : ByteArray) (h : s ∈ xs) : s.size ≤ sizeL xs := by
  induction xs with
  | nil => simp at h
  | cons t r ih =>
    rw [sizeL]
    rcases List.mem_cons.1 h with rfl | h
    · omega
    · have := ih h; omega
theorem sizeL_take_le (xs : List ByteArray) (k : Nat) : sizeL (xs.take k) ≤ sizeL xs := by
  induction xs generalizing k with
  | nil => simp
  | cons t r ih =>
    cases k with
    | zero => simp [sizeL]
    | succ k => rw [List.take_succ_cons, sizeL, sizeL]; have := ih k; omega
theorem catL_snoc (xs : List ByteArray) (s : ByteArray) : catL (xs ++ [s]) = catL xs ++ spanL s.data.toList := by simp [catL]
theorem take_getD (xs : List ByteArray) (k : Nat) (h : k < xs.length) : xs.take (k + 1) = xs.take k ++ [xs.getD k ByteArray.empty] := by
  rw [List.take_succ_eq_append_getElem h]; simp [List.getElem?_eq_getElem h]
theorem getD_mem (xs : List ByteArray) (k : Nat) (h : k < xs.length) : xs.getD k ByteArray.empty ∈ xs := by
  simp [List.getElem?_eq_getElem h]

theorem allF_cat (ys : List ByteArray) (more : List UInt8) (hy : ∀ s ∈ ys, s.size ≤ 2000) : ∀ (pre : List UInt8) (i : Nat) (acc : List ByteArray),
    allF (pre ++ (catL ys ++ more)) ys.length i pre.length acc = (acc ++ ys, pre.length + (catL ys).length, 0, -1) := by
  induction ys with
  | nil => intro pre i acc; simp [allF, catL]
  | cons s r ih =>
    intro pre i acc
    have e : catL (s :: r) = spanL s.data.toList ++ catL r := by simp [catL]
    have hs := hy s (by simp)
    have hd : (pre ++ (catL (s :: r) ++ more)).drop pre.length = spanL s.data.toList ++ (catL r ++ more) := by rw [List.drop_left, e, List.append_assoc]
    have hg : getS ((pre ++ (catL (s :: r) ++ more)).drop pre.length) = (s.data.toList, (spanL s.data.toList).length, 0) := by
      rw [hd]; exact getS_span _ _ (by rw [← size_data]; exact hs)
    rw [List.length_cons, allF_ok hg]
    have h2 := ih (fun t ht => hy t (by simp [ht])) (pre ++ spanL s.data.toList) (i + 1) (acc ++ [⟨s.data.toList.toArray⟩])
    rw [List.length_append, List.append_assoc, ← List.append_assoc (spanL s.data.toList), ← e] at h2
    rw [h2, bs_of, e, List.length_append]
    simp [Nat.add_assoc]

set_option maxRecDepth 100000 in
set_option maxHeartbeats 4000000 in
theorem spanBack_walk (a : Option Addr) (len cap : Nat) (xs : List ByteArray) (hlc : len ≤ cap) (hcm : cap ≤ maxLen) (hx : ∀ s ∈ xs, s.size ≤ 140737488351232) (more : ByteArray) (hm : more.size ≤ 140737488351232) (w : World) (hs : IsStrs w a len xs) (hg : errT w) :
    Calls Tryd.prog 14 #[.slice a len cap, .string more] w fun e w' => e = .returned (.bool true) ∧ Below w.heap.size w w' := by
  unfold maxLen at hcm
  obtain ⟨hxl, hcells⟩ := hs
  by_cases h30 : 30 < len
  · obtain ⟨b, off, rfl, hbw, hc⟩ : ∃ b off, a = some ⟨b, off, none⟩ ∧ b < w.heap.size ∧ ∀ i, i < len → w.cell? ⟨b, off + i, none⟩ = some (.string (xs.getD i ByteArray.empty)) := by
      rcases hcells with h | ⟨_, h⟩
      · omega
      · exact h
    have HC := Lib.hid hc
    have HXL := Lib.hid hxl
    clear hc hcells hx hxl
    go_enter Tryd.func14, Tryd.ntmps14
    go_wp2_with fail
    refine (spanned_any _).mono ?_
    rintro r w1 ⟨rfl, hb1⟩
    have HB1 := Lib.hid hb1
    clear hb1
    go_wp2
    go_loop [5, 22] (fun z i => ∃ (k : Nat) (y : Int), k ≤ len ∧ i = .int .i64 k ∧ z = .int .i64 y) (fun _ i => len - (intOf i).toNat)
    case atStart => exact ⟨0, _, Nat.zero_le _, rfl, rfl⟩
    case round =>
      obtain ⟨k, y, hk, rfl, rfl⟩ := hrel
      by_cases hlt : k < len
      · have hcell : w1.cell? ⟨b, off + k, none⟩ = some (.string (xs.getD k ByteArray.empty)) := (HB1.out.cell hbw).trans (HC.out k hlt)
        go_wp2
        go_round
        case rel => exact ⟨k + 1, _, by omega, by go_num, rfl⟩
        case measure => simp [intOf]; omega
      · go_wp2
        go_ret
        exact ⟨rfl, HB1.out⟩
  · rcases hcells with h0 | ⟨hpos, b, off, rfl, hbw, hc⟩
    · subst h0
      have hxn : xs = [] := List.length_eq_zero_iff.1 hxl
      subst hxn
      clear hx hxl h30
      by_cases h15 : 1500 < more.size
      · go_enter Tryd.func14, Tryd.ntmps14
        go_wp2_with fail
        refine (spanned_any _).mono ?_
        rintro r w1 ⟨rfl, hb1⟩
        have HB1 := Lib.hid hb1
        clear hb1
        go_wp2
        refine wp_loop_rounds 1 ?_
        rw [rounds_succ]
        go_wp2
        go_ret
        exact ⟨rfl, HB1.out⟩
      · go_enter Tryd.func14, Tryd.ntmps14
        go_wp2_with fail
        refine (spanned_any _).mono ?_
        rintro r w1 ⟨rfl, hb1⟩
        have HB1 := Lib.hid hb1
        have HG := Lib.hid (hg.below hb1)
        clear hb1 hg
        go_wp2
        refine wp_loop_rounds 1 ?_
        rw [rounds_succ]
        go_wp2
        refine wp_loop_rounds 1 ?_
        rw [rounds_succ]
        go_wp2_with fail
        refine (sall_any _ 0 _ (by rw [app_size, bs_size []]; simp; omega) (by decide) (by decide) HG.out).mono ?_
        rintro r w2 ⟨v, err, rfl, hv, hp, hn, hb2⟩
        rw [show (0 : Int).toNat = 0 from rfl, allF] at hv hn ⊢
        have hn' := hn rfl
        have HB2 : Hid (Below w.heap.size w w2) := HB1.out.trans (hb2.mono HB1.out.size)
        obtain ⟨a2, c2, hv2⟩ : ∃ a2 c2, v = .slice a2 0 c2 := by
          rcases hv.forms with ⟨h, _⟩ | ⟨g, c, h, _⟩
          · exact ⟨_, _, h⟩
          · exact ⟨_, _, h⟩
        rw [hv2, hn']
        clear hv hp hn hn' hb2 hv2
        go_wp2_with fail
        refine (Tryd.slices_Equal_string_empty a a2 cap 0 c2 _ (by decide)).mono ?_
        rintro r w' ⟨rfl, rfl⟩
        go_wp2
        go_ret
        exact ⟨rfl, HB2.out⟩
    · have HC := Lib.hid hc
      have hsum := sizeL_le xs 140737488351232 hx
      rw [hxl] at hsum
      have hsum2 : sizeL xs ≤ 30 * 140737488351232 := Nat.le_trans hsum (Nat.mul_le_mul_right _ (by omega))
      have HXL := Lib.hid hxl
      clear hc hsum hx hxl
      by_cases h15 : 1500 < more.size + sizeL xs
      · go_enter Tryd.func14, Tryd.ntmps14
        go_wp2_with fail
        refine (spanned_any _).mono ?_
        rintro r w1 ⟨rfl, hb1⟩
        have HB1 := Lib.hid hb1
        clear hb1
        go_wp2
        go_loop [5, 22] (fun z i => ∃ (k y : Nat), k ≤ len ∧ i = .int .i64 k ∧ z = .int .i64 y ∧ y ≤ more.size + sizeL xs ∧ y = more.size + sizeL (xs.take k)) (fun _ i => len - (intOf i).toNat)
        case atStart => exact ⟨0, more.size, Nat.zero_le _, rfl, rfl, by omega, by simp [sizeL]⟩
        case round =>
          obtain ⟨k, y, hk, rfl, rfl, hy, hye⟩ := hrel
          have HY := Lib.hid hye
          clear hye
          by_cases hlt : k < len
          · have hcell : w1.cell? ⟨b, off + k, none⟩ = some (.string (xs.getD k ByteArray.empty)) := (HB1.out.cell hbw).trans (HC.out k hlt)
            obtain ⟨d, hd⟩ : ∃ d, xs.getD k ByteArray.empty = d := ⟨_, rfl⟩
            rw [hd] at hcell
            have hstep : sizeL (xs.take (k + 1)) = sizeL (xs.take k) + d.size := by rw [take_getD xs k (by rw [HXL.out]; exact hlt), sizeL_snoc, hd]
            have hle : sizeL (xs.take (k + 1)) ≤ sizeL xs := sizeL_take_le xs (k + 1)
            have hyd : y + d.size ≤ more.size + sizeL xs := by have := HY.out; omega
            have HS : Hid (y + d.size = more.size + sizeL (xs.take (k + 1))) := by have := HY.out; show _ = _; omega
            clear hd hstep hle
            go_wp2
            go_round
            case rel => exact ⟨k + 1, y + d.size, by omega, by go_num, by go_num, hyd, HS.out⟩
            case measure => simp [intOf]; omega
          · have hyy : y = more.size + sizeL xs := by
              have := HY.out
              rw [List.take_of_length_le (by rw [HXL.out]; omega)] at this
              exact this
            have hy15 : 1500 < (y : Int) := by omega
            clear hyy HY
            go_wp2
            go_ret
            exact ⟨rfl, HB1.out⟩
      · have hx15 : ∀ k, k < len → (xs.getD k ByteArray.empty).size ≤ 1500 := fun k hk => by
          have := sizeL_mem xs _ (getD_mem xs k (by rw [HXL.out]; exact hk))
          omega
        have hx2000 : ∀ s ∈ xs, s.size ≤ 2000 := fun s hs => by
          have := sizeL_mem xs s hs
          omega
        have HX := Lib.hid hx15
        have HX2 := Lib.hid hx2000
        have hm15 : more.size ≤ 1500 := by omega
        have hs15 : sizeL xs ≤ 1500 := by omega
        have hlen30 : len ≤ 30 := by omega
        clear hx15 hx2000 hsum2
        go_enter Tryd.func14, Tryd.ntmps14
        go_wp2_with fail
        refine (spanned_any _).mono ?_
        rintro r w1 ⟨rfl, hb1⟩
        have HB1 := Lib.hid hb1
        have HG := Lib.hid (hg.below hb1)
        clear hb1 hg
        go_wp2
        go_loop [5, 22] (fun z i => ∃ (k y : Nat), k ≤ len ∧ i = .int .i64 k ∧ z = .int .i64 y ∧ y ≤ more.size + sizeL xs ∧ y = more.size + sizeL (xs.take k)) (fun _ i => len - (intOf i).toNat)
        case atStart => exact ⟨0, more.size, Nat.zero_le _, rfl, rfl, by omega, by simp [sizeL]⟩
        case round =>
          obtain ⟨k, y, hk, rfl, rfl, hy, hye⟩ := hrel
          have HY := Lib.hid hye
          clear hye
          by_cases hlt : k < len
          · have hcell : w1.cell? ⟨b, off + k, none⟩ = some (.string (xs.getD k ByteArray.empty)) := (HB1.out.cell hbw).trans (HC.out k hlt)
            obtain ⟨d, hd⟩ : ∃ d, xs.getD k ByteArray.empty = d := ⟨_, rfl⟩
            rw [hd] at hcell
            have hstep : sizeL (xs.take (k + 1)) = sizeL (xs.take k) + d.size := by rw [take_getD xs k (by rw [HXL.out]; exact hlt), sizeL_snoc, hd]
            have hle : sizeL (xs.take (k + 1)) ≤ sizeL xs := sizeL_take_le xs (k + 1)
            have hyd : y + d.size ≤ more.size + sizeL xs := by have := HY.out; omega
            have HS : Hid (y + d.size = more.size + sizeL (xs.take (k + 1))) := by have := HY.out; show _ = _; omega
            clear hd hstep hle
            go_wp2
            go_round
            case rel => exact ⟨k + 1, y + d.size, by omega, by go_num, by go_num, hyd, HS.out⟩
            case measure => simp [intOf]; omega
          · have hyy : y = more.size + sizeL xs := by
              have := HY.out
              rw [List.take_of_length_le (by rw [HXL.out]; omega)] at this
              exact this
            have hy15 : (y : Int) ≤ 1500 := by omega
            clear hyy HY
            go_wp2
            go_loopw [8, 40] (fun z i wr => ∃ (k2 : Nat) (b2 : ByteArray), k2 ≤ len ∧ i = .int .i64 k2 ∧ z = .string b2 ∧ b2.size ≤ k2 * 1510 ∧ b2.data.toList = catL (xs.take k2) ∧ Below w1.heap.size w1 wr) (fun _ i _ => len - (intOf i).toNat)
            case atStart => exact ⟨0, _, Nat.zero_le _, rfl, rfl, by decide, rfl, Below.refl _ _⟩
            case round =>
              obtain ⟨k2, b2, hk2, rfl, rfl, hbs, hbd, hbw2⟩ := hrel
              have HBD := Lib.hid hbd
              have HBW := Lib.hid hbw2
              clear hbd hbw2
              by_cases hlt2 : k2 < len
              · have hcell : wr.cell? ⟨b, off + k2, none⟩ = some (.string (xs.getD k2 ByteArray.empty)) := (HBW.out.cell (Nat.lt_of_lt_of_le hbw HB1.out.size)).trans ((HB1.out.cell hbw).trans (HC.out k2 hlt2))
                have hds := HX.out k2 hlt2
                obtain ⟨d, hd⟩ : ∃ d, xs.getD k2 ByteArray.empty = d := ⟨_, rfl⟩
                rw [hd] at hcell hds
                have hl10 := putL_le10 (n := d.size) (by omega)
                have hsz := spanB_size d
                have hszb : (spanB d).size ≤ 1510 := by omega
                have HN : Hid ((b2 ++ spanB d).data.toList = catL (xs.take (k2 + 1))) := by
                  show _ = _
                  rw [app_data, HBD.out, spanB_data, take_getD xs k2 (by rw [HXL.out]; exact hlt2), catL_snoc, hd]
                have hns : (b2 ++ spanB d).size ≤ (k2 + 1) * 1510 := by rw [app_size]; omega
                have HNS := Lib.hid hns
                have NB : Hid (d.size ≤ 2000) := by have h : d.size ≤ 2000 := by omega
                                                    exact h
                clear hd hsz hns HBD hl10
                go_wp2_with fail
                refine (sput_ok d _ NB.out).mono ?_
                rintro r w3 ⟨rfl, hb3⟩
                have hbw3 : Below w1.heap.size w1 w3 := HBW.out.trans (hb3.mono HBW.out.size)
                have HBW3 := Lib.hid hbw3
                clear hb3 hbw3
                go_wp2
                go_roundw
                case rel => exact ⟨k2 + 1, b2 ++ spanB d, by omega, by go_num, rfl, HNS.out, HN.out, HBW3.out⟩
                case measure => simp [intOf]; omega
              · have hk2l : k2 = len := by omega
                have hbd2 : b2.data.toList = catL xs := by
                  have h := HBD.out
                  rw [List.take_of_length_le (by rw [HXL.out]; omega)] at h
                  exact h
                have hb2s : b2.size ≤ 45300 := by omega
                have HALL : Hid (allF (b2 ++ more).data.toList len 0 0 [] = (xs, b2.size, 0, -1)) := by
                  show allF _ _ _ _ _ = _
                  have h := allF_cat xs more.data.toList HX2.out [] 0 []
                  rw [HXL.out] at h
                  simp only [List.nil_append, List.length_nil, Nat.zero_add] at h
                  rw [app_data, hbd2, h, size_data b2, hbd2]
                have HBB : Hid (Below w.heap.size w wr) := HB1.out.trans (HBW.out.mono HB1.out.size)
                have HGG : Hid (errT wr) := HG.out.below HBW.out
                have HK := Lib.hid hk2l
                clear hbd2 hk2l HBD
                go_wp2_with fail
                refine (sall_any (b2 ++ more) (len : Int) _ (by rw [app_size]; omega) (by omega) (by omega) HGG.out).mono ?_
                rintro r w4 ⟨v, err, rfl, hv, hp, hn, hb4⟩
                rw [Int.toNat_natCast, HALL.out] at hv hn ⊢
                have hn' : err = .nilIface := hn rfl
                have hv1 : ownsS w4 wr.heap.size v xs := hv
                have HB4 : Hid (Below w.heap.size w w4) := HBB.out.trans (hb4.mono HBB.out.size)
                obtain ⟨g, cap2, hv2, hgc⟩ : ∃ g cap2, v = .slice (some ⟨g, 0, none⟩) len cap2 ∧ ∀ j, j < xs.length → w4.cell? ⟨g, 0 + j, none⟩ = some (.string (xs.getD j ByteArray.empty)) := by
                  rcases hv1.forms with ⟨_, h⟩ | ⟨g, c, h, _, _, hcc⟩
                  · exfalso
                    have h1 := HXL.out
                    rw [h, List.length_nil] at h1
                    omega
                  · exact ⟨g, c, by rw [h, HXL.out], fun j hj => by rw [Nat.zero_add]; exact hcc j hj⟩
                have hcl : ∀ j, j < xs.length → w4.cell? ⟨b, off + j, none⟩ = some (.string (xs.getD j ByteArray.empty)) := fun j hj => (HB4.out.cell hbw).trans (HC.out j (by rw [← HXL.out]; exact hj))
                have HCL := Lib.hid hcl
                have HGC := Lib.hid hgc
                rw [hv2, hn']
                clear hv hp hn hn' hb4 hv2 hv1 hcl hgc
                go_wp2_with fail
                refine (Tryd.slices_Equal_string b off len cap g 0 len cap2 xs xs _ (by rw [HXL.out]; exact Nat.le_refl _) (by rw [HXL.out]; exact Nat.le_refl _) (by omega) (by omega) HCL.out HGC.out).mono ?_
                rintro r w5 ⟨rfl, q, rfl⟩
                rw [decide_eq_true (rfl : xs.take len = xs.take len)]
                go_wp2
                go_ret
                exact ⟨rfl, below_drewN HB4.out q⟩
end Go.Proofs.YtepfbjfmfnnfdaaDoor
