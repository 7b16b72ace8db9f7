import Derived.Test.YtkafhlpnhgipeaaGreatDoorPk05
import Derived.Test.YtkafhlpnhgipeaaGreatDoorPk06
import Derived.Test.YtkafhlpnhgipeaaGreatDoorPk12
import Derived.Test.YtkafhlpnhgipeaaGreatDoorPk10
import Derived.Test.YtkafhlpnhgipeaaGreatDoorPk11
import Derived.KernelRfl
import Derived.RegionTactic
import Derived.OrdersHeld
import Derived.Lib.Hide
import Derived.Outline
import Derived.Test.YtkafhlpnhgipeaaGreatDoorPk09
/-
  The contract of the document's Int: it answers what 'intL' gives.
-/
namespace Go.Proofs.YtkafhlpnhgipeaaGreatDoor
open Go.RowKit

theorem unvary_ok (s : ByteArray) (w : World) (hs : s.size ≤ maxLen) (n k : Nat) (h : getL s.data.toList = (n, k, 0)) :
    Calls Tryz.prog 67 #[.string s] w fun e w' => e = .returned (.tuple #[.int .u64 n, .int .i64 k, .int .i64 0]) ∧ w = w' :=
  (unvary_any s w hs).mono fun e w' ⟨h1, h2⟩ => ⟨h1.trans (by rw [h]; rfl), h2⟩
theorem unvary_bad (s : ByteArray) (w : World) (hs : s.size ≤ maxLen) (e : Nat) (h : getL s.data.toList = (0, 0, e)) :
    Calls Tryz.prog 67 #[.string s] w fun r w' => r = .returned (.tuple #[.int .u64 0, .int .i64 0, .int .i64 e]) ∧ w = w' :=
  (unvary_any s w hs).mono fun r w' ⟨h1, h2⟩ => ⟨h1.trans (by rw [h]; rfl), h2⟩

set_option maxRecDepth 100000 in
set_option maxHeartbeats 1000000 in
theorem rint_any (s : ByteArray) (most : Int) (w : World) (hs : s.size ≤ maxLen) (h0 : -9223372036854775808 ≤ most) (h1 : most ≤ 9223372036854775807) :
    Calls Tryz.prog 66 #[.string s, .int .i64 most] w fun r w' => r = .returned (intR (intL s.data.toList most)) ∧ w = w' := by
  rcases getL_cases s.data.toList with ⟨e, hg, he⟩ | ⟨n, k, hg, hn, hk1, hk2, hk3⟩
  · have HP : Hid (intR (intL s.data.toList most) = .tuple #[.int .i64 0, .int .i64 0, .int .i64 e]) := by
      show intR _ = _
      rw [intL_bad hg he]; rfl
    have HG := Lib.hid hg
    have hne : ((e : Int) != 0) = true := by simp; omega
    clear hg
    rw [HP.out]
    go_enter Tryz.func66, Tryz.ntmps66
    go_wp2_with (go_at_call 67; refine (unvary_bad _ _ hs e HG.out).mono ?_; rintro r w' ⟨rfl, rfl⟩)
    go_ret3
    exact ⟨rfl, rfl⟩
  · by_cases hm : most < 0
    · have HP : Hid (intR (intL s.data.toList most) = .tuple #[.int .i64 0, .int .i64 0, .int .i64 2]) := by
        show intR _ = _
        rw [intL_range hg (.inl hm)]; rfl
      have HG := Lib.hid hg
      clear hg
      rw [HP.out]
      go_enter Tryz.func66, Tryz.ntmps66
      go_wp2_with (go_at_call 67; refine (unvary_ok _ _ hs n k HG.out).mono ?_; rintro r w' ⟨rfl, rfl⟩)
      go_ret3
      exact ⟨rfl, rfl⟩
    · have hm' : 0 ≤ most := by omega
      by_cases hr : most < (n : Int)
      · have HP : Hid (intR (intL s.data.toList most) = .tuple #[.int .i64 0, .int .i64 0, .int .i64 2]) := by
          show intR _ = _
          rw [intL_range hg (.inr hr)]; rfl
        have HG := Lib.hid hg
        clear hg hm
        rw [HP.out]
        go_enter Tryz.func66, Tryz.ntmps66
        go_wp2_with (go_at_call 67; refine (unvary_ok _ _ hs n k HG.out).mono ?_; rintro r w' ⟨rfl, rfl⟩)
        go_ret3
        exact ⟨rfl, rfl⟩
      · have HP : Hid (intR (intL s.data.toList most) = .tuple #[.int .i64 n, .int .i64 k, .int .i64 0]) := by
          show intR _ = _
          rw [intL_ok hg (by omega)]; rfl
        have HG := Lib.hid hg
        have hr' : (n : Int) ≤ most := by omega
        clear hg hm hr
        rw [HP.out]
        go_enter Tryz.func66, Tryz.ntmps66
        go_wp2_with (go_at_call 67; refine (unvary_ok _ _ hs n k HG.out).mono ?_; rintro r w' ⟨rfl, rfl⟩)
        go_ret3
        exact ⟨rfl, rfl⟩
end Go.Proofs.YtkafhlpnhgipeaaGreatDoor
/-
  The contracts of the document's Span and Unspan.
-/
namespace Go.Proofs.YtkafhlpnhgipeaaGreatDoor
open Go.RowKit

set_option maxRecDepth 100000 in
theorem rspan_ok (s : ByteArray) (w : World) (hs : s.size ≤ 2000) :
    Calls Tryz.prog 17 #[.string s] w fun r w' => r = .returned (.tuple #[.string (spanB s), .int .i64 0]) ∧ Below w.heap.size w w' := by
  have hl := putL_le10 (n := s.size) (by omega)
  have HP : Hid (spanB s = ⟨(putL s.size).toArray⟩ ++ s) := rfl
  go_enter Tryz.func17, Tryz.ntmps17
  go_wp2_with (go_at_call 16; refine (rvary_any s.size _ (by omega)).mono ?_; rintro r w1 ⟨rfl, hb1⟩)
  go_ret2
  exact ⟨by rw [HP.out]; rfl, by assumption⟩

set_option maxRecDepth 100000 in
theorem rspan_bad (s : ByteArray) (w : World) (hs : 2000 < s.size) (hm : s.size ≤ maxLen) :
    Calls Tryz.prog 17 #[.string s] w fun r w' => r = .returned (.tuple #[.string ⟨#[]⟩, .int .i64 4]) ∧ w = w' := by
  unfold maxLen at hm
  go_enter Tryz.func17, Tryz.ntmps17
  go_wp2
  go_ret2
  exact ⟨rfl, rfl⟩

set_option maxRecDepth 100000 in
set_option maxHeartbeats 2000000 in
theorem runspan_any (s : ByteArray) (w : World) (hs : s.size ≤ 140737488351232) :
    Calls Tryz.prog 32 #[.string s] w fun r w' => r = .returned (spanR (getS s.data.toList)) ∧ w = w' := by
  have hs2 : s.size ≤ maxLen := by unfold maxLen; omega
  rcases getL_cases s.data.toList with ⟨e, hg, he⟩ | ⟨n, k, hg, hn, hk1, hk2, hk3⟩
  · have HP : Hid (spanR (getS s.data.toList) = .tuple #[.string ⟨#[]⟩, .int .i64 0, .int .i64 e]) := by
      show spanR _ = _
      rw [getS_bad hg he]; rfl
    have HG := Lib.hid hg
    have hne : ((e : Int) != 0) = true := by simp; omega
    clear hg
    rw [HP.out]
    go_enter Tryz.func32, Tryz.ntmps32
    go_wp2_with (go_at_call 67; refine (unvary_bad _ _ hs2 e HG.out).mono ?_; rintro r w' ⟨rfl, rfl⟩)
    go_ret3
    exact ⟨rfl, rfl⟩
  · rw [← size_data] at hk3
    by_cases h2 : 2000 < n
    · have HP : Hid (spanR (getS s.data.toList) = .tuple #[.string ⟨#[]⟩, .int .i64 0, .int .i64 4]) := by
        show spanR _ = _
        rw [getS_big hg h2]; rfl
      have HG := Lib.hid hg
      clear hg
      rw [HP.out]
      go_enter Tryz.func32, Tryz.ntmps32
      go_wp2_with (go_at_call 67; refine (unvary_ok _ _ hs2 n k HG.out).mono ?_; rintro r w' ⟨rfl, rfl⟩)
      go_ret3
      exact ⟨rfl, rfl⟩
    · have h2' : n ≤ 2000 := by omega
      by_cases h3 : s.size < k + n
      · have HP : Hid (spanR (getS s.data.toList) = .tuple #[.string ⟨#[]⟩, .int .i64 0, .int .i64 7]) := by
          show spanR _ = _
          rw [getS_miss hg h2 (by rw [← size_data]; exact h3)]; rfl
        have HG := Lib.hid hg
        clear hg h2
        rw [HP.out]
        go_enter Tryz.func32, Tryz.ntmps32
        go_wp2_with (go_at_call 67; refine (unvary_ok _ _ hs2 n k HG.out).mono ?_; rintro r w' ⟨rfl, rfl⟩)
        go_ret3
        exact ⟨rfl, rfl⟩
      · have hx : s.extract k (k + n) = ⟨((s.data.toList.drop k).take n).toArray⟩ := bs_ext (by rw [ext_data, List.drop_take, Nat.add_sub_cancel_left])
        have HP : Hid (spanR (getS s.data.toList) = .tuple #[.string (s.extract k (k + n)), .int .i64 ((k : Int) + n), .int .i64 0]) := by
          show spanR _ = _
          rw [getS_ok hg h2 (by rw [← size_data]; exact h3), hx]; rfl
        have HG := Lib.hid hg
        have h3' : k + n ≤ s.size := by omega
        clear hg h2 h3 hx
        rw [HP.out]
        go_enter Tryz.func32, Tryz.ntmps32
        go_wp2_with (go_at_call 67; refine (unvary_ok _ _ hs2 n k HG.out).mono ?_; rintro r w' ⟨rfl, rfl⟩)
        go_ret3
        exact ⟨rfl, rfl⟩
end Go.Proofs.YtkafhlpnhgipeaaGreatDoor
/-
  The contracts of the document's Zig and Zag.
-/
namespace Go.Proofs.YtkafhlpnhgipeaaGreatDoor
open Go.RowKit

theorem zigr_any (n : Int) (w : World) (h0 : -9223372036854775808 ≤ n) (h1 : n ≤ 9223372036854775807) :
    Calls Tryz.prog 48 #[.int .i64 n] w fun e w' => e = .returned (.int .u64 (zigN n)) ∧ w = w' := by
  by_cases hneg : n < 0
  · go_enter Tryz.func48, Tryz.ntmps48
    go_wp2
    go_ret
    exact ⟨ret_int (by rw [zigN, if_pos hneg]; omega), rfl⟩
  · have h' : 0 ≤ n := by omega
    go_enter Tryz.func48, Tryz.ntmps48
    go_wp2
    go_ret
    exact ⟨ret_int (by rw [zigN, if_neg (by omega)]), rfl⟩
theorem zagr_any (n : Int) (w : World) (h0 : 0 ≤ n) (h1 : n ≤ 18446744073709551615) :
    Calls Tryz.prog 68 #[.int .u64 n] w fun e w' => e = .returned (.int .i64 (zagN n)) ∧ w = w' := by
  by_cases h : n % 2 = 1
  · have hb : (n % 2 == 1) = true := by simpa using h
    have hh := Lib.hid h
    clear h
    go_enter Tryz.func68, Tryz.ntmps68
    go_wp2
    go_ret
    exact ⟨ret_int (by rw [zagN, if_pos hh.out]), rfl⟩
  · have hb : (n % 2 == 1) = false := by simpa using h
    have hh := Lib.hid h
    clear h
    go_enter Tryz.func68, Tryz.ntmps68
    go_wp2
    go_ret
    exact ⟨ret_int (by rw [zagN, if_neg hh.out]), rfl⟩
end Go.Proofs.YtkafhlpnhgipeaaGreatDoor
/-
  The document's Tail: its map of tails.
-/
namespace Go.Proofs.YtkafhlpnhgipeaaGreatDoor
open Go.RowKit Go.Maps

theorem keyedK : Keyed Tryz.prog 3 := int_keyed Tryz.underlying3
theorem zeroS (w : World) : (zeroValue 9).run Tryz.prog w = .ok (.string ⟨#[]⟩) w := by kernel_rfl

/-- Block b is a map of texts by number, of four keys at most. -/
def cntT (D : DataW Unit) : Nat := (if has D (.int .i64 1) then 1 else 0) + (if has D (.int .i64 2) then 1 else 0) + (if has D (.int .i64 3) then 1 else 0) + (if has D (.int .i64 4) then 1 else 0)
def JT (b : Nat) (w : World) : Prop := ∃ (D : DataW Unit) (n : Nat), w.ownsMap Tryz.prog 3 (plainElem Tryz.prog 9) b n D ∧ n ≤ 4 ∧ Tidy D ∧ n = cntT D
/-- .. that reads so at a key. -/
def RT (b : Nat) (w : World) (k : Int) (s : ByteArray) : Prop := ∃ (D : DataW Unit) (n : Nat), w.ownsMap Tryz.prog 3 (plainElem Tryz.prog 9) b n D ∧ D.atKey (.int .i64 k) (.lit (.string [])) = .lit (.string s.data.toList)
theorem own_size {w : World} {b n : Nat} {D : DataW Unit} (h : w.ownsMap Tryz.prog 3 (plainElem Tryz.prog 9) b n D) : w.ownsMap Tryz.prog 3 (plainElem Tryz.prog 9) b (Maps.size D) D := by
  obtain ⟨es, clock, h1, h2, h3, rfl⟩ := h
  refine ⟨es, clock, h1, h2, ?_, rfl⟩
  rw [size_eq, length_read]; exact Nat.le_refl _
theorem own_same {w : World} {b n m : Nat} {D D' : DataW Unit} (h : w.ownsMap Tryz.prog 3 (plainElem Tryz.prog 9) b n D) (h' : w.ownsMap Tryz.prog 3 (plainElem Tryz.prog 9) b m D') : D = D' := by
  obtain ⟨es, clock, h1, _, _, rfl⟩ := h
  obtain ⟨es', clock', h1', _, _, rfl⟩ := h'
  rw [h1] at h1'
  simp only [Option.some.injEq, Obj.map.injEq] at h1'
  rw [h1'.1]

theorem JT.made (w : World) : JT w.heap.size (w.alloc (.map #[] 0)) := ⟨_, 0, World.ownsMap_made _ _ _ _, by decide, tidy_empty, rfl⟩
theorem JT.below {b : Nat} {w w' : World} (h : JT b w) (hb : Below w.heap.size w w') : JT b w' := by
  obtain ⟨D, n, h1, h2⟩ := h
  exact ⟨D, n, h1.kept (row := none) ⟨hb.os, hb.tape, hb.output, hb.size, fun k hk _ => hb.block k hk⟩ (by simp), h2⟩
theorem RT.below {b : Nat} {w w' : World} {k : Int} {s : ByteArray} (h : RT b w k s) (hb : Below w.heap.size w w') : RT b w' k s := by
  obtain ⟨D, n, h1, h2⟩ := h
  exact ⟨D, n, h1.kept (row := none) ⟨hb.os, hb.tape, hb.output, hb.size, fun k hk _ => hb.block k hk⟩ (by simp), h2⟩
theorem cnt_le (D : DataW Unit) : cntT D ≤ 4 := by unfold cntT; split <;> split <;> split <;> split <;> decide
theorem cnt_put {D : DataW Unit} (h : Tidy D) {k : Int} (hk : k = 1 ∨ k = 2 ∨ k = 3 ∨ k = 4) (d : DataW Unit) : cntT (D.put (.int .i64 k) d) = if has D (.int .i64 k) then cntT D else cntT D + 1 := by
  have hs : ∀ k : Int, has (D.put (.int .i64 k) d) (.int .i64 k) = true := fun k => has_put_same h.isMap (keyN k) d
  have ho : ∀ j k : Int, j ≠ k → has (D.put (.int .i64 k) d) (.int .i64 j) = has D (.int .i64 j) := fun j k hne => has_put_other (by simp; exact hne) d
  unfold cntT
  rcases hk with rfl | rfl | rfl | rfl
  · rw [hs, ho 2 1 (by decide), ho 3 1 (by decide), ho 4 1 (by decide)]
    cases has D (.int .i64 1) <;> simp <;> omega
  · rw [hs, ho 1 2 (by decide), ho 3 2 (by decide), ho 4 2 (by decide)]
    cases has D (.int .i64 2) <;> simp <;> omega
  · rw [hs, ho 1 3 (by decide), ho 2 3 (by decide), ho 4 3 (by decide)]
    cases has D (.int .i64 3) <;> simp <;> omega
  · rw [hs, ho 1 4 (by decide), ho 2 4 (by decide), ho 3 4 (by decide)]
    cases has D (.int .i64 4) <;> simp <;> omega

theorem put_all {b : Nat} {w : World} (h : JT b w) {k : Int} (hk : k = 1 ∨ k = 2 ∨ k = 3 ∨ k = 4) {s : ByteArray} (hs : s.size ≤ maxLen) :
    ∃ w', (Instr.mapUpdate 103 (.map (some b)) (.int .i64 k) (.string s)).run Tryz.prog w = .ok () w' ∧ JT b w' ∧ RT b w' k s ∧ (∀ j t, j ≠ k → RT b w j t → RT b w' j t) ∧ w.grownBy w' (some b) := by
  obtain ⟨D, n, h1, h2, h3, h4⟩ := h
  have hkb : -9223372036854775808 ≤ k ∧ k ≤ 9223372036854775807 := by omega
  obtain ⟨w', hrun, r1, r2⟩ := World.ownsMap.update h1 keyedK Tryz.underlying103 (by unfold maxLen; omega) (key := .int .i64 k) (keyOf_int_mk Tryz.underlying3 (WalkArith.wf_i64 hkb)) (plainElem_string Tryz.underlying9 hs)
  have ht := h3.put (keyN k) (.lit (.string s.data.toList))
  have hc := cnt_put h3 hk (.lit (.string s.data.toList))
  refine ⟨w', hrun, ⟨_, cntT (D.put (.int .i64 k) (.lit (.string s.data.toList))), ?_, cnt_le _, ht, rfl⟩, ⟨_, _, r1, atKey_put_same h3.isMap (keyN k) _ _⟩, ?_, r2⟩
  · by_cases hh : has D (.int .i64 k) = true
    · have hsz := size_put h3 (k := .int .i64 k) (.lit (.string s.data.toList))
      have hDn := World.ownsMap.size_le h1
      have h5 := own_size r1
      rw [hsz, if_pos hh] at h5
      rw [hc, if_pos hh]
      exact h5.mono (by omega)
    · rw [hc, if_neg hh, ← h4]
      exact r1
  · rintro j t hne ⟨D', n', q1, q2⟩
    obtain rfl := own_same h1 q1
    exact ⟨_, _, r1, by rw [atKey_put_other (by simp; exact hne)]; exact q2⟩
/-- What an entry does, as a function of the world. -/
theorem put_fun (b : Nat) {k : Int} (hk : k = 1 ∨ k = 2 ∨ k = 3 ∨ k = 4) {s : ByteArray} (hs : s.size ≤ maxLen) :
    ∃ F : World → World, ∀ w, JT b w → ((Instr.mapUpdate 103 (.map (some b)) (.int .i64 k) (.string s)).run Tryz.prog w = .ok () (F w) ∧ JT b (F w) ∧ RT b (F w) k s ∧ (∀ j t, j ≠ k → RT b w j t → RT b (F w) j t) ∧ w.grownBy (F w) (some b)) :=
  Classical.axiomOfChoice (r := fun w w' => JT b w → ((Instr.mapUpdate 103 (.map (some b)) (.int .i64 k) (.string s)).run Tryz.prog w = .ok () w' ∧ JT b w' ∧ RT b w' k s ∧ (∀ j t, j ≠ k → RT b w j t → RT b w' j t) ∧ w.grownBy w' (some b))) (fun w => by
    by_cases h : JT b w
    · obtain ⟨w', hw⟩ := put_all h hk hs
      exact ⟨w', fun _ => hw⟩
    · exact ⟨w, fun h' => absurd h' h⟩)
/-- A look-up, as a function of the world. -/
theorem look_fun (b : Nat) (k : Int) (hk : -9223372036854775808 ≤ k ∧ k ≤ 9223372036854775807) :
    ∃ G : World → ByteArray, ∀ w, JT b w → (Instr.lookup 103 (.map (some b)) (.int .i64 k) false).run Tryz.prog w = .ok (.string (G w)) w :=
  Classical.axiomOfChoice (r := fun w s => JT b w → (Instr.lookup 103 (.map (some b)) (.int .i64 k) false).run Tryz.prog w = .ok (.string s) w) (fun w => by
    by_cases h : JT b w
    · obtain ⟨D, n, hown, _⟩ := h
      obtain ⟨v, ps, hrun, hv⟩ := World.ownsMap.lookup hown keyedK Tryz.underlying103 (zeroS w) (plainElem_string Tryz.underlying9 (s := ⟨#[]⟩) (by decide)) (key := .int .i64 k) (keyOf_int_mk Tryz.underlying3 (WalkArith.wf_i64 hk))
      obtain ⟨s', rfl, _⟩ := plainElem_str_inv Tryz.underlying9 hv
      exact ⟨s', fun _ => hrun⟩
    · exact ⟨⟨#[]⟩, fun h' => absurd h' h⟩)
theorem look_all {b : Nat} {w : World} {k : Int} {s : ByteArray} (h : RT b w k s) (hk : -9223372036854775808 ≤ k ∧ k ≤ 9223372036854775807) :
    (Instr.lookup 103 (.map (some b)) (.int .i64 k) false).run Tryz.prog w = .ok (.string s) w := by
  obtain ⟨D, n, hown, hat⟩ := h
  obtain ⟨v, ps, hrun, hv⟩ := World.ownsMap.lookup hown keyedK Tryz.underlying103 (zeroS w) (plainElem_string Tryz.underlying9 (s := ⟨#[]⟩) (by decide)) (key := .int .i64 k) (keyOf_int_mk Tryz.underlying3 (WalkArith.wf_i64 hk))
  have e0 : (⟨#[]⟩ : ByteArray).data.toList = [] := rfl
  rw [e0, hat] at hv
  obtain ⟨s', rfl, hs'⟩ := plainElem_str_inv Tryz.underlying9 hv
  obtain rfl : s = s' := by
    simp only [Prod.mk.injEq, DataW.lit.injEq, Lit.string.injEq] at hs'
    exact bs_ext hs'.1
  exact hrun

theorem rvary_int (n : Int) (w : World) (h0 : 0 ≤ n) (h1 : n ≤ 18446744073709551615) :
    Calls Tryz.prog 16 #[.int .u64 n] w fun e w' => e = .returned (.string ⟨(putL n.toNat).toArray⟩) ∧ Below w.heap.size w w' := by
  obtain ⟨m, rfl⟩ := Int.eq_ofNat_of_zero_le h0
  rw [Int.toNat_natCast]
  exact rvary_any m w (by omega)

/-- A write's tail is what the map has at its kind. -/
theorem tail_at {T R K : Int} {key val : ByteArray} {N : Int} (h : wriE T R K key val N = 0) :
    (K = 1 ∧ tailB K val N = spanB val) ∨ (K = 2 ∧ tailB K val N = ⟨#[]⟩) ∨ (K = 3 ∧ tailB K val N = ⟨(putL (zigN N).toNat).toArray⟩) ∨ (K = 4 ∧ tailB K val N = ⟨(putL (max 0 N).toNat).toArray⟩ ++ spanB val) := by
  obtain ⟨g1, _, _, _, _, g6⟩ := wriE_good h
  unfold tailB
  have hc : K = 1 ∨ K = 2 ∨ K = 3 ∨ K = 4 := by omega
  rcases hc with rfl | rfl | rfl | rfl
  · exact .inl ⟨rfl, bs_ext (by rw [app_data]; rfl)⟩
  · exact .inr (.inl ⟨rfl, bs_ext (by rw [app_data]; rfl)⟩)
  · refine .inr (.inr (.inl ⟨rfl, bs_ext ?_⟩))
    rw [app_data]
    unfold numB valB
    rw [if_pos rfl, if_neg (by decide)]
    exact List.append_nil _
  · refine .inr (.inr (.inr ⟨rfl, ?_⟩))
    have h0 : 0 ≤ N := by
      unfold fitsN at g6
      rw [if_neg (by decide), if_pos rfl] at g6
      simp at g6; exact g6.1
    unfold numB valB
    rw [if_neg (by decide), if_pos rfl, if_pos (by decide), Int.max_eq_right h0]

theorem tail_one {b : Nat} {W : World} {K : Int} {t S P3 Q : ByteArray} (h1 : RT b W 1 S) (h2 : RT b W 2 ⟨#[]⟩) (h3 : RT b W 3 P3) (h4 : RT b W 4 Q)
    (hc : (K = 1 ∧ t = S) ∨ (K = 2 ∧ t = ⟨#[]⟩) ∨ (K = 3 ∧ t = P3) ∨ (K = 4 ∧ t = Q)) : RT b W K t := by
  rcases hc with ⟨rfl, rfl⟩ | ⟨rfl, rfl⟩ | ⟨rfl, rfl⟩ | ⟨rfl, rfl⟩
  · exact h1
  · exact h2
  · exact h3
  · exact h4

def textR (r : ByteArray × Nat) : Value := .tuple #[.string r.1, .int .i64 (r.2 : Nat)]

end Go.Proofs.YtkafhlpnhgipeaaGreatDoor
/-
  A region that draws its order, by a law over the set of the operations that have come up.
-/
namespace Go.Proofs.YtkafhlpnhgipeaaGreatDoor
open Go

theorem count_down {L : Array Bool} {i : Nat} (h : L.getD i true = false) : (L.setIfInBounds i true).toList.count false + 1 ≤ L.toList.count false ∧ i < L.size := by
  have hi : i < L.size := by
    rcases Nat.lt_or_ge i L.size with h' | h'
    · exact h'
    · simp [Array.getElem?_eq_none h'] at h
  have hv : L.toList[i]'(by simpa using hi) = false := by
    simp [hi] at h
    simpa using h
  refine ⟨?_, hi⟩
  rw [Array.toList_setIfInBounds, List.count_set (by simpa using hi), hv]
  have hpos : 0 < L.toList.count false := List.count_pos_iff.2 (by rw [← hv]; exact List.getElem_mem _)
  simp only [beq_self_eq_true, if_true]
  have : (true == false) = false := rfl
  rw [this]
  simp only [Bool.false_eq_true, if_false]
  omega

section
variable {P : Program} {ops : Array Oper} {Q : Exit → Act → World → Prop} {md : Region.Mode}

theorem ready_none {L : Array Bool} (hs : L.size = ops.size) (hb : ∀ (i : Nat) (o : Oper), ops[i]? = some o → ∀ e ∈ o.after, e.on < i) (h : Region.ready md ops L = []) : ∀ i, i < ops.size → L.getD i false = true := by
  intro i
  induction i using Nat.strongRecOn with
  | _ i ih =>
    intro hi
    cases hc : L.getD i false with
    | true => rfl
    | false =>
      have hm : i ∈ Region.ready md ops L := mem_ready.2 ⟨by
        have hL : i < L.size := by omega
        simp [hL] at hc ⊢; exact hc, ops[i], by simp [hi], fun e he _ => by
        have := hb i ops[i] (by simp [hi]) e he
        exact ih e.on this (by omega)⟩
      rw [h] at hm
      cases hm

theorem wpAny_law (J : Array Bool → Act → World → Prop) (hb : ∀ (i : Nat) (o : Oper), ops[i]? = some o → ∀ e ∈ o.after, e.on < i)
    (hstep : ∀ (i : Nat) (o : Oper), ops[i]? = some o → ∀ (L : Array Bool) (a : Act) (W : World), L.size = ops.size → (∀ e ∈ o.after, Region.binds md e = true → L.getD e.on false = true) → L.getD i true = false → J L a W → wpOp P ops Q i (J (L.setIfInBounds i true)) a W)
    (hend : ∀ (L : Array Bool) (a : Act) (W : World), (∀ i, i < ops.size → L.getD i false = true) → J L a W → Q .normal a W) :
    ∀ (fuel : Nat) (L : Array Bool) (a : Act) (W : World), L.size = ops.size → L.toList.count false ≤ fuel → J L a W → wpAny P md ops Q fuel L a W := by
  intro fuel
  induction fuel with
  | zero =>
    intro L a W hs hc hJ
    have hall : ∀ i, i < ops.size → L.getD i false = true := fun i hi => by
      have hL : i < L.size := by omega
      have h0 : L.toList.count false = 0 := by omega
      have hn := List.count_eq_zero.1 h0
      have : L[i] = true := by
        cases hv : L[i] with
        | true => rfl
        | false => exact absurd (by rw [← hv]; simp) hn
      simp [hL, this]
    refine ⟨?_, hend L a W hall hJ⟩
    cases hr : Region.ready md ops L with
    | nil => rfl
    | cons j r =>
      have hj : j ∈ Region.ready md ops L := by rw [hr]; simp
      obtain ⟨h1, _⟩ := mem_ready.1 hj
      obtain ⟨h2, h3⟩ := count_down h1
      omega
  | succ fuel ih =>
    intro L a W hs hc hJ
    refine ⟨fun hr => hend L a W (ready_none hs hb hr) hJ, fun i hi => ?_⟩
    obtain ⟨hun, o, hoi, hall⟩ := mem_ready.1 hi
    obtain ⟨h2, h3⟩ := count_down hun
    exact wpOp_mono (fun a' W' hJ' => ih _ a' W' (by simpa using hs) (by omega) hJ') (hstep i o hoi L a W hs hall hun hJ)

def backB (ops : Array Oper) : Bool := (List.range ops.size).all fun i => match ops[i]? with | some o => o.after.all (fun e => decide (e.on < i)) | none => true
theorem of_backB (h : backB ops = true) : ∀ (i : Nat) (o : Oper), ops[i]? = some o → ∀ e ∈ o.after, e.on < i := by
  intro i o hi e he
  have hlt : i < ops.size := (Array.getElem?_eq_some_iff.1 hi).1
  have h1 := List.all_eq_true.1 h i (by simpa using hlt)
  rw [hi] at h1
  have h2 := Array.all_eq_true'.1 h1 e he
  simpa using h2
theorem none_yet (n j : Nat) : (Array.replicate n false).getD j false = false := by
  by_cases h : j < n <;> simp [h]

theorem getD_put {L : Array Bool} {i j : Nat} (h : (L.setIfInBounds i true).getD j false = true) : j = i ∨ L.getD j false = true := by
  by_cases hij : i = j
  · exact .inl hij.symm
  · right
    simpa [Array.getElem?_setIfInBounds, hij] using h
theorem getD_keep {L : Array Bool} {i j : Nat} (h : L.getD j false = true) : (L.setIfInBounds i true).getD j false = true := by
  by_cases hij : i = j
  · subst hij
    have : i < L.size := by
      rcases Nat.lt_or_ge i L.size with h' | h'
      · exact h'
      · simp [Array.getElem?_eq_none h'] at h
    simp [this]
  · simpa [Array.getElem?_setIfInBounds, hij] using h
end
end Go.Proofs.YtkafhlpnhgipeaaGreatDoor
/-
  The document's Tail: the law of its region that draws.
-/
namespace Go.Proofs.YtkafhlpnhgipeaaGreatDoor
open Go.RowKit Go.Maps

/-- What is known of a slot once its operation has come up. -/
def FT (p m : Nat) (S P3 P4 t : ByteArray) (N X K : Int) (L : Array Bool) (x : Nat → Value) (b : Nat) (W : World) : Nat → Prop
  | 0 => x 18 = .map (some b) ∧ JT b W ∧ m ≤ b
  | 1 => x 19 = .string S
  | 2 => L.getD 0 false = true ∧ RT b W 1 S
  | 3 => L.getD 0 false = true ∧ RT b W 2 ⟨#[]⟩
  | 4 => x 20 = .pointer (some ⟨p, 5, none⟩)
  | 5 => x 21 = .int .i64 N
  | 6 => x 22 = .int .u64 (zigN N)
  | 7 => x 23 = .string P3
  | 8 => L.getD 0 false = true ∧ RT b W 3 P3
  | 9 => x 24 = .pointer (some ⟨p, 5, none⟩)
  | 10 => x 25 = .int .i64 N
  | 11 => x 26 = .int .i64 X
  | 12 => x 27 = .int .u64 X
  | 13 => x 28 = .string P4
  | 14 => x 29 = .string S
  | 15 => x 30 = .string (P4 ++ S)
  | 16 => L.getD 0 false = true ∧ RT b W 4 (P4 ++ S)
  | 17 => x 31 = .map (some b) ∧ ∀ j, j < 17 → L.getD j false = true
  | 18 => x 32 = .pointer (some ⟨p, 2, none⟩)
  | 19 => x 33 = .int .i64 K
  | 20 => x 34 = .string t
  | 21 => x 2 = .string t
  | 22 => x 3 = .int .i64 0
  | _ => True
def slotF : Nat → Nat
  | 0 => 18
  | 1 => 19
  | 4 => 20
  | 5 => 21
  | 6 => 22
  | 7 => 23
  | 9 => 24
  | 10 => 25
  | 11 => 26
  | 12 => 27
  | 13 => 28
  | 14 => 29
  | 15 => 30
  | 17 => 31
  | 18 => 32
  | 19 => 33
  | 20 => 34
  | 21 => 2
  | 22 => 3
  | _ => 0
def keyF : Nat → Int
  | 2 => 1
  | 3 => 2
  | 8 => 3
  | 16 => 4
  | _ => 0
def FR (x : Nat → Value) : Act := ⟨#[x 0, x 1, x 2, x 3, x 4, x 5, x 6, x 7, x 8, x 9, x 10, x 11, x 12, x 13, x 14, x 15, x 16, x 17, x 18, x 19, x 20, x 21, x 22, x 23, x 24, x 25, x 26, x 27, x 28, x 29, x 30, x 31, x 32, x 33, x 34], []⟩
def upd (x : Nat → Value) (d : Nat) (v : Value) : Nat → Value := fun k => if k = d then v else x k
def JR (w2 : World) (p : Nat) (S P3 P4 t : ByteArray) (N X K : Int) (L : Array Bool) (a : Act) (W : World) : Prop :=
  ∃ (x : Nat → Value) (b : Nat), a = FR x ∧ x 1 = .pointer (some ⟨p, 0, none⟩) ∧ x 5 = .string S ∧ Below w2.heap.size w2 W ∧ ∀ j, L.getD j false = true → FT p w2.heap.size S P3 P4 t N X K L x b W j

section
variable {p m : Nat} {S P3 P4 t : ByteArray} {N X K : Int} {L L' : Array Bool} {x x' : Nat → Value} {b b' : Nat} {W W' : World} {w2 : World}

theorem FT.move {j : Nat} (h : FT p m S P3 P4 t N X K L x b W j) (hx : x' (slotF j) = x (slotF j)) (hJ : JT b W → JT b W') (hW : ∀ s, RT b W (keyF j) s → RT b W' (keyF j) s)
    (hL : ∀ j, L.getD j false = true → L'.getD j false = true) : FT p m S P3 P4 t N X K L' x' b W' j := by
  unfold FT at h ⊢
  split at h
  · exact ⟨hx.trans h.1, hJ h.2.1, h.2.2⟩
  · exact hx.trans h
  · exact ⟨hL 0 h.1, hW _ h.2⟩
  · exact ⟨hL 0 h.1, hW _ h.2⟩
  · exact hx.trans h
  · exact hx.trans h
  · exact hx.trans h
  · exact hx.trans h
  · exact ⟨hL 0 h.1, hW _ h.2⟩
  · exact hx.trans h
  · exact hx.trans h
  · exact hx.trans h
  · exact hx.trans h
  · exact hx.trans h
  · exact hx.trans h
  · exact hx.trans h
  · exact ⟨hL 0 h.1, hW _ h.2⟩
  · exact ⟨hx.trans h.1, fun j hj => hL j (h.2 j hj)⟩
  · exact hx.trans h
  · exact hx.trans h
  · exact hx.trans h
  · exact hx.trans h
  · exact hx.trans h
  · trivial

theorem FT.made {j : Nat} (h : FT p m S P3 P4 t N X K L x b W j) (h0 : L.getD 0 false = false) (hj : j ≠ 0) (hx : x' (slotF j) = x (slotF j)) : FT p m S P3 P4 t N X K L' x' b' W' j := by
  unfold FT at h ⊢
  split at h
  · exact absurd rfl hj
  · exact hx.trans h
  · rw [h0] at h; exact absurd h.1 (by decide)
  · rw [h0] at h; exact absurd h.1 (by decide)
  · exact hx.trans h
  · exact hx.trans h
  · exact hx.trans h
  · exact hx.trans h
  · rw [h0] at h; exact absurd h.1 (by decide)
  · exact hx.trans h
  · exact hx.trans h
  · exact hx.trans h
  · exact hx.trans h
  · exact hx.trans h
  · exact hx.trans h
  · exact hx.trans h
  · rw [h0] at h; exact absurd h.1 (by decide)
  · have := h.2 0 (by decide); rw [h0] at this; exact absurd this (by decide)
  · exact hx.trans h
  · exact hx.trans h
  · exact hx.trans h
  · exact hx.trans h
  · exact hx.trans h
  · trivial

theorem JR.next {i : Nat} {a' : Act} (ha : a' = FR x') (hF : ∀ j, L.getD j false = true → FT p w2.heap.size S P3 P4 t N X K L x b W j) (hB : Below w2.heap.size w2 W') (h1 : x' 1 = .pointer (some ⟨p, 0, none⟩)) (h5 : x' 5 = .string S)
    (hi : FT p w2.heap.size S P3 P4 t N X K (L.setIfInBounds i true) x' b' W' i) (hm : ∀ j, j ≠ i → FT p w2.heap.size S P3 P4 t N X K L x b W j → FT p w2.heap.size S P3 P4 t N X K (L.setIfInBounds i true) x' b' W' j) :
    JR w2 p S P3 P4 t N X K (L.setIfInBounds i true) a' W' :=
  ⟨x', b', ha, h1, h5, hB, fun j hj => by
    by_cases e : j = i
    · subst e; exact hi
    · exact hm j e (hF j ((getD_put hj).resolve_left e))⟩
/-- An operation that writes slot d and nothing else. -/
theorem JR.slot {i : Nat} {a' : Act} (d : Nat) (v : Value) (ha : a' = FR (upd x d v)) (hF : ∀ j, L.getD j false = true → FT p w2.heap.size S P3 P4 t N X K L x b W j) (hB : Below w2.heap.size w2 W') (h1 : x 1 = .pointer (some ⟨p, 0, none⟩)) (h5 : x 5 = .string S)
    (hJ : JT b W → JT b W') (hW : ∀ k s, RT b W k s → RT b W' k s) (hd : d ≠ 1 ∧ d ≠ 5) (hds : ∀ j, j ≠ i → slotF j ≠ d)
    (hi : FT p w2.heap.size S P3 P4 t N X K (L.setIfInBounds i true) (upd x d v) b W' i) : JR w2 p S P3 P4 t N X K (L.setIfInBounds i true) a' W' :=
  JR.next ha hF hB (by unfold upd; rw [if_neg (Ne.symm hd.1)]; exact h1) (by unfold upd; rw [if_neg (Ne.symm hd.2)]; exact h5) hi
    (fun j hj h => h.move (by unfold upd; rw [if_neg (hds j hj)]) hJ (fun s => hW _ s) (fun _ h => getD_keep h))
/-- An entry. -/
theorem JR.entry {i : Nat} {a' : Act} {k : Int} (ha : a' = FR x) (hF : ∀ j, L.getD j false = true → FT p w2.heap.size S P3 P4 t N X K L x b W j) (hB : Below w2.heap.size w2 W') (h1 : x 1 = .pointer (some ⟨p, 0, none⟩)) (h5 : x 5 = .string S)
    (hJ : JT b W → JT b W') (hW : ∀ j s, j ≠ k → RT b W j s → RT b W' j s) (hk : ∀ j, j ≠ i → keyF j ≠ k)
    (hi : FT p w2.heap.size S P3 P4 t N X K (L.setIfInBounds i true) x b W' i) : JR w2 p S P3 P4 t N X K (L.setIfInBounds i true) a' W' :=
  JR.next ha hF hB h1 h5 hi (fun j hj h => h.move rfl hJ (fun s => hW _ s (hk j hj)) (fun _ h => getD_keep h))
theorem getD_no {i : Nat} (h : L.getD i true = false) : L.getD i false = false := by
  have hi := (count_down h).2
  simp [hi] at h ⊢
  exact h
theorem upd_at (x : Nat → Value) (d : Nat) (v : Value) : upd x d v d = v := by simp [upd]
end

end Go.Proofs.YtkafhlpnhgipeaaGreatDoor
/-
  The contract of the document's Tail.
-/
namespace Go.Proofs.YtkafhlpnhgipeaaGreatDoor
open Go.RowKit Go.Maps

set_option maxRecDepth 100000 in
set_option maxHeartbeats 8000000 in
theorem rtail_any (T R K : Int) (key val : ByteArray) (N : Int) (w : World) (hk : key.size ≤ 140737488351232) (hv : val.size ≤ 140737488351232) (hN0 : -9223372036854775808 ≤ N) (hN1 : N ≤ 9223372036854775807) :
    Calls Tryz.prog 20 #[.agg #[.int .i64 T, .int .i64 R, .int .i64 K, .string key, .string val, .int .i64 N]] w fun e w' => e = .returned (textR (tailF T R K key val N)) ∧ Below w.heap.size w w' := by
  have HN0 := Lib.hid (wrAt_new w T R K key val N 46)
  obtain ⟨E, hE⟩ : ∃ E, wriE T R K key val N = E := ⟨_, rfl⟩
  have HE := Lib.hid hE
  clear hE
  go_enter Tryz.func20, Tryz.ntmps20
  go_wp2_with fail
  refine (rwright_any T R K key val N _ hk hv).mono ?_
  rintro r w1 ⟨rfl, hb1⟩
  rw [HE.out]
  have HA1 := Lib.hid (HN0.out.below hb1 (by simp))
  have HB1 := Lib.hid (((Below.refl _ _).alloc (Nat.le_refl _) _).trans (hb1.mono (by simp)))
  have HL1 : Hid (w.heap.size < w1.heap.size) := Lib.hid (by have := hb1.size; simp at this; exact this)
  clear hb1
  by_cases h0 : E = 0
  · subst h0
    have HT := Lib.hid (tailF_ok HE.out)
    obtain ⟨c0, c1, c2, c3, c4, c5⟩ := HA1.out
    have hvl := (wriE_good HE.out).2.2.2.1
    rw [show ((0 : Nat) : Int) = 0 from rfl]
    go_wp2_with fail
    refine (rspan_ok val w1 (Nat.le_trans hvl (by decide))).mono ?_
    rintro r w2 ⟨rfl, hb2⟩
    have HA2 := Lib.hid (HA1.out.below hb2 HL1.out)
    have HB2 := Lib.hid (HB1.out.trans (hb2.mono HB1.out.size))
    have HL2 : Hid (w.heap.size < w2.heap.size) := Lib.hid (Nat.lt_of_lt_of_le HL1.out hb2.size)
    clear hb2 c0 c1 c2 c3 c4 c5
    go_wp2
    have HKB : Hid (-9223372036854775808 ≤ K ∧ K ≤ 9223372036854775807) := Lib.hid (by show _ ∧ _; have := (wriE_good HE.out).1; omega)
    have hSs : (spanB val).size ≤ 310 := spanB_le hvl
    have hz : 0 ≤ zigN N ∧ zigN N ≤ 18446744073709551615 := by unfold zigN; split <;> omega
    have hp3 : (⟨(putL (zigN N).toNat).toArray⟩ : ByteArray).size ≤ 10 := by rw [bs_size]; exact putL_le10 (by omega)
    have hp4 : (⟨(putL (max 0 N).toNat).toArray⟩ : ByteArray).size ≤ 10 := by rw [bs_size]; exact putL_le10 (by omega)
    have hmx : 0 ≤ max 0 N ∧ max 0 N ≤ 9223372036854775807 := by omega
    have hta := tail_at HE.out
    obtain ⟨S, hS⟩ : ∃ S, spanB val = S := ⟨_, rfl⟩
    obtain ⟨P3, hP3⟩ : ∃ P, (⟨(putL (zigN N).toNat).toArray⟩ : ByteArray) = P := ⟨_, rfl⟩
    obtain ⟨P4, hP4⟩ : ∃ P, (⟨(putL (max 0 N).toNat).toArray⟩ : ByteArray) = P := ⟨_, rfl⟩
    rw [hS, hP3, hP4] at hta
    have HAT := Lib.hid hta
    rw [hS] at hSs ⊢
    rw [hP3] at hp3
    rw [hP4] at hp4
    have HP3 := Lib.hid hP3
    have HP4 := Lib.hid hP4
    obtain ⟨X, hX⟩ : ∃ X, max 0 N = X := ⟨_, rfl⟩
    rw [hX] at hmx HP4
    have hwX : IntKind.u64.wrap X = X := IntWalk.u64_in X ⟨by omega, by omega⟩
    have hsum : P4.size + S.size ≤ 1000 := by omega
    have hadd : ¬ (9223372036854775807 < P4.size + S.size) := by omega
    have hm1 : S.size ≤ maxLen := by unfold maxLen; omega
    have hm3 : P3.size ≤ maxLen := by unfold maxLen; omega
    have hm4 : (P4 ++ S).size ≤ maxLen := by rw [app_size]; unfold maxLen; omega
    have hmm := @run_makeMap Tryz.prog
    clear hS hP3 hP4 hta
    obtain ⟨_, _, c2, _, _, c5⟩ := HA2.out
    have hMA : w.heap.size < w2.heap.size := HL2.out
    have H5 : Hid (∀ W, Below w2.heap.size w2 W → W.cell? ⟨w.heap.size, 5, none⟩ = some (.int .i64 N)) := Lib.hid fun W h => (h.cell hMA).trans c5
    have H2 : Hid (∀ W, Below w2.heap.size w2 W → W.cell? ⟨w.heap.size, 2, none⟩ = some (.int .i64 K)) := Lib.hid fun W h => (h.cell hMA).trans c2
    have HX := Lib.hid hX
    clear c2 c5 hMA hX
    refine wp_region_any (by kernel_rfl) ?_
    refine wpAny_law (JR w2 w.heap.size S P3 P4 (tailB K val N) N X K) ?hb ?hst ?hen _ _ _ _ (by kernel_rfl) (of_decide_eq_true (by kernel_rfl)) ?hin
    case hb => exact of_backB (by kernel_rfl)
    case hin => exact ⟨fun k => (#[.agg #[.int .i64 T, .int .i64 R, .int .i64 K, .string key, .string val, .int .i64 N], .pointer (some ⟨w.heap.size, 0, none⟩), .string ⟨#[]⟩, .int .i64 0, .int .i64 0, .string S, .int .i64 0, .agg #[.int .i64 T, .int .i64 R, .int .i64 K, .string key, .string val, .int .i64 N], .int .i64 0, .int .i64 0, .bool false, undef, .tuple #[.string S, .int .i64 0], .pointer (some ⟨w.heap.size, 4, none⟩), .string val, .tuple #[.string S, .int .i64 0], .string S, .int .i64 0] : Array Value).getD k undef, 0, rfl, rfl, rfl, (Below.refl _ _).drew, fun j hj => by rw [none_yet] at hj; cases hj⟩
    case hen =>
      intro L a W hall hJ
      obtain ⟨x, b, rfl, x1, x5, hB, hF⟩ := hJ
      have e21 : x 2 = .string (tailB K val N) := hF 21 (hall 21 (by decide))
      have e22 : x 3 = .int .i64 0 := hF 22 (hall 22 (by decide))
      clear hF hall
      unfold FR
      rw [e21, e22]
      go_wp2
      go_ret2
      rw [HT.out]
      exact ⟨rfl, HB2.out.trans (hB.mono (Nat.le_of_lt HL2.out))⟩
    case hst =>
      intro i o hi L a W hs haf hun hJ
      obtain ⟨x, b, rfl, x1, x5, hB, hF⟩ := hJ
      have hlt : i < 23 := (Array.getElem?_eq_some_iff.1 hi).1
      rcases (show i = 0 ∨ i = 1 ∨ i = 2 ∨ i = 3 ∨ i = 4 ∨ i = 5 ∨ i = 6 ∨ i = 7 ∨ i = 8 ∨ i = 9 ∨ i = 10 ∨ i = 11 ∨ i = 12 ∨ i = 13 ∨ i = 14 ∨ i = 15 ∨ i = 16 ∨ i = 17 ∨ i = 18 ∨ i = 19 ∨ i = 20 ∨ i = 21 ∨ i = 22 by omega) with rfl | rfl | rfl | rfl | rfl | rfl | rfl | rfl | rfl | rfl | rfl | rfl | rfl | rfl | rfl | rfl | rfl | rfl | rfl | rfl | rfl | rfl | rfl
      · obtain rfl := Option.some.inj hi
        have HF := Lib.hid hF
        have HBW := Lib.hid hB
        have hn0 := Lib.hid (getD_no hun)
        clear hi hF hB haf hun hs hlt
        refine wpOp_step rfl ?_
        intro K' hK'
        unfold FR
        go_simp
        refine hK' _ _ ?_
        exact JR.next (x' := upd x 18 (.map (some W.heap.size))) (by simp [FR, upd, x1, x5]) HF.out (HBW.out.alloc HBW.out.size _) (by simp [upd, x1]) (by simp [upd, x5]) ⟨upd_at _ _ _, JT.made W, HBW.out.size⟩ (fun j hj h => h.made hn0.out hj (by unfold upd; rw [if_neg (by revert hj; unfold slotF; split <;> first | (intro _; decide) | (intro hj; exact absurd rfl hj))]))
      · obtain rfl := Option.some.inj hi
        have HF := Lib.hid hF
        have HBW := Lib.hid hB
        clear hi hF hB haf hun hs hlt
        refine wpOp_step rfl ?_
        intro K' hK'
        unfold FR
        go_simp
        refine hK' _ _ ?_
        exact JR.slot 19 (.string S) (by simp [FR, upd, x1, x5]) HF.out HBW.out x1 x5 id (fun _ _ h => h) (by decide) (by intro j hj; unfold slotF; split <;> first | decide | exact absurd rfl hj) (upd_at _ _ _)
      · obtain rfl := Option.some.inj hi
        have q0 : L.getD 0 false = true := haf ⟨0, .data⟩ (by simp) rfl
        obtain ⟨e18, eJ, eb⟩ : x 18 = .map (some b) ∧ JT b W ∧ w2.heap.size ≤ b := hF 0 q0
        have q1 : L.getD 1 false = true := haf ⟨1, .data⟩ (by simp) rfl
        have e19 : x 19 = .string S := hF 1 q1
        obtain ⟨W', hrun, rJ, rR, rO, rG⟩ := put_all eJ (k := 1) (.inl rfl) hm1
        have HF := Lib.hid hF
        have HBW := Lib.hid hB
        clear hi hF hB haf hun hs hlt
        refine wpOp_step rfl ?_
        intro K' hK'
        unfold FR
        go_simp
        refine hK' _ _ ?_
        exact JR.entry (k := 1) (by simp [FR, x1, x5, e18, e19]) HF.out (HBW.out.grown rG HBW.out.size (fun g hg => by cases hg; exact eb)) x1 x5 (fun _ => rJ) rO (by intro j hj; unfold keyF; split <;> first | decide | exact absurd rfl hj) ⟨getD_keep q0, rR⟩
      · obtain rfl := Option.some.inj hi
        have q0 : L.getD 0 false = true := haf ⟨0, .data⟩ (by simp) rfl
        obtain ⟨e18, eJ, eb⟩ : x 18 = .map (some b) ∧ JT b W ∧ w2.heap.size ≤ b := hF 0 q0
        obtain ⟨W', hrun, rJ, rR, rO, rG⟩ := put_all eJ (k := 2) (.inr (.inl rfl)) (s := ⟨#[]⟩) (Nat.zero_le _)
        have HF := Lib.hid hF
        have HBW := Lib.hid hB
        clear hi hF hB haf hun hs hlt
        refine wpOp_step rfl ?_
        intro K' hK'
        unfold FR
        go_simp
        refine hK' _ _ ?_
        exact JR.entry (k := 2) (by simp [FR, x1, x5, e18]) HF.out (HBW.out.grown rG HBW.out.size (fun g hg => by cases hg; exact eb)) x1 x5 (fun _ => rJ) rO (by intro j hj; unfold keyF; split <;> first | decide | exact absurd rfl hj) ⟨getD_keep q0, rR⟩
      · obtain rfl := Option.some.inj hi
        have HF := Lib.hid hF
        have HBW := Lib.hid hB
        clear hi hF hB haf hun hs hlt
        refine wpOp_step rfl ?_
        intro K' hK'
        unfold FR
        go_simp
        refine hK' _ _ ?_
        exact JR.slot 20 (.pointer (some ⟨w.heap.size, 5, none⟩)) (by simp [FR, upd, x1, x5]) HF.out HBW.out x1 x5 id (fun _ _ h => h) (by decide) (by intro j hj; unfold slotF; split <;> first | decide | exact absurd rfl hj) (upd_at _ _ _)
      · obtain rfl := Option.some.inj hi
        have q4 : L.getD 4 false = true := haf ⟨4, .data⟩ (by simp) rfl
        have e20 : x 20 = .pointer (some ⟨w.heap.size, 5, none⟩) := hF 4 q4
        have hc := H5.out W hB
        have HF := Lib.hid hF
        have HBW := Lib.hid hB
        clear hi hF hB haf hun hs hlt
        refine wpOp_step rfl ?_
        intro K' hK'
        unfold FR
        go_simp
        refine hK' _ _ ?_
        exact JR.slot 21 (.int .i64 N) (by simp [FR, upd, x1, x5, e20]) HF.out HBW.out x1 x5 id (fun _ _ h => h) (by decide) (by intro j hj; unfold slotF; split <;> first | decide | exact absurd rfl hj) (upd_at _ _ _)
      · obtain rfl := Option.some.inj hi
        have q5 : L.getD 5 false = true := haf ⟨5, .data⟩ (by simp) rfl
        have e21 : x 21 = .int .i64 N := hF 5 q5
        have HF := Lib.hid hF
        have HBW := Lib.hid hB
        clear hi hF hB haf hun hs hlt
        refine wpOp_step rfl ?_
        intro K' hK'
        unfold FR
        go_simp
        refine (zigr_any N _ hN0 hN1).mono ?_
        rintro r W' ⟨rfl, rfl⟩
        refine hK' _ _ ?_
        exact JR.slot 22 (.int .u64 (zigN N)) (by simp [FR, upd, x1, x5, e21]) HF.out HBW.out x1 x5 id (fun _ _ h => h) (by decide) (by intro j hj; unfold slotF; split <;> first | decide | exact absurd rfl hj) (upd_at _ _ _)
      · obtain rfl := Option.some.inj hi
        have q6 : L.getD 6 false = true := haf ⟨6, .data⟩ (by simp) rfl
        have e22 : x 22 = .int .u64 (zigN N) := hF 6 q6
        have HF := Lib.hid hF
        have HBW := Lib.hid hB
        clear hi hF hB haf hun hs hlt
        refine wpOp_step rfl ?_
        intro K' hK'
        unfold FR
        go_simp
        refine (rvary_int (zigN N) _ hz.1 hz.2).mono ?_
        rintro r W' ⟨rfl, hb⟩
        rw [HP3.out]
        refine hK' _ _ ?_
        exact JR.slot 23 (.string P3) (by simp [FR, upd, x1, x5, e22]) HF.out (HBW.out.trans (hb.mono HBW.out.size)) x1 x5 (fun h => h.below hb) (fun _ _ h => h.below hb) (by decide) (by intro j hj; unfold slotF; split <;> first | decide | exact absurd rfl hj) (upd_at _ _ _)
      · obtain rfl := Option.some.inj hi
        have q0 : L.getD 0 false = true := haf ⟨0, .data⟩ (by simp) rfl
        obtain ⟨e18, eJ, eb⟩ : x 18 = .map (some b) ∧ JT b W ∧ w2.heap.size ≤ b := hF 0 q0
        have q7 : L.getD 7 false = true := haf ⟨7, .data⟩ (by simp) rfl
        have e23 : x 23 = .string P3 := hF 7 q7
        obtain ⟨W', hrun, rJ, rR, rO, rG⟩ := put_all eJ (k := 3) (.inr (.inr (.inl rfl))) hm3
        have HF := Lib.hid hF
        have HBW := Lib.hid hB
        clear hi hF hB haf hun hs hlt
        refine wpOp_step rfl ?_
        intro K' hK'
        unfold FR
        go_simp
        refine hK' _ _ ?_
        exact JR.entry (k := 3) (by simp [FR, x1, x5, e18, e23]) HF.out (HBW.out.grown rG HBW.out.size (fun g hg => by cases hg; exact eb)) x1 x5 (fun _ => rJ) rO (by intro j hj; unfold keyF; split <;> first | decide | exact absurd rfl hj) ⟨getD_keep q0, rR⟩
      · obtain rfl := Option.some.inj hi
        have HF := Lib.hid hF
        have HBW := Lib.hid hB
        clear hi hF hB haf hun hs hlt
        refine wpOp_step rfl ?_
        intro K' hK'
        unfold FR
        go_simp
        refine hK' _ _ ?_
        exact JR.slot 24 (.pointer (some ⟨w.heap.size, 5, none⟩)) (by simp [FR, upd, x1, x5]) HF.out HBW.out x1 x5 id (fun _ _ h => h) (by decide) (by intro j hj; unfold slotF; split <;> first | decide | exact absurd rfl hj) (upd_at _ _ _)
      · obtain rfl := Option.some.inj hi
        have q9 : L.getD 9 false = true := haf ⟨9, .data⟩ (by simp) rfl
        have e24 : x 24 = .pointer (some ⟨w.heap.size, 5, none⟩) := hF 9 q9
        have hc := H5.out W hB
        have HF := Lib.hid hF
        have HBW := Lib.hid hB
        clear hi hF hB haf hun hs hlt
        refine wpOp_step rfl ?_
        intro K' hK'
        unfold FR
        go_simp
        refine hK' _ _ ?_
        exact JR.slot 25 (.int .i64 N) (by simp [FR, upd, x1, x5, e24]) HF.out HBW.out x1 x5 id (fun _ _ h => h) (by decide) (by intro j hj; unfold slotF; split <;> first | decide | exact absurd rfl hj) (upd_at _ _ _)
      · obtain rfl := Option.some.inj hi
        have q10 : L.getD 10 false = true := haf ⟨10, .data⟩ (by simp) rfl
        have e25 : x 25 = .int .i64 N := hF 10 q10
        have HF := Lib.hid hF
        have HBW := Lib.hid hB
        clear hi hF hB haf hun hs hlt
        refine wpOp_step rfl ?_
        intro K' hK'
        unfold FR
        go_simp
        rw [HX.out]
        refine hK' _ _ ?_
        exact JR.slot 26 (.int .i64 X) (by simp [FR, upd, x1, x5, e25]) HF.out HBW.out x1 x5 id (fun _ _ h => h) (by decide) (by intro j hj; unfold slotF; split <;> first | decide | exact absurd rfl hj) (upd_at _ _ _)
      · obtain rfl := Option.some.inj hi
        have q11 : L.getD 11 false = true := haf ⟨11, .data⟩ (by simp) rfl
        have e26 : x 26 = .int .i64 X := hF 11 q11
        have HF := Lib.hid hF
        have HBW := Lib.hid hB
        clear hi hF hB haf hun hs hlt
        refine wpOp_step rfl ?_
        intro K' hK'
        unfold FR
        go_simp
        refine hK' _ _ ?_
        exact JR.slot 27 (.int .u64 X) (by simp [FR, upd, x1, x5, e26]) HF.out HBW.out x1 x5 id (fun _ _ h => h) (by decide) (by intro j hj; unfold slotF; split <;> first | decide | exact absurd rfl hj) (upd_at _ _ _)
      · obtain rfl := Option.some.inj hi
        have q12 : L.getD 12 false = true := haf ⟨12, .data⟩ (by simp) rfl
        have e27 : x 27 = .int .u64 X := hF 12 q12
        have HF := Lib.hid hF
        have HBW := Lib.hid hB
        clear hi hF hB haf hun hs hlt
        refine wpOp_step rfl ?_
        intro K' hK'
        unfold FR
        go_simp
        refine (rvary_int X _ hmx.1 (Int.le_trans hmx.2 (by decide))).mono ?_
        rintro r W' ⟨rfl, hb⟩
        rw [HP4.out]
        refine hK' _ _ ?_
        exact JR.slot 28 (.string P4) (by simp [FR, upd, x1, x5, e27]) HF.out (HBW.out.trans (hb.mono HBW.out.size)) x1 x5 (fun h => h.below hb) (fun _ _ h => h.below hb) (by decide) (by intro j hj; unfold slotF; split <;> first | decide | exact absurd rfl hj) (upd_at _ _ _)
      · obtain rfl := Option.some.inj hi
        have HF := Lib.hid hF
        have HBW := Lib.hid hB
        clear hi hF hB haf hun hs hlt
        refine wpOp_step rfl ?_
        intro K' hK'
        unfold FR
        go_simp
        refine hK' _ _ ?_
        exact JR.slot 29 (.string S) (by simp [FR, upd, x1, x5]) HF.out HBW.out x1 x5 id (fun _ _ h => h) (by decide) (by intro j hj; unfold slotF; split <;> first | decide | exact absurd rfl hj) (upd_at _ _ _)
      · obtain rfl := Option.some.inj hi
        have q13 : L.getD 13 false = true := haf ⟨13, .data⟩ (by simp) rfl
        have e28 : x 28 = .string P4 := hF 13 q13
        have q14 : L.getD 14 false = true := haf ⟨14, .data⟩ (by simp) rfl
        have e29 : x 29 = .string S := hF 14 q14
        have HF := Lib.hid hF
        have HBW := Lib.hid hB
        clear hi hF hB haf hun hs hlt
        refine wpOp_step rfl ?_
        intro K' hK'
        unfold FR
        go_simp
        refine hK' _ _ ?_
        exact JR.slot 30 (.string (P4 ++ S)) (by simp [FR, upd, x1, x5, e28, e29]) HF.out HBW.out x1 x5 id (fun _ _ h => h) (by decide) (by intro j hj; unfold slotF; split <;> first | decide | exact absurd rfl hj) (upd_at _ _ _)
      · obtain rfl := Option.some.inj hi
        have q0 : L.getD 0 false = true := haf ⟨0, .data⟩ (by simp) rfl
        obtain ⟨e18, eJ, eb⟩ : x 18 = .map (some b) ∧ JT b W ∧ w2.heap.size ≤ b := hF 0 q0
        have q15 : L.getD 15 false = true := haf ⟨15, .data⟩ (by simp) rfl
        have e30 : x 30 = .string (P4 ++ S) := hF 15 q15
        obtain ⟨W', hrun, rJ, rR, rO, rG⟩ := put_all eJ (k := 4) (.inr (.inr (.inr rfl))) hm4
        have HF := Lib.hid hF
        have HBW := Lib.hid hB
        clear hi hF hB haf hun hs hlt
        refine wpOp_step rfl ?_
        intro K' hK'
        unfold FR
        go_simp
        refine hK' _ _ ?_
        exact JR.entry (k := 4) (by simp [FR, x1, x5, e18, e30]) HF.out (HBW.out.grown rG HBW.out.size (fun g hg => by cases hg; exact eb)) x1 x5 (fun _ => rJ) rO (by intro j hj; unfold keyF; split <;> first | decide | exact absurd rfl hj) ⟨getD_keep q0, rR⟩
      · obtain rfl := Option.some.inj hi
        have hall : ∀ j, j < 17 → L.getD j false = true := fun j hj => haf ⟨j, .data⟩ (by rcases (show j = 0 ∨ j = 1 ∨ j = 2 ∨ j = 3 ∨ j = 4 ∨ j = 5 ∨ j = 6 ∨ j = 7 ∨ j = 8 ∨ j = 9 ∨ j = 10 ∨ j = 11 ∨ j = 12 ∨ j = 13 ∨ j = 14 ∨ j = 15 ∨ j = 16 by omega) with rfl | rfl | rfl | rfl | rfl | rfl | rfl | rfl | rfl | rfl | rfl | rfl | rfl | rfl | rfl | rfl | rfl <;> simp) rfl
        have q0 : L.getD 0 false = true := haf ⟨0, .data⟩ (by simp) rfl
        obtain ⟨e18, eJ, eb⟩ : x 18 = .map (some b) ∧ JT b W ∧ w2.heap.size ≤ b := hF 0 q0
        have HF := Lib.hid hF
        have HBW := Lib.hid hB
        clear hi hF hB haf hun hs hlt
        refine wpOp_step rfl ?_
        intro K' hK'
        unfold FR
        go_simp
        refine hK' _ _ ?_
        exact JR.slot 31 (.map (some b)) (by simp [FR, upd, x1, x5, e18]) HF.out HBW.out x1 x5 id (fun _ _ h => h) (by decide) (by intro j hj; unfold slotF; split <;> first | decide | exact absurd rfl hj) ⟨upd_at _ _ _, fun j hj => getD_keep (hall j hj)⟩
      · obtain rfl := Option.some.inj hi
        have HF := Lib.hid hF
        have HBW := Lib.hid hB
        clear hi hF hB haf hun hs hlt
        refine wpOp_step rfl ?_
        intro K' hK'
        unfold FR
        go_simp
        refine hK' _ _ ?_
        exact JR.slot 32 (.pointer (some ⟨w.heap.size, 2, none⟩)) (by simp [FR, upd, x1, x5]) HF.out HBW.out x1 x5 id (fun _ _ h => h) (by decide) (by intro j hj; unfold slotF; split <;> first | decide | exact absurd rfl hj) (upd_at _ _ _)
      · obtain rfl := Option.some.inj hi
        have q18 : L.getD 18 false = true := haf ⟨18, .data⟩ (by simp) rfl
        have e32 : x 32 = .pointer (some ⟨w.heap.size, 2, none⟩) := hF 18 q18
        have hc := H2.out W hB
        have HF := Lib.hid hF
        have HBW := Lib.hid hB
        clear hi hF hB haf hun hs hlt
        refine wpOp_step rfl ?_
        intro K' hK'
        unfold FR
        go_simp
        refine hK' _ _ ?_
        exact JR.slot 33 (.int .i64 K) (by simp [FR, upd, x1, x5, e32]) HF.out HBW.out x1 x5 id (fun _ _ h => h) (by decide) (by intro j hj; unfold slotF; split <;> first | decide | exact absurd rfl hj) (upd_at _ _ _)
      · obtain rfl := Option.some.inj hi
        have q17 : L.getD 17 false = true := haf ⟨17, .data⟩ (by simp) rfl
        obtain ⟨e31, hall⟩ : x 31 = .map (some b) ∧ ∀ j, j < 17 → L.getD j false = true := hF 17 q17
        have q19 : L.getD 19 false = true := haf ⟨19, .data⟩ (by simp) rfl
        have e33 : x 33 = .int .i64 K := hF 19 q19
        have r1 : L.getD 0 false = true ∧ RT b W 1 S := hF 2 (hall 2 (by decide))
        have r2 : L.getD 0 false = true ∧ RT b W 2 ⟨#[]⟩ := hF 3 (hall 3 (by decide))
        have r3 : L.getD 0 false = true ∧ RT b W 3 P3 := hF 8 (hall 8 (by decide))
        have r4 : L.getD 0 false = true ∧ RT b W 4 (P4 ++ S) := hF 16 (hall 16 (by decide))
        have hrun := look_all (tail_one r1.2 r2.2 r3.2 r4.2 HAT.out) HKB.out
        have HF := Lib.hid hF
        have HBW := Lib.hid hB
        clear hi hF hB haf hun hs hlt
        refine wpOp_step rfl ?_
        intro K' hK'
        unfold FR
        go_simp
        refine hK' _ _ ?_
        exact JR.slot 34 (.string (tailB K val N)) (by simp [FR, upd, x1, x5, e31, e33]) HF.out HBW.out x1 x5 id (fun _ _ h => h) (by decide) (by intro j hj; unfold slotF; split <;> first | decide | exact absurd rfl hj) (upd_at _ _ _)
      · obtain rfl := Option.some.inj hi
        have q20 : L.getD 20 false = true := haf ⟨20, .data⟩ (by simp) rfl
        have e34 : x 34 = .string (tailB K val N) := hF 20 q20
        have HF := Lib.hid hF
        have HBW := Lib.hid hB
        clear hi hF hB haf hun hs hlt
        refine wpOp_step rfl ?_
        intro K' hK'
        unfold FR
        go_simp
        refine hK' _ _ ?_
        exact JR.slot 2 (.string (tailB K val N)) (by simp [FR, upd, x1, x5, e34]) HF.out HBW.out x1 x5 id (fun _ _ h => h) (by decide) (by intro j hj; unfold slotF; split <;> first | decide | exact absurd rfl hj) (upd_at _ _ _)
      · obtain rfl := Option.some.inj hi
        have HF := Lib.hid hF
        have HBW := Lib.hid hB
        clear hi hF hB haf hun hs hlt
        refine wpOp_step rfl ?_
        intro K' hK'
        unfold FR
        go_simp
        refine hK' _ _ ?_
        exact JR.slot 3 (.int .i64 0) (by simp [FR, upd, x1, x5]) HF.out HBW.out x1 x5 id (fun _ _ h => h) (by decide) (by intro j hj; unfold slotF; split <;> first | decide | exact absurd rfl hj) (upd_at _ _ _)
  · have hne : ((E : Int) != 0) = true := by simp; omega
    have HT := Lib.hid (tailF_bad (by rw [HE.out]; exact h0))
    go_wp2
    go_ret2
    rw [HT.out, HE.out]
    exact ⟨rfl, HB1.out⟩
end Go.Proofs.YtkafhlpnhgipeaaGreatDoor
/-
  Plain: how big a batch is, as the laws reckon.
-/
namespace Go.Proofs.YtkafhlpnhgipeaaGreatDoor
open Go.RowKit

def bigS : Int → List Wr → Int
  | x, [] => x
  | x, t :: r => bigS (IntKind.i64.wrap (x + IntKind.i64.wrap ((IntKind.i64.wrap ((t.key.size : Int) + (t.value.size : Int))).tdiv 8))) r
def bigV (lim : Int) (f h : List Ent) (l : List Wr) : Bool := decide (lim < bigS (IntKind.i64.wrap (IntKind.i64.wrap ((f.length : Int) + (h.length : Int)) + (l.length : Int))) l)
theorem bigS_drop {l : List Wr} {k : Nat} {t : Wr} (x : Int) (ht : l[k]? = some t) : bigS x (l.drop k) = bigS (IntKind.i64.wrap (x + IntKind.i64.wrap ((IntKind.i64.wrap ((t.key.size : Int) + (t.value.size : Int))).tdiv 8))) (l.drop (k + 1)) := by
  obtain ⟨hk, h⟩ := List.getElem?_eq_some_iff.1 ht
  rw [List.drop_eq_getElem_cons hk, h]; rfl
end Go.Proofs.YtkafhlpnhgipeaaGreatDoor
/-
  The contract of the laws' 'big' (keep) and 'held': it ends, and writes nothing.
-/
namespace Go.Proofs.YtkafhlpnhgipeaaGreatDoor
open Go.RowKit


theorem brightB (vf vh vw : Value) (f h : List Ent) (l : List Wr) (w : World) (hx : BatIs w vf vh vw f h l) (hg : errT w) :
    Calls Tryz.prog 51 #[.agg #[vf, vh, vw]] w (VRightIs w (batF f h l)) :=
  bright_any vf vh vw f h l w hx.1 hx.2.1 hx.2.2.1 hx.2.2.2.1 hx.2.2.2.2.1 hx.2.2.2.2.2.2 hg

end Go.Proofs.YtkafhlpnhgipeaaGreatDoor
