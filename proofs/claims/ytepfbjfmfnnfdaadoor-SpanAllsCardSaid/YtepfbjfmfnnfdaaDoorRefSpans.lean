/-
  The contract of the document's Spans: so many texts, one behind the other.
-/
import Derived.Test.YtepfbjfmfnnfdaaDoorRefSpan
import Derived.Test.YtepfbjfmfnnfdaaDoorSpanAll
import Derived.Test.YtepfbjfmfnnfdaaDoorStrs2
import Derived.Deep.RegionHeld3
import Derived.WalkSmall
namespace Go.Proofs.YtepfbjfmfnnfdaaDoor
open Go.RowKit

/-- What Spans answers. -/
def SpansIs (w : World) (r : List ByteArray × Nat × Nat × Int) (e : Ending) (w' : World) : Prop :=
  ∃ v, e = .returned (.tuple #[v, .int .i64 r.2.1, .agg #[.int .i64 r.2.2.1, .int .i64 r.2.2.2]]) ∧ ownsS w' w.heap.size v r.1 ∧ Below w.heap.size w w'

theorem ownsS.mono {w : World} {base base' : Nat} {v : Value} {l : List ByteArray} (h : ownsS w base v l) (hb : base' ≤ base) : ownsS w base' v l := by
  obtain ⟨h0, h1⟩ := h
  refine ⟨h0, ?_⟩
  rcases h1 with h1 | ⟨g, cap, cur, hv, hg, r⟩
  · exact .inl h1
  · exact .inr ⟨g, cap, cur, hv, Nat.le_trans hb hg, r⟩

theorem good_any (w : World) : Calls Tryd.prog 44 #[] w fun e w' => e = .returned (.agg #[.int .i64 0, .int .i64 (-1)]) ∧ Below w.heap.size w w' := by
  go_enter Tryd.func44, Tryd.ntmps44
  go_wp2
  refine bodyPost_ret (v := .agg #[.int .i64 0, .int .i64 (-1)]) (by simp [results, Tryd.results44, go_sem]) rfl ?_
  exact ⟨rfl, (Below.refl _ _).alloc (Nat.le_refl _) _⟩

set_option maxRecDepth 100000 in
set_option maxHeartbeats 4000000 in
theorem rspans_any (s : ByteArray) (n : Int) (w : World) (hs : s.size ≤ 1000000) (_n0 : -9223372036854775808 ≤ n) (n1 : n ≤ 9223372036854775807) :
    Calls Tryd.prog 33 #[.string s, .int .i64 n] w (SpansIs w (allF s.data.toList n.toNat 0 0 [])) := by
  go_enter Tryd.func33, Tryd.ntmps33
  go_wp2
  go_loopw [7, 8, 9] (fun v p c wr => ∃ (i q : Nat) (b : ByteArray) (acc : List ByteArray), c = .int .i64 i ∧ p = .string b ∧ b.data.toList = s.data.toList.drop q ∧ b.size + q = s.size ∧ (i : Int) ≤ max n 0 ∧ acc.length ≤ q ∧ allF s.data.toList n.toNat 0 0 [] = allF s.data.toList (n.toNat - i) i q acc ∧ ownsS wr (w.heap.size + 1) v acc ∧ Below (w.heap.size + 1) (w.alloc (.cells #[.int .i64 0, .int .i64 0] 59)) wr) (fun _ _ c _ => n.toNat - (intOf c).toNat)
  case atStart => exact ⟨0, 0, s, [], rfl, rfl, rfl, rfl, by omega, Nat.le_refl _, rfl, ownsS_nil _ _, Below.refl _ _⟩
  case round =>
    obtain ⟨i, q, b, acc, rfl, rfl, hbd, hbq, hi, hacc, heq, hown, hbel⟩ := hrel
    have HEQ := Lib.hid heq
    have HOWN := Lib.hid hown
    have HBEL := Lib.hid hbel
    have HBD := Lib.hid hbd
    have hbs : b.size ≤ s.size := by omega
    have c0 : wr.cell? ⟨w.heap.size, 0, none⟩ = some (.int .i64 0) := (hbel.cell (by exact Nat.lt_succ_self _)).trans (by simp)
    have c1 : wr.cell? ⟨w.heap.size, 1, none⟩ = some (.int .i64 0) := (hbel.cell (by exact Nat.lt_succ_self _)).trans (by simp)
    have f0 : wr.frozen? ⟨w.heap.size, 0, none⟩ = false := (hbel.frozen (by exact Nat.lt_succ_self _)).trans (by simp)
    have f1 : wr.frozen? ⟨w.heap.size, 1, none⟩ = false := (hbel.frozen (by exact Nat.lt_succ_self _)).trans (by simp)
    have hsz := hbel.size
    have HBQ := Lib.hid hbq
    rw [World.size_alloc] at hsz
    clear heq hown hbel hbd hbq
    by_cases hlt : (i : Int) < n
    · obtain ⟨t, k, e, hr⟩ : ∃ t k e, getS b.data.toList = (t, k, e) := ⟨_, _, _, rfl⟩
      obtain ⟨m, hm⟩ : ∃ m, n.toNat - i = m + 1 := ⟨n.toNat - i - 1, by omega⟩
      have HR : Hid (spanR (getS b.data.toList) = .tuple #[.string ⟨t.toArray⟩, .int .i64 k, .int .i64 e]) := by show spanR _ = _; rw [hr]; rfl
      have hr2 : getS (s.data.toList.drop q) = (t, k, e) := by rw [← HBD.out]; exact hr
      by_cases he : e = 0
      · subst he
        obtain ⟨k1, k2⟩ := getS_within hr
        rw [← size_data] at k2
        have HN : Hid (allF s.data.toList n.toNat 0 0 [] = allF s.data.toList (n.toNat - (i + 1)) (i + 1) (q + k) (acc ++ [⟨t.toArray⟩])) := by
          show allF _ _ _ _ _ = _
          rw [HEQ.out, hm, allF_ok hr2, show n.toNat - (i + 1) = m by omega]
        have HD : Hid ((b.extract k b.size).data.toList = s.data.toList.drop (q + k)) := by
          show _ = _
          rw [ext_data, List.take_of_length_le (by rw [← size_data]; exact Nat.le_refl _), HBD.out, List.drop_drop]
        have HSZ : Hid ((b.extract k b.size).size + (q + k) = s.size) := by
          show _ = _
          rw [ByteArray.size_extract]; have := HBQ.out; omega
        have d1 : (0 : Int) ≤ (k : Int) := by omega
        have d2 : (k : Int) ≤ (b.size : Int) := by omega
        have hac : acc.length + 1 ≤ 1000001 := by have := HBQ.out; omega
        clear hr hr2 hm HEQ c0 c1 f0 f1
        go_wp2_with fail
        refine (runspan_any b _ (by omega)).mono ?_
        rintro r w' ⟨rfl, rfl⟩
        rw [HR.out]
        go_wp2_with fail
        go_region_held3 (fun w' => True) (trivial) (first | (refine step_append_str _ rfl _ _ rfl (w.heap.size + 1) _ acc rfl (HOWN.out.alloc _) ⟨wr.heap.size, 0, none⟩ 1 rfl ⟨t.toArray⟩ (by simp [Addr.add]) (by omega) (by simp; omega) ?_; intro g cap w2 hown3 hg3))
        have hbel3 : Below (w.heap.size + 1) (w.alloc (.cells #[.int .i64 0, .int .i64 0] 59)) w2 := ((HBEL.out.alloc hsz _).drew).grown hg3 (by simp; omega) (fun g hg => (HOWN.out.lt g hg).1)
        have HO3 := Lib.hid hown3
        have HB3 := Lib.hid hbel3
        clear hg3 hown3 hbel3 HR HBEL HOWN
        go_wp2
        go_roundw
        case rel => exact ⟨i + 1, q + k, b.extract k b.size, acc ++ [⟨t.toArray⟩], by go_num, rfl, HD.out, HSZ.out, by omega, by simp; omega, HN.out, HO3.out, HB3.out⟩
        case measure => simp [intOf]; omega
      · have HN : Hid (allF s.data.toList n.toNat 0 0 [] = ([], 0, e, (i : Int))) := by
          show allF _ _ _ _ _ = _
          rw [HEQ.out, hm, allF_bad hr2 he]
        have hne : ((e : Int) != 0) = true := by simp; omega
        clear hr hr2 hm HEQ HOWN hacc
        go_wp2_with fail
        refine (runspan_any b _ (by omega)).mono ?_
        rintro r w' ⟨rfl, rfl⟩
        rw [HR.out]
        go_wp2
        refine bodyPost_ret (v := .tuple #[.slice none 0 0, .int .i64 0, .agg #[.int .i64 e, .int .i64 i]]) (by simp [results, Tryd.results33, go_sem, c0, c1]) rfl ?_
        rw [HN.out]
        exact ⟨_, rfl, ownsS_nil _ _, (((Below.refl _ _).alloc (Nat.le_refl _) _).trans ((HBEL.out.mono (Nat.le_succ _)).setCell (Nat.le_refl _) _)).setCell (Nat.le_refl _) _⟩
    · have hin : n.toNat - i = 0 := by omega
      have HN : Hid (allF s.data.toList n.toNat 0 0 [] = (acc, q, 0, -1)) := by
        show allF _ _ _ _ _ = _
        rw [HEQ.out, hin]; rfl
      clear hin HEQ
      go_wp2_with fail
      refine (good_any _).mono ?_
      rintro r w1 ⟨rfl, hb1⟩
      have hlt1 : w.heap.size < wr.heap.size := hsz
      have d0 : w1.cell? ⟨w.heap.size, 0, none⟩ = some (.int .i64 0) := (hb1.cell hlt1).trans c0
      have d1 : w1.cell? ⟨w.heap.size, 1, none⟩ = some (.int .i64 0) := (hb1.cell hlt1).trans c1
      have g0 : w1.frozen? ⟨w.heap.size, 0, none⟩ = false := (hb1.frozen hlt1).trans f0
      have g1 : w1.frozen? ⟨w.heap.size, 1, none⟩ = false := (hb1.frozen hlt1).trans f1
      have HB1 := Lib.hid hb1
      have HO := Lib.hid (HOWN.out.below hb1)
      have HBW : Hid (Below w.heap.size w w1) := ((Below.refl _ _).alloc (Nat.le_refl _) _).trans ((HBEL.out.mono (Nat.le_succ _)).trans (hb1.mono (Nat.le_of_lt hlt1)))
      clear hb1 c0 c1 f0 f1 HOWN
      go_wp2
      have hq : (s.size : Int) - (b.size : Int) = (q : Int) := by have := HBQ.out; omega
      rw [hq]
      refine bodyPost_ret (v := .tuple #[_, .int .i64 q, .agg #[.int .i64 0, .int .i64 (-1)]]) (by simp [results, Tryd.results33, go_sem, d0, d1]; rfl) rfl ?_
      rw [HN.out]
      exact ⟨_, rfl, ownsS.mono (ownsRow_setCell_below (ownsRow_setCell_below HO.out (Nat.lt_succ_self _) _) (Nat.lt_succ_self _) _) (Nat.le_succ _), (HBW.out.setCell (Nat.le_refl _) _).setCell (Nat.le_refl _) _⟩
end Go.Proofs.YtepfbjfmfnnfdaaDoor
