/-
  The document's Tail: its map of tails.
-/
import Derived.Test.YtimaddmgooefdaaDoorWriteTail
import Derived.Test.YtimaddmgooefdaaDoorWriteRefRight
import Derived.Test.YtimaddmgooefdaaDoorRefZig
import Derived.Test.YtimaddmgooefdaaDoorRefSpan
import Derived.Test.YtimaddmgooefdaaDoorMapM
import Derived.KernelRfl
namespace Go.Proofs.YtimaddmgooefdaaDoor
open Go.RowKit Go.Maps

theorem keyedK : Keyed Tryd.prog 3 := int_keyed Tryd.underlying3
theorem zeroS (w : World) : (zeroValue 9).run Tryd.prog w = .ok (.string ⟨#[]⟩) w := by kernel_rfl

/-- Block b is a map of texts by number, of four keys at most. -/
def cntT (D : DataW Unit) : Nat := (if has D (.int .i64 1) then 1 else 0) + (if has D (.int .i64 2) then 1 else 0) + (if has D (.int .i64 3) then 1 else 0) + (if has D (.int .i64 4) then 1 else 0)
def JT (b : Nat) (w : World) : Prop := ∃ (D : DataW Unit) (n : Nat), w.ownsMap Tryd.prog 3 (plainElem Tryd.prog 9) b n D ∧ n ≤ 4 ∧ Tidy D ∧ n = cntT D
/-- .. that reads so at a key. -/
def RT (b : Nat) (w : World) (k : Int) (s : ByteArray) : Prop := ∃ (D : DataW Unit) (n : Nat), w.ownsMap Tryd.prog 3 (plainElem Tryd.prog 9) b n D ∧ D.atKey (.int .i64 k) (.lit (.string [])) = .lit (.string s.data.toList)
theorem own_size {w : World} {b n : Nat} {D : DataW Unit} (h : w.ownsMap Tryd.prog 3 (plainElem Tryd.prog 9) b n D) : w.ownsMap Tryd.prog 3 (plainElem Tryd.prog 9) b (Maps.size D) D := by
  obtain ⟨es, clock, h1, h2, h3, rfl⟩ := h
  refine ⟨es, clock, h1, h2, ?_, rfl⟩
  rw [size_eq, length_read]; exact Nat.le_refl _
theorem own_same {w : World} {b n m : Nat} {D D' : DataW Unit} (h : w.ownsMap Tryd.prog 3 (plainElem Tryd.prog 9) b n D) (h' : w.ownsMap Tryd.prog 3 (plainElem Tryd.prog 9) b m D') : D = D' := by
  obtain ⟨es, clock, h1, _, _, rfl⟩ := h
  obtain ⟨es', clock', h1', _, _, rfl⟩ := h'
  rw [h1] at h1'
  simp only [Option.some.injEq, Obj.map.injEq] at h1'
  rw [h1'.1]

theorem JT.made (w : World) : JT w.heap.size (w.alloc (.map #[] 0)) := ⟨_, 0, World.ownsMap_made _ _ _ _, by decide, tidy_empty, rfl⟩
theorem JT.below {b : Nat} {w w' : World} (h : JT b w) (hb : Below w.heap.size w w') : JT b w' := by
  obtain ⟨D, n, h1, h2⟩ := h
  exact ⟨D, n, h1.kept (row := none) ⟨hb.os, hb.tape, hb.output, hb.size, fun k hk _ => hb.block k hk⟩ (by simp), h2⟩
theorem RT.below {b : Nat} {w w' : World} {k : Int} {s : ByteArray} (h : RT b w k s) (hb : Below w.heap.size w w') : RT b w' k s := by
  obtain ⟨D, n, h1, h2⟩ := h
  exact ⟨D, n, h1.kept (row := none) ⟨hb.os, hb.tape, hb.output, hb.size, fun k hk _ => hb.block k hk⟩ (by simp), h2⟩
theorem cnt_le (D : DataW Unit) : cntT D ≤ 4 := by unfold cntT; split <;> split <;> split <;> split <;> decide
theorem cnt_put {D : DataW Unit} (h : Tidy D) {k : Int} (hk : k = 1 ∨ k = 2 ∨ k = 3 ∨ k = 4) (d : DataW Unit) : cntT (D.put (.int .i64 k) d) = if has D (.int .i64 k) then cntT D else cntT D + 1 := by
  have hs : ∀ k : Int, has (D.put (.int .i64 k) d) (.int .i64 k) = true := fun k => has_put_same h.isMap (keyN k) d
  have ho : ∀ j k : Int, j ≠ k → has (D.put (.int .i64 k) d) (.int .i64 j) = has D (.int .i64 j) := fun j k hne => has_put_other (by simp; exact hne) d
  unfold cntT
  rcases hk with rfl | rfl | rfl | rfl
  · rw [hs, ho 2 1 (by decide), ho 3 1 (by decide), ho 4 1 (by decide)]
    cases has D (.int .i64 1) <;> simp <;> omega
  · rw [hs, ho 1 2 (by decide), ho 3 2 (by decide), ho 4 2 (by decide)]
    cases has D (.int .i64 2) <;> simp <;> omega
  · rw [hs, ho 1 3 (by decide), ho 2 3 (by decide), ho 4 3 (by decide)]
    cases has D (.int .i64 3) <;> simp <;> omega
  · rw [hs, ho 1 4 (by decide), ho 2 4 (by decide), ho 3 4 (by decide)]
    cases has D (.int .i64 4) <;> simp <;> omega

theorem put_all {b : Nat} {w : World} (h : JT b w) {k : Int} (hk : k = 1 ∨ k = 2 ∨ k = 3 ∨ k = 4) {s : ByteArray} (hs : s.size ≤ maxLen) :
    ∃ w', (Instr.mapUpdate 82 (.map (some b)) (.int .i64 k) (.string s)).run Tryd.prog w = .ok () w' ∧ JT b w' ∧ RT b w' k s ∧ (∀ j t, j ≠ k → RT b w j t → RT b w' j t) ∧ w.grownBy w' (some b) := by
  obtain ⟨D, n, h1, h2, h3, h4⟩ := h
  have hkb : -9223372036854775808 ≤ k ∧ k ≤ 9223372036854775807 := by omega
  obtain ⟨w', hrun, r1, r2⟩ := World.ownsMap.update h1 keyedK Tryd.underlying82 (by unfold maxLen; omega) (key := .int .i64 k) (keyOf_int_mk Tryd.underlying3 (WalkArith.wf_i64 hkb)) (plainElem_string Tryd.underlying9 hs)
  have ht := h3.put (keyN k) (.lit (.string s.data.toList))
  have hc := cnt_put h3 hk (.lit (.string s.data.toList))
  refine ⟨w', hrun, ⟨_, cntT (D.put (.int .i64 k) (.lit (.string s.data.toList))), ?_, cnt_le _, ht, rfl⟩, ⟨_, _, r1, atKey_put_same h3.isMap (keyN k) _ _⟩, ?_, r2⟩
  · by_cases hh : has D (.int .i64 k) = true
    · have hsz := size_put h3 (k := .int .i64 k) (.lit (.string s.data.toList))
      have hDn := World.ownsMap.size_le h1
      have h5 := own_size r1
      rw [hsz, if_pos hh] at h5
      rw [hc, if_pos hh]
      exact h5.mono (by omega)
    · rw [hc, if_neg hh, ← h4]
      exact r1
  · rintro j t hne ⟨D', n', q1, q2⟩
    obtain rfl := own_same h1 q1
    exact ⟨_, _, r1, by rw [atKey_put_other (by simp; exact hne)]; exact q2⟩
/-- What an entry does, as a function of the world. -/
theorem put_fun (b : Nat) {k : Int} (hk : k = 1 ∨ k = 2 ∨ k = 3 ∨ k = 4) {s : ByteArray} (hs : s.size ≤ maxLen) :
    ∃ F : World → World, ∀ w, JT b w → ((Instr.mapUpdate 82 (.map (some b)) (.int .i64 k) (.string s)).run Tryd.prog w = .ok () (F w) ∧ JT b (F w) ∧ RT b (F w) k s ∧ (∀ j t, j ≠ k → RT b w j t → RT b (F w) j t) ∧ w.grownBy (F w) (some b)) :=
  Classical.axiomOfChoice (r := fun w w' => JT b w → ((Instr.mapUpdate 82 (.map (some b)) (.int .i64 k) (.string s)).run Tryd.prog w = .ok () w' ∧ JT b w' ∧ RT b w' k s ∧ (∀ j t, j ≠ k → RT b w j t → RT b w' j t) ∧ w.grownBy w' (some b))) (fun w => by
    by_cases h : JT b w
    · obtain ⟨w', hw⟩ := put_all h hk hs
      exact ⟨w', fun _ => hw⟩
    · exact ⟨w, fun h' => absurd h' h⟩)
/-- A look-up, as a function of the world. -/
theorem look_fun (b : Nat) (k : Int) (hk : -9223372036854775808 ≤ k ∧ k ≤ 9223372036854775807) :
    ∃ G : World → ByteArray, ∀ w, JT b w → (Instr.lookup 82 (.map (some b)) (.int .i64 k) false).run Tryd.prog w = .ok (.string (G w)) w :=
  Classical.axiomOfChoice (r := fun w s => JT b w → (Instr.lookup 82 (.map (some b)) (.int .i64 k) false).run Tryd.prog w = .ok (.string s) w) (fun w => by
    by_cases h : JT b w
    · obtain ⟨D, n, hown, _⟩ := h
      obtain ⟨v, ps, hrun, hv⟩ := World.ownsMap.lookup hown keyedK Tryd.underlying82 (zeroS w) (plainElem_string Tryd.underlying9 (s := ⟨#[]⟩) (by decide)) (key := .int .i64 k) (keyOf_int_mk Tryd.underlying3 (WalkArith.wf_i64 hk))
      obtain ⟨s', rfl, _⟩ := plainElem_str_inv Tryd.underlying9 hv
      exact ⟨s', fun _ => hrun⟩
    · exact ⟨⟨#[]⟩, fun h' => absurd h' h⟩)
theorem look_all {b : Nat} {w : World} {k : Int} {s : ByteArray} (h : RT b w k s) (hk : -9223372036854775808 ≤ k ∧ k ≤ 9223372036854775807) :
    (Instr.lookup 82 (.map (some b)) (.int .i64 k) false).run Tryd.prog w = .ok (.string s) w := by
  obtain ⟨D, n, hown, hat⟩ := h
  obtain ⟨v, ps, hrun, hv⟩ := World.ownsMap.lookup hown keyedK Tryd.underlying82 (zeroS w) (plainElem_string Tryd.underlying9 (s := ⟨#[]⟩) (by decide)) (key := .int .i64 k) (keyOf_int_mk Tryd.underlying3 (WalkArith.wf_i64 hk))
  have e0 : (⟨#[]⟩ : ByteArray).data.toList = [] := rfl
  rw [e0, hat] at hv
  obtain ⟨s', rfl, hs'⟩ := plainElem_str_inv Tryd.underlying9 hv
  obtain rfl : s = s' := by
    simp only [Prod.mk.injEq, DataW.lit.injEq, Lit.string.injEq] at hs'
    exact bs_ext hs'.1
  exact hrun

theorem rvary_int (n : Int) (w : World) (h0 : 0 ≤ n) (h1 : n ≤ 18446744073709551615) :
    Calls Tryd.prog 40 #[.int .u64 n] w fun e w' => e = .returned (.string ⟨(putL n.toNat).toArray⟩) ∧ Below w.heap.size w w' := by
  obtain ⟨m, rfl⟩ := Int.eq_ofNat_of_zero_le h0
  rw [Int.toNat_natCast]
  exact rvary_any m w (by omega)

/-- A write's tail is what the map has at its kind. -/
theorem tail_at {T R K : Int} {key val : ByteArray} {N : Int} (h : wrE T R K key val N = 0) :
    (K = 1 ∧ tailB K val N = spanB val) ∨ (K = 2 ∧ tailB K val N = ⟨#[]⟩) ∨ (K = 3 ∧ tailB K val N = ⟨(putL (zigN N).toNat).toArray⟩) ∨ (K = 4 ∧ tailB K val N = ⟨(putL (max 0 N).toNat).toArray⟩ ++ spanB val) := by
  obtain ⟨g1, _, _, _, _, g6⟩ := wrE_good h
  unfold tailB
  have hc : K = 1 ∨ K = 2 ∨ K = 3 ∨ K = 4 := by omega
  rcases hc with rfl | rfl | rfl | rfl
  · exact .inl ⟨rfl, bs_ext (by rw [app_data]; rfl)⟩
  · exact .inr (.inl ⟨rfl, bs_ext (by rw [app_data]; rfl)⟩)
  · refine .inr (.inr (.inl ⟨rfl, bs_ext ?_⟩))
    rw [app_data]
    unfold numB valB
    rw [if_pos rfl, if_neg (by decide)]
    exact List.append_nil _
  · refine .inr (.inr (.inr ⟨rfl, ?_⟩))
    have h0 : 0 ≤ N := by
      unfold fitsN at g6
      rw [if_neg (by decide), if_pos rfl] at g6
      simp at g6; exact g6.1
    unfold numB valB
    rw [if_neg (by decide), if_pos rfl, if_pos (by decide), Int.max_eq_right h0]

theorem tail_one {b : Nat} {W : World} {K : Int} {t S P3 Q : ByteArray} (h1 : RT b W 1 S) (h2 : RT b W 2 ⟨#[]⟩) (h3 : RT b W 3 P3) (h4 : RT b W 4 Q)
    (hc : (K = 1 ∧ t = S) ∨ (K = 2 ∧ t = ⟨#[]⟩) ∨ (K = 3 ∧ t = P3) ∨ (K = 4 ∧ t = Q)) : RT b W K t := by
  rcases hc with ⟨rfl, rfl⟩ | ⟨rfl, rfl⟩ | ⟨rfl, rfl⟩ | ⟨rfl, rfl⟩
  · exact h1
  · exact h2
  · exact h3
  · exact h4

def textR (r : ByteArray × Nat) : Value := .tuple #[.string r.1, .int .i64 (r.2 : Nat)]

end Go.Proofs.YtimaddmgooefdaaDoor
