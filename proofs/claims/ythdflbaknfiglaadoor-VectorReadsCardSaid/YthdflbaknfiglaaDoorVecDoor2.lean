/-
  The contract of the document's VectorRead: its door, and the whole.
-/
import Derived.Test.YthdflbaknfiglaaDoorVecDoor
namespace Go.Proofs.YthdflbaknfiglaaDoor
open Go.RowKit

/-- What stands at the door: the two deferred calls. -/
def vdoor (w : World) : List Deferred :=
  [{ target := .fn (Fn.func 49) #[], args := #[.pointer (some ⟨w.heap.size + 2, 0, none⟩)] },
    { target := .fn (Fn.func 48) #[.pointer (some ⟨w.heap.size + 2, 0, none⟩), .pointer (some ⟨w.heap.size, 0, none⟩), .pointer (some ⟨w.heap.size + 1, 0, none⟩)], args := #[] }]

set_option maxRecDepth 100000 in
set_option maxHeartbeats 1000000 in
theorem vdoor_bad {w W : World} {lv : Value} {m : Int} {s : List UInt8} (e : Nat) (pl : Int) (h : D3 w W lv m 0 (-1)) (he : e ≠ 0) (hrd : vreadF s = (e, 0, [])) (tmps : Array Value)
    (t2 : tmps[2]? = some (.pointer (some ⟨w.heap.size, 0, none⟩))) (t3 : tmps[3]? = some (.pointer (some ⟨w.heap.size + 1, 0, none⟩))) (t4 : tmps[4]? = some (.pointer (some ⟨w.heap.size + 2, 0, none⟩))) :
    Leaves Tryd.prog Tryd.f28 tmps (RVReadIs w s) (vdoor w) (.panicking [{ v := .iface 102 (.agg #[.int .i64 (e : Int), .int .i64 pl]), recovered := false }]) W := by
  obtain ⟨o0, n0, c0, c1, y0, y1, z0, z1⟩ := h.cells
  have hbel := h.2.2.2.1
  have hz := h.2.2.2.2
  have hbe : ((e : Int) == 0) = false := by simp; omega
  obtain ⟨W2, hW2⟩ : ∃ W2, (W.setCell ⟨w.heap.size + 2, 0, none⟩ (.int .i64 (e : Int))).setCell ⟨w.heap.size + 2, 1, none⟩ (.int .i64 pl) = W2 := ⟨_, rfl⟩
  have hz2 : W2.heap.size = W.heap.size := by rw [← hW2]; simp
  have h2 : D3 w W2 lv m e pl := by
    rw [← hW2]
    obtain ⟨r1, r2, r3, r4, r5⟩ := h
    refine ⟨?_, ?_, ?_, (r4.setCell (by simp) _).setCell (by simp) _, by simpa using r5⟩
    · simp [World.setCell, Array.getElem?_modify, r1]
    · simp [World.setCell, Array.getElem?_modify, r2]
    · simp [World.setCell, Array.getElem?_modify, r3]
  obtain ⟨W3, hW3⟩ : ∃ W3, W2.alloc (.cells #[.int .i64 (e : Int), .int .i64 pl] 102) = W3 := ⟨_, rfl⟩
  have h3 : D3 w W3 lv m e pl := by rw [← hW3]; exact h2.kept (World.grownBy_alloc W2 _ none) (fun k hk => by cases hk)
  have hz3 := h3.2.2.2.2
  obtain ⟨p0, p1, p2, p3, q0, q1, q2, q3⟩ := h3.cells
  unfold vdoor
  refine leaves_cons (f := 49) (args := #[.pointer (some ⟨w.heap.size + 2, 0, none⟩)]) (by simp) (by simp [go_sem]) ?_
  refine (caught_pan (w.heap.size + 2) e pl 0 (-1) [] W (by omega) c0 c1 z0 z1).mono ?_
  rintro r u' w2 ⟨rfl, rfl, rfl⟩
  rw [hW2, hW3]
  refine leaves_cons (f := 48) (args := #[.pointer (some ⟨w.heap.size + 2, 0, none⟩), .pointer (some ⟨w.heap.size, 0, none⟩), .pointer (some ⟨w.heap.size + 1, 0, none⟩)]) (by simp [settle]) (by simp [go_sem]) ?_
  refine (vreset_bad (w.heap.size + 2) w.heap.size (w.heap.size + 1) e pl m lv _ _ hbe p2 p3 (by omega) (by omega) (by omega) (by omega) (by omega) (by omega) p0 p1 q0 q1 q2 q3).mono ?_
  rintro r u' w4 ⟨rfl, rfl, w5, hb5, rfl⟩
  have h5 : D3 w w5 lv m e pl := h3.kept (grown_b hb5) (fun k hk => by cases hk)
  obtain ⟨r1, r2, r3, r4, r5⟩ := h5
  have h6 : D3 w ((((w5.setCell ⟨w.heap.size, 0, none⟩ (.slice none 0 0)).setCell ⟨w.heap.size + 1, 0, none⟩ (.int .i64 0)).setCell ⟨w.heap.size + 2, 0, none⟩ (.int .i64 e)).setCell ⟨w.heap.size + 2, 1, none⟩ (.int .i64 (-1))) (.slice none 0 0) 0 e (-1) := by
    refine ⟨?_, ?_, ?_, (((r4.setCell (by simp) _).setCell (by simp) _).setCell (by simp) _).setCell (by simp) _, by simpa using r5⟩
    · simp [World.setCell, Array.getElem?_modify, r1]
    · simp [World.setCell, Array.getElem?_modify, r2]
    · simp [World.setCell, Array.getElem?_modify, r3]
  obtain ⟨v0, v1, v2, v3, _⟩ := h6.cells
  refine ⟨.tuple #[.slice none 0 0, .int .i64 0, .agg #[.int .i64 (e : Int), .int .i64 (-1)]], by simp [results, Tryd.results28, go_sem, t2, t3, t4, v0, v1, v2, v3], .slice none 0 0, ?_, ?_, h6.2.2.2.1⟩
  · rw [hrd]; rfl
  · rw [hrd]; exact ownsE_nil _ _

set_option maxRecDepth 100000 in
set_option maxHeartbeats 1000000 in
theorem vdoor_good {w W : World} {lv : Value} {n : Nat} {l : List Ent} {s : List UInt8} (h : D3 w W lv n 0 (-1)) (ho : ownsE W (w.heap.size + 3) lv l) (hrd : vreadF s = (0, n, l)) (tmps : Array Value)
    (t2 : tmps[2]? = some (.pointer (some ⟨w.heap.size, 0, none⟩))) (t3 : tmps[3]? = some (.pointer (some ⟨w.heap.size + 1, 0, none⟩))) (t4 : tmps[4]? = some (.pointer (some ⟨w.heap.size + 2, 0, none⟩))) :
    Leaves Tryd.prog Tryd.f28 tmps (RVReadIs w s) (vdoor w) .returning W := by
  obtain ⟨_, _, c0, c1, _⟩ := h.cells
  unfold vdoor
  refine leaves_cons (f := 49) (args := #[.pointer (some ⟨w.heap.size + 2, 0, none⟩)]) (by simp) (by simp [go_sem]) ?_
  refine (caught_idle _ W).mono ?_
  rintro r u' w2 ⟨rfl, rfl, rfl⟩
  refine leaves_cons (f := 48) (args := #[.pointer (some ⟨w.heap.size + 2, 0, none⟩), .pointer (some ⟨w.heap.size, 0, none⟩), .pointer (some ⟨w.heap.size + 1, 0, none⟩)]) (by simp [settle]) (by simp [go_sem]) ?_
  refine (vreset_good (w.heap.size + 2) w.heap.size (w.heap.size + 1) (-1) _ _ c0 c1).mono ?_
  rintro r u' w3 ⟨rfl, rfl, hb3⟩
  have h3 := h.kept (grown_b hb3) (fun k hk => by cases hk)
  obtain ⟨v0, v1, v2, v3, _⟩ := h3.cells
  refine ⟨.tuple #[lv, .int .i64 (n : Int), .agg #[.int .i64 0, .int .i64 (-1)]], by simp [results, Tryd.results28, go_sem, t2, t3, t4, v0, v1, v2, v3], lv, ?_, ?_, h3.2.2.2.1⟩
  · rw [hrd]; rfl
  · rw [hrd]; exact (ho.below hb3).mono (by omega)

theorem grown_set (W : World) (b o : Nat) (x : Value) : W.grownBy (W.setCell ⟨b, o, none⟩ x) (some b) :=
  ⟨rfl, rfl, rfl, by simp, fun k hk hne => by
    have hk2 : b ≠ k := fun e => hne (by rw [e])
    simp only [World.setCell, Array.getElem?_modify, if_neg hk2]⟩
theorem own_set {W : World} {base b o : Nat} {v x : Value} {l : List Ent} (ho : ownsE W base v l) (hb : b < base) : ownsE (W.setCell ⟨b, o, none⟩ x) base v l :=
  grown_ne ho hb (grown_set W b o x)
theorem D3.over {w W : World} {lv lv' : Value} {m m' x pl : Int} (h : D3 w W lv m x pl) : D3 w ((((W.setCell ⟨w.heap.size, 0, none⟩ lv').setCell ⟨w.heap.size + 1, 0, none⟩ (.int .i64 m')).setCell ⟨w.heap.size + 2, 0, none⟩ (.int .i64 x)).setCell ⟨w.heap.size + 2, 1, none⟩ (.int .i64 pl)) lv' m' x pl := by
  obtain ⟨r1, r2, r3, r4, r5⟩ := h
  refine ⟨?_, ?_, ?_, (((r4.setCell (by simp) _).setCell (by simp) _).setCell (by simp) _).setCell (by simp) _, by simpa using r5⟩
  · simp [World.setCell, Array.getElem?_modify, r1]
  · simp [World.setCell, Array.getElem?_modify, r2]
  · simp [World.setCell, Array.getElem?_modify, r3]

set_option maxRecDepth 100000 in
set_option maxHeartbeats 4000000 in
theorem rvread_any (s : ByteArray) (w : World) (hs : s.size ≤ 1000000) :
    Calls Tryd.prog 28 #[.string s] w (RVReadIs w s.data.toList) := by
  have hmf : ∀ (fn : Fn) (first cap : Array Value) (w : World), (Instr.makeFunc fn first cap).run Tryd.prog w = .ok (.func fn first cap) w := fun _ _ _ _ => rfl
  go_enter_defers Tryd.func28, Tryd.ntmps28
  go_wp2_with fail
  refine (good_any _).mono ?_
  rintro r w1 ⟨rfl, hb1⟩
  have hz1 : w.heap.size + 3 ≤ w1.heap.size := by have := hb1.size; simpa using this
  have hA : D3 w (((w.alloc (.cells #[.slice none 0 0] 22)).alloc (.cells #[.int .i64 0] 3)).alloc (.cells #[.int .i64 0, .int .i64 0] 29)) (.slice none 0 0) 0 0 0 := by
    refine ⟨?_, ?_, ?_, (((Below.refl _ _).alloc (Nat.le_refl _) _).alloc (by simp) _).alloc (by simp only [World.size_alloc]; omega) _, by simp⟩
    · rw [Below.heap_alloc _ _ _ (by simp only [World.size_alloc]; omega), Below.heap_alloc _ _ _ (by simp only [World.size_alloc]; omega)]; exact heap_alloc_new w _
    · rw [Below.heap_alloc _ _ _ (by simp only [World.size_alloc]; omega)]; have h := heap_alloc_new (w.alloc (.cells #[.slice none 0 0] 22)) (.cells #[.int .i64 0] 3); simpa using h
    · have h := heap_alloc_new ((w.alloc (.cells #[.slice none 0 0] 22)).alloc (.cells #[.int .i64 0] 3)) (.cells #[.int .i64 0, .int .i64 0] 29); simpa using h
  have h1 := hA.kept (grown_b hb1) (fun k hk => by cases hk)
  obtain ⟨_, _, c0, c1, _, _, f0, f1⟩ := h1.cells
  have h2 : D3 w ((w1.setCell ⟨w.heap.size + 2, 0, none⟩ (.int .i64 0)).setCell ⟨w.heap.size + 2, 1, none⟩ (.int .i64 (-1))) (.slice none 0 0) 0 0 (-1) := by
    obtain ⟨r1, r2, r3, r4, r5⟩ := h1
    refine ⟨?_, ?_, ?_, (r4.setCell (by simp) _).setCell (by simp) _, by simpa using r5⟩
    · simp [World.setCell, Array.getElem?_modify, r1]
    · simp [World.setCell, Array.getElem?_modify, r2]
    · simp [World.setCell, Array.getElem?_modify, r3]
  have H2 := Lib.hid h2
  clear hb1 hA h1 h2
  have HS0 : Hid (Sc (((w1.setCell ⟨w.heap.size + 1 + 1, 0, none⟩ (.int .i64 0)).setCell ⟨w.heap.size + 1 + 1, 1, none⟩ (.int .i64 (-1))).alloc (.cells #[.string s, .int .i64 0] 86)) w1.heap.size s 0) := Lib.hid (by
    have h := heap_alloc_new ((w1.setCell ⟨w.heap.size + 1 + 1, 0, none⟩ (.int .i64 0)).setCell ⟨w.heap.size + 1 + 1, 1, none⟩ (.int .i64 (-1))) (.cells #[.string s, .int .i64 0] 86)
    unfold Sc
    simpa using h)
  have H3 := Lib.hid (H2.out.kept (World.grownBy_alloc _ (.cells #[.string s, .int .i64 0] 86) none) (fun k hk => by cases hk))
  go_wp2_with fail
  refine (entries_any w1.heap.size s _ HS0.out hs).mono ?_
  rintro r w2 ⟨hg, hc⟩
  have h4 := H3.out.kept hg (fun k hk => by cases hk; exact hz1)
  have H4 := Lib.hid h4
  rcases hc with ⟨v, n, l, hv, rfl, ho, hsc⟩ | ⟨x, pl, hv, hx, rfl⟩
  · obtain ⟨ad, cc, rfl⟩ : ∃ ad cc, v = .slice ad l.length cc := by
      obtain ⟨ad, cc, hh, _⟩ := ho.is.form
      exact ⟨ad, cc, hh⟩
    have h5 : D3 w (w2.setCell ⟨w.heap.size, 0, none⟩ (.slice ad l.length cc)) (.slice ad l.length cc) 0 0 (-1) := by
      obtain ⟨r1, r2, r3, r4, r5⟩ := h4
      refine ⟨?_, ?_, ?_, r4.setCell (by simp) _, by simpa using r5⟩
      · simp [World.setCell, Array.getElem?_modify, r1]
      · simp [World.setCell, Array.getElem?_modify, r2]
      · simp [World.setCell, Array.getElem?_modify, r3]
    obtain ⟨o0, _, _, _, y0, _⟩ := h4.cells
    obtain ⟨k0, k1, k2, k3, g0, g1, g2, g3⟩ := h5.cells
    have k2' : (w2.setCell ⟨w.heap.size, 0, none⟩ (.slice ad l.length cc)).cell? ⟨w.heap.size + 1 + 1, 0, none⟩ = some (.int .i64 0) := k2
    have k3' : (w2.setCell ⟨w.heap.size, 0, none⟩ (.slice ad l.length cc)).cell? ⟨w.heap.size + 1 + 1, 1, none⟩ = some (.int .i64 (-1)) := k3
    have g2' : (w2.setCell ⟨w.heap.size, 0, none⟩ (.slice ad l.length cc)).frozen? ⟨w.heap.size + 1 + 1, 0, none⟩ = false := g2
    have g3' : (w2.setCell ⟨w.heap.size, 0, none⟩ (.slice ad l.length cc)).frozen? ⟨w.heap.size + 1 + 1, 1, none⟩ = false := g3
    have hne : w1.heap.size ≠ w.heap.size := by omega
    have sc : (w2.setCell ⟨w.heap.size, 0, none⟩ (.slice ad l.length cc)).cell? ⟨w1.heap.size, 1, none⟩ = some (.int .i64 (n : Int)) := (World.cell?_setCell_other _ _ _ _ (by simp)).trans hsc.cells.2.1
    have H5 := Lib.hid h5
    have HO := Lib.hid ho
    have HV := Lib.hid hv
    clear h4 h5 ho hv hsc hg
    go_wp2
    refine wp_region_noPanic ?_
    go_region
    all_goals
      refine NoPanic.normal ?_
      have HO2 := Lib.hid (HO.out.mono (show w.heap.size + 3 ≤ _ by simp; omega))
      have HD := Lib.hid (H5.out.over (lv' := .slice ad l.length cc) (m' := (n : Int)) |>.kept (grown_drewN _ 1 none) (fun k hk => by cases hk))
      go_wp2
      exact vdoor_good HD.out (((((own_set HO2.out (by omega) |> fun h => own_set h (by omega)) |> fun h => own_set h (by omega)) |> fun h => own_set h (by omega)) |> fun h => own_set h (by omega)).drewN 1) HV.out _ rfl rfl rfl
  · exact vdoor_bad x pl h4 hx hv _ rfl rfl rfl
end Go.Proofs.YthdflbaknfiglaaDoor
