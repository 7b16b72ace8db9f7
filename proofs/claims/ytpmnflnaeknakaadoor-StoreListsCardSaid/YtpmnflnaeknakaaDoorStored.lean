/-
  The fact that the store's laws ask first: stored.
-/
import Derived.Test.YtpmnflnaeknakaaDoorStoOf
namespace Go.Proofs.YtpmnflnaeknakaaDoor
open Go.RowKit Go.Maps

def kA : ByteArray := ⟨#[97]⟩
def kB : ByteArray := ⟨#[98]⟩
def kC : ByteArray := ⟨#[99]⟩
def litW : List Wr := [⟨1, 0, 1, ⟨#[98]⟩, ⟨#[120]⟩, 0⟩, ⟨1, 0, 4, ⟨#[97]⟩, ⟨#[112]⟩, 0⟩, ⟨1, 0, 4, ⟨#[97]⟩, ⟨#[113]⟩, 0⟩, ⟨1, 0, 3, ⟨#[99]⟩, ⟨#[]⟩, 3⟩, ⟨1, 0, 3, ⟨#[99]⟩, ⟨#[]⟩, -3⟩]
theorem lit_a : cellK litW kA = ⟨false, ⟨#[]⟩, 0, [⟨#[113]⟩, ⟨#[112]⟩]⟩ := by rfl
theorem lit_b : cellK litW kB = ⟨true, ⟨#[120]⟩, 0, []⟩ := by rfl
theorem lit_c : cellK litW kC = cel0 := by rfl
theorem lit_o {k : ByteArray} (ha : k ≠ kA) (hb : k ≠ kB) (hc : k ≠ kC) : cellK litW k = cel0 := by
  refine cellK_none (fun w hw => ?_)
  simp only [litW, List.mem_cons, List.not_mem_nil, or_false] at hw
  rcases hw with rfl | rfl | rfl | rfl | rfl
  · exact fun e => hb e.symm
  · exact fun e => ha e.symm
  · exact fun e => ha e.symm
  · exact fun e => hc e.symm
  · exact fun e => hc e.symm
def litZ : List (ByteArray × Cel) := [(kA, ⟨false, ⟨#[]⟩, 0, [⟨#[113]⟩, ⟨#[112]⟩]⟩), (kB, ⟨true, ⟨#[120]⟩, 0, []⟩)]
theorem kA_kB : kA ≠ kB := by decide
theorem lit_cells : cellsF litW = litZ := by
  refine (cellsOf_cellsF litW).unique ⟨?_, ?_, fun k c => ?_⟩
  · simp [litZ, kA_kB]
  · have h : leB kA kB = true := by decide
    simp [litZ, h]
  · simp only [litZ, List.mem_cons, Prod.mk.injEq, List.not_mem_nil, or_false]
    constructor
    · rintro (⟨rfl, rfl⟩ | ⟨rfl, rfl⟩)
      · exact ⟨lit_a, rfl⟩
      · exact ⟨lit_b, rfl⟩
    · rintro ⟨h1, h2⟩
      by_cases ha : k = kA
      · subst ha; exact .inl ⟨rfl, h1.symm.trans lit_a⟩
      · by_cases hb : k = kB
        · subst hb; exact .inr ⟨rfl, h1.symm.trans lit_b⟩
        · by_cases hc : k = kC
          · subst hc; rw [lit_c] at h1; subst h1; cases h2
          · rw [lit_o ha hb hc] at h1; subst h1; cases h2
theorem lit_right : ∀ x ∈ litW, wrF x = 0 := by
  intro x hx
  simp only [litW, List.mem_cons, List.not_mem_nil, or_false] at hx
  rcases hx with rfl | rfl | rfl | rfl | rfl <;> decide
theorem lit_is {w : World} {B : Nat} (h : w.heap[B]? = some (.cells (wrsC litW).toArray 29 (0, 0))) : IsWrs w (.slice (some ⟨B, 0, none⟩) 5 5) litW := by
  refine .inr ⟨B, 0, 5, rfl, ⟨by decide, by decide⟩, (Array.getElem?_eq_some_iff.1 h).1, fun j u hj => ?_⟩
  rw [Nat.zero_add, cell_of_row _ _ j _ _ (0, 0) h]
  simpa using hj
theorem texts2 {w : World} {B : Nat} {x y : ByteArray} (h : w.heap[B]? = some (.cells #[.string x, .string y] 9 (0, 0))) : IsTexts w (.slice (some ⟨B, 0, none⟩) 2 2) [x, y] := by
  refine ⟨_, 2, rfl, Nat.le_refl 2, fun k s hk => ⟨B, 0, rfl, (Array.getElem?_eq_some_iff.1 h).1, ?_⟩⟩
  rw [Nat.zero_add, cell_of_row _ _ k _ _ (0, 0) h]
  match k, hk with
  | 0, hk => simp at hk; subst hk; rfl
  | 1, hk => simp at hk; subst hk; rfl

theorem alloc2_row (w : World) (a b : Obj) : ((w.alloc a).alloc b).heap[w.heap.size + 1]? = some b := by
  have h := (MapKept.heap_alloc (w.alloc a) b).1
  rwa [show (w.alloc a).heap.size = w.heap.size + 1 from by simp] at h
theorem litZ_facts {w : World} {u : Value} (h : IsCells w u litZ) : ∃ b off c la lc, u = .slice (some ⟨b, off, none⟩) 2 c ∧ b < w.heap.size ∧ w.cell? ⟨b, off, none⟩ = some (.string ⟨#[97]⟩) ∧ w.cell? ⟨b, off + 4, none⟩ = some (.slice la 2 lc) ∧
    IsTexts w (.slice la 2 lc) [⟨#[113]⟩, ⟨#[112]⟩] ∧ w.cell? ⟨b, off + 5 + 1, none⟩ = some (.bool true) ∧ w.cell? ⟨b, off + 5 + 2, none⟩ = some (.string ⟨#[120]⟩) := by
  obtain ⟨zs, hv, hl, hc⟩ := h
  obtain ⟨a, c, rfl, hf⟩ := hv.form
  have hl2 : zs.length = 2 := hl
  obtain ⟨x, hx⟩ : ∃ x, zs[0]? = some x := ⟨zs[0]'(by omega), List.getElem?_eq_getElem _⟩
  obtain ⟨y, hy⟩ : ∃ y, zs[1]? = some y := ⟨zs[1]'(by omega), List.getElem?_eq_getElem _⟩
  obtain ⟨p, hp, e1, e2, e3, e4, e5⟩ := hc 0 x hx
  obtain ⟨q, hq, f1, f2, f3, f4, f5⟩ := hc 1 y hy
  obtain rfl : (kA, (⟨false, ⟨#[]⟩, 0, [⟨#[113]⟩, ⟨#[112]⟩]⟩ : Cel)) = p := Option.some.inj hp
  obtain rfl : (kB, (⟨true, ⟨#[120]⟩, 0, []⟩ : Cel)) = q := Option.some.inj hq
  obtain ⟨b, off, rfl, hb, c0, _, _, _, c4⟩ := hf 0 x hx
  obtain ⟨b', off', e, _, _, d1, d2, _, _⟩ := hf 1 y hy
  simp only [Option.some.injEq, Addr.mk.injEq, and_true] at e
  obtain ⟨rfl, rfl⟩ := e
  obtain ⟨la, lc, hla⟩ := e5.form
  simp only [List.length_cons, List.length_nil] at hla
  rw [e1] at c0
  rw [hla] at c4 e5
  rw [f2] at d1
  rw [f3] at d2
  simp only [Nat.zero_mul, Nat.one_mul, Nat.add_zero] at c0 c4 d1 d2
  exact ⟨b, off, c, la, lc, by rw [hl2], hb, c0, c4, e5, d1, d2⟩

set_option maxRecDepth 100000 in
set_option maxHeartbeats 8000000 in
theorem stored_any (w : World) : Calls Tryd.prog 4 #[] w fun e w' => e = .returned (.bool true) ∧ Below w.heap.size w w' := by
  go_enter Tryd.func4, Tryd.ntmps4
  go_wp2_with (first
    | (go_at_call 6; refine (of_good _ litW _ (lit_is (B := w.heap.size + 1) (alloc2_row w _ _)) lit_right (by decide)).mono ?_; rintro r w2 ⟨u, rfl, hu, hb⟩; rw [lit_cells] at hu; obtain ⟨b, off, c, la, lc, rfl, hbl, c0, c4, ht, d1, d2⟩ := litZ_facts hu; have HT := Lib.hid ht; have HB := Lib.hid hb; clear hu ht hb)
    | (go_at_call 7; refine (teq_same _ _ [⟨#[113]⟩, ⟨#[112]⟩] _ (HT.out.alloc _) (texts2 (MapKept.heap_alloc w2 _).1) (by decide)).mono ?_; rintro r w3 ⟨rfl, q, hw3⟩; have hb3 : Below w2.heap.size w2 w3 := (by rw [hw3]; exact below_drewN ((Below.refl _ _).alloc (Nat.le_refl _) _) q); have x1 := (hb3.cell (p := ⟨b, off + 5 + 1, none⟩) hbl).trans d1; have x2 := (hb3.cell (p := ⟨b, off + 5 + 2, none⟩) hbl).trans d2; have HB3 := Lib.hid hb3; clear hw3 hb3))
  go_ret
  refine ⟨rfl, ?_⟩
  have h1 : Below w.heap.size w w2 := (((Below.refl _ _).alloc (Nat.le_refl _) _).alloc (by simp) _).trans (HB.out.mono (by simp; omega))
  exact h1.trans (HB3.out.mono h1.size)
end Go.Proofs.YtpmnflnaeknakaaDoor
