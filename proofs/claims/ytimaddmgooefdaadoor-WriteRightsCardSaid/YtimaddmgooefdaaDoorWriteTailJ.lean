/-
  The document's Tail: the law of its region that draws.
-/
import Derived.Test.YtimaddmgooefdaaDoorWriteTailM
import Derived.Test.YtimaddmgooefdaaDoorRegionLaws
namespace Go.Proofs.YtimaddmgooefdaaDoor
open Go.RowKit Go.Maps

/-- What is known of a slot once its operation has come up. -/
def FT (p m : Nat) (S P3 P4 t : ByteArray) (N X K : Int) (L : Array Bool) (x : Nat → Value) (b : Nat) (W : World) : Nat → Prop
  | 0 => x 18 = .map (some b) ∧ JT b W ∧ m ≤ b
  | 1 => x 19 = .string S
  | 2 => L.getD 0 false = true ∧ RT b W 1 S
  | 3 => L.getD 0 false = true ∧ RT b W 2 ⟨#[]⟩
  | 4 => x 20 = .pointer (some ⟨p, 5, none⟩)
  | 5 => x 21 = .int .i64 N
  | 6 => x 22 = .int .u64 (zigN N)
  | 7 => x 23 = .string P3
  | 8 => L.getD 0 false = true ∧ RT b W 3 P3
  | 9 => x 24 = .pointer (some ⟨p, 5, none⟩)
  | 10 => x 25 = .int .i64 N
  | 11 => x 26 = .int .i64 X
  | 12 => x 27 = .int .u64 X
  | 13 => x 28 = .string P4
  | 14 => x 29 = .string S
  | 15 => x 30 = .string (P4 ++ S)
  | 16 => L.getD 0 false = true ∧ RT b W 4 (P4 ++ S)
  | 17 => x 31 = .map (some b) ∧ ∀ j, j < 17 → L.getD j false = true
  | 18 => x 32 = .pointer (some ⟨p, 2, none⟩)
  | 19 => x 33 = .int .i64 K
  | 20 => x 34 = .string t
  | 21 => x 2 = .string t
  | 22 => x 3 = .int .i64 0
  | _ => True
def slotF : Nat → Nat
  | 0 => 18
  | 1 => 19
  | 4 => 20
  | 5 => 21
  | 6 => 22
  | 7 => 23
  | 9 => 24
  | 10 => 25
  | 11 => 26
  | 12 => 27
  | 13 => 28
  | 14 => 29
  | 15 => 30
  | 17 => 31
  | 18 => 32
  | 19 => 33
  | 20 => 34
  | 21 => 2
  | 22 => 3
  | _ => 0
def keyF : Nat → Int
  | 2 => 1
  | 3 => 2
  | 8 => 3
  | 16 => 4
  | _ => 0
def FR (x : Nat → Value) : Act := ⟨#[x 0, x 1, x 2, x 3, x 4, x 5, x 6, x 7, x 8, x 9, x 10, x 11, x 12, x 13, x 14, x 15, x 16, x 17, x 18, x 19, x 20, x 21, x 22, x 23, x 24, x 25, x 26, x 27, x 28, x 29, x 30, x 31, x 32, x 33, x 34], []⟩
def upd (x : Nat → Value) (d : Nat) (v : Value) : Nat → Value := fun k => if k = d then v else x k
def JR (w2 : World) (p : Nat) (S P3 P4 t : ByteArray) (N X K : Int) (L : Array Bool) (a : Act) (W : World) : Prop :=
  ∃ (x : Nat → Value) (b : Nat), a = FR x ∧ x 1 = .pointer (some ⟨p, 0, none⟩) ∧ x 5 = .string S ∧ Below w2.heap.size w2 W ∧ ∀ j, L.getD j false = true → FT p w2.heap.size S P3 P4 t N X K L x b W j

section
variable {p m : Nat} {S P3 P4 t : ByteArray} {N X K : Int} {L L' : Array Bool} {x x' : Nat → Value} {b b' : Nat} {W W' : World} {w2 : World}

theorem FT.move {j : Nat} (h : FT p m S P3 P4 t N X K L x b W j) (hx : x' (slotF j) = x (slotF j)) (hJ : JT b W → JT b W') (hW : ∀ s, RT b W (keyF j) s → RT b W' (keyF j) s)
    (hL : ∀ j, L.getD j false = true → L'.getD j false = true) : FT p m S P3 P4 t N X K L' x' b W' j := by
  unfold FT at h ⊢
  split at h
  · exact ⟨hx.trans h.1, hJ h.2.1, h.2.2⟩
  · exact hx.trans h
  · exact ⟨hL 0 h.1, hW _ h.2⟩
  · exact ⟨hL 0 h.1, hW _ h.2⟩
  · exact hx.trans h
  · exact hx.trans h
  · exact hx.trans h
  · exact hx.trans h
  · exact ⟨hL 0 h.1, hW _ h.2⟩
  · exact hx.trans h
  · exact hx.trans h
  · exact hx.trans h
  · exact hx.trans h
  · exact hx.trans h
  · exact hx.trans h
  · exact hx.trans h
  · exact ⟨hL 0 h.1, hW _ h.2⟩
  · exact ⟨hx.trans h.1, fun j hj => hL j (h.2 j hj)⟩
  · exact hx.trans h
  · exact hx.trans h
  · exact hx.trans h
  · exact hx.trans h
  · exact hx.trans h
  · trivial

theorem FT.made {j : Nat} (h : FT p m S P3 P4 t N X K L x b W j) (h0 : L.getD 0 false = false) (hj : j ≠ 0) (hx : x' (slotF j) = x (slotF j)) : FT p m S P3 P4 t N X K L' x' b' W' j := by
  unfold FT at h ⊢
  split at h
  · exact absurd rfl hj
  · exact hx.trans h
  · rw [h0] at h; exact absurd h.1 (by decide)
  · rw [h0] at h; exact absurd h.1 (by decide)
  · exact hx.trans h
  · exact hx.trans h
  · exact hx.trans h
  · exact hx.trans h
  · rw [h0] at h; exact absurd h.1 (by decide)
  · exact hx.trans h
  · exact hx.trans h
  · exact hx.trans h
  · exact hx.trans h
  · exact hx.trans h
  · exact hx.trans h
  · exact hx.trans h
  · rw [h0] at h; exact absurd h.1 (by decide)
  · have := h.2 0 (by decide); rw [h0] at this; exact absurd this (by decide)
  · exact hx.trans h
  · exact hx.trans h
  · exact hx.trans h
  · exact hx.trans h
  · exact hx.trans h
  · trivial

theorem JR.next {i : Nat} {a' : Act} (ha : a' = FR x') (hF : ∀ j, L.getD j false = true → FT p w2.heap.size S P3 P4 t N X K L x b W j) (hB : Below w2.heap.size w2 W') (h1 : x' 1 = .pointer (some ⟨p, 0, none⟩)) (h5 : x' 5 = .string S)
    (hi : FT p w2.heap.size S P3 P4 t N X K (L.setIfInBounds i true) x' b' W' i) (hm : ∀ j, j ≠ i → FT p w2.heap.size S P3 P4 t N X K L x b W j → FT p w2.heap.size S P3 P4 t N X K (L.setIfInBounds i true) x' b' W' j) :
    JR w2 p S P3 P4 t N X K (L.setIfInBounds i true) a' W' :=
  ⟨x', b', ha, h1, h5, hB, fun j hj => by
    by_cases e : j = i
    · subst e; exact hi
    · exact hm j e (hF j ((getD_put hj).resolve_left e))⟩
/-- An operation that writes slot d and nothing else. -/
theorem JR.slot {i : Nat} {a' : Act} (d : Nat) (v : Value) (ha : a' = FR (upd x d v)) (hF : ∀ j, L.getD j false = true → FT p w2.heap.size S P3 P4 t N X K L x b W j) (hB : Below w2.heap.size w2 W') (h1 : x 1 = .pointer (some ⟨p, 0, none⟩)) (h5 : x 5 = .string S)
    (hJ : JT b W → JT b W') (hW : ∀ k s, RT b W k s → RT b W' k s) (hd : d ≠ 1 ∧ d ≠ 5) (hds : ∀ j, j ≠ i → slotF j ≠ d)
    (hi : FT p w2.heap.size S P3 P4 t N X K (L.setIfInBounds i true) (upd x d v) b W' i) : JR w2 p S P3 P4 t N X K (L.setIfInBounds i true) a' W' :=
  JR.next ha hF hB (by unfold upd; rw [if_neg (Ne.symm hd.1)]; exact h1) (by unfold upd; rw [if_neg (Ne.symm hd.2)]; exact h5) hi
    (fun j hj h => h.move (by unfold upd; rw [if_neg (hds j hj)]) hJ (fun s => hW _ s) (fun _ h => getD_keep h))
/-- An entry. -/
theorem JR.entry {i : Nat} {a' : Act} {k : Int} (ha : a' = FR x) (hF : ∀ j, L.getD j false = true → FT p w2.heap.size S P3 P4 t N X K L x b W j) (hB : Below w2.heap.size w2 W') (h1 : x 1 = .pointer (some ⟨p, 0, none⟩)) (h5 : x 5 = .string S)
    (hJ : JT b W → JT b W') (hW : ∀ j s, j ≠ k → RT b W j s → RT b W' j s) (hk : ∀ j, j ≠ i → keyF j ≠ k)
    (hi : FT p w2.heap.size S P3 P4 t N X K (L.setIfInBounds i true) x b W' i) : JR w2 p S P3 P4 t N X K (L.setIfInBounds i true) a' W' :=
  JR.next ha hF hB h1 h5 hi (fun j hj h => h.move rfl hJ (fun s => hW _ s (hk j hj)) (fun _ h => getD_keep h))
theorem getD_no {i : Nat} (h : L.getD i true = false) : L.getD i false = false := by
  have hi := (count_down h).2
  simp [hi] at h ⊢
  exact h
theorem upd_at (x : Nat → Value) (d : Nat) (v : Value) : upd x d v d = v := by simp [upd]
end

end Go.Proofs.YtimaddmgooefdaaDoor
