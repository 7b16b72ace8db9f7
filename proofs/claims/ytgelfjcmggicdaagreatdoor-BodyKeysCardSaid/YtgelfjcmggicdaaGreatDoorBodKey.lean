/-
  Plain: a batch whose writes all bear one key: its body is longer by the key than with none.
-/
import Derived.Test.YtgelfjcmggicdaaGreatDoorPk09
namespace Go.Proofs.YtgelfjcmggicdaaGreatDoor
open Go.RowKit

theorem tab_one (k : ByteArray) (n : Nat) : tabK [k] (List.replicate n k) = [k] := by
  induction n with
  | zero => rfl
  | succ n ih => rw [List.replicate_succ, tabK, show addK [k] k = [k] from by unfold addK; rw [if_pos (by simp)]]; exact ih
theorem at_one (k : ByteArray) (n : Nat) : atK [k] (List.replicate n k) = List.replicate n 0 := by
  induction n with
  | zero => rfl
  | succ n ih => rw [List.replicate_succ, atK, show addK [k] k = [k] from by unfold addK; rw [if_pos (by simp)], ih, show idxB [k] k = 0 from by unfold idxB; simp]; rfl
theorem tab_same (k : ByteArray) (n : Nat) : tabK [] (List.replicate (n + 1) k) = [k] := by
  rw [List.replicate_succ, tabK, show addK [] k = [k] from by unfold addK; rw [if_neg (by simp)]; rfl]
  exact tab_one k n
theorem at_same (k : ByteArray) (n : Nat) : atK [] (List.replicate n k) = List.replicate n 0 := by
  cases n with
  | zero => rfl
  | succ n => rw [List.replicate_succ, atK, show addK [] k = [k] from by unfold addK; rw [if_neg (by simp)]; rfl, at_one, show idxB [] k = 0 from by unfold idxB; simp]; rfl

/-- A write with such a key. -/
def withK (k : ByteArray) (x : Wr) : Wr := { x with key := k }
theorem keys_withK (k : ByteArray) (l : List Wr) : keysW (l.map (withK k)) = List.replicate l.length k := by
  unfold keysW
  rw [List.map_map]
  induction l with
  | nil => rfl
  | cons a r ih => rw [List.map_cons, ih, List.length_cons, List.replicate_succ]; rfl
theorem wE_withK {k : ByteArray} (hk : k.size ≤ 40) {x : Wr} (h : wE x = 0) : wE (withK k x) = 0 := by
  obtain ⟨h1, h2, h3, h4, h5, h6⟩ := wriE_good h
  show wriE x.time x.rep x.kind k x.value x.n = 0
  rw [wriE_fits h1 h2 (by omega) h5, h6]
  rfl
theorem right_withK {k : ByteArray} (hk : k.size ≤ 40) {f h : List Ent} {l : List Wr} (hr : rightB f h l) : rightB f h (l.map (withK k)) := by
  rw [rightB_iff] at hr ⊢
  obtain ⟨h1, h2, h3, h4⟩ := hr
  refine ⟨h1, by rw [List.length_map]; exact h2, fun x hx => ?_, ?_⟩
  · obtain ⟨y, hy, rfl⟩ := List.mem_map.1 hx
    exact ⟨wE_withK hk (h3 y hy).1, (h3 y hy).2⟩
  · rw [List.pairwise_map]
    exact h4
theorem rowB_withK (k : ByteArray) (h : List Ent) (l : List Wr) : ∀ (a : Int) (N : List Nat), rowB h a (l.map (withK k)) N = rowB h a l N := by
  induction l with
  | nil => intro a N; rfl
  | cons x r ih =>
    intro a N
    cases N with
    | nil => rfl
    | cons n N =>
      rw [List.map_cons, rowB_cons, rowB_cons]
      have e2 := ih x.time N
      exact congrArg (oneB h a x n ++ ·) e2
theorem body_withK (k : ByteArray) (hk : k.size ≤ 40) (f h : List Ent) (l : List Wr) (hl : 0 < l.length) : (bodyL f h (l.map (withK k))).length = (bodyL f h (l.map (withK ⟨#[]⟩))).length + k.size := by
  obtain ⟨n, hn⟩ : ∃ n, l.length = n + 1 := ⟨l.length - 1, by omega⟩
  unfold bodyL
  rw [keys_withK, keys_withK, hn, tab_same, tab_same, at_same, at_same, rowB_withK, rowB_withK, List.length_map, List.length_map]
  simp only [textsB_cons, spanL, List.length_append]
  rw [← size_data, putL_small (show k.size < 128 by omega)]
  simp only [List.length_nil, List.length_cons, putL_small (show 0 < 128 by decide)]
  omega
theorem body_noneK (l : List Wr) (hl : l.length = 0) (k j : ByteArray) : l.map (withK k) = l.map (withK j) := by
  rw [List.length_eq_zero_iff.1 hl]; rfl
theorem wrOk_withK {k : ByteArray} (hk : k.size ≤ 40) {x : Wr} (h : WrOk x) : WrOk (withK k x) :=
  ⟨h.1, h.2.1, Nat.le_trans hk (by decide), h.2.2.2⟩
end Go.Proofs.YtgelfjcmggicdaaGreatDoor
