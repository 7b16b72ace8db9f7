/-
  Plain: a batch whose values are others of the same size has a body of the same length.
-/
import Derived.Test.YtgelfjcmggicdaaGreatDoorPk09
namespace Go.Proofs.YtgelfjcmggicdaaGreatDoor
open Go.RowKit

theorem wriE_val {T R K : Int} {key v1 v2 : ByteArray} {N : Int} (h : v1.size = v2.size) : wriE T R K key v1 N = wriE T R K key v2 N := by unfold wriE; rw [h]
theorem spanL_len {a b : List UInt8} (h : a.length = b.length) : (spanL a).length = (spanL b).length := by unfold spanL; rw [List.length_append, List.length_append, h]
theorem tailL_len {K N : Int} {v1 v2 : ByteArray} (h : v1.size = v2.size) : (tailB K v1 N).data.toList.length = (tailB K v2 N).data.toList.length := by
  unfold tailB
  rw [app_data, app_data, List.length_append, List.length_append]
  congr 1
  unfold valB
  split
  · rw [spanB_data, spanB_data]
    exact spanL_len (by rw [← size_data, ← size_data]; exact h)
  · rfl
/-- A write with a value of the same size. -/
def withV (V : Wr → ByteArray) (x : Wr) : Wr := { x with value := V x }
theorem keys_withV {V : Wr → ByteArray} (l : List Wr) : keysW (l.map (withV V)) = keysW l := by
  unfold keysW
  rw [List.map_map]; rfl
section
variable {V : Wr → ByteArray} (hV : ∀ x, (V x).size = x.value.size)
include hV
theorem wE_withV (x : Wr) : wE (withV V x) = wE x := wriE_val (hV x)
theorem right_withV {f h : List Ent} {l : List Wr} (hr : rightB f h l) : rightB f h (l.map (withV V)) := by
  rw [rightB_iff] at hr ⊢
  obtain ⟨h1, h2, h3, h4⟩ := hr
  refine ⟨h1, by rw [List.length_map]; exact h2, fun x hx => ?_, ?_⟩
  · obtain ⟨y, hy, rfl⟩ := List.mem_map.1 hx
    rw [wE_withV hV]
    exact h3 y hy
  · rw [List.pairwise_map]
    exact h4
theorem rowB_withV (h : List Ent) (l : List Wr) : ∀ (a : Int) (N : List Nat), (rowB h a (l.map (withV V)) N).length = (rowB h a l N).length := by
  induction l with
  | nil => intro a N; rfl
  | cons x r ih =>
    intro a N
    cases N with
    | nil => rfl
    | cons n N =>
      rw [List.map_cons, rowB_cons, rowB_cons, List.length_append, List.length_append]
      have e1 : (oneB h a (withV V x) n).length = (oneB h a x n).length := by
        unfold oneB tailL
        rw [List.length_append, List.length_append (bs := (tailB x.kind x.value x.n).data.toList)]
        have e := tailL_len (K := x.kind) (N := x.n) (hV x)
        exact congrArg (_ + ·) e
      have e2 := ih x.time N
      rw [e1]
      exact congrArg _ e2
theorem body_withV (f h : List Ent) (l : List Wr) : (bodyL f h (l.map (withV V))).length = (bodyL f h l).length := by
  unfold bodyL
  rw [keys_withV, List.length_map]
  simp only [List.length_append]
  rw [rowB_withV hV]
end
end Go.Proofs.YtgelfjcmggicdaaGreatDoor
