/-
  What the walks of the store's laws share: sizes of what is compared.
-/
import Derived.Test.YtpmnflnaeknakaaGreatDoorStoOf
namespace Go.Proofs.YtpmnflnaeknakaaGreatDoor
open Go.RowKit

theorem cellK_len (l : List Wr) (k : ByteArray) : (cellK l k).list.length ≤ l.length := by
  unfold cellK
  have h : ∀ (m : List Wr) (c : Cel), (m.foldl stepC c).list.length ≤ c.list.length + m.length := by
    intro m
    induction m with
    | nil => intro c; exact Nat.le_refl _
    | cons x r ih =>
      intro c
      rw [List.foldl_cons, List.length_cons]
      have h1 := ih (stepC c x)
      have h2 := stepC_len c x
      omega
  refine Nat.le_trans (h _ _) ?_
  have := List.length_filter_le (fun w => decide (w.key = k)) l
  simp only [cel0, List.length_nil]
  omega
theorem cellsF_len (l : List Wr) : (cellsF l).length ≤ l.length := by
  have h1 : (cellsF l).length = ((cellsF l).map (·.1)).length := by rw [List.length_map]
  rw [h1]
  have h2 : (cellsF l).map (·.1) ⊆ l.map (·.key) := by
    intro k hk
    rw [cellsF_keys] at hk
    obtain ⟨w, hw, rfl⟩ := keysS_mem.1 (List.mem_filter.1 hk).1
    exact List.mem_map_of_mem hw
  have h3 := (cellsF_nodup l).length_le_of_subset h2
  rw [← h1]; simpa using h3
theorem cellsF_lists (l : List Wr) : ∀ p ∈ cellsF l, p.2.list.length ≤ l.length := by
  rintro ⟨k, c⟩ hp
  obtain ⟨rfl, _⟩ := cellsF_mem.1 hp
  exact cellK_len l k
end Go.Proofs.YtpmnflnaeknakaaGreatDoor
