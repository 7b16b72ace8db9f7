/-
  slices.SortFunc of cells, by their keys.
-/
import Derived.Test.YtpmnflnaeknakaaGreatDoorCvs
import Derived.Test.YtpmnflnaeknakaaGreatDoorSort
import Derived.Test.YtpmnflnaeknakaaGreatDoorShelf
import Derived.Shelf.SlSortCmp.WholeK
import Derived.Outline
namespace Go.Proofs.YtpmnflnaeknakaaGreatDoor
open Go.RowKit Go.Shelf Go.Lib Go.Sort

theorem cmpB_lt : ∀ (a b : List UInt8), Lib.compareBytes a b < 0 ↔ a < b
  | [], [] => by simp [compareBytes]
  | [], _ :: _ => by simp [compareBytes]
  | _ :: _, [] => by simp [compareBytes]
  | a :: r, b :: s => by
    have ih := cmpB_lt r s
    unfold compareBytes
    rw [List.cons_lt_cons_iff]
    by_cases h1 : a < b
    · simp [h1]
    · by_cases h2 : b < a
      · have h3 : ¬ a = b := fun e => by subst e; exact h1 h2
        simp [h1, h2, h3]
      · have h3 : a = b := UInt8.le_antisymm (UInt8.not_lt.1 h2) (UInt8.not_lt.1 h1)
        subst h3
        simp [ih]
def cfB (x y : ByteArray) : Int := Lib.compareBytes x.data.toList y.data.toList
theorem ltB (x y : ByteArray) : ltOf cfB x y = decide (x.data.toList < y.data.toList) := by
  unfold ltOf cfB
  rw [Bool.eq_iff_iff]
  simp only [decide_eq_true_eq]
  exact cmpB_lt _ _
theorem swoB : SWO (ltOf cfB) where
  irrefl x := by rw [ltB]; simp [List.lt_irrefl]
  trans x y z h1 h2 := by rw [ltB] at *; simp only [decide_eq_true_eq] at *; exact List.lt_trans h1 h2
  ntrans x y z h1 h2 := by
    rw [ltB] at *
    simp only [decide_eq_false_iff_not] at *
    exact fun h => (List.not_lt.1 (List.not_lt.2 (List.le_trans (List.not_lt.1 h2) (List.not_lt.1 h1)))) |> (fun hle => absurd h (List.not_lt.2 hle))
theorem leB_of (x y : ByteArray) (h : ltOf cfB y x = false) : leB x y = true := by
  rw [ltB] at h
  simp only [decide_eq_false_iff_not] at h
  unfold leB
  exact decide_eq_true (List.not_lt.1 h)

/-- The comparing function: two cells by their keys. -/
def CmpC (g : Nat) : Prop := ∀ (a b : CV) (W : World), Calls Tryz.prog g #[cvV a, cvV b] W fun e w' => e = .returned (.int .i64 (cfB a.key b.key)) ∧ ∃ q os', w' = grow (W.drewN q) os'

theorem cvsC_get (l : List CV) (j : Nat) (hj : j < l.length * 5) : (cvsC l)[j]? = some ((cvC l[j / 5]!)[j % 5]!) := by
  have h1 : j / 5 < l.length := by omega
  have h2 := cvsC_at l (j / 5) (j % 5) l[j / 5]! (by rw [List.getElem!_eq_getElem?_getD, List.getElem?_eq_getElem h1]; rfl) (by omega)
  rw [show j / 5 * 5 + j % 5 = j by omega] at h2
  rw [h2]
  have h3 : j % 5 < (cvC l[j / 5]!).length := by show _ < 5; omega
  generalize l[j / 5]! = c at h3 ⊢
  rw [getElem!_pos (cvC c) (j % 5) h3]
  exact List.getElem?_eq_getElem h3

theorem sort_any (g : Nat) (hcl : CmpC g) (eg : ∀ args w, (callFunc g args).run Tryz.prog w = .ok (.enter g args) w) (F : ByteArray → CV) (hF : ∀ k, (F k).key = k) (hl : ∀ k, (F k).list.oneCell' = true) (ks : List ByteArray) (blk cap base : Nat) (w : World)
    (ho : ownsC w base (.slice (some ⟨blk, 0, none⟩) ks.length cap) (ks.map F)) (hn : ks.length ≤ 1000000) :
    Calls Tryz.prog 28 #[.slice (some ⟨blk, 0, none⟩) ks.length cap, .func (.func g) #[] #[]] w fun e w' =>
      e = .returned (.tuple #[]) ∧ ∃ ks' : List ByteArray, ks'.Perm ks ∧ ks'.Pairwise (fun a b => leB a b = true) ∧ IsCvs w' (.slice (some ⟨blk, 0, none⟩) ks.length cap) (ks'.map F) ∧ w.grownBy w' (some blk) := by
  have hblk : blk < w.heap.size := (ho.lt blk rfl).2
  have hcap : ks.length ≤ cap := by
    rcases ho.2 with ⟨e, _⟩ | ⟨_, _, _, e, _, _, h1, _⟩
    · simp at e
    · obtain ⟨_, _, rfl⟩ := Value.slice.inj e; simpa using h1
  have hfz : ∀ j, w.frozen? ⟨blk, j, none⟩ = false := by
    rcases ho.2 with ⟨e, _⟩ | ⟨g', _, cur, e, _, hh, _⟩
    · simp at e
    · obtain ⟨e1, _⟩ := Value.slice.inj e
      simp only [Option.some.injEq, Addr.mk.injEq, and_true] at e1
      subst e1
      intro j; simp [World.frozen?, hh]
  have ho2 : w.ownsRow base 60 5 (.slice (some ⟨blk, 0, none⟩) ks.length cap) ks.length (cvsC (ks.map F)) := by have h := ho; unfold ownsC at h; rwa [List.length_map] at h
  have hlen : ∀ x, (cvC (F x)).length = 5 := fun _ => rfl
  have hone : ∀ x, ∀ v ∈ cvC (F x), v.oneCell' = true := fun x => cvC_cell (hl x)
  have hH : HoldsK (fun k => cvC (F k)) 5 w blk 0 ks.toArray := by
    intro j hj
    rw [size_flatK] at hj
    simp only [List.size_toArray] at hj
    refine ⟨?_, by rw [Nat.zero_add]; exact hfz j⟩
    rw [get_flatK _ _ _ _ (by simpa using hj), Nat.zero_add]
    have h1 : w.cell? ⟨blk, j, none⟩ = (cvsC (ks.map F))[j]? := World.ownsRow.cellAt ho2 j (by simpa using hj)
    rw [h1, cvsC_get _ _ (by simpa using hj)]
    have h2 : j / 5 < ks.length := by omega
    congr 2
    simp [h2]
  have hcmp : CmpLays Tryz.prog g #[] (fun k => cvC (F k)) 5 cfB blk 0 ks.toArray.size w := fun m os dk _ x y => by
    have h := hcl (F x) (F y) (sortWorldK (fun k => cvC (F k)) 5 w blk 0 m dk os)
    rw [hF, hF] at h
    exact h
  have hcon := AnyQ.slices_SortFunc Tryz.sortC 5 (fun w => by kernel_rfl) (fun w => by kernel_rfl) (fun k => cvC (F k)) hlen hone cfB swoB g #[] blk 0 cap ks.toArray w eg hcmp hH hblk (by simp; omega)
  refine hcon.mono ?_
  rintro e w' ⟨rfl, d', n, os, hp, hs, rfl⟩
  obtain ⟨hsz, _, hperm⟩ := hp
  have e1 : d'.extract 0 ks.toArray.size = d' := by rw [← hsz]; exact Array.extract_size
  rw [e1, Array.extract_size] at hperm
  have hsz2 : d'.toList.length = ks.length := by simpa using hsz
  have hH2 := holdsK_sortWorldK_c (fun k => cvC (F k)) 5 w blk 0 ks.toArray d' n os hH hblk hsz
  refine ⟨rfl, d'.toList, hperm, ?_, ?_, ?_⟩
  · rw [List.pairwise_iff_getElem]
    intro i j hi hj hij
    have h := hs i j (Nat.zero_le _) hij (by simp at hj ⊢; rw [hsz] at hj; simpa using hj)
    rw [getElem!_pos d' i (by simpa using hi), getElem!_pos d' j (by simpa using hj)] at h
    simpa using leB_of _ _ h
  · by_cases hz : ks.length = 0
    · rw [hz]
      refine .inl ⟨_, _, rfl, ?_⟩
      rw [List.length_eq_zero_iff.1 (hsz2.trans hz)]; rfl
    · refine .inr ⟨blk, 0, cap, by rw [List.length_map, hsz2], ⟨by rw [List.length_map, hsz2]; omega, by rw [List.length_map, hsz2]; exact hcap⟩, ?_, fun j u hj => ?_⟩
      · show blk < (grow _ os).heap.size
        rw [size_grow]
        unfold putRowK
        rw [size_putRow]
        have : (Sort.ahead w n).heap.size = w.heap.size := rfl
        omega
      · have hjl : j < (d'.toList.map F).length * 5 := by rw [← cvsC_len]; exact (List.getElem?_eq_some_iff.1 hj).1
        rw [List.length_map] at hjl
        have h3 := (hH2 j (by rw [size_flatK]; simpa using hjl)).1
        rw [get_flatK _ _ _ _ (by simpa using hjl)] at h3
        rw [h3, ← hj, cvsC_get _ _ (by rw [List.length_map]; exact hjl)]
        have h2 : j / 5 < d'.size := by simp at hjl; omega
        congr 2
        simp [List.getElem!_eq_getElem?_getD, h2]
  · refine ⟨rfl, rfl, rfl, ?_, fun k hk hne => ?_⟩
    · show w.heap.size ≤ (grow _ os).heap.size
      rw [size_grow]
      unfold putRowK
      rw [size_putRow]
      have : (Sort.ahead w n).heap.size = w.heap.size := rfl
      omega
    · show (grow _ os).heap[k]? = _
      unfold putRowK
      rw [heap_grow_old _ _ (by rw [size_putRow]; exact hk)]
      have h5 : blk ≠ k := fun e => hne (by rw [e])
      simp [putRow, mapBlock, Sort.ahead, Array.getElem?_modify, h5]
end Go.Proofs.YtpmnflnaeknakaaGreatDoor
