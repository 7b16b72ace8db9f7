/-
  Keys, each once: the plain mathematics of tables and numbers in them.
-/
import Derived.WalkKit
namespace Go.Proofs.YtpmnflnaeknakaaGreatDoor

theorem beq_same (a : ByteArray) : (a.toList == a.toList) = true := by simp
theorem beq_diff {a b : ByteArray} (h : a ≠ b) : (a.toList == b.toList) = false := by
  refine beq_eq_false_iff_ne.2 fun e => h ?_
  rw [ByteArray.toList_eq, ByteArray.toList_eq] at e
  cases a; cases b; simp_all

instance memB (s : ByteArray) (t : List ByteArray) : Decidable (s ∈ t) := decidable_of_iff (t.any (fun x => decide (x = s)) = true) (by simp)

/-- Where a text stands first. -/
def idxB (t : List ByteArray) (s : ByteArray) : Nat := t.findIdx (fun x => decide (x = s))
def addK (t : List ByteArray) (s : ByteArray) : List ByteArray := if s ∈ t then t else t ++ [s]
def tabK : List ByteArray → List ByteArray → List ByteArray
  | t, [] => t
  | t, s :: r => tabK (addK t s) r
def atK : List ByteArray → List ByteArray → List Nat
  | _, [] => []
  | t, s :: r => idxB t s :: atK (addK t s) r

theorem idxB_lt {t : List ByteArray} {s : ByteArray} (h : s ∈ t) : idxB t s < t.length := by
  unfold idxB; exact List.findIdx_lt_length_of_exists ⟨s, h, by simp⟩
theorem idxB_get {t : List ByteArray} {s : ByteArray} (h : s ∈ t) : t[idxB t s]? = some s := by
  have h1 := idxB_lt h
  have h2 := List.findIdx_getElem (xs := t) (p := fun x => decide (x = s)) (w := h1)
  rw [List.getElem?_eq_getElem h1]
  simp only [decide_eq_true_eq] at h2
  exact congrArg some h2
theorem idxB_new {t : List ByteArray} {s : ByteArray} (h : s ∉ t) : idxB t s = t.length := by
  unfold idxB
  rw [List.findIdx_eq_length]
  intro x hx
  simp only [decide_eq_false_iff_not]
  rintro rfl; exact h hx
theorem idxB_at {t : List ByteArray} (hn : t.Nodup) {j : Nat} {s : ByteArray} (h : t[j]? = some s) : idxB t s = j := by
  have hm : s ∈ t := List.mem_of_getElem? h
  have h1 := idxB_get hm
  obtain ⟨hj, ej⟩ := List.getElem?_eq_some_iff.1 h
  obtain ⟨hi, ei⟩ := List.getElem?_eq_some_iff.1 h1
  exact (List.getElem_inj hn).1 (ei.trans ej.symm)
theorem idxB_snoc {t : List ByteArray} {s x : ByteArray} (h : s ∈ t) : idxB (t ++ [x]) s = idxB t s := by
  unfold idxB
  rw [List.findIdx_append, if_pos]
  exact List.findIdx_lt_length_of_exists ⟨s, h, by simp⟩

theorem addK_in {t : List ByteArray} {s : ByteArray} (h : s ∈ t) : addK t s = t := if_pos h
theorem addK_new {t : List ByteArray} {s : ByteArray} (h : s ∉ t) : addK t s = t ++ [s] := if_neg h
theorem addK_mem (t : List ByteArray) (s : ByteArray) : s ∈ addK t s := by
  unfold addK; split
  · assumption
  · simp
theorem addK_nodup {t : List ByteArray} {s : ByteArray} (h : t.Nodup) : (addK t s).Nodup := by
  unfold addK; split
  · exact h
  · rename_i hs
    rw [List.nodup_append]
    exact ⟨h, by simp, fun a ha b hb => by simp at hb; subst hb; rintro rfl; exact hs ha⟩
theorem addK_pre (t : List ByteArray) (s : ByteArray) : t <+: addK t s := by
  unfold addK; split
  · exact List.prefix_rfl
  · exact List.prefix_append _ _
theorem tabK_pre (r : List ByteArray) : ∀ t, t <+: tabK t r := by
  induction r with
  | nil => intro t; exact List.prefix_rfl
  | cons s r ih => intro t; exact (addK_pre t s).trans (ih _)
theorem tabK_nodup (r : List ByteArray) : ∀ t, t.Nodup → (tabK t r).Nodup := by
  induction r with
  | nil => intro t h; exact h
  | cons s r ih => intro t h; exact ih _ (addK_nodup h)
theorem tabK_app (a : List ByteArray) : ∀ t b, tabK t (a ++ b) = tabK (tabK t a) b := by
  induction a with
  | nil => intro t b; rfl
  | cons s r ih => intro t b; exact ih _ _
theorem atK_len (r : List ByteArray) : ∀ t, (atK t r).length = r.length := by
  induction r with
  | nil => intro t; rfl
  | cons s r ih => intro t; simp [atK, ih]
theorem tabK_len (r : List ByteArray) : ∀ t, (tabK t r).length ≤ t.length + r.length := by
  induction r with
  | nil => intro t; simp [tabK]
  | cons s r ih =>
    intro t
    have := ih (addK t s)
    have h2 : (addK t s).length ≤ t.length + 1 := by unfold addK; split <;> simp
    simp [tabK]; omega
theorem tabK_sub (r : List ByteArray) : ∀ t x, x ∈ tabK t r → x ∈ t ∨ x ∈ r := by
  induction r with
  | nil => intro t x h; exact .inl h
  | cons s r ih =>
    intro t x h
    rcases ih _ _ h with h1 | h1
    · unfold addK at h1
      split at h1
      · exact .inl h1
      · rcases List.mem_append.1 h1 with h2 | h2
        · exact .inl h2
        · simp at h2; subst h2; exact .inr (by simp)
    · exact .inr (List.mem_cons_of_mem _ h1)
theorem tabK_has (r : List ByteArray) : ∀ t x, x ∈ r → x ∈ tabK t r := by
  induction r with
  | nil => intro t x h; cases h
  | cons s r ih =>
    intro t x h
    rcases List.mem_cons.1 h with rfl | h
    · exact (tabK_pre r (addK t x)).subset (addK_mem t x)
    · exact ih _ _ h

/-! one round of Table, from the left: t the table, a the numbers so far -/
theorem tabK_in {l t : List ByteArray} {k : Nat} {s : ByteArray} (h : l[k]? = some s) (hs : s ∈ t) : tabK t (l.drop k) = tabK t (l.drop (k + 1)) := by
  obtain ⟨hk, e⟩ := List.getElem?_eq_some_iff.1 h
  rw [List.drop_eq_getElem_cons hk, e, tabK, addK_in hs]
theorem tabK_new {l t : List ByteArray} {k : Nat} {s : ByteArray} (h : l[k]? = some s) (hs : s ∉ t) : tabK t (l.drop k) = tabK (t ++ [s]) (l.drop (k + 1)) := by
  obtain ⟨hk, e⟩ := List.getElem?_eq_some_iff.1 h
  rw [List.drop_eq_getElem_cons hk, e, tabK, addK_new hs]
theorem atK_in {l t : List ByteArray} {k : Nat} {s : ByteArray} (h : l[k]? = some s) (hs : s ∈ t) : atK t (l.drop k) = idxB t s :: atK t (l.drop (k + 1)) := by
  obtain ⟨hk, e⟩ := List.getElem?_eq_some_iff.1 h
  rw [List.drop_eq_getElem_cons hk, e, atK, addK_in hs]
theorem atK_new {l t : List ByteArray} {k : Nat} {s : ByteArray} (h : l[k]? = some s) (hs : s ∉ t) : atK t (l.drop k) = t.length :: atK (t ++ [s]) (l.drop (k + 1)) := by
  obtain ⟨hk, e⟩ := List.getElem?_eq_some_iff.1 h
  rw [List.drop_eq_getElem_cons hk, e, atK, addK_new hs, idxB_new hs]

/-! List -/
/-- Where the first text stands that stood there already. -/
def dupG : List ByteArray → List ByteArray → Nat → Option Nat
  | _, [], _ => none
  | seen, s :: r, i => if s ∈ seen then some i else dupG (seen ++ [s]) r (i + 1)
/-- What is wrong with numbers of K keys, told of whom so many are: an error's number, its place. -/
def ordG (K : Nat) : Nat → List Int → Nat → Nat × Int
  | told, [], _ => if told < K then (8, -1) else (0, -1)
  | told, n :: r, i => if n < 0 ∨ (K : Int) ≤ n then (2, (i : Int)) else if (told : Int) < n then (13, (i : Int)) else ordG K (if n = told then told + 1 else told) r (i + 1)
def outG (T : List ByteArray) (l : List Int) : List ByteArray := l.map fun n => T.getD n.toNat ByteArray.empty
def listF (T : List ByteArray) (l : List Int) : List ByteArray × Nat × Int :=
  match dupG [] T 0 with
  | some i => ([], 9, (i : Int))
  | none => if (ordG T.length 0 l 0).1 = 0 then (outG T l, 0, -1) else ([], ordG T.length 0 l 0)

theorem dupG_nodup (r : List ByteArray) : ∀ seen i, seen.Nodup → (dupG seen r i = none ↔ (seen ++ r).Nodup) := by
  induction r with
  | nil => intro seen i h; simp [dupG, h]
  | cons s r ih =>
    intro seen i h
    unfold dupG
    split
    · rename_i hs
      simp only [reduceCtorEq, false_iff]
      intro hc
      rw [List.nodup_append] at hc
      exact hc.2.2 s hs s (by simp) rfl
    · rename_i hs
      have hn : (seen ++ [s]).Nodup := by have := addK_nodup (s := s) h; rwa [addK_new hs] at this
      rw [ih _ _ hn]
      simp
theorem dupG_bound (r : List ByteArray) : ∀ seen i j, dupG seen r i = some j → j < i + r.length := by
  induction r with
  | nil => intro seen i j h; simp [dupG] at h
  | cons s r ih =>
    intro seen i j h
    unfold dupG at h
    split at h
    · simp only [Option.some.injEq] at h; simp; omega
    · have := ih _ _ _ h; simp; omega
theorem ordG_zero (K : Nat) (l : List Int) : ∀ told i, (ordG K told l i).1 = 0 → ordG K told l i = (0, -1) := by
  induction l with
  | nil => intro told i h; unfold ordG at h ⊢; split at h <;> simp_all
  | cons n r ih =>
    intro told i h
    unfold ordG at h ⊢
    split at h
    · simp at h
    · split at h
      · simp at h
      · rename_i h1 h2
        rw [if_neg h1, if_neg h2]
        exact ih _ _ h

/-- All come back. -/
theorem ordG_atK (K : Nat) (r : List ByteArray) : ∀ t i, (tabK t r).length = K → ordG K t.length ((atK t r).map Int.ofNat) i = (0, -1) := by
  induction r with
  | nil => intro t i h; simp only [atK, List.map_nil, ordG]; rw [if_neg (by simp [tabK] at h; omega)]
  | cons s r ih =>
    intro t i h
    have hp : (addK t s).length ≤ K := by rw [← h]; exact (tabK_pre r (addK t s)).length_le
    rw [atK, List.map_cons, ordG]
    by_cases hs : s ∈ t
    · have h1 := idxB_lt hs
      have e := addK_in hs
      rw [e] at hp ⊢
      have hofN : Int.ofNat (idxB t s) = ((idxB t s : Nat) : Int) := rfl
      rw [hofN, if_neg (by omega), if_neg (by omega), if_neg (by omega)]
      have := ih t (i + 1) (by rw [← h, tabK, e])
      exact this
    · have h1 := idxB_new hs
      have e := addK_new hs
      rw [e] at hp ⊢
      have hofN : Int.ofNat (idxB t s) = ((t.length : Nat) : Int) := by rw [h1]; rfl
      simp only [List.length_append, List.length_singleton] at hp
      rw [hofN, if_neg (by omega), if_neg (by omega), if_pos rfl]
      have := ih (t ++ [s]) (i + 1) (by rw [← h, tabK, e])
      simpa using this
theorem outG_atK (r : List ByteArray) : ∀ t, outG (tabK t r) ((atK t r).map Int.ofNat) = r := by
  induction r with
  | nil => intro t; rfl
  | cons s r ih =>
    intro t
    have hh := ih (addK t s)
    unfold outG at hh ⊢
    rw [atK, List.map_cons, List.map_cons, tabK]
    congr 1
    have hx : (addK t s)[idxB t s]? = some s := by
      by_cases hs : s ∈ t
      · rw [addK_in hs]; exact idxB_get hs
      · rw [addK_new hs, idxB_new hs]; simp
    have hp := tabK_pre r (addK t s)
    obtain ⟨z, hz⟩ := hp
    have hlt : idxB t s < (addK t s).length := (List.getElem?_eq_some_iff.1 hx).1
    have : (tabK (addK t s) r)[idxB t s]? = some s := by rw [← hz, List.getElem?_append_left hlt]; exact hx
    simp [this]
theorem listF_table (l : List ByteArray) : listF (tabK [] l) ((atK [] l).map Int.ofNat) = (l, 0, -1) := by
  unfold listF
  have h1 : dupG [] (tabK [] l) 0 = none := (dupG_nodup _ _ _ (by simp)).2 (by simpa using tabK_nodup l [] (by simp))
  have h2 := ordG_atK (tabK [] l).length l [] 0 rfl
  simp only [List.length_nil] at h2
  rw [h1, h2]
  simp [outG_atK]

/-- Just one table. -/
theorem only_at (T : List ByteArray) (hn : T.Nodup) (l : List Int) : ∀ told i, told ≤ T.length → (ordG T.length told l i).1 = 0 →
    tabK (T.take told) (outG T l) = T ∧ (atK (T.take told) (outG T l)).map Int.ofNat = l := by
  induction l with
  | nil =>
    intro told i ht h
    unfold ordG at h
    split at h
    · simp at h
    · refine ⟨?_, rfl⟩
      simp only [outG, List.map_nil, tabK]
      exact List.take_of_length_le (by omega)
  | cons n r ih =>
    intro told i ht h
    unfold ordG at h
    split at h
    · simp at h
    · split at h
      · simp at h
      · rename_i h1 h2
        obtain ⟨j, rfl⟩ : ∃ j : Nat, n = j := ⟨n.toNat, by omega⟩
        have hjl : j < T.length := by omega
        have hout : outG T ((j : Int) :: r) = T[j] :: outG T r := by simp [outG, hjl]
        have hat : T[j]? = some T[j] := List.getElem?_eq_getElem hjl
        rw [hout, tabK, atK, List.map_cons]
        by_cases hjt : j = told
        · subst hjt
          rw [if_pos rfl] at h
          have hne : T[j] ∉ T.take j := by
            intro hc
            obtain ⟨m, hm⟩ := List.mem_iff_getElem?.1 hc
            have hmj : m < j := by have := (List.getElem?_eq_some_iff.1 hm).1; simp at this; omega
            rw [List.getElem?_take_of_lt hmj] at hm
            have e1 := idxB_at hn hm
            have e2 := idxB_at hn hat
            omega
          have e : addK (T.take j) T[j] = T.take (j + 1) := by rw [addK_new hne, List.take_append_getElem hjl]
          have ei : idxB (T.take j) T[j] = j := by rw [idxB_new hne, List.length_take]; omega
          rw [e, ei]
          obtain ⟨q1, q2⟩ := ih (j + 1) (i + 1) (by omega) h
          exact ⟨q1, by rw [q2]; rfl⟩
        · rw [if_neg (by omega)] at h
          have hjt2 : j < told := by omega
          have hm : (T.take told)[j]? = some T[j] := by rw [List.getElem?_take_of_lt hjt2]; exact hat
          have hin : T[j] ∈ T.take told := List.mem_of_getElem? hm
          have ei : idxB (T.take told) T[j] = j := idxB_at (hn.sublist (List.take_sublist _ _)) hm
          rw [addK_in hin, ei]
          obtain ⟨q1, q2⟩ := ih told (i + 1) ht h
          exact ⟨q1, by rw [q2]; rfl⟩
theorem listF_ok {T : List ByteArray} {l : List Int} (h : (listF T l).2.1 = 0) : listF T l = (outG T l, 0, -1) ∧ tabK [] (outG T l) = T ∧ (atK [] (outG T l)).map Int.ofNat = l := by
  unfold listF at h ⊢
  split at h
  · simp at h
  · rename_i hd
    have hn : T.Nodup := by simpa using (dupG_nodup T [] 0 (by simp)).1 hd
    split at h
    · rename_i ho
      rw [if_pos ho]
      have := only_at T hn l 0 0 (Nat.zero_le _) ho
      simp only [List.take_zero] at this
      exact ⟨rfl, this.1, this.2⟩
    · rename_i ho; exact absurd h ho
theorem listF_bad {T : List ByteArray} {l : List Int} (h : (listF T l).2.1 ≠ 0) : (listF T l).1 = [] := by
  unfold listF at h ⊢
  split
  · rfl
  · split
    · rename_i hd ho; rw [hd] at h; simp [ho] at h
    · rfl
end Go.Proofs.YtpmnflnaeknakaaGreatDoor
