/-
  What the maps of keys read as: texts and their numbers; texts that are there; numbers that were told of.
-/
import Derived.Maps.OwnSet
import Derived.Maps.OwnOps
import Derived.WalkKit
namespace Go.Proofs.YtjnbnkaocoamlabDoor
open Go.Maps

def keyL (s : ByteArray) : Lit := .string s.data.toList
theorem keyL_inj {a b : ByteArray} (h : keyL a = keyL b) : a = b := by
  unfold keyL at h
  cases a; cases b
  simpa using h
theorem keyL_key (s : ByteArray) : WideAt.IsKeyLit (keyL s) := trivial
theorem keyN (k : Int) : WideAt.IsKeyLit (.int .i64 k) := trivial

/-- D reads as: of each text of t, no two the same, where it stands. -/
structure NumM (D : DataW Unit) (t : List ByteArray) : Prop where
  isMap : IsMap D
  nodup : t.Nodup
  there : ∀ s, s ∈ t → has D (keyL s) = true
  none : ∀ s, s ∉ t → has D (keyL s) = false
  at' : ∀ s (j : Nat), t[j]? = some s → D.atKey (keyL s) (.lit (.int .i64 0)) = .lit (.int .i64 j)

theorem numM_nil : NumM (.map []) [] := ⟨isMap_empty, List.nodup_nil, fun _ h => (by cases h), fun _ _ => rfl, fun _ _ h => (by simp at h)⟩
theorem NumM.put {D : DataW Unit} {t : List ByteArray} (h : NumM D t) {s : ByteArray} (hs : s ∉ t) : NumM (D.put (keyL s) (.lit (.int .i64 t.length))) (t ++ [s]) := by
  refine ⟨h.isMap.put _ _, ?_, ?_, ?_, ?_⟩
  · rw [List.nodup_append]
    exact ⟨h.nodup, by simp, fun a ha b hb => by simp at hb; subst hb; rintro rfl; exact hs ha⟩
  · intro x hx
    rcases List.mem_append.1 hx with hx | hx
    · rw [has_put_other (fun e => hs (by rw [← keyL_inj e]; exact hx))]; exact h.there x hx
    · simp at hx; subst hx; exact has_put_same h.isMap (keyL_key _) _
  · intro x hx
    have h1 : x ∉ t := fun h => hx (List.mem_append_left _ h)
    have h2 : x ≠ s := fun e => hx (by rw [e]; simp)
    rw [has_put_other (fun e => h2 (keyL_inj e))]; exact h.none x h1
  · intro x j hj
    by_cases hlt : j < t.length
    · rw [List.getElem?_append_left hlt] at hj
      have hx : x ∈ t := List.mem_of_getElem? hj
      rw [atKey_put_other (fun e => hs (by rw [← keyL_inj e]; exact hx))]; exact h.at' x j hj
    · rw [List.getElem?_append_right (by omega)] at hj
      have hj0 : j - t.length = 0 := by have := (List.getElem?_eq_some_iff.1 hj).1; simpa using this
      rw [hj0] at hj
      simp at hj
      subst hj
      rw [atKey_put_same h.isMap (keyL_key _)]
      rw [show j = t.length by omega]

/-- D reads as: these texts are there. -/
structure SetM (D : DataW Unit) (t : List ByteArray) : Prop where
  isMap : IsMap D
  there : ∀ s, s ∈ t → D.atKey (keyL s) (.lit (.bool false)) = .lit (.bool true)
  none : ∀ s, s ∉ t → D.atKey (keyL s) (.lit (.bool false)) = .lit (.bool false)
theorem setM_nil : SetM (.map []) [] := ⟨isMap_empty, fun _ h => (by cases h), fun _ _ => rfl⟩
theorem SetM.put {D : DataW Unit} {t : List ByteArray} (h : SetM D t) (s : ByteArray) : SetM (D.put (keyL s) (.lit (.bool true))) (t ++ [s]) := by
  refine ⟨h.isMap.put _ _, ?_, ?_⟩
  · intro x hx
    by_cases e : x = s
    · subst e; rw [atKey_put_same h.isMap (keyL_key _)]
    · rw [atKey_put_other (fun h => e (keyL_inj h))]
      rcases List.mem_append.1 hx with hx | hx
      · exact h.there x hx
      · simp at hx; exact absurd hx e
  · intro x hx
    have h1 : x ∉ t := fun h => hx (List.mem_append_left _ h)
    have h2 : x ≠ s := fun e => hx (by rw [e]; simp)
    rw [atKey_put_other (fun e => h2 (keyL_inj e))]; exact h.none x h1

/-- D reads as: just the numbers below m are there. -/
structure ToldM (D : DataW Unit) (m : Nat) : Prop where
  tidy : Tidy D
  size : Maps.size D = m
  below : ∀ j : Nat, has D (.int .i64 j) = decide (j < m)
theorem toldM_nil : ToldM (.map []) 0 := ⟨tidy_empty, rfl, fun _ => rfl⟩
theorem ToldM.old {D : DataW Unit} {m j : Nat} (h : ToldM D m) (hj : j < m) : ToldM (D.put (.int .i64 j) (.lit (.bool true))) m := by
  refine ⟨h.tidy.put (keyN _) _, ?_, ?_⟩
  · rw [size_put h.tidy, h.below j, if_pos (by simpa using hj), h.size]
  · intro i
    by_cases e : i = j
    · subst e; rw [has_put_same h.tidy.isMap (keyN _)]; simp [hj]
    · rw [has_put_other (by simp; omega)]; exact h.below i
theorem ToldM.new {D : DataW Unit} {m : Nat} (h : ToldM D m) : ToldM (D.put (.int .i64 m) (.lit (.bool true))) (m + 1) := by
  refine ⟨h.tidy.put (keyN _) _, ?_, ?_⟩
  · rw [size_put h.tidy, h.below m, if_neg (by simp), h.size]
  · intro i
    by_cases e : i = m
    · subst e; rw [has_put_same h.tidy.isMap (keyN _)]; simp
    · rw [has_put_other (by simp; omega), h.below i]
      by_cases h1 : i < m
      · simp [h1]; omega
      · simp [h1]; omega

/-! a look-up of a bool, of a text -/
theorem plainElem_bool_inv {H : Type} {P : Program} {e : TypeId} (he : P.underlying e = some .bool) {v : Value} {z : DataW H × List MemPlace} (h : plainElem P e v = some z) : ∃ x, v = .bool x ∧ z = (.lit (.bool x), []) := by
  unfold plainElem at h
  rw [he] at h
  cases v <;> simp at h
  exact ⟨_, rfl, h.symm⟩
theorem plainElem_str_inv {H : Type} {P : Program} {e : TypeId} (he : P.underlying e = some .string) {v : Value} {z : DataW H × List MemPlace} (h : plainElem P e v = some z) : ∃ s : ByteArray, v = .string s ∧ z = (.lit (.string s.data.toList), []) := by
  unfold plainElem at h
  rw [he] at h
  cases v <;> simp at h
  exact ⟨_, rfl, h.2.symm⟩
/-- 'm[k]', in words: the value that is read, where what it reads as is known. -/
theorem wpList_lookup_own_is {H : Type} {P : Program} (w : World) {ops : Array Oper} {rest : List Oper} {o : Oper} {a : Act} {Q : Exit → Act → World → Prop}
    (hg : o.guard = none) (m x : Operand) (t : TypeId) (hop : o.op = Op.lookup t m x false)
    (k e : TypeId) (K : Keyed P k) (ht : P.underlying t = some (.map k e)) (R : Value → Option (DataW H × List MemPlace)) {z : Value} (hz : (zeroValue e).run P w = .ok z w) (zd : DataW H) (zp : List MemPlace) (hzd : R z = some (zd, zp)) (b n : Nat) (D : DataW H)
    (hm : a.eval m = .map (some b)) (hown : w.ownsMap P k R b n D) (key : Value) (kl : Lit) (hx : a.eval x = key) (hkey : keyOf P k key = some kl) (val : Value) (hval : ∀ v ps, R v = some (D.atKey kl zd, ps) → v = val)
    (hK : wpList P ops Q rest (a.put o.dst val) w) :
    wpList P ops Q (o :: rest) a w := by
  refine wpList_plain hg fun K' hK' => ?_
  obtain ⟨v, ps, hrun, hv⟩ := hown.lookup K ht hz hzd hkey
  unfold Oper.wp
  simp [execOp, hop, hm, hx, hrun, Result.andThen]
  rw [hval v ps hv]
  exact hK' _ _ hK
end Go.Proofs.YtjnbnkaocoamlabDoor
