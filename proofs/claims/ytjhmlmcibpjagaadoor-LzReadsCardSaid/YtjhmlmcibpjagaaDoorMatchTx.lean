/-
  Chapter 4, plain: a text's tokens are right, make the text, and no two of their own stand beside each other.
-/
import Derived.Test.YtjhmlmcibpjagaaDoorMatchT
namespace Go.Proofs.YtjhmlmcibpjagaaDoor

theorem repL_take (l : List UInt8) (a b n : Nat) (h1 : 1 ≤ b) (ha : b ≤ a) (hn : a + n ≤ l.length) (h : ∀ j, j < n → l.getD (a + j) 0 = l.getD (a + j - b) 0) :
    ∀ m, m ≤ n → repL (l.take (a + (n - m))) b m = l.take (a + n) := by
  intro m
  induction m with
  | zero => intro _; rw [Nat.sub_zero]; rfl
  | succ m ih =>
    intro hm
    have hlt : a + (n - (m + 1)) < l.length := by omega
    rw [repL]
    have e : l.take (a + (n - (m + 1))) ++ [(l.take (a + (n - (m + 1)))).getD ((l.take (a + (n - (m + 1)))).length - b) 0] = l.take (a + (n - m)) := by
      rw [show a + (n - m) = a + (n - (m + 1)) + 1 by omega, List.take_succ_eq_append_getElem hlt]
      congr 2
      rw [List.length_take, Nat.min_eq_left (by omega)]
      have h2 := h (n - (m + 1)) (by omega)
      have h3 : l.getD (a + (n - (m + 1))) 0 = l[a + (n - (m + 1))] := by simp [hlt]
      rw [← h3, h2, List.getD_eq_getElem?_getD, List.getD_eq_getElem?_getD, List.getElem?_take_of_lt (by omega)]
    rw [e]
    exact ih (by omega)

theorem wrongN_own (s : List UInt8) (a : Nat) (hs : s ≠ []) (h : a + s.length ≤ 20000) : wrongN ⟨⟨s.toArray⟩, 0, 0⟩ a = 0 := by
  have hz : s.length ≠ 0 := fun e => hs (List.length_eq_zero_iff.1 e)
  unfold wrongN
  simp only [bs_size]
  rw [if_neg hz, if_neg (by simp), if_neg (by omega)]
theorem wrongN_rep (b n a : Nat) (h1 : 4 ≤ n) (h2 : n ≤ 67) (h3 : 1 ≤ b) (h4 : b ≤ 1024) (h5 : b ≤ a) (h6 : a + n ≤ 20000) : wrongN (repT b n) a = 0 := by
  unfold wrongN repT
  simp only
  rw [if_pos (show (⟨#[]⟩ : ByteArray).size = 0 from rfl), if_neg (by omega), if_neg (by omega), if_neg (by omega), if_neg (by omega)]
theorem lenT_own (s : List UInt8) : lenT ⟨⟨s.toArray⟩, 0, 0⟩ = s.length := by unfold lenT; simp only [bs_size]; rfl
theorem lenT_rep (b n : Nat) : lenT (repT b n) = n := by unfold lenT repT; simp only [Int.toNat_natCast]; show 0 + n = n; omega
theorem stepT_own (b s : List UInt8) : stepT b ⟨⟨s.toArray⟩, 0, 0⟩ = b ++ s := rfl
theorem stepT_rep (c : List UInt8) (b n : Nat) : stepT c (repT b n) = repL c b n := by
  unfold stepT repT
  simp only [Int.toNat_natCast]
  rw [List.append_nil]

/-- What is not written yet, written; then on. -/
theorem own_step (l : List UInt8) (fr a i : Nat) (r : List Tok) (hf : fr ≤ a) (ha : a ≤ l.length) (hl : l.length ≤ 20000) :
    ((rightF (ownT ((l.take a).drop fr) ++ r) i fr).1 = 0 ↔ (rightF r (if (l.take a).drop fr = [] then i else i + 1) a).1 = 0) ∧
    textL (l.take fr) (ownT ((l.take a).drop fr) ++ r) = textL (l.take a) r := by
  by_cases hz : (l.take a).drop fr = []
  · have e : fr = a := by
      have := congrArg List.length hz
      rw [List.length_drop, List.length_take] at this
      simp at this; omega
    subst e
    rw [hz, ownT_nil, if_pos rfl]
    exact ⟨Iff.rfl, rfl⟩
  · have hlen : ((l.take a).drop fr).length = a - fr := by rw [List.length_drop, List.length_take, Nat.min_eq_left ha]
    rw [ownT_cons hz, if_neg hz, List.singleton_append, rightF_ok (wrongN_own _ _ hz (by omega)), lenT_own, hlen, show fr + (a - fr) = a by omega, textL]
    refine ⟨Iff.rfl, ?_⟩
    rw [List.foldl_cons, stepT_own]
    have e : l.take fr = (l.take a).take fr := by rw [List.take_take, Nat.min_eq_left hf]
    rw [e, List.take_append_drop]; rfl

theorem tks_text (l : List UInt8) (hl : l.length ≤ 20000) : ∀ f fr a i, fr ≤ a → a ≤ l.length → l.length ≤ a + f →
    (rightF (tks l f fr a) i fr).1 = 0 ∧ textL (l.take fr) (tks l f fr a) = l := by
  intro f
  have hend : ∀ fr a i, fr ≤ a → a = l.length → (rightF (ownT ((l.take a).drop fr)) i fr).1 = 0 ∧ textL (l.take fr) (ownT ((l.take a).drop fr)) = l := by
    intro fr a i h1 h2
    have h := own_step l fr a i [] h1 (by omega) hl
    rw [List.append_nil] at h
    refine ⟨h.1.2 rfl, h.2.trans ?_⟩
    show l.take a = l
    rw [h2, List.take_length]
  induction f with
  | zero => intro fr a i h1 h2 h3; exact hend fr a i h1 (by omega)
  | succ f ih =>
    intro fr a i h1 h2 h3
    by_cases hlt : a < l.length
    · rcases find_cases l a with ⟨hz, _⟩ | ⟨b, n, hfn, _, hb1, hb2, hb3, hn1, hn2, hn3, hsm, _⟩
      · rw [tks_step hlt (by rw [hz])]
        exact ih fr (a + 1) i (by omega) (by omega) (by omega)
      · rw [tks_rep hlt hfn (by omega)]
        have h := own_step l fr a i (repT b n :: tks l f (a + n) (a + n)) h1 h2 hl
        rw [h.1, h.2, rightF_ok (wrongN_rep b n a hn1 hn2 hb1 hb2 hb3 (by omega)), lenT_rep]
        obtain ⟨k1, k2⟩ := ih (a + n) (a + n) ((if (l.take a).drop fr = [] then i else i + 1) + 1) (Nat.le_refl _) hn3 (by omega)
        refine ⟨k1, ?_⟩
        show textL (stepT (l.take a) (repT b n)) (tks l f (a + n) (a + n)) = l
        rw [stepT_rep]
        have hr := repL_take l a b n hb1 hb3 hn3 hsm.2.1 n (Nat.le_refl _)
        rw [Nat.sub_self, Nat.add_zero] at hr
        rw [hr]
        exact k2
    · rw [tks_end hlt]
      exact hend fr a i h1 (by omega)
theorem toks_text (l : List UInt8) (hl : l.length ≤ 20000) : rightF (toks l) 0 0 = (0, -1) ∧ textL [] (toks l) = l := by
  have h := tks_text l hl l.length 0 0 0 (Nat.le_refl _) (Nat.zero_le _) (by omega)
  rw [List.take_zero] at h
  exact ⟨rightF_any h.1, h.2⟩
theorem toks_nil (l : List UInt8) (hl : l.length ≤ 20000) : toks l = [] ↔ l = [] := by
  constructor
  · intro h
    have := (toks_text l hl).2
    rw [h] at this
    exact this.symm
  · intro h; subst h; rfl

/-- No two of their own stand beside each other. -/
def adj : List Tok → Prop
  | [] => True
  | [_] => True
  | t :: u :: r => (t.own.size = 0 ∨ u.own.size = 0) ∧ adj (u :: r)
theorem adj_cons {t : Tok} {r : List Tok} (h : t.own.size = 0) (hr : adj r) : adj (t :: r) := by
  cases r with
  | nil => trivial
  | cons u r => exact ⟨.inl h, hr⟩
theorem adj_own {s : List UInt8} {b n : Nat} {r : List Tok} (hr : adj r) : adj (ownT s ++ repT b n :: r) := by
  have h2 : adj (repT b n :: r) := adj_cons rfl hr
  unfold ownT
  split
  · exact h2
  · exact ⟨.inr rfl, h2⟩
theorem tks_adj (l : List UInt8) : ∀ f fr a, adj (tks l f fr a) := by
  intro f
  have ho : ∀ s, adj (ownT s) := fun s => by unfold ownT; split <;> trivial
  induction f with
  | zero => intro fr a; exact ho _
  | succ f ih =>
    intro fr a
    rw [tks]
    split
    · split
      · exact ih _ _
      · exact adj_own (ih _ _)
    · exact ho _
theorem adj_at {l : List Tok} (h : adj l) (i : Nat) (t u : Tok) (ht : l[i]? = some t) (hu : l[i + 1]? = some u) : t.own.size = 0 ∨ u.own.size = 0 := by
  induction l generalizing i with
  | nil => simp at ht
  | cons x r ih =>
    cases r with
    | nil => simp at hu
    | cons y r =>
      cases i with
      | zero =>
        simp at ht hu
        subst ht hu
        exact h.1
      | succ i => exact ih h.2 i (by simpa using ht) (by simpa using hu)
theorem tks_own (l : List UInt8) : ∀ f fr a, ∀ t ∈ tks l f fr a, t.own.size ≤ l.length := by
  intro f
  have ho : ∀ fr a, ∀ t ∈ ownT ((l.take a).drop fr), t.own.size ≤ l.length := fun fr a t h => by
    unfold ownT at h
    split at h
    · cases h
    · rw [List.mem_singleton.1 h]
      simp only [bs_size, List.length_drop, List.length_take]; omega
  induction f with
  | zero => intro fr a; exact ho _ _
  | succ f ih =>
    intro fr a t h
    rw [tks] at h
    split at h
    · split at h
      · exact ih _ _ t h
      · rcases List.mem_append.1 h with h | h
        · exact ho _ _ t h
        · rcases List.mem_cons.1 h with h | h
          · rw [h]; exact Nat.zero_le _
          · exact ih _ _ t h
    · exact ho _ _ t h
theorem tks_len (l : List UInt8) : ∀ f fr a, (tks l f fr a).length ≤ 2 * f + 1 := by
  intro f
  have ho : ∀ x : List UInt8, (ownT x).length ≤ 1 := fun x => by unfold ownT; split <;> simp
  induction f with
  | zero => intro fr a; exact ho _
  | succ f ih =>
    intro fr a
    rw [tks]
    split
    · split
      · have := ih fr (a + 1); omega
      · have := ih (a + (find l a).2) (a + (find l a).2)
        have h2 := ho ((l.take a).drop fr)
        rw [List.length_append, List.length_cons]
        omega
    · have := ho ((l.take a).drop fr); omega
end Go.Proofs.YtjhmlmcibpjagaaDoor
