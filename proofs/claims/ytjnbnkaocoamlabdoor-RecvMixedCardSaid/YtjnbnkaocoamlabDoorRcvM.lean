/-
  Plain mathematics of chapter 18: what came of a text, piece by piece; no Go text is named here.
-/
import Derived.Test.YtjnbnkaocoamlabDoorChkM
import Derived.Test.YtjnbnkaocoamlabDoorDskM
namespace Go.Proofs.YtjnbnkaocoamlabDoor

/-- A receiver: name and total (0: nothing came), the bytes that are there, what is saved, what is safe, how many records were written, its disk. -/
structure Rcv where
  nm : Nat
  tot : Nat
  came : Nat → Option UInt8
  saved : Nat
  safe : Nat
  marks : Nat
  d : Dsk
def rNew : Rcv := ⟨0, 0, fun _ => none, 0, 0, 0, dNew 140⟩
/-- How many are there, from i on, without a gap. -/
def offF (came : Nat → Option UInt8) : Nat → Nat → Nat
  | 0, i => i
  | f + 1, i => if (came i).isSome then offF came f (i + 1) else i
theorem offF_spec (came : Nat → Option UInt8) (f : Nat) : ∀ i, i ≤ offF came f i ∧ offF came f i ≤ i + f ∧ (∀ j, i ≤ j → j < offF came f i → (came j).isSome = true) ∧ (offF came f i < i + f → came (offF came f i) = none) := by
  induction f with
  | zero => intro i; exact ⟨Nat.le_refl _, Nat.le_refl _, fun j h1 h2 => absurd h2 (by show ¬ j < i; omega), fun h => absurd h (by show ¬ i < i + 0; omega)⟩
  | succ f ih =>
    intro i
    by_cases h : (came i).isSome = true
    · have e : offF came (f + 1) i = offF came f (i + 1) := by rw [offF, if_pos h]
      rw [e]
      obtain ⟨h1, h2, h3, h4⟩ := ih (i + 1)
      refine ⟨by omega, by omega, fun j hj hl => ?_, fun hl => h4 (by omega)⟩
      by_cases hji : j = i
      · rw [hji]; exact h
      · exact h3 j (by omega) hl
    · have e : offF came (f + 1) i = i := by rw [offF, if_neg h]
      rw [e]
      refine ⟨Nat.le_refl _, by omega, fun j h1 h2 => by omega, fun _ => ?_⟩
      cases hc : came i with
      | none => rfl
      | some b => rw [hc] at h; exact absurd rfl h
def offR (r : Rcv) : Nat := offF r.came (r.tot + 1) 0
theorem off_is {came : Nat → Option UInt8} {f k : Nat} (h1 : ∀ j, j < k → (came j).isSome = true) (h2 : came k = none) (hf : k < f) : offF came f 0 = k := by
  obtain ⟨_, b, c, d⟩ := offF_spec came f 0
  rcases Nat.lt_trichotomy (offF came f 0) k with h | h | h
  · have := h1 _ h
    rw [d (by omega)] at this
    cases this
  · exact h
  · have := c k (by omega) h
    rw [h2] at this
    cases this
/-- What is wrong with a piece that comes (0: nothing). -/
def takeE (r : Rcv) (c : Chk) : Nat := if r.tot ≠ 0 ∧ (r.nm ≠ c.nm ∨ (r.tot : Int) ≠ c.tot) then 6 else 0
def rTake (r : Rcv) (c : Chk) : Rcv :=
  ⟨c.nm, c.tot.toNat, fun i => if (r.came i).isSome then r.came i else if c.pos.toNat ≤ i ∧ i < c.pos.toNat + c.dat.size then c.dat.data.toList[i - c.pos.toNat]? else none, r.saved, r.safe, r.marks, r.d⟩
def textR (r : Rcv) : List UInt8 := (List.range r.tot).map (fun i => (r.came i).getD 0)
/-- What is wrong with the text (0: nothing). -/
def textE (r : Rcv) : Nat := if r.tot = 0 then 8 else if offR r < r.tot then 7 else if sum (textR r) ≠ r.nm then 15 else 0
/-- Of a text those bytes are there that S tells; nothing else is. -/
structure Part (s : ByteArray) (S : Nat → Prop) (r : Rcv) : Prop where
  nm : r.nm = sum s.data.toList
  tot : r.tot = s.size
  have_ : ∀ i, i < s.size → S i → r.came i = s.data.toList[i]?
  none_ : ∀ i, ¬ (i < s.size ∧ S i) → r.came i = none
theorem Part.congr {s : ByteArray} {S T : Nat → Prop} {r : Rcv} (h : Part s S r) (e : ∀ i, i < s.size → (S i ↔ T i)) : Part s T r :=
  ⟨h.nm, h.tot, fun i hi ht => h.have_ i hi ((e i hi).2 ht), fun i hn => h.none_ i (fun hh => hn ⟨hh.1, (e i hh.1).1 hh.2⟩)⟩
theorem piece_byte (s : ByteArray) (z k i : Nat) (h1 : k * z ≤ i) (h2 : i < k * z + z) (h3 : i < s.size) : (piece s z k).dat.data.toList[i - k * z]? = s.data.toList[i]? := by
  show (s.extract (k * z) (min (k * z + z) s.size)).data.toList[i - k * z]? = _
  rw [ByteArray.data_extract, Array.toList_extract]
  show (List.take (min (k * z + z) s.size - k * z) (List.drop (k * z) s.data.toList))[i - k * z]? = _
  rw [List.getElem?_take, if_pos (by omega), List.getElem?_drop]
  congr 1
  omega
/-- A piece of it that comes. -/
theorem part_take {s : ByteArray} {S : Nat → Prop} {r : Rcv} (h : Part s S r ∨ (r.tot = 0 ∧ (∀ i, r.came i = none) ∧ ∀ i, ¬ S i)) {z k : Nat} (hk : k * z < s.size) : takeE r (piece s z k) = 0 ∧ Part s (fun i => S i ∨ (k * z ≤ i ∧ i < k * z + z)) (rTake r (piece s z k)) := by
  have hsz := piece_size s z k hk
  have hp : (piece s z k).pos.toNat = k * z := Int.toNat_natCast _
  have ht : (piece s z k).tot.toNat = s.size := Int.toNat_natCast _
  refine ⟨?_, rfl, ht, fun i hi hs => ?_, fun i hn => ?_⟩
  · unfold takeE
    rcases h with h | ⟨h, _, _⟩
    · rw [if_neg]
      intro hc
      rcases hc.2 with h1 | h1
      · exact h1 (by rw [h.nm]; rfl)
      · exact h1 (by rw [h.tot]; rfl)
    · rw [if_neg (by omega)]
  · show (if (r.came i).isSome then r.came i else if (piece s z k).pos.toNat ≤ i ∧ i < (piece s z k).pos.toNat + (piece s z k).dat.size then (piece s z k).dat.data.toList[i - (piece s z k).pos.toNat]? else none) = _
    rw [hp, hsz]
    have hno : (r.came i = s.data.toList[i]?) ∨ r.came i = none := by
      rcases h with h | ⟨_, h, _⟩
      · by_cases hsi : S i
        · exact .inl (h.have_ i hi hsi)
        · exact .inr (h.none_ i (fun hc => hsi hc.2))
      · exact .inr (h i)
    have hsome : (s.data.toList[i]?).isSome = true := by rw [List.getElem?_eq_getElem (show i < s.data.toList.length by simp; omega)]; rfl
    rcases hno with e | e
    · rw [e, if_pos hsome]
    · rw [e, if_neg (by simp)]
      have hin : k * z ≤ i ∧ i < k * z + z := by
        rcases hs with hs | hs
        · exfalso
          rcases h with h | ⟨_, _, h⟩
          · rw [h.have_ i hi hs] at e; rw [e] at hsome; cases hsome
          · exact h i hs
        · exact hs
      rw [if_pos ⟨hin.1, by omega⟩, piece_byte s z k i hin.1 hin.2 hi]
  · show (if (r.came i).isSome then r.came i else if (piece s z k).pos.toNat ≤ i ∧ i < (piece s z k).pos.toNat + (piece s z k).dat.size then (piece s z k).dat.data.toList[i - (piece s z k).pos.toNat]? else none) = _
    rw [hp, hsz]
    have e : r.came i = none := by
      rcases h with h | ⟨_, h, _⟩
      · exact h.none_ i (fun hc => hn ⟨hc.1, .inl hc.2⟩)
      · exact h i
    rw [e, if_neg (by simp), if_neg (fun hc => hn ⟨by omega, .inr ⟨hc.1, by omega⟩⟩)]
theorem part_off {s : ByteArray} {S : Nat → Prop} {r : Rcv} (h : Part s S r) {m : Nat} (hm : m ≤ s.size) (h1 : ∀ i, i < m → S i) (h2 : m < s.size → ¬ S m) : offR r = m := by
  unfold offR
  refine off_is (fun j hj => ?_) (h.none_ m (fun hc => h2 hc.1 hc.2)) (by rw [h.tot]; omega)
  rw [h.have_ j (by omega) (h1 j hj), List.getElem?_eq_getElem (show j < s.data.toList.length by simp; omega)]
  rfl
theorem part_text {s : ByteArray} {S : Nat → Prop} {r : Rcv} (h : Part s S r) (hs : 0 < s.size) (ha : ∀ i, i < s.size → S i) : textR r = s.data.toList ∧ textE r = 0 := by
  have ht : textR r = s.data.toList := by
    unfold textR
    rw [h.tot]
    apply List.ext_getElem?
    intro i
    rw [List.getElem?_map]
    by_cases hi : i < s.size
    · rw [List.getElem?_range hi]
      show some ((r.came i).getD 0) = _
      have hl : i < s.data.toList.length := by simp; omega
      rw [h.have_ i hi (ha i hi), List.getElem?_eq_getElem hl]
      rfl
    · rw [List.getElem?_eq_none (by simp; omega), List.getElem?_eq_none (by simp; omega)]
      rfl
  refine ⟨ht, ?_⟩
  unfold textE
  rw [if_neg (by rw [h.tot]; omega), part_off h (Nat.le_refl _) ha (fun hh => absurd hh (by omega)), h.tot, if_neg (by omega), ht, h.nm, if_neg (fun hh => hh rfl)]
theorem part_missing {s : ByteArray} {S : Nat → Prop} {r : Rcv} (h : Part s S r) (hs : 0 < s.size) {m : Nat} (hm : m < s.size) (h1 : ∀ i, i < m → S i) (h2 : ¬ S m) : textE r = 7 := by
  unfold textE
  rw [if_neg (by rw [h.tot]; omega), part_off h (by omega) h1 (fun _ => h2), h.tot, if_pos hm]
end Go.Proofs.YtjnbnkaocoamlabDoor
