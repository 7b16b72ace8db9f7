/-
  Plain mathematics of chapter 16: pieces. What is wrong with one, as bytes and back, and a text in pieces.
-/
import Derived.Test.YtjnbnkaocoamlabDoorVaryInt
import Derived.Test.YtjnbnkaocoamlabDoorCrcM
namespace Go.Proofs.YtjnbnkaocoamlabDoor

/-- A piece. -/
structure Chk where
  nm : Nat
  tot : Int
  pos : Int
  dat : ByteArray
/-- No piece. -/
def chk0 : Chk := ⟨0, 0, 0, ⟨#[]⟩⟩
/-- What is wrong with it (0: nothing). -/
def crE (t a : Int) (n : Nat) : Nat :=
  if t < 1 ∨ 4096 < t ∨ a < 0 ∨ t < a then 2 else if n < 1 ∨ 256 < n then 4 else if t - a < n then 2 else 0
theorem crE_ok {t a : Int} {n : Nat} : crE t a n = 0 ↔ 1 ≤ t ∧ t ≤ 4096 ∧ 0 ≤ a ∧ a ≤ t ∧ 1 ≤ n ∧ n ≤ 256 ∧ (n : Int) ≤ t - a := by
  unfold crE
  split
  · simp; omega
  · split
    · simp; omega
    · split
      · simp; omega
      · simp; omega
/-- A piece as bytes. -/
def pieceL (nm t a : Nat) (d : List UInt8) : List UInt8 := 67 :: (tail4 nm ++ (putL t ++ (putL a ++ d)))
def cwrL (c : Chk) : List UInt8 := sealL (pieceL c.nm c.tot.toNat c.pos.toNat c.dat.data.toList)
/-- The piece that bytes without their sum are, and an error (0: none). -/
def fillF (o : List UInt8) : Chk × Nat :=
  if o.take 1 ≠ [67] then (chk0, 5) else if o.length < 5 then (chk0, 7) else
  if (intL (o.drop 5) 4096).2.2 ≠ 0 then (chk0, (intL (o.drop 5) 4096).2.2) else
  if (intL (o.drop (5 + (intL (o.drop 5) 4096).2.1)) 4096).2.2 ≠ 0 then (chk0, (intL (o.drop (5 + (intL (o.drop 5) 4096).2.1)) 4096).2.2) else
  if crE (intL (o.drop 5) 4096).1 (intL (o.drop (5 + (intL (o.drop 5) 4096).2.1)) 4096).1 (o.drop (5 + (intL (o.drop 5) 4096).2.1 + (intL (o.drop (5 + (intL (o.drop 5) 4096).2.1)) 4096).2.1)).length ≠ 0 then
    (chk0, crE (intL (o.drop 5) 4096).1 (intL (o.drop (5 + (intL (o.drop 5) 4096).2.1)) 4096).1 (o.drop (5 + (intL (o.drop 5) 4096).2.1 + (intL (o.drop (5 + (intL (o.drop 5) 4096).2.1)) 4096).2.1)).length) else
  (⟨val ((o.drop 1).take 4), (intL (o.drop 5) 4096).1, (intL (o.drop (5 + (intL (o.drop 5) 4096).2.1)) 4096).1, ⟨(o.drop (5 + (intL (o.drop 5) 4096).2.1 + (intL (o.drop (5 + (intL (o.drop 5) 4096).2.1)) 4096).2.1)).toArray⟩⟩, 0)
def creadF (s : List UInt8) : Chk × Nat := if (openL s).2 ≠ 0 then (chk0, (openL s).2) else fillF (openL s).1

theorem fill_name {o : List UInt8} (h : o.take 1 ≠ [67]) : fillF o = (chk0, 5) := by unfold fillF; rw [if_pos h]
theorem fill_few {o : List UInt8} (h : o.take 1 = [67]) (h5 : o.length < 5) : fillF o = (chk0, 7) := by unfold fillF; rw [if_neg (by simp [h]), if_pos h5]
theorem fill_one {o : List UInt8} {e : Nat} (h : o.take 1 = [67]) (h5 : ¬ o.length < 5) (h1 : intL (o.drop 5) 4096 = (0, 0, e)) (he : e ≠ 0) : fillF o = (chk0, e) := by
  unfold fillF; rw [if_neg (by simp [h]), if_neg h5, h1, if_pos he]
theorem fill_two {o : List UInt8} {t k e : Nat} (h : o.take 1 = [67]) (h5 : ¬ o.length < 5) (h1 : intL (o.drop 5) 4096 = (t, k, 0)) (h2 : intL (o.drop (5 + k)) 4096 = (0, 0, e)) (he : e ≠ 0) : fillF o = (chk0, e) := by
  unfold fillF; rw [if_neg (by simp [h]), if_neg h5, h1, if_neg (by simp)]; simp only; rw [h2, if_pos he]
theorem fill_three {o : List UInt8} {t k a j : Nat} (h : o.take 1 = [67]) (h5 : ¬ o.length < 5) (h1 : intL (o.drop 5) 4096 = (t, k, 0)) (h2 : intL (o.drop (5 + k)) 4096 = (a, j, 0)) :
    fillF o = if crE t a (o.drop (5 + k + j)).length ≠ 0 then (chk0, crE t a (o.drop (5 + k + j)).length) else (⟨val ((o.drop 1).take 4), t, a, ⟨(o.drop (5 + k + j)).toArray⟩⟩, 0) := by
  unfold fillF; rw [if_neg (by simp [h]), if_neg h5, h1, if_neg (by simp)]; simp only; rw [h2, if_neg (by simp)]
theorem intL_cases (l : List UInt8) (m : Int) : (∃ e, intL l m = (0, 0, e) ∧ e ≠ 0) ∨ ∃ n k, intL l m = (n, k, 0) ∧ (n : Int) ≤ m ∧ 1 ≤ k ∧ k ≤ 10 ∧ k ≤ l.length ∧ putL n = l.take k := by
  rcases getL_cases l with ⟨e, h, he⟩ | ⟨n, k, h, hn, h1, h2, h3⟩
  · exact .inl ⟨e, intL_bad h he, he⟩
  · by_cases hm : m < 0 ∨ m < n
    · exact .inl ⟨2, intL_range h hm, by decide⟩
    · exact .inr ⟨n, k, intL_ok h hm, by omega, h1, h2, h3, (getL_only h).2.2⟩
/-- The five ways that it may go. -/
theorem fill_ways (o : List UInt8) : o.take 1 ≠ [67] ∨ (o.take 1 = [67] ∧ o.length < 5) ∨ (o.take 1 = [67] ∧ ¬ o.length < 5 ∧
    ((∃ e, intL (o.drop 5) 4096 = (0, 0, e) ∧ e ≠ 0) ∨ ∃ t k, intL (o.drop 5) 4096 = (t, k, 0) ∧ t ≤ 4096 ∧ 1 ≤ k ∧ 5 + k ≤ o.length ∧ putL t = (o.drop 5).take k ∧
      ((∃ e, intL (o.drop (5 + k)) 4096 = (0, 0, e) ∧ e ≠ 0) ∨ ∃ a j, intL (o.drop (5 + k)) 4096 = (a, j, 0) ∧ a ≤ 4096 ∧ 1 ≤ j ∧ 5 + k + j ≤ o.length ∧ putL a = (o.drop (5 + k)).take j))) := by
  by_cases h : o.take 1 = [67]
  · by_cases h5 : o.length < 5
    · exact .inr (.inl ⟨h, h5⟩)
    · refine .inr (.inr ⟨h, h5, ?_⟩)
      rcases intL_cases (o.drop 5) 4096 with h1 | ⟨t, k, h1, ht, hk, _, hl, hp⟩
      · exact .inl h1
      · rw [List.length_drop] at hl
        refine .inr ⟨t, k, h1, by omega, hk, by omega, hp, ?_⟩
        rcases intL_cases (o.drop (5 + k)) 4096 with h2 | ⟨a, j, h2, ha, hj, _, hl2, hp2⟩
        · exact .inl h2
        · rw [List.length_drop] at hl2
          exact .inr ⟨a, j, h2, by omega, hj, by omega, hp2⟩
  · exact .inl h
theorem intL_put (n : Nat) (m : List UInt8) (h : n ≤ 4096) : intL (putL n ++ m) 4096 = (n, (putL n).length, 0) := intL_ok (getL_put n m (by omega)) (by omega)
theorem mk_bytes (s : ByteArray) : (⟨s.data.toList.toArray⟩ : ByteArray) = s := by cases s; simp
/-- What is written is read. -/
theorem fill_piece (c : Chk) (hn : c.nm < 4294967296) (h : crE c.tot c.pos c.dat.size = 0) : fillF (pieceL c.nm c.tot.toNat c.pos.toNat c.dat.data.toList) = (c, 0) := by
  obtain ⟨nm, t, a, d⟩ := c
  simp only at hn h ⊢
  have hr := crE_ok.1 h
  obtain ⟨t, rfl⟩ := Int.eq_ofNat_of_zero_le (show 0 ≤ t by omega)
  obtain ⟨a, rfl⟩ := Int.eq_ofNat_of_zero_le (show 0 ≤ a by omega)
  simp only [Int.toNat_natCast]
  have d1 : (pieceL nm t a d.data.toList).drop 5 = putL t ++ (putL a ++ d.data.toList) := by
    unfold pieceL
    rw [show (5 : Nat) = 4 + 1 by rfl, List.drop_succ_cons, List.drop_left' (tail4_len nm)]
  have d2 : (pieceL nm t a d.data.toList).drop (5 + (putL t).length) = putL a ++ d.data.toList := by rw [← List.drop_drop, d1, List.drop_left]
  have d3 : (pieceL nm t a d.data.toList).drop (5 + (putL t).length + (putL a).length) = d.data.toList := by rw [← List.drop_drop, d2, List.drop_left]
  have d4 : ((pieceL nm t a d.data.toList).drop 1).take 4 = tail4 nm := by
    unfold pieceL
    rw [List.drop_succ_cons, List.drop_zero, List.take_left' (tail4_len nm)]
  have hz : d.data.toList.length = d.size := by simp
  rw [fill_three (t := t) (k := (putL t).length) (a := a) (j := (putL a).length) rfl (by unfold pieceL; simp [tail4_len]) (by rw [d1, intL_put _ _ (by omega)]) (by rw [d2, intL_put _ _ (by omega)])]
  rw [d3, d4, hz, h, if_neg (by decide), val_tail4 hn, mk_bytes]
theorem cread_write (c : Chk) (hn : c.nm < 4294967296) (h : crE c.tot c.pos c.dat.size = 0) : creadF (cwrL c) = (c, 0) := by
  unfold creadF cwrL
  rw [openL_seal, if_neg (by simp), fill_piece c hn h]
theorem fill_only {o : List UInt8} {c : Chk} (h : fillF o = (c, 0)) : c.nm < 4294967296 ∧ crE c.tot c.pos c.dat.size = 0 ∧ pieceL c.nm c.tot.toNat c.pos.toNat c.dat.data.toList = o := by
  rcases fill_ways o with h1 | ⟨h1, h2⟩ | ⟨h1, h2, ⟨e, h3, he⟩ | ⟨t, k, h3, ht, hk, hl, hp, ⟨e, h4, he⟩ | ⟨a, j, h4, ha, hj, hl2, hp2⟩⟩⟩
  · rw [fill_name h1] at h; injection h with _ h; omega
  · rw [fill_few h1 h2] at h; injection h with _ h; omega
  · rw [fill_one h1 h2 h3 he] at h; injection h with _ h; exact absurd h he
  · rw [fill_two h1 h2 h3 h4 he] at h; injection h with _ h; exact absurd h he
  · rw [fill_three h1 h2 h3 h4] at h
    by_cases hc : crE t a (o.drop (5 + k + j)).length = 0
    · rw [if_neg (fun hne => hne hc)] at h
      injection h with h _
      subst h
      have h4n : ((o.drop 1).take 4).length = 4 := by simp; omega
      have hv := val_lt ((o.drop 1).take 4)
      rw [h4n] at hv
      refine ⟨hv, ?_, ?_⟩
      · rw [← hc]; simp [ByteArray.size]
      · simp only [Int.toNat_natCast]
        have e4 : tail4 (val ((o.drop 1).take 4)) = (o.drop 1).take 4 := val_inj _ _ (by rw [h4n, tail4_len]) (val_tail4 hv)
        unfold pieceL
        rw [e4, hp, hp2]
        have a1 : (o.drop (5 + k)).take j ++ o.drop (5 + k + j) = o.drop (5 + k) := by
          have e : o.drop (5 + k + j) = (o.drop (5 + k)).drop j := by rw [List.drop_drop]
          rw [e]; exact List.take_append_drop _ _
        have a2 : (o.drop 5).take k ++ o.drop (5 + k) = o.drop 5 := by rw [← List.drop_drop, List.take_append_drop]
        have a3 : (o.drop 1).take 4 ++ o.drop 5 = o.drop 1 := by rw [show (5 : Nat) = 1 + 4 by rfl, ← List.drop_drop, List.take_append_drop]
        show 67 :: ((o.drop 1).take 4 ++ ((o.drop 5).take k ++ ((o.drop (5 + k)).take j ++ o.drop (5 + k + j)))) = o
        rw [a1, a2, a3]
        have := List.take_append_drop 1 o
        rw [h1] at this
        exact this
    · rw [if_pos hc] at h; injection h with _ h; exact absurd h hc
theorem cread_only {s : List UInt8} {c : Chk} (h : creadF s = (c, 0)) : c.nm < 4294967296 ∧ crE c.tot c.pos c.dat.size = 0 ∧ cwrL c = s := by
  unfold creadF at h
  obtain ⟨o, e, ho⟩ : ∃ o e, openL s = (o, e) := ⟨_, _, rfl⟩
  rw [ho] at h
  by_cases he : e = 0
  · subst he
    rw [if_neg (by simp)] at h
    obtain ⟨h1, h2, h3⟩ := fill_only h
    refine ⟨h1, h2, ?_⟩
    unfold cwrL
    rw [h3]
    exact openL_only ho
  · rw [if_pos he] at h; injection h with _ h; exact absurd h he
theorem cread_open {s : List UInt8} (h : (openL s).2 ≠ 0) : creadF s = (chk0, (openL s).2) := by unfold creadF; rw [if_pos h]
theorem fill_bad {o : List UInt8} {c : Chk} {e : Nat} (h : fillF o = (c, e)) (he : e ≠ 0) : c = chk0 := by
  rcases fill_ways o with h1 | ⟨h1, h2⟩ | ⟨h1, h2, ⟨e', h3, he'⟩ | ⟨t, k, h3, ht, hk, hl, hp, ⟨e', h4, he'⟩ | ⟨a, j, h4, ha, hj, hl2, hp2⟩⟩⟩
  · rw [fill_name h1] at h; injection h with h _; exact h.symm
  · rw [fill_few h1 h2] at h; injection h with h _; exact h.symm
  · rw [fill_one h1 h2 h3 he'] at h; injection h with h _; exact h.symm
  · rw [fill_two h1 h2 h3 h4 he'] at h; injection h with h _; exact h.symm
  · rw [fill_three h1 h2 h3 h4] at h
    by_cases hc : crE t a (o.drop (5 + k + j)).length = 0
    · rw [if_neg (fun hne => hne hc)] at h
      injection h with _ h
      exact absurd h.symm he
    · rw [if_pos hc] at h; injection h with h _; exact h.symm
theorem cread_bad {s : List UInt8} {c : Chk} {e : Nat} (h : creadF s = (c, e)) (he : e ≠ 0) : c = chk0 := by
  unfold creadF at h
  by_cases h0 : (openL s).2 = 0
  · rw [if_neg (by simp [h0])] at h; exact fill_bad h he
  · rw [if_pos h0] at h; injection h with h _; exact h.symm

/-- A text's piece number k, of so many bytes. -/
def piece (s : ByteArray) (z k : Nat) : Chk := ⟨sum s.data.toList, s.size, (k * z : Nat), s.extract (k * z) (min (k * z + z) s.size)⟩
/-- The first k pieces. -/
def cutK (s : ByteArray) (z k : Nat) : List Chk := (List.range k).map (piece s z)
/-- How many there are. -/
def cutN (n z : Nat) : Nat := (n + z - 1) / z
theorem cutK_len (s : ByteArray) (z k : Nat) : (cutK s z k).length = k := by simp [cutK]
theorem cutK_succ (s : ByteArray) (z k : Nat) : cutK s z (k + 1) = cutK s z k ++ [piece s z k] := by unfold cutK; rw [List.range_succ, List.map_append]; rfl
theorem cutK_at (s : ByteArray) (z k i : Nat) (h : i < k) : (cutK s z k)[i]? = some (piece s z i) := by unfold cutK; simp [h]
theorem cutN_lt {n z k : Nat} (hz : 0 < z) : k * z < n ↔ k < cutN n z := by
  unfold cutN
  rw [Nat.lt_div_iff_mul_lt hz]
  omega
theorem cutN_le (n z : Nat) (hz : 0 < z) : cutN n z ≤ n := by
  unfold cutN
  rw [Nat.div_le_iff_le_mul_add_pred hz]
  have : n ≤ z * n := Nat.le_mul_of_pos_left n hz
  omega
theorem cutN_end {n z k : Nat} (hz : 0 < z) (hk : k ≤ cutN n z) (h : ¬ k * z < n) : k = cutN n z := by
  have h2 : ¬ k < cutN n z := fun hk => h ((cutN_lt hz).2 hk)
  omega
theorem piece_size (s : ByteArray) (z k : Nat) (h : k * z < s.size) : (piece s z k).dat.size = min z (s.size - k * z) := by
  show (s.extract _ _).size = _
  rw [ByteArray.size_extract]
  omega
theorem piece_right (s : ByteArray) (z k : Nat) (h : k * z < s.size) (hs : s.size ≤ 4096) (h1 : 1 ≤ z) (h2 : z ≤ 256) : crE (piece s z k).tot (piece s z k).pos (piece s z k).dat.size = 0 := by
  rw [crE_ok, piece_size s z k h]
  unfold piece
  simp only
  omega
end Go.Proofs.YtjnbnkaocoamlabDoor
