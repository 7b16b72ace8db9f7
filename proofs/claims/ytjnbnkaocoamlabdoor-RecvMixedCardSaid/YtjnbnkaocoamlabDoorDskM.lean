/-
  Plain mathematics of chapter 17: sectors. What a disk holds behind what is done with it; no Go text is named here.
-/
import Derived.WalkKit
namespace Go.Proofs.YtjnbnkaocoamlabDoor

/-- A sector's bytes: a text, and 0 behind. -/
def padD (s : List UInt8) : List UInt8 := s ++ List.replicate (32 - s.length) 0
theorem padD_len {s : List UInt8} (h : s.length ≤ 32) : (padD s).length = 32 := by unfold padD; simp; omega
/-- A disk: how many sectors, what they have, what of it lasts, which were written since. -/
structure Dsk where
  n : Nat
  cur : Nat → List UInt8
  saf : Nat → List UInt8
  dir : Nat → Bool
def dNew (n : Nat) : Dsk := ⟨n, fun _ => padD [], fun _ => padD [], fun _ => false⟩
def dWr (d : Dsk) (at_ : Nat) (s : List UInt8) : Dsk := ⟨d.n, fun i => if i = at_ then padD s else d.cur i, d.saf, fun i => if i = at_ then true else d.dir i⟩
/-- What is wrong with a write (0: nothing). -/
def dwE (n : Nat) (at_ : Int) (len : Nat) : Nat := if at_ < 0 ∨ (n : Int) ≤ at_ then 2 else if 32 < len then 4 else 0
/-- Those that were written, rising. -/
def dirtyL (d : Dsk) : List Nat := (List.range d.n).filter d.dir
def dSync (d : Dsk) : Dsk := ⟨d.n, d.cur, d.cur, fun _ => false⟩
/-- Bit i of a mask; from the 64th one on the highest. -/
def bitD (mask i : Nat) : Bool := decide (mask / 2 ^ (min i 63) % 2 = 1)
/-- Whether a sector that was written lasts. -/
def lastsD (d : Dsk) (mask at_ : Nat) : Bool := bitD mask ((dirtyL d).idxOf at_)
def crashC (d : Dsk) (mask : Nat) (i : Nat) : List UInt8 := if d.dir i = true ∧ lastsD d mask i = false then d.saf i else d.cur i
def dCrash (d : Dsk) (mask : Nat) : Dsk := ⟨d.n, crashC d mask, crashC d mask, fun _ => false⟩
/-- What is not written lasts as it is; every sector has 32 bytes. -/
structure DskOk (d : Dsk) : Prop where
  same : ∀ i, i < d.n → d.dir i = false → d.cur i = d.saf i
  len : ∀ i, i < d.n → (d.cur i).length = 32
  lens : ∀ i, i < d.n → (d.saf i).length = 32
theorem dNew_ok (n : Nat) : DskOk (dNew n) := ⟨fun _ _ _ => rfl, fun _ _ => padD_len (by simp), fun _ _ => padD_len (by simp)⟩
theorem dWr_ok {d : Dsk} (h : DskOk d) (at_ : Nat) {s : List UInt8} (hs : s.length ≤ 32) : DskOk (dWr d at_ s) := by
  refine ⟨fun i hi hd => ?_, fun i hi => ?_, h.lens⟩
  · unfold dWr at hd ⊢
    simp only at hd ⊢
    by_cases e : i = at_
    · rw [if_pos e] at hd; cases hd
    · rw [if_neg e] at hd ⊢; exact h.same i hi hd
  · unfold dWr
    simp only
    split
    · exact padD_len hs
    · exact h.len i hi
theorem dSync_ok {d : Dsk} (h : DskOk d) : DskOk (dSync d) := ⟨fun _ _ _ => rfl, h.len, h.len⟩
theorem crashC_len {d : Dsk} (h : DskOk d) (mask i : Nat) (hi : i < d.n) : (crashC d mask i).length = 32 := by
  unfold crashC
  split
  · exact h.lens i hi
  · exact h.len i hi
theorem dCrash_ok {d : Dsk} (h : DskOk d) (mask : Nat) : DskOk (dCrash d mask) := ⟨fun _ _ _ => rfl, fun i hi => crashC_len h mask i hi, fun i hi => crashC_len h mask i hi⟩
theorem dirtyL_mem {d : Dsk} {i : Nat} : i ∈ dirtyL d ↔ i < d.n ∧ d.dir i = true := by unfold dirtyL; rw [List.mem_filter, List.mem_range]
theorem dirtyL_none {d : Dsk} (h : ∀ i, d.dir i = false) : dirtyL d = [] := by
  unfold dirtyL
  rw [List.filter_eq_nil_iff]
  intro i _
  rw [h i]
  simp
theorem dirty_sync (d : Dsk) : dirtyL (dSync d) = [] := dirtyL_none (fun _ => rfl)
theorem dirty_crash (d : Dsk) (mask : Nat) : dirtyL (dCrash d mask) = [] := dirtyL_none (fun _ => rfl)
/-- Behind a Sync a crash loses nothing. -/
theorem sync_lasts (d : Dsk) (mask i : Nat) : (dCrash (dSync d) mask).cur i = d.cur i := by
  show crashC (dSync d) mask i = _
  unfold crashC
  rw [if_neg (by simp [dSync])]
  rfl
/-- A sector behind a crash: as it was written last, if it was to last; else as it lasted. -/
theorem crash_each {d : Dsk} (h : DskOk d) (mask i : Nat) (hi : i < d.n) : (dCrash d mask).cur i = if i ∈ dirtyL d ∧ lastsD d mask i = true then d.cur i else d.saf i := by
  show crashC d mask i = _
  unfold crashC
  by_cases hd : d.dir i = true
  · by_cases hl : lastsD d mask i = true
    · rw [if_neg (by rw [hl]; simp), if_pos ⟨dirtyL_mem.2 ⟨hi, hd⟩, hl⟩]
    · rw [if_pos ⟨hd, by simpa using hl⟩, if_neg (fun h => hl h.2)]
  · rw [if_neg (fun h => hd h.1), if_neg (fun h => hd (dirtyL_mem.1 h.1).2)]
    exact h.same i hi (by simpa using hd)
/-- Writes and syncs, one behind the other (a write of too much does nothing). -/
structure Dab where
  at_ : Nat
  s : List UInt8
  syncs : Bool
def dDab (d : Dsk) (x : Dab) : Dsk := if x.syncs then dSync d else if 32 < x.s.length then d else dWr d x.at_ x.s
def dSpun (d : Dsk) (l : List Dab) : Dsk := l.foldl dDab d
theorem dDab_ok {d : Dsk} (h : DskOk d) (x : Dab) : DskOk (dDab d x) := by
  unfold dDab
  split
  · exact dSync_ok h
  · split
    · exact h
    · exact dWr_ok h _ (by omega)
theorem dDab_n (d : Dsk) (x : Dab) : (dDab d x).n = d.n := by unfold dDab dSync dWr; split <;> (try split) <;> rfl
theorem dSpun_ok (l : List Dab) : ∀ {d : Dsk}, DskOk d → DskOk (dSpun d l) := by
  induction l with
  | nil => intro d h; exact h
  | cons x r ih => intro d h; exact ih (dDab_ok h x)
theorem dSpun_n (l : List Dab) : ∀ d : Dsk, (dSpun d l).n = d.n := by
  induction l with
  | nil => intro d; rfl
  | cons x r ih => intro d; exact (ih _).trans (dDab_n d x)
theorem dSpun_app (a b : List Dab) (d : Dsk) : dSpun d (a ++ b) = dSpun (dSpun d a) b := List.foldl_append ..
/-- The text that was written last into a sector. -/
def lastW (i : Nat) (w : List UInt8) (l : List Dab) : List UInt8 := l.foldl (fun w x => if x.syncs = false ∧ x.s.length ≤ 32 ∧ x.at_ = i then x.s else w) w
theorem spun_last (l : List Dab) (i : Nat) : ∀ (d : Dsk) (w : List UInt8), d.cur i = padD w → (dSpun d l).cur i = padD (lastW i w l) := by
  induction l with
  | nil => intro d w h; exact h
  | cons x r ih =>
    intro d w h
    refine ih _ _ ?_
    show (dDab d x).cur i = padD (if x.syncs = false ∧ x.s.length ≤ 32 ∧ x.at_ = i then x.s else w)
    unfold dDab
    cases hx : x.syncs with
    | true => rw [if_pos rfl, if_neg (fun h => by cases h.1)]; exact h
    | false =>
      rw [if_neg (by simp)]
      by_cases h32 : 32 < x.s.length
      · rw [if_pos h32, if_neg (by omega)]; exact h
      · rw [if_neg h32]
        show (if i = x.at_ then padD x.s else d.cur i) = _
        by_cases e : i = x.at_
        · rw [if_pos e, if_pos ⟨rfl, by omega, e.symm⟩]
        · rw [if_neg e, if_neg (fun h => e h.2.2.symm)]; exact h
/-- Without a sync what lasts is as it was. -/
theorem spun_saf (l : List Dab) (hl : ∀ x ∈ l, x.syncs = false) : ∀ d : Dsk, (dSpun d l).saf = d.saf := by
  induction l with
  | nil => intro d; rfl
  | cons x r ih =>
    intro d
    refine (ih (fun y hy => hl y (List.mem_cons_of_mem _ hy)) _).trans ?_
    unfold dDab
    rw [hl x List.mem_cons_self, if_neg (by simp)]
    split <;> rfl
end Go.Proofs.YtjnbnkaocoamlabDoor
