/-
  The contract of the document's VectorWrite: the runs.
-/
import Derived.Test.YthdflbaknfiglaaDoorVecRefJ
import Derived.Test.YthdflbaknfiglaaDoorVecWrite
import Derived.Test.YthdflbaknfiglaaDoorRefVary
import Derived.Test.YthdflbaknfiglaaDoorVecAppend
import Derived.Deep.RegionHeld3
import Derived.RegionTactic
namespace Go.Proofs.YthdflbaknfiglaaDoor
open Go.RowKit

/-- The runs, the one at hand among them. -/
def cutB : List Ent → Int → List Ent → List (List Ent)
  | cur, _, [] => [cur]
  | cur, p, e :: r => if p + 1 = e.rep then cutB (cur ++ [e]) e.rep r else cur :: cutB [e] e.rep r
theorem cutB_on {cur r : List Ent} {p : Int} {e : Ent} (h : p + 1 = e.rep) : cutB cur p (e :: r) = cutB (cur ++ [e]) e.rep r := by rw [cutB, if_pos h]
theorem cutB_cut {cur r : List Ent} {p : Int} {e : Ent} (h : ¬ p + 1 = e.rep) : cutB cur p (e :: r) = cur :: cutB [e] e.rep r := by rw [cutB, if_neg h]
theorem cutB_is (r : List Ent) : ∀ (cur : List Ent) (e : Ent) (last : Int), okV last (e :: r) → cutA cur (e :: r) = cutB (cur ++ [e]) e.rep r := by
  induction r with
  | nil => intro cur e last _; rfl
  | cons d r ih =>
    intro cur e last h
    have hd := h.2.1
    rw [wrE_ok] at hd
    by_cases hg : e.rep + 1 < d.rep
    · rw [cutA_cut hg, cutB_cut (by omega), ih [] d e.rep h.2]; rfl
    · rw [cutA_on hg, cutB_on (by omega), ih (cur ++ [e]) d e.rep h.2]

theorem rvary_asV (n : Nat) (T : ByteArray) (w : World) (h : n ≤ 1099511627776) (hT : ⟨(putL n).toArray⟩ = T) :
    Calls Tryd.prog 41 #[.int .u64 (n : Int)] w fun e w' => e = .returned (.string T) ∧ Below w.heap.size w w' := by
  subst hT
  exact rvary_any n w (by omega)

/-- The runs that are done, the one at hand, and what is to come. -/
def RunsAt (l : List Ent) (k : Nat) (R : List (List Ent)) (cur : List Ent) : Prop :=
  (k = 0 ∧ R = [] ∧ cur = []) ∨ ∃ j d, k = j + 1 ∧ l[j]? = some d ∧ R ++ cutB cur d.rep (l.drop k) = runsL l

def RVWriteIs (w : World) (l : List Ent) (e : Ending) (w' : World) : Prop :=
  e = .returned (.tuple #[.string ⟨(vwriteF l).toArray⟩, faultV (vrightF l)]) ∧ Below w.heap.size w w'

set_option maxRecDepth 100000 in
set_option maxHeartbeats 4000000 in
theorem rvwrite_bad (v : Value) (l : List Ent) (w : World) (hv : IsEnts w v l) (hl : l.length ≤ 9223372036854775807) (h0 : (vrightF l).1 ≠ 0) :
    Calls Tryd.prog 26 #[v] w (RVWriteIs w l) := by
  have HV := Lib.hid hv
  have HLL := Lib.hid hl
  have HW : Hid (vwriteF l = []) := Lib.hid (show vwriteF l = [] by unfold vwriteF; rw [if_neg h0])
  obtain ⟨a1, c1, rfl, _⟩ := hv.form
  obtain ⟨n, hn⟩ : ∃ n, n = l.length := ⟨_, rfl⟩
  rw [← hn] at HV ⊢
  obtain ⟨e, pl, hr⟩ : ∃ e pl, vrightF l = (e, pl) := ⟨_, _, rfl⟩
  rw [hr] at h0
  have HR := Lib.hid hr
  have HFV := Lib.hid (faultV_is hr)
  have hne : ((e : Int) == 0) = false := by simp; exact h0
  clear hv hl hn hr h0
  go_enter Tryd.func26, Tryd.ntmps26
  go_wp2_with fail
  refine (rvright_as _ l e pl _ (HV.out.alloc _) HLL.out HR.out).mono ?_
  rintro r w1 ⟨rfl, hb1⟩
  have hz1 := hb1.size
  rw [World.size_alloc] at hz1
  have x0 : w1.cell? ⟨w.heap.size, 0, none⟩ = some (.int .i64 0) := (hb1.cell (by simp)).trans (by simp)
  have x1 : w1.cell? ⟨w.heap.size, 1, none⟩ = some (.int .i64 0) := (hb1.cell (by simp)).trans (by simp)
  have y0 : w1.frozen? ⟨w.heap.size, 0, none⟩ = false := (hb1.frozen (by simp)).trans (by simp)
  have y1 : w1.frozen? ⟨w.heap.size, 1, none⟩ = false := (hb1.frozen (by simp)).trans (by simp)
  have HB1 : Hid (Below w.heap.size w w1) := ((Below.refl _ _).alloc (Nat.le_refl _) _).trans (hb1.mono (by simp))
  have hlt1 : w.heap.size < (w1.alloc (.cells #[.int .i64 e, .int .i64 pl] 29)).heap.size := by simp; omega
  have hlt0 : w.heap.size < w1.heap.size := by omega
  clear hb1
  go_wp2_with fail
  refine (is_any e pl _).mono ?_
  rintro r w2 ⟨rfl, hb2⟩
  rw [hne]
  have c0 : w2.cell? ⟨w1.heap.size, 0, none⟩ = some (.int .i64 e) := (hb2.cell (by simp)).trans (by simp)
  have c1 : w2.cell? ⟨w1.heap.size, 1, none⟩ = some (.int .i64 pl) := (hb2.cell (by simp)).trans (by simp)
  have z0 : w2.cell? ⟨w.heap.size, 0, none⟩ = some (.int .i64 0) := (hb2.cell hlt1).trans ((((Below.refl _ _).alloc (Nat.le_refl _) _).cell hlt0).trans x0)
  have z1 : w2.cell? ⟨w.heap.size, 1, none⟩ = some (.int .i64 0) := (hb2.cell hlt1).trans ((((Below.refl _ _).alloc (Nat.le_refl _) _).cell hlt0).trans x1)
  have g0 : w2.frozen? ⟨w.heap.size, 0, none⟩ = false := (hb2.frozen hlt1).trans ((((Below.refl _ _).alloc (Nat.le_refl _) _).frozen hlt0).trans y0)
  have g1 : w2.frozen? ⟨w.heap.size, 1, none⟩ = false := (hb2.frozen hlt1).trans ((((Below.refl _ _).alloc (Nat.le_refl _) _).frozen hlt0).trans y1)
  have HB2 : Hid (Below w.heap.size w w2) := (HB1.out.alloc HB1.out.size _).trans (hb2.mono (by have := HB1.out.size; simp; omega))
  clear hb2 x0 x1 y0 y1 hlt1
  go_wp2
  go_region
  go_wp2
  all_goals
    refine bodyPost_ret (v := .tuple #[.string ⟨#[]⟩, .agg #[.int .i64 e, .int .i64 pl]]) (by simp [results, Tryd.results26, go_sem, z0, z1]) rfl ?_
    refine ⟨by rw [HW.out, HFV.out], ?_⟩
    first
      | exact ((HB2.out.drew).setCell (Nat.le_refl _) _).setCell (Nat.le_refl _) _
      | exact ((HB2.out.setCell (Nat.le_refl _) _).setCell (Nat.le_refl _) _).drew
/-- The runs that are done, in memory: rows of their own, below B. -/
def areD (w : World) (B : Nat) : List Value → List (List Ent) → Prop
  | [], [] => True
  | v :: vs, r :: rs => ownsE w 0 v r ∧ (∀ k, v.ownBlock = some k → k < B) ∧ areD w B vs rs
  | _, _ => False
theorem areD_len {w : World} {B : Nat} {vs : List Value} : ∀ {rs : List (List Ent)}, areD w B vs rs → vs.length = rs.length := by
  induction vs with
  | nil => intro rs h; cases rs with
    | nil => rfl
    | cons r rs => exact h.elim
  | cons v vs ih => intro rs h; cases rs with
    | nil => exact h.elim
    | cons r rs => simp [ih h.2.2]
theorem areD_kept {w w' : World} {B B' : Nat} {row : Option Nat} (hg : w.grownBy w' row) (hB : B ≤ B') (hne : ∀ v r, ownsE w 0 v r → (∀ k, v.ownBlock = some k → k < B) → v.ownBlock = none ∨ v.ownBlock ≠ row) {vs : List Value} : ∀ {rs : List (List Ent)}, areD w B vs rs → areD w' B' vs rs := by
  induction vs with
  | nil => intro rs h; cases rs with
    | nil => trivial
    | cons r rs => exact h.elim
  | cons v vs ih => intro rs h; cases rs with
    | nil => exact h.elim
    | cons r rs => exact ⟨World.ownsRow.kept h.1 hg (hne v r h.1 h.2.1), fun k hk => Nat.lt_of_lt_of_le (h.2.1 k hk) hB, ih h.2.2⟩
theorem areD_snoc {w : World} {B : Nat} {vs : List Value} {v : Value} {r : List Ent} (hv : ownsE w 0 v r) (hb : ∀ k, v.ownBlock = some k → k < B) : ∀ {rs : List (List Ent)}, areD w B vs rs → areD w B (vs ++ [v]) (rs ++ [r]) := by
  induction vs with
  | nil => intro rs h; cases rs with
    | nil => exact ⟨hv, hb, trivial⟩
    | cons r rs => exact h.elim
  | cons v vs ih => intro rs h; cases rs with
    | nil => exact h.elim
    | cons r rs => exact ⟨h.1, h.2.1, ih h.2.2⟩
theorem areD_are {w : World} {B : Nat} {vs : List Value} : ∀ {rs : List (List Ent)}, areD w B vs rs → areE w vs rs := by
  induction vs with
  | nil => intro rs h; cases rs with
    | nil => trivial
    | cons r rs => exact h.elim
  | cons v vs ih => intro rs h; cases rs with
    | nil => exact h.elim
    | cons r rs => exact ⟨h.1.is, ih h.2.2⟩
theorem grown_below {w w' : World} (h : Below w.heap.size w w') : w.grownBy w' none := ⟨h.os, h.tape, h.output, h.size, fun k hk _ => h.block k hk⟩
theorem own_apartV {w : World} {base base' : Nat} {e1 e2 : TypeId} {k1 k2 n1 n2 : Nat} {v1 v2 : Value} {x1 x2 : List Value} (h1 : w.ownsRow base e1 k1 v1 n1 x1) (h2 : w.ownsRow base' e2 k2 v2 n2 x2) (hne : e1 ≠ e2) :
    v1.ownBlock = none ∨ v1.ownBlock ≠ v2.ownBlock := by
  rcases h1.2 with ⟨rfl, _⟩ | ⟨g, cap, cur, rfl, _, hh, _⟩
  · exact .inl rfl
  · refine .inr ?_
    rcases h2.2 with ⟨rfl, _⟩ | ⟨g', cap', cur', rfl, _, hh', _⟩
    · simp [Value.ownBlock]
    · intro e
      have : g = g' := by simpa [Value.ownBlock] using e
      subst this
      rw [hh] at hh'
      injection hh' with hh'
      injection hh' with _ ht
      exact hne ht

/-- What the first loop keeps: the runs that are done, below where the last one lies; the last one. -/
def RW (w : World) (rv : Value) (R : List (List Ent)) (cur : List Ent) (wr : World) : Prop :=
  ∃ (g cap B : Nat) (vs : List Value) (v : Value), rv = .slice (some ⟨g, 0, none⟩) (vs.length + 1) cap ∧ ownsR wr (w.heap.size + 1) rv (vs ++ [v]) ∧ areD wr B vs R ∧ ownsE wr B v cur ∧ w.heap.size + 1 ≤ B ∧ B ≤ wr.heap.size
theorem RW.below {w wr w' : World} {rv : Value} {R : List (List Ent)} {cur : List Ent} (h : RW w rv R cur wr) (hb : Below wr.heap.size wr w') : RW w rv R cur w' := by
  obtain ⟨g, cap, B, vs, v, h1, h2, h3, h4, h5, h6⟩ := h
  exact ⟨g, cap, B, vs, v, h1, h2.below hb, areD_kept (grown_below hb) (Nat.le_refl _) (fun u r _ _ => by cases hu : u.ownBlock with
    | none => exact .inl rfl
    | some k => exact .inr (by simp)) h3, h4.below hb, h5, Nat.le_trans h6 hb.size⟩
/-- The last run grew by one, and was stored. -/
theorem RW.grow {w w2 w3 : World} {g cap B g2 cap2 m : Nat} {vs : List Value} {v : Value} {R : List (List Ent)} {cur cur2 : List Ent}
    (ho : ownsR w2 (w.heap.size + 1) (.slice (some ⟨g, 0, none⟩) (vs.length + 1) cap) (vs ++ [v])) (ha : areD w2 B vs R) (he : ownsE w2 B v cur) (hB1 : w.heap.size + 1 ≤ B) (hB2 : B ≤ w2.heap.size)
    (ho3 : ownsE w3 B (.slice (some ⟨g2, 0, none⟩) m cap2) cur2) (hg3 : w2.grownBy w3 v.ownBlock) (hr : v.ownBlock = some g2 ∨ g2 = w2.heap.size) :
    RW w (.slice (some ⟨g, 0, none⟩) (vs.length + 1) cap) R cur2 (w3.setCell ⟨g, vs.length, none⟩ (.slice (some ⟨g2, 0, none⟩) m cap2)) ∧ w2.grownBy w3 v.ownBlock ∧ B ≤ g2 := by
  have hog := ho.lt g rfl
  have hap : v.ownBlock ≠ some g := fun e => by
    rcases own_apartV he ho (show 40 ≠ 22 by decide) with h | h
    · rw [h] at e; cases e
    · exact h e
  have ho4 : ownsR w3 (w.heap.size + 1) (.slice (some ⟨g, 0, none⟩) (vs.length + 1) cap) (vs ++ [v]) := World.ownsRow.kept ho hg3 (.inr (fun e => hap e.symm))
  obtain ⟨ho5, hg5⟩ := ho4.stored rfl (.slice (some ⟨g2, 0, none⟩) m cap2)
  have hne : g2 ≠ g := by
    rcases hr with hr | hr
    · intro e; rw [e] at hr; exact hap hr
    · omega
  have ha3 : areD w3 B vs R := areD_kept hg3 (Nat.le_refl _) (fun u r _ hu => by
    cases huo : u.ownBlock with
    | none => exact .inl rfl
    | some k =>
      refine .inr (fun e => ?_)
      have h1 := hu k huo
      have h2 := (he.lt k e.symm).1
      omega) ha
  refine ⟨⟨g, cap, B, vs, _, rfl, ho5, areD_kept hg5 (Nat.le_refl _) (fun u r hu _ => ?_) ha3, World.ownsRow.kept ho3 hg5 (.inr (by simp [Value.ownBlock]; exact hne)), hB1, Nat.le_trans hB2 (Nat.le_trans hg3.size hg5.size)⟩, hg3, (ho3.lt g2 rfl).1⟩
  rcases own_apartV hu ho4 (show 40 ≠ 22 by decide) with h | h
  · exact .inl h
  · exact .inr h
/-- A new run, with nothing in it yet, behind those that are done and the last one. -/
theorem RW.cut {w wr w2 w3 : World} {g cap B g2 cap2 : Nat} {vs : List Value} {v : Value} {R : List (List Ent)} {cur : List Ent}
    (ho : ownsR wr (w.heap.size + 1) (.slice (some ⟨g, 0, none⟩) (vs.length + 1) cap) (vs ++ [v])) (ha : areD wr B vs R) (he : ownsE wr B v cur) (hB1 : w.heap.size + 1 ≤ B) (hB2 : B ≤ wr.heap.size)
    (h2 : Below wr.heap.size wr w2) (ho3 : ownsR w3 (w.heap.size + 1) (.slice (some ⟨g2, 0, none⟩) (vs.length + 1 + 1) cap2) ((vs ++ [v]) ++ [.slice none 0 0])) (hg3 : w2.grownBy w3 (some g)) :
    RW w (.slice (some ⟨g2, 0, none⟩) ((vs ++ [v]).length + 1) cap2) (R ++ [cur]) [] w3 := by
  have he0 : ownsE wr 0 v cur := he.mono (Nat.zero_le _)
  have ha1 : areD wr wr.heap.size (vs ++ [v]) (R ++ [cur]) := areD_snoc he0 (fun k hk => (he.lt k hk).2) (areD_kept (grown_below (Below.refl _ wr)) hB2 (fun u r _ _ => by cases hu : u.ownBlock with
    | none => exact .inl rfl
    | some k => exact .inr (by simp)) ha)
  have ho2 : ownsR w2 (w.heap.size + 1) (.slice (some ⟨g, 0, none⟩) (vs.length + 1) cap) (vs ++ [v]) := ho.below h2
  have ha2 : areD w2 wr.heap.size (vs ++ [v]) (R ++ [cur]) := areD_kept (grown_below h2) (Nat.le_refl _) (fun u r _ _ => by cases hu : u.ownBlock with
    | none => exact .inl rfl
    | some k => exact .inr (by simp)) ha1
  refine ⟨g2, cap2, wr.heap.size, vs ++ [v], .slice none 0 0, rfl, ?_, areD_kept hg3 (Nat.le_refl _) (fun u r hu _ => ?_) ha2, ownsE_nil _ _, by omega, Nat.le_trans h2.size hg3.size⟩
  · have e : (vs ++ [v]).length + 1 = vs.length + 1 + 1 := by simp
    rw [e]; exact ho3
  · rcases own_apartV hu ho2 (show 40 ≠ 22 by decide) with h | h
    · exact .inl h
    · exact .inr h
end Go.Proofs.YthdflbaknfiglaaDoor
