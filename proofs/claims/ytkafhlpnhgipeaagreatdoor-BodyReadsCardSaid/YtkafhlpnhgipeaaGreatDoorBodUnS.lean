/-
  The reference's Unbody: what it keeps in memory on its way; a number of no more than -1.
-/
import Derived.Test.YtkafhlpnhgipeaaGreatDoorBodUnD
import Derived.Test.YtkafhlpnhgipeaaGreatDoorStrs2
namespace Go.Proofs.YtkafhlpnhgipeaaGreatDoor
open Go.RowKit

/-- The results, the scanner, what the call owns. -/
def US (w : World) (R : Nat) (s : ByteArray) (a : Nat) (vf vh vt vn vw : Value) (f h : List Ent) (T : List ByteArray) (N : List Nat) (W : List Wr) (wr : World) : Prop :=
  UD w wr vf vh vw 0 (-1) ∧ Sc wr R s a ∧ OB (R + 2) vf vh vt vn vw f h T N W wr ∧ w.heap.size + 2 ≤ R ∧ R + 2 ≤ wr.heap.size
section
variable {w wr w' : World} {R a b : Nat} {s : ByteArray} {vf vh vt vn vw : Value} {f h : List Ent} {T : List ByteArray} {N : List Nat} {W : List Wr}
theorem US.next (u : US w R s a vf vh vt vn vw f h T N W wr) (hs : Sc w' R s b) (hg : wr.grownBy w' (some R)) : US w R s b vf vh vt vn vw f h T N W w' :=
  ⟨u.1.kept hg (fun k hk => by injection hk with hk; have := u.2.2.2.1; omega), hs, u.2.2.1.keep hg (fun k hk => by injection hk with hk; omega), u.2.2.2.1, Nat.le_trans u.2.2.2.2 hg.size⟩
theorem US.below (u : US w R s a vf vh vt vn vw f h T N W wr) (hb : Below wr.heap.size wr w') : US w R s a vf vh vt vn vw f h T N W w' :=
  ⟨u.1.kept (row := none) ⟨hb.os, hb.tape, hb.output, hb.size, fun k hk _ => hb.block k hk⟩ (fun k hk => by cases hk), u.2.1.kept (row := none) ⟨hb.os, hb.tape, hb.output, hb.size, fun k hk _ => hb.block k hk⟩ (by simp), u.2.2.1.below hb, u.2.2.2.1, Nat.le_trans u.2.2.2.2 hb.size⟩
theorem US.alloc (u : US w R s a vf vh vt vn vw f h T N W wr) (o : Obj) : US w R s a vf vh vt vn vw f h T N W (wr.alloc o) := u.below ((Below.refl _ _).alloc (Nat.le_refl _) o)
theorem US.drew (u : US w R s a vf vh vt vn vw f h T N W wr) : US w R s a vf vh vt vn vw f h T N W wr.drew := u.below (Below.refl _ _).drew
/-- The scanner goes on. -/
theorem US.go (u : US w R s a vf vh vt vn vw f h T N W wr) : US w R s b vf vh vt vn vw f h T N W (wr.setCell ⟨R, 1, none⟩ (.int .i64 (b : Int))) :=
  u.next u.2.1.moved (grown_setQ wr R 1 _)
theorem own_noU {B X k n : Nat} {e t : TypeId} {v : Value} {xs : List Value} {cs : Array Value} {fr : Nat × Nat} (ho : wr.ownsRow B e k v n xs) (hX : wr.heap[X]? = some (.cells cs t fr)) (hne : e ≠ t) : v.ownBlock ≠ some X := by
  rcases ho.2 with ⟨rfl, _⟩ | ⟨g, cap, cur, rfl, _, hh, _⟩
  · simp [Value.ownBlock]
  · intro e'
    have : g = X := by simpa [Value.ownBlock] using e'
    subst this
    rw [hX] at hh
    injection hh with hh
    injection hh with _ ht
    exact hne ht.symm
theorem own_setU {X o B k n : Nat} {e : TypeId} {v x : Value} {xs : List Value} (ho : wr.ownsRow B e k v n xs) (hne : v.ownBlock ≠ some X) : (wr.setCell ⟨X, o, none⟩ x).ownsRow B e k v n xs :=
  World.ownsRow.kept ho (grown_setQ wr X o x) (by
    cases hv : v.ownBlock with
    | none => exact .inl rfl
    | some g => exact .inr (by rw [← hv]; exact hne))
/-- A store into a write of the round's own. -/
theorem US.store {X o : Nat} {x : Value} {cs : Array Value} (u : US w R s a vf vh vt vn vw f h T N W wr) (hX : wr.heap[X]? = some (.cells cs 46 (0, 0))) (hXR : R + 2 ≤ X) (hne : vw.ownBlock ≠ some X) :
    US w R s a vf vh vt vn vw f h T N W (wr.setCell ⟨X, o, none⟩ x) := by
  obtain ⟨u1, u2, ⟨o1, o2, o3, o4, o5⟩, u4, u5⟩ := u
  refine ⟨u1.kept (grown_setQ wr X o x) (fun k hk => by injection hk with hk; omega), u2.kept (grown_setQ wr X o x) (by simp; omega), ⟨own_setU o1 (own_noU o1 hX (by decide)), own_setU o2 (own_noU o2 hX (by decide)), own_setU o3 (own_noU o3 hX (by decide)), own_setU o4 (own_noU o4 hX (by decide)), own_setU o5 hne⟩, u4, by simpa using u5⟩
theorem own_rowU {X B k n : Nat} {e : TypeId} {v : Value} {xs : List Value} {cs : Array Value} (ho : wr.ownsRow B e k v n xs) (hne : v.ownBlock ≠ some X) : (wr.setRow X cs).ownsRow B e k v n xs :=
  World.ownsRow.kept ho (grown_rowQ wr X cs) (by
    cases hv : v.ownBlock with
    | none => exact .inl rfl
    | some g => exact .inr (by rw [← hv]; exact hne))
theorem US.storeRow {X : Nat} {cs ds : Array Value} (u : US w R s a vf vh vt vn vw f h T N W wr) (hX : wr.heap[X]? = some (.cells cs 46 (0, 0))) (hXR : R + 2 ≤ X) (hne : vw.ownBlock ≠ some X) :
    US w R s a vf vh vt vn vw f h T N W (wr.setRow X ds) := by
  obtain ⟨u1, u2, ⟨o1, o2, o3, o4, o5⟩, u4, u5⟩ := u
  refine ⟨u1.kept (grown_rowQ wr X ds) (fun k hk => by injection hk with hk; omega), u2.kept (grown_rowQ wr X ds) (by simp; omega), ⟨own_rowU o1 (own_noU o1 hX (by decide)), own_rowU o2 (own_noU o2 hX (by decide)), own_rowU o3 (own_noU o3 hX (by decide)), own_rowU o4 (own_noU o4 hX (by decide)), own_rowU o5 hne⟩, u4, by simpa [World.setRow] using u5⟩
/-- A field of the batch is put. -/
theorem US.from {v : Value} {l : List Ent} (u : US w R s a vf vh vt vn vw f h T N W wr) (hv : ownsE wr (R + 2) v l) : US w R s a v vh vt vn vw l h T N W (wr.setCell ⟨w.heap.size, 0, none⟩ v) := by
  obtain ⟨u1, u2, ⟨o1, o2, o3, o4, o5⟩, u4, u5⟩ := u
  have hg := grown_setQ wr w.heap.size 0 v
  exact ⟨u1.put rfl, u2.kept hg (by simp; omega), OB.keep (row := some w.heap.size) ⟨hv, o2, o3, o4, o5⟩ hg (fun k hk => by injection hk with hk; omega), u4, by simpa using u5⟩
theorem US.have {v : Value} {l : List Ent} (u : US w R s a vf vh vt vn vw f h T N W wr) (hv : ownsE wr (R + 2) v l) : US w R s a vf v vt vn vw f l T N W (wr.setCell ⟨w.heap.size, 1, none⟩ v) := by
  obtain ⟨u1, u2, ⟨o1, o2, o3, o4, o5⟩, u4, u5⟩ := u
  have hg := grown_setQ wr w.heap.size 1 v
  exact ⟨u1.put rfl, u2.kept hg (by simp; omega), OB.keep (row := some w.heap.size) ⟨o1, hv, o3, o4, o5⟩ hg (fun k hk => by injection hk with hk; omega), u4, by simpa using u5⟩
theorem own_far {v : Value} {B k n : Nat} {e : TypeId} {xs : List Value} (ho : wr.ownsRow B e k v n xs) : ∀ j, v.ownBlock = some j → B ≤ j := fun j hj => (World.ownsRow.lt ho j hj).1
theorem US.texts {v : Value} {T' : List ByteArray} (u : US w R s a vf vh vt vn vw f h T N W wr) (hn : ownsS w' (R + 2) v T') (hg : wr.grownBy w' vt.ownBlock) : US w R s a vf vh v vn vw f h T' N W w' := by
  obtain ⟨u1, u2, ⟨o1, o2, o3, o4, o5⟩, u4, u5⟩ := u
  have hf := own_far o3
  exact ⟨u1.kept hg (fun k hk => by have := hf k hk; omega), u2.kept hg (fun e => by have := hf R e; omega), ⟨World.ownsRow.kept o1 hg (own_apartB o1 o3 (by decide)), World.ownsRow.kept o2 hg (own_apartB o2 o3 (by decide)), hn, World.ownsRow.kept o4 hg (own_apartB o4 o3 (by decide)), World.ownsRow.kept o5 hg (own_apartB o5 o3 (by decide))⟩, u4, Nat.le_trans u5 hg.size⟩
theorem US.numbers {v : Value} {N' : List Nat} (u : US w R s a vf vh vt vn vw f h T N W wr) (hn : ownsN w' (R + 2) v N') (hg : wr.grownBy w' vn.ownBlock) : US w R s a vf vh vt v vw f h T N' W w' := by
  obtain ⟨u1, u2, o, u4, u5⟩ := u
  have hf := own_far o.2.2.2.1
  exact ⟨u1.kept hg (fun k hk => by have := hf k hk; omega), u2.kept hg (fun e => by have := hf R e; omega), o.numbers hn hg, u4, Nat.le_trans u5 hg.size⟩
theorem US.writes {v : Value} {W' : List Wr} (u : US w R s a vf vh vt vn vw f h T N W wr) (hn : ownsW w' (R + 2) v W') (hg : wr.grownBy w' vw.ownBlock) : US w R s a vf vh vt vn v f h T N W' (w'.setCell ⟨w.heap.size, 2, none⟩ v) := by
  obtain ⟨u1, u2, o, u4, u5⟩ := u
  have hf := own_far o.2.2.2.2
  have o2 := o.writes hn hg
  have hg2 := grown_setQ w' w.heap.size 2 v
  exact ⟨(u1.kept hg (fun k hk => by have := hf k hk; omega)).put rfl, (u2.kept hg (fun e => by have := hf R e; omega)).kept hg2 (by simp; omega), o2.keep hg2 (fun k hk => by injection hk with hk; omega), u4, Nat.le_trans u5 (by simpa using hg.size)⟩
end

set_option maxRecDepth 100000 in
theorem nextN_ok (S : Nat) (s : ByteArray) (a n k : Nat) (most : Int) (w : World) (h : Sc w S s a) (hs : s.size ≤ 1000000) (ha : a ≤ s.size) (hm0 : -1 ≤ most) (hm : most ≤ 1099511627776) (hg : intL (s.data.toList.drop a) most = (n, k, 0)) (hk : k ≤ 10) :
    Calls Tryz.prog 31 #[.pointer (some ⟨S, 0, none⟩), .int .i64 most] w fun e w' => e = .returned (.int .i64 (n : Int)) ∧ Sc w' S s (a + k) ∧ w.grownBy w' (some S) :=
  next_ok S s a n k most w h hs ha (by have := (intL_le hg).1; omega) hm hg hk
set_option maxRecDepth 100000 in
theorem nextN_bad (S : Nat) (s : ByteArray) (a x : Nat) (most : Int) (w : World) (h : Sc w S s a) (hs : s.size ≤ 1000000) (ha : a ≤ s.size) (hm0 : -1 ≤ most) (hm : most ≤ 1099511627776) (hg : intL (s.data.toList.drop a) most = (0, 0, x)) (hx : x ≠ 0) :
    Calls Tryz.prog 31 #[.pointer (some ⟨S, 0, none⟩), .int .i64 most] w fun e w' => e = .panicked [{ v := .iface 130 (.agg #[.int .i64 (x : Int), .int .i64 (a : Int)]), recovered := false }] ∧ w.grownBy w' (some S) := by
  obtain ⟨c0, c1, z1, hS⟩ := h.cells
  have H := Lib.hid h
  have HM : Hid ((s.extract a s.size).size ≤ maxLen) := Lib.hid (show (s.extract a s.size).size ≤ maxLen by rw [ByteArray.size_extract]; unfold maxLen; omega)
  have HGL : Hid (intR (intL (s.extract a s.size).data.toList most) = .tuple #[.int .i64 0, .int .i64 0, .int .i64 (x : Int)]) := Lib.hid (show intR (intL (s.extract a s.size).data.toList most) = .tuple #[.int .i64 0, .int .i64 0, .int .i64 (x : Int)] by rw [ext_dropV, hg]; rfl)
  have d3 : (0 : Int) ≤ (a : Int) := by omega
  have d4 : (a : Int) ≤ (s.size : Int) := by omega
  have hne : ((x : Int) != 0) = true := by simp; omega
  clear h hg hx
  go_enter Tryz.func31, Tryz.ntmps31
  go_wp2
  go_quiet ((go_at_call 66; with_reducible exact rint_q (s.extract a s.size) most _ _ _ HM.out (by omega) (by omega) HGL.out))
  go_wp2_with fail
  refine (throw_any x (a : Int) _).mono ?_
  rintro r w' ⟨rfl, rfl⟩
  first
    | exact ⟨rfl, rfl, grown_drewN w _ _⟩
    | (show bodyPost _ _ _ _ _ _; exact ⟨rfl, rfl, grown_drewN w _ _⟩)
    | (refine And.intro rfl (And.intro rfl ?_); exact grown_drewN w _ _)
    | (refine And.intro rfl ?_; exact grown_drewN w _ _)

/-- A text that is read: its contract over letters. -/
theorem runspan_ok {s t : List UInt8} (x : ByteArray) (X : ByteArray) (n : Nat) (w : World) (hx : x.size ≤ 140737488351232) (hs : x.data.toList = s) (hg : getS s = (t, n, 0)) (hX : X = ⟨t.toArray⟩) :
    Calls Tryz.prog 32 #[.string x] w fun r w' => r = .returned (.tuple #[.string X, .int .i64 (n : Int), .int .i64 0]) ∧ w = w' := by
  refine (runspan_any x w hx).mono ?_
  rintro r w' ⟨rfl, rfl⟩
  rw [hs, hg, hX]
  exact ⟨rfl, rfl⟩
theorem runspan_bad {s t : List UInt8} (x : ByteArray) (n e : Nat) (w : World) (hx : x.size ≤ 140737488351232) (hs : x.data.toList = s) (hg : getS s = (t, n, e)) :
    Calls Tryz.prog 32 #[.string x] w fun r w' => (∃ X : ByteArray, r = .returned (.tuple #[.string X, .int .i64 (n : Int), .int .i64 (e : Int)])) ∧ w = w' := by
  refine (runspan_any x w hx).mono ?_
  rintro r w' ⟨rfl, rfl⟩
  rw [hs, hg]
  exact ⟨⟨_, rfl⟩, rfl⟩

theorem step_append_num (w : World) {ops : Array Oper} {o : Oper} {a : Act} {K : Act → World → Prop} {Q : Exit → Act → World → Prop} {E : Prop} (hgd : o.guard = none) (s x : Operand)
    (ho : o.op = .call { callee := .builtin .append, args := #[s, x], argTypes := #[50, 50] })
    (base : Nat) (v : Value) (l : List Nat) (hs : a.eval s = v) (hown : ownsN w base v l)
    (ad : Addr) (c : Nat) (hx : a.eval x = .slice (some ad) 1 c) (d : Nat) (hcell : w.cell? (ad.add 0) = some (.int .i64 (d : Int)))
    (hlen : l.length + 1 ≤ 8796093022208) (hbase : base ≤ w.heap.size)
    (h : ∀ g cap w', ownsN w' base (.slice (some ⟨g, 0, none⟩) (l.length + 1) cap) (l ++ [d]) → w.grownBy w' v.ownBlock → K (a.put o.dst (.slice (some ⟨g, 0, none⟩) (l.length + 1) cap)) w') :
    if Region.wanted o (yielded ops a.tmps) = true then Oper.wp Tryz.prog o a w K Q else E := by
  obtain ⟨i0, hi, hz0, hz1, hz2⟩ := info_parts info_int
  refine step_append_lies w hgd s x 50 ho base 3 i0 (.int .i64 0) 1 8 Tryz.underlying50 hi hz0 hz1 hz2 rfl (by decide) v l.length (l.map natV) hs hown ad 1 c [natV d] hx rfl ?_ ?_ (by decide) (by unfold maxLen; omega) (by omega) hbase _ rfl ?_
  · intro j u hj
    match j, hj with
    | 0, hj => simp at hj; subst hj; exact hcell
  · intro u hu; simp at hu; subst hu; rfl
  · intro g cap w' h1 h2 _ _
    refine h g cap w' ?_ h2
    unfold ownsN
    rw [List.length_append, List.map_append]
    exact h1

/-- A post that at a panic asks of two slots of the frame alone, and of what is deferred. -/
def KeepQ (i j : Nat) (u v : Value) (Q : Exit → Act → World → Prop) : Exit → Act → World → Prop
  | .panic c, a, w => (a.tmps[i]? = some u ∧ a.tmps[j]? = some v) ∧ ∀ a' : Act, a'.tmps[i]? = some u → a'.tmps[j]? = some v → a'.defers = a.defers → Q (.panic c) a' w
  | e, a, w => Q e a w
theorem KeepQ.imp {i j : Nat} {u v : Value} {Q : Exit → Act → World → Prop} : ∀ (e : Exit) (a : Act) (w : World), KeepQ i j u v Q e a w → Q e a w := fun e a w h => by
  cases e <;> first | exact h | exact h.2 a h.1.1 h.1.2 rfl
theorem KeepQ.normal {i j : Nat} {u v : Value} {Q : Exit → Act → World → Prop} {a : Act} {w : World} (h : Q .normal a w) : KeepQ i j u v Q .normal a w := h
theorem wp_region_keep {i j : Nat} {u v : Value} {P : Program} {id : Nat} {ops : Array Oper} {b : Bool} {Q : Exit → Act → World → Prop} {a : Act} {w : World} (h : (Code.region id ops b).wp P (KeepQ i j u v Q) a w) : (Code.region id ops b).wp P Q a w :=
  Code.wp_mono KeepQ.imp h
theorem KeepQ.put {i j d : Nat} {u v x : Value} {Q : Exit → Act → World → Prop} (hi : d ≠ i) (hj : d ≠ j) : ∀ (c : _) (a : Act) (w : World), KeepQ i j u v Q (.panic c) (a.put (some d) x) w → KeepQ i j u v Q (.panic c) a w := fun c a w ⟨⟨h1, h2⟩, h3⟩ => by
  have e1 : (a.put (some d) x).tmps[i]? = a.tmps[i]? := by simp [Act.put, hi]
  have e2 : (a.put (some d) x).tmps[j]? = a.tmps[j]? := by simp [Act.put, hj]
  exact ⟨⟨e1 ▸ h1, e2 ▸ h2⟩, h3⟩
end Go.Proofs.YtkafhlpnhgipeaaGreatDoor
