/-
  The walk of 'packtrainlaw.StoreDoes', of writes that are not too many for the law's own reckoning.
-/
import Derived.Test.YtpmnflnaeknakaaGreatDoorBatArg
import Derived.Lib.Hide
import Derived.Outline
import Derived.Deep.RegionHeld
import Derived.Test.YtpmnflnaeknakaaGreatDoorStoCelM
import Derived.Test.YtpmnflnaeknakaaGreatDoorKeyRefTable
import Derived.Test.YtpmnflnaeknakaaGreatDoorWrs
import Derived.Test.YtpmnflnaeknakaaGreatDoorStoAft
import Derived.Test.YtpmnflnaeknakaaGreatDoorStoLaw
import Derived.Test.YtpmnflnaeknakaaGreatDoorShelf
import Derived.Sort.OwnSorted
import Derived.Lib.OwnBridge
import Derived.Maps.AppendAt
import Derived.Laws.OwnMore
import Derived.BigQuiet
import Derived.Deep.QuietTactic
import Derived.StillTailTactics
import Derived.WalkSpells
import Derived.Deep.RegionHeld3
import Derived.Test.YtpmnflnaeknakaaGreatDoorStoOf
import Derived.Test.YtpmnflnaeknakaaGreatDoorAtIs
import Derived.Test.YtpmnflnaeknakaaGreatDoorTell
import Derived.Test.YtpmnflnaeknakaaGreatDoorPlace
import Derived.Test.YtpmnflnaeknakaaGreatDoorWrsArg
import Derived.Test.YtpmnflnaeknakaaGreatDoorRows
import Derived.Test.YtpmnflnaeknakaaGreatDoorStoSameL
import Derived.Test.YtpmnflnaeknakaaGreatDoorWriteRefRight
namespace Go.Proofs.YtpmnflnaeknakaaGreatDoor
open Go.RowKit

def bigS : Int → List Wr → Int
  | x, [] => x
  | x, t :: r => bigS (IntKind.i64.wrap (x + IntKind.i64.wrap ((IntKind.i64.wrap ((t.key.size : Int) + (t.value.size : Int))).tdiv 8))) r
def bigV (lim : Int) (f h : List Ent) (l : List Wr) : Bool := decide (lim < bigS (IntKind.i64.wrap (IntKind.i64.wrap ((f.length : Int) + (h.length : Int)) + (l.length : Int))) l)
theorem bigS_drop {l : List Wr} {k : Nat} {t : Wr} (x : Int) (ht : l[k]? = some t) : bigS x (l.drop k) = bigS (IntKind.i64.wrap (x + IntKind.i64.wrap ((IntKind.i64.wrap ((t.key.size : Int) + (t.value.size : Int))).tdiv 8))) (l.drop (k + 1)) := by
  obtain ⟨hk, h⟩ := List.getElem?_eq_some_iff.1 ht
  rw [List.drop_eq_getElem_cons hk, h]; rfl
end Go.Proofs.YtpmnflnaeknakaaGreatDoor
namespace Go.Proofs.YtpmnflnaeknakaaGreatDoor
open Go.RowKit

set_option maxRecDepth 100000 in
set_option maxHeartbeats 4000000 in
theorem bigL_any (vf vh vw : Value) (f h : List Ent) (l : List Wr) (w : World) (hx : BatIs w vf vh vw f h l) :
    Calls Tryz.prog 4 #[.agg #[vf, vh, vw]] w fun e w' => e = .returned (.bool (bigV 300 f h l)) ∧ Below w.heap.size w w' := by
  obtain ⟨hf, hh, hv, hlf, hlh, hlw, hok⟩ := hx
  obtain ⟨af, cf, rfl, _⟩ := hf.form
  obtain ⟨ah, ch, rfl, _⟩ := hh.form
  obtain ⟨aw, cw, rfl, fw⟩ := hv.form
  have FW := Lib.hid fw
  obtain ⟨nf, hnf⟩ : ∃ n, n = f.length := ⟨_, rfl⟩
  obtain ⟨nh, hnh⟩ : ∃ n, n = h.length := ⟨_, rfl⟩
  obtain ⟨n, hn⟩ : ∃ n, n = l.length := ⟨_, rfl⟩
  rw [← hnf, ← hnh, ← hn]
  rw [← hn] at hlw
  have HN := Lib.hid hn
  have hbv : bigV 300 f h l = decide (300 < bigS (IntKind.i64.wrap (IntKind.i64.wrap ((nf : Int) + (nh : Int)) + (n : Int))) l) := by rw [hnf, hnh, hn]; rfl
  obtain ⟨s1, hs1⟩ : ∃ s, IntKind.i64.wrap ((nf : Int) + (nh : Int)) = s := ⟨_, rfl⟩
  obtain ⟨s2, hs2⟩ : ∃ s, IntKind.i64.wrap (s1 + (n : Int)) = s := ⟨_, rfl⟩
  rw [hs1, hs2] at hbv
  have HBV := Lib.hid hbv
  clear hf hh hv hlf hlh hnf hnh hn fw hok hbv
  go_enter Tryz.func4, Tryz.ntmps4
  go_wp2
  clear hs1 hs2
  go_loopw [3, 20] (fun s i wr => ∃ (x : Int) (k : Nat), s = .int .i64 x ∧ k ≤ n ∧ i = .int .i64 k ∧ bigS s2 l = bigS x (l.drop k) ∧ Below w.heap.size w wr) (fun _ i _ => n - (intOf i).toNat)
  case atStart => exact ⟨_, 0, rfl, by omega, rfl, rfl, (Below.refl _ _).alloc (Nat.le_refl _) _⟩
  case round =>
    obtain ⟨x, k, rfl, hk, rfl, heq, hbel⟩ := hrel
    have HEQ := Lib.hid heq
    clear heq
    have HB := Lib.hid hbel
    have hzr := hbel.size
    clear hbel
    by_cases hlt : k < n
    · obtain ⟨t, ht⟩ : ∃ t, l[k]? = some t := ⟨l[k]'(by have := HN.out; omega), List.getElem?_eq_getElem _⟩
      obtain ⟨b1, o1, rfl, hb1, p0, p1, p2, p3, p4, p5⟩ := FW.out k t ht
      have q0 := (HB.out.cell (p := ⟨b1, o1 + k * 6, none⟩) hb1).trans p0
      have q1 := (HB.out.cell (p := ⟨b1, o1 + k * 6 + 1, none⟩) hb1).trans p1
      have q2 := (HB.out.cell (p := ⟨b1, o1 + k * 6 + 2, none⟩) hb1).trans p2
      have q3 := (HB.out.cell (p := ⟨b1, o1 + k * 6 + 3, none⟩) hb1).trans p3
      have q4 := (HB.out.cell (p := ⟨b1, o1 + k * 6 + 4, none⟩) hb1).trans p4
      have q5 := (HB.out.cell (p := ⟨b1, o1 + k * 6 + 5, none⟩) hb1).trans p5
      have hd := bigS_drop x ht
      obtain ⟨T, R, K, key, val, N⟩ := t
      simp only at q0 q1 q2 q3 q4 q5 hd
      obtain ⟨u, hu⟩ : ∃ u, IntKind.i64.wrap ((key.size : Int) + (val.size : Int)) = u := ⟨_, rfl⟩
      obtain ⟨y, hy⟩ : ∃ y, IntKind.i64.wrap (u.tdiv 8) = y := ⟨_, rfl⟩
      obtain ⟨z, hz⟩ : ∃ z, IntKind.i64.wrap (x + y) = z := ⟨_, rfl⟩
      rw [hu, hy, hz] at hd
      have HD : Hid (bigS s2 l = bigS z (l.drop (k + 1))) := Lib.hid (HEQ.out.trans hd)
      clear hd
      clear p0 p1 p2 p3 p4 p5 ht
      go_wp2
      go_roundw
      case rel => exact ⟨_, k + 1, rfl, by omega, by go_num, HD.out, HB.out.alloc hzr _⟩
      case measure => simp [intOf]; omega
    · have HD : Hid (bigV 300 f h l = decide (300 < x)) := Lib.hid (by rw [HBV.out, HEQ.out, List.drop_eq_nil_of_le (by have := HN.out; omega)]; rfl)
      go_wp2
      go_ret
      exact ⟨by rw [HD.out]; rfl, HB.out⟩

theorem bigL_as (vf vh vw : Value) (f h : List Ent) (l : List Wr) (c : Bool) (w : World) (hx : BatIs w vf vh vw f h l) (hc : bigV 300 f h l = c) :
    Calls Tryz.prog 4 #[.agg #[vf, vh, vw]] w fun e w' => e = .returned (.bool c) ∧ Below w.heap.size w w' := by
  subst hc; exact bigL_any vf vh vw f h l w hx
end Go.Proofs.YtpmnflnaeknakaaGreatDoor
namespace Go.Proofs.YtpmnflnaeknakaaGreatDoor
open Go

section
variable {P : Program} {ops : Array Oper} {Q : Exit → Act → World → Prop} {md : Region.Mode} {S : World → Prop} {z : Nat}

/-- Whatever order is picked from here on; behind each operation S holds, if z is still to come. -/
def wpAnyZ (P : Program) (md : Region.Mode) (ops : Array Oper) (Q : Exit → Act → World → Prop) (S : World → Prop) (z : Nat) : Nat → Array Bool → Act → World → Prop
  | 0, L, a, w => Region.ready md ops L = [] ∧ Q .normal a w
  | n + 1, L, a, w => (Region.ready md ops L = [] → Q .normal a w) ∧
    ∀ i ∈ Region.ready md ops L, wpOp P ops Q i (fun a' w' => ((L.setIfInBounds i true).getD z true = false → S w') ∧ wpAnyZ P md ops Q S z n (L.setIfInBounds i true) a' w') a w
theorem wpAny_of_Z : ∀ (n : Nat) (L : Array Bool) (a : Act) (w : World), wpAnyZ P md ops Q S z n L a w → wpAny P md ops Q n L a w
  | 0, _, _, _, h => h
  | n + 1, _, _, _, h => ⟨h.1, fun i hi => wpOp_mono (fun a' w' h' => wpAny_of_Z n _ a' w' h'.2) (h.2 i hi)⟩
/-- z waits for i. -/
def waitsZ (md : Region.Mode) (ops : Array Oper) (z i : Nat) : Bool := match ops[z]? with
  | some o => o.after.any (fun e => Region.binds md e && e.on == i)
  | none => false
theorem waitsZ_spec {i : Nat} (h : waitsZ md ops z i = true) : ∃ o, ops[z]? = some o ∧ ∃ e ∈ o.after, Region.binds md e = true ∧ e.on = i := by
  unfold waitsZ at h
  split at h
  · rename_i o ho
    obtain ⟨e, he, hb⟩ := Array.any_eq_true'.1 h
    simp only [Bool.and_eq_true, beq_iff_eq] at hb
    exact ⟨o, ho, e, he, hb⟩
  · cases h
theorem not_readyZ {i : Nat} {L : Array Bool} (hw : waitsZ md ops z i = true) (hi : i ∈ Region.ready md ops L) : z ∉ Region.ready md ops L := fun hz => by
  obtain ⟨o, ho, e, he, hb, rfl⟩ := waitsZ_spec hw
  obtain ⟨_, o2, ho2, hall⟩ := mem_ready.1 hz
  rw [ho] at ho2
  cases ho2
  have h1 := hall e he hb
  have h0 := (mem_ready.1 hi).1
  rcases Nat.lt_or_ge e.on L.size with h' | h'
  · simp [h'] at h0 h1; rw [h0] at h1; cases h1
  · simp [Array.getElem?_eq_none h'] at h1
theorem wpAnyZ_first {i : Nat} {oi : Oper} {v : Value} (hi : ops[i]? = some oi) (hsel : ∀ (j : Nat) (o : Oper) cs b, ops[j]? = some o → o.op ≠ .select cs b) (hw : waitsZ md ops z i = true)
    (hQ : ∀ c a w, Q (.panic c) (a.put oi.dst v) w → Q (.panic c) a w) : ∀ (n : Nat) (L : Array Bool) (a : Act) (w : World),
      (∀ j oj, ops[j]? = some oj → j ≠ i → L.getD j true = false → (∀ e ∈ oj.after, Region.binds md e = true → e.on ≠ i) → oi.apart ops oj = true) →
      i ∈ Region.ready md ops L → YieldsIf P ops S oi v a → S w → L.getD z true = false →
      wpAnyZ P md ops Q S z n (L.setIfInBounds i true) (a.put oi.dst v) w → wpAnyZ P md ops Q S z (n + 1) L a w := by
  intro n
  induction n with
  | zero =>
    intro L a w _ hr hy hS hz H
    refine ⟨fun h => (by rw [h] at hr; cases hr), fun j hj => ?_⟩
    by_cases hji : j = i
    · subst hji; exact hy.wpOp hi hS ⟨fun _ => hS, H⟩
    · have := ready_mono hj hji
      rw [H.1] at this
      cases this
  | succ n ih =>
    intro L a w hfree hr hy hS hz H
    refine ⟨fun h => (by rw [h] at hr; cases hr), fun j hj => ?_⟩
    by_cases hji : j = i
    · subst hji; exact hy.wpOp hi hS ⟨fun _ => hS, H⟩
    · have h1 := H.2 j (ready_mono hj hji)
      have hjz : j ≠ z := fun e => not_readyZ hw hr (e ▸ hj)
      have hiz : i ≠ z := fun e => not_readyZ hw hr (e ▸ hr)
      obtain ⟨hjun, oj, hoj, hall⟩ := mem_ready.1 hj
      have hnot : ∀ e ∈ oj.after, Region.binds md e = true → e.on ≠ i := fun e he hb heq => by
        have h1 := hall e he hb
        have h0 := (mem_ready.1 hr).1
        rw [heq] at h1
        rcases Nat.lt_or_ge i L.size with h' | h'
        · simp [h'] at h0 h1; rw [h0] at h1; cases h1
        · simp [Array.getElem?_eq_none h'] at h1
      have h2 := wpOp_putIf hoj (hfree j oj hoj hji hjun hnot) (fun cs b => hsel i oi cs b hi) (fun cs b => hsel j oj cs b hoj) hQ hy h1
      have hfree' : ∀ k ok, ops[k]? = some ok → k ≠ i → (L.setIfInBounds j true).getD k true = false → (∀ e ∈ ok.after, Region.binds md e = true → e.on ≠ i) → oi.apart ops ok = true := fun k ok hk hki hun hno => by
        refine hfree k ok hk hki ?_ hno
        by_cases hjk : j = k
        · subst hjk; exact hjun
        · rw [getD_set_ne true hjk] at hun; exact hun
      have hz1 : (L.setIfInBounds j true).getD z true = false := by rw [getD_set_ne true hjz]; exact hz
      have hz2 : ((L.setIfInBounds i true).setIfInBounds j true).getD z true = false := by rw [getD_set_ne true hjz, getD_set_ne true hiz]; exact hz
      refine wpOp_mono (fun a' w' h3 => ⟨fun _ => h3.2.1 hz2, ih (L.setIfInBounds j true) a' w' hfree' (ready_mono hr (Ne.symm hji)) h3.1 (h3.2.1 hz2) hz1 ?_⟩) h2
      rw [Array.setIfInBounds_comm _ _ hji]
      exact h3.2.2
theorem wpAnyZ_take {i : Nat} {oi : Oper} {v : Value} {n : Nat} {L : Array Bool} {a : Act} {w : World} (hi : ops[i]? = some oi) (hs : Region.noSelect ops = true) (hf : Region.free md ops L i = true)
    (hr : ((Region.ready md ops L).contains i && waitsZ md ops z i && !(L.getD z true)) = true) (hQ : ∀ c a w, Q (.panic c) (a.put oi.dst v) w → Q (.panic c) a w) (hy : YieldsIf P ops S oi v a) (hS : S w)
    (h : wpAnyZ P md ops Q S z n (L.setIfInBounds i true) (a.put oi.dst v) w) : wpAnyZ P md ops Q S z (n + 1) L a w := by
  simp only [Bool.and_eq_true, Bool.not_eq_true'] at hr
  exact wpAnyZ_first hi (Region.noSelect_spec hs) hr.1.2 hQ n L a w (Region.free_spec hi hf) (by simpa using hr.1.1) hy hS hr.2 h
/-- Each of 'rs' comes up next. -/
def AllReadyZ (P : Program) (md : Region.Mode) (ops : Array Oper) (Q : Exit → Act → World → Prop) (S : World → Prop) (z n : Nat) (L : Array Bool) (a : Act) (w : World) (rs : List Nat) : Prop :=
  ∀ i ∈ rs, wpOp P ops Q i (fun a' w' => ((L.setIfInBounds i true).getD z true = false → S w') ∧ wpAnyZ P md ops Q S z n (L.setIfInBounds i true) a' w') a w
theorem AllReadyZ.nil {n : Nat} {L : Array Bool} {a : Act} {w : World} : AllReadyZ P md ops Q S z n L a w [] := fun _ h => by cases h
theorem AllReadyZ.cons {n : Nat} {L : Array Bool} {a : Act} {w : World} {i : Nat} {o : Oper} {rs : List Nat} (ho : ops[i]? = some o)
    (h : ∀ K' : Act → World → Prop, Shut (∀ a w, S w → (S w → wpAnyZ P md ops Q S z n (L.setIfInBounds i true) a w) → K' a w) → if Region.wanted o (yielded ops a.tmps) = true then Oper.wp P o a w K' Q else K' (a.put o.dst undef) w)
    (hs : AllReadyZ P md ops Q S z n L a w rs) : AllReadyZ P md ops Q S z n L a w (i :: rs) := fun j hj => by
  rcases List.mem_cons.1 hj with rfl | hj
  · exact wpOp_step ho (fun K' hK => h K' (fun a w hS hW => hK a w ⟨fun _ => hS, hW hS⟩))
  · exact hs j hj
/-- z itself: behind it S is not asked for. -/
theorem AllReadyZ.last {n : Nat} {L : Array Bool} {a : Act} {w : World} {o : Oper} (ho : ops[z]? = some o) (hl : z < L.size)
    (h : ∀ K' : Act → World → Prop, Shut (∀ a w, wpAnyZ P md ops Q S z n (L.setIfInBounds z true) a w → K' a w) → if Region.wanted o (yielded ops a.tmps) = true then Oper.wp P o a w K' Q else K' (a.put o.dst undef) w) : AllReadyZ P md ops Q S z n L a w [z] := fun j hj => by
  obtain rfl := List.mem_singleton.1 hj
  exact wpOp_step ho (fun K' hK => h K' (fun a w hW => hK a w ⟨fun e => by simp [hl] at e, hW⟩))
theorem wpAnyZ_ready {rs : List Nat} {n : Nat} {L : Array Bool} {a : Act} {w : World} (hr : Region.ready md ops L = rs) (hne : rs ≠ []) (h : AllReadyZ P md ops Q S z n L a w rs) : wpAnyZ P md ops Q S z (n + 1) L a w :=
  ⟨fun h0 => absurd (hr ▸ h0) hne, hr ▸ h⟩
theorem wpAnyZ_done {L : Array Bool} {a : Act} {w : World} (hr : Region.ready md ops L = []) (h : Q .normal a w) : ∀ n, wpAnyZ P md ops Q S z n L a w
  | 0 => ⟨hr, h⟩
  | _ + 1 => ⟨fun _ => h, by rw [hr]; simp⟩
theorem wp_region_Z {id : Nat} {a : Act} {w : World} (z : Nat) (hm : P.follows .mixedOrders = true) (hS : S w.drew) (h : S w.drew → wpAnyZ P .any ops Q S z ops.size (Array.replicate ops.size false) a w.drew) : (Code.region id ops true).wp P Q a w :=
  wp_region_any hm (wpAny_of_Z _ _ _ _ (h hS))
end
end Go.Proofs.YtpmnflnaeknakaaGreatDoor
namespace Go.Proofs.YtpmnflnaeknakaaGreatDoor
open Go.RowKit

theorem rtake_snoc {l : List Wr} {k : Nat} {x : Wr} (hx : l[k]? = some x) : l.take (k + 1) = l.take k ++ [x] := by rw [List.take_add_one, hx]; rfl
theorem cellK_yes {l : List Wr} {j : Nat} {x : Wr} {k : ByteArray} (hx : l[j]? = some x) (h : x.key = k) : cellK (l.take (j + 1)) k = stepC (cellK (l.take j) k) x := by
  rw [rtake_snoc hx, cellK_app]
  simp [h]
theorem cellK_no {l : List Wr} {j : Nat} {x : Wr} {k : ByteArray} (hx : l[j]? = some x) (h : x.key ≠ k) : cellK (l.take (j + 1)) k = cellK (l.take j) k := by
  rw [rtake_snoc hx, cellK_app]
  simp [h]
/-- The value u reads as the texts ys. -/
def Txt (w : World) (u : Value) (ys : List ByteArray) : Prop := (∃ c, u = .slice none 0 c ∧ c = 0 ∧ ys = []) ∨ ∃ ad c, u = .slice (some ad) ys.length c ∧ ∀ k s, ys[k]? = some s → w.cell? (ad.add k) = some (.string s)
theorem run_append_txt (w : World) (ty : TypeId) (base : Nat) (v : Value) (l : List ByteArray) (hown : ownsS w base v l) (u : Value) (ys : List ByteArray) (hsrc : Txt w u ys) (hlen : l.length + ys.length ≤ 1000000) (hbase : base ≤ w.heap.size) :
    ∃ v' w', (Builtin.append_ #[58, 58] ty #[v, u]).run Tryz.prog w = .ok v' w' ∧ ownsS w' base v' (l ++ ys) ∧ w.grownBy w' v.ownBlock ∧ (v'.ownBlock = v.ownBlock ∨ v'.ownBlock = some w.heap.size) := by
  obtain ⟨i0, hi, hz0, hz1, hz2⟩ := info_parts info_str
  rcases hsrc with ⟨c, rfl, rfl, rfl⟩ | ⟨ad, c, rfl, hc⟩
  · exact ⟨v, w, run_append_owned_none w base 58 ty 9 i0 1 Tryz.underlying58 hi v _ _ hown, by rw [List.append_nil]; exact hown, grown_refl _ _, .inl rfl⟩
  · obtain ⟨v', w', h1, h2, h3, _, h5⟩ := run_append_own_at (P := Tryz.prog) w base 58 ty 9 i0 (.string ⟨#[]⟩) 1 16 Tryz.underlying58 hi hz0 hz1 hz2 rfl (by decide) v l.length (l.map Value.string) hown ad ys.length c (ys.map Value.string) (by simp) (fun j u hj => by
      rw [List.getElem?_map] at hj
      obtain ⟨s, hs, rfl⟩ := Option.map_eq_some_iff.1 hj
      exact hc j s hs) (fun u hu => by obtain ⟨s, _, rfl⟩ := List.mem_map.1 hu; rfl) (by unfold maxLen; omega) (by omega) hbase
    exact ⟨v', w', h1, by unfold ownsS; rw [List.length_append, List.map_append]; exact h2, h3, h5⟩
theorem step_append_txt (w : World) {ops : Array Oper} {o : Oper} {a : Act} {K : Act → World → Prop} {Q : Exit → Act → World → Prop} {E : Prop} (hgd : o.guard = none) (s x : Operand)
    (ho : o.op = .call { callee := .builtin .append, args := #[s, x], argTypes := #[58, 58] })
    (base : Nat) (v : Value) (l : List ByteArray) (hs : a.eval s = v) (hown : ownsS w base v l) (u : Value) (ys : List ByteArray) (hx : a.eval x = u) (hsrc : Txt w u ys) (hlen : l.length + ys.length ≤ 1000000) (hbase : base ≤ w.heap.size)
    (h : ∀ v' w', ownsS w' base v' (l ++ ys) → w.grownBy w' v.ownBlock → (v'.ownBlock = v.ownBlock ∨ v'.ownBlock = some w.heap.size) → K (a.put o.dst v') w') :
    if Region.wanted o (yielded ops a.tmps) = true then Oper.wp Tryz.prog o a w K Q else E := by
  have hw : Region.wanted o (yielded ops a.tmps) = true := by simp [Region.wanted, hgd]
  rw [if_pos hw]
  obtain ⟨v', w', hr, h2, h3, h4⟩ := run_append_txt w o.type base v l hown u ys hsrc hlen hbase
  unfold Oper.wp execOp
  simp only [ho, resolve, invoke, builtin, Sem.run_bind, Sem.run_pure, Result.andThen_ok, List.map_toArray, List.map_cons, List.map_nil, hs, hx, hr]
  exact h v' w' h2 h3 h4
theorem Txt.kept {w w' : World} {u : Value} {ys : List ByteArray} (h : Txt w u ys) (hk : ∀ ad c, u = .slice (some ad) ys.length c → ∀ k s, ys[k]? = some s → w'.cell? (ad.add k) = w.cell? (ad.add k)) : Txt w' u ys := by
  rcases h with h | ⟨ad, c, e, h⟩
  · exact .inl h
  · exact .inr ⟨ad, c, e, fun k s hs => (hk ad c e k s hs).trans (h k s hs)⟩

theorem addr_add (g o k : Nat) : (⟨g, o, none⟩ : Addr).add k = ⟨g, o + k, none⟩ := by unfold Addr.add; split <;> simp_all
theorem own_cap {w : World} {H n c : Nat} {a : Option Addr} {l : List ByteArray} (h : ownsS w H (.slice a n c) l) : l.length ≤ c := by
  rcases h.2 with ⟨e, h0⟩ | ⟨g, cap, cur, e, _, _, hc, _⟩
  · omega
  · obtain ⟨_, _, e3⟩ := Value.slice.inj e
    omega
theorem own_cells {w : World} {H n c : Nat} {a : Option Addr} {l : List ByteArray} (h : ownsS w H (.slice a n c) l) : (a = none ∧ l = [] ∧ c = 0) ∨ ∃ g, a = some ⟨g, 0, none⟩ ∧ ∀ k s, l[k]? = some s → w.cell? ⟨g, k, none⟩ = some (.string s) := by
  have hall := h
  rcases h.2 with ⟨e, h0⟩ | ⟨g, cap, cur, e, _⟩
  · obtain ⟨e1, _, e3⟩ := Value.slice.inj e
    exact .inl ⟨e1, List.length_eq_zero_iff.1 h0, e3⟩
  · obtain ⟨e1, e2, e3⟩ := Value.slice.inj e
    subst e1 e3
    refine .inr ⟨g, rfl, fun k s hs => ?_⟩
    have hk := (List.getElem?_eq_some_iff.1 hs).1
    rw [e2] at hall
    rw [World.ownsRow.cellAt hall k (by omega), List.getElem?_map, hs]
    rfl
theorem txt_take {w : World} {H n c : Nat} {a : Option Addr} {l : List ByteArray} (h : ownsS w H (.slice a n c) l) {i : Nat} (hi : i ≤ l.length) : Txt w (.slice a i c) (l.take i) := by
  rcases own_cells h with ⟨rfl, rfl, rfl⟩ | ⟨g, rfl, hc⟩
  · obtain rfl : i = 0 := by simpa using hi
    exact .inl ⟨0, rfl, rfl, rfl⟩
  · refine .inr ⟨⟨g, 0, none⟩, c, by rw [List.length_take, Nat.min_eq_left hi], fun k s hs => ?_⟩
    rw [addr_add, Nat.zero_add]
    rw [List.getElem?_take] at hs
    split at hs
    · exact hc k s hs
    · cases hs
theorem txt_drop {w : World} {H n c : Nat} {a : Option Addr} {l : List ByteArray} (h : ownsS w H (.slice a n c) l) {i : Nat} (hi : i ≤ l.length) : Txt w (.slice (if c = i then a else Option.map (fun x => x.add i) a) (l.length - i) (c - i)) (l.drop i) := by
  rcases own_cells h with ⟨rfl, rfl, rfl⟩ | ⟨g, rfl, hc⟩
  · obtain rfl : i = 0 := by simpa using hi
    exact .inl ⟨0, rfl, rfl, rfl⟩
  · have hcap := own_cap h
    by_cases e : c = i
    · subst e
      obtain e2 : l.length = c := by omega
      rw [if_pos rfl]
      refine .inr ⟨⟨g, 0, none⟩, _, by rw [List.length_drop], fun k s hs => ?_⟩
      rw [List.getElem?_drop, List.getElem?_eq_none (by omega)] at hs
      cases hs
    · rw [if_neg e]
      refine .inr ⟨⟨g, i, none⟩, _, by rw [List.length_drop, Option.map_some, addr_add, Nat.zero_add], fun k s hs => ?_⟩
      rw [addr_add]
      rw [List.getElem?_drop] at hs
      exact hc _ s hs
theorem txt_lit {w : World} {B : Nat} {s : ByteArray} (h : w.cell? ⟨B, 0, none⟩ = some (.string s)) : Txt w (.slice (some ⟨B, 0, none⟩) 1 1) [s] :=
  .inr ⟨⟨B, 0, none⟩, 1, rfl, fun k t hk => by
    cases k with
    | zero => simp at hk; subst hk; rw [addr_add]; exact h
    | succ k => simp at hk⟩
theorem stepC_ins {ch : Bool} {ct : ByteArray} {cs : Int} {cl : List ByteArray} {T Re : Int} {key val : ByteArray} {N : Int} {i : Nat} (hi : i = min N.toNat cl.length) : stepC ⟨ch, ct, cs, cl⟩ ⟨T, Re, 4, key, val, N⟩ = ⟨ch, ct, cs, cl.take i ++ [val] ++ cl.drop i⟩ := by
  simp [stepC, insL, ← hi]

/-- Sorted, as slices.Sort sorts them. -/
def sortB (xs : List ByteArray) : List ByteArray := xs.mergeSort leB
theorem sortB_len (xs : List ByteArray) : (sortB xs).length = xs.length := List.length_mergeSort _
theorem sortB_map (xs : List ByteArray) : (xs.map (fun b => b.data.toList)).mergeSort (fun x y => decide (x ≤ y)) = (sortB xs).map (fun b => b.data.toList) :=
  (List.map_mergeSort (r := leB) (s := fun x y => decide (x ≤ y)) (f := fun b : ByteArray => b.data.toList) (fun _ _ _ _ => rfl)).symm
theorem sorts_any (base : Nat) (u : Value) (xs : List ByteArray) (w : World) (h : ownsS w base u xs) (hx : xs.length ≤ 1000000) :
    Calls Tryz.prog 32 #[u] w fun e w' => e = .returned (.tuple #[]) ∧ ownsS w' base u (sortB xs) ∧ w.grownBy w' u.ownBlock := by
  rcases h.2 with ⟨rfl, h0⟩ | ⟨g, cap, cur, rfl, hb, hh, h1, h2, h3, h4⟩
  · refine (Tryz.sort_Strings_none none 0 w).mono ?_
    rintro e w' ⟨rfl, rfl⟩
    have hx0 : xs = [] := List.length_eq_zero_iff.1 h0
    subst hx0
    exact ⟨rfl, by rw [show sortB [] = [] by simp [sortB]]; exact ownsS_nil _ _, ⟨rfl, rfl, rfl, Nat.le_refl _, fun _ _ _ => rfl⟩⟩
  · have ht : cur.toList.take (xs.map (fun b => b.data.toList)).length = (xs.map (fun b => b.data.toList)).map encStr := by
      rw [Lib.map_encStr, List.length_map, ← h4, Nat.mul_one]
    have hc := Tryz.sort_Strings g 0 cap (xs.map (fun b => b.data.toList)) w (holds_of_block hh ht) (Array.getElem?_eq_some_iff.1 hh).1 (by rw [List.length_map]; omega)
    rw [List.length_map] at hc
    refine hc.mono ?_
    rintro e w' ⟨rfl, n, os, rfl⟩
    have hr := ownsRow_sorted (n := n) (os := os) (ts := (sortB xs).map (fun b => b.data.toList)) (ss := xs.map (fun b => b.data.toList)) (by simp [sortB_len]) hb hh (by rw [List.length_map]; exact h1) h2 h3
    rw [Lib.map_encStr, List.length_map, ← sortB_map] at hr
    refine ⟨rfl, ?_, grownBy_sorted _⟩
    unfold ownsS
    rw [sortB_len]
    exact hr
end Go.Proofs.YtpmnflnaeknakaaGreatDoor
namespace Go.Proofs.YtpmnflnaeknakaaGreatDoor
open Go.RowKit

/-- A cell's block, behind the j-th write: its list is a row of its own, or nil. -/
structure CelW (w0 w : World) (C H : Nat) (k : ByteArray) (c : Cel) (v : Value) : Prop where
  row : w.heap[C]? = some (.cells #[.string k, .bool c.has, .string c.text, .int .i64 c.sum, v] 60 (0, 0))
  own : ownsS w H v c.list
  ne : v.ownBlock ≠ some C
  nil' : c.list = [] → v = .slice none 0 0
  gr : w0.grownBy w (some C)
  hC : C < w0.heap.size
  hH : H ≤ C
  len : c.list.length ≤ 1000

theorem CelW.to {w0 w w' : World} {C H : Nat} {k : ByteArray} {c c' : Cel} {v v' : Value} (h : CelW w0 w C H k c v) (hg : w.grownBy w' (some C)) (row' : w'.heap[C]? = some (.cells #[.string k, .bool c'.has, .string c'.text, .int .i64 c'.sum, v'] 60 (0, 0)))
    (own' : ownsS w' H v' c'.list) (ne' : v'.ownBlock ≠ some C) (nil' : c'.list = [] → v' = .slice none 0 0) (len' : c'.list.length ≤ 1000) : CelW w0 w' C H k c' v' :=
  ⟨row', own', ne', nil', ⟨hg.os.trans h.gr.os, hg.tape.trans h.gr.tape, hg.output.trans h.gr.output, Nat.le_trans h.gr.size hg.size, fun i hi hne => (hg.block i (Nat.lt_of_lt_of_le hi h.gr.size) hne).trans (h.gr.block i hi hne)⟩, h.hC, h.hH, len'⟩
theorem CelW.lt {w0 w : World} {C H : Nat} {k : ByteArray} {c : Cel} {v : Value} (h : CelW w0 w C H k c v) : C < w.heap.size := Nat.lt_of_lt_of_le h.hC h.gr.size
theorem CelW.alloc {w0 w : World} {C H : Nat} {k : ByteArray} {c : Cel} {v : Value} (h : CelW w0 w C H k c v) (o : Obj) : CelW w0 (w.alloc o) C H k c v :=
  h.to (grown_alloc (grown_refl w _) o) (((MapKept.heap_alloc w o).2 C h.lt).trans h.row) (h.own.alloc o) h.ne h.nil' h.len
theorem CelW.drew {w0 w : World} {C H : Nat} {k : ByteArray} {c : Cel} {v : Value} (h : CelW w0 w C H k c v) : CelW w0 w.drew C H k c v :=
  h.to (grown_drew (grown_refl w _)) h.row h.own.drew h.ne h.nil' h.len
theorem refcells {w : World} {C : Nat} {a b c d e : Value} {T : TypeId} (h : w.heap[C]? = some (.cells #[a, b, c, d, e] T (0, 0))) :
    w.cell? ⟨C, 0, none⟩ = some a ∧ w.cell? ⟨C, 1, none⟩ = some b ∧ w.cell? ⟨C, 2, none⟩ = some c ∧ w.cell? ⟨C, 3, none⟩ = some d ∧ w.cell? ⟨C, 4, none⟩ = some e ∧
    w.frozen? ⟨C, 0, none⟩ = false ∧ w.frozen? ⟨C, 1, none⟩ = false ∧ w.frozen? ⟨C, 2, none⟩ = false ∧ w.frozen? ⟨C, 3, none⟩ = false ∧ w.frozen? ⟨C, 4, none⟩ = false := by
  refine ⟨?_, ?_, ?_, ?_, ?_, ?_, ?_, ?_, ?_, ?_⟩ <;> first | (rw [cell_of_row _ _ _ _ _ _ h]; rfl) | simp [World.frozen?, h]
theorem grown_setR {w0 w : World} {C i : Nat} (h : w0.grownBy w (some C)) (u : Value) : w0.grownBy (w.setCell ⟨C, i, none⟩ u) (some C) :=
  ⟨h.os, h.tape, h.output, by rw [show (w.setCell ⟨C, i, none⟩ u).heap.size = w.heap.size from by simp]; exact h.size, fun k hk hne => by
    rw [heap_setCell_other _ _ _ _ (fun e => hne (by rw [e]))]; exact h.block k hk hne⟩
/-- A store into the cell, its list as it was. -/
theorem CelW.set1 {w0 w w' : World} {C H : Nat} {k : ByteArray} {c c' : Cel} {v : Value} (h : CelW w0 w C H k c v) (hg : w.grownBy w' (some C)) (row' : w'.heap[C]? = some (.cells #[.string k, .bool c'.has, .string c'.text, .int .i64 c'.sum, v] 60 (0, 0))) (hl : c'.list = c.list) : CelW w0 w' C H k c' v :=
  h.to hg row' (by rw [hl]; exact World.ownsRow.kept h.own hg (.inr h.ne)) h.ne (by rw [hl]; exact h.nil') (by rw [hl]; exact h.len)

theorem CelW.zero {w0 w : World} {C H : Nat} {k : ByteArray} {c : Cel} {v : Value} (h : CelW w0 w C H k c v) :
    CelW w0 (((((w.setCell ⟨C, 0, none⟩ (.string k)).setCell ⟨C, 1, none⟩ (.bool false)).setCell ⟨C, 2, none⟩ (.string ⟨#[]⟩)).setCell ⟨C, 3, none⟩ (.int .i64 0)).setCell ⟨C, 4, none⟩ (.slice none 0 0)) C H k cel0 (.slice none 0 0) := by
  have r1 := heap_setCell_same _ C 0 _ _ (.string k) h.row
  have r2 := heap_setCell_same _ C 1 _ _ (.bool false) r1
  have r3 := heap_setCell_same _ C 2 _ _ (.string ⟨#[]⟩) r2
  have r4 := heap_setCell_same _ C 3 _ _ (.int .i64 0) r3
  have r5 := heap_setCell_same _ C 4 _ _ (.slice none 0 0) r4
  exact h.to (grown_setR (grown_setR (grown_setR (grown_setR (grown_setR (grown_refl w _) _) _) _) _) _) (by simpa [cel0] using r5) (ownsS_nil _ _) (by simp [Value.ownBlock]) (fun _ => rfl) (by simp [cel0])
theorem CelW.sum {w0 w : World} {C H : Nat} {k : ByteArray} {c : Cel} {v : Value} (h : CelW w0 w C H k c v) (z : Int) : CelW w0 (w.setCell ⟨C, 3, none⟩ (.int .i64 z)) C H k { c with sum := z } v :=
  h.set1 (grown_setR (grown_refl w _) _) (by have r := heap_setCell_same _ C 3 _ _ (.int .i64 z) h.row; simpa using r) rfl
theorem CelW.text {w0 w : World} {C H : Nat} {k : ByteArray} {c : Cel} {v : Value} (h : CelW w0 w C H k c v) (z : ByteArray) : CelW w0 ((w.setCell ⟨C, 1, none⟩ (.bool true)).setCell ⟨C, 2, none⟩ (.string z)) C H k { c with has := true, text := z } v :=
  h.set1 (grown_setR (grown_setR (grown_refl w _) _) _) (by
    have r1 := heap_setCell_same _ C 1 _ _ (.bool true) h.row
    have r2 := heap_setCell_same _ C 2 _ _ (.string z) r1
    simpa using r2) rfl
theorem CelW.below {w0 w w' : World} {C H : Nat} {k : ByteArray} {c : Cel} {v : Value} (h : CelW w0 w C H k c v) (hb : Below w.heap.size w w') : CelW w0 w' C H k c v :=
  h.to (grown_some (grown_of_below hb) _) ((hb.block C h.lt).trans h.row) (h.own.below hb) h.ne h.nil' h.len
theorem CelW.ins {w0 w : World} {C H B : Nat} {k : ByteArray} {ch : Bool} {ct : ByteArray} {cs : Int} {cl nl : List ByteArray} {v u : Value} (h : CelW w0 w C H k ⟨ch, ct, cs, cl⟩ v) (ho : ownsS w B u nl) (hB : C < B ∧ H ≤ C) (hn : nl ≠ []) (hl : nl.length ≤ 1000) :
    CelW w0 (w.setCell ⟨C, 4, none⟩ u) C H k ⟨ch, ct, cs, nl⟩ u := by
  have hne : u.ownBlock ≠ some C := fun e => by have := (ho.lt C e).1; omega
  exact h.to (grown_setR (grown_refl w _) _) (by have r := heap_setCell_same _ C 4 _ _ u h.row; simpa using r) (ownsS.mono (ho.setC u hne) (by omega)) hne (fun e => absurd e hn) hl
theorem bne_same (a : ByteArray) : (a.toList != a.toList) = false := by simp
theorem bne_diff {a b : ByteArray} (h : a ≠ b) : (a.toList != b.toList) = true := by rw [bne, beq_diff h]; rfl
theorem refkeys_len {l : List Wr} : (keysS l).length ≤ l.length := by
  have h1 := (keysS_nodup l).length_le_of_subset (l₂ := l.map (·.key)) (fun k hk => by
    obtain ⟨w, hw, rfl⟩ := keysS_mem.1 hk
    exact List.mem_map_of_mem hw)
  simpa using h1
theorem filt_yes {α : Type} {p : α → Bool} {L : List α} {q : Nat} {x : α} (hx : L[q]? = some x) (h : p x = true) : (L.take (q + 1)).filter p = (L.take q).filter p ++ [x] := by
  rw [List.take_add_one, hx]; simp [h]
theorem filt_no {α : Type} {p : α → Bool} {L : List α} {q : Nat} {x : α} (hx : L[q]? = some x) (h : p x = false) : (L.take (q + 1)).filter p = (L.take q).filter p := by
  rw [List.take_add_one, hx]; simp [h]

set_option maxRecDepth 100000 in
set_option maxHeartbeats 8000000 in
theorem rcells_any (v : Value) (l : List Wr) (w : World) (h : IsWrs w v l) (hr : ∀ x ∈ l, wrF x = 0) (hl : l.length ≤ 1000) :
    Calls Tryz.prog 13 #[v] w fun e w' => ∃ u, e = .returned u ∧ IsCells w' u (cellsF l) ∧ Below w.heap.size w w' := by
  obtain ⟨a, c, rfl, hf⟩ := h.form
  have HF := Lib.hid hf
  have HR := Lib.hid hr
  obtain ⟨n, hn⟩ : ∃ n, n = l.length := ⟨_, rfl⟩
  rw [← hn] at hl ⊢
  have HN := Lib.hid hn
  clear h hf hr hn
  go_enter Tryz.func13, Tryz.ntmps13
  go_wp2
  go_loopw [3, 17] (fun u i wr => ∃ k : Nat, k ≤ n ∧ i = .int .i64 k ∧ ownsS wr w.heap.size u ((l.take k).map (·.key)) ∧ Below w.heap.size w wr) (fun _ i _ => n - (intOf i).toNat)
  case atStart => exact ⟨0, by omega, rfl, ownsS_nil _ _, Below.refl _ _⟩
  case round =>
    obtain ⟨k, hk, rfl, ho, hb⟩ := hrel
    have HO := Lib.hid ho
    have HB := Lib.hid hb
    have HSR := Lib.hid hb.size
    clear ho hb
    by_cases hlt : k < n
    · have b1 : decide ((k : Int) < (n : Int)) = true := by simpa using hlt
      obtain ⟨x, hx⟩ : ∃ x, l[k]? = some x := ⟨l[k]'(by rw [← HN.out]; exact hlt), List.getElem?_eq_getElem _⟩
      obtain ⟨b, off, rfl, hbl, c0, c1, c2, c3, c4, c5⟩ := HF.out k x hx
      have HX := Lib.hid hx
      obtain ⟨T, Re, K, key, val, N⟩ := x
      simp only at c0 c1 c2 c3 c4 c5
      have up : ∀ j u, w.cell? ⟨b, j, none⟩ = some u → wr.cell? ⟨b, j, none⟩ = some u := fun j u hu => (HB.out.cell (p := ⟨b, j, none⟩) hbl).trans hu
      have e0 := up _ _ c0
      have e1 := up _ _ c1
      have e2 := up _ _ c2
      have e3 := up _ _ c3
      have e4 := up _ _ c4
      have e5 := up _ _ c5
      clear hx c0 c1 c2 c3 c4 c5 up hbl
      have HLEN : Hid (((l.take k).map (·.key)).length + 1 ≤ 8796093022208) := Lib.hid (by rw [List.length_map, List.length_take]; omega)
      go_wp2_with (at_builtin; refine wpList_append_str rfl _ _ rfl w.heap.size _ ((l.take k).map (·.key)) rfl ((HO.out.alloc _).alloc _) ⟨wr.heap.size + 1, 0, none⟩ 1 rfl key (by simp [Addr.add]) HLEN.out (by have := HSR.out; simp; omega) ?_; intro g cap w5 ho5 hg5; have HO5 := Lib.hid ho5; have HG5 := Lib.hid hg5; clear ho5 hg5)
      have HBZ : Hid (Below w.heap.size w w5) := Lib.hid (below_of_grown ((HB.out.alloc HSR.out _).alloc (by have := HSR.out; simp; omega) _) HG5.out (by have := HSR.out; simp; omega) (fun g e => (HO.out.lt g e).1))
      go_wp2
      go_roundw
      · refine ⟨k + 1, by omega, by simp, ?_, HBZ.out⟩
        have h9 := HO5.out
        rw [rtake_snoc HX.out, List.map_append]
        have e9 : ((l.take k).map (·.key)).length = min k l.length := by simp
        rw [e9] at h9
        exact h9
      · simp [intOf]; omega
    · have b1 : decide ((k : Int) < (n : Int)) = false := by simp; omega
      obtain rfl : k = n := by omega
      obtain ⟨wk, rfl⟩ : ∃ wk, wk = wr := ⟨_, rfl⟩
      have hfull : l.take k = l := List.take_of_length_le (by rw [HN.out]; exact Nat.le_refl _)
      rw [hfull] at HO
      obtain ⟨a3, c3, rfl⟩ := HO.out.slice
      have HIT : Hid (IsTexts wk (.slice a3 l.length c3) (l.map (·.key))) := Lib.hid (by have h := HO.out.isTexts; rwa [List.length_map] at h)
      clear hfull
      go_wp2_with fail
      refine (rtab_any _ (l.map (·.key)) wk HIT.out (by rw [List.length_map, ← HN.out]; omega)).mono ?_
      rintro r w6 ⟨v1, v2, rfl, ho6, _, hb6⟩
      have HB6 : Hid (Below w.heap.size w w6) := Lib.hid (HB.out.trans (hb6.mono HSR.out))
      have hm6 : (tabK [] (l.map (·.key))).length ≤ 1000 := by rw [← (keysS_perm l).length_eq]; have := refkeys_len (l := l); have := HN.out; omega
      have HO6 : Hid (ownsS w6 wk.heap.size v1 (tabK [] (l.map (·.key)))) := Lib.hid ho6
      have HM6 := Lib.hid hm6
      clear ho6 hb6 hm6
      go_wp2_with fail
      refine (sorts_any _ v1 (tabK [] (l.map (·.key))) w6 HO6.out (by have := HM6.out; omega)).mono ?_
      rintro r wt ⟨rfl, hot, hgt⟩
      have HBT : Hid (Below w.heap.size w wt) := Lib.hid (below_of_grown HB6.out hgt HB6.out.size (fun g e => Nat.le_trans HSR.out (HO6.out.lt g e).1))
      have hot2 : IsTexts wt v1 (keysS l) := hot.isTexts
      obtain ⟨a1, c1', rfl, hmc, hft⟩ := hot2
      obtain ⟨m, hm⟩ : ∃ m, m = (keysS l).length := ⟨_, rfl⟩
      rw [← hm]
      have HFT := Lib.hid hft
      have HMM : Hid (m = (keysS l).length ∧ m ≤ 1000) := Lib.hid ⟨hm, by rw [hm]; have := refkeys_len (l := l); have := HN.out; omega⟩
      have hm1000 := HMM.out.2
      clear hot hgt hmc hft hm HO HB HSR HO6 HB6
      go_wp2_with fail
      go_loopw [8, 36] (fun u i wx => ∃ (q : Nat) (zs : List CV), q ≤ m ∧ i = .int .i64 q ∧ ownsC wx wt.heap.size u zs ∧ RowsAre wx wt.heap.size (cellK l) (((keysS l).take q).filter (fun k => live (cellK l k))) zs ∧ Below wt.heap.size wt wx) (fun _ i _ => m - (intOf i).toNat)
      case atStart => exact ⟨0, [], by omega, rfl, ownsC_nil _ _, ⟨rfl, fun c hc => by cases hc⟩, Below.refl _ _⟩
      case round =>
        obtain ⟨q, zs, hq, rfl, ho, hra, hb⟩ := hrel
        obtain ⟨wx, rfl⟩ : ∃ wx, wx = wr := ⟨_, rfl⟩
        have HO := Lib.hid ho
        have HRA := Lib.hid hra
        have HB := Lib.hid hb
        have HSR := Lib.hid hb.size
        clear ho hra hb
        by_cases hlt2 : q < m
        · have b2 : decide ((q : Int) < (m : Int)) = true := by simpa using hlt2
          obtain ⟨kk, hkk⟩ : ∃ kk, (keysS l)[q]? = some kk := ⟨(keysS l)[q]'(by rw [← HMM.out.1]; exact hlt2), List.getElem?_eq_getElem _⟩
          obtain ⟨b, off, rfl, hbl, p0⟩ := HFT.out q kk hkk
          have p1 := (HB.out.cell (p := ⟨b, off + q, none⟩) hbl).trans p0
          have HKK := Lib.hid hkk
          clear hkk p0 hbl
          go_wp2_with fail
          obtain ⟨C, hC⟩ : ∃ C, C = wx.heap.size := ⟨_, rfl⟩
          obtain ⟨w0, hw0⟩ : ∃ w0, w0 = wx.alloc (.cells #[.string kk, .bool false, .string ⟨#[]⟩, .int .i64 0, .slice none 0 0] 60) := ⟨_, rfl⟩
          have HB0 : Hid (Below w.heap.size w w0) := Lib.hid (by rw [hw0]; exact (HBT.out.trans (HB.out.mono HBT.out.size)).alloc (Nat.le_trans HBT.out.size HSR.out) _)
          have HW0 : Hid (CelW w0 w0 C wt.heap.size kk cel0 (.slice none 0 0)) := Lib.hid (by
            rw [hC]
            exact ⟨by rw [hw0]; exact (MapKept.heap_alloc wx _).1, ownsS_nil _ _, by simp [Value.ownBlock], fun _ => rfl, grown_refl _ _, by rw [hw0]; simp, HSR.out, by simp [cel0]⟩)
          have HCX : Hid (C = wx.heap.size ∧ w0.heap.size = wx.heap.size + 1 ∧ w.heap.size ≤ C ∧ Below wx.heap.size wx w0) := Lib.hid ⟨hC, by rw [hw0]; simp, by rw [hC]; exact Nat.le_trans HBT.out.size HSR.out, by rw [hw0]; exact (Below.refl _ wx).alloc (Nat.le_refl _) _⟩
          rw [← hw0]
          rw [← hC]
          clear hC hw0
          go_loopw [44] (fun i wr => ∃ (j : Nat) (lv : Value), j ≤ k ∧ i = .int .i64 j ∧ CelW w0 wr C wt.heap.size kk (cellK (l.take j) kk) lv) (fun i _ => k - (intOf i).toNat)
          case atStart => exact ⟨0, _, by omega, rfl, by rw [List.take_zero, cellK_nil]; exact HW0.out⟩
          case round =>
            obtain ⟨j, lv, hj, rfl, hcw⟩ := hrel
            obtain ⟨wo, rfl⟩ : ∃ wo, wo = wr := ⟨_, rfl⟩
            have HCW := Lib.hid hcw
            clear hcw
            by_cases hlt3 : j < k
            · have b3 : decide ((j : Int) < (k : Int)) = true := by simpa using hlt3
              obtain ⟨x, hx⟩ : ∃ x, l[j]? = some x := ⟨l[j]'(by rw [← HN.out]; exact hlt3), List.getElem?_eq_getElem _⟩
              obtain ⟨b', off', rfl, hbl, c0, c1, c2, c3, c4, c5⟩ := HF.out j x hx
              have HX := Lib.hid hx
              have hx0 := HR.out x (List.mem_of_getElem? hx)
              obtain ⟨T, Re, K, key, val, N⟩ := x
              simp only at c0 c1 c2 c3 c4 c5
              have hbo : Below w.heap.size w wo := below_of_grown HB0.out HCW.out.gr HB0.out.size (fun g e => by have := HCX.out.2.2.1; cases e; omega)
              have up : ∀ j u, w.cell? ⟨b', j, none⟩ = some u → wo.cell? ⟨b', j, none⟩ = some u := fun j u hu => (hbo.cell (p := ⟨b', j, none⟩) hbl).trans hu
              have e0 := up _ _ c0
              have e1 := up _ _ c1
              have e2 := up _ _ c2
              have e3 := up _ _ c3
              have e4 := up _ _ c4
              have e5 := up _ _ c5
              have HX0 := Lib.hid hx0
              clear hx hx0 c0 c1 c2 c3 c4 c5 up hbl hbo
              by_cases he : key = kk
              · subst he
                have hbs := bne_same key
                have hbe := beq_same key
                have HK := Lib.hid (wrF_good HX0.out)
                simp only at HK
                have hcl : C < wo.heap.size := HCW.out.lt
                have hne : ¬ wo.heap.size = C := by omega
                have hne2 : ¬ C = wo.heap.size := by omega
                obtain ⟨g0, g1, g2, g3, g4, f0, f1, f2, f3, f4⟩ := refcells HCW.out.row
                obtain ⟨cc, hcc⟩ : ∃ cc, cc = cellK (l.take j) key := ⟨_, rfl⟩
                have HYES := Lib.hid (cellK_yes (k := key) HX.out rfl)
                rw [← hcc] at HYES g1 g2 g3 HCW
                obtain ⟨ch, ct, cs, cl⟩ := cc
                simp only at g0 g1 g2 g3 g4
                clear hcc
                obtain ⟨la, lc, rfl⟩ := HCW.out.own.slice
                simp only at HCW g4
                rcases HK.out.1 with rfl | rfl | rfl | rfl
                · go_wp2_with fail
                  go_region
                  go_wp2
                  go_roundw
                  · have e1 : stepC ⟨ch, ct, cs, cl⟩ ⟨T, Re, 1, key, val, N⟩ = { (⟨ch, ct, cs, cl⟩ : Cel) with has := true, text := val } := by simp [stepC]
                    exact ⟨j + 1, _, by omega, by simp, by rw [HYES.out, e1]; exact ((HCW.out.text val).alloc _).drew⟩
                  · simp [intOf]; omega
                · go_wp2
                  go_roundw
                  · exact ⟨j + 1, _, by omega, by simp, by rw [HYES.out, stepC_drop rfl]; exact HCW.out.zero.alloc _⟩
                  · simp [intOf]; omega
                · go_wp2
                  go_roundw
                  · have e1 : stepC ⟨ch, ct, cs, cl⟩ ⟨T, Re, 3, key, val, N⟩ = { (⟨ch, ct, cs, cl⟩ : Cel) with sum := wrap64 (cs + N) } := by simp [stepC]; exact IntWalk.i64_left _
                    exact ⟨j + 1, _, by omega, by simp, by rw [HYES.out, e1]; exact (HCW.out.sum _).alloc _⟩
                  · simp [intOf]; omega
                · obtain ⟨p, hp⟩ : ∃ p, p = cl.length := ⟨_, rfl⟩
                  obtain ⟨i, hi⟩ : ∃ i, i = min N.toNat p := ⟨_, rfl⟩
                  obtain ⟨hN0, hN1⟩ := HK.out.2.2.2 rfl
                  have hmin := min_is hN0 hi
                  have hmif := min_if hN0 hi
                  have HI : Hid (i = min N.toNat p ∧ i ≤ p ∧ p = cl.length) := Lib.hid ⟨hi, by omega, hp⟩
                  have hp1000 : p ≤ 1000 := by rw [hp]; exact HCW.out.len
                  have hip : i ≤ p := HI.out.2.1
                  rw [← hp] at HCW g4
                  clear hi hp hN0 hN1
                  -- INSERT
                  go_wp2_with fail
                  have hcwd := (HCW.out.alloc (.cells #[.int .i64 T, .int .i64 Re, .int .i64 4, .string key, .string val, .int .i64 N] 32)).drew
                  obtain ⟨wz, hwz⟩ : ∃ wz, wz = (wo.alloc (.cells #[.int .i64 T, .int .i64 Re, .int .i64 4, .string key, .string val, .int .i64 N] 32)).drew := ⟨_, rfl⟩
                  rw [← hwz] at hcwd
                  have hrx : wz.heap[wo.heap.size]? = some (.cells #[.int .i64 T, .int .i64 Re, .int .i64 4, .string key, .string val, .int .i64 N] 32 (0, 0)) := by rw [hwz]; exact (MapKept.heap_alloc wo _).1
                  have HLN : Hid ((cellK (l.take (j + 1)) key).list.length ≤ 1000) := Lib.hid (by have := cellK_len (l.take (j + 1)) key; rw [List.length_take] at this; have := HN.out; omega)
                  have HCZ : Hid (C < wz.heap.size ∧ wt.heap.size ≤ C) := Lib.hid ⟨hcwd.lt, hcwd.hH⟩
                  have HCD : Hid (CelW w0 wz C wt.heap.size key ⟨ch, ct, cs, cl⟩ (.slice la p lc)) := Lib.hid hcwd
                  have HRX := Lib.hid hrx
                  have hplc : p ≤ lc := by rw [HI.out.2.2]; exact own_cap HCD.out.own
                  have hilc : i ≤ lc := by omega
                  have HIL : Hid (i ≤ cl.length) := Lib.hid (by rw [← HI.out.2.2]; exact hip)
                  have HST : Hid (stepC ⟨ch, ct, cs, cl⟩ ⟨T, Re, 4, key, val, N⟩ = ⟨ch, ct, cs, cl.take i ++ [val] ++ cl.drop i⟩) := Lib.hid (stepC_ins (by rw [← HI.out.2.2]; exact HI.out.1))
                  obtain ⟨X3, hX3⟩ : ∃ X3, X3 = Value.slice (if lc = i then la else Option.map (fun x => x.add i) la) (p - i) (lc - i) := ⟨_, rfl⟩
                  have HX3 := Lib.hid hX3.symm
                  have UP : Hid (∀ W', Below wz.heap.size wz W' → (W'.cell? ⟨C, 4, none⟩ = some (.slice la p lc) ∧ W'.cell? ⟨wo.heap.size, 4, none⟩ = some (.string val)) ∧ CelW w0 W' C wt.heap.size key ⟨ch, ct, cs, cl⟩ (.slice la p lc) ∧ Txt W' (.slice la i lc) (cl.take i) ∧ Txt W' X3 (cl.drop i)) := Lib.hid (fun W' hb => by
                    have h1 := HCD.out.below hb
                    refine ⟨⟨cell_of_row _ _ 4 _ _ _ h1.row, cell_of_row _ _ 4 _ _ _ ((hb.block wo.heap.size (Array.getElem?_eq_some_iff.1 HRX.out).1).trans HRX.out)⟩, h1, txt_take h1.own HIL.out, ?_⟩
                    rw [← HX3.out, HI.out.2.2]
                    exact txt_drop h1.own HIL.out)
                  have HBZ : Hid (Below wz.heap.size wz wz) := Lib.hid (Below.refl _ _)
                  have k0 := (UP.out _ HBZ.out).1
                  have HWZ := Lib.hid hwz
                  rw [hwz] at k0
                  clear hwz hcwd hrx hX3 g1 g2 g3 g4 f0 f1 f2 f3 f4 hmin hmif
                  refine wp_region_Z 15 (S := fun W' => W'.cell? ⟨C, 4, none⟩ = some (.slice la p lc) ∧ W'.cell? ⟨wo.heap.size, 4, none⟩ = some (.string val)) (by kernel_rfl) k0 (fun hSS => ?_)
                  clear hSS
                  try simp only [Act.put, List.getElem_toArray, List.getElem_cons_zero, List.setIfInBounds_toArray, List.set_cons_zero, List.set_cons_succ]
                  rw [← HWZ.out] at k0 ⊢
                  refine wpAnyZ_take (i := 0) (v := ?vz1) rfl (by kernel_rfl) (by kernel_rfl) (by kernel_rfl) (fun _ _ _ h => h) (Or.inl ⟨by rfl, ?hz1⟩) (by assumption) ?rz1
                  case hz1 => (intro W hSw; (try dsimp only at hSw); go_simp; all_goals (with_reducible rfl))
                  try simp only [Act.put, List.getElem_toArray, List.getElem_cons_zero, List.setIfInBounds_toArray, List.set_cons_zero, List.set_cons_succ]
                  refine wpAnyZ_take (i := 1) (v := ?vz2) rfl (by kernel_rfl) (by kernel_rfl) (by kernel_rfl) (fun _ _ _ h => h) (Or.inl ⟨by rfl, ?hz2⟩) (by assumption) ?rz2
                  case hz2 => (intro W hSw; (try dsimp only at hSw); go_simp; all_goals (with_reducible rfl))
                  try simp only [Act.put, List.getElem_toArray, List.getElem_cons_zero, List.getElem_cons_succ, List.setIfInBounds_toArray, List.set_cons_zero, List.set_cons_succ]
                  refine wpAnyZ_take (i := 2) (v := ?vz3) rfl (by kernel_rfl) (by kernel_rfl) (by kernel_rfl) (fun _ _ _ h => h) (Or.inl ⟨by rfl, ?hz3⟩) (by assumption) ?rz3
                  case hz3 => (intro W hSw; (try dsimp only at hSw); go_simp; all_goals (with_reducible rfl))
                  try simp only [Act.put, List.getElem_toArray, List.getElem_cons_zero, List.getElem_cons_succ, List.setIfInBounds_toArray, List.set_cons_zero, List.set_cons_succ]
                  refine wpAnyZ_take (i := 3) (v := ?vz4) rfl (by kernel_rfl) (by kernel_rfl) (by kernel_rfl) (fun _ _ _ h => h) (Or.inl ⟨by rfl, ?hz4⟩) (by assumption) ?rz4
                  case hz4 => (intro W hSw; (try dsimp only at hSw); go_simp; all_goals (with_reducible rfl))
                  try simp only [Act.put, List.getElem_toArray, List.getElem_cons_zero, List.getElem_cons_succ, List.setIfInBounds_toArray, List.set_cons_zero, List.set_cons_succ]
                  refine wpAnyZ_take (i := 5) (v := ?vz5) rfl (by kernel_rfl) (by kernel_rfl) (by kernel_rfl) (fun _ _ _ h => h) (Or.inl ⟨by rfl, ?hz5⟩) (by assumption) ?rz5
                  case hz5 => (intro W hSw; (try dsimp only at hSw); go_simp; all_goals (with_reducible rfl))
                  try simp only [Act.put, List.getElem_toArray, List.getElem_cons_zero, List.getElem_cons_succ, List.setIfInBounds_toArray, List.set_cons_zero, List.set_cons_succ]
                  refine wpAnyZ_take (i := 6) (v := ?vz6) rfl (by kernel_rfl) (by kernel_rfl) (by kernel_rfl) (fun _ _ _ h => h) (Or.inl ⟨by rfl, ?hz6⟩) (by assumption) ?rz6
                  case hz6 => (intro W hSw; (try dsimp only at hSw); go_simp; all_goals (with_reducible rfl))
                  try simp only [Act.put, List.getElem_toArray, List.getElem_cons_zero, List.getElem_cons_succ, List.setIfInBounds_toArray, List.set_cons_zero, List.set_cons_succ]
                  refine wpAnyZ_take (i := 9) (v := ?vz7) rfl (by kernel_rfl) (by kernel_rfl) (by kernel_rfl) (fun _ _ _ h => h) (Or.inl ⟨by rfl, ?hz7⟩) (by assumption) ?rz7
                  case hz7 => (intro W hSw; (try dsimp only at hSw); go_simp; all_goals (with_reducible rfl))
                  try simp only [Act.put, List.getElem_toArray, List.getElem_cons_zero, List.getElem_cons_succ, List.setIfInBounds_toArray, List.set_cons_zero, List.set_cons_succ]
                  refine wpAnyZ_take (i := 10) (v := ?vz8) rfl (by kernel_rfl) (by kernel_rfl) (by kernel_rfl) (fun _ _ _ h => h) (Or.inl ⟨by rfl, ?hz8⟩) (by assumption) ?rz8
                  case hz8 => (intro W hSw; (try dsimp only at hSw); go_simp; all_goals (with_reducible rfl))
                  try simp only [Act.put, List.getElem_toArray, List.getElem_cons_zero, List.getElem_cons_succ, List.setIfInBounds_toArray, List.set_cons_zero, List.set_cons_succ]
                  refine wpAnyZ_take (i := 11) (v := ?vz9) rfl (by kernel_rfl) (by kernel_rfl) (by kernel_rfl) (fun _ _ _ h => h) (Or.inl ⟨by rfl, ?hz9⟩) (by assumption) ?rz9
                  case hz9 => (intro W hSw; (try dsimp only at hSw); go_simp; all_goals (with_reducible rfl))
                  try simp only [Act.put, List.getElem_toArray, List.getElem_cons_zero, List.getElem_cons_succ, List.setIfInBounds_toArray, List.set_cons_zero, List.set_cons_succ]
                  refine wpAnyZ_take (i := 12) (v := X3) rfl (by kernel_rfl) (by kernel_rfl) (by kernel_rfl) (fun _ _ _ h => h) (Or.inl ⟨by rfl, ?hz10⟩) (by assumption) ?rz10
                  case hz10 => (intro W hSw; (try dsimp only at hSw); go_simp; rw [HX3.out])
                  try simp only [Act.put, List.getElem_toArray, List.getElem_cons_zero, List.getElem_cons_succ, List.setIfInBounds_toArray, List.set_cons_zero, List.set_cons_succ]
                  refine wpAnyZ_ready (rs := [4, 7]) (by kernel_rfl) (by simp) ?_
                  refine AllReadyZ.cons rfl (fun KK hKK => ?_) (AllReadyZ.cons rfl (fun KK hKK => ?_) (AllReadyZ.nil))
                  · refine step_append_txt _ rfl _ _ rfl wz.heap.size (.slice none 0 0) [] rfl (ownsS_nil _ _) (.slice la i lc) (cl.take i) rfl (UP.out _ HBZ.out).2.2.1 (by rw [List.length_take]; simp; omega) HBZ.out.size ?_
                    intro v1 w1 ho1 hg1 hat1
                    rw [List.nil_append] at ho1
                    obtain ⟨a1', c1'', rfl⟩ := ho1.slice
                    obtain ⟨m1, hm1⟩ : ∃ m, m = (cl.take i).length := ⟨_, rfl⟩
                    rw [← hm1] at ho1 ⊢
                    have HM1 := Lib.hid hm1
                    clear hm1
                    have HB1 : Hid (Below wz.heap.size wz w1) := Lib.hid (below_of_grown HBZ.out hg1 HBZ.out.size (fun g e => by cases e))
                    have HO1 : Hid (ownsS w1 wz.heap.size (.slice a1' m1 c1'') (cl.take i)) := Lib.hid ho1
                    have k1 := (UP.out _ HB1.out).1
                    clear ho1 hg1 hat1
                    refine hKK.out _ _ k1 (fun hSS => ?_)
                    clear hKK hSS
                    try simp only [Act.put, List.getElem_toArray, List.getElem_cons_zero, List.getElem_cons_succ, List.setIfInBounds_toArray, List.set_cons_zero, List.set_cons_succ]
                    refine wpAnyZ_ready (rs := [7]) (by kernel_rfl) (by simp) ?_
                    refine AllReadyZ.cons rfl (fun KK hKK => ?_) (AllReadyZ.nil)
                    go_simp
                    have HB2 : Hid (Below wz.heap.size wz (w1.alloc (.cells #[.string val] 9))) := Lib.hid (HB1.out.alloc HB1.out.size _)
                    have HO2 : Hid (ownsS (w1.alloc (.cells #[.string val] 9)) wz.heap.size (.slice a1' m1 c1'') (cl.take i)) := Lib.hid (HO1.out.alloc _)
                    have HL2 : Hid (Txt (w1.alloc (.cells #[.string val] 9)) (.slice (some ⟨w1.heap.size, 0, none⟩) 1 1) [val]) := Lib.hid (txt_lit (cell_of_row _ _ 0 _ _ _ (MapKept.heap_alloc w1 _).1))
                    have k2 := (UP.out _ HB2.out).1
                    refine hKK.out _ _ k2 (fun hSS => ?_)
                    clear hKK hSS
                    try simp only [Act.put, List.getElem_toArray, List.getElem_cons_zero, List.getElem_cons_succ, List.setIfInBounds_toArray, List.set_cons_zero, List.set_cons_succ]
                    refine wpAnyZ_ready (rs := [8]) (by kernel_rfl) (by simp) ?_
                    refine AllReadyZ.cons rfl (fun KK hKK => ?_) (AllReadyZ.nil)
                    refine step_append_txt _ rfl _ _ rfl wz.heap.size _ (cl.take i) rfl HO2.out (.slice (some ⟨w1.heap.size, 0, none⟩) 1 1) [val] rfl HL2.out (by rw [List.length_take]; simp; omega) HB2.out.size ?_
                    intro v3 w3 ho3 hg3 hat3
                    obtain ⟨a3', c3'', rfl⟩ := ho3.slice
                    obtain ⟨m3, hm3⟩ : ∃ m, m = (cl.take i ++ [val]).length := ⟨_, rfl⟩
                    rw [← hm3] at ho3 ⊢
                    have HM3 := Lib.hid hm3
                    clear hm3
                    have HB3 : Hid (Below wz.heap.size wz w3) := Lib.hid (below_of_grown HB2.out hg3 HB2.out.size (fun g e => (HO2.out.lt g e).1))
                    have HO3 : Hid (ownsS w3 wz.heap.size (.slice a3' m3 c3'') (cl.take i ++ [val])) := Lib.hid ho3
                    have k3 := (UP.out _ HB3.out).1
                    clear ho3 hg3 hat3
                    refine hKK.out _ _ k3 (fun hSS => ?_)
                    clear hKK hSS
                    try simp only [Act.put, List.getElem_toArray, List.getElem_cons_zero, List.getElem_cons_succ, List.setIfInBounds_toArray, List.set_cons_zero, List.set_cons_succ]
                    refine wpAnyZ_ready (rs := [13]) (by kernel_rfl) (by simp) ?_
                    refine AllReadyZ.cons rfl (fun KK hKK => ?_) (AllReadyZ.nil)
                    refine step_append_txt _ rfl _ _ rfl wz.heap.size _ (cl.take i ++ [val]) rfl HO3.out X3 (cl.drop i) rfl (UP.out _ HB3.out).2.2.2 (by have := HI.out.2.2; rw [List.length_append, List.length_take, List.length_drop]; simp; omega) HB3.out.size ?_
                    intro v4 w4 ho4 hg4 hat4
                    obtain ⟨a4', c4'', rfl⟩ := ho4.slice
                    obtain ⟨m4, hm4⟩ : ∃ m, m = (cl.take i ++ [val] ++ cl.drop i).length := ⟨_, rfl⟩
                    rw [← hm4] at ho4 ⊢
                    have HM4 := Lib.hid hm4
                    clear hm4
                    have HB4 : Hid (Below wz.heap.size wz w4) := Lib.hid (below_of_grown HB3.out hg4 HB3.out.size (fun g e => (HO3.out.lt g e).1))
                    have HO4 : Hid (ownsS w4 wz.heap.size (.slice a4' m4 c4'') (cl.take i ++ [val] ++ cl.drop i)) := Lib.hid ho4
                    have k4 := (UP.out _ HB4.out).1
                    have hrow4 := (UP.out _ HB4.out).2.1
                    obtain ⟨g0', g1', g2', g3', g4', f0', f1', f2', f3', f4'⟩ := refcells hrow4.row
                    have HR4 := Lib.hid hrow4
                    clear ho4 hg4 hat4 hrow4
                    refine hKK.out _ _ k4 (fun hSS => ?_)
                    clear hKK hSS
                    try simp only [Act.put, List.getElem_toArray, List.getElem_cons_zero, List.getElem_cons_succ, List.setIfInBounds_toArray, List.set_cons_zero, List.set_cons_succ]
                    refine wpAnyZ_take (i := 14) (v := ?vz11) rfl (by kernel_rfl) (by kernel_rfl) (by kernel_rfl) (fun _ _ _ h => h) (Or.inl ⟨by rfl, ?hz11⟩) (by assumption) ?rz11
                    case hz11 => (intro W hSw; (try dsimp only at hSw); go_simp; all_goals (with_reducible rfl))
                    try simp only [Act.put, List.getElem_toArray, List.getElem_cons_zero, List.getElem_cons_succ, List.setIfInBounds_toArray, List.set_cons_zero, List.set_cons_succ]
                    refine wpAnyZ_ready (rs := [15]) (by kernel_rfl) (by simp) ?_
                    refine AllReadyZ.last rfl (of_decide_eq_true (by kernel_rfl)) (fun KK hKK => ?_)
                    go_simp
                    refine hKK.out _ _ ?_
                    clear hKK
                    try simp only [Act.put, List.getElem_toArray, List.getElem_cons_zero, List.getElem_cons_succ, List.setIfInBounds_toArray, List.set_cons_zero, List.set_cons_succ]
                    refine wpAnyZ_done (by kernel_rfl) ?_ _
                    clear k0 k1 k2 k3 k4 g0' g1' g2' g3' g4' f0' f1' f2' f3' f4'
                    go_wp2
                    go_roundw
                    · exact ⟨j + 1, _, by omega, by simp, by rw [HYES.out, HST.out]; exact HR4.out.ins HO4.out HCZ.out (by simp) (by rw [HYES.out, HST.out] at HLN; exact HLN.out)⟩
                    · simp [intOf]; omega
                  · go_simp
                    have HBL : Hid (Below wz.heap.size wz (wz.alloc (.cells #[.string val] 9))) := Lib.hid ((Below.refl _ wz).alloc (Nat.le_refl _) _)
                    have k2 := (UP.out _ HBL.out).1
                    refine hKK.out _ _ k2 (fun hSS => ?_)
                    clear hKK hSS
                    try simp only [Act.put, List.getElem_toArray, List.getElem_cons_zero, List.getElem_cons_succ, List.setIfInBounds_toArray, List.set_cons_zero, List.set_cons_succ]
                    refine wpAnyZ_ready (rs := [4]) (by kernel_rfl) (by simp) ?_
                    refine AllReadyZ.cons rfl (fun KK hKK => ?_) (AllReadyZ.nil)
                    refine step_append_txt _ rfl _ _ rfl wz.heap.size (.slice none 0 0) [] rfl (ownsS_nil _ _) (.slice la i lc) (cl.take i) rfl (UP.out _ HBL.out).2.2.1 (by rw [List.length_take]; simp; omega) HBL.out.size ?_
                    intro v1 w1 ho1 hg1 hat1
                    rw [List.nil_append] at ho1
                    obtain ⟨a1', c1'', rfl⟩ := ho1.slice
                    obtain ⟨m1, hm1⟩ : ∃ m, m = (cl.take i).length := ⟨_, rfl⟩
                    rw [← hm1] at ho1 ⊢
                    have HM1 := Lib.hid hm1
                    clear hm1
                    have HB1 : Hid (Below wz.heap.size wz w1) := Lib.hid (below_of_grown HBL.out hg1 HBL.out.size (fun g e => by cases e))
                    have HL2 : Hid (Txt w1 (.slice (some ⟨wz.heap.size, 0, none⟩) 1 1) [val]) := Lib.hid (txt_lit (cell_of_row _ _ 0 _ _ _ ((hg1.block wz.heap.size (by simp) (by simp [Value.ownBlock])).trans (MapKept.heap_alloc wz _).1)))
                    have HO1 : Hid (ownsS w1 wz.heap.size (.slice a1' m1 c1'') (cl.take i)) := Lib.hid ho1
                    have k1 := (UP.out _ HB1.out).1
                    clear ho1 hg1 hat1
                    have HB2 := HB1
                    have HO2 := HO1
                    refine hKK.out _ _ k1 (fun hSS => ?_)
                    clear hKK hSS
                    try simp only [Act.put, List.getElem_toArray, List.getElem_cons_zero, List.getElem_cons_succ, List.setIfInBounds_toArray, List.set_cons_zero, List.set_cons_succ]
                    refine wpAnyZ_ready (rs := [8]) (by kernel_rfl) (by simp) ?_
                    refine AllReadyZ.cons rfl (fun KK hKK => ?_) (AllReadyZ.nil)
                    refine step_append_txt _ rfl _ _ rfl wz.heap.size _ (cl.take i) rfl HO2.out (.slice (some ⟨wz.heap.size, 0, none⟩) 1 1) [val] rfl HL2.out (by rw [List.length_take]; simp; omega) HB2.out.size ?_
                    intro v3 w3 ho3 hg3 hat3
                    obtain ⟨a3', c3'', rfl⟩ := ho3.slice
                    obtain ⟨m3, hm3⟩ : ∃ m, m = (cl.take i ++ [val]).length := ⟨_, rfl⟩
                    rw [← hm3] at ho3 ⊢
                    have HM3 := Lib.hid hm3
                    clear hm3
                    have HB3 : Hid (Below wz.heap.size wz w3) := Lib.hid (below_of_grown HB2.out hg3 HB2.out.size (fun g e => (HO2.out.lt g e).1))
                    have HO3 : Hid (ownsS w3 wz.heap.size (.slice a3' m3 c3'') (cl.take i ++ [val])) := Lib.hid ho3
                    have k3 := (UP.out _ HB3.out).1
                    clear ho3 hg3 hat3
                    refine hKK.out _ _ k3 (fun hSS => ?_)
                    clear hKK hSS
                    try simp only [Act.put, List.getElem_toArray, List.getElem_cons_zero, List.getElem_cons_succ, List.setIfInBounds_toArray, List.set_cons_zero, List.set_cons_succ]
                    refine wpAnyZ_ready (rs := [13]) (by kernel_rfl) (by simp) ?_
                    refine AllReadyZ.cons rfl (fun KK hKK => ?_) (AllReadyZ.nil)
                    refine step_append_txt _ rfl _ _ rfl wz.heap.size _ (cl.take i ++ [val]) rfl HO3.out X3 (cl.drop i) rfl (UP.out _ HB3.out).2.2.2 (by have := HI.out.2.2; rw [List.length_append, List.length_take, List.length_drop]; simp; omega) HB3.out.size ?_
                    intro v4 w4 ho4 hg4 hat4
                    obtain ⟨a4', c4'', rfl⟩ := ho4.slice
                    obtain ⟨m4, hm4⟩ : ∃ m, m = (cl.take i ++ [val] ++ cl.drop i).length := ⟨_, rfl⟩
                    rw [← hm4] at ho4 ⊢
                    have HM4 := Lib.hid hm4
                    clear hm4
                    have HB4 : Hid (Below wz.heap.size wz w4) := Lib.hid (below_of_grown HB3.out hg4 HB3.out.size (fun g e => (HO3.out.lt g e).1))
                    have HO4 : Hid (ownsS w4 wz.heap.size (.slice a4' m4 c4'') (cl.take i ++ [val] ++ cl.drop i)) := Lib.hid ho4
                    have k4 := (UP.out _ HB4.out).1
                    have hrow4 := (UP.out _ HB4.out).2.1
                    obtain ⟨g0', g1', g2', g3', g4', f0', f1', f2', f3', f4'⟩ := refcells hrow4.row
                    have HR4 := Lib.hid hrow4
                    clear ho4 hg4 hat4 hrow4
                    refine hKK.out _ _ k4 (fun hSS => ?_)
                    clear hKK hSS
                    try simp only [Act.put, List.getElem_toArray, List.getElem_cons_zero, List.getElem_cons_succ, List.setIfInBounds_toArray, List.set_cons_zero, List.set_cons_succ]
                    refine wpAnyZ_take (i := 14) (v := ?vz12) rfl (by kernel_rfl) (by kernel_rfl) (by kernel_rfl) (fun _ _ _ h => h) (Or.inl ⟨by rfl, ?hz12⟩) (by assumption) ?rz12
                    case hz12 => (intro W hSw; (try dsimp only at hSw); go_simp; all_goals (with_reducible rfl))
                    try simp only [Act.put, List.getElem_toArray, List.getElem_cons_zero, List.getElem_cons_succ, List.setIfInBounds_toArray, List.set_cons_zero, List.set_cons_succ]
                    refine wpAnyZ_ready (rs := [15]) (by kernel_rfl) (by simp) ?_
                    refine AllReadyZ.last rfl (of_decide_eq_true (by kernel_rfl)) (fun KK hKK => ?_)
                    go_simp
                    refine hKK.out _ _ ?_
                    clear hKK
                    try simp only [Act.put, List.getElem_toArray, List.getElem_cons_zero, List.getElem_cons_succ, List.setIfInBounds_toArray, List.set_cons_zero, List.set_cons_succ]
                    refine wpAnyZ_done (by kernel_rfl) ?_ _
                    clear k0 k1 k2 k3 k4 g0' g1' g2' g3' g4' f0' f1' f2' f3' f4'
                    go_wp2
                    go_roundw
                    · exact ⟨j + 1, _, by omega, by simp, by rw [HYES.out, HST.out]; exact HR4.out.ins HO4.out HCZ.out (by simp) (by rw [HYES.out, HST.out] at HLN; exact HLN.out)⟩
                    · simp [intOf]; omega
              · have hbs := bne_diff he
                have hbe := beq_diff he
                have HNO := Lib.hid (cellK_no (k := kk) HX.out he)
                clear he
                go_wp2
                go_roundw
                · exact ⟨j + 1, lv, by omega, by simp, by rw [HNO.out]; exact HCW.out.alloc _⟩
                · simp [intOf]; omega
            · have b3 : decide ((j : Int) < (k : Int)) = false := by simp; omega
              obtain rfl : j = k := by omega
              have hfull : l.take j = l := List.take_of_length_le (by rw [HN.out]; exact Nat.le_refl _)
              rw [hfull] at HCW
              clear hfull
              obtain ⟨cc, hcc⟩ : ∃ cc, cc = cellK l kk := ⟨_, rfl⟩
              rw [← hcc] at HCW
              have HCC := Lib.hid hcc
              clear hcc
              obtain ⟨la, lc, rfl⟩ := HCW.out.own.slice
              obtain ⟨g0, g1, g2, g3, g4, f0, f1, f2, f3, f4⟩ := refcells HCW.out.row
              obtain ⟨ch, ct, cs, cl⟩ := cc
              simp only at g1 g2 g3 g4 HCW
              have HBO : Hid (Below wt.heap.size wt wo) := Lib.hid (below_of_grown (HB.out.trans (HCX.out.2.2.2.mono HSR.out)) HCW.out.gr (by have := HCX.out.2.1; have := HSR.out; omega) (fun g e => by cases e; exact HCW.out.hH))
              have HOZ : Hid (wt.heap.size ≤ wo.heap.size) := Lib.hid HBO.out.size
              have hg0 : wx.grownBy w0 none := grown_of_below HCX.out.2.2.2
              have hoc0 : ownsC w0 wt.heap.size u8 zs := World.ownsRow.kept HO.out hg0 (by cases u8.ownBlock with | none => exact .inl rfl | some g => exact .inr (by simp))
              have HOC : Hid (ownsC wo wt.heap.size u8 zs) := Lib.hid (World.ownsRow.kept hoc0 HCW.out.gr (by
                cases e : u8.ownBlock with
                | none => exact .inl rfl
                | some g => exact .inr (fun e2 => by have h1 := (HO.out.lt g e).2; have e3 : g = C := Option.some.inj e2; have := HCX.out.1; omega)))
              have HRO : Hid (RowsAre wo wt.heap.size (cellK l) (((keysS l).take q).filter (fun k => live (cellK l k))) zs) := Lib.hid ⟨HRA.out.1, fun c hc => by
                obtain ⟨h1, h2, h3, h4⟩ := HRA.out.2 c hc
                refine ⟨h1, h2, h3, World.ownsRow.kept (World.ownsRow.kept h4 hg0 (by cases c.list.ownBlock with | none => exact .inl rfl | some g => exact .inr (by simp))) HCW.out.gr ?_⟩
                cases e : c.list.ownBlock with
                | none => exact .inl rfl
                | some g => exact .inr (fun e2 => by have h5 := (h4.lt g e).2; have e3 : g = C := Option.some.inj e2; have := HCX.out.1; omega)⟩
              have HZL : Hid (zs.length ≤ 1000) := Lib.hid (by
                have h1 := congrArg List.length HRA.out.1
                rw [List.length_map] at h1
                have h2 := List.length_filter_le (fun k => live (cellK l k)) ((keysS l).take q)
                have h3 := List.length_take_le q (keysS l)
                omega)
              have hp1000 : cl.length ≤ 1000 := HCW.out.len
              obtain ⟨p, hp⟩ : ∃ p, p = cl.length := ⟨_, rfl⟩
              rw [← hp] at HCW g4 hp1000
              have HP := Lib.hid hp
              clear hp hg0 hoc0 HB0 HW0
              cases ch with
              | true =>
                go_wp2_with (at_builtin; refine wpList_append_cv rfl _ _ rfl wt.heap.size _ zs rfl (HOC.out.alloc _) wo.heap.size 1 rfl ⟨kk, true, ct, cs, .slice la p lc⟩ rfl (MapKept.heap_alloc wo _).1 (by have := HZL.out; omega) (by have := HOZ.out; simp; omega) ?_; intro g cap w5 ho5 hg5; have HO5 := Lib.hid ho5; have HG5 := Lib.hid hg5; clear ho5 hg5)
                have HBZ : Hid (Below wt.heap.size wt w5) := Lib.hid (below_of_grown (HBO.out.alloc HOZ.out _) HG5.out (by have := HOZ.out; simp; omega) (fun g e => (HOC.out.lt g e).1))
                have HRZ : Hid (RowsAre w5 wt.heap.size (cellK l) (((keysS l).take (q + 1)).filter (fun k => live (cellK l k))) (zs ++ [⟨kk, true, ct, cs, .slice la p lc⟩])) := Lib.hid (by
                  rw [filt_yes HKK.out (by rw [← HCC.out]; simp [live])]
                  have h9 := (HRO.out.grown (grown_alloc (grown_refl wo none) (.cells #[.string kk, .bool true, .string ct, .int .i64 cs, .slice la p lc] 60))).kept (HOC.out.alloc _) HG5.out
                  have h6 : ownsS (wo.alloc (.cells #[.string kk, .bool true, .string ct, .int .i64 cs, .slice la p lc] 60)) wt.heap.size (.slice la p lc) cl := ownsS.alloc HCW.out.own _
                  have h5 : ownsC (wo.alloc (.cells #[.string kk, .bool true, .string ct, .int .i64 cs, .slice la p lc] 60)) wt.heap.size u8 zs := HOC.out.alloc _
                  have h8 : ownsS w5 wt.heap.size (.slice la p lc) cl := World.ownsRow.kept h6 HG5.out (rows_apart h6 h5 (by decide))
                  have h7 := h9.add (k := kk) (u := .slice la p lc) (by rw [← HCC.out]; exact h8)
                  simp only [← HCC.out] at h7
                  exact h7)
                go_wp2
                go_roundw
                · exact ⟨q + 1, _, by omega, by simp, HO5.out, HRZ.out, HBZ.out⟩
                · simp [intOf]; omega
              | false =>
                by_cases hcs : cs = 0
                · subst hcs
                  cases cl with
                  | nil =>
                    obtain rfl : p = 0 := HP.out
                    have HNO := Lib.hid (filt_no (p := fun k => live (cellK l k)) HKK.out (by rw [← HCC.out]; simp [live]))
                    go_wp2
                    go_roundw
                    · exact ⟨q + 1, zs, by omega, by simp, HOC.out, by rw [HNO.out]; exact HRO.out, HBO.out⟩
                    · simp [intOf]; omega
                  | cons y ys =>
                    have hpp : 0 < p := by rw [HP.out]; simp
                    have hpi : (0 : Int) < (p : Int) := by omega
                    go_wp2_with (at_builtin; refine wpList_append_cv rfl _ _ rfl wt.heap.size _ zs rfl (HOC.out.alloc _) wo.heap.size 1 rfl ⟨kk, false, ct, 0, .slice la p lc⟩ rfl (MapKept.heap_alloc wo _).1 (by have := HZL.out; omega) (by have := HOZ.out; simp; omega) ?_; intro g cap w5 ho5 hg5; have HO5 := Lib.hid ho5; have HG5 := Lib.hid hg5; clear ho5 hg5)
                    have HBZ : Hid (Below wt.heap.size wt w5) := Lib.hid (below_of_grown (HBO.out.alloc HOZ.out _) HG5.out (by have := HOZ.out; simp; omega) (fun g e => (HOC.out.lt g e).1))
                    have HRZ : Hid (RowsAre w5 wt.heap.size (cellK l) (((keysS l).take (q + 1)).filter (fun k => live (cellK l k))) (zs ++ [⟨kk, false, ct, 0, .slice la p lc⟩])) := Lib.hid (by
                      rw [filt_yes HKK.out (by rw [← HCC.out]; simp [live])]
                      have h9 := (HRO.out.grown (grown_alloc (grown_refl wo none) (.cells #[.string kk, .bool false, .string ct, .int .i64 0, .slice la p lc] 60))).kept (HOC.out.alloc _) HG5.out
                      have h6 : ownsS (wo.alloc (.cells #[.string kk, .bool false, .string ct, .int .i64 0, .slice la p lc] 60)) wt.heap.size (.slice la p lc) (y :: ys) := ownsS.alloc HCW.out.own _
                      have h5 : ownsC (wo.alloc (.cells #[.string kk, .bool false, .string ct, .int .i64 0, .slice la p lc] 60)) wt.heap.size u8 zs := HOC.out.alloc _
                      have h8 : ownsS w5 wt.heap.size (.slice la p lc) (y :: ys) := World.ownsRow.kept h6 HG5.out (rows_apart h6 h5 (by decide))
                      have h7 := h9.add (k := kk) (u := .slice la p lc) (by rw [← HCC.out]; exact h8)
                      simp only [← HCC.out] at h7
                      exact h7)
                    go_wp2
                    go_roundw
                    · exact ⟨q + 1, _, by omega, by simp, HO5.out, HRZ.out, HBZ.out⟩
                    · simp [intOf]; omega
                · have b5 : (cs != 0) = true := by simpa using hcs
                  have HCS := Lib.hid hcs
                  clear hcs
                  go_wp2_with (at_builtin; refine wpList_append_cv rfl _ _ rfl wt.heap.size _ zs rfl (HOC.out.alloc _) wo.heap.size 1 rfl ⟨kk, false, ct, cs, .slice la p lc⟩ rfl (MapKept.heap_alloc wo _).1 (by have := HZL.out; omega) (by have := HOZ.out; simp; omega) ?_; intro g cap w5 ho5 hg5; have HO5 := Lib.hid ho5; have HG5 := Lib.hid hg5; clear ho5 hg5)
                  have HBZ : Hid (Below wt.heap.size wt w5) := Lib.hid (below_of_grown (HBO.out.alloc HOZ.out _) HG5.out (by have := HOZ.out; simp; omega) (fun g e => (HOC.out.lt g e).1))
                  have HRZ : Hid (RowsAre w5 wt.heap.size (cellK l) (((keysS l).take (q + 1)).filter (fun k => live (cellK l k))) (zs ++ [⟨kk, false, ct, cs, .slice la p lc⟩])) := Lib.hid (by
                    rw [filt_yes HKK.out (by rw [← HCC.out]; simp [live, HCS.out])]
                    have h9 := (HRO.out.grown (grown_alloc (grown_refl wo none) (.cells #[.string kk, .bool false, .string ct, .int .i64 cs, .slice la p lc] 60))).kept (HOC.out.alloc _) HG5.out
                    have h6 : ownsS (wo.alloc (.cells #[.string kk, .bool false, .string ct, .int .i64 cs, .slice la p lc] 60)) wt.heap.size (.slice la p lc) cl := ownsS.alloc HCW.out.own _
                    have h5 : ownsC (wo.alloc (.cells #[.string kk, .bool false, .string ct, .int .i64 cs, .slice la p lc] 60)) wt.heap.size u8 zs := HOC.out.alloc _
                    have h8 : ownsS w5 wt.heap.size (.slice la p lc) cl := World.ownsRow.kept h6 HG5.out (rows_apart h6 h5 (by decide))
                    have h7 := h9.add (k := kk) (u := .slice la p lc) (by rw [← HCC.out]; exact h8)
                    simp only [← HCC.out] at h7
                    exact h7)
                  go_wp2
                  go_roundw
                  · exact ⟨q + 1, _, by omega, by simp, HO5.out, HRZ.out, HBZ.out⟩
                  · simp [intOf]; omega
        · have b2 : decide ((q : Int) < (m : Int)) = false := by simp; omega
          obtain rfl : q = m := by omega
          have hfull : (keysS l).take q = keysS l := List.take_of_length_le (by rw [HMM.out.1]; exact Nat.le_refl _)
          rw [hfull] at HRA
          clear hfull
          go_wp2
          go_ret
          have hn2 : ((keysS l).filter (fun k => live (cellK l k))).Nodup := (keysS_nodup l).filter _
          have hzs : ((keysS l).filter (fun k => live (cellK l k))).map (celAtK zs) = zs := by
            rw [← HRA.out.1]; exact celAtK_all (by rw [HRA.out.1]; exact hn2)
          obtain ⟨z, h1, h2⟩ := RowsAre.cells (ks' := (keysS l).filter (fun k => live (cellK l k))) HRA.out hn2 (List.Perm.refl _) (List.Pairwise.filter _ (keysS_sorted l)) (fun k => by
            rw [List.mem_filter]
            refine ⟨fun h => h.2, fun h => ⟨?_, h⟩⟩
            rw [keysS_mem]
            refine Classical.byContradiction fun hn => ?_
            rw [cellK_none (fun w hw e => hn ⟨w, hw, e⟩)] at h
            cases h) (by rw [hzs]; exact HO.out.is)
          refine ⟨_, rfl, ?_, HBT.out.trans (HB.out.mono HBT.out.size)⟩
          rw [← h1.is]
          exact h2
end Go.Proofs.YtpmnflnaeknakaaGreatDoor
namespace Go.Proofs.YtpmnflnaeknakaaGreatDoor
open Go.RowKit Go.Maps

set_option maxRecDepth 100000 in
set_option maxHeartbeats 8000000 in
theorem of_bad (v : Value) (l : List Wr) (w : World) (p e : Nat) (x : Wr) (h : IsWrs w v l) (hok : ∀ t ∈ l, WrOk t) (hx : l[p]? = some x) (he : wrF x = e) (h0 : e ≠ 0) (hr : ∀ y ∈ l.take p, wrF y = 0) (hl : l.length ≤ 100000) (hg : errT w) :
    Calls Tryz.prog 9 #[v] w fun r w' => ∃ u, r = .returned (.tuple #[.slice none 0 0, u]) ∧ u ≠ .nilIface ∧ placeIs w' u e p ∧ Below w.heap.size w w' := by
  obtain ⟨a, c, rfl, hf⟩ := h.form
  have HF := Lib.hid hf
  have HR := Lib.hid hr
  have HOK := Lib.hid hok
  have HG := Lib.hid hg
  have HX := Lib.hid hx
  have HE := Lib.hid he
  have H0 := Lib.hid h0
  have HEV : Hid (errV e = .iface 33 (.int .i64 e)) := Lib.hid (by unfold errV; rw [if_neg h0])
  obtain ⟨n, hn⟩ : ∃ n, n = l.length := ⟨_, rfl⟩
  rw [← hn] at hl ⊢
  have hpn : p < n := by rw [hn]; exact (List.getElem?_eq_some_iff.1 hx).1
  have HN := Lib.hid hn
  clear h hf hr hn hok hg hx he h0
  obtain ⟨P, hP⟩ : ∃ P, P = w.heap.size + 1 := ⟨_, rfl⟩
  have HP := Lib.hid hP
  clear hP
  go_enter Tryz.func9, Tryz.ntmps9
  go_wp2_with (go_at_call 5; refine (new_any _).mono ?_; rintro r w1 ⟨rfl, hs1, hb1⟩; have HS1 : Hid (StoB w1 w.heap.size (w.heap.size + 2) P 0 (fun _ => cel0)) := Lib.hid (by rw [HP.out]; exact hs1); have HB1 := Lib.hid hb1; clear hs1 hb1; rw [← HP.out])
  go_loopw [11] (fun i wr => ∃ k : Nat, k ≤ p ∧ i = .int .i64 k ∧ StoB wr w.heap.size (w.heap.size + 2) P k (cellK (l.take k)) ∧ Below w.heap.size w wr) (fun i _ => n - (intOf i).toNat)
  case atStart => exact ⟨0, by omega, rfl, by rw [List.take_zero, cellK_nil]; exact HS1.out, HB1.out⟩
  case round =>
    obtain ⟨k, hk, rfl, hs, hb⟩ := hrel
    have HS := Lib.hid hs
    have HB := Lib.hid hb
    clear hs hb HS1 HB1
    have hlt : k < n := by omega
    have b1 : decide ((k : Int) < (n : Int)) = true := by simpa using hlt
    obtain ⟨y, hy⟩ : ∃ y, l[k]? = some y := ⟨l[k]'(by rw [← HN.out]; exact hlt), List.getElem?_eq_getElem _⟩
    obtain ⟨b, off, rfl, hbl, c0, c1, c2, c3, c4, c5⟩ := HF.out k y hy
    have HY := Lib.hid hy
    have HYO := Lib.hid (HOK.out y (List.mem_of_getElem? hy))
    have HYG : Hid (k < p → wrF y = 0) := Lib.hid (fun hkp => HR.out y (List.mem_of_getElem? (by rw [List.getElem?_take_of_lt hkp]; exact hy)))
    have HYB : Hid (k = p → wrF y = e) := Lib.hid (fun e1 => by subst e1; rw [HX.out] at hy; cases hy; exact HE.out)
    obtain ⟨T, Re, K, key, val, N⟩ := y
    simp only at c0 c1 c2 c3 c4 c5
    have HBL := Lib.hid hbl
    have d : ∀ j u, w.cell? ⟨b, j, none⟩ = some u → wr.cell? ⟨b, j, none⟩ = some u := fun j u hu => (HB.out.cell (p := ⟨b, j, none⟩) HBL.out).trans hu
    have e0 := d _ _ c0
    have e1 := d _ _ c1
    have e2 := d _ _ c2
    have e3 := d _ _ c3
    have e4 := d _ _ c4
    have e5 := d _ _ c5
    have HSR : Hid (w.heap.size ≤ wr.heap.size) := Lib.hid HB.out.size
    clear hy c0 c1 c2 c3 c4 c5 d hbl
    by_cases hkp : k < p
    · have HX0 := Lib.hid (HYG.out hkp)
      go_wp2_with (go_at_call 8; obtain ⟨M, D, L, hs, hBP, hBM⟩ := HS.out.grown (grown_alloc (grown_refl _ none) (.cells #[.int .i64 T, .int .i64 Re, .int .i64 K, .string key, .string val, .int .i64 N] 32)); refine (do_good _ w.heap.size (w.heap.size + 2) P M k D _ L T Re K key val N hs HX0.out (by omega) hBP hBM).mono ?_; rintro r w3 ⟨rfl, hs3, hb3, _⟩; have HS3 := Lib.hid hs3; have HB3 := Lib.hid hb3; clear hs hBP hBM hs3 hb3)
      go_roundw
      · refine ⟨k + 1, by omega, by simp, ?_, ?_⟩
        · rw [List.take_add_one, HY.out]
          show StoB _ _ _ _ _ (cellK (l.take k ++ [_]))
          rw [← stepG_cellK]
          exact HS3.out
        · exact (HB.out.alloc HSR.out _).trans HB3.out
      · simp [intOf]; omega
    · obtain rfl : k = p := by omega
      have HBAD : Hid (wriE T Re K key val N = e) := Lib.hid (HYB.out rfl)
      have HSZ : Hid (key.size ≤ 140737488351232 ∧ val.size ≤ 140737488351232) := Lib.hid ⟨HYO.out.2.2.1, HYO.out.2.2.2⟩
      go_wp2_with fail
      refine (do_bad _ w.heap.size (w.heap.size + 2) P k _ T Re K key val N (HS.out.grown (grown_alloc (grown_refl _ none) (.cells #[.int .i64 T, .int .i64 Re, .int .i64 K, .string key, .string val, .int .i64 N] 32))) HSZ.out.1 HSZ.out.2 e HBAD.out H0.out).mono ?_
      rintro r w3 ⟨rfl, _, hb3⟩
      have HB3 : Hid (Below w.heap.size w w3) := Lib.hid ((HB.out.alloc HSR.out _).trans (hb3.mono (by have := HSR.out; simp; omega)))
      have HG3 : Hid (errT w3) := Lib.hid (HG.out.below HB3.out)
      clear hb3
      rw [HEV.out]
      go_wp2_with (go_at_call 23; refine (tell_err _ e _ HG3.out (.inl rfl)).mono ?_; rintro r w4 ⟨rfl, hb4⟩; have HB4 : Hid (Below w.heap.size w w4) := Lib.hid (HB3.out.trans (hb4.mono HB3.out.size)); clear hb4)
      go_ret2
      exact ⟨_, rfl, by simp, (atIs.new w4 e k H0.out).place, HB4.out.alloc HB4.out.size _⟩
end Go.Proofs.YtpmnflnaeknakaaGreatDoor
namespace Go.Proofs.YtpmnflnaeknakaaGreatDoor
open Go.ChangeShapes Go.WideShapes Go.ChangeAt Go.RowKit

theorem wrsArgU {H : Type} {enc : TypeId × Value → H} {W : World} {spare : Nat → Bool} {held : Bool} {a0 : Option Addr} {len0 cap0 fuel : Nat} {d : DataW H} {p : List MemPlace}
    (hf : DataW.trod enc Tryz.prog W 0 spare held fuel 22 [.slice a0 len0 cap0] = some (d, p))
    (hw : ∀ x ∈ DataW.weights Tryz.prog 22 d, x ≤ reachBytes) :
    ∃ l : List Wr, IsWrs W (.slice a0 len0 cap0) l ∧ l.length = len0 ∧ len0 ≤ cap0 ∧ cap0 ≤ maxLen ∧ (∀ t ∈ l, WrOk t) ∧ ∃ sp, d = .slice (l.map wrD) sp ∨ l = [] := by
  rcases Go.Deep.open_slice Tryz.underlying22 hf with ⟨hcs, _⟩ | ⟨a, ln, cp, m, n, D, Pl, hcs, _, hl, hm, hmm, hx, hi⟩
  · simp only [List.cons.injEq, Value.slice.injEq, and_true] at hcs
    obtain ⟨rfl, rfl, rfl⟩ := hcs
    exact ⟨[], .inl ⟨_, _, rfl, rfl⟩, rfl, Nat.le_refl _, by unfold maxLen; omega, (fun t h => by cases h), [], .inr rfl⟩
  · simp only [List.cons.injEq, Value.slice.injEq, and_true] at hcs
    obtain ⟨rfl, rfl, rfl⟩ := hcs
    have h3 : Tryz.prog.cellsOf 32 = 6 := by kernel_rfl
    rw [h3] at hi
    have hle : len0 ≤ m := by rw [hmm]; split <;> omega
    obtain ⟨f, hfc⟩ := Go.Deep.choose_lt (n := len0) (p := fun i (t : Wr) => W.cells? 0 (a.add (i * 6)) 6 = some (wrC t) ∧ D i = wrD t ∧ -9223372036854775808 ≤ t.n ∧ t.n ≤ 9223372036854775807) (fun i hlt => by
      obtain ⟨cs', hc, ht⟩ := hi i (by omega)
      obtain ⟨t, h1, h2, h4⟩ := wr_elem ht
      exact ⟨t, by rw [hc, h1], h2, h4⟩)
    have hll : ((List.range len0).map f).length = len0 := by simp
    have hD : (List.range len0).map D = ((List.range len0).map f).map wrD := by rw [List.map_map]; exact List.map_congr_left (fun i hi => (hfc i (List.mem_range.1 hi)).2.1)
    refine ⟨(List.range len0).map f, ?_, hll, hl, hm, fun t ht => ?_, _, .inl (by rw [← hD]; exact (Prod.mk.inj hx).1)⟩
    · by_cases hz : len0 = 0
      · subst hz; exact .inl ⟨_, _, rfl, rfl⟩
      · obtain ⟨b, off, spot⟩ := a
        have hcell : ∀ i, i < len0 → ∀ r, r < 6 → W.cell? ((⟨b, off, spot⟩ : Addr).add (i * 6 + r)) = (wrC (f i))[r]? := fun i hlt r hr => by
          obtain ⟨_, _, hat⟩ := World.cells?_some (hfc i hlt).1
          rw [← Go.Deep.add_add]; exact hat r hr
        have h0 := hcell 0 (by omega) 0 (by omega)
        have hspot : spot = none := by simpa [Addr.add] using World.cell?_spot (h0.trans rfl)
        subst hspot
        refine .inr ⟨b, off, cap0, by rw [hll], by rw [hll]; omega, block_lt_of_cell (h0.trans rfl), fun j u hj => ?_⟩
        have hjl : j < len0 * 6 := by rw [← hll, ← wrsC_len]; exact (List.getElem?_eq_some_iff.1 hj).1
        have hc := hcell (j / 6) (by omega) (j % 6) (Nat.mod_lt _ (by decide))
        have hti : ((List.range len0).map f)[j / 6]? = some (f (j / 6)) := by
          rw [List.getElem?_map, List.getElem?_range (by omega)]; rfl
        have h5 := wrsC_at _ _ (j % 6) _ hti (Nat.mod_lt _ (by decide))
        rw [show j / 6 * 6 + j % 6 = j by omega] at hc h5
        rw [← h5, hj] at hc
        rw [← hc]
        refine congrArg W.cell? ?_
        unfold Addr.add
        split
        · rename_i e; rw [e]; rfl
        · rfl
    · obtain ⟨i, hir, hit⟩ := List.mem_map.1 ht
      have hil := List.mem_range.1 hir
      have hd : d = .slice ((List.range len0).map D) ((List.range (m - len0)).map fun j => D (len0 + j)) := (Prod.mk.inj hx).1
      have hmem : wrD t ∈ (List.range len0).map D := List.mem_map.2 ⟨i, hir, by rw [(hfc i hil).2.1, hit]⟩
      have hwt := wr_weight _ t hmem
      have hin : ∀ y ∈ DataW.weightsAll Tryz.prog 32 ((List.range len0).map D), y ≤ reachBytes := fun y hy => hw y (by
        rw [hd, DataW.weights, Tryz.underlying22]
        exact List.mem_cons_of_mem _ (List.mem_append_left _ hy))
      have g1 := hin _ hwt.1
      have g2 := hin _ hwt.2
      unfold reachBytes at g1 g2
      have hn := (hfc i hil).2.2
      rw [hit] at hn
      exact ⟨hn.1, hn.2, by omega, by omega⟩
theorem wrD_bulk {H : Type} (t : Wr) : Rows.uptoBulk (wrD t : DataW H) = 8 + t.key.size + t.value.size := by
  unfold wrD
  simp only [Rows.uptoBulk, Rows.uptoBulkAll, Array.length_toList]
  show _ = 8 + t.key.data.size + t.value.data.size
  omega
theorem wrs_bulk {H : Type} : ∀ (l : List Wr), 8 * l.length ≤ Rows.uptoBulkAll (l.map (wrD : Wr → DataW H)) ∧ ∀ t ∈ l, t.key.size + t.value.size ≤ Rows.uptoBulkAll (l.map (wrD : Wr → DataW H))
  | [] => ⟨by simp [Rows.uptoBulkAll], fun t h => by cases h⟩
  | t :: r => by
    have h := wrs_bulk (H := H) r
    have e := wrD_bulk (H := H) t
    simp only [List.map_cons, Rows.uptoBulkAll, List.length_cons, List.mem_cons]
    refine ⟨by omega, fun u hu => ?_⟩
    rcases hu with rfl | hu
    · omega
    · have := h.2 u hu; omega
theorem wrs_small {H : Type} {l : List Wr} {d : DataW H} {sp : List (DataW H)} (hd : d = .slice (l.map wrD) sp ∨ l = []) (hk : Rows.uptoSmall H [d] = true) : l.length ≤ 131072 ∧ ∀ t ∈ l, t.key.size ≤ 1048576 ∧ t.value.size ≤ 1048576 := by
  rcases hd with rfl | rfl
  · have h1 := of_decide_eq_true hk
    simp only [Rows.uptoBulkAll, Rows.uptoBulk] at h1
    have h := wrs_bulk (H := H) l
    exact ⟨by omega, fun t ht => by have := h.2 t ht; omega⟩
  · exact ⟨by simp, fun t h => by cases h⟩
end Go.Proofs.YtpmnflnaeknakaaGreatDoor
namespace Go.Proofs.YtpmnflnaeknakaaGreatDoor
open Go.RowKit Go.Maps

theorem bigS_ge : ∀ (l : List Wr) (x : Int), 0 ≤ x → (∀ t ∈ l, t.key.size ≤ 1048576 ∧ t.value.size ≤ 1048576) → x + l.length * 262144 ≤ 4611686018427387904 → x ≤ bigS x l
  | [], x, _, _, _ => Int.le_refl _
  | t :: r, x, h0, ht, hb => by
    obtain ⟨h1, h2⟩ := ht t List.mem_cons_self
    rw [List.length_cons] at hb
    have e1 : IntKind.i64.wrap ((t.key.size : Int) + (t.value.size : Int)) = (t.key.size : Int) + (t.value.size : Int) := IntWalk.i64_in _ (by omega)
    have e2 : ((t.key.size : Int) + (t.value.size : Int)).tdiv 8 = ((t.key.size : Int) + (t.value.size : Int)) / 8 := Int.tdiv_eq_ediv_of_nonneg (by omega)
    have e3 : IntKind.i64.wrap (((t.key.size : Int) + (t.value.size : Int)) / 8) = ((t.key.size : Int) + (t.value.size : Int)) / 8 := IntWalk.i64_in _ (by omega)
    have e4 : IntKind.i64.wrap (x + ((t.key.size : Int) + (t.value.size : Int)) / 8) = x + ((t.key.size : Int) + (t.value.size : Int)) / 8 := IntWalk.i64_in _ (by omega)
    unfold bigS
    rw [e1, e2, e3, e4]
    have := bigS_ge r (x + ((t.key.size : Int) + (t.value.size : Int)) / 8) (by omega) (fun u hu => ht u (List.mem_cons_of_mem _ hu)) (by omega)
    omega
theorem big_len {l : List Wr} (hn : l.length ≤ 131072) (ht : ∀ t ∈ l, t.key.size ≤ 1048576 ∧ t.value.size ≤ 1048576) (hb : bigV 300 [] [] l = false) : l.length ≤ 300 := by
  unfold bigV at hb
  simp only [List.length_nil, decide_eq_false_iff_not, Int.not_lt] at hb
  have e1 : IntKind.i64.wrap (((0 : Nat) : Int) + ((0 : Nat) : Int)) = 0 := by decide
  have e2 : IntKind.i64.wrap (0 + (l.length : Int)) = l.length := by rw [Int.zero_add]; exact IntWalk.i64_in _ (by omega)
  rw [e1, e2] at hb
  have := bigS_ge l l.length (by omega) ht (by omega)
  omega
/-- Those that are right. -/
def goodW (l : List Wr) : List Wr := l.filter (fun x => decide (wrF x = 0))
theorem goodW_yes {L : List Wr} {k : Nat} {x : Wr} (hx : L[k]? = some x) (h : wrF x = 0) : goodW (L.take (k + 1)) = goodW (L.take k) ++ [x] := by
  unfold goodW; exact filt_yes hx (by simpa using h)
theorem goodW_no {L : List Wr} {k : Nat} {x : Wr} (hx : L[k]? = some x) (h : wrF x ≠ 0) : goodW (L.take (k + 1)) = goodW (L.take k) := by
  unfold goodW; exact filt_no hx (by simpa using h)
theorem goodW_len (L : List Wr) : (goodW L).length ≤ L.length := List.length_filter_le _ _
theorem goodW_ok {L : List Wr} : ∀ x ∈ goodW L, wrF x = 0 := fun x hx => by simpa using (List.mem_filter.1 hx).2
theorem goodW_all {L : List Wr} (h : ∀ x ∈ L, wrF x = 0) : goodW L = L := List.filter_eq_self.2 (fun x hx => by simpa using h x hx)
/-- The first that is not right among the first k, or -1. -/
def FstB (l : List Wr) (k : Nat) (f : Int) : Prop := (f = -1 ∧ ∀ y ∈ l.take k, wrF y = 0) ∨ ∃ (p : Nat) (x : Wr), f = p ∧ p < k ∧ l[p]? = some x ∧ wrF x ≠ 0 ∧ ∀ y ∈ l.take p, wrF y = 0
theorem StoB.wr {w w' : World} {B R P m B2 : Nat} {G : ByteArray → Cel} {u : Value} {l : List Wr} (h : StoB w B R P m G) (ho : ownsW w B2 u l) (hR : R ≤ B2) (hg : w.grownBy w' u.ownBlock) : StoB w' B R P m G := by
  obtain ⟨M, D, L, hs, h1, h2⟩ := h
  have hne : ∀ b, b < R → some b ≠ u.ownBlock := fun b hb e => by have := (ho.lt b e.symm).1; omega
  exact ⟨M, D, L, { hs with
    row := (hg.block P (by have := hs.pr; have := hs.rw'; omega) (hne P hs.pr)).trans hs.row
    map := hs.map.kept hg (hne M hs.mr)
    own := fun k hk => World.ownsRow.kept (hs.own k hk) hg (rows_apart (hs.own k hk) ho (by decide))
    rw' := Nat.le_trans hs.rw' hg.size }, h1, h2⟩
theorem ownsW.keepD {w w' : World} {base : Nat} {v : Value} {l : List Wr} (h : ownsW w base v l) (hk : KeepW w w') : ownsW w' base v l := by
  obtain ⟨h0, h1⟩ := h
  refine ⟨h0, ?_⟩
  rcases h1 with h1 | ⟨g, cap, cur, hv, hg, hh, r⟩
  · exact .inl h1
  · exact .inr ⟨g, cap, cur, hv, hg, hk g cur hh, r⟩

theorem rw_good {T Re K : Int} {key val : ByteArray} {N : Int} (h : wriE T Re K key val N = 0) (w : World) (hk : key.size ≤ 140737488351232) (hv : val.size ≤ 140737488351232) :
    Calls Tryz.prog 6 #[.agg #[.int .i64 T, .int .i64 Re, .int .i64 K, .string key, .string val, .int .i64 N]] w fun e w' => e = .returned (.int .i64 0) ∧ Below w.heap.size w w' :=
  (rwright_any T Re K key val N w hk hv).mono fun e w' ⟨h1, h2⟩ => ⟨by rw [h1, h]; rfl, h2⟩
theorem rw_bad {T Re K : Int} {key val : ByteArray} {N : Int} {e0 : Nat} (h : wriE T Re K key val N = e0) (w : World) (hk : key.size ≤ 140737488351232) (hv : val.size ≤ 140737488351232) :
    Calls Tryz.prog 6 #[.agg #[.int .i64 T, .int .i64 Re, .int .i64 K, .string key, .string val, .int .i64 N]] w fun e w' => e = .returned (.int .i64 (e0 : Int)) ∧ Below w.heap.size w w' :=
  (rwright_any T Re K key val N w hk hv).mono fun e w' ⟨h1, h2⟩ => ⟨by rw [h1, h], h2⟩
theorem row6 {w : World} {B : Nat} {a0 a1 a2 a3 a4 a5 : Value} {T : TypeId} (h : w.heap[B]? = some (.cells #[a0, a1, a2, a3, a4, a5] T (0, 0))) :
    w.cell? ⟨B, 0, none⟩ = some a0 ∧ w.cell? ⟨B, 1, none⟩ = some a1 ∧ w.cell? ⟨B, 2, none⟩ = some a2 ∧ w.cell? ⟨B, 3, none⟩ = some a3 ∧ w.cell? ⟨B, 4, none⟩ = some a4 ∧ w.cell? ⟨B, 5, none⟩ = some a5 :=
  ⟨cell_of_row _ _ 0 _ _ _ h, cell_of_row _ _ 1 _ _ _ h, cell_of_row _ _ 2 _ _ _ h, cell_of_row _ _ 3 _ _ _ h, cell_of_row _ _ 4 _ _ _ h, cell_of_row _ _ 5 _ _ _ h⟩

set_option maxRecDepth 100000 in
set_option maxHeartbeats 8000000 in
theorem storeDoes_walk (W : World) (v : Value) (l : List Wr) (hi : IsWrs W v l) (hl : l.length ≤ 9223372036854775807) (hok : ∀ t ∈ l, WrOk t) (hsm : l.length ≤ 131072 ∧ ∀ t ∈ l, t.key.size ≤ 1048576 ∧ t.value.size ≤ 1048576) (hg : errT W) :
    Calls Tryz.prog 3 #[v] W fun e w' => e = .returned (.bool true) ∧ Below W.heap.size W w' := by
  have hbat : BatIs W (.slice none 0 0) (.slice none 0 0) v [] [] l := ⟨.inl ⟨_, _, rfl, rfl⟩, .inl ⟨_, _, rfl, rfl⟩, hi, by simp, by simp, hl, hok⟩
  have HBAT := Lib.hid hbat
  have HI := Lib.hid hi
  have HOK := Lib.hid hok
  have HG := Lib.hid hg
  obtain ⟨av, cv, rfl, hf⟩ := hi.form
  obtain ⟨n, hn⟩ : ∃ n, n = l.length := ⟨_, rfl⟩
  rw [← hn] at HBAT HI ⊢
  cases hb : bigV 300 [] [] l with
  | true =>
    have HBG := Lib.hid hb
    clear hb hi hok hg hf hbat hsm hl hn
    go_enter Tryz.func3, Tryz.ntmps3
    go_wp2_with (go_at_call 4; refine (bigL_as _ _ _ [] [] l true _ HBAT.out HBG.out).mono ?_; rintro r w1 ⟨rfl, hb1⟩; have HB1 := Lib.hid hb1; clear hb1)
    go_ret
    exact ⟨rfl, HB1.out⟩
  | false =>
    have hn300 : n ≤ 300 := by rw [hn]; exact big_len hsm.1 hsm.2 hb
    have HBG := Lib.hid hb
    have HF := Lib.hid hf
    have HN := Lib.hid hn
    clear hb hi hok hg hf hbat hsm hl hn
    go_enter Tryz.func3, Tryz.ntmps3
    go_wp2_with (go_at_call 4; refine (bigL_as _ _ _ [] [] l false _ HBAT.out HBG.out).mono ?_; rintro r w1 ⟨rfl, hb1⟩; have HB1 := Lib.hid hb1; clear hb1)
    refine (new_any w1).mono ?_
    rintro r w2 ⟨rfl, hs2, hb2⟩
    obtain ⟨P, hP⟩ : ∃ P, P = w1.heap.size + 1 := ⟨_, rfl⟩
    obtain ⟨R, hR⟩ : ∃ R, R = w1.heap.size + 2 := ⟨_, rfl⟩
    obtain ⟨B, hB⟩ : ∃ B, B = w1.heap.size := ⟨_, rfl⟩
    rw [← hP, ← hR, ← hB] at hs2
    rw [← hP]
    have HS2 := Lib.hid hs2
    have HB2 : Hid (Below W.heap.size W w2) := Lib.hid (HB1.out.trans (hb2.mono HB1.out.size))
    have HBB : Hid (W.heap.size ≤ B ∧ R = B + 2 ∧ R ≤ w2.heap.size) := Lib.hid ⟨by rw [hB]; exact HB1.out.size, by omega, by obtain ⟨M, D, L, hs, _⟩ := hs2; exact hs.rw'⟩
    clear hs2 hb2 hP hR hB HB1
    go_wp2
    go_loopw [3, 5, 17] (fun u f i wr => ∃ (k : Nat) (fb : Int), k ≤ n ∧ i = .int .i64 k ∧ f = .int .i64 fb ∧ FstB l k fb ∧ ownsW wr R u (goodW (l.take k)) ∧ StoB wr B R P k (cellK (goodW (l.take k))) ∧ Below W.heap.size W wr ∧ R ≤ wr.heap.size) (fun _ _ i _ => n - (intOf i).toNat)
    case atStart => exact ⟨0, -1, by omega, rfl, rfl, .inl ⟨rfl, fun y hy => by simp at hy⟩, ownsW_nil _ _, by rw [List.take_zero]; exact HS2.out, HB2.out, HBB.out.2.2⟩
    case round =>
      obtain ⟨k, fb, hk, rfl, rfl, hfb, ho, hs, hb, hrw⟩ := hrel
      have HFB := Lib.hid hfb
      have HO := Lib.hid ho
      have HS := Lib.hid hs
      have HB := Lib.hid hb
      have HRW := Lib.hid hrw
      clear hfb ho hs hb hrw HS2 HB2
      by_cases hlt : k < n
      · have b1 : decide ((k : Int) < (n : Int)) = true := by simpa using hlt
        obtain ⟨x, hx⟩ : ∃ x, l[k]? = some x := ⟨l[k]'(by rw [← HN.out]; exact hlt), List.getElem?_eq_getElem _⟩
        obtain ⟨b, off, rfl, hbl, c0, c1, c2, c3, c4, c5⟩ := HF.out k x hx
        have HX := Lib.hid hx
        have HSZ : Hid (x.key.size ≤ 140737488351232 ∧ x.value.size ≤ 140737488351232) := Lib.hid ⟨(HOK.out x (List.mem_of_getElem? hx)).2.2.1, (HOK.out x (List.mem_of_getElem? hx)).2.2.2⟩
        have HGL : Hid ((goodW (l.take k)).length ≤ 300) := Lib.hid (by have := goodW_len (l.take k); rw [List.length_take] at this; omega)
        have d : ∀ j u, W.cell? ⟨b, j, none⟩ = some u → wr.cell? ⟨b, j, none⟩ = some u := fun j u hu => (HB.out.cell (p := ⟨b, j, none⟩) hbl).trans hu
        have e0 := d _ _ c0
        have e1 := d _ _ c1
        have e2 := d _ _ c2
        have e3 := d _ _ c3
        have e4 := d _ _ c4
        have e5 := d _ _ c5
        by_cases hgd : wrF x = 0
        · have HGD := Lib.hid hgd
          have hft : FstB l (k + 1) fb := by
            rcases HFB.out with ⟨h1, h2⟩ | ⟨p, y, h1, h2, h3⟩
            · exact .inl ⟨h1, fun y hy => by rw [rtake_snoc hx] at hy; rcases List.mem_append.1 hy with hy | hy; exact h2 y hy; rw [List.mem_singleton.1 hy]; exact hgd⟩
            · exact .inr ⟨p, y, h1, by omega, h3⟩
          have HFT := Lib.hid hft
          obtain ⟨T, Re, K, key, val, N⟩ := x
          simp only at c0 c1 c2 c3 c4 c5 e0 e1 e2 e3 e4 e5
          have HW0 : Hid (wriE T Re K key val N = 0) := Lib.hid hgd
          clear hx c0 c1 c2 c3 c4 c5 d hbl hgd hft
          go_wp2_with fail
          refine (rw_good HW0.out _ HSZ.out.1 HSZ.out.2).mono ?_
          rintro r wa ⟨rfl, hba⟩
          have hrowa : wa.heap[wr.heap.size]? = some (.cells #[.int .i64 T, .int .i64 Re, .int .i64 K, .string key, .string val, .int .i64 N] 32 (0, 0)) := (hba.block wr.heap.size (by simp)).trans (MapKept.heap_alloc wr _).1
          obtain ⟨p0, p1, p2, p3, p4, p5⟩ := row6 hrowa
          have hga : wr.grownBy wa none := grown_on (grown_alloc (grown_refl _ none) (.cells #[.int .i64 T, .int .i64 Re, .int .i64 K, .string key, .string val, .int .i64 N] 32)) (grown_of_below hba)
          have HRA := Lib.hid hrowa
          have HGA := Lib.hid hga
          have HBA : Hid (Below W.heap.size W wa) := Lib.hid (below_of_grown HB.out hga HB.out.size (fun g e => by cases e))
          have HSA : Hid (StoB wa B R P k (cellK (goodW (l.take k)))) := Lib.hid (HS.out.grown hga)
          have HOA : Hid (ownsW wa R u3 (goodW (l.take k))) := Lib.hid (ownsW.keepD HO.out (KeepW.of_grown hga))
          clear hba hrowa hga
          go_wp2_with fail
          obtain ⟨M, D, L, hs, hBP, hBM⟩ := HSA.out
          refine (do_good wa B R P M k D _ L T Re K key val N hs HW0.out (by omega) hBP hBM).mono ?_
          rintro r w3 ⟨rfl, hs3, hb3, hk3⟩
          have HS3 := Lib.hid hs3
          have HB3 : Hid (Below W.heap.size W w3) := Lib.hid (HBA.out.trans (hb3.mono HBB.out.1))
          have HR3 := Lib.hid (hk3 _ _ HRA.out)
          have HO3 : Hid (ownsW w3 R u3 (goodW (l.take k))) := Lib.hid (ownsW.keepD HOA.out hk3)
          clear hs hBP hBM hs3 hb3 hk3 p0 p1 p2 p3 p4 p5
          go_wp2_with fail
          refine (bare_ok .nilIface 0 w3 (HG.out.below HB3.out) (.inl ⟨rfl, rfl, rfl⟩)).mono ?_
          rintro r w4 ⟨rfl, hb4⟩
          have hrow4 := (hb4.block wr.heap.size (Array.getElem?_eq_some_iff.1 HR3.out).1).trans HR3.out
          obtain ⟨p0, p1, p2, p3, p4, p5⟩ := row6 hrow4
          have HS4 := Lib.hid (HS3.out.grown (grown_of_below hb4))
          have HB4 : Hid (Below W.heap.size W w4) := Lib.hid (HB3.out.trans (hb4.mono HB3.out.size))
          have HO4 : Hid (ownsW w4 R u3 (goodW (l.take k))) := Lib.hid (ownsW.keepD HO3.out (KeepW.of_grown (grown_of_below hb4)))
          have HR4 : Hid (R ≤ w4.heap.size) := Lib.hid (by obtain ⟨M, D, L, hs, _⟩ := HS4.out; exact hs.rw')
          clear hb4 hrow4
          go_wp2_with (at_builtin; refine wpList_append_wr rfl _ _ rfl R _ (goodW (l.take k)) rfl (HO4.out.alloc _) w4.heap.size 1 rfl ⟨T, Re, K, key, val, N⟩ (MapKept.heap_alloc w4 _).1 (by have := HGL.out; omega) (by have := HR4.out; simp; omega) ?_; intro g cap w5 ho5 hg5; have HO5 := Lib.hid ho5; have HG5 := Lib.hid hg5; clear ho5 hg5)
          have HS5 : Hid (StoB w5 B R P (k + 1) (cellK (goodW (l.take (k + 1))))) := Lib.hid (by
            have h1 := (HS4.out.grown (grown_alloc (grown_refl _ none) (.cells #[.int .i64 T, .int .i64 Re, .int .i64 K, .string key, .string val, .int .i64 N] 32))).wr (HO4.out.alloc _) (Nat.le_refl _) HG5.out
            rw [goodW_yes HX.out HGD.out, ← stepG_cellK]
            exact h1)
          have HB5 : Hid (Below W.heap.size W w5) := Lib.hid (below_of_grown (HB4.out.alloc HB4.out.size _) HG5.out (by have := HB4.out.size; simp; omega) (fun g e => by have := (HO4.out.lt g e).1; have := HBB.out; omega))
          go_wp2
          go_roundw
          · exact ⟨k + 1, fb, by omega, by simp, rfl, HFT.out, by rw [goodW_yes HX.out HGD.out]; exact HO5.out, HS5.out, HB5.out, by obtain ⟨M, D, L, hs, _⟩ := HS5.out; exact hs.rw'⟩
          · simp [intOf]; omega
        · have HGD := Lib.hid hgd
          obtain ⟨e0', he0'⟩ : ∃ e, e = wrF x := ⟨_, rfl⟩
          have hne0 : e0' ≠ 0 := by rw [he0']; exact hgd
          have HE0 := Lib.hid hne0
          have HNO := Lib.hid (goodW_no hx hgd)
          have HEV : Hid (errV e0' = .iface 33 (.int .i64 e0')) := Lib.hid (by unfold errV; rw [if_neg hne0])
          have hz : ((e0' : Int) == 0) = false := by simpa using hne0
          have hft : (fb = -1 ∧ FstB l (k + 1) k) ∨ (∃ p : Nat, fb = p ∧ FstB l (k + 1) p) := by
            rcases HFB.out with ⟨h1, h2⟩ | ⟨p, y, h1, h2, h3⟩
            · exact .inl ⟨h1, .inr ⟨k, x, rfl, Nat.lt_succ_self k, hx, hgd, h2⟩⟩
            · exact .inr ⟨p, h1, .inr ⟨p, y, rfl, by omega, h3⟩⟩
          obtain ⟨T, Re, K, key, val, N⟩ := x
          simp only at c0 c1 c2 c3 c4 c5 e0 e1 e2 e3 e4 e5
          have HW0 : Hid (wriE T Re K key val N = e0') := Lib.hid he0'.symm
          clear hx c0 c1 c2 c3 c4 c5 d hbl hgd he0' hne0 HFB
          rcases hft with ⟨rfl, hft⟩ | ⟨p, rfl, hft⟩
          · have HFT := Lib.hid hft
            clear hft
            go_wp2_with fail
            refine (rw_bad HW0.out _ HSZ.out.1 HSZ.out.2).mono ?_
            rintro r wa ⟨rfl, hba⟩
            have hrowa : wa.heap[wr.heap.size]? = some (.cells #[.int .i64 T, .int .i64 Re, .int .i64 K, .string key, .string val, .int .i64 N] 32 (0, 0)) := (hba.block wr.heap.size (by simp)).trans (MapKept.heap_alloc wr _).1
            obtain ⟨p0, p1, p2, p3, p4, p5⟩ := row6 hrowa
            have hga : wr.grownBy wa none := grown_on (grown_alloc (grown_refl _ none) (.cells #[.int .i64 T, .int .i64 Re, .int .i64 K, .string key, .string val, .int .i64 N] 32)) (grown_of_below hba)
            have HRA := Lib.hid hrowa
            have HGA := Lib.hid hga
            have HBA : Hid (Below W.heap.size W wa) := Lib.hid (below_of_grown HB.out hga HB.out.size (fun g e => by cases e))
            have HSA : Hid (StoB wa B R P k (cellK (goodW (l.take k)))) := Lib.hid (HS.out.grown hga)
            have HOA : Hid (ownsW wa R u3 (goodW (l.take k))) := Lib.hid (ownsW.keepD HO.out (KeepW.of_grown hga))
            clear hba hrowa hga
            go_wp2_with fail
            refine (do_bad wa B R P k _ T Re K key val N HSA.out HSZ.out.1 HSZ.out.2 e0' HW0.out HE0.out).mono ?_
            rintro r w3 ⟨rfl, hs3, hb3⟩
            have HS3 := Lib.hid hs3
            have HB3 : Hid (Below W.heap.size W w3) := Lib.hid (HBA.out.trans (hb3.mono HBA.out.size))
            have HO3 : Hid (ownsW w3 R u3 (goodW (l.take k))) := Lib.hid (ownsW.keepD HOA.out (KeepW.of_grown (grown_of_below hb3)))
            clear hs3 hb3 p0 p1 p2 p3 p4 p5
            rw [HEV.out]
            go_wp2_with fail
            refine (bare_ok _ e0' w3 (HG.out.below HB3.out) (.inr (.inl ⟨rfl, rfl⟩))).mono ?_
            rintro r w4 ⟨rfl, hb4⟩
            have HS4 := Lib.hid (HS3.out.grown (grown_of_below hb4))
            have HB4 : Hid (Below W.heap.size W w4) := Lib.hid (HB3.out.trans (hb4.mono HB3.out.size))
            have HO4 : Hid (ownsW w4 R u3 (goodW (l.take k))) := Lib.hid (ownsW.keepD HO3.out (KeepW.of_grown (grown_of_below hb4)))
            have HR4 : Hid (R ≤ w4.heap.size) := Lib.hid (by obtain ⟨M, D, L, hs, _⟩ := HS4.out; exact hs.rw')
            clear hb4
            go_wp2
            go_roundw
            · exact ⟨k + 1, k, by omega, by simp, rfl, HFT.out, by rw [HNO.out]; exact HO4.out, by rw [HNO.out]; exact HS4.out.mono (Nat.le_succ _), HB4.out, HR4.out⟩
            · simp [intOf]; omega
          · have HFT := Lib.hid hft
            clear hft
            have hp0 : ¬ ((p : Int) < 0) := by omega
            go_wp2_with fail
            refine (rw_bad HW0.out _ HSZ.out.1 HSZ.out.2).mono ?_
            rintro r wa ⟨rfl, hba⟩
            have hrowa : wa.heap[wr.heap.size]? = some (.cells #[.int .i64 T, .int .i64 Re, .int .i64 K, .string key, .string val, .int .i64 N] 32 (0, 0)) := (hba.block wr.heap.size (by simp)).trans (MapKept.heap_alloc wr _).1
            obtain ⟨p0, p1, p2, p3, p4, p5⟩ := row6 hrowa
            have hga : wr.grownBy wa none := grown_on (grown_alloc (grown_refl _ none) (.cells #[.int .i64 T, .int .i64 Re, .int .i64 K, .string key, .string val, .int .i64 N] 32)) (grown_of_below hba)
            have HRA := Lib.hid hrowa
            have HGA := Lib.hid hga
            have HBA : Hid (Below W.heap.size W wa) := Lib.hid (below_of_grown HB.out hga HB.out.size (fun g e => by cases e))
            have HSA : Hid (StoB wa B R P k (cellK (goodW (l.take k)))) := Lib.hid (HS.out.grown hga)
            have HOA : Hid (ownsW wa R u3 (goodW (l.take k))) := Lib.hid (ownsW.keepD HO.out (KeepW.of_grown hga))
            clear hba hrowa hga
            go_wp2_with fail
            refine (do_bad wa B R P k _ T Re K key val N HSA.out HSZ.out.1 HSZ.out.2 e0' HW0.out HE0.out).mono ?_
            rintro r w3 ⟨rfl, hs3, hb3⟩
            have HS3 := Lib.hid hs3
            have HB3 : Hid (Below W.heap.size W w3) := Lib.hid (HBA.out.trans (hb3.mono HBA.out.size))
            have HO3 : Hid (ownsW w3 R u3 (goodW (l.take k))) := Lib.hid (ownsW.keepD HOA.out (KeepW.of_grown (grown_of_below hb3)))
            clear hs3 hb3 p0 p1 p2 p3 p4 p5
            rw [HEV.out]
            go_wp2_with fail
            refine (bare_ok _ e0' w3 (HG.out.below HB3.out) (.inr (.inl ⟨rfl, rfl⟩))).mono ?_
            rintro r w4 ⟨rfl, hb4⟩
            have HS4 := Lib.hid (HS3.out.grown (grown_of_below hb4))
            have HB4 : Hid (Below W.heap.size W w4) := Lib.hid (HB3.out.trans (hb4.mono HB3.out.size))
            have HO4 : Hid (ownsW w4 R u3 (goodW (l.take k))) := Lib.hid (ownsW.keepD HO3.out (KeepW.of_grown (grown_of_below hb4)))
            have HR4 : Hid (R ≤ w4.heap.size) := Lib.hid (by obtain ⟨M, D, L, hs, _⟩ := HS4.out; exact hs.rw')
            clear hb4
            go_wp2
            go_roundw
            · exact ⟨k + 1, p, by omega, by simp, rfl, HFT.out, by rw [HNO.out]; exact HO4.out, by rw [HNO.out]; exact HS4.out.mono (Nat.le_succ _), HB4.out, HR4.out⟩
            · simp [intOf]; omega
      · have b1 : decide ((k : Int) < (n : Int)) = false := by simp; omega
        obtain rfl : k = n := by omega
        obtain ⟨wk, rfl⟩ : ∃ wk, wk = wr := ⟨_, rfl⟩
        have hfull : l.take k = l := List.take_of_length_le (by rw [HN.out]; exact Nat.le_refl _)
        rw [hfull] at HO HS
        have HIK : Hid (IsWrs wk (.slice av k cv) l) := Lib.hid (HI.out.below HB.out)
        have HGN : Hid ((goodW l).length ≤ 300) := Lib.hid (by have := goodW_len l; have := HN.out; omega)
        have HCL : Hid (∀ L : List Wr, L.length ≤ 300 → (cellsF L).length ≤ 1000000 ∧ ∀ q ∈ cellsF L, q.2.list.length ≤ 1000000) := Lib.hid (fun L hL => ⟨by have := cellsF_len L; omega, fun q hq => by have := cellsF_lists L q hq; omega⟩)
        rcases HFB.out with ⟨rfl, hall⟩ | ⟨p, x, rfl, hpk, hx, hbad, hgo⟩
        · rw [hfull] at hall
          rw [goodW_all hall] at HO HS
          have HA := Lib.hid hall
          have HL3 : Hid (l.length ≤ 300) := Lib.hid (by rw [← HN.out]; exact hn300)
          clear hall hfull HFB
          go_wp2_with fail
          refine (of_good _ l wk HIK.out HA.out (by have := HL3.out; omega)).mono ?_
          rintro r w6 ⟨ua, rfl, hua, hb6⟩
          have HUA := Lib.hid hua
          have HB6 : Hid (Below W.heap.size W w6) := Lib.hid (HB.out.trans (hb6.mono HB.out.size))
          have HI6 := Lib.hid (HIK.out.below hb6)
          have HS6 := Lib.hid (HS.out.grown (grown_of_below hb6))
          clear hua hb6
          go_wp2_with fail
          refine (rcells_any _ l w6 HI6.out HA.out (by have := HL3.out; omega)).mono ?_
          rintro r w7 ⟨ub, rfl, hub, hb7⟩
          have HUB := Lib.hid hub
          have HUA7 := Lib.hid (HUA.out.below hb7)
          have HB7 : Hid (Below W.heap.size W w7) := Lib.hid (HB6.out.trans (hb7.mono HB6.out.size))
          have HS7 := Lib.hid (HS6.out.grown (grown_of_below hb7))
          clear hub hb7
          go_wp2_with fail
          refine (same_any ua ub (cellsF l) w7 HUA7.out HUB.out (HCL.out l HL3.out).1 (HCL.out l HL3.out).2).mono ?_
          rintro r w8 ⟨rfl, hb8⟩
          have HUA8 := Lib.hid (HUA7.out.below hb8)
          have HB8 : Hid (Below W.heap.size W w8) := Lib.hid (HB7.out.trans (hb8.mono HB7.out.size))
          have HS8 := Lib.hid (HS7.out.grown (grown_of_below hb8))
          clear hb8
          go_wp2_with fail
          obtain ⟨M, D, L, hs, hBP, hBM⟩ := HS8.out
          refine (cells_any w8 R P M k D _ L hs (by omega) (keys_ok HA.out)).mono ?_
          rintro r w9 ⟨uc, z, rfl, hz, huc, hb9⟩
          have HUC : Hid (IsCells w9 uc (cellsF l)) := Lib.hid (by rw [← hz.is]; exact huc)
          have HUA9 := Lib.hid (HUA8.out.below hb9)
          have HB9 : Hid (Below W.heap.size W w9) := Lib.hid (HB8.out.trans (hb9.mono HB8.out.size))
          clear hs hBP hBM hz huc hb9
          go_wp2_with fail
          refine (same_any uc ua (cellsF l) w9 HUC.out HUA9.out (HCL.out l HL3.out).1 (HCL.out l HL3.out).2).mono ?_
          rintro r w10 ⟨rfl, hb10⟩
          have HB10 : Hid (Below W.heap.size W w10) := Lib.hid (HB9.out.trans (hb10.mono HB9.out.size))
          clear hb10
          go_wp2
          go_ret
          exact ⟨rfl, HB10.out⟩
        · have hl300 : l.length ≤ 300 := by rw [← HN.out]; exact hn300
          obtain ⟨e9, he9⟩ : ∃ e, e = wrF x := ⟨_, rfl⟩
          have HBADX := Lib.hid hbad
          have HGO := Lib.hid hgo
          have HX := Lib.hid hx
          have HE9 := Lib.hid he9
          have HSZ : Hid (x.key.size ≤ 140737488351232 ∧ x.value.size ≤ 140737488351232) := Lib.hid ⟨(HOK.out x (List.mem_of_getElem? hx)).2.2.1, (HOK.out x (List.mem_of_getElem? hx)).2.2.2⟩
          have HL3 := Lib.hid hl300
          clear hfull HFB hbad hgo hx he9 hl300
          go_wp2_with fail
          refine (of_bad _ l wk p e9 x HIK.out HOK.out HX.out HE9.out.symm (by rw [HE9.out]; exact HBADX.out) HGO.out (by have := HL3.out; omega) (HG.out.below HB.out)).mono ?_
          rintro r w6 ⟨ua, rfl, hune, hpl, hb6⟩
          have HPL := Lib.hid hpl
          have HB6 : Hid (Below W.heap.size W w6) := Lib.hid (HB.out.trans (hb6.mono HB.out.size))
          have HS6 := Lib.hid (HS.out.grown (grown_of_below hb6))
          have HO6 := Lib.hid (HO.out.below hb6)
          obtain ⟨b, off, rfl, hbl, c0, c1, c2, c3, c4, c5⟩ := HF.out p x HX.out
          have d : ∀ j u, W.cell? ⟨b, j, none⟩ = some u → w6.cell? ⟨b, j, none⟩ = some u := fun j u hu => (HB6.out.cell (p := ⟨b, j, none⟩) hbl).trans hu
          have e0 := d _ _ c0
          have e1 := d _ _ c1
          have e2 := d _ _ c2
          have e3 := d _ _ c3
          have e4 := d _ _ c4
          have e5 := d _ _ c5
          obtain ⟨T, Re, K, key, val, N⟩ := x
          simp only at c0 c1 c2 c3 c4 c5 e0 e1 e2 e3 e4 e5
          have HW0 : Hid (wriE T Re K key val N = e9) := Lib.hid HE9.out.symm
          clear hune hpl hb6 c0 c1 c2 c3 c4 c5 d hbl
          go_wp2_with fail
          refine (rw_bad HW0.out _ HSZ.out.1 HSZ.out.2).mono ?_
          rintro r w7 ⟨rfl, hb7⟩
          have HB7 : Hid (Below W.heap.size W w7) := Lib.hid (HB6.out.trans (hb7.mono HB6.out.size))
          have HS7 := Lib.hid (HS6.out.grown (grown_of_below hb7))
          have HO7 := Lib.hid (HO6.out.below hb7)
          have HPL7 := Lib.hid (HPL.out.below hb7)
          clear hb7 e0 e1 e2 e3 e4 e5
          go_wp2_with fail
          refine (placed_ok ua e9 p w7 (HG.out.below HB7.out) HPL7.out).mono ?_
          rintro r w8 ⟨rfl, hb8⟩
          have HB8 : Hid (Below W.heap.size W w8) := Lib.hid (HB7.out.trans (hb8.mono HB7.out.size))
          have HS8 := Lib.hid (HS7.out.grown (grown_of_below hb8))
          have HO8 := Lib.hid (HO7.out.below hb8)
          clear hb8
          go_wp2_with fail
          obtain ⟨M, D, L, hs, hBP, hBM⟩ := HS8.out
          refine (cells_any w8 R P M k D _ L hs (by omega) (keys_ok goodW_ok)).mono ?_
          rintro r w9 ⟨uc, z, rfl, hz, huc, hb9⟩
          have HUC : Hid (IsCells w9 uc (cellsF (goodW l))) := Lib.hid (by rw [← hz.is]; exact huc)
          have HB9 : Hid (Below W.heap.size W w9) := Lib.hid (HB8.out.trans (hb9.mono HB8.out.size))
          have HO9 := Lib.hid (HO8.out.below hb9)
          clear hs hBP hBM hz huc hb9
          go_wp2_with fail
          refine (rcells_any _ (goodW l) w9 HO9.out.is goodW_ok (by have := HGN.out; omega)).mono ?_
          rintro r w10 ⟨ud, rfl, hud, hb10⟩
          have HUD := Lib.hid hud
          have HUC10 := Lib.hid (HUC.out.below hb10)
          have HB10 : Hid (Below W.heap.size W w10) := Lib.hid (HB9.out.trans (hb10.mono HB9.out.size))
          clear hud hb10
          go_wp2_with fail
          refine (same_any uc ud (cellsF (goodW l)) w10 HUC10.out HUD.out (HCL.out _ HGN.out).1 (HCL.out _ HGN.out).2).mono ?_
          rintro r w11 ⟨rfl, hb11⟩
          have HB11 : Hid (Below W.heap.size W w11) := Lib.hid (HB10.out.trans (hb11.mono HB10.out.size))
          clear hb11
          go_wp2
          go_ret
          exact ⟨rfl, HB11.out⟩
end Go.Proofs.YtpmnflnaeknakaaGreatDoor
