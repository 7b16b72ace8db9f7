/-
  The contracts of vector.Of and of the document's VectorOf, as ids ask them.
-/
import Derived.Test.YtiipnifnejnhlaaDoorEnts
import Derived.BigQuiet
import Derived.Deep.QuietTactic
import Derived.WalkSmall
import Derived.Outline
namespace Go.Proofs.YtiipnifnejnhlaaDoor
open Go.RowKit

theorem ofF_dropI {l : List Ent} {k : Nat} {t : Ent} (h : l[k]? = some t) (x : Int) : ofF (l.drop k) x = if t.rep = x then t.time else ofF (l.drop (k + 1)) x := by
  obtain ⟨hk, ht⟩ := List.getElem?_eq_some_iff.1 h
  rw [List.drop_eq_getElem_cons hk, ht]; rfl

set_option maxRecDepth 100000 in
set_option maxHeartbeats 2000000 in
theorem vofI_any (v : Value) (l : List Ent) (x : Int) (w : World) (hv : IsEnts w v l) (hl : l.length ≤ 9223372036854775807) :
    Calls Tryd.prog 44 #[v, .int .i64 x] w fun r w' => r = .returned (.int .i64 (ofF l x)) ∧ Below w.heap.size w w' := by
  obtain ⟨a1, c1, rfl, f1⟩ := hv.form
  have F1 := Lib.hid f1
  obtain ⟨n, hn⟩ : ∃ n, n = l.length := ⟨_, rfl⟩
  rw [← hn] at hl ⊢
  have HN := Lib.hid hn
  clear hv f1 hn
  go_enter Tryd.func44, Tryd.ntmps44
  go_wp2
  go_loopw [9] (fun i wr => ∃ k : Nat, k ≤ n ∧ i = .int .i64 k ∧ ofF l x = ofF (l.drop k) x ∧ Below w.heap.size w wr) (fun i _ => n - (intOf i).toNat)
  case atStart => exact ⟨0, by omega, rfl, rfl, Below.refl _ _⟩
  case round =>
    obtain ⟨k, hk, rfl, heq, hbel⟩ := hrel
    have HEQ := Lib.hid heq
    have HB := Lib.hid hbel
    have hzr := hbel.size
    clear heq hbel
    by_cases hlt : k < n
    · obtain ⟨t, ht⟩ : ∃ t, l[k]? = some t := ⟨l[k]'(by have := HN.out; omega), List.getElem?_eq_getElem _⟩
      obtain ⟨b1, o1, rfl, hb1, p0, p1⟩ := F1.out k t ht
      have hd := ofF_dropI ht x
      obtain ⟨rep, time⟩ := t
      simp only at p0 p1 hd
      have q0 := (HB.out.cell (p := ⟨b1, o1 + k * 2, none⟩) hb1).trans p0
      have q1 := (HB.out.cell (p := ⟨b1, o1 + k * 2 + 1, none⟩) hb1).trans p1
      by_cases hx : rep = x
      · have HW : Hid (ofF l x = time) := Lib.hid (show ofF l x = time by rw [HEQ.out, hd, if_pos hx])
        clear p0 p1 ht hd
        subst hx
        go_wp2
        go_ret
        exact ⟨by rw [HW.out]; rfl, HB.out.alloc hzr _⟩
      · have HW : Hid (ofF l x = ofF (l.drop (k + 1)) x) := Lib.hid (show ofF l x = ofF (l.drop (k + 1)) x by rw [HEQ.out, hd, if_neg hx])
        have bx : (rep == x) = false := by simpa using hx
        clear p0 p1 ht hd
        go_wp2
        go_roundw
        case rel => exact ⟨k + 1, by omega, by go_num, HW.out, HB.out.alloc hzr _⟩
        case measure => simp [intOf]; omega
    · have HW : Hid (ofF l x = 0) := Lib.hid (show ofF l x = 0 by rw [HEQ.out, List.drop_eq_nil_of_le (by have := HN.out; omega)]; rfl)
      go_wp2
      go_ret
      exact ⟨by rw [HW.out]; rfl, HB.out⟩

set_option maxRecDepth 100000 in
set_option maxHeartbeats 2000000 in
theorem rofI_any (v : Value) (l : List Ent) (x : Int) (w : World) (hv : IsEnts w v l) (hl : l.length ≤ 9223372036854775807) :
    Calls Tryd.prog 50 #[v, .int .i64 x] w fun r w' => r = .returned (.int .i64 (ofF l x)) ∧ w = w' := by
  obtain ⟨a1, c1, rfl, f1⟩ := hv.form
  have F1 := Lib.hid f1
  obtain ⟨n, hn⟩ : ∃ n, n = l.length := ⟨_, rfl⟩
  rw [← hn] at hl ⊢
  have HN := Lib.hid hn
  clear hv f1 hn
  go_enter Tryd.func50, Tryd.ntmps50
  go_wp2
  go_loop [8] (fun i => ∃ k : Nat, k ≤ n ∧ i = .int .i64 k ∧ ofF l x = ofF (l.drop k) x) (fun i => n - (intOf i).toNat)
  case atStart => exact ⟨0, by omega, rfl, rfl⟩
  case round =>
    obtain ⟨k, hk, rfl, heq⟩ := hrel
    have HEQ := Lib.hid heq
    clear heq
    by_cases hlt : k < n
    · obtain ⟨t, ht⟩ : ∃ t, l[k]? = some t := ⟨l[k]'(by have := HN.out; omega), List.getElem?_eq_getElem _⟩
      obtain ⟨b1, o1, rfl, hb1, p0, p1⟩ := F1.out k t ht
      have hd := ofF_dropI ht x
      obtain ⟨rep, time⟩ := t
      simp only at p0 p1 hd
      by_cases hx : rep = x
      · have HW : Hid (ofF l x = time) := Lib.hid (show ofF l x = time by rw [HEQ.out, hd, if_pos hx])
        clear ht hd
        subst hx
        go_wp2
        go_ret
        exact ⟨by rw [HW.out]; rfl, rfl⟩
      · have HW : Hid (ofF l x = ofF (l.drop (k + 1)) x) := Lib.hid (show ofF l x = ofF (l.drop (k + 1)) x by rw [HEQ.out, hd, if_neg hx])
        have bx : (rep == x) = false := by simpa using hx
        clear ht hd
        go_wp2
        go_round
        case rel => exact ⟨k + 1, by omega, by go_num, HW.out⟩
        case measure => simp [intOf]; omega
    · have HW : Hid (ofF l x = 0) := Lib.hid (show ofF l x = 0 by rw [HEQ.out, List.drop_eq_nil_of_le (by have := HN.out; omega)]; rfl)
      go_wp2
      go_ret
      exact ⟨by rw [HW.out]; rfl, rfl⟩

theorem vofI_as (v : Value) (l : List Ent) (x y : Int) (w : World) (hv : IsEnts w v l) (hl : l.length ≤ 9223372036854775807) (h : ofF l x = y) :
    Calls Tryd.prog 44 #[v, .int .i64 x] w fun r w' => r = .returned (.int .i64 y) ∧ Below w.heap.size w w' := by
  subst h; exact vofI_any v l x w hv hl
theorem rofI_q (v : Value) (l : List Ent) (x y : Int) (w : World) (n : Nat) (hv : IsEnts w v l) (hl : l.length ≤ 9223372036854775807) (h : ofF l x = y) :
    Calls Tryd.prog 50 #[v, .int .i64 x] (w.drewN n) fun r w' => r = .returned (.int .i64 y) ∧ ∃ m, w' = w.drewN m :=
  (rofI_any v l x (w.drewN n) (hv.drewN n) hl).mono fun _ _ ⟨h1, h2⟩ => ⟨by rw [h1, h], n, h2.symm⟩
end Go.Proofs.YtiipnifnejnhlaaDoor
