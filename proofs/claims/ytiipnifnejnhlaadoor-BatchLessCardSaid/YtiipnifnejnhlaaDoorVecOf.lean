/-
  The contracts of vector.Of and of the document's; of vector.bare.
-/
import Derived.Test.YtiipnifnejnhlaaDoorVecWrong
namespace Go.Proofs.YtiipnifnejnhlaaDoor
open Go.RowKit

theorem ofF_drop {l : List Ent} {k : Nat} {t : Ent} (h : l[k]? = some t) (x : Int) : ofF (l.drop k) x = if t.rep = x then t.time else ofF (l.drop (k + 1)) x := by
  obtain ⟨hk, ht⟩ := List.getElem?_eq_some_iff.1 h
  rw [List.drop_eq_getElem_cons hk, ht]; rfl

set_option maxRecDepth 100000 in
set_option maxHeartbeats 2000000 in
theorem vof_any (v : Value) (l : List Ent) (x : Int) (w : World) (hv : IsEnts w v l) (hl : l.length ≤ 9223372036854775807) :
    Calls Tryd.prog 44 #[v, .int .i64 x] w fun r w' => r = .returned (.int .i64 (ofF l x)) ∧ Below w.heap.size w w' := by
  obtain ⟨a1, c1, rfl, f1⟩ := hv.form
  have F1 := Lib.hid f1
  obtain ⟨n, hn⟩ : ∃ n, n = l.length := ⟨_, rfl⟩
  rw [← hn] at hl ⊢
  have HN := Lib.hid hn
  clear hv f1 hn
  go_enter Tryd.func44, Tryd.ntmps44
  go_wp2
  go_loopw [9] (fun i wr => ∃ k : Nat, k ≤ n ∧ i = .int .i64 k ∧ ofF l x = ofF (l.drop k) x ∧ Below w.heap.size w wr) (fun i _ => n - (intOf i).toNat)
  case atStart => exact ⟨0, by omega, rfl, rfl, Below.refl _ _⟩
  case round =>
    obtain ⟨k, hk, rfl, heq, hbel⟩ := hrel
    have HEQ := Lib.hid heq
    have HB := Lib.hid hbel
    have hzr := hbel.size
    clear heq hbel
    by_cases hlt : k < n
    · obtain ⟨t, ht⟩ : ∃ t, l[k]? = some t := ⟨l[k]'(by have := HN.out; omega), List.getElem?_eq_getElem _⟩
      obtain ⟨b1, o1, rfl, hb1, p0, p1⟩ := F1.out k t ht
      have hd := ofF_drop ht x
      obtain ⟨rep, time⟩ := t
      simp only at p0 p1 hd
      have q0 := (HB.out.cell (p := ⟨b1, o1 + k * 2, none⟩) hb1).trans p0
      have q1 := (HB.out.cell (p := ⟨b1, o1 + k * 2 + 1, none⟩) hb1).trans p1
      by_cases hx : rep = x
      · have HW : Hid (ofF l x = time) := Lib.hid (show ofF l x = time by rw [HEQ.out, hd, if_pos hx])
        clear p0 p1 ht hd
        subst hx
        go_wp2
        go_ret
        exact ⟨by rw [HW.out]; rfl, HB.out.alloc hzr _⟩
      · have HW : Hid (ofF l x = ofF (l.drop (k + 1)) x) := Lib.hid (show ofF l x = ofF (l.drop (k + 1)) x by rw [HEQ.out, hd, if_neg hx])
        have bx : (rep == x) = false := by simpa using hx
        clear p0 p1 ht hd
        go_wp2
        go_roundw
        case rel => exact ⟨k + 1, by omega, by go_num, HW.out, HB.out.alloc hzr _⟩
        case measure => simp [intOf]; omega
    · have HW : Hid (ofF l x = 0) := Lib.hid (show ofF l x = 0 by rw [HEQ.out, List.drop_eq_nil_of_le (by have := HN.out; omega)]; rfl)
      go_wp2
      go_ret
      exact ⟨by rw [HW.out]; rfl, HB.out⟩

set_option maxRecDepth 100000 in
set_option maxHeartbeats 2000000 in
theorem rof_any (v : Value) (l : List Ent) (x : Int) (w : World) (hv : IsEnts w v l) (hl : l.length ≤ 9223372036854775807) :
    Calls Tryd.prog 50 #[v, .int .i64 x] w fun r w' => r = .returned (.int .i64 (ofF l x)) ∧ w = w' := by
  obtain ⟨a1, c1, rfl, f1⟩ := hv.form
  have F1 := Lib.hid f1
  obtain ⟨n, hn⟩ : ∃ n, n = l.length := ⟨_, rfl⟩
  rw [← hn] at hl ⊢
  have HN := Lib.hid hn
  clear hv f1 hn
  go_enter Tryd.func50, Tryd.ntmps50
  go_wp2
  go_loop [8] (fun i => ∃ k : Nat, k ≤ n ∧ i = .int .i64 k ∧ ofF l x = ofF (l.drop k) x) (fun i => n - (intOf i).toNat)
  case atStart => exact ⟨0, by omega, rfl, rfl⟩
  case round =>
    obtain ⟨k, hk, rfl, heq⟩ := hrel
    have HEQ := Lib.hid heq
    clear heq
    by_cases hlt : k < n
    · obtain ⟨t, ht⟩ : ∃ t, l[k]? = some t := ⟨l[k]'(by have := HN.out; omega), List.getElem?_eq_getElem _⟩
      obtain ⟨b1, o1, rfl, hb1, p0, p1⟩ := F1.out k t ht
      have hd := ofF_drop ht x
      obtain ⟨rep, time⟩ := t
      simp only at p0 p1 hd
      by_cases hx : rep = x
      · have HW : Hid (ofF l x = time) := Lib.hid (show ofF l x = time by rw [HEQ.out, hd, if_pos hx])
        clear ht hd
        subst hx
        go_wp2
        go_ret
        exact ⟨by rw [HW.out]; rfl, rfl⟩
      · have HW : Hid (ofF l x = ofF (l.drop (k + 1)) x) := Lib.hid (show ofF l x = ofF (l.drop (k + 1)) x by rw [HEQ.out, hd, if_neg hx])
        have bx : (rep == x) = false := by simpa using hx
        clear ht hd
        go_wp2
        go_round
        case rel => exact ⟨k + 1, by omega, by go_num, HW.out⟩
        case measure => simp [intOf]; omega
    · have HW : Hid (ofF l x = 0) := Lib.hid (show ofF l x = 0 by rw [HEQ.out, List.drop_eq_nil_of_le (by have := HN.out; omega)]; rfl)
      go_wp2
      go_ret
      exact ⟨by rw [HW.out]; rfl, rfl⟩

/-- An Errno alone, or none. -/
def noV (e : Nat) : Value := if e = 0 then .nilIface else .iface 31 (.int .i64 (e : Nat))
theorem noV_0 : noV 0 = .nilIface := rfl
theorem noV_e {e : Nat} (h : e ≠ 0) : noV e = .iface 31 (.int .i64 (e : Nat)) := by unfold noV; rw [if_neg h]

set_option maxRecDepth 100000 in
set_option maxHeartbeats 1000000 in
theorem vbare_any (v : Value) (l : List Ent) (w : World) (hv : IsEnts w v l) (hl : l.length ≤ 9223372036854775807) (hg : errT w) :
    Calls Tryd.prog 59 #[v] w fun r w' => r = .returned (noV (vrightF l).1) ∧ Below w.heap.size w w' := by
  have HV := Lib.hid hv
  have HG := Lib.hid hg
  obtain ⟨a1, c1, rfl, _⟩ := hv.form
  obtain ⟨n, hn⟩ : ∃ n, n = l.length := ⟨_, rfl⟩
  have HL := Lib.hid hl
  rw [← hn] at HV ⊢
  clear hv hg hn hl
  by_cases h0 : (vrightF l).1 = 0
  · have H0 := Lib.hid h0
    clear h0
    rw [H0.out]
    go_enter Tryd.func59, Tryd.ntmps59
    go_wp2_with fail
    refine (vright_any _ l _ HV.out HL.out).mono ?_
    rintro r w1 ⟨err, rfl, hat, hb1⟩
    obtain rfl := hat.nil H0.out
    have HB1 := Lib.hid hb1
    clear hat hb1
    go_wp2
    go_ret
    exact ⟨rfl, HB1.out⟩
  · have H0 := Lib.hid h0
    have HQ := Lib.hid (noV_e h0)
    clear h0
    go_enter Tryd.func59, Tryd.ntmps59
    go_wp2_with fail
    refine (vright_any _ l _ HV.out HL.out).mono ?_
    rintro r w1 ⟨err, rfl, hat, hb1⟩
    have HE := Lib.hid (hat.isErr H0.out)
    obtain ⟨t, u, rfl⟩ := hat.iface H0.out
    have HB1 := Lib.hid hb1
    have HG1 := Lib.hid (HG.out.below hb1)
    clear hat hb1
    go_wp2_with fail
    refine (tell_err _ _ _ HG1.out HE.out).mono ?_
    rintro r w2 ⟨rfl, hb2⟩
    have HB2 : Hid (Below w.heap.size w w2) := HB1.out.trans (hb2.mono HB1.out.size)
    clear hb2
    go_wp2
    go_ret
    exact ⟨by rw [HQ.out]; rfl, HB2.out⟩
end Go.Proofs.YtiipnifnejnhlaaDoor
