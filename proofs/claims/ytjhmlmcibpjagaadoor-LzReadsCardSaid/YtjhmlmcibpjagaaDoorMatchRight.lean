/-
  The contract of match.Right.
-/
import Derived.Test.YtjhmlmcibpjagaaDoorMatchWrong
namespace Go.Proofs.YtjhmlmcibpjagaaDoor
open Go.RowKit

/-- No error, or an *api.At in memory: its number, its place. -/
def atIs (w : World) (v : Value) (r : Nat × Int) : Prop :=
  (r = (0, -1) ∧ v = .nilIface) ∨ (r.1 ≠ 0 ∧ ∃ b, v = .iface 78 (.pointer (some ⟨b, 0, none⟩)) ∧ b < w.heap.size ∧ w.cell? ⟨b, 0, none⟩ = some (.int .i64 (r.1 : Nat)) ∧ w.cell? ⟨b, 1, none⟩ = some (.int .i64 r.2))
theorem atIs.below {w w' : World} {v : Value} {r : Nat × Int} (h : atIs w v r) (hb : Below w.heap.size w w') : atIs w' v r := by
  rcases h with h | ⟨h0, b, h1, h2, h3, h4⟩
  · exact .inl h
  · exact .inr ⟨h0, b, h1, Nat.lt_of_lt_of_le h2 hb.size, (hb.cell (p := ⟨b, 0, none⟩) h2).trans h3, (hb.cell (p := ⟨b, 1, none⟩) h2).trans h4⟩
theorem atIs.new (w : World) (e : Nat) (pl : Int) (he : e ≠ 0) : atIs (w.alloc (.cells #[.int .i64 e, .int .i64 pl] 80)) (.iface 78 (.pointer (some ⟨w.heap.size, 0, none⟩))) (e, pl) :=
  .inr ⟨he, _, rfl, by simp, by simp, by simp⟩
def RightIs (w : World) (r : Nat × Int) (e : Ending) (w' : World) : Prop :=
  ∃ v, e = .returned v ∧ atIs w' v r ∧ Below w.heap.size w w'

set_option maxRecDepth 100000 in
set_option maxHeartbeats 2000000 in
theorem right_any (v : Value) (l : List Tok) (w : World) (hv : IsToks w v l) (hl : l.length ≤ 9223372036854775807) (hz : ∀ t ∈ l, t.own.size ≤ 140737488351232) :
    Calls Tryd.prog 23 #[v] w (RightIs w (rightF l 0 0)) := by
  obtain ⟨a1, c1, rfl, f1⟩ := hv.form
  have F1 := Lib.hid f1
  have HZ := Lib.hid hz
  obtain ⟨n, hn⟩ : ∃ n, n = l.length := ⟨_, rfl⟩
  rw [← hn] at hl ⊢
  have HN := Lib.hid hn
  clear hv f1 hn hz
  go_enter Tryd.func23, Tryd.ntmps23
  go_wp2
  go_loopw [3, 9] (fun s i wr => ∃ k a : Nat, k ≤ n ∧ i = .int .i64 k ∧ s = .int .i64 a ∧ a ≤ 20000 ∧ rightF l 0 0 = rightF (l.drop k) k a ∧ Below w.heap.size w wr) (fun _ i _ => n - (intOf i).toNat)
  case atStart => exact ⟨0, 0, by omega, rfl, rfl, by omega, rfl, Below.refl _ _⟩
  case round =>
    obtain ⟨k, a, hk, rfl, rfl, ha, heq, hbel⟩ := hrel
    have HEQ := Lib.hid heq
    have HB := Lib.hid hbel
    clear heq hbel
    by_cases hlt : k < n
    · have hkl : k < l.length := by have := HN.out; omega
      obtain ⟨t, ht⟩ : ∃ t, l[k]? = some t := ⟨l[k], List.getElem?_eq_getElem hkl⟩
      obtain ⟨b1, o1, rfl, hb1, p0, p1, p2⟩ := F1.out k t ht
      have hd : l.drop k = t :: l.drop (k + 1) := by
        rw [List.drop_eq_getElem_cons hkl]; congr 1
        rw [List.getElem?_eq_getElem hkl] at ht; exact Option.some.inj ht
      have hmem : t ∈ l := List.mem_of_getElem? ht
      have HS := Lib.hid (HZ.out t hmem)
      obtain ⟨own, back, size⟩ := t
      simp only at p0 p1 p2
      have q0 := (HB.out.cell (p := ⟨b1, o1 + k * 3, none⟩) hb1).trans p0
      have q1 := (HB.out.cell (p := ⟨b1, o1 + k * 3 + 1, none⟩) hb1).trans p1
      have q2 := (HB.out.cell (p := ⟨b1, o1 + k * 3 + 2, none⟩) hb1).trans p2
      have hzr := HB.out.size
      obtain ⟨e, he⟩ : ∃ e, wrongN ⟨own, back, size⟩ a = e := ⟨_, rfl⟩
      have HE := Lib.hid he
      have HD := Lib.hid hd
      clear p0 p1 p2 ht hmem hd hkl he
      have hgap : wr.heap.size < (wr.alloc (.cells #[.string own, .int .i64 back, .int .i64 size] 42)).heap.size := by simp
      by_cases h0 : e = 0
      · subst h0
        have hok : 0 ≤ size ∧ size ≤ 1000 := by rcases wrongN_ok HE.out with ⟨_, h, _⟩ | ⟨_, h1, h2, _⟩ <;> simp only at * <;> omega
        have hle := wrongN_le HE.out
        have HN2 : Hid (rightF l 0 0 = rightF (l.drop (k + 1)) (k + 1) (a + lenT ⟨own, back, size⟩)) := by
          have h : rightF l 0 0 = rightF (l.drop (k + 1)) (k + 1) (a + lenT ⟨own, back, size⟩) := by rw [HEQ.out, HD.out, rightF_ok HE.out]
          exact h
        obtain ⟨m, hm⟩ : ∃ m, lenT ⟨own, back, size⟩ = m := ⟨_, rfl⟩
        rw [hm] at hle HN2
        have HM := Lib.hid hm
        clear hm HEQ
        go_wp2_with fail
        refine (wrong_any own back size a _ HS.out ha).mono ?_
        rintro r w1 ⟨rfl, hb1⟩
        rw [HE.out]
        have c0 : w1.cell? ⟨wr.heap.size, 0, none⟩ = some (.string own) := (hb1.cell (by simp)).trans (by simp)
        have c1 : w1.cell? ⟨wr.heap.size, 1, none⟩ = some (.int .i64 back) := (hb1.cell (by simp)).trans (by simp)
        have c2 : w1.cell? ⟨wr.heap.size, 2, none⟩ = some (.int .i64 size) := (hb1.cell (by simp)).trans (by simp)
        have HB1 : Hid (Below w.heap.size w w1) := (HB.out.alloc hzr _).trans (hb1.mono (by omega))
        clear hb1 q0 q1 q2
        go_wp2_with fail
        refine (length_any own back size _ HS.out hok.1 hok.2).mono ?_
        rintro r w2 ⟨rfl, hb2⟩
        rw [HM.out]
        have HB2 : Hid (Below w.heap.size w w2) := HB1.out.trans (hb2.mono HB1.out.size)
        clear hb2 c0 c1 c2
        go_wp2
        go_roundw
        case rel => exact ⟨k + 1, a + m, by omega, by go_num, by go_num, by omega, HN2.out, HB2.out⟩
        case measure => simp [intOf]; omega
      · have HN2 : Hid (rightF l 0 0 = (e, (k : Int))) := by
          have h : rightF l 0 0 = (e, (k : Int)) := by rw [HEQ.out, HD.out, rightF_bad (by rw [HE.out]; exact h0), HE.out]
          exact h
        have hne : ((e : Int) != 0) = true := by simp; omega
        have H0 := Lib.hid h0
        clear HEQ h0
        go_wp2_with fail
        refine (wrong_any own back size a _ HS.out ha).mono ?_
        rintro r w1 ⟨rfl, hb1⟩
        rw [HE.out]
        have HB1 : Hid (Below w.heap.size w w1) := (HB.out.alloc hzr _).trans (hb1.mono (by omega))
        have hz1 := HB1.out.size
        clear hb1 q0 q1 q2
        go_wp2
        go_ret
        rw [HN2.out]
        exact ⟨_, rfl, atIs.new w1 e k H0.out, HB1.out.alloc hz1 _⟩
    · have HN2 : Hid (rightF l 0 0 = (0, -1)) := by
        have h : rightF l 0 0 = (0, -1) := by rw [HEQ.out, List.drop_eq_nil_of_le (by have := HN.out; omega)]; rfl
        exact h
      go_wp2
      go_ret
      exact ⟨_, rfl, .inl ⟨HN2.out, rfl⟩, HB.out⟩
end Go.Proofs.YtjhmlmcibpjagaaDoor
