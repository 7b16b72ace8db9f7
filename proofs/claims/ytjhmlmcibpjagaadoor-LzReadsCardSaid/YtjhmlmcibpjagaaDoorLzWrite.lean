/-
  The contract of lz.Write.
-/
import Derived.Test.YtjhmlmcibpjagaaDoorLzPut
import Derived.Test.YtjhmlmcibpjagaaDoorLzC
import Derived.Test.YtjhmlmcibpjagaaDoorBld
import Derived.Test.YtjhmlmcibpjagaaDoorMatchRight
namespace Go.Proofs.YtjhmlmcibpjagaaDoor
open Go.RowKit

def WriteIs (w : World) (l : List Tok) (e : Ending) (w' : World) : Prop :=
  ∃ err, e = .returned (.tuple #[.string ⟨(writeF l).toArray⟩, err]) ∧ atIs w' err (rightF l 0 0) ∧ Below w.heap.size w w'

set_option maxRecDepth 100000 in
set_option maxHeartbeats 2000000 in
theorem lzwrite_any (v : Value) (l : List Tok) (w : World) (hv : IsToks w v l) (hl : l.length ≤ 9223372036854775807) (hz : ∀ t ∈ l, t.own.size ≤ 140737488351232) :
    Calls Tryd.prog 13 #[v] w (WriteIs w l) := by
  have HV := Lib.hid hv
  have HLL := Lib.hid hl
  have HZ := Lib.hid hz
  by_cases hr : (rightF l 0 0).1 = 0
  · have HR := Lib.hid (rightF_any hr)
    have HW : Hid (writeF l = writeL l) := by
      have h : writeF l = writeL l := by unfold writeF; rw [if_pos hr]
      exact h
    have HF := Lib.hid (right_fine hr)
    obtain ⟨hfew, hcost, hsum⟩ := right_few hr
    have HC := Lib.hid hcost
    have HSZ : Hid (∀ t ∈ l, t.own.size ≤ 20000) := by
      have h : ∀ t ∈ l, t.own.size ≤ 20000 := fun t ht => by
        obtain ⟨i, hi, e⟩ := List.mem_iff_getElem.1 ht
        have h1 := rightF_take hr (i + 1)
        have h2 := right_few h1
        have h3 : sumT (l.take (i + 1)) = sumT (l.take i) + lenT t := by
          rw [List.take_succ_eq_append_getElem hi, e]
          have : ∀ a b : List Tok, sumT (a ++ b) = sumT a + sumT b := by
            intro a b
            induction a with
            | nil => rw [List.nil_append]; exact (Nat.zero_add _).symm
            | cons u r ih => rw [List.cons_append, sumT, sumT, ih]; omega
          rw [this]; rfl
        have : t.own.size ≤ lenT t := by unfold lenT; omega
        omega
      exact h
    obtain ⟨a1, c1, rfl, f1⟩ := hv.form
    have F1 := Lib.hid f1
    obtain ⟨n, hn⟩ : ∃ n, n = l.length := ⟨_, rfl⟩
    rw [← hn] at hl hfew ⊢ HV
    have HN := Lib.hid hn
    have HR0 := Lib.hid hr
    clear hv f1 hn hz hr hcost hsum
    go_enter Tryd.func13, Tryd.ntmps13
    go_wp2_with fail
    refine (right_any _ l _ HV.out HLL.out HZ.out).mono ?_
    rintro r w0 ⟨err, rfl, hat, hb0⟩
    obtain rfl : err = .nilIface := by
      rcases hat with ⟨_, h⟩ | ⟨h, _⟩
      · exact h
      · exact absurd HR0.out h
    have HB0 := Lib.hid hb0
    have hsz0 := hb0.size
    clear hat hb0
    go_wp2
    obtain ⟨B, hB⟩ : ∃ B, B = w0.heap.size := ⟨_, rfl⟩
    have HBN : Hid (isBld (w0.alloc (.cells #[.pointer none, .slice none 0 0] 57)) w.heap.size B []) := by
      have h := bld_new w0 w.heap.size hsz0
      rw [← hB] at h
      exact h
    rw [← hB]
    have HBB := Lib.hid hB
    clear hB
    go_loopw [15] (fun i wr => ∃ k : Nat, k ≤ n ∧ i = .int .i64 k ∧ isBld wr w.heap.size B (writeL (l.take k)) ∧ Below w.heap.size w wr) (fun i _ => n - (intOf i).toNat)
    case atStart => exact ⟨0, by omega, rfl, HBN.out, HB0.out.alloc hsz0 _⟩
    case round =>
      obtain ⟨k, hk, rfl, hbl, hbel⟩ := hrel
      have HBL := Lib.hid hbl
      have HB := Lib.hid hbel
      clear hbl hbel
      by_cases hlt : k < n
      · obtain ⟨t, ht⟩ : ∃ t, l[k]? = some t := ⟨l[k]'(by have := HN.out; omega), List.getElem?_eq_getElem _⟩
        obtain ⟨b1, o1, rfl, hb1, p0, p1, p2⟩ := F1.out k t ht
        have HSN := Lib.hid (writeL_snoc l k t ht)
        have HTF : Hid (fine t) := (HF.out t (List.mem_of_getElem? ht)).1
        have HTS : Hid (t.own.size ≤ 20000) := HSZ.out t (List.mem_of_getElem? ht)
        have HTC : Hid (tokV t = .agg #[.string t.own, .int .i64 t.back, .int .i64 t.size]) := rfl
        have HCT : Hid ((writeL (l.take k)).length + (putT t).length ≤ 220000) := by
          have h : (writeL (l.take k)).length + (putT t).length ≤ 220000 := by
            have h1 := cost_take (l := l) (k + 1)
            unfold cost at h1
            rw [HSN.out, List.length_append] at h1
            have := HC.out; unfold cost at this; omega
          exact h
        obtain ⟨own, back, size⟩ := t
        simp only at p0 p1 p2
        have q0 := (HB.out.cell (p := ⟨b1, o1 + k * 3, none⟩) hb1).trans p0
        have q1 := (HB.out.cell (p := ⟨b1, o1 + k * 3 + 1, none⟩) hb1).trans p1
        have q2 := (HB.out.cell (p := ⟨b1, o1 + k * 3 + 2, none⟩) hb1).trans p2
        have hzr := HB.out.size
        clear p0 p1 p2 ht
        go_wp2_with fail
        refine (lzput_any ⟨own, back, size⟩ _ HTF.out HTS.out).mono ?_
        rintro r w1 ⟨rfl, hb1'⟩
        have HBL1 := Lib.hid ((HBL.out.alloc (.cells #[.string own, .int .i64 back, .int .i64 size] 42)).below hb1')
        have HB1 : Hid (Below w.heap.size w w1) := (HB.out.alloc hzr _).trans (hb1'.mono (by simp; omega))
        have hzr1 := HB1.out.size
        clear hb1' q0 q1 q2
        go_wp2_with fail
        refine (bld_write w.heap.size B _ _ _ HBL1.out (by rw [bs_size]; have := HCT.out; omega) hzr1).mono ?_
        rintro r w2 ⟨rfl, hbl2, hb2⟩
        have HBL2 : Hid (isBld w2 w.heap.size B (writeL (l.take (k + 1)))) := by
          have h : isBld w2 w.heap.size B (writeL (l.take (k + 1))) := by rw [HSN.out]; exact hbl2
          exact h
        have HB2 := Lib.hid (HB1.out.trans hb2)
        clear hbl2 hb2
        go_wp2
        go_roundw
        case rel => exact ⟨k + 1, by omega, by go_num, HBL2.out, HB2.out⟩
        case measure => simp [intOf]; omega
      · have hkn : k = n := by omega
        have HBL' : Hid (isBld wr w.heap.size B (writeF l)) := by
          have h : isBld wr w.heap.size B (writeF l) := by
            have h := HBL.out
            rw [hkn, HN.out, List.take_length] at h
            rw [HW.out]; exact h
          exact h
        have hzr := HB.out.size
        clear hkn
        go_wp2_with fail
        refine (bld_string w.heap.size B _ _ HBL'.out hzr).mono ?_
        rintro r w1 ⟨rfl, hb1⟩
        have HB1 := Lib.hid (HB.out.trans hb1)
        clear hb1
        go_wp2
        go_ret2
        exact ⟨.nilIface, rfl, .inl ⟨HR.out, rfl⟩, HB1.out⟩
  · have HW : Hid (writeF l = []) := by
      have h : writeF l = [] := by unfold writeF; rw [if_neg hr]
      exact h
    have HR0 := Lib.hid hr
    obtain ⟨a1, c1, rfl, f1⟩ := hv.form
    clear hv hz hr f1
    go_enter Tryd.func13, Tryd.ntmps13
    go_wp2_with fail
    refine (right_any _ l _ HV.out HLL.out HZ.out).mono ?_
    rintro r w0 ⟨err, rfl, hat, hb0⟩
    have HAT := Lib.hid hat
    have HB0 := Lib.hid hb0
    clear hb0
    obtain ⟨t, u, rfl⟩ : ∃ t u, err = .iface t u := by
      rcases hat with ⟨h, _⟩ | ⟨_, b, h, _⟩
      · exact absurd (by rw [h]) HR0.out
      · exact ⟨_, _, h⟩
    clear hat
    go_wp2
    go_ret2
    exact ⟨_, by rw [HW.out]; rfl, HAT.out, HB0.out⟩
end Go.Proofs.YtjhmlmcibpjagaaDoor
