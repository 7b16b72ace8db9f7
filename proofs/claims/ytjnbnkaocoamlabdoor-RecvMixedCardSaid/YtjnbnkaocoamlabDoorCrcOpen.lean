/-
  The contracts of strings.Clone and crc.Open.
-/
import Derived.Test.YtjnbnkaocoamlabDoorCloneS
import Derived.Test.YtjnbnkaocoamlabDoorBytesX
import Derived.Test.YtjnbnkaocoamlabDoorCrcTail
import Derived.Test.YtjnbnkaocoamlabDoorShelf
import Derived.Deep.RegionHeld3
namespace Go.Proofs.YtjnbnkaocoamlabDoor
open Go.RowKit

/-- An error as a value of type error. -/
def errC (e : Nat) : Value := if e = 0 then .nilIface else .iface 43 (.int .i64 e)
def openV (r : List UInt8 × Nat) : Value := .tuple #[.string ⟨r.1.toArray⟩, errC r.2]

theorem ext_list (s : ByteArray) (a b : Nat) : (s.extract a b).data.toList = (s.data.toList.drop a).take (b - a) := by
  rw [ByteArray.data_extract, Array.toList_extract]
theorem undrew {w w' : World} (h : Below w.drew.heap.size w.drew w') : Below w.heap.size w w' := ((Below.refl _ _).drew).trans h
theorem take_bytes (s : ByteArray) (k : Nat) : (⟨(s.data.toList.take k).toArray⟩ : ByteArray) = s.extract 0 k := by
  apply bytes_ext
  rw [ext_list, List.drop_zero, Nat.sub_zero]
theorem open_test (s : ByteArray) (k : Nat) (hk : s.size = k + 4) : (s.extract k s.size).toList = s.data.toList.drop (s.data.toList.length - 4) ∧ s.data.toList.length - 4 = k ∧ ¬ s.data.toList.length < 4 := by
  have hl : s.data.toList.length = k + 4 := by simpa using hk
  refine ⟨?_, by omega, by omega⟩
  rw [toL, ext_list, hl, show k + 4 - 4 = k by omega]
  apply List.take_of_length_le
  rw [List.length_drop]
  omega

set_option maxRecDepth 100000 in
set_option maxHeartbeats 1000000 in
theorem open_any (s : ByteArray) (w : World) (hs : s.size ≤ 140737488351232) :
    Calls Tryd.prog 29 #[.string s] w fun e w' => e = .returned (openV (openL s.data.toList)) ∧ Below w.heap.size w w' := by
  by_cases h4 : s.size < 4
  · have h : openL s.data.toList = ([], 7) := by unfold openL; rw [if_pos (by simpa using h4)]
    rw [h]
    go_enter Tryd.func29, Tryd.ntmps29
    go_wp2
    go_ret2
    exact ⟨rfl, Below.refl _ _⟩
  · obtain ⟨k, hk⟩ : ∃ k, s.size = k + 4 := ⟨s.size - 4, by omega⟩
    have e1 : (s.size : Int) - 4 = (k : Int) := by omega
    have e2 : (0 : Int) ≤ (k : Int) := by omega
    have e3 : (k : Int) ≤ (s.size : Int) := by omega
    have hk2 : k ≤ s.size := by omega
    have HZ : Hid ((s.extract 0 k).size ≤ 140737488351232) := by
      have h : (s.extract 0 k).size ≤ 140737488351232 := by simp; omega
      exact h
    obtain ⟨t1, t2, t3⟩ := open_test s k hk
    by_cases hq : (s.extract k s.size).toList = tail4 (sum (s.data.toList.take k))
    · have HO : Hid (openV (openL s.data.toList) = .tuple #[.string (s.extract 0 k), .nilIface]) := by
        have h : openL s.data.toList = (s.data.toList.take k, 0) := by
          unfold openL
          rw [if_neg t3, if_pos (by rw [← t1, hq, t2]), t2]
        show openV _ = _
        rw [h]
        unfold openV errC
        rw [if_pos rfl, take_bytes]
      have hb : ((s.extract k s.size).toList == tail4 (sum (s.data.toList.take k))) = true := beq_iff_eq.2 hq
      clear hq t1 t2 t3 hk
      go_enter Tryd.func29, Tryd.ntmps29
      go_wp2
      go_region_held3 (fun w' => True) (trivial) (first | (go_at_call 33; refine (tail_any _ _ (by unfold maxLen; simp; omega)).mono ?_; rintro r w1 ⟨rfl, hb1⟩; have HB := Lib.hid (undrew hb1); clear hb1))
      go_wp2_with fail
      refine (clone_s _ _ HZ.out).mono ?_
      rintro r w2 ⟨rfl, hb2⟩
      have HB2 : Hid (Below w.heap.size w w2) := HB.out.trans (hb2.mono HB.out.size)
      clear hb2
      go_wp2
      go_ret2
      exact ⟨by rw [HO.out]; rfl, HB2.out⟩
    · have HO : Hid (openV (openL s.data.toList) = .tuple #[.string ⟨#[]⟩, .iface 43 (.int .i64 15)]) := by
        have h : openL s.data.toList = ([], 15) := by
          unfold openL
          rw [if_neg t3, if_neg (by rw [← t1, t2]; exact hq)]
        show openV _ = _
        rw [h]
        rfl
      have hb : ((s.extract k s.size).toList == tail4 (sum (s.data.toList.take k))) = false := beq_eq_false_iff_ne.2 hq
      clear hq t1 t2 t3 hk
      go_enter Tryd.func29, Tryd.ntmps29
      go_wp2
      go_region_held3 (fun w' => True) (trivial) (first | (go_at_call 33; refine (tail_any _ _ (by unfold maxLen; simp; omega)).mono ?_; rintro r w1 ⟨rfl, hb1⟩; have HB := Lib.hid (undrew hb1); clear hb1))
      go_wp2
      go_ret2
      exact ⟨by rw [HO.out]; rfl, HB.out⟩
end Go.Proofs.YtjnbnkaocoamlabDoor
