/-
  The contract of chunk.Right.
-/
import Derived.Test.YtjnbnkaocoamlabDoorChkArg
import Derived.Deep.QuietTactic
import Derived.BigQuiet
import Derived.Lib.Hide
import Derived.Outline
namespace Go.Proofs.YtjnbnkaocoamlabDoor
open Go.RowKit

set_option maxRecDepth 100000 in
set_option maxHeartbeats 2000000 in
theorem cright_any (c : Chk) (w : World) (hc : ChkOk c) :
    Calls Tryd.prog 20 #[chkV c] w fun e w' => e = .returned (errV (crE c.tot c.pos c.dat.size)) ∧ Below w.heap.size w w' := by
  obtain ⟨nm, t, a, d⟩ := c
  obtain ⟨_, t0, t1, a0, a1, hd⟩ := hc
  simp only at t0 t1 a0 a1 hd
  have HW : Hid (Below w.heap.size w (w.alloc (.cells #[.int .u32 nm, .int .i64 t, .int .i64 a, .string d] 34))) := Lib.hid ((Below.refl _ _).alloc (Nat.le_refl _) _)
  show Calls Tryd.prog 20 #[.agg #[.int .u32 nm, .int .i64 t, .int .i64 a, .string d]] w fun e w' => e = .returned (errV (crE t a d.size)) ∧ _
  by_cases h1 : t < 1
  · have HE : Hid (errV (crE t a d.size) = .iface 43 (.int .i64 2)) := Lib.hid (by unfold crE; rw [if_pos (.inl h1)]; rfl)
    rw [HE.out]
    go_enter Tryd.func20, Tryd.ntmps20
    go_wp2
    go_ret
    exact ⟨rfl, HW.out⟩
  · by_cases h2 : 4096 < t
    · have HE : Hid (errV (crE t a d.size) = .iface 43 (.int .i64 2)) := Lib.hid (by unfold crE; rw [if_pos (.inr (.inl h2))]; rfl)
      rw [HE.out]
      go_enter Tryd.func20, Tryd.ntmps20
      go_wp2
      go_ret
      exact ⟨rfl, HW.out⟩
    · by_cases h3 : a < 0
      · have HE : Hid (errV (crE t a d.size) = .iface 43 (.int .i64 2)) := Lib.hid (by unfold crE; rw [if_pos (.inr (.inr (.inl h3)))]; rfl)
        rw [HE.out]
        go_enter Tryd.func20, Tryd.ntmps20
        go_wp2
        go_ret
        exact ⟨rfl, HW.out⟩
      · by_cases h4 : t < a
        · have HE : Hid (errV (crE t a d.size) = .iface 43 (.int .i64 2)) := Lib.hid (by unfold crE; rw [if_pos (.inr (.inr (.inr h4)))]; rfl)
          rw [HE.out]
          go_enter Tryd.func20, Tryd.ntmps20
          go_wp2
          go_ret
          exact ⟨rfl, HW.out⟩
        · have hn : ¬ (t < 1 ∨ 4096 < t ∨ a < 0 ∨ t < a) := by omega
          obtain ⟨n, hz⟩ : ∃ n, n = d.size := ⟨_, rfl⟩
          by_cases h5 : d.size < 1
          · have HE : Hid (errV (crE t a d.size) = .iface 43 (.int .i64 4)) := Lib.hid (by unfold crE; rw [if_neg hn, if_pos (.inl h5)]; rfl)
            rw [HE.out]
            clear hn
            go_enter Tryd.func20, Tryd.ntmps20
            go_wp2
            go_ret
            exact ⟨rfl, HW.out⟩
          · by_cases h6 : 256 < d.size
            · have HE : Hid (errV (crE t a d.size) = .iface 43 (.int .i64 4)) := Lib.hid (by unfold crE; rw [if_neg hn, if_pos (.inr h6)]; rfl)
              rw [HE.out]
              clear hn
              go_enter Tryd.func20, Tryd.ntmps20
              go_wp2
              go_ret
              exact ⟨rfl, HW.out⟩
            · have hn2 : ¬ (d.size < 1 ∨ 256 < d.size) := by omega
              by_cases h7 : t - a < (d.size : Int)
              · have HE : Hid (errV (crE t a d.size) = .iface 43 (.int .i64 2)) := Lib.hid (by unfold crE; rw [if_neg hn, if_neg hn2, if_pos h7]; rfl)
                rw [HE.out]
                clear hn hn2
                go_enter Tryd.func20, Tryd.ntmps20
                go_wp2
                go_ret
                exact ⟨rfl, HW.out⟩
              · have HE : Hid (errV (crE t a d.size) = .nilIface) := Lib.hid (by unfold crE; rw [if_neg hn, if_neg hn2, if_neg h7]; rfl)
                rw [HE.out]
                clear hn hn2
                go_enter Tryd.func20, Tryd.ntmps20
                go_wp2
                go_ret
                exact ⟨rfl, HW.out⟩
end Go.Proofs.YtjnbnkaocoamlabDoor
