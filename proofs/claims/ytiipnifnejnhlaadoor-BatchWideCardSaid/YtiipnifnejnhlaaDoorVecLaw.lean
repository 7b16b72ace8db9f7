/-
  Plain: what the laws of vectors say, of lists.
-/
import Derived.Test.YtiipnifnejnhlaaDoorVecFact
import Derived.Test.YtiipnifnejnhlaaDoorVecR
namespace Go.Proofs.YtiipnifnejnhlaaDoor
open Go.RowKit

theorem join_two {a b : List Ent} (ha : rightV a) (hb : rightV b) : (16 < (joinL a b).length ∧ joinR a b = (4, [])) ∨ ((joinL a b).length ≤ 16 ∧ joinR a b = (0, joinL a b) ∧ rightV (joinL a b)) := by
  have h1 := (vright_ok a).2 ha
  have h2 := (vright_ok b).2 hb
  by_cases h : 16 < (joinL a b).length
  · exact .inl ⟨h, joinR_many h1 h2 h⟩
  · exact .inr ⟨by omega, joinR_ok h1 h2 h, by omega, join_okV ha.2 hb.2⟩
theorem cov_left {a b : List Ent} (ha : rightV a) (hb : rightV b) (hj : rightV (joinL a b)) : covB (joinL a b) a = true := (covB_iff hj ha).2 fun z => by rw [join_of ha.2 hb.2]; omega
theorem cov_right {a b : List Ent} (ha : rightV a) (hb : rightV b) (hj : rightV (joinL a b)) : covB (joinL a b) b = true := (covB_iff hj hb).2 fun z => by rw [join_of ha.2 hb.2]; omega
theorem cov_least {a b c : List Ent} (ha : rightV a) (hb : rightV b) (hc : rightV c) (hj : rightV (joinL a b)) (h1 : covB c a = true) (h2 : covB c b = true) : covB c (joinL a b) = true :=
  (covB_iff hc hj).2 fun z => by
    have := (covB_iff hc ha).1 h1 z
    have := (covB_iff hc hb).1 h2 z
    rw [join_of ha.2 hb.2]; omega
theorem cov_self {a : List Ent} (ha : rightV a) : covB a a = true := (covB_iff ha ha).2 fun _ => Int.le_refl _
theorem right_nil : rightV [] := ⟨Nat.zero_le _, trivial⟩
theorem cov_nil {a : List Ent} (ha : rightV a) : covB a [] = true := (covB_iff ha right_nil).2 fun z => (ofF_bd ha.2 z).1
theorem cov_trans {a b c : List Ent} (ha : rightV a) (hb : rightV b) (hc : rightV c) (h1 : covB a b = true) (h2 : covB b c = true) : covB a c = true :=
  (covB_iff ha hc).2 fun z => Int.le_trans ((covB_iff hb hc).1 h2 z) ((covB_iff ha hb).1 h1 z)
theorem cov_eq {a b : List Ent} (ha : rightV a) (hb : rightV b) : decide (a = b) = (covB a b && covB b a) := by
  rw [Bool.eq_iff_iff]
  simp only [decide_eq_true_eq, Bool.and_eq_true]
  constructor
  · rintro rfl; exact ⟨cov_self ha, cov_self ha⟩
  · rintro ⟨h1, h2⟩
    exact ok_ext ha.2 hb.2 fun z => Int.le_antisymm ((covB_iff hb ha).1 h2 z) ((covB_iff ha hb).1 h1 z)
theorem equal_q (v1 v2 : Value) (l : List Ent) (w : World) (n : Nat) (h1 : IsEnts w v1 l) (h2 : IsEnts w v2 l) (hl : l.length ≤ 1000000) :
    Calls Tryd.prog 43 #[v1, v2] (w.drewN n) fun e w' => e = .returned (.bool true) ∧ ∃ m, w' = w.drewN m :=
  (equal_same v1 v2 l (w.drewN n) (h1.drewN n) (h2.drewN n) hl).mono fun _ _ ⟨h1, q, h2⟩ => ⟨h1, n + q, by rw [h2, World.drewN_drewN]⟩
/-- An empty one. -/
theorem IsEnts.none {w : World} {v : Value} (h : IsEnts w v []) : ∃ a c, v = .slice a 0 c := by
  obtain ⟨a, c, h, _⟩ := h.form; exact ⟨a, c, h⟩
end Go.Proofs.YtiipnifnejnhlaaDoor
