/-
  A receiver whose blocks are all among F: Take, Offer, Text, Safe; pieces of a text that come.
-/
import Derived.Test.YtjnbnkaocoamlabDoorRcvTake
import Derived.Test.YtjnbnkaocoamlabDoorRcvText
import Derived.Test.YtjnbnkaocoamlabDoorChkPieced
import Derived.Test.YtjnbnkaocoamlabDoorChkCut
namespace Go.Proofs.YtjnbnkaocoamlabDoor
open Go.RowKit

theorem takeAt (r : Nat) (F : Nat → Prop) (X : Rcv) (s : ByteArray) (w : World) (h : RcvAt w r F X) (hs : s.size ≤ 1000000) :
    Calls Tryd.prog 11 #[.pointer (some ⟨r, 0, none⟩), .string s] w fun e w' => ∃ F' : Nat → Prop, e = .returned (errV (takeSE X s.data.toList)) ∧ RcvAt w' r F' (takeS X s.data.toList) ∧ But F w w' ∧ ∀ k, F' k → F k ∨ w.heap.size ≤ k := by
  obtain ⟨d, L, M, DB, TB, vd, vt, h1, fr, fd, fL, fM, fB, fl⟩ := h
  refine (take_any r d L M DB TB vd vt X s w h1 hs).mono ?_
  rintro e w' ⟨DB2, TB2, vd2, vt2, rfl, h2, hb, hD, hT, h0⟩
  refine ⟨fun k => F k ∨ (0 < (takeS X s.data.toList).tot ∧ (k = DB2 ∨ k = TB2)), rfl, ⟨d, L, M, DB2, TB2, vd2, vt2, h2, .inl fr, .inl fd, .inl fL, .inl fM, fun hp => ⟨.inr ⟨hp, .inl rfl⟩, .inr ⟨hp, .inr rfl⟩⟩, fun k hk => ?_⟩, hb.mono (fun k hk => ?_), fun k hk => ?_⟩
  · rcases hk with hk | ⟨hp, hk⟩
    · exact Nat.lt_of_lt_of_le (fl k hk) hb.size
    · have := h2.rows.lt hp
      rcases hk with e | e <;> omega
  · rcases hk with hk | ⟨hp, hk | hk⟩
    · rw [hk]; exact fr
    · rw [hk]; exact (fB hp).1
    · rw [hk]; exact (fB hp).2
  · rcases hk with hk | ⟨hp, hk⟩
    · exact .inl hk
    · by_cases hx : X.tot = 0
      · rcases h0 hx with h | h
        · right; rcases hk with e | e <;> omega
        · omega
      · have hf := fB (by omega)
        rcases hk with e | e
        · rcases hD with e2 | e2
          · left; rw [e, e2]; exact hf.1
          · right; omega
        · rcases hT with e2 | e2
          · left; rw [e, e2]; exact hf.2
          · right; omega
theorem offerAt (r : Nat) (F : Nat → Prop) (X : Rcv) (w : World) (h : RcvAt w r F X) :
    Calls Tryd.prog 12 #[.pointer (some ⟨r, 0, none⟩)] w fun e w' => e = .returned (.int .i64 (offR X : Int)) ∧ w' = w := by
  obtain ⟨d, L, M, DB, TB, vd, vt, h1, _⟩ := h
  exact offer_any r d L M DB TB vd vt X w h1
theorem textAt (r : Nat) (F : Nat → Prop) (X : Rcv) (w : World) (h : RcvAt w r F X) :
    Calls Tryd.prog 13 #[.pointer (some ⟨r, 0, none⟩)] w fun e w' => e = .returned (textV X) ∧ Below w.heap.size w w' := by
  obtain ⟨d, L, M, DB, TB, vd, vt, h1, _⟩ := h
  exact text_any r d L M DB TB vd vt X w h1
theorem safeAt (r : Nat) (F : Nat → Prop) (X : Rcv) (w : World) (h : RcvAt w r F X) :
    Calls Tryd.prog 15 #[.pointer (some ⟨r, 0, none⟩)] w fun e w' => e = .returned (.int .i64 (X.safe : Int)) ∧ w' = w := by
  obtain ⟨d, L, M, DB, TB, vd, vt, h1, _⟩ := h
  exact safe_any r d L M DB TB vd vt X w h1
theorem RcvAt.drew {w : World} {r : Nat} {F : Nat → Prop} {X : Rcv} (h : RcvAt w r F X) : RcvAt w.drew r F X := h.below (Below.refl _ _).drew
theorem RcvAt.alloc {w : World} {r : Nat} {F : Nat → Prop} {X : Rcv} (h : RcvAt w r F X) (o : Obj) : RcvAt (w.alloc o) r F X := h.below ((Below.refl _ _).alloc (Nat.le_refl _) o)

/-- Of a text those bytes came that S tells, or nothing came. -/
def PartO (s : ByteArray) (S : Nat → Prop) (X : Rcv) : Prop := Part s S X ∨ (X.tot = 0 ∧ (∀ i, X.came i = none) ∧ ∀ i, ¬ S i)
theorem partO_new (s : ByteArray) : PartO s (fun _ => False) rNew := .inr ⟨rfl, fun _ => rfl, fun _ => id⟩
/-- What a piece of it does. -/
def tookR (X : Rcv) (s : ByteArray) (z k : Nat) : Rcv := rTake X (piece s z k)
theorem PartO.took {s : ByteArray} {S : Nat → Prop} {X : Rcv} (h : PartO s S X) {z k : Nat} (hk : k * z < s.size) : Part s (fun i => S i ∨ (k * z ≤ i ∧ i < k * z + z)) (tookR X s z k) := (part_take h hk).2
theorem piece_ok (s : ByteArray) (z k : Nat) (hk : k * z < s.size) (hs : s.size ≤ 4096) (hz1 : 1 ≤ z) (hz2 : z ≤ 256) : ∃ T : ByteArray, cwrL (piece s z k) = T.data.toList ∧ T.size ≤ 300 ∧ creadF T.data.toList = (piece s z k, 0) ∧ ChkOk (piece s z k) := by
  have hr := piece_right s z k hk hs hz1 hz2
  obtain ⟨T, hT, _, h300, _⟩ := cwr_facts (piece s z k) hr
  refine ⟨T, hT, h300, ?_, ?_⟩
  · rw [← hT]; exact cread_write _ (sum_lt _) hr
  · have hc := crE_ok.1 hr
    exact ⟨sum_lt _, by omega, by omega, by omega, by omega, by omega⟩
/-- A piece of the text comes. -/
theorem tookAt (r : Nat) (F : Nat → Prop) (X : Rcv) (s T : ByteArray) (S : Nat → Prop) (z k : Nat) (w : World) (h : RcvAt w r F X) (hp : PartO s S X) (hk : k * z < s.size) (hT : T.size ≤ 300) (hr : creadF T.data.toList = (piece s z k, 0)) :
    Calls Tryd.prog 11 #[.pointer (some ⟨r, 0, none⟩), .string T] w fun e w' => ∃ F' : Nat → Prop, e = .returned .nilIface ∧ RcvAt w' r F' (tookR X s z k) ∧ But F w w' ∧ ∀ k, F' k → F k ∨ w.heap.size ≤ k := by
  have he := (part_take hp hk).1
  have h1 : takeSE X T.data.toList = 0 := by unfold takeSE; rw [hr]; simp only; rw [if_neg (by decide)]; exact he
  have h2 : takeS X T.data.toList = tookR X s z k := by unfold takeS; rw [hr]; simp only; rw [if_neg (by decide), if_neg (by rw [he]; decide)]; rfl
  have h3 := takeAt r F X T w h (by omega)
  rw [h1, h2] at h3
  exact h3
end Go.Proofs.YtjnbnkaocoamlabDoor
