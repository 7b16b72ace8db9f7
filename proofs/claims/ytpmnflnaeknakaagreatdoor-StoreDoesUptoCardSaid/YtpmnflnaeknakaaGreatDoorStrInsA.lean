/-
  slices.Insert of one text: at whatever place. (Made by wip/sto/genins.py.)
-/
import Derived.Test.YtpmnflnaeknakaaGreatDoorStrIns
namespace Go.Proofs.YtpmnflnaeknakaaGreatDoor
open Go.RowKit

set_option maxRecDepth 100000 in
set_option maxHeartbeats 4000000 in
/-- At its end. -/
theorem sins_end (v : Value) (n vb : Nat) (l : List ByteArray) (x : ByteArray) (w : World) (base : Nat) (ho : ownsS w base v l) (hn : n = l.length) (hm : n ≤ 1000000) (hvb : strBlk w vb x) (hbs : base ≤ w.heap.size) :
    Calls Tryz.prog 39 #[v, .int .i64 (n : Int), .slice (some ⟨vb, 0, none⟩) 1 1] w (InsS w base n v l x) := by
  obtain ⟨i0, hi, hz0, hz1, hz2⟩ := info_parts info_str
  obtain ⟨a, c, hv, hle⟩ : ∃ a c, v = .slice a n c ∧ n ≤ c := by
    rcases ho.2 with ⟨rfl, h0⟩ | ⟨g, cap, cur, rfl, _, _, h1, _⟩
    · exact ⟨none, 0, by rw [hn, h0], by omega⟩
    · exact ⟨_, _, by rw [hn], by omega⟩
  have hadd : ∀ (ad : Addr), ad.add 0 = ad := fun ad => by unfold Addr.add; split <;> simp_all
  have hcell : w.cell? ⟨vb, 0, none⟩ = some (.string x) := by unfold strBlk at hvb; rw [cell_of_row _ _ 0 _ _ (0, 0) hvb]; rfl
  obtain ⟨H, hH⟩ : ∃ H, w.heap.size = H := ⟨_, rfl⟩
  have HO := Lib.hid ho
  have HV := Lib.hid hv
  have HN := Lib.hid hn
  have HH := Lib.hid hH
  have HA := Lib.hid (hadd ⟨vb, 0, none⟩)
  have HC := Lib.hid hcell
  have HB := Lib.hid hbs
  have HLN : Hid (l.length ≤ 1000000) := Lib.hid (by omega)
  have hnn : (n : Int) ≤ 9223372036854775807 := by omega
  have HL := Lib.hid hle
  subst hv
  clear ho hn hH hadd hcell hvb hbs
  rcases Nat.lt_or_ge n c with hcn | hcn
  · have hc1 : ¬ c = n := by omega
    have HCN := Lib.hid hcn
    clear hcn
    go_enter Tryz.func39, Tryz.ntmps39
    go_wp2_with (at_builtin; refine wpList_append_lies _ rfl _ _ 58 rfl base 9 i0 (.string ⟨#[]⟩) 1 16 Tryz.underlying58 hi hz0 hz1 hz2 rfl (by decide) (.slice a n c) l.length (l.map Value.string) rfl HO.out _ 1 1 [.string x] rfl rfl (fun j u hj => by
        match j, hj with
        | 0, hj => simp at hj; subst hj; rw [HA.out]; exact HC.out) (fun u hu => by simp at hu; subst hu; rfl) (by decide) (by have := HLN.out; unfold maxLen; omega) (by have := HLN.out; omega) HB.out _ HH.out ?_; intro g cap w' h1 h2 h3 h4)
    go_ret
    have e0 := HH.out
    subst e0
    refine ⟨g, cap, rfl, ?_, h2, h3.imp id (fun e => by rw [e]; exact Nat.le_refl _), h4⟩
    rw [HN.out, List.take_length, List.drop_length]
    unfold ownsS
    rw [List.length_append, List.map_append]
    exact h1
  · obtain rfl : c = n := by omega
    clear hcn
    go_enter Tryz.func39, Tryz.ntmps39
    go_wp2_with (at_builtin; refine wpList_append_lies _ rfl _ _ 58 rfl base 9 i0 (.string ⟨#[]⟩) 1 16 Tryz.underlying58 hi hz0 hz1 hz2 rfl (by decide) (.slice a c c) l.length (l.map Value.string) rfl HO.out _ 1 1 [.string x] rfl rfl (fun j u hj => by
        match j, hj with
        | 0, hj => simp at hj; subst hj; rw [HA.out]; exact HC.out) (fun u hu => by simp at hu; subst hu; rfl) (by decide) (by have := HLN.out; unfold maxLen; omega) (by have := HLN.out; omega) HB.out _ HH.out ?_; intro g cap w' h1 h2 h3 h4)
    go_ret
    have e0 := HH.out
    subst e0
    refine ⟨g, cap, rfl, ?_, h2, h3.imp id (fun e => by rw [e]; exact Nat.le_refl _), h4⟩
    rw [HN.out, List.take_length, List.drop_length]
    unfold ownsS
    rw [List.length_append, List.map_append]
    exact h1

theorem sins_any (v : Value) (i n vb : Nat) (l : List ByteArray) (x : ByteArray) (w : World) (base : Nat) (ho : ownsS w base v l) (hn : n = l.length) (hi : i ≤ n) (hm : n ≤ 1000000) (hvb : strBlk w vb x) (hne : v.ownBlock ≠ some vb) (hbs : base ≤ w.heap.size) :
    Calls Tryz.prog 39 #[v, .int .i64 (i : Int), .slice (some ⟨vb, 0, none⟩) 1 1] w (InsS w base i v l x) := by
  rcases Nat.lt_or_ge i n with hlt | hge
  · obtain ⟨g, cap, rfl, hg, hgs, hlc, hcm, hrow, hcs⟩ := ho.rowS (by omega)
    rw [← hn] at hlc hne ⊢
    have hll : (l.take i ++ x :: l.drop i).length = l.length + 1 := by rw [List.length_append, List.length_take, List.length_cons, List.length_drop]; omega
    by_cases hroom : n + 1 ≤ cap
    · refine (sins_room g 0 cap i n vb 1 l x w hrow hcs hn hlt hroom (by unfold maxLen at hcm; omega) hvb (fun e => hne (by rw [e]; rfl))).mono ?_
      rintro e w' ⟨rfl, ⟨cs, h1, h2⟩, h3, h4⟩
      refine ⟨g, cap, rfl, ?_, h4, .inl rfl, Nat.lt_of_lt_of_le hgs h4.size⟩
      rw [← hll]
      exact ownsS_of_cells hg h1 h2 (by omega) hcm (fun j u hj => by have := h3 j u hj; rwa [Nat.zero_add] at this)
    · refine (sins_grow g 0 cap i n vb 1 l x w hrow hn hlt hlc (by omega) hm hvb hgs).mono ?_
      rintro e w' ⟨G, rfl, h0, hG, ⟨cs, h1, h2⟩, h3, h4⟩
      refine ⟨_, G, rfl, ?_, ⟨h4.os, h4.tape, h4.output, h4.size, fun k hk _ => h4.block k hk (by simp)⟩, .inr (Nat.le_refl _), (Array.getElem?_eq_some_iff.1 h1).1⟩
      rw [← hll]
      exact ownsS_of_cells hbs h1 h2 (by omega) hG h3
  · obtain rfl : i = n := by omega
    exact sins_end v i vb l x w base ho hn hm hvb hbs

end Go.Proofs.YtpmnflnaeknakaaGreatDoor
