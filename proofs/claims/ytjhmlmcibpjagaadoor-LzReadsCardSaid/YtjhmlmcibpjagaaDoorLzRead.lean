/-
  The contract of lz.Read.
-/
import Derived.Test.YtjhmlmcibpjagaaDoorLzGet
import Derived.Test.YtjhmlmcibpjagaaDoorLzRight
import Derived.Test.YtjhmlmcibpjagaaDoorBufS
namespace Go.Proofs.YtjhmlmcibpjagaaDoor
open Go.RowKit

/-- Two rows of different kinds never share a block. -/
theorem own_apart {w : World} {base base' : Nat} {e1 e2 : TypeId} {k1 k2 n1 n2 : Nat} {v1 v2 : Value} {x1 x2 : List Value} (h1 : w.ownsRow base e1 k1 v1 n1 x1) (h2 : w.ownsRow base' e2 k2 v2 n2 x2) (hne : e1 ≠ e2) :
    v1.ownBlock = none ∨ v1.ownBlock ≠ v2.ownBlock := by
  rcases h1.2 with ⟨rfl, _⟩ | ⟨g, cap, cur, rfl, _, hh, _⟩
  · exact .inl rfl
  · refine .inr ?_
    rcases h2.2 with ⟨rfl, _⟩ | ⟨g', cap', cur', rfl, _, hh', _⟩
    · simp [Value.ownBlock]
    · intro e
      have : g = g' := by simpa [Value.ownBlock] using e
      subst this
      rw [hh] at hh'
      injection hh' with hh'
      injection hh' with _ ht
      exact hne ht

/-- What Read answers. -/
def ReadIs (w : World) (s : List UInt8) (e : Ending) (w' : World) : Prop :=
  ∃ v err, e = .returned (.tuple #[v, err]) ∧ ownsK w' w.heap.size v (readF s).2 ∧ atIs w' err (readF s).1 ∧ Below w.heap.size w w'
/-- An error in memory is no nil. -/
theorem atIs.iface {w : World} {v : Value} {r : Nat × Int} (h : atIs w v r) (h0 : r.1 ≠ 0) : ∃ t u, v = .iface t u := by
  rcases h with ⟨h, _⟩ | ⟨_, b, h, _⟩
  · exact absurd (by rw [h]) h0
  · exact ⟨_, _, h⟩
theorem atIs.nil {w : World} {v : Value} {r : Nat × Int} (h : atIs w v r) (h0 : r.1 = 0) : v = .nilIface := by
  rcases h with ⟨_, h⟩ | ⟨h, _⟩
  · exact h
  · exact absurd h0 h
theorem getT_err {l : List UInt8} {e p : Nat} (hg : getT l = .inl (e, p)) : e ≠ 0 := by
  intro h0
  subst h0
  unfold getT at hg
  split at hg
  · rename_i hne; injection hg with hg; injection hg with hg _; exact hne hg
  · split at hg
    · split at hg
      · injection hg with hg; injection hg with hg _; omega
      · split at hg
        · injection hg with hg; injection hg with hg _; omega
        · cases hg
    · split at hg
      · injection hg with hg; injection hg with hg _; omega
      · split at hg
        · rename_i hne; injection hg with hg; injection hg with hg _; exact hne hg
        · cases hg
theorem rightB_err (l : List Tok) (b : List Nat) : (rightB l b).1 = (rightF l 0 0).1 := by
  unfold rightB; split
  · rename_i h; exact h.symm
  · rfl

set_option maxRecDepth 100000 in
set_option maxHeartbeats 4000000 in
theorem lzread_any (s : ByteArray) (w : World) (hs : s.size ≤ 400000) (hg : errT w) :
    Calls Tryd.prog 16 #[.string s] w (ReadIs w s.data.toList) := by
  have HG := Lib.hid hg
  have hlen : s.data.toList.length = s.size := (size_data s).symm
  have HL := Lib.hid hlen
  clear hg hlen
  go_enter Tryd.func16, Tryd.ntmps16
  go_wp2
  go_loopw [4, 5, 6] (fun lv bv av wr => ∃ (f a : Nat) (l : List Tok) (b : List Nat), av = .int .i64 a ∧ a ≤ s.size ∧ s.size ≤ a + f ∧ l.length ≤ a ∧ b.length = l.length ∧ (∀ t ∈ l, t.own.size ≤ 140737488351232) ∧ rdF s.data.toList s.data.toList.length 0 [] [] = rdF s.data.toList f a l b ∧ ownsK wr w.heap.size lv l ∧ ownsN wr w.heap.size bv b ∧ Below w.heap.size w wr) (fun _ _ av _ => s.size - (intOf av).toNat)
  case atStart => exact ⟨s.size, 0, [], [], rfl, by omega, by omega, by simp, rfl, (fun t h => by cases h), by rw [HL.out], ownsK_nil _ _, ownsN_nil _ _, Below.refl _ _⟩
  case round =>
    obtain ⟨f, a, l, b, rfl, ha, hf, hla, hbl, hz, heq, hok, hon, hbel⟩ := hrel
    have HZ := Lib.hid hz
    have HBL := Lib.hid hbl
    have HEQ := Lib.hid heq
    have HK := Lib.hid hok
    have HN := Lib.hid hon
    have HB := Lib.hid hbel
    have hzr := hbel.size
    have HGR := Lib.hid (HG.out.below (hbel.mono (Nat.le_refl _)))
    clear hz hbl heq hok hon hbel
    by_cases hlt : a < s.size
    · obtain ⟨f', rfl⟩ : ∃ f', f = f' + 1 := ⟨f - 1, by omega⟩
      have hlt' : a < s.data.toList.length := by rw [HL.out]; exact hlt
      match hgt : getT (s.data.toList.drop a) with
      | .inl (e, p) =>
        have HE : Hid (rdF s.data.toList s.data.toList.length 0 [] [] = .inl (e, a + p)) := Lib.hid (show rdF s.data.toList s.data.toList.length 0 [] [] = .inl (e, a + p) by rw [HEQ.out, rdF_bad hlt' hgt])
        have HNE := Lib.hid (getT_err hgt)
        have HGT := Lib.hid hgt
        clear hgt hlt'
        go_wp2_with fail
        refine (lzget_any s a _ (by omega) (by omega) HGR.out).mono ?_
        rw [HGT.out]
        rintro r w1 ⟨err, rfl, hat, hb1⟩
        have HAT := Lib.hid hat
        have HB1 : Hid (Below w.heap.size w w1) := HB.out.trans (hb1.mono hzr)
        have hz1 := HB1.out.size
        obtain ⟨ty, u, rfl⟩ := hat.iface HNE.out
        clear hat hb1
        go_wp2
        go_ret2
        refine ⟨_, _, rfl, ?_⟩
        rw [readF_bad HE.out]
        exact ⟨ownsK_nil _ _, HAT.out.below ((Below.refl _ _).alloc (Nat.le_refl _) _), HB1.out.alloc hz1 _⟩
      | .inr (t, k) =>
        obtain ⟨k1, k2, _, _, k5⟩ := getT_only hgt
        rw [List.length_drop, HL.out] at k2 k5
        have HE : Hid (rdF s.data.toList s.data.toList.length 0 [] [] = rdF s.data.toList f' (a + k) (l ++ [t]) (b ++ [a])) := Lib.hid (show rdF s.data.toList s.data.toList.length 0 [] [] = rdF s.data.toList f' (a + k) (l ++ [t]) (b ++ [a]) by rw [HEQ.out, rdF_ok hlt' hgt])
        have HGT := Lib.hid hgt
        have HZ2 : Hid (∀ u ∈ l ++ [t], u.own.size ≤ 140737488351232) := Lib.hid (show ∀ u ∈ l ++ [t], u.own.size ≤ 140737488351232 from fun u hu => by
          rcases List.mem_append.1 hu with hu | hu
          · exact HZ.out u hu
          · rw [List.mem_singleton.1 hu]; omega)
        have HTV : Hid (tokV t = .agg #[.string t.own, .int .i64 t.back, .int .i64 t.size]) := rfl
        clear hgt hlt' k5
        go_wp2_with fail
        refine (lzget_any s a _ (by omega) (by omega) HGR.out).mono ?_
        rw [HGT.out]
        rintro r w1 ⟨rfl, hb1⟩
        have HB1 : Hid (Below w.heap.size w w1) := HB.out.trans (hb1.mono hzr)
        have hz1 := HB1.out.size
        have HK1 := Lib.hid (HK.out.below hb1)
        have HN1 := Lib.hid (HN.out.below hb1)
        clear hb1
        rw [HTV.out]
        go_wp2_with (at_builtin; refine wpList_append_tok rfl _ _ rfl w.heap.size _ l rfl ((HK1.out.alloc _).alloc _) (w1.heap.size + 1) 1 rfl t ?c1 ?c2 ?c3 ?_)
        case c1 => have := tokBlk_new (w1.alloc (.cells #[.string t.own, .int .i64 t.back, .int .i64 t.size] 42)) t.own t.back t.size; simpa using this
        case c2 => omega
        case c3 => simp; omega
        · intro g cap w2 ho2 hg2
          have HB2 : Hid (Below w.heap.size w w2) := ((HB1.out.alloc hz1 _).alloc (by simp; omega) _).grown hg2 (by simp; omega) (fun g hg => (HK1.out.lt g hg).1)
          have HN2 := Lib.hid (show ownsN w2 w.heap.size _ b from World.ownsRow.kept ((HN1.out.alloc _).alloc _) hg2 (own_apart HN1.out HK1.out (show 3 ≠ 42 by decide)))
          have HK2 := Lib.hid ho2
          have hz2 := HB2.out.size
          clear ho2 hg2
          go_wp2_with (at_builtin; refine wpList_append_int rfl _ _ rfl w.heap.size _ b rfl (HN2.out.alloc _) ⟨w2.heap.size, 0, none⟩ 1 rfl a ?c4 ?c5 ?c6 ?_)
          case c4 => simp [Addr.add]
          case c5 => have := HBL.out; omega
          case c6 => simp; omega
          · intro g' cap' w3 ho3 hg3
            have HB3 : Hid (Below w.heap.size w w3) := (HB2.out.alloc hz2 _).grown hg3 (by simp; omega) (fun g hg => (HN2.out.lt g hg).1)
            have HK3 : Hid (ownsK w3 w.heap.size (.slice (some ⟨g, 0, none⟩) (l.length + 1) cap) (l ++ [t])) := World.ownsRow.kept (HK2.out.alloc _) hg3 (own_apart HK2.out HN2.out (show 42 ≠ 3 by decide))
            have HN3 := Lib.hid ho3
            clear ho3 hg3
            obtain ⟨l1, hl1⟩ : ∃ l1, l ++ [t] = l1 := ⟨_, rfl⟩
            have hll : l1.length = l.length + 1 := by rw [← hl1]; simp
            rw [hl1] at HK3 HE HZ2
            have HBL2 : Hid ((b ++ [a]).length = l1.length) := Lib.hid (show (b ++ [a]).length = l1.length by rw [hll, List.length_append, HBL.out]; rfl)
            clear hl1
            go_wp2
            go_roundw
            case rel => exact ⟨f', a + k, l1, b ++ [a], by go_num, by omega, by omega, by omega, HBL2.out, HZ2.out, HE.out, HK3.out, HN3.out, HB3.out⟩
            case measure => simp [intOf]; omega
    · have hlt' : ¬ a < s.data.toList.length := by rw [HL.out]; exact hlt
      have HE : Hid (rdF s.data.toList s.data.toList.length 0 [] [] = .inr (l, b)) := Lib.hid (show rdF s.data.toList s.data.toList.length 0 [] [] = .inr (l, b) by rw [HEQ.out, rdF_end hlt'])
      clear hlt'
      go_wp2_with fail
      refine (lzright_any _ _ l b w.heap.size _ HK.out.is (by omega) HZ.out HN.out HBL.out).mono ?_
      rintro r w1 ⟨err, rfl, hat, hb1⟩
      have HAT := Lib.hid hat
      have HB1 : Hid (Below w.heap.size w w1) := HB.out.trans (hb1.mono hzr)
      have HK1 := Lib.hid (HK.out.below hb1)
      clear hb1
      by_cases hr : (rightF l 0 0).1 = 0
      · obtain rfl := hat.nil (by rw [rightB_err]; exact hr)
        have HRD := Lib.hid (readF_ok HE.out hr)
        clear hat hr
        go_wp2
        go_ret2
        refine ⟨_, _, rfl, ?_⟩
        rw [HRD.out]
        exact ⟨HK1.out, .inl ⟨rfl, rfl⟩, HB1.out⟩
      · obtain ⟨ty, u, rfl⟩ := hat.iface (by rw [rightB_err]; exact hr)
        have HRD := Lib.hid (readF_wrong HE.out hr)
        have HAT2 : Hid (atIs w1 (.iface ty u) ((rightF l 0 0).1, ((b.getD (rightF l 0 0).2.toNat 0 : Nat) : Int))) := by
          have h := HAT.out
          unfold rightB at h
          rw [if_neg hr] at h
          exact h
        clear hat hr
        go_wp2
        go_ret2
        refine ⟨_, _, rfl, ?_⟩
        rw [HRD.out]
        exact ⟨ownsK_nil _ _, HAT2.out, HB1.out⟩
end Go.Proofs.YtjhmlmcibpjagaaDoor
