/-
  The laws' light, spun, all: over a disk of eight sectors.
-/
import Derived.Test.YtjnbnkaocoamlaaDskCrash
import Derived.Test.YtjnbnkaocoamlaaDskNew
import Derived.Test.YtjnbnkaocoamlaaDabAArg
import Derived.Test.YtjnbnkaocoamlaaPick
import Derived.Test.YtjnbnkaocoamlaaStrs
import Derived.BigQuiet
import Derived.Deep.QuietTactic
namespace Go.Proofs.Ytjnbnkaocoamlaa
open Go.RowKit

set_option maxRecDepth 100000 in
theorem light1_any (t : DabA) (w : World) :
    Calls Try.prog 27 #[.agg #[.int .i64 t.at_, .string t.s, .bool t.syncs]] w fun e w' => e = .returned (.bool (decide (100 < (t.s.size : Int)))) ∧ Below w.heap.size w w' := by
  go_enter Try.func27, Try.ntmps27
  go_wp2
  go_ret
  exact ⟨rfl, (Below.refl _ _).alloc (Nat.le_refl _) _⟩

set_option maxRecDepth 100000 in
set_option maxHeartbeats 2000000 in
theorem idxl_any (v : Value) (l : List DabA) (w : World) (hv : IsDabAs w v l) (hl : l.length ≤ 1000000) :
    Calls Try.prog 31 #[v, .func (.func 27) #[] #[]] w fun e w' => ((e = .returned (.int .i64 (-1)) ∧ ∀ x ∈ l, x.s.size ≤ 100) ∨ (∃ p : Nat, e = .returned (.int .i64 (p : Int)) ∧ ∃ x ∈ l, 100 < x.s.size)) ∧ Below w.heap.size w w' := by
  obtain ⟨a1, c1, rfl, f1⟩ := hv.form
  have F1 := Lib.hid f1
  obtain ⟨n, hn⟩ : ∃ n, n = l.length := ⟨_, rfl⟩
  rw [← hn] at hl ⊢
  have HN := Lib.hid hn
  clear f1 hn hv
  go_enter Try.func31, Try.ntmps31
  go_wp2
  go_loopw [8] (fun i wr => ∃ k : Nat, k ≤ n ∧ i = .int .i64 k ∧ (∀ x ∈ l.take k, x.s.size ≤ 100) ∧ Below w.heap.size w wr) (fun i _ => n - (RowKit.intOf i).toNat)
  case atStart => exact ⟨0, Nat.zero_le _, rfl, fun x h => (by simp at h), Below.refl _ _⟩
  case round =>
    obtain ⟨k, hk, rfl, hne, hbel⟩ := hrel
    have HB := Lib.hid hbel
    have HNE := Lib.hid hne
    clear hbel hne
    by_cases hlt : k < n
    · obtain ⟨x, hx⟩ : ∃ x, l[k]? = some x := ⟨l[k]'(by rw [← HN.out]; exact hlt), List.getElem?_eq_getElem _⟩
      obtain ⟨b1, o1, rfl, hb1, p0, p1, p2⟩ := F1.out k x hx
      have q0 := (HB.out.cell (p := ⟨b1, _, none⟩) hb1).trans p0
      have q1 := (HB.out.cell (p := ⟨b1, _, none⟩) hb1).trans p1
      have q2 := (HB.out.cell (p := ⟨b1, _, none⟩) hb1).trans p2
      have HX := Lib.hid hx
      clear p0 p1 p2 hx
      go_wp2_with fail
      refine (light1_any x wr).mono ?_
      rintro rr w1 ⟨rfl, hb1⟩
      have HB1 : Hid (Below w.heap.size w w1) := HB.out.trans (hb1.mono HB.out.size)
      clear hb1 q0 q1 q2
      by_cases hc : 100 < x.s.size
      · have HC : Hid (decide (100 < (x.s.size : Int)) = true) := Lib.hid (decide_eq_true (by omega))
        rw [HC.out]
        go_wp2
        go_ret
        exact ⟨.inr ⟨k, rfl, x, List.mem_of_getElem? HX.out, hc⟩, HB1.out⟩
      · have HC : Hid (decide (100 < (x.s.size : Int)) = false) := Lib.hid (decide_eq_false (by omega))
        rw [HC.out]
        go_wp2
        go_roundw
        · refine ⟨k + 1, by omega, by go_num, fun y hy => ?_, HB1.out⟩
          rw [List.take_add_one, HX.out] at hy
          rcases List.mem_append.1 hy with hy | hy
          · exact HNE.out y hy
          · obtain rfl : y = x := by simpa using hy
            omega
        · simp [RowKit.intOf]; omega
    · go_wp2
      go_ret
      exact ⟨.inl ⟨rfl, fun x hx => HNE.out x (by rw [List.take_of_length_le (by rw [← HN.out]; omega)]; exact hx)⟩, HB.out⟩

/-- What can be held. -/
def lightD (l : List DabA) : Prop := l.length ≤ 60 ∧ ∀ x ∈ l, x.s.size ≤ 100
set_option maxRecDepth 100000 in
theorem light_any (v : Value) (l : List DabA) (w : World) (hv : IsDabAs w v l) :
    Calls Try.prog 7 #[v] w fun e w' => ((e = .returned (.bool true) ∧ lightD l) ∨ (e = .returned (.bool false) ∧ ¬ lightD l)) ∧ Below w.heap.size w w' := by
  have HV := Lib.hid hv
  obtain ⟨a1, c1, rfl, _⟩ := hv.form
  by_cases h60 : l.length ≤ 60
  · have h60' : (l.length : Int) ≤ 60 := by omega
    have HI := Lib.hid (idxl_any (.slice a1 l.length c1) l w hv (by omega))
    have H60 := Lib.hid h60
    have HCF : Hid (Calls Try.prog 26 #[.slice a1 l.length c1, .func (.func 27) #[] #[]] w fun e w' => ((e = .returned (.bool false) ∧ ∀ x ∈ l, x.s.size ≤ 100) ∨ (e = .returned (.bool true) ∧ ∃ x ∈ l, 100 < x.s.size)) ∧ Below w.heap.size w w') := Lib.hid (by
      go_enter Try.func26, Try.ntmps26
      go_wp2_with fail
      refine HI.out.mono ?_
      rintro r w' ⟨⟨rfl, h⟩ | ⟨p, rfl, h⟩, hb⟩
      · have H := Lib.hid h
        clear h
        go_wp2
        go_ret
        exact ⟨.inl ⟨rfl, H.out⟩, hb⟩
      · have H := Lib.hid h
        clear h
        have b1 : decide ((0 : Int) ≤ (p : Int)) = true := by simp
        go_wp2
        go_ret
        exact ⟨.inr ⟨rfl, H.out⟩, hb⟩)
    clear hv h60 HI
    go_enter Try.func7, Try.ntmps7
    go_wp2_with fail
    refine HCF.out.mono ?_
    rintro r w' ⟨⟨rfl, h⟩ | ⟨rfl, h⟩, hb⟩
    · have H := Lib.hid h
      clear h
      go_wp2_with fail
      go_ret
      exact ⟨.inl ⟨rfl, H60.out, H.out⟩, hb⟩
    · have H := Lib.hid h
      clear h
      go_wp2_with fail
      go_ret
      refine ⟨.inr ⟨rfl, fun hc => ?_⟩, hb⟩
      obtain ⟨x, hx, hs⟩ := H.out
      have := hc.2 x hx
      omega
  · have h60' : ¬ (l.length : Int) ≤ 60 := by omega
    clear hv HV
    go_enter Try.func7, Try.ntmps7
    go_wp2_with fail
    go_ret
    exact ⟨.inr ⟨rfl, fun hc => h60 hc.1⟩, Below.refl _ _⟩

/-- What is done, as the plain mathematics has it. -/
def dabP (t : DabA) : Dab := ⟨(pickN t.at_ 8).toNat, t.s.data.toList, t.syncs⟩
def spunD (l : List DabA) : Dsk := dSpun (dNew 8) (l.map dabP)
theorem spun_snoc {l : List DabA} {k : Nat} {t : DabA} (h : l[k]? = some t) : spunD (l.take (k + 1)) = dDab (spunD (l.take k)) (dabP t) := by
  unfold spunD
  rw [List.take_add_one, h]
  simp only [Option.toList_some, List.map_append, List.map_cons, List.map_nil]
  rw [dSpun_app]
  rfl
theorem spunD_n (l : List DabA) : (spunD l).n = 8 := dSpun_n _ _
theorem spunD_ok (l : List DabA) : DskOk (spunD l) := dSpun_ok _ (dNew_ok 8)
theorem dab_put {X : Dsk} {t : DabA} (hn : X.n = 8) (hs : t.syncs = false) : dPut X (pickN t.at_ 8) t.s.data.toList = dDab X (dabP t) := by
  have hp := pickN_pos (a := t.at_) (n := 8) (by decide)
  have e : dDab X (dabP t) = if 32 < t.s.data.toList.length then X else dWr X (pickN t.at_ 8).toNat t.s.data.toList := by
    unfold dDab dabP
    simp only [hs]
    rfl
  rw [e]
  unfold dPut dwE
  rw [hn, if_neg (show ¬ (pickN t.at_ 8 < 0 ∨ ((8 : Nat) : Int) ≤ pickN t.at_ 8) by omega)]
  by_cases h : 32 < t.s.data.toList.length
  · rw [if_pos h, if_pos h]; rfl
  · rw [if_neg h, if_neg h]; rfl

set_option maxRecDepth 100000 in
set_option maxHeartbeats 2000000 in
theorem spun_any (v : Value) (l : List DabA) (w : World) (hv : IsDabAs w v l) (hl : l.length ≤ 1000000) :
    Calls Try.prog 8 #[v] w fun e w' => ∃ d L M, e = .returned (.pointer (some ⟨d, 0, none⟩)) ∧ DskIn w' d L M (spunD l) ∧ Below w.heap.size w w' ∧ w.heap.size ≤ d ∧ w.heap.size ≤ L ∧ w.heap.size ≤ M := by
  obtain ⟨a1, c1, rfl, f1⟩ := hv.form
  have F1 := Lib.hid f1
  obtain ⟨n, hn⟩ : ∃ n, n = l.length := ⟨_, rfl⟩
  rw [← hn] at hl ⊢
  have HN := Lib.hid hn
  clear f1 hn hv
  go_enter Try.func8, Try.ntmps8
  go_wp2_with fail
  refine (new_good 8 w (by decide)).mono ?_
  rintro r w1 ⟨d, L, M, rfl, hD, hB, hd, hL, hM⟩
  have HD1 := Lib.hid hD
  have HB1 := Lib.hid hB
  have HF : Hid (w.heap.size ≤ d ∧ w.heap.size ≤ L ∧ w.heap.size ≤ M) := Lib.hid ⟨hd, hL, hM⟩
  clear hD hB hd hL hM
  go_wp2_with fail
  go_loopw [19] (fun i wr => ∃ k : Nat, k ≤ n ∧ i = .int .i64 k ∧ DskIn wr d L M (spunD (l.take k)) ∧ Below w.heap.size w wr) (fun i _ => n - (RowKit.intOf i).toNat)
  case atStart => exact ⟨0, Nat.zero_le _, rfl, by rw [List.take_zero]; exact HD1.out, HB1.out⟩
  case round =>
    obtain ⟨k, hk, rfl, hD, hbel⟩ := hrel
    have HB := Lib.hid hbel
    have HD := Lib.hid hD
    clear hbel hD
    by_cases hlt : k < n
    · obtain ⟨x, hx⟩ : ∃ x, l[k]? = some x := ⟨l[k]'(by rw [← HN.out]; exact hlt), List.getElem?_eq_getElem _⟩
      obtain ⟨b1, o1, rfl, hb1, p0, p1, p2⟩ := F1.out k x hx
      have q0 := (HB.out.cell (p := ⟨b1, _, none⟩) hb1).trans p0
      have q1 := (HB.out.cell (p := ⟨b1, _, none⟩) hb1).trans p1
      have q2 := (HB.out.cell (p := ⟨b1, _, none⟩) hb1).trans p2
      have HX := Lib.hid (spun_snoc hx)
      have HPU := Lib.hid (dab_put (X := spunD (l.take k)) (t := x) (spunD_n _))
      have HSY : Hid (x.syncs = true → dSync (spunD (l.take k)) = dDab (spunD (l.take k)) (dabP x)) := Lib.hid (fun h => by unfold dDab dabP; simp only [h]; rfl)
      clear p0 p1 p2 hx
      obtain ⟨At, S, sy⟩ := x
      dsimp only at q0 q1 q2
      cases sy with
      | true =>
        go_wp2_with fail
        refine (sync_any d L M _ _ (HD.out.alloc _)).mono ?_
        rintro r w2 ⟨rfl, hd2, hb2⟩
        have HD2 := Lib.hid hd2
        have HB2 : Hid (Below w.heap.size w w2) := Lib.hid (But.on ((HB.out.alloc HB.out.size _)) hb2 (by have := HB.out.size; simp; omega) (fun i hi => by rcases hi with rfl | rfl; exact HF.out.2.1; exact HF.out.2.2))
        clear hd2 hb2 q0 q1 q2
        go_wp2
        go_roundw
        · exact ⟨k + 1, by omega, by go_num, by rw [HX.out, ← HSY.out (by first | trivial | rfl)]; exact HD2.out, HB2.out⟩
        · simp [RowKit.intOf]; omega
      | false =>
        have HPK : Hid (∀ W, Calls Try.prog 10 #[.int .i64 At, .int .i64 8] W fun e w' => e = .returned (.int .i64 (pickN At 8)) ∧ W = w') := Lib.hid (fun W => pick_any At 8 W (by decide) (by decide))
        have HWR : Hid (∀ W, DskIn W d L M (spunD (l.take k)) → Calls Try.prog 22 #[.pointer (some ⟨d, 0, none⟩), .int .i64 (pickN At 8), .string S] W fun e w' => e = .returned (errV (dwE (spunD (l.take k)).n (pickN At 8) S.data.toList.length)) ∧ DskIn w' d L M (dPut (spunD (l.take k)) (pickN At 8) S.data.toList) ∧ But (dF L M) W w') := Lib.hid (fun W h => dwrite_any d L M _ _ S W h)
        generalize pickN At 8 = pk at HPK HWR HPU
        have HPU2 := Lib.hid (HPU.out (by first | trivial | rfl))
        dsimp only at HPU2
        clear HPU
        go_wp2_with fail
        have HDA : Hid (DskIn (wr.alloc (.cells #[.int .i64 At, .string S, .bool false] 30)) d L M (spunD (l.take k))) := Lib.hid (HD.out.alloc _)
        have HBA : Hid (Below w.heap.size w (wr.alloc (.cells #[.int .i64 At, .string S, .bool false] 30))) := Lib.hid (HB.out.alloc HB.out.size _)
        have hra := heap_alloc_new wr (.cells #[.int .i64 At, .string S, .bool false] 30)
        have HRA := Lib.hid hra
        have HLT : Hid (wr.heap.size < (wr.alloc (.cells #[.int .i64 At, .string S, .bool false] 30)).heap.size) := Lib.hid (Array.getElem?_eq_some_iff.1 hra).1
        have HLW : Hid (L < wr.heap.size ∧ M < wr.heap.size) := Lib.hid ⟨HD.out.lL, HD.out.lM⟩
        have HSZ : Hid (w.heap.size ≤ (wr.alloc (.cells #[.int .i64 At, .string S, .bool false] 30)).heap.size) := Lib.hid HBA.out.size
        clear hra
        generalize wr.alloc (.cells #[.int .i64 At, .string S, .bool false] 30) = W at HDA HBA HRA HLT HSZ ⊢
        generalize wr.heap.size = B at HRA HLT HLW ⊢
        have c0 : W.cell? ⟨B, 0, none⟩ = some (.int .i64 At) ∧ W.cell? ⟨B, 1, none⟩ = some (.string S) := ⟨cell_of_row _ _ 0 _ _ _ HRA.out, cell_of_row _ _ 1 _ _ _ HRA.out⟩
        clear q0 q1 q2
        go_region_held3 (fun w2 => w2.cell? ⟨B, 0, none⟩ = some (.int .i64 At) ∧ w2.cell? ⟨B, 1, none⟩ = some (.string S)) (first | exact c0 | exact c2) (first | (go_at_call 10; ((with_reducible refine (HPK.out _).mono ?_); rintro r w2 ⟨rfl, rfl⟩)) | (go_at_call 22; ((with_reducible refine (HWR.out _ HDA.out.drew).mono ?_); rintro r w3 ⟨rfl, hd3, hb3⟩; have HD3 := Lib.hid hd3; have HB3 : Hid (Below w.heap.size w w3) := Lib.hid (But.on HBA.out.drew hb3 HSZ.out (fun i hi => by rcases hi with rfl | rfl; exact HF.out.2.1; exact HF.out.2.2)); have c2 : w3.cell? ⟨B, 0, none⟩ = some (.int .i64 At) ∧ w3.cell? ⟨B, 1, none⟩ = some (.string S) := ⟨(hb3.cell (p := ⟨B, 0, none⟩) HLT.out (fun hi => by rcases hi with hi | hi <;> (have := HLW.out; simp only at hi; omega))).trans c0.1, (hb3.cell (p := ⟨B, 1, none⟩) HLT.out (fun hi => by rcases hi with hi | hi <;> (have := HLW.out; simp only at hi; omega))).trans c0.2⟩; clear hd3 hb3)) | fail)
        go_wp2
        go_roundw
        · exact ⟨k + 1, by omega, by go_num, by rw [HX.out, ← HPU2.out]; exact HD3.out, HB3.out⟩
        · simp [RowKit.intOf]; omega
    · obtain rfl : k = n := by omega
      have HD2 : Hid (DskIn wr d L M (spunD l)) := Lib.hid (by have := HD.out; rwa [List.take_of_length_le (by rw [HN.out]; exact Nat.le_refl _)] at this)
      go_wp2
      go_ret
      exact ⟨d, L, M, rfl, HD2.out, HB.out, HF.out.1, HF.out.2.1, HF.out.2.2⟩

/-- What a disk's eight sectors have. -/
def allL (X : Dsk) : List ByteArray := (List.range 8).map (fun i => ⟨(X.cur i).toArray⟩)
set_option maxRecDepth 100000 in
set_option maxHeartbeats 2000000 in
theorem all_any (d L M : Nat) (X : Dsk) (w : World) (h : DskIn w d L M X) (hn : X.n = 8) :
    Calls Try.prog 11 #[.pointer (some ⟨d, 0, none⟩)] w fun e w' => ∃ v, e = .returned v ∧ ownsS w' w.heap.size v (allL X) ∧ Below w.heap.size w w' := by
  have HD := Lib.hid h
  have HN := Lib.hid hn
  clear h hn
  go_enter Try.func11, Try.ntmps11
  go_wp2_with fail
  go_loopw [3, 7] (fun v i wr => ∃ k : Nat, k ≤ 8 ∧ i = .int .i64 k ∧ ownsS wr w.heap.size v ((allL X).take k) ∧ Below w.heap.size w wr) (fun _ i _ => 8 - (RowKit.intOf i).toNat)
  case atStart => exact ⟨0, Nat.zero_le _, rfl, by rw [List.take_zero]; exact ownsS_nil _ _, Below.refl _ _⟩
  case round =>
    obtain ⟨k, hk, rfl, ho, hbel⟩ := hrel
    have HB := Lib.hid hbel
    have HO := Lib.hid ho
    clear hbel ho
    by_cases hlt : k < 8
    · have HRD := Lib.hid (dread_ok d L M X k wr (HD.out.below HB.out) (by rw [HN.out]; exact hlt))
      have HX : Hid ((allL X).take (k + 1) = (allL X).take k ++ [⟨(X.cur k).toArray⟩]) := Lib.hid (by
        rw [List.take_add_one]
        unfold allL
        rw [List.getElem?_map, List.getElem?_range hlt]
        rfl)
      have HL : Hid (((allL X).take k).length + 1 ≤ 8796093022208) := Lib.hid (by rw [List.length_take]; omega)
      generalize (allL X).take k = acc at HO HX HL
      go_wp2_with fail
      refine HRD.out.mono ?_
      rintro r w1 ⟨rfl, hb1⟩
      have HB1 := Lib.hid (HB.out.trans (hb1.mono HB.out.size))
      have HO1 := Lib.hid (HO.out.below hb1)
      clear hb1
      generalize (⟨(X.cur k).toArray⟩ : ByteArray) = T at HX ⊢
      go_wp2_with (at_builtin; refine wpList_append_str rfl _ _ rfl w.heap.size _ acc rfl (HO1.out.alloc _) ⟨w1.heap.size, 0, none⟩ _ rfl T (by simp [Addr.add]) HL.out (by have := HB1.out.size; simp; omega) ?_; intro g cap w3 ho3 hg3; have HO3 := Lib.hid ho3; have HB3 : Hid (Below w.heap.size w w3) := Lib.hid ((HB1.out.alloc HB1.out.size _).grown hg3 (by have := HB1.out.size; simp; omega) (fun g hg => (HO.out.lt g hg).1)); clear ho3 hg3)
      go_roundw
      · exact ⟨k + 1, by omega, by go_num, by rw [HX.out]; exact HO3.out, HB3.out⟩
      · simp [RowKit.intOf]; omega
    · obtain rfl : k = 8 := by omega
      have HO2 : Hid (ownsS wr w.heap.size u3 (allL X)) := Lib.hid (by have := HO.out; rwa [List.take_of_length_le (by unfold allL; simp)] at this)
      go_wp2
      go_ret
      exact ⟨_, rfl, HO2.out, HB.out⟩
end Go.Proofs.Ytjnbnkaocoamlaa
