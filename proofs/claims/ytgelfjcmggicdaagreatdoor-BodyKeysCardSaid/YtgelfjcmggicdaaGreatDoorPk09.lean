import Derived.Test.YtgelfjcmggicdaaGreatDoorPk07
import Derived.Test.YtgelfjcmggicdaaGreatDoorPk04
import Derived.Deep.Slices
import Derived.Deep.Fields
import Derived.ChangeSame
import Derived.SizedLaws
import Derived.ProofKit
import Derived.Test.YtgelfjcmggicdaaGreatDoorPk08
import Derived.Deep.RegionHeld3
/-
  Bodies, plain: what is so of a right batch's body; what is written is read; what is read is written so.
-/
namespace Go.Proofs.YtgelfjcmggicdaaGreatDoor
open Go.RowKit

theorem late_time {q x : Wr} (h : late q x) : q.time ≤ x.time := by
  unfold late cI orF cmpF wid at h
  simp only at h
  split at h <;> split at h <;> simp_all <;> omega

/-- What is so of each write of a right batch. -/
def wGood (h : List Ent) (x : Wr) : Prop := wE x = 0 ∧ placeF h x.rep < h.length
theorem wE_facts {x : Wr} (h : wE x = 0) : 1 ≤ x.kind ∧ x.kind ≤ 4 ∧ 1 ≤ x.time ∧ x.time ≤ 1099511627776 ∧ 0 ≤ x.rep ∧ x.rep ≤ 200 ∧ x.key.size ≤ 40 ∧ x.value.size ≤ 300 ∧ (tailL x).length ≤ 320 ∧ WrOk x := by
  obtain ⟨h1, h2, h3, h4, h5, h6⟩ := wriE_good h
  unfold idOk at h2
  have h2 := of_decide_eq_true h2
  have hn := numB_size h6
  have hs := spanB_le h4
  have hv : (valB x.kind x.value).size ≤ 310 := by unfold valB; split <;> first | exact hs | exact Nat.zero_le _
  have ht : (tailL x).length ≤ 320 := by unfold tailL; rw [← size_data, back_t]; omega
  have hN : -9223372036854775808 ≤ x.n ∧ x.n ≤ 9223372036854775807 := by
    unfold fitsN at h6
    by_cases k3 : x.kind = 3
    · rw [if_pos k3] at h6; simp only [Bool.and_eq_true, decide_eq_true_eq] at h6; omega
    · rw [if_neg k3] at h6
      by_cases k4 : x.kind = 4
      · rw [if_pos k4] at h6; simp only [Bool.and_eq_true, decide_eq_true_eq] at h6; omega
      · have : x.n = 0 := by
          by_cases hN : x.n = 0
          · exact hN
          · exact absurd (.inr ⟨hN, by unfold hasN; rw [decide_eq_false k3, decide_eq_false k4]; rfl⟩) h5
        omega
  exact ⟨by omega, by omega, h2.1, h2.2.1, h2.2.2.1, h2.2.2.2, h3, h4, ht, hN.1, hN.2, by omega, by omega⟩
theorem place_bound {h : List Ent} {r : Int} {e : Ent} (he : e ∈ h) (hr : e.rep = r) : placeF h r < h.length := List.findIdx_lt_length_of_exists ⟨e, he, by simpa using hr⟩

/-- Writes, each no earlier than the one ahead, with their keys' numbers. -/
def okRow (h : List Ent) (T : List ByteArray) : Int → List Wr → List Nat → Prop
  | _, [], N => N = []
  | _, _ :: _, [] => False
  | ahead, x :: r, n :: N => (wE x = 0 ∧ ahead ≤ x.time ∧ placeF h x.rep < h.length ∧ T[n]? = some x.key) ∧ okRow h T x.time r N
theorem okRow_of (h : List Ent) (l : List Wr) : ∀ (T0 : List ByteArray) (ahead : Int), (∀ x ∈ l, wE x = 0 ∧ ahead ≤ x.time ∧ placeF h x.rep < h.length) → l.Pairwise late → okRow h (tabK T0 (keysW l)) ahead l (atK T0 (keysW l)) := by
  induction l with
  | nil => intro T0 ahead _ _; rfl
  | cons x r ih =>
    intro T0 ahead hx hp
    rw [List.pairwise_cons] at hp
    obtain ⟨h1, h2, h3⟩ := hx x List.mem_cons_self
    refine ⟨⟨h1, h2, h3, ?_⟩, ih (addK T0 x.key) x.time (fun y hy => ⟨(hx y (List.mem_cons_of_mem _ hy)).1, late_time (hp.1 y hy), (hx y (List.mem_cons_of_mem _ hy)).2.2⟩) hp.2⟩
    have hpre : addK T0 x.key <+: tabK T0 (keysW (x :: r)) := tabK_pre (keysW r) (addK T0 x.key)
    have hat : (addK T0 x.key)[idxB T0 x.key]? = some x.key := by
      by_cases hm : x.key ∈ T0
      · rw [addK_in hm]; exact idxB_get hm
      · rw [addK_new hm, idxB_new hm]; simp
    obtain ⟨t, ht⟩ := hpre
    rw [← ht, List.getElem?_append_left (List.getElem?_eq_some_iff.1 hat).1]
    exact hat
theorem right_okRow {f h : List Ent} {l : List Wr} (hr : rightB f h l) : okRow h (tabK [] (keysW l)) 0 l (atK [] (keysW l)) := by
  rw [rightB_iff] at hr
  obtain ⟨⟨g1, g2, g3⟩, g4, g5, g6⟩ := hr
  refine okRow_of h l [] 0 (fun x hx => ?_) g6
  obtain ⟨h1, h2⟩ := g5 x hx
  have hf := wE_facts h1
  refine ⟨h1, by omega, ?_⟩
  unfold wiF wid at h2
  simp only [Bool.and_eq_true, decide_eq_true_eq] at h2
  obtain ⟨e, he, h3, _⟩ := ofF_has (l := h) (x := x.rep) (by omega)
  exact place_bound he h3
theorem okRow_len {h : List Ent} {T : List ByteArray} (l : List Wr) : ∀ (ahead : Int) (N : List Nat), okRow h T ahead l N → N.length = l.length := by
  induction l with
  | nil => intro ahead N hN; have hN : N = [] := hN; rw [hN]; rfl
  | cons x r ih =>
    intro ahead N hN
    cases N with
    | nil => exact absurd hN id
    | cons n N => rw [List.length_cons, List.length_cons, ih _ _ hN.2]

theorem oneB_len {h : List Ent} {ahead : Int} {x : Wr} {n : Nat} (hw : wE x = 0) (hp : placeF h x.rep ≤ 1000) (h0 : 0 ≤ ahead) (hn : n ≤ 1000) : (oneB h ahead x n).length ≤ 351 := by
  have hf := wE_facts hw
  have h1 := putL_le10 (n := (x.time - ahead).toNat) (by omega)
  have h2 := putL_le10 (n := placeF h x.rep) (by omega)
  have h3 := putL_le10 (n := n) (by omega)
  unfold oneB
  simp only [List.length_append, List.length_cons, List.length_nil]
  omega
theorem rowB_len {h : List Ent} {T : List ByteArray} (hh : h.length ≤ 1000) (hT : T.length ≤ 1000) (l : List Wr) : ∀ (ahead : Int) (N : List Nat), 0 ≤ ahead → okRow h T ahead l N → (rowB h ahead l N).length ≤ l.length * 351 := by
  induction l with
  | nil => intro ahead N _ _; simp [rowB]
  | cons x r ih =>
    intro ahead N h0 hN
    cases N with
    | nil => exact absurd hN id
    | cons n N =>
      obtain ⟨⟨h1, h2, h3, h4⟩, h5⟩ := hN
      have hf := wE_facts h1
      have hn : n < T.length := (List.getElem?_eq_some_iff.1 h4).1
      have := oneB_len (n := n) h1 (show placeF h x.rep ≤ 1000 by omega) h0 (by omega)
      have := ih x.time N (by omega) h5
      rw [rowB_cons, List.length_append, List.length_cons]
      omega
theorem textsB_len {T : List ByteArray} (h : ∀ k ∈ T, k.size ≤ 40) : (textsB T).length ≤ T.length * 50 := by
  induction T with
  | nil => simp [textsB]
  | cons k T ih =>
    have h1 := h k List.mem_cons_self
    have h2 := ih fun y hy => h y (List.mem_cons_of_mem _ hy)
    have h3 := putL_le10 (n := k.data.toList.length) (by rw [← size_data]; omega)
    rw [textsB_cons, List.length_append, List.length_cons]
    unfold spanL
    rw [List.length_append, ← size_data]
    rw [← size_data] at h3
    omega
theorem tab_keys {l : List Wr} {k : ByteArray} (hk : k ∈ tabK [] (keysW l)) : ∃ x ∈ l, x.key = k := by
  rcases tabK_sub _ _ _ hk with h | h
  · cases h
  · exact List.mem_map.1 h
theorem tab_small {f h : List Ent} {l : List Wr} (hr : rightB f h l) : (∀ k ∈ tabK [] (keysW l), k.size ≤ 40) ∧ (tabK [] (keysW l)).length ≤ 60 := by
  rw [rightB_iff] at hr
  refine ⟨fun k hk => ?_, ?_⟩
  · obtain ⟨x, hx, rfl⟩ := tab_keys hk
    have := wE_facts (hr.2.2.1 x hx).1
    omega
  · have := tabK_len (keysW l) []
    unfold keysW at this ⊢
    rw [List.length_map] at this
    have := hr.2.1
    simp at *
    omega
theorem vwriteF_right {l : List Ent} (h : rightV l) : vwriteF l = vwriteL l := by unfold vwriteF; rw [if_pos ((vright_ok l).2 h)]

/-! What is written is read. -/
theorem drop_put {s : List UInt8} {a k : Nat} {p : List UInt8} (hp : p = (s.drop a).take k) : s.drop a = p ++ s.drop (a + k) := by
  rw [hp, ← List.drop_drop]; exact (List.take_append_drop _ _).symm
theorem drop_app {s x y : List UInt8} {a : Nat} (h : s.drop a = x ++ y) : s.drop (a + x.length) = y := by
  rw [← List.drop_drop, h, List.drop_left]
theorem fill_tail {T R K : Int} {key val : ByteArray} {N : Int} (h : wriE T R K key val N = 0) (more : List UInt8) :
    fillE T R K key ((tailB K val N).data.toList ++ more) = 0 ∧ fillN K ((tailB K val N).data.toList ++ more) = (tailB K val N).data.toList.length ∧ fillV K ((tailB K val N).data.toList ++ more) = val ∧ (getN K ((tailB K val N).data.toList ++ more)).1 = N := by
  have h1 : getN K ((tailB K val N).data.toList ++ more) = (N, (numB K N).size, 0) := by
    have := back_n h ((valB K val).data.toList ++ more)
    unfold tailB; rw [app_data, List.append_assoc]; exact this
  have h2 : getV K (((tailB K val N).data.toList ++ more).drop (numB K N).size) = (val.data.toList, (valB K val).size, 0) := by rw [back_d]; exact back_v h more
  have hv : (⟨val.data.toList.toArray⟩ : ByteArray) = val := rfl
  refine ⟨?_, ?_, ?_, ?_⟩
  · rw [fillE_w h1 h2, hv]; exact h
  · unfold fillN; rw [h1]; simp only; rw [h2]; simp only; rw [← size_data, back_t]
  · unfold fillV; rw [h1]; simp only; rw [h2]
  · rw [h1]

theorem kindF_cons (c : UInt8) (r : List UInt8) : kindF (c :: r) = if c.toNat < 1 ∨ 4 < c.toNat then (0, 0, 1) else (c.toNat, 1, 0) := rfl
theorem unOne_write {s more : List UInt8} {h : List Ent} {T : List ByteArray} {a n : Nat} {ahead : Int} {x : Wr} (hs : s.drop a = oneB h ahead x n ++ more) (h0 : 0 ≤ ahead) (hw : wE x = 0) (ha : ahead ≤ x.time) (hp : placeF h x.rep < h.length) (hh : h.length ≤ 1000) (hT : T.length ≤ 1000) (hn : T[n]? = some x.key) :
    unOne s h T a ahead = .inr (a + (oneB h ahead x n).length, x, n) := by
  have hf := wE_facts hw
  obtain ⟨hnl, hnk⟩ := List.getElem?_eq_some_iff.1 hn
  obtain ⟨p, hpe⟩ : ∃ p, placeF h x.rep = p := ⟨_, rfl⟩
  have hget : ∃ e, h[p]? = some e ∧ e.rep = x.rep := by
    have h2 := List.findIdx_getElem (p := fun e : Ent => decide (e.rep = x.rep)) (w := hp)
    refine ⟨_, by rw [← hpe]; exact List.getElem?_eq_getElem hp, ?_⟩
    show (h[h.findIdx (fun e => decide (e.rep = x.rep))]'hp).rep = x.rep
    simpa using h2
  obtain ⟨e, he, her⟩ := hget
  obtain ⟨t, ht⟩ : ∃ t, (x.time - ahead).toNat = t := ⟨_, rfl⟩
  have htt : ahead + (t : Int) = x.time := by omega
  unfold oneB at hs ⊢
  rw [hpe, ht] at hs ⊢
  rw [hpe] at hp
  have hk0 : kindF (s.drop a) = (x.kind.toNat, 1, 0) := by
    rw [hs]
    have hc : (UInt8.ofNat x.kind.toNat).toNat = x.kind.toNat := toNat_ofNat_lt (by omega)
    refine (kindF_cons (UInt8.ofNat x.kind.toNat) _).trans ?_
    rw [hc, if_neg (by omega)]
  have e1 : s.drop (a + 1) = putL t ++ (putL p ++ (putL n ++ (tailL x ++ more))) := by
    have := drop_app (x := [UInt8.ofNat x.kind.toNat]) (y := putL t ++ (putL p ++ (putL n ++ (tailL x ++ more)))) (by rw [hs]; simp)
    simpa using this
  have e2 := drop_app e1
  have e3 := drop_app e2
  have e4 := drop_app e3
  have k1 : intL (s.drop (a + 1)) (1099511627776 - ahead) = (t, (putL t).length, 0) := by rw [e1]; exact intL_put _ _ _ (by omega) (by omega)
  have k2 : intL (s.drop (a + 1 + (putL t).length)) ((h.length : Int) - 1) = (p, (putL p).length, 0) := by rw [e2]; exact intL_put _ _ _ (by omega) (by omega)
  have k3 : intL (s.drop (a + 1 + (putL t).length + (putL p).length)) ((T.length : Int) - 1) = (n, (putL n).length, 0) := by rw [e3]; exact intL_put _ _ _ (by omega) (by omega)
  have hrep : (h.getD p ⟨0, 0⟩).rep = x.rep := by rw [List.getD_eq_getElem?_getD, he]; exact her
  have hkey : T.getD n ⟨#[]⟩ = x.key := by rw [List.getD_eq_getElem?_getD, hn]; rfl
  have hkd : ((x.kind.toNat : Nat) : Int) = x.kind := by omega
  obtain ⟨f1, f2, f3, f4⟩ := fill_tail (T := x.time) (R := x.rep) (key := x.key) hw more
  have hok := unOne_ok (s := s) (h := h) (T := T) hk0 k1 k2 k3 (by rw [hrep, hkey, htt, hkd, e4]; exact f1)
  rw [hrep, hkey, htt, hkd, e4] at hok
  unfold tailL at hok ⊢
  rw [f2, f3, f4] at hok
  rw [hok]
  simp only [List.length_append, List.length_cons, List.length_nil]
  refine congrArg Sum.inr (Prod.ext ?_ rfl)
  simp only
  omega
theorem unW_write {s : List UInt8} {h : List Ent} {T : List ByteArray} (hh : h.length ≤ 1000) (hT : T.length ≤ 1000) (l : List Wr) : ∀ (a : Nat) (ahead : Int) (N : List Nat) (W0 : List Wr) (N0 : List Nat) (more : List UInt8), 0 ≤ ahead → okRow h T ahead l N → s.drop a = rowB h ahead l N ++ more →
    unW s h T l.length a ahead W0 N0 = .inr (a + (rowB h ahead l N).length, W0 ++ l, N0 ++ N) := by
  induction l with
  | nil => intro a ahead N W0 N0 more _ hN _; have hN : N = [] := hN; subst hN; simp [unW, rowB]
  | cons x r ih =>
    intro a ahead N W0 N0 more h0 hN hs
    cases N with
    | nil => exact absurd hN id
    | cons n N =>
      obtain ⟨⟨h1, h2, h3, h4⟩, h5⟩ := hN
      have hf := wE_facts h1
      rw [rowB_cons, List.append_assoc] at hs
      have hone := unOne_write hs h0 h1 h2 h3 hh hT h4
      rw [List.length_cons, unW_ok hone, ih _ x.time N _ _ more (by omega) h5 (drop_app hs), rowB_cons, List.length_append]
      simp [Nat.add_assoc]
theorem unT_write {s : List UInt8} (T : List ByteArray) : ∀ (a : Nat) (T0 : List ByteArray) (more : List UInt8), (∀ k ∈ T, k.size ≤ 2000) → s.drop a = textsB T ++ more → unT s T.length a T0 = .inr (a + (textsB T).length, T0 ++ T) := by
  induction T with
  | nil => intro a T0 more _ _; simp [unT, textsB]
  | cons k T ih =>
    intro a T0 more hk hs
    rw [textsB_cons, List.append_assoc] at hs
    have hg : getS (s.drop a) = (k.data.toList, (spanL k.data.toList).length, 0) := by rw [hs]; exact wspan _ _ (by rw [← size_data]; exact hk k List.mem_cons_self)
    rw [List.length_cons, unT_ok hg, ih _ _ more (fun y hy => hk y (List.mem_cons_of_mem _ hy)) (drop_app hs), textsB_cons, List.length_append]
    simp [Nat.add_assoc]

/-- What is written is read, and nothing may stand behind it. -/
theorem unb_body {f h : List Ent} {l : List Wr} (hr : rightB f h l) (more : List UInt8) (hl : (bodyL f h l ++ more).length ≤ 20000) :
    unbF (bodyL f h l ++ more) = if more = [] then .inr (f, h, l) else .inl (3, ((bodyL f h l).length : Int)) := by
  have hb := rightB_iff.1 hr
  obtain ⟨⟨g1, g2, g3⟩, g4, g5, g6⟩ := hb
  obtain ⟨t1, t2⟩ := tab_small hr
  have hrow := right_okRow hr
  obtain ⟨s, hs⟩ : ∃ s, bodyL f h l ++ more = s := ⟨_, rfl⟩
  obtain ⟨T, hT⟩ : ∃ T, tabK [] (keysW l) = T := ⟨_, rfl⟩
  obtain ⟨N, hN⟩ : ∃ N, atK [] (keysW l) = N := ⟨_, rfl⟩
  have hlist := listF_table (keysW l)
  rw [hT, hN] at hlist
  have hbl : bodyL f h l = vwriteL f ++ (vwriteL h ++ (putL T.length ++ (textsB T ++ (putL l.length ++ rowB h 0 l N)))) := by unfold bodyL; rw [hT, hN]; simp
  rw [hT] at t1 t2
  rw [hT, hN] at hrow
  have hlen : (bodyL f h l).length = (vwriteL f).length + (vwriteL h).length + (putL T.length).length + (textsB T).length + (putL l.length).length + (rowB h 0 l N).length := by rw [hbl]; simp only [List.length_append]; omega
  have hsl : s.length = (bodyL f h l).length + more.length := by rw [← hs, List.length_append]
  rw [hs] at hl ⊢
  have hs0 : s = vwriteL f ++ (vwriteL h ++ (putL T.length ++ (textsB T ++ (putL l.length ++ (rowB h 0 l N ++ more))))) := by rw [← hs, hbl]; simp
  have e0 : s.drop 0 = vwriteL f ++ (vwriteL h ++ (putL T.length ++ (textsB T ++ (putL l.length ++ (rowB h 0 l N ++ more))))) := by rw [List.drop_zero]; exact hs0
  have e1 := drop_app e0
  rw [Nat.zero_add] at e1
  have e2 := drop_app e1
  have e3 := drop_app e2
  have e4 := drop_app e3
  have e5 := drop_app e4
  have k1 : vreadF s = (0, (vwriteL f).length, f) := by rw [hs0]; exact vread_write g1 _
  have k2 : vreadF (s.drop (vwriteL f).length) = (0, (vwriteL h).length, h) := by rw [e1]; exact vread_write g2 _
  have k3 : intL (s.drop ((vwriteL f).length + (vwriteL h).length)) 60 = (T.length, (putL T.length).length, 0) := by rw [e2]; exact intL_put _ _ _ (by omega) (by omega)
  have k4 := unT_write T _ [] _ (fun k hk => Nat.le_trans (t1 k hk) (by decide)) e3
  have k5 : intL (s.drop ((vwriteL f).length + (vwriteL h).length + (putL T.length).length + (textsB T).length)) 60 = (l.length, (putL l.length).length, 0) := by rw [e4]; exact intL_put _ _ _ (by omega) (by omega)
  have hh16 := g2.1
  have k6 := unW_write (h := h) (T := T) (by omega) (by omega) l _ 0 N [] [] more (Int.le_refl _) hrow e5
  simp only [List.nil_append] at k4 k6
  rw [unb_rest (by omega) k1 k2 k3 k4 k5 k6, ← hlen]
  by_cases hm : more = []
  · subst hm
    have hr0 : (batF f h l).1 = 0 := hr
    rw [if_pos rfl, if_neg (by rw [hsl]; simp), hlist]
    simp only [ne_eq, not_true_eq_false, if_false, hr0]
  · have : 0 < more.length := List.length_pos_iff.2 hm
    rw [if_neg hm, if_pos (by omega)]
end Go.Proofs.YtgelfjcmggicdaaGreatDoor
/-
  A []api.Entry that comes in: what the row's own reading says of it; an id that comes in.
-/
namespace Go.Proofs.YtgelfjcmggicdaaGreatDoor
open Go.ChangeShapes Go.WideShapes Go.ChangeAt Go.RowKit

theorem laidOutE : laidOutB Tryz.prog = true := by kernel_rfl
instance : Inhabited Ent := ⟨⟨0, 0⟩⟩

/-- A struct of two fields, each of one cell, read. -/
theorem two_fields {H : Type} {enc : TypeId × Value → H} {P : Program} {W : World} {spare : Nat → Bool} {held : Bool} {n : Nat} {t : TypeId} {cs : List Value} {x : DataW H × List MemPlace} {p q : Field}
    (ht : P.underlying t = some (.struct #[p, q])) (h1 : Go.Deep.oneCellFields P #[p, q] = true) (h3 : P.cellsOf t = 2)
    (h : DataW.trod enc P W 0 spare held n t cs = some x) :
    ∃ (a b : Value) (u v : DataW H × List MemPlace) (m : Nat), cs = [a, b] ∧ x.1 = .agg [u.1, v.1] ∧
      DataW.trod enc P W 0 spare held m p.type [a] = some u ∧ DataW.trod enc P W 0 spare held m q.type [b] = some v := by
  obtain ⟨xs, m, _, hx, hl, hxl, hf⟩ := DataW.trod_struct ht h
  rw [h3] at hl
  have hxl' : xs.length = 2 := hxl
  match cs, hl with
  | [a, b], _ =>
    match xs, hxl' with
    | [u, v], _ =>
      have one := Go.Deep.hone_of h1
      have g0 := hf 0 p rfl
      have g1 := hf 1 q rfl
      rw [(one 0 p rfl).1, (one 0 p rfl).2] at g0
      rw [(one 1 q rfl).1, (one 1 q rfl).2] at g1
      exact ⟨a, b, u, v, m, rfl, by rw [hx]; rfl, g0, g1⟩

/-- How an entry reads. -/
def entD {H : Type} (t : Ent) : DataW H := .agg [.lit (.int .i64 t.rep), .lit (.int .i64 t.time)]
/-- One element. -/
theorem ent_elem {H : Type} {enc : TypeId × Value → H} {W : World} {spare : Nat → Bool} {held : Bool} {n : Nat} {cs : List Value} {x : DataW H × List MemPlace}
    (h : DataW.trod enc Tryz.prog W 0 spare held n 72 cs = some x) : ∃ t : Ent, cs = entC t := by
  obtain ⟨a, b, u, v, m, rfl, hx, g0, g1⟩ := two_fields Tryz.underlying72 (by kernel_rfl) (by kernel_rfl) h
  obtain ⟨k, e0, f0, _⟩ := DataW.trod_int Tryz.underlying3 g0
  obtain ⟨z, e1, f1, _⟩ := DataW.trod_int Tryz.underlying3 g1
  have e0' : a = .int .i64 k := List.head_eq_of_cons_eq e0
  have e1' : b = .int .i64 z := List.head_eq_of_cons_eq e1
  exact ⟨⟨k, z⟩, by rw [e0', e1']; rfl⟩

theorem entsArg {H : Type} {enc : TypeId × Value → H} {W : World} {spare : Nat → Bool} {held : Bool} {a0 : Option Addr} {len0 cap0 fuel : Nat} {d : DataW H} {p : List MemPlace}
    (hf : DataW.trod enc Tryz.prog W 0 spare held fuel 22 [.slice a0 len0 cap0] = some (d, p)) :
    ∃ l : List Ent, IsEnts W (.slice a0 len0 cap0) l ∧ l.length = len0 ∧ len0 ≤ cap0 ∧ cap0 ≤ maxLen := by
  rcases Go.Deep.open_slice Tryz.underlying22 hf with ⟨hcs, _⟩ | ⟨a, ln, cp, m, n, D, Pl, hcs, _, hl, hm, hmm, hx, hi⟩
  · simp only [List.cons.injEq, Value.slice.injEq, and_true] at hcs
    obtain ⟨rfl, rfl, rfl⟩ := hcs
    exact ⟨[], .inl ⟨_, _, rfl, rfl⟩, rfl, Nat.le_refl _, by unfold maxLen; omega⟩
  · simp only [List.cons.injEq, Value.slice.injEq, and_true] at hcs
    obtain ⟨rfl, rfl, rfl⟩ := hcs
    have h3 : Tryz.prog.cellsOf 72 = 2 := by kernel_rfl
    rw [h3] at hi
    have hle : len0 ≤ m := by rw [hmm]; split <;> omega
    obtain ⟨f, hfc⟩ := Go.Deep.choose_lt (n := len0) (p := fun i (t : Ent) => W.cells? 0 (a.add (i * 2)) 2 = some (entC t)) (fun i hlt => by
      obtain ⟨cs', hc, ht⟩ := hi i (by omega)
      obtain ⟨t, h1⟩ := ent_elem ht
      exact ⟨t, by rw [hc, h1]⟩)
    have hll : ((List.range len0).map f).length = len0 := by simp
    refine ⟨(List.range len0).map f, ?_, hll, hl, hm⟩
    by_cases hz : len0 = 0
    · subst hz; exact .inl ⟨_, _, rfl, rfl⟩
    · obtain ⟨b, off, spot⟩ := a
      have hcell : ∀ i, i < len0 → ∀ r, r < 2 → W.cell? ((⟨b, off, spot⟩ : Addr).add (i * 2 + r)) = (entC (f i))[r]? := fun i hlt r hr => by
        obtain ⟨_, _, hat⟩ := World.cells?_some (hfc i hlt)
        rw [← Go.Deep.add_add]; exact hat r hr
      have h0 := hcell 0 (by omega) 0 (by omega)
      have hspot : spot = none := by simpa [Addr.add] using World.cell?_spot (h0.trans rfl)
      subst hspot
      refine .inr ⟨b, off, cap0, by rw [hll], ⟨by rw [hll]; omega, by rw [hll]; omega⟩, block_lt_of_cell (h0.trans rfl), fun j u hj => ?_⟩
      have hjl : j < len0 * 2 := by rw [← hll, ← entsC_len]; exact (List.getElem?_eq_some_iff.1 hj).1
      have hc := hcell (j / 2) (by omega) (j % 2) (Nat.mod_lt _ (by decide))
      have hti : ((List.range len0).map f)[j / 2]? = some (f (j / 2)) := by
        rw [List.getElem?_map, List.getElem?_range (by omega)]; rfl
      have h5 := entsC_at _ _ (j % 2) _ hti (Nat.mod_lt _ (by decide))
      rw [show j / 2 * 2 + j % 2 = j by omega] at hc h5
      rw [← h5, hj] at hc
      rw [← hc]
      refine congrArg W.cell? ?_
      unfold Addr.add
      split
      · rename_i e; rw [e]; rfl
      · rfl
end Go.Proofs.YtgelfjcmggicdaaGreatDoor
/-
  An api.Batch that comes in: what the row's own reading and reach say of it.
-/
namespace Go.Proofs.YtgelfjcmggicdaaGreatDoor
open Go.ChangeShapes Go.WideShapes Go.ChangeAt Go.RowKit

/-- A struct of three fields, each of one cell, read. -/
theorem three_fieldsB {H : Type} {enc : TypeId × Value → H} {P : Program} {W : World} {spare : Nat → Bool} {held : Bool} {n : Nat} {t : TypeId} {cs : List Value} {x : DataW H × List MemPlace} {p q r : Field}
    (ht : P.underlying t = some (.struct #[p, q, r])) (h1 : Go.Deep.oneCellFields P #[p, q, r] = true) (h3 : P.cellsOf t = 3)
    (h : DataW.trod enc P W 0 spare held n t cs = some x) :
    ∃ (a b c : Value) (u v w : DataW H × List MemPlace) (m : Nat), cs = [a, b, c] ∧ x.1 = .agg [u.1, v.1, w.1] ∧
      DataW.trod enc P W 0 spare held m p.type [a] = some u ∧ DataW.trod enc P W 0 spare held m q.type [b] = some v ∧ DataW.trod enc P W 0 spare held m r.type [c] = some w := by
  obtain ⟨xs, m, _, hx, hl, hxl, hf⟩ := DataW.trod_struct ht h
  rw [h3] at hl
  have hxl' : xs.length = 3 := hxl
  match cs, hl with
  | [a, b, c], _ =>
    match xs, hxl' with
    | [u, v, w], _ =>
      have one := Go.Deep.hone_of h1
      have g0 := hf 0 p rfl
      have g1 := hf 1 q rfl
      have g2 := hf 2 r rfl
      rw [(one 0 p rfl).1, (one 0 p rfl).2] at g0
      rw [(one 1 q rfl).1, (one 1 q rfl).2] at g1
      rw [(one 2 r rfl).1, (one 2 r rfl).2] at g2
      exact ⟨a, b, c, u, v, w, m, rfl, by rw [hx]; rfl, g0, g1, g2⟩
theorem slice_of {H : Type} {enc : TypeId × Value → H} {P : Program} {W : World} {spare : Nat → Bool} {held : Bool} {n : Nat} {t e : TypeId} {v : Value} {x : DataW H × List MemPlace}
    (ht : P.underlying t = some (.slice e)) (h : DataW.trod enc P W 0 spare held n t [v] = some x) : ∃ a n c, v = .slice a n c := by
  rcases Go.Deep.open_slice ht h with ⟨hcs, _⟩ | ⟨a, ln, cp, m, n, D, Pl, hcs, _⟩
  · exact ⟨_, _, _, List.head_eq_of_cons_eq hcs⟩
  · exact ⟨_, _, _, List.head_eq_of_cons_eq hcs⟩

theorem wr_weight {H : Type} (ds : List (DataW H)) (t : Wr) (h : wrD t ∈ ds) : t.key.size ∈ DataW.weightsAll Tryz.prog 52 ds ∧ t.value.size ∈ DataW.weightsAll Tryz.prog 52 ds := by
  induction ds with
  | nil => cases h
  | cons d r ih =>
    rw [DataW.weightsAll]
    rcases List.mem_cons.1 h with h | h
    · have g : t.key.size ∈ DataW.weights Tryz.prog 52 (wrD t : DataW H) ∧ t.value.size ∈ DataW.weights Tryz.prog 52 (wrD t : DataW H) := by
        constructor
        · unfold wrD
          rw [DataW.weights, Tryz.underlying52]
          simp [DataW.weightsEach, DataW.weights, Tryz.underlying50]
        · unfold wrD
          rw [DataW.weights, Tryz.underlying52]
          simp [DataW.weightsEach, DataW.weights, Tryz.underlying50]
      rw [← h]
      exact ⟨List.mem_append_left _ g.1, List.mem_append_left _ g.2⟩
    · exact ⟨List.mem_append_right _ (ih h).1, List.mem_append_right _ (ih h).2⟩

theorem wrsArg {H : Type} {enc : TypeId × Value → H} {W : World} {spare : Nat → Bool} {held : Bool} {a0 : Option Addr} {len0 cap0 fuel : Nat} {d : DataW H} {p : List MemPlace}
    (hf : DataW.trod enc Tryz.prog W 0 spare held fuel 23 [.slice a0 len0 cap0] = some (d, p))
    (hw : ∀ x ∈ DataW.weights Tryz.prog 23 d, x ≤ reachBytes) :
    ∃ l : List Wr, IsWrs W (.slice a0 len0 cap0) l ∧ l.length = len0 ∧ len0 ≤ cap0 ∧ cap0 ≤ maxLen ∧ ∀ t ∈ l, WrOk t := by
  rcases Go.Deep.open_slice Tryz.underlying23 hf with ⟨hcs, _⟩ | ⟨a, ln, cp, m, n, D, Pl, hcs, _, hl, hm, hmm, hx, hi⟩
  · simp only [List.cons.injEq, Value.slice.injEq, and_true] at hcs
    obtain ⟨rfl, rfl, rfl⟩ := hcs
    exact ⟨[], .inl ⟨_, _, rfl, rfl⟩, rfl, Nat.le_refl _, by unfold maxLen; omega, fun t h => by cases h⟩
  · simp only [List.cons.injEq, Value.slice.injEq, and_true] at hcs
    obtain ⟨rfl, rfl, rfl⟩ := hcs
    have h3 : Tryz.prog.cellsOf 52 = 6 := by kernel_rfl
    rw [h3] at hi
    have hle : len0 ≤ m := by rw [hmm]; split <;> omega
    obtain ⟨f, hfc⟩ := Go.Deep.choose_lt (n := len0) (p := fun i (t : Wr) => W.cells? 0 (a.add (i * 6)) 6 = some (wrC t) ∧ D i = wrD t ∧ -9223372036854775808 ≤ t.n ∧ t.n ≤ 9223372036854775807) (fun i hlt => by
      obtain ⟨cs', hc, ht⟩ := hi i (by omega)
      obtain ⟨t, h1, h2, h4⟩ := wr_elem ht
      exact ⟨t, by rw [hc, h1], h2, h4⟩)
    have hll : ((List.range len0).map f).length = len0 := by simp
    refine ⟨(List.range len0).map f, ?_, hll, hl, hm, fun t ht => ?_⟩
    · by_cases hz : len0 = 0
      · subst hz; exact .inl ⟨_, _, rfl, rfl⟩
      · obtain ⟨b, off, spot⟩ := a
        have hcell : ∀ i, i < len0 → ∀ r, r < 6 → W.cell? ((⟨b, off, spot⟩ : Addr).add (i * 6 + r)) = (wrC (f i))[r]? := fun i hlt r hr => by
          obtain ⟨_, _, hat⟩ := World.cells?_some (hfc i hlt).1
          rw [← Go.Deep.add_add]; exact hat r hr
        have h0 := hcell 0 (by omega) 0 (by omega)
        have hspot : spot = none := by simpa [Addr.add] using World.cell?_spot (h0.trans rfl)
        subst hspot
        refine .inr ⟨b, off, cap0, by rw [hll], by rw [hll]; omega, block_lt_of_cell (h0.trans rfl), fun j u hj => ?_⟩
        have hjl : j < len0 * 6 := by rw [← hll, ← wrsC_len]; exact (List.getElem?_eq_some_iff.1 hj).1
        have hc := hcell (j / 6) (by omega) (j % 6) (Nat.mod_lt _ (by decide))
        have hti : ((List.range len0).map f)[j / 6]? = some (f (j / 6)) := by
          rw [List.getElem?_map, List.getElem?_range (by omega)]; rfl
        have h5 := wrsC_at _ _ (j % 6) _ hti (Nat.mod_lt _ (by decide))
        rw [show j / 6 * 6 + j % 6 = j by omega] at hc h5
        rw [← h5, hj] at hc
        rw [← hc]
        refine congrArg W.cell? ?_
        unfold Addr.add
        split
        · rename_i e; rw [e]; rfl
        · rfl
    · obtain ⟨i, hir, hit⟩ := List.mem_map.1 ht
      have hil := List.mem_range.1 hir
      have hd : d = .slice ((List.range len0).map D) ((List.range (m - len0)).map fun j => D (len0 + j)) := (Prod.mk.inj hx).1
      have hmem : wrD t ∈ (List.range len0).map D := List.mem_map.2 ⟨i, hir, by rw [(hfc i hil).2.1, hit]⟩
      have hwt := wr_weight _ t hmem
      have hin : ∀ y ∈ DataW.weightsAll Tryz.prog 52 ((List.range len0).map D), y ≤ reachBytes := fun y hy => hw y (by
        rw [hd, DataW.weights, Tryz.underlying23]
        exact List.mem_cons_of_mem _ (List.mem_append_left _ hy))
      have g1 := hin _ hwt.1
      have g2 := hin _ hwt.2
      unfold reachBytes at g1 g2
      have hn := (hfc i hil).2.2
      rw [hit] at hn
      exact ⟨hn.1, hn.2, by omega, by omega⟩

/-- What is known of a batch that came in. -/
def BatIs (W : World) (vf vh vw : Value) (f h : List Ent) (l : List Wr) : Prop :=
  IsEnts W vf f ∧ IsEnts W vh h ∧ IsWrs W vw l ∧ f.length ≤ 9223372036854775807 ∧ h.length ≤ 9223372036854775807 ∧ l.length ≤ 9223372036854775807 ∧ ∀ t ∈ l, WrOk t
theorem BatIs.below {w w' : World} {vf vh vw : Value} {f h : List Ent} {l : List Wr} (hx : BatIs w vf vh vw f h l) (hb : Below w.heap.size w w') : BatIs w' vf vh vw f h l :=
  ⟨hx.1.below hb, hx.2.1.below hb, hx.2.2.1.below hb, hx.2.2.2⟩
theorem BatIs.alloc {w : World} {vf vh vw : Value} {f h : List Ent} {l : List Wr} (hx : BatIs w vf vh vw f h l) (o : Obj) : BatIs (w.alloc o) vf vh vw f h l :=
  hx.below ((Below.refl _ _).alloc (Nat.le_refl _) o)

set_option maxRecDepth 100000 in
theorem batArg {H : Type} {enc : TypeId × Value → H} {W : World} {spare : Nat → Bool} {held : Bool} {v : Value} {d : DataW H} {p : List MemPlace} {base : Nat}
    (hv : Value.okWide Tryz.prog W .any base 25 v) (h : DataW.Trod enc Tryz.prog W 0 spare held 25 v d p)
    (hw : ∀ x ∈ DataW.weights Tryz.prog 25 d, x ≤ reachBytes) : ∃ vf vh vw f h l, v = .agg #[vf, vh, vw] ∧ BatIs W vf vh vw f h l := by
  obtain ⟨cs, rfl, hsz⟩ := okWide_struct Tryz.underlying25 hv
  obtain ⟨fuel, hf⟩ := h
  obtain ⟨vf, vh, vw, ⟨df, pf⟩, ⟨dh, ph⟩, ⟨dw, pw⟩, m, hcs, hd, g0, g1, g2⟩ := three_fieldsB Tryz.underlying25 (by kernel_rfl) (by kernel_rfl) hf
  obtain ⟨af, nf, cf, rfl⟩ := slice_of Tryz.underlying22 g0
  obtain ⟨ah, nh, ch, rfl⟩ := slice_of Tryz.underlying22 g1
  obtain ⟨aw, nw, cw, rfl⟩ := slice_of Tryz.underlying23 g2
  obtain ⟨f, if_, lf, cf1, mf⟩ := entsArg g0
  obtain ⟨h, ih_, lh, ch1, mh⟩ := entsArg g1
  obtain rfl : d = .agg [df, dh, dw] := hd
  obtain ⟨l, iw, lw, cw1, mw, ow⟩ := wrsArg g2 (fun x hx => hw x (by
    rw [DataW.weights, Tryz.underlying25]
    show x ∈ DataW.weightsEach _ (_ :: _ :: _ :: _) (_ :: _ :: _ :: _)
    rw [DataW.weightsEach, DataW.weightsEach, DataW.weightsEach]
    exact List.mem_append_right _ (List.mem_append_right _ (List.mem_append_left _ hx))))
  unfold maxLen at mf mh mw
  refine ⟨_, _, _, f, h, l, ?_, if_, ih_, iw, by omega, by omega, by omega, ow⟩
  have : cs.toList = [.slice af nf cf, .slice ah nh ch, .slice aw nw cw] := by simpa [Value.cells] using hcs
  rw [← Array.toArray_toList (xs := cs), this]
end Go.Proofs.YtgelfjcmggicdaaGreatDoor
/-
  Plain: how big a batch is, as the laws reckon.
-/
namespace Go.Proofs.YtgelfjcmggicdaaGreatDoor
open Go.RowKit

def bigS : Int → List Wr → Int
  | x, [] => x
  | x, t :: r => bigS (IntKind.i64.wrap (x + IntKind.i64.wrap ((IntKind.i64.wrap ((t.key.size : Int) + (t.value.size : Int))).tdiv 8))) r
def bigV (lim : Int) (f h : List Ent) (l : List Wr) : Bool := decide (lim < bigS (IntKind.i64.wrap (IntKind.i64.wrap ((f.length : Int) + (h.length : Int)) + (l.length : Int))) l)
theorem bigS_drop {l : List Wr} {k : Nat} {t : Wr} (x : Int) (ht : l[k]? = some t) : bigS x (l.drop k) = bigS (IntKind.i64.wrap (x + IntKind.i64.wrap ((IntKind.i64.wrap ((t.key.size : Int) + (t.value.size : Int))).tdiv 8))) (l.drop (k + 1)) := by
  obtain ⟨hk, h⟩ := List.getElem?_eq_some_iff.1 ht
  rw [List.drop_eq_getElem_cons hk, h]; rfl
end Go.Proofs.YtgelfjcmggicdaaGreatDoor
/-
  The contract of ident.Within.
-/
namespace Go.Proofs.YtgelfjcmggicdaaGreatDoor
open Go.RowKit

set_option maxRecDepth 100000 in
set_option maxHeartbeats 2000000 in
theorem within_any (x1 x2 : Int) (vf vh : Value) (f h : List Ent) (w : World) (hf : IsEnts w vf f) (hh : IsEnts w vh h) (hlf : f.length ≤ 9223372036854775807) (hlh : h.length ≤ 9223372036854775807) (b : Bool) (hb : wiF (x1, x2) f h = b) :
    Calls Tryz.prog 112 #[.agg #[.int .i64 x1, .int .i64 x2], vf, vh] w fun e w' => e = .returned (.bool b) ∧ Below w.heap.size w w' := by
  subst hb
  obtain ⟨p, hp⟩ : ∃ p, ofF f x2 = p := ⟨_, rfl⟩
  obtain ⟨q, hq⟩ : ∃ q, ofF h x2 = q := ⟨_, rfl⟩
  have HP := Lib.hid hp
  have HQ := Lib.hid hq
  have HLF := Lib.hid hlf
  have HLH := Lib.hid hlh
  have HF : Hid (IsEnts (w.alloc (.cells #[.int .i64 x1, .int .i64 x2] 50)).drew vf f) := Lib.hid ((hf.alloc _).drewN 1)
  have HH : Hid (IsEnts (w.alloc (.cells #[.int .i64 x1, .int .i64 x2] 50)).drew vh h) := Lib.hid ((hh.alloc _).drewN 1)
  have c0 : (w.alloc (.cells #[.int .i64 x1, .int .i64 x2] 50)).cell? ⟨w.heap.size, 0, none⟩ = some (.int .i64 x1) ∧ (w.alloc (.cells #[.int .i64 x1, .int .i64 x2] 50)).cell? ⟨w.heap.size, 1, none⟩ = some (.int .i64 x2) := by simp
  have hval : wiF (x1, x2) f h = (decide (p < x1) && decide (x1 ≤ q)) := by unfold wiF; simp only; rw [hp, hq]
  have HB0 : Hid (Below w.heap.size w (w.alloc (.cells #[.int .i64 x1, .int .i64 x2] 50)).drew) := Lib.hid ((Below.refl _ _).alloc (Nat.le_refl _) _).drew
  by_cases h1 : p < x1
  · by_cases h2 : x1 ≤ q
    · have HW : Hid (wiF (x1, x2) f h = true) := Lib.hid (by rw [hval, decide_eq_true h1, decide_eq_true h2]; rfl)
      clear hf hh hp hq hlf hlh hval
      rw [HW.out]
      go_enter Tryz.func112, Tryz.ntmps112
      go_wp2
      go_region_held3 (fun w' => w'.cell? ⟨w.heap.size, 0, none⟩ = some (.int .i64 x1) ∧ w'.cell? ⟨w.heap.size, 1, none⟩ = some (.int .i64 x2)) (first | exact c0 | exact c2 | exact c3) (first
        | (go_at_call 66; ((with_reducible refine (vofI_as vf f x2 p _ HF.out HLF.out HP.out).mono ?_); rintro r w2 ⟨rfl, hb2⟩; have c2 : w2.cell? ⟨w.heap.size, 0, none⟩ = some (.int .i64 x1) ∧ w2.cell? ⟨w.heap.size, 1, none⟩ = some (.int .i64 x2) := ⟨(hb2.cell (by simp)).trans c0.1, (hb2.cell (by simp)).trans c0.2⟩; have HB2 : Hid (Below w.heap.size w w2) := (HB0.out.trans (hb2.mono (by simp))); have HH2 := Lib.hid (HH.out.below hb2); have HZ2 : Hid (w.heap.size < w2.heap.size) := (Nat.lt_of_lt_of_le (by simp) hb2.size); clear hb2))
        | (go_at_call 66; ((with_reducible refine (vofI_as vh h x2 q w2 HH2.out HLH.out HQ.out).mono ?_); rintro r w3 ⟨rfl, hb3⟩; have c3 : w3.cell? ⟨w.heap.size, 0, none⟩ = some (.int .i64 x1) ∧ w3.cell? ⟨w.heap.size, 1, none⟩ = some (.int .i64 x2) := ⟨(hb3.cell HZ2.out).trans c2.1, (hb3.cell HZ2.out).trans c2.2⟩; have HB3 : Hid (Below w.heap.size w w3) := (HB2.out.trans (hb3.mono HB2.out.size)); clear hb3)))
      go_wp2
      go_ret
      exact ⟨rfl, HB3.out⟩
    · have HW : Hid (wiF (x1, x2) f h = false) := Lib.hid (by rw [hval, decide_eq_true h1, decide_eq_false h2]; rfl)
      have d7 : decide (x1 ≤ q) = false := decide_eq_false h2
      clear hf hh hp hq hlf hlh hval h2
      rw [HW.out]
      go_enter Tryz.func112, Tryz.ntmps112
      go_wp2
      go_region_held3 (fun w' => w'.cell? ⟨w.heap.size, 0, none⟩ = some (.int .i64 x1) ∧ w'.cell? ⟨w.heap.size, 1, none⟩ = some (.int .i64 x2)) (first | exact c0 | exact c2 | exact c3) (first
        | (go_at_call 66; ((with_reducible refine (vofI_as vf f x2 p _ HF.out HLF.out HP.out).mono ?_); rintro r w2 ⟨rfl, hb2⟩; have c2 : w2.cell? ⟨w.heap.size, 0, none⟩ = some (.int .i64 x1) ∧ w2.cell? ⟨w.heap.size, 1, none⟩ = some (.int .i64 x2) := ⟨(hb2.cell (by simp)).trans c0.1, (hb2.cell (by simp)).trans c0.2⟩; have HB2 : Hid (Below w.heap.size w w2) := (HB0.out.trans (hb2.mono (by simp))); have HH2 := Lib.hid (HH.out.below hb2); have HZ2 : Hid (w.heap.size < w2.heap.size) := (Nat.lt_of_lt_of_le (by simp) hb2.size); clear hb2))
        | (go_at_call 66; ((with_reducible refine (vofI_as vh h x2 q w2 HH2.out HLH.out HQ.out).mono ?_); rintro r w3 ⟨rfl, hb3⟩; have c3 : w3.cell? ⟨w.heap.size, 0, none⟩ = some (.int .i64 x1) ∧ w3.cell? ⟨w.heap.size, 1, none⟩ = some (.int .i64 x2) := ⟨(hb3.cell HZ2.out).trans c2.1, (hb3.cell HZ2.out).trans c2.2⟩; have HB3 : Hid (Below w.heap.size w w3) := (HB2.out.trans (hb3.mono HB2.out.size)); clear hb3)))
      go_wp2
      go_ret
      exact ⟨rfl, HB3.out⟩
  · have HW : Hid (wiF (x1, x2) f h = false) := Lib.hid (by rw [hval, decide_eq_false h1]; rfl)
    have d6 : decide (p < x1) = false := decide_eq_false h1
    clear hf hh hp hq hlf hlh hval h1
    rw [HW.out]
    go_enter Tryz.func112, Tryz.ntmps112
    go_wp2
    refine wp_region_held_drew (S := fun w' => w'.cell? ⟨w.heap.size, 0, none⟩ = some (.int .i64 x1) ∧ w'.cell? ⟨w.heap.size, 1, none⟩ = some (.int .i64 x2)) (by kernel_rfl) c0 (fun hHeld => ?_)
    refine wpAnyH_take (i := 0) (v := ?v0) rfl (by kernel_rfl) (by kernel_rfl) (by kernel_rfl) (fun _ _ _ h => h) (Or.inl ⟨by rfl, ?h0⟩) (by assumption) ?r0
    case h0 => (intro W hSw; (try dsimp only at hSw); go_simp; all_goals (with_reducible rfl))
    try simp only [Act.put, List.getElem_toArray, List.getElem_cons_zero, List.setIfInBounds_toArray, List.set_cons_zero, List.set_cons_succ]
    refine wpAnyH_take (i := 1) (v := ?v1) rfl (by kernel_rfl) (by kernel_rfl) (by kernel_rfl) (fun _ _ _ h => h) (Or.inl ⟨by rfl, ?h1⟩) (by assumption) ?r1
    case h1 => (intro W hSw; (try dsimp only at hSw); go_simp; all_goals (with_reducible rfl))
    try simp only [Act.put, List.getElem_toArray, List.getElem_cons_zero, List.getElem_cons_succ, List.setIfInBounds_toArray, List.set_cons_zero, List.set_cons_succ]
    refine wpAnyH_take (i := 2) (v := ?v2) rfl (by kernel_rfl) (by kernel_rfl) (by kernel_rfl) (fun _ _ _ h => h) (Or.inl ⟨by rfl, ?h2⟩) (by assumption) ?r2
    case h2 => (intro W hSw; (try dsimp only at hSw); go_simp; all_goals (with_reducible rfl))
    try simp only [Act.put, List.getElem_toArray, List.getElem_cons_zero, List.getElem_cons_succ, List.setIfInBounds_toArray, List.set_cons_zero, List.set_cons_succ]
    refine wpAnyH_take (i := 3) (v := ?v3) rfl (by kernel_rfl) (by kernel_rfl) (by kernel_rfl) (fun _ _ _ h => h) (Or.inl ⟨by rfl, ?h3⟩) (by assumption) ?r3
    case h3 => (intro W hSw; (try dsimp only at hSw); go_simp; all_goals (with_reducible rfl))
    try simp only [Act.put, List.getElem_toArray, List.getElem_cons_zero, List.getElem_cons_succ, List.setIfInBounds_toArray, List.set_cons_zero, List.set_cons_succ]
    refine wpAnyH_take (i := 4) (v := ?v4) rfl (by kernel_rfl) (by kernel_rfl) (by kernel_rfl) (fun _ _ _ h => h) (Or.inl ⟨by rfl, ?h4⟩) (by assumption) ?r4
    case h4 => (intro W hSw; (try dsimp only at hSw); go_simp; all_goals (with_reducible rfl))
    try simp only [Act.put, List.getElem_toArray, List.getElem_cons_zero, List.getElem_cons_succ, List.setIfInBounds_toArray, List.set_cons_zero, List.set_cons_succ]
    refine wpAnyH_ready (rs := [5]) (by kernel_rfl) (by simp) ?_
    refine AllReadyH.cons rfl (fun K hK => ?_) AllReadyH.nil
    go_simp
    refine (vofI_as vf f x2 p _ HF.out HLF.out HP.out).mono ?_
    rintro r w2 ⟨rfl, hb2⟩
    have c2 : w2.cell? ⟨w.heap.size, 0, none⟩ = some (.int .i64 x1) ∧ w2.cell? ⟨w.heap.size, 1, none⟩ = some (.int .i64 x2) := ⟨(hb2.cell (by simp)).trans c0.1, (hb2.cell (by simp)).trans c0.2⟩
    have HB2 : Hid (Below w.heap.size w w2) := HB0.out.trans (hb2.mono (by simp))
    clear hb2
    refine hK.out _ _ c2 (fun hHeld2 => ?_)
    clear hK hHeld
    try simp only [Act.put, List.getElem_toArray, List.getElem_cons_zero, List.getElem_cons_succ, List.setIfInBounds_toArray, List.set_cons_zero, List.set_cons_succ]
    refine wpAnyH_take (i := 6) (v := ?v6) rfl (by kernel_rfl) (by kernel_rfl) (by kernel_rfl) (fun _ _ _ h => h) (Or.inl ⟨by rfl, ?h6⟩) (by assumption) ?r6
    case h6 => (intro W hSw; (try dsimp only at hSw); go_simp; all_goals (with_reducible rfl))
    try simp only [Act.put, List.getElem_toArray, List.getElem_cons_zero, List.getElem_cons_succ, List.setIfInBounds_toArray, List.set_cons_zero, List.set_cons_succ]
    refine wpAnyH_take (i := 7) (v := ?v7) rfl (by kernel_rfl) (by kernel_rfl) (by kernel_rfl) (fun _ _ _ h => h) (Or.inl ⟨by rfl, ?h7⟩) (by assumption) ?r7
    case h7 => (intro W hSw; (try dsimp only at hSw); go_simp; all_goals (with_reducible rfl))
    try simp only [Act.put, List.getElem_toArray, List.getElem_cons_zero, List.getElem_cons_succ, List.setIfInBounds_toArray, List.set_cons_zero, List.set_cons_succ]
    refine wpAnyH_take (i := 8) (v := undef) rfl (by kernel_rfl) (by kernel_rfl) (by kernel_rfl) (fun _ _ _ h => h) (Or.inr ⟨by rfl, rfl⟩) (by assumption) ?_
    try simp only [Act.put, List.getElem_toArray, List.getElem_cons_zero, List.getElem_cons_succ, List.setIfInBounds_toArray, List.set_cons_zero, List.set_cons_succ]
    refine wpAnyH_take (i := 10) (v := undef) rfl (by kernel_rfl) (by kernel_rfl) (by kernel_rfl) (fun _ _ _ h => h) (Or.inr ⟨by rfl, rfl⟩) (by assumption) ?_
    try simp only [Act.put, List.getElem_toArray, List.getElem_cons_zero, List.getElem_cons_succ, List.setIfInBounds_toArray, List.set_cons_zero, List.set_cons_succ]
    refine wpAnyH_take (i := 11) (v := undef) rfl (by kernel_rfl) (by kernel_rfl) (by kernel_rfl) (fun _ _ _ h => h) (Or.inr ⟨by rfl, rfl⟩) (by assumption) ?_
    try simp only [Act.put, List.getElem_toArray, List.getElem_cons_zero, List.getElem_cons_succ, List.setIfInBounds_toArray, List.set_cons_zero, List.set_cons_succ]
    refine wpAnyH_take (i := 9) (v := undef) rfl (by kernel_rfl) (by kernel_rfl) (by kernel_rfl) (fun _ _ _ h => h) (Or.inr ⟨by rfl, rfl⟩) (by assumption) ?_
    try simp only [Act.put, List.getElem_toArray, List.getElem_cons_zero, List.getElem_cons_succ, List.setIfInBounds_toArray, List.set_cons_zero, List.set_cons_succ]
    refine wpAnyH_take (i := 12) (v := undef) rfl (by kernel_rfl) (by kernel_rfl) (by kernel_rfl) (fun _ _ _ h => h) (Or.inr ⟨by rfl, rfl⟩) (by assumption) ?_
    try simp only [Act.put, List.getElem_toArray, List.getElem_cons_zero, List.getElem_cons_succ, List.setIfInBounds_toArray, List.set_cons_zero, List.set_cons_succ]
    refine wpAnyH_take (i := 13) (v := undef) rfl (by kernel_rfl) (by kernel_rfl) (by kernel_rfl) (fun _ _ _ h => h) (Or.inr ⟨by rfl, rfl⟩) (by assumption) ?_
    try simp only [Act.put, List.getElem_toArray, List.getElem_cons_zero, List.getElem_cons_succ, List.setIfInBounds_toArray, List.set_cons_zero, List.set_cons_succ]
    refine wpAnyH_take (i := 14) (v := undef) rfl (by kernel_rfl) (by kernel_rfl) (by kernel_rfl) (fun _ _ _ h => h) (Or.inr ⟨by rfl, rfl⟩) (by assumption) ?_
    try simp only [Act.put, List.getElem_toArray, List.getElem_cons_zero, List.getElem_cons_succ, List.setIfInBounds_toArray, List.set_cons_zero, List.set_cons_succ]
    refine wpAnyH_take (i := 15) (v := ?v15) rfl (by kernel_rfl) (by kernel_rfl) (by kernel_rfl) (fun _ _ _ h => h) (Or.inl ⟨by rfl, ?h15⟩) (by assumption) ?r15
    case h15 => (intro W hSw; (try dsimp only at hSw); go_simp; all_goals (with_reducible rfl))
    try simp only [Act.put, List.getElem_toArray, List.getElem_cons_zero, List.getElem_cons_succ, List.setIfInBounds_toArray, List.set_cons_zero, List.set_cons_succ]
    refine wpAnyH_take (i := 16) (v := ?v16) rfl (by kernel_rfl) (by kernel_rfl) (by kernel_rfl) (fun _ _ _ h => h) (Or.inl ⟨by rfl, ?h16⟩) (by assumption) ?r16
    case h16 => (intro W hSw; (try dsimp only at hSw); go_simp; all_goals (with_reducible rfl))
    try simp only [Act.put, List.getElem_toArray, List.getElem_cons_zero, List.getElem_cons_succ, List.setIfInBounds_toArray, List.set_cons_zero, List.set_cons_succ]
    refine wpAnyH_done (by kernel_rfl) ?_ _
    go_wp2
    go_ret
    exact ⟨rfl, HB2.out⟩
end Go.Proofs.YtgelfjcmggicdaaGreatDoor
/-
  The fact that the laws of ids ask first ('ordered').
-/
namespace Go.Proofs.YtgelfjcmggicdaaGreatDoor
open Go.RowKit

theorem within_as (x1 x2 : Int) (vf vh : Value) (f h : List Ent) (b : Bool) (w : World) (hf : IsEnts w vf f) (hh : IsEnts w vh h) (hlf : f.length ≤ 9223372036854775807) (hlh : h.length ≤ 9223372036854775807) (hb : wiF (x1, x2) f h = b) :
    Calls Tryz.prog 112 #[.agg #[.int .i64 x1, .int .i64 x2], vf, vh] w fun e w' => e = .returned (.bool b) ∧ Below w.heap.size w w' := within_any x1 x2 vf vh f h w hf hh hlf hlh b hb

def okE : List Ent := [⟨1, 2⟩]
theorem okE_is (w : World) : IsEnts (w.alloc (.cells #[.int .i64 1, .int .i64 2] 72)) (.slice (some ⟨w.heap.size, 0, none⟩) 1 1) okE := by
  refine .inr ⟨w.heap.size, 0, 1, rfl, ⟨by decide, by decide⟩, by simp, fun j u hj => ?_⟩
  rw [Nat.zero_add, cell_of_row _ _ j _ _ (0, 0) (heap_alloc_new w _)]
  have e : entsC okE = [.int .i64 1, .int .i64 2] := rfl
  rw [e] at hj
  simpa using hj

end Go.Proofs.YtgelfjcmggicdaaGreatDoor
/-
  The contracts of vector.Covers and of the laws' 'few'.
-/
namespace Go.Proofs.YtgelfjcmggicdaaGreatDoor
open Go.RowKit

theorem vof_as (v : Value) (l : List Ent) (x y : Int) (w : World) (hv : IsEnts w v l) (hl : l.length ≤ 9223372036854775807) (h : ofF l x = y) :
    Calls Tryz.prog 66 #[v, .int .i64 x] w fun r w' => r = .returned (.int .i64 y) ∧ Below w.heap.size w w' := by
  subst h; exact vof_any v l x w hv hl
theorem covA_drop {a b : List Ent} {k : Nat} {t : Ent} (h : b[k]? = some t) : covA a (b.drop k) = (decide (t.time ≤ ofF a t.rep) && covA a (b.drop (k + 1))) := by
  obtain ⟨hk, ht⟩ := List.getElem?_eq_some_iff.1 h
  rw [List.drop_eq_getElem_cons hk, ht]; rfl

set_option maxRecDepth 100000 in
set_option maxHeartbeats 4000000 in
theorem vcov_any (va vb : Value) (a b : List Ent) (w : World) (ha : IsEnts w va a) (hb : IsEnts w vb b) (hla : a.length ≤ 9223372036854775807) (hlb : b.length ≤ 9223372036854775807) :
    Calls Tryz.prog 67 #[va, vb] w fun r w' => r = .returned (.bool (covB a b)) ∧ Below w.heap.size w w' := by
  have HVA := Lib.hid ha
  have HVB := Lib.hid hb
  have HLA := Lib.hid hla
  have HLB := Lib.hid hlb
  obtain ⟨aa, ca, rfl, _⟩ := ha.form
  obtain ⟨ab, cb, rfl, fb⟩ := hb.form
  have FB := Lib.hid fb
  obtain ⟨na, hna⟩ : ∃ n, n = a.length := ⟨_, rfl⟩
  obtain ⟨nb, hnb⟩ : ∃ n, n = b.length := ⟨_, rfl⟩
  have HNB := Lib.hid hnb
  rw [← hna] at HVA ⊢
  rw [← hnb] at HVB ⊢
  clear ha hb hla hlb fb hna hnb
  by_cases h1 : (vrightF a).1 = 0
  · by_cases h2 : (vrightF b).1 = 0
    · have H1 := Lib.hid h1
      have H2 := Lib.hid h2
      have HC : Hid (covB a b = covA a b) := Lib.hid (show covB a b = covA a b by unfold covB; rw [h1, h2]; simp)
      have h16 : nb ≤ 16 := by rw [HNB.out]; exact ((vright_ok b).1 h2).1
      clear h1 h2
      rw [HC.out]
      go_enter Tryz.func67, Tryz.ntmps67
      go_wp2_with fail
      refine (vright_any _ a _ HVA.out HLA.out).mono ?_
      rintro r w1 ⟨err, rfl, hat, hb1⟩
      obtain rfl := hat.nil H1.out
      have HB1 := Lib.hid hb1
      clear hat hb1
      go_wp2_with fail
      refine (vright_any _ b _ (HVB.out.below HB1.out) HLB.out).mono ?_
      rintro r w2 ⟨err, rfl, hat, hb2⟩
      obtain rfl := hat.nil H2.out
      have HB2 : Hid (Below w.heap.size w w2) := HB1.out.trans (hb2.mono HB1.out.size)
      clear hat hb2
      go_wp2
      go_loopw [17] (fun i wr => ∃ k : Nat, k ≤ nb ∧ i = .int .i64 k ∧ covA a b = covA a (b.drop k) ∧ Below w.heap.size w wr) (fun i _ => nb - (intOf i).toNat)
      case atStart => exact ⟨0, by omega, rfl, rfl, HB2.out⟩
      case round =>
        obtain ⟨k, hk, rfl, heq, hbel⟩ := hrel
        have HEQ := Lib.hid heq
        have HB := Lib.hid hbel
        have hzr := hbel.size
        clear heq hbel
        by_cases hlt : k < nb
        · obtain ⟨t, ht⟩ : ∃ t, b[k]? = some t := ⟨b[k]'(by have := HNB.out; omega), List.getElem?_eq_getElem _⟩
          obtain ⟨b1, o1, rfl, hb1, p0, p1⟩ := FB.out k t ht
          have hd := covA_drop (a := a) ht
          obtain ⟨rep, time⟩ := t
          simp only at p0 p1 hd
          have q0 := (HB.out.cell (p := ⟨b1, o1 + k * 2, none⟩) hb1).trans p0
          have q1 := (HB.out.cell (p := ⟨b1, o1 + k * 2 + 1, none⟩) hb1).trans p1
          obtain ⟨x, hx⟩ : ∃ x, ofF a rep = x := ⟨_, rfl⟩
          rw [hx] at hd
          have HX := Lib.hid hx
          have HV1 : Hid (IsEnts (wr.alloc (.cells #[.int .i64 rep, .int .i64 time] 72)).drew (.slice aa na ca) a) := Lib.hid (((HVA.out.below HB.out).alloc _).drewN 1)
          have c0 : (wr.alloc (.cells #[.int .i64 rep, .int .i64 time] 72)).cell? ⟨wr.heap.size, 0, none⟩ = some (.int .i64 rep) ∧ (wr.alloc (.cells #[.int .i64 rep, .int .i64 time] 72)).cell? ⟨wr.heap.size, 1, none⟩ = some (.int .i64 time) := by simp
          by_cases hlx : x < time
          · have HW : Hid (covA a b = false) := Lib.hid (show covA a b = false by rw [HEQ.out, hd, decide_eq_false (by omega), Bool.false_and])
            clear p0 p1 ht hd hx
            go_wp2
            go_region_held3 (fun w' => w'.cell? ⟨wr.heap.size, 0, none⟩ = some (.int .i64 rep) ∧ w'.cell? ⟨wr.heap.size, 1, none⟩ = some (.int .i64 time)) (first | exact c0 | exact c2) (first | (go_at_call 66; ((with_reducible refine (vof_as _ a rep x _ HV1.out HLA.out HX.out).mono ?_); rintro r w2 ⟨rfl, hb2⟩; have c2 : w2.cell? ⟨wr.heap.size, 0, none⟩ = some (.int .i64 rep) ∧ w2.cell? ⟨wr.heap.size, 1, none⟩ = some (.int .i64 time) := ⟨(hb2.cell (by simp)).trans c0.1, (hb2.cell (by simp)).trans c0.2⟩; have HB2 : Hid (Below w.heap.size w w2) := ((HB.out.alloc hzr _).drew.trans (hb2.mono (by simp; omega))); clear hb2)))
            go_wp2
            go_ret
            exact ⟨by rw [HW.out]; rfl, HB2.out⟩
          · have HW : Hid (covA a b = covA a (b.drop (k + 1))) := Lib.hid (show covA a b = covA a (b.drop (k + 1)) by rw [HEQ.out, hd, decide_eq_true (by omega), Bool.true_and])
            clear p0 p1 ht hd hx
            go_wp2
            go_region_held3 (fun w' => w'.cell? ⟨wr.heap.size, 0, none⟩ = some (.int .i64 rep) ∧ w'.cell? ⟨wr.heap.size, 1, none⟩ = some (.int .i64 time)) (first | exact c0 | exact c2) (first | (go_at_call 66; ((with_reducible refine (vof_as _ a rep x _ HV1.out HLA.out HX.out).mono ?_); rintro r w2 ⟨rfl, hb2⟩; have c2 : w2.cell? ⟨wr.heap.size, 0, none⟩ = some (.int .i64 rep) ∧ w2.cell? ⟨wr.heap.size, 1, none⟩ = some (.int .i64 time) := ⟨(hb2.cell (by simp)).trans c0.1, (hb2.cell (by simp)).trans c0.2⟩; have HB2 : Hid (Below w.heap.size w w2) := ((HB.out.alloc hzr _).drew.trans (hb2.mono (by simp; omega))); clear hb2)))
            go_wp2
            go_roundw
            case rel => exact ⟨k + 1, by omega, by go_num, HW.out, HB2.out⟩
            case measure => simp [intOf]; omega
        · have HW : Hid (covA a b = true) := Lib.hid (show covA a b = true by rw [HEQ.out, List.drop_eq_nil_of_le (by have := HNB.out; omega)]; rfl)
          go_wp2
          go_ret
          exact ⟨by rw [HW.out]; rfl, HB.out⟩
    · have H1 := Lib.hid h1
      have H2 := Lib.hid h2
      have HC : Hid (covB a b = false) := Lib.hid (show covB a b = false by unfold covB; rw [decide_eq_false h2]; simp)
      clear h1 h2
      rw [HC.out]
      go_enter Tryz.func67, Tryz.ntmps67
      go_wp2_with fail
      refine (vright_any _ a _ HVA.out HLA.out).mono ?_
      rintro r w1 ⟨err, rfl, hat, hb1⟩
      obtain rfl := hat.nil H1.out
      have HB1 := Lib.hid hb1
      clear hat hb1
      go_wp2_with fail
      refine (vright_any _ b _ (HVB.out.below HB1.out) HLB.out).mono ?_
      rintro r w2 ⟨err, rfl, hat, hb2⟩
      obtain ⟨t, u, rfl⟩ := hat.iface H2.out
      have HB2 : Hid (Below w.heap.size w w2) := HB1.out.trans (hb2.mono HB1.out.size)
      clear hat hb2
      go_wp2
      go_ret
      exact ⟨rfl, HB2.out⟩
  · have H1 := Lib.hid h1
    have HC : Hid (covB a b = false) := Lib.hid (show covB a b = false by unfold covB; rw [decide_eq_false h1]; simp)
    clear h1
    rw [HC.out]
    go_enter Tryz.func67, Tryz.ntmps67
    go_wp2_with fail
    refine (vright_any _ a _ HVA.out HLA.out).mono ?_
    rintro r w1 ⟨err, rfl, hat, hb1⟩
    obtain ⟨t, u, rfl⟩ := hat.iface H1.out
    have HB1 := Lib.hid hb1
    clear hat hb1
    go_wp2
    go_ret
    exact ⟨rfl, HB1.out⟩
end Go.Proofs.YtgelfjcmggicdaaGreatDoor
