/-
  'packtrainkeep.SpanOnly': for every text, if span.Get reads one from it, span.Put writes it so; the law returns true. No conditions.
-/
import Derived.Test.YtepfbjfmfnnfdaaSpanned
import Derived.Test.YtepfbjfmfnnfdaaRows
import Derived.Deep.RegionHeld3
import Derived.ProofKit
import Derived.OpenShut
import Derived.ShutString
namespace Go.Proofs.Ytepfbjfmfnnfdaa.spanOnly
open Go.ChangeShapes Go.WideShapes Go.ChangeAt Go.RowKit
open Go.ChangeMaps (open_string shut_string)

theorem own : ownKnob Try.prog.godebug = none := by kernel_rfl
theorem ret_bool {a b : Bool} (h : a = b) : Ending.returned (.bool a) = .returned (.bool b) := by rw [h]

theorem getS_only {l t : List UInt8} {k : Nat} (h : getS l = (t, k, 0)) : 1 ≤ k ∧ k ≤ l.length ∧ t.length ≤ 2000 ∧ spanL t = l.take k := by
  rcases getL_cases l with ⟨e, hg, he⟩ | ⟨n, j, hg, hn, hk1, hk2, hk3⟩
  · rw [getS_bad hg he] at h; simp only [Prod.mk.injEq] at h; omega
  · by_cases h2 : 2000 < n
    · rw [getS_big hg h2] at h; simp at h
    · by_cases h3 : l.length < j + n
      · rw [getS_miss hg h2 h3] at h; simp at h
      · rw [getS_ok hg h2 h3] at h
        simp only [Prod.mk.injEq] at h
        obtain ⟨rfl, rfl, _⟩ := h
        obtain ⟨_, _, hp⟩ := getL_only hg
        have hl : ((l.drop j).take n).length = n := by simp; omega
        refine ⟨by omega, by omega, by omega, ?_⟩
        unfold spanL
        rw [hl, hp, ← List.take_add]
theorem getS_err {l t : List UInt8} {k e : Nat} (h : getS l = (t, k, e)) (he : e ≠ 0) : t = [] ∧ k = 0 := by
  unfold getS at h
  split at h
  · simp only [Prod.mk.injEq] at h; exact ⟨h.1.symm, h.2.1.symm⟩
  · split at h
    · simp only [Prod.mk.injEq] at h; exact ⟨h.1.symm, h.2.1.symm⟩
    · split at h
      · simp only [Prod.mk.injEq] at h; exact ⟨h.1.symm, h.2.1.symm⟩
      · simp only [Prod.mk.injEq] at h; omega

set_option maxRecDepth 100000 in
set_option maxHeartbeats 2000000 in
theorem walk (s : ByteArray) (hs : s.size ≤ maxLen) (w : World) :
    Calls Try.prog 4 #[.string s] w fun e w' => e = .returned (.bool true) ∧ Below w.heap.size w w' := by
  unfold maxLen at hs
  by_cases h15 : 1500 < s.size
  · go_enter Try.func4, Try.ntmps4
    go_wp2_with fail
    refine (spanned_any _).mono ?_
    rintro r w1 ⟨rfl, hb1⟩
    have HX := Lib.hid hb1
    clear hb1
    go_wp2
    go_ret
    exact ⟨rfl, HX.out⟩
  · have NB : Hid (s.size ≤ 140737488351232) := by have h : s.size ≤ 140737488351232 := by omega
                                                   exact h
    obtain ⟨t, k, e, hr⟩ : ∃ t k e, getS s.data.toList = (t, k, e) := ⟨_, _, _, rfl⟩
    by_cases he : e = 0
    · subst he
      obtain ⟨k1, k2, k3, hsp⟩ := getS_only hr
      rw [← size_data] at k2
      have HR : Hid (spanV (getS s.data.toList) = .tuple #[.string ⟨t.toArray⟩, .int .i64 k, .nilIface]) := by show spanV _ = _; rw [hr]; rfl
      have hx : spanB ⟨t.toArray⟩ = s.extract 0 k := bs_ext (by rw [spanB_data, bs_data, hsp, ext_data, List.drop_zero])
      have HX := Lib.hid hx
      have NT : Hid ((⟨t.toArray⟩ : ByteArray).size ≤ 2000) := by show _ ≤ 2000; rw [bs_size]; exact k3
      have d1 : decide ((1 : Int) ≤ (k : Int)) = true := decide_eq_true (by omega)
      have d2 : decide ((k : Int) ≤ (s.size : Int)) = true := decide_eq_true (by omega)
      have d3 : (0 : Int) ≤ (k : Int) := by omega
      have d4 : (k : Int) ≤ (s.size : Int) := by omega
      clear hr hsp hx k1 k2 k3
      go_enter Try.func4, Try.ntmps4
      go_wp2_with fail
      refine (spanned_any _).mono ?_
      rintro r w1 ⟨rfl, hb1⟩
      go_wp2_with fail
      refine (sget_any s _ NB.out).mono ?_
      rintro r w2 ⟨rfl, hb2⟩
      rw [HR.out]
      have HB : Hid (Below w.heap.size w w2) := hb1.trans (hb2.mono hb1.size)
      clear hb1 hb2
      go_wp2_with fail
      refine (sput_ok _ _ NT.out).mono ?_
      rintro r w3 ⟨rfl, hb3⟩
      rw [HX.out]
      have HB2 : Hid (Below w.heap.size w w3) := HB.out.trans (hb3.mono HB.out.size)
      clear hb3
      go_wp2
      go_ret
      exact ⟨rfl, HB2.out⟩
    · obtain ⟨rfl, rfl⟩ := getS_err hr he
      have HR : Hid (spanV (getS s.data.toList) = .tuple #[.string ⟨#[]⟩, .int .i64 0, .iface 36 (.int .i64 e)]) := by
        show spanV _ = _; rw [hr]; unfold spanV errV; rw [if_neg he]; rfl
      clear hr
      go_enter Try.func4, Try.ntmps4
      go_wp2_with fail
      refine (spanned_any _).mono ?_
      rintro r w1 ⟨rfl, hb1⟩
      go_wp2_with fail
      refine (sget_any s _ NB.out).mono ?_
      rintro r w2 ⟨rfl, hb2⟩
      rw [HR.out]
      have HB : Hid (Below w.heap.size w w2) := hb1.trans (hb2.mono hb1.size)
      clear hb1 hb2
      go_wp2
      go_ret
      exact ⟨rfl, HB.out⟩

set_option maxRecDepth 100000 in
theorem lifted (os : Os) (started : os.Started) (H : Type) (enc : TypeId × Value → H) :
    ReturnsInHanded {} Try.checked os 4 .any (Rows.spanOnlySpec.pre6 enc Try.prog Try.f4 Rows.spanOnlyRow.domain false) (Rows.spanOnlySpec.post enc Try.prog Try.f4 false true false false) := by
  refine returnsInHanded_of_change (C := Try.checked) own started (by kernel_rfl) Try.func4
    (ChangeSpec.witness6 (enc := enc) (C := Try.checked) false ⟨#[], #[.string ByteArray.empty], []⟩ 8 (by kernel_rfl) (by kernel_rfl) (by kernel_rfl) (by kernel_rfl)) ?_
  intro W base args ds gs before hval0 hW hcnd _
  have hval : ∀ (j : Nat) t v, Try.f4.params[j]? = some t → args[j]? = some v → Value.okWide Try.prog W .any base t v := hval0
  have hW' := hW
  obtain ⟨p, q, hA0, hV, rfl, hfz, hnd⟩ := hW
  have hA : DataW.TrodAll enc Try.prog W 0 (fun _ => true) true Try.f4.params.toList args.toList ds p := hA0
  rw [Try.params4] at hA hval
  obtain ⟨v0, vs0, d0, ds0, p0, q0, hargs, rfl, rfl, h0, r0⟩ := trodAll_cons hA
  obtain ⟨rfl, rfl, rfl⟩ := trodAll_nil r0
  obtain rfl : args = #[v0] := by cases args; simp_all
  obtain ⟨rfl, rfl⟩ := trodVars_none hV
  obtain ⟨a0, rfl, rfl, rfl, w0⟩ := open_string Try.underlying9 (hval 0 9 v0 rfl rfl) h0
  clear hA0 hval0
  refine (walk a0 w0 W).mono fun e W' ⟨he, hb⟩ => ?_
  subst he
  exact ⟨_, rfl, _, _, _, [], [], [], hW', trodAll_mk1 (shut_bool Try.underlying4 true), (trodAll_cons_mk (shut_string Try.underlying9 w0) trodAll_mk0), rfl, hb.frame _, fun h => by cases h⟩

theorem over : Rows.spanOnlyRow.holds Try.pinned (OpenSpec.ofChange Rows.spanOnlySpec) :=
  OpenClaim.holds_of_wide 4 Try.f4 rfl rfl rfl rfl rfl rfl rfl ⟨rfl, rfl, rfl, rfl, rfl⟩ rfl rfl rfl rfl rfl (by kernel_rfl) Try.func4 (by kernel_rfl)
    (of_decide_eq_true (by kernel_rfl)) (by unfold Func.isWrapper; first | (rw [if_pos (by decide +kernel)]; kernel_rfl) | (rw [if_neg (by decide +kernel)]; exact ⟨rfl, rfl⟩))
    (fun os started H enc _ => lifted os started H enc)

theorem proved : Rows.SpanOnlySaid := over
#print axioms proved
end Go.Proofs.Ytepfbjfmfnnfdaa.spanOnly
