import Derived.Test.YtgfinhehgfbdgaaGreatDoorKa10
import Derived.Test.YtgfinhehgfbdgaaGreatDoorKa06
import Derived.Test.YtgfinhehgfbdgaaGreatDoorKa12
import Derived.Test.YtgfinhehgfbdgaaGreatDoorKa02
import Derived.Test.YtgfinhehgfbdgaaGreatDoorKa01
import Derived.Deep.QuietTactic
import Derived.BigQuiet
namespace Go.Proofs.YtgfinhehgfbdgaaGreatDoor
open Go.RowKit
set_option maxRecDepth 100000 in
set_option maxHeartbeats 2000000 in
theorem within_any (x1 x2:Int) (vf vh:Value) (f h:List Ent) (w:World) (hf:IsEnts w vf f) (hh:IsEnts w vh h) (hlf:f.length≤9223372036854775807) (hlh:h.length≤9223372036854775807) (b:Bool) (hb:wiF (x1,x2) f h=b) :
   Calls Tryz.prog 105 #[.agg #[.int .i64 x1,.int .i64 x2],vf,vh] w fun e w'=>e=.returned (.bool b)∧Below w.heap.size w w':=by
 subst hb
 obtain ⟨p,hp⟩:∃ p,ofF f x2=p:=⟨_,rfl⟩
 obtain ⟨q,hq⟩:∃ q,ofF h x2=q:=⟨_,rfl⟩
 have HP:=Lib.hid hp
 have HQ:=Lib.hid hq
 have HLF:=Lib.hid hlf
 have HLH:=Lib.hid hlh
 have HF:Hid (IsEnts (w.alloc (.cells #[.int .i64 x1,.int .i64 x2] 59)).drew vf f):=Lib.hid ((hf.alloc _).drewN 1)
 have HH:Hid (IsEnts (w.alloc (.cells #[.int .i64 x1,.int .i64 x2] 59)).drew vh h):=Lib.hid ((hh.alloc _).drewN 1)
 have c0:(w.alloc (.cells #[.int .i64 x1,.int .i64 x2] 59)).cell? ⟨w.heap.size,0,none⟩=some (.int .i64 x1)∧(w.alloc (.cells #[.int .i64 x1,.int .i64 x2] 59)).cell? ⟨w.heap.size,1,none⟩=some (.int .i64 x2):=by simp
 have hval:wiF (x1,x2) f h=(decide (p < x1) && decide (x1≤q)):=by unfold wiF;simp only;rw [hp,hq]
 have HB0:Hid (Below w.heap.size w (w.alloc (.cells #[.int .i64 x1,.int .i64 x2] 59)).drew):=Lib.hid ((Below.refl _ _).alloc (Nat.le_refl _) _).drew
 by_cases h1:p < x1
 · by_cases h2:x1≤q
   · have HW:Hid (wiF (x1,x2) f h=true):=Lib.hid (by rw [hval,decide_eq_true h1,decide_eq_true h2];rfl)
     clear hf hh hp hq hlf hlh hval
     rw [HW.out]
     go_enter Tryz.func105,Tryz.ntmps105
     go_wp2
     go_region_held3 (fun w'=>w'.cell? ⟨w.heap.size,0,none⟩=some (.int .i64 x1)∧w'.cell? ⟨w.heap.size,1,none⟩=some (.int .i64 x2)) (first | exact c0 | exact c2 | exact c3) (first
       | (go_at_call 156;((with_reducible refine (vofI_as vf f x2 p _ HF.out HLF.out HP.out).mono ?_);rintro r w2 ⟨rfl,hb2⟩;have c2:w2.cell? ⟨w.heap.size,0,none⟩=some (.int .i64 x1)∧w2.cell? ⟨w.heap.size,1,none⟩=some (.int .i64 x2):=⟨(hb2.cell (by simp)).trans c0.1,(hb2.cell (by simp)).trans c0.2⟩;have HB2:Hid (Below w.heap.size w w2):=(HB0.out.trans (hb2.mono (by simp)));have HH2:=Lib.hid (HH.out.below hb2);have HZ2:Hid (w.heap.size < w2.heap.size):=(Nat.lt_of_lt_of_le (by simp) hb2.size);clear hb2))
       | (go_at_call 156;((with_reducible refine (vofI_as vh h x2 q w2 HH2.out HLH.out HQ.out).mono ?_);rintro r w3 ⟨rfl,hb3⟩;have c3:w3.cell? ⟨w.heap.size,0,none⟩=some (.int .i64 x1)∧w3.cell? ⟨w.heap.size,1,none⟩=some (.int .i64 x2):=⟨(hb3.cell HZ2.out).trans c2.1,(hb3.cell HZ2.out).trans c2.2⟩;have HB3:Hid (Below w.heap.size w w3):=(HB2.out.trans (hb3.mono HB2.out.size));clear hb3)))
     go_wp2
     go_ret
     exact ⟨rfl,HB3.out⟩
   · have HW:Hid (wiF (x1,x2) f h=false):=Lib.hid (by rw [hval,decide_eq_true h1,decide_eq_false h2];rfl)
     have d7:decide (x1≤q)=false:=decide_eq_false h2
     clear hf hh hp hq hlf hlh hval h2
     rw [HW.out]
     go_enter Tryz.func105,Tryz.ntmps105
     go_wp2
     go_region_held3 (fun w'=>w'.cell? ⟨w.heap.size,0,none⟩=some (.int .i64 x1)∧w'.cell? ⟨w.heap.size,1,none⟩=some (.int .i64 x2)) (first | exact c0 | exact c2 | exact c3) (first
       | (go_at_call 156;((with_reducible refine (vofI_as vf f x2 p _ HF.out HLF.out HP.out).mono ?_);rintro r w2 ⟨rfl,hb2⟩;have c2:w2.cell? ⟨w.heap.size,0,none⟩=some (.int .i64 x1)∧w2.cell? ⟨w.heap.size,1,none⟩=some (.int .i64 x2):=⟨(hb2.cell (by simp)).trans c0.1,(hb2.cell (by simp)).trans c0.2⟩;have HB2:Hid (Below w.heap.size w w2):=(HB0.out.trans (hb2.mono (by simp)));have HH2:=Lib.hid (HH.out.below hb2);have HZ2:Hid (w.heap.size < w2.heap.size):=(Nat.lt_of_lt_of_le (by simp) hb2.size);clear hb2))
       | (go_at_call 156;((with_reducible refine (vofI_as vh h x2 q w2 HH2.out HLH.out HQ.out).mono ?_);rintro r w3 ⟨rfl,hb3⟩;have c3:w3.cell? ⟨w.heap.size,0,none⟩=some (.int .i64 x1)∧w3.cell? ⟨w.heap.size,1,none⟩=some (.int .i64 x2):=⟨(hb3.cell HZ2.out).trans c2.1,(hb3.cell HZ2.out).trans c2.2⟩;have HB3:Hid (Below w.heap.size w w3):=(HB2.out.trans (hb3.mono HB2.out.size));clear hb3)))
     go_wp2
     go_ret
     exact ⟨rfl,HB3.out⟩
 · have HW:Hid (wiF (x1,x2) f h=false):=Lib.hid (by rw [hval,decide_eq_false h1];rfl)
   have d6:decide (p < x1)=false:=decide_eq_false h1
   clear hf hh hp hq hlf hlh hval h1
   rw [HW.out]
   go_enter Tryz.func105,Tryz.ntmps105
   go_wp2
   refine wp_region_held_drew (S:=fun w'=>w'.cell? ⟨w.heap.size,0,none⟩=some (.int .i64 x1)∧w'.cell? ⟨w.heap.size,1,none⟩=some (.int .i64 x2)) (by kernel_rfl) c0 (fun hHeld=>?_)
   refine wpAnyH_take (i:=0) (v:=?v0) rfl (by kernel_rfl) (by kernel_rfl) (by kernel_rfl) (fun _ _ _ h=>h) (Or.inl ⟨by rfl,?h0⟩) (by assumption) ?r0
   case h0=>(intro W hSw;(try dsimp only at hSw);go_simp;all_goals (with_reducible rfl))
   try simp only [Act.put,List.getElem_toArray,List.getElem_cons_zero,List.setIfInBounds_toArray,List.set_cons_zero,List.set_cons_succ]
   refine wpAnyH_take (i:=1) (v:=?v1) rfl (by kernel_rfl) (by kernel_rfl) (by kernel_rfl) (fun _ _ _ h=>h) (Or.inl ⟨by rfl,?h1⟩) (by assumption) ?r1
   case h1=>(intro W hSw;(try dsimp only at hSw);go_simp;all_goals (with_reducible rfl))
   try simp only [Act.put,List.getElem_toArray,List.getElem_cons_zero,List.getElem_cons_succ,List.setIfInBounds_toArray,List.set_cons_zero,List.set_cons_succ]
   refine wpAnyH_take (i:=2) (v:=?v2) rfl (by kernel_rfl) (by kernel_rfl) (by kernel_rfl) (fun _ _ _ h=>h) (Or.inl ⟨by rfl,?h2⟩) (by assumption) ?r2
   case h2=>(intro W hSw;(try dsimp only at hSw);go_simp;all_goals (with_reducible rfl))
   try simp only [Act.put,List.getElem_toArray,List.getElem_cons_zero,List.getElem_cons_succ,List.setIfInBounds_toArray,List.set_cons_zero,List.set_cons_succ]
   refine wpAnyH_take (i:=3) (v:=?v3) rfl (by kernel_rfl) (by kernel_rfl) (by kernel_rfl) (fun _ _ _ h=>h) (Or.inl ⟨by rfl,?h3⟩) (by assumption) ?r3
   case h3=>(intro W hSw;(try dsimp only at hSw);go_simp;all_goals (with_reducible rfl))
   try simp only [Act.put,List.getElem_toArray,List.getElem_cons_zero,List.getElem_cons_succ,List.setIfInBounds_toArray,List.set_cons_zero,List.set_cons_succ]
   refine wpAnyH_take (i:=4) (v:=?v4) rfl (by kernel_rfl) (by kernel_rfl) (by kernel_rfl) (fun _ _ _ h=>h) (Or.inl ⟨by rfl,?h4⟩) (by assumption) ?r4
   case h4=>(intro W hSw;(try dsimp only at hSw);go_simp;all_goals (with_reducible rfl))
   try simp only [Act.put,List.getElem_toArray,List.getElem_cons_zero,List.getElem_cons_succ,List.setIfInBounds_toArray,List.set_cons_zero,List.set_cons_succ]
   refine wpAnyH_ready (rs:=[5]) (by kernel_rfl) (by simp) ?_
   refine AllReadyH.cons rfl (fun K hK=>?_) AllReadyH.nil
   go_simp
   refine (vofI_as vf f x2 p _ HF.out HLF.out HP.out).mono ?_
   rintro r w2 ⟨rfl,hb2⟩
   have c2:w2.cell? ⟨w.heap.size,0,none⟩=some (.int .i64 x1)∧w2.cell? ⟨w.heap.size,1,none⟩=some (.int .i64 x2):=⟨(hb2.cell (by simp)).trans c0.1,(hb2.cell (by simp)).trans c0.2⟩
   have HB2:Hid (Below w.heap.size w w2):=HB0.out.trans (hb2.mono (by simp))
   clear hb2
   refine hK.out _ _ c2 (fun hHeld2=>?_)
   clear hK hHeld
   try simp only [Act.put,List.getElem_toArray,List.getElem_cons_zero,List.getElem_cons_succ,List.setIfInBounds_toArray,List.set_cons_zero,List.set_cons_succ]
   refine wpAnyH_take (i:=6) (v:=?v6) rfl (by kernel_rfl) (by kernel_rfl) (by kernel_rfl) (fun _ _ _ h=>h) (Or.inl ⟨by rfl,?h6⟩) (by assumption) ?r6
   case h6=>(intro W hSw;(try dsimp only at hSw);go_simp;all_goals (with_reducible rfl))
   try simp only [Act.put,List.getElem_toArray,List.getElem_cons_zero,List.getElem_cons_succ,List.setIfInBounds_toArray,List.set_cons_zero,List.set_cons_succ]
   refine wpAnyH_take (i:=7) (v:=?v7) rfl (by kernel_rfl) (by kernel_rfl) (by kernel_rfl) (fun _ _ _ h=>h) (Or.inl ⟨by rfl,?h7⟩) (by assumption) ?r7
   case h7=>(intro W hSw;(try dsimp only at hSw);go_simp;all_goals (with_reducible rfl))
   try simp only [Act.put,List.getElem_toArray,List.getElem_cons_zero,List.getElem_cons_succ,List.setIfInBounds_toArray,List.set_cons_zero,List.set_cons_succ]
   refine wpAnyH_take (i:=8) (v:=undef) rfl (by kernel_rfl) (by kernel_rfl) (by kernel_rfl) (fun _ _ _ h=>h) (Or.inr ⟨by rfl,rfl⟩) (by assumption) ?_
   try simp only [Act.put,List.getElem_toArray,List.getElem_cons_zero,List.getElem_cons_succ,List.setIfInBounds_toArray,List.set_cons_zero,List.set_cons_succ]
   refine wpAnyH_take (i:=10) (v:=undef) rfl (by kernel_rfl) (by kernel_rfl) (by kernel_rfl) (fun _ _ _ h=>h) (Or.inr ⟨by rfl,rfl⟩) (by assumption) ?_
   try simp only [Act.put,List.getElem_toArray,List.getElem_cons_zero,List.getElem_cons_succ,List.setIfInBounds_toArray,List.set_cons_zero,List.set_cons_succ]
   refine wpAnyH_take (i:=11) (v:=undef) rfl (by kernel_rfl) (by kernel_rfl) (by kernel_rfl) (fun _ _ _ h=>h) (Or.inr ⟨by rfl,rfl⟩) (by assumption) ?_
   try simp only [Act.put,List.getElem_toArray,List.getElem_cons_zero,List.getElem_cons_succ,List.setIfInBounds_toArray,List.set_cons_zero,List.set_cons_succ]
   refine wpAnyH_take (i:=9) (v:=undef) rfl (by kernel_rfl) (by kernel_rfl) (by kernel_rfl) (fun _ _ _ h=>h) (Or.inr ⟨by rfl,rfl⟩) (by assumption) ?_
   try simp only [Act.put,List.getElem_toArray,List.getElem_cons_zero,List.getElem_cons_succ,List.setIfInBounds_toArray,List.set_cons_zero,List.set_cons_succ]
   refine wpAnyH_take (i:=12) (v:=undef) rfl (by kernel_rfl) (by kernel_rfl) (by kernel_rfl) (fun _ _ _ h=>h) (Or.inr ⟨by rfl,rfl⟩) (by assumption) ?_
   try simp only [Act.put,List.getElem_toArray,List.getElem_cons_zero,List.getElem_cons_succ,List.setIfInBounds_toArray,List.set_cons_zero,List.set_cons_succ]
   refine wpAnyH_take (i:=13) (v:=undef) rfl (by kernel_rfl) (by kernel_rfl) (by kernel_rfl) (fun _ _ _ h=>h) (Or.inr ⟨by rfl,rfl⟩) (by assumption) ?_
   try simp only [Act.put,List.getElem_toArray,List.getElem_cons_zero,List.getElem_cons_succ,List.setIfInBounds_toArray,List.set_cons_zero,List.set_cons_succ]
   refine wpAnyH_take (i:=14) (v:=undef) rfl (by kernel_rfl) (by kernel_rfl) (by kernel_rfl) (fun _ _ _ h=>h) (Or.inr ⟨by rfl,rfl⟩) (by assumption) ?_
   try simp only [Act.put,List.getElem_toArray,List.getElem_cons_zero,List.getElem_cons_succ,List.setIfInBounds_toArray,List.set_cons_zero,List.set_cons_succ]
   refine wpAnyH_take (i:=15) (v:=?v15) rfl (by kernel_rfl) (by kernel_rfl) (by kernel_rfl) (fun _ _ _ h=>h) (Or.inl ⟨by rfl,?h15⟩) (by assumption) ?r15
   case h15=>(intro W hSw;(try dsimp only at hSw);go_simp;all_goals (with_reducible rfl))
   try simp only [Act.put,List.getElem_toArray,List.getElem_cons_zero,List.getElem_cons_succ,List.setIfInBounds_toArray,List.set_cons_zero,List.set_cons_succ]
   refine wpAnyH_take (i:=16) (v:=?v16) rfl (by kernel_rfl) (by kernel_rfl) (by kernel_rfl) (fun _ _ _ h=>h) (Or.inl ⟨by rfl,?h16⟩) (by assumption) ?r16
   case h16=>(intro W hSw;(try dsimp only at hSw);go_simp;all_goals (with_reducible rfl))
   try simp only [Act.put,List.getElem_toArray,List.getElem_cons_zero,List.getElem_cons_succ,List.setIfInBounds_toArray,List.set_cons_zero,List.set_cons_succ]
   refine wpAnyH_done (by kernel_rfl) ?_ _
   go_wp2
   go_ret
   exact ⟨rfl,HB2.out⟩
end Go.Proofs.YtgfinhehgfbdgaaGreatDoor
namespace Go.Proofs.YtgfinhehgfbdgaaGreatDoor
open Go.RowKit
theorem pre_two (s:List UInt8):Lib.hasPrefix s [80,84]=true↔s.take 2=[80,84]:=by
  unfold Lib.hasPrefix
  rw [List.isPrefixOf_iff_prefix]
  constructor
  · rintro ⟨r,rfl⟩;rfl
  · intro h;exact ⟨s.drop 2,by rw [←h,List.take_append_drop]⟩
theorem pre_not {s:List UInt8} (h:s.take 2≠[80,84]):Lib.hasPrefix s [80,84]=false:=by
  cases hb:Lib.hasPrefix s [80,84] with
  | false=>rfl
  | true=>exact absurd ((pre_two s).1 hb) h
def opnV (r:Nat×List UInt8×Nat):Value:=.tuple #[.int .i64 (r.1:Nat),.string ⟨r.2.1.toArray⟩,errC r.2.2]
theorem errC_ne {e:Nat} (h:e≠0):errC e=.iface 27 (.int .i64 e):=by unfold errC;rw [if_neg h]
theorem errC_zero:errC 0=.nilIface:=rfl
set_option maxRecDepth 100000 in
set_option maxHeartbeats 1200000 in
theorem fopen_any (s:ByteArray) (w:World) (hs:s.size≤140737488351232) :
    Calls Tryz.prog 48 #[.string s] w fun e w'=>e=.returned (opnV (opnF s.data.toList))∧Below w.heap.size w w':=by
  have hl:s.size=s.data.toList.length:=size_data s
  by_cases h8:s.size < 8
  · have h:opnF s.data.toList=(0,[],7):=opn_few (by rw [←hl];exact h8)
    rw [h]
    have h8i:(s.size:Int) < 8:=by omega
    clear h hl
    go_enter Tryz.func48,Tryz.ntmps48
    go_wp2
    go_ret3
    exact ⟨rfl,Below.refl _ _⟩
  · have h8l:¬ s.data.toList.length < 8:=by rw [←hl];exact h8
    have h8i:8≤(s.size:Int):=by omega
    by_cases hp:s.data.toList.take 2=[80,84]
    · have HPB:Hid (Lib.hasPrefix s.data.toList [80,84]=true):=Lib.hid ((pre_two _).2 hp)
      have hsz:2 < s.size:=by omega
      obtain ⟨c, hc⟩ : ∃ c : UInt8, s[2]'hsz = c := ⟨_, rfl⟩
      have hwr:wrap64 (c.toNat:Int)=(c.toNat:Int):=IntWalk.wrap64_in _ (by have:=c.toNat_lt;omega)
      have hcd:s.data.toList.getD 2 0=c:=by
        rw [List.getD_eq_getElem?_getD,List.getElem?_eq_getElem (by omega),Option.getD_some,←hc];rfl
      by_cases hv:c.toNat < 1∨3 < c.toNat
      · have h:opnF s.data.toList=(0,[],8):=opn_none h8l hp (by rw [hcd];exact hv)
        rw [h]
        clear h hl hp hcd
        rcases hv with hv | hv
        · have hvi:(c.toNat:Int) < 1:=by omega
          go_enter Tryz.func48,Tryz.ntmps48
          go_wp2_with fail
          refine (Tryz.strings_HasPrefix s _ w).mono ?_
          rintro r w1 ⟨rfl,rfl⟩
          rw [HPB.out]
          go_wp2
          go_ret3
          exact ⟨rfl,Below.refl _ _⟩
        · have hvi:3 < (c.toNat:Int):=by omega
          have hvj:1≤(c.toNat:Int):=by omega
          go_enter Tryz.func48,Tryz.ntmps48
          go_wp2_with fail
          refine (Tryz.strings_HasPrefix s _ w).mono ?_
          rintro r w1 ⟨rfl,rfl⟩
          rw [HPB.out]
          go_wp2
          go_ret3
          exact ⟨rfl,Below.refl _ _⟩
      · have hv1:1≤(c.toNat:Int):=by omega
        have hv2:(c.toNat:Int)≤3:=by omega
        obtain ⟨o,e,hop⟩:∃ o e,openL s.data.toList=(o,e):=⟨_,_,rfl⟩
        have HO:Hid (openV (openL s.data.toList)=.tuple #[.string ⟨o.toArray⟩,errC e]):=Lib.hid (by show openV _=_;rw [hop];rfl)
        by_cases he:e=0
        · subst he
          have h:opnF s.data.toList=(c.toNat,o.drop 3,0):=by rw [opn_ok h8l hp (by rw [hcd];exact hv) (by rw [hop]),hcd,hop]
          rw [h]
          obtain ⟨O,hO⟩:∃ O:ByteArray,(⟨o.toArray⟩:ByteArray)=O:=⟨_,rfl⟩
          have hOd:o=O.data.toList:=by rw [←hO]
          have hoz:O.size=s.size - 4:=by
            unfold openL at hop
            split at hop
            · injection hop with _ h2;cases h2
            · split at hop
              · injection hop with h1 _;rw [size_data,←hOd,←h1,List.length_take];omega
              · injection hop with _ h2;cases h2
          have hO3:3≤(O.size:Int):=by omega
          have HR:Hid (opnV (c.toNat,o.drop 3,0)=.tuple #[.int .i64 (c.toNat:Nat),.string (O.extract 3 O.size),.nilIface]):=Lib.hid (by
            have e1:(⟨(o.drop 3).toArray⟩:ByteArray)=O.extract 3 O.size:=bytes_ext (by
              rw [ext_list,←hOd,List.take_of_length_le (by rw [List.length_drop,hOd,←size_data];omega)])
            show Value.tuple #[.int .i64 (c.toNat:Nat),.string ⟨(o.drop 3).toArray⟩,errC 0]=_
            rw [e1];rfl)
          rw [hO] at HO
          have HO3:=Lib.hid hoz
          clear h hl hp hcd hop hO hOd hoz
          go_enter Tryz.func48,Tryz.ntmps48
          go_wp2_with fail
          refine (Tryz.strings_HasPrefix s _ w).mono ?_
          rintro r w1 ⟨rfl,rfl⟩
          rw [HPB.out]
          go_wp2_with fail
          refine (open_any s _ hs).mono ?_
          rintro r w2 ⟨rfl,hb2⟩
          rw [HO.out,errC_zero]
          have HB2:=Lib.hid hb2
          clear hb2
          go_wp2
          go_region
          go_wp2
          go_ret3
          exact ⟨by rw [HR.out];rfl,HB2.out.drew⟩
        · have h:opnF s.data.toList=(0,[],e):=opn_spoilt h8l hp (by rw [hcd];exact hv) (by rw [hop]) he
          rw [h]
          have HR:Hid (opnV (0,[],e)=.tuple #[.int .i64 0,.string ⟨#[]⟩,.iface 27 (.int .i64 e)]):=Lib.hid (by unfold opnV;rw [errC_ne he];rfl)
          rw [errC_ne he] at HO
          clear h hl hp hcd hop
          go_enter Tryz.func48,Tryz.ntmps48
          go_wp2_with fail
          refine (Tryz.strings_HasPrefix s _ w).mono ?_
          rintro r w1 ⟨rfl,rfl⟩
          rw [HPB.out]
          go_wp2_with fail
          refine (open_any s _ hs).mono ?_
          rintro r w2 ⟨rfl,hb2⟩
          rw [HO.out]
          have HB2:=Lib.hid hb2
          clear hb2
          go_wp2
          go_ret3
          exact ⟨by rw [HR.out];rfl,HB2.out⟩
    · have HPB:Hid (Lib.hasPrefix s.data.toList [80,84]=false):=Lib.hid (pre_not hp)
      have h:opnF s.data.toList=(0,[],5):=opn_name h8l hp
      rw [h]
      clear h hl hp
      go_enter Tryz.func48,Tryz.ntmps48
      go_wp2_with fail
      refine (Tryz.strings_HasPrefix s _ w).mono ?_
      rintro r w1 ⟨rfl,rfl⟩
      rw [HPB.out]
      go_wp2
      go_ret3
      exact ⟨rfl,Below.refl _ _⟩
theorem fopen_as (s I:ByteArray) (v e:Nat) (w:World) (hs:s.size≤140737488351232) (h:opnF s.data.toList=(v,I.data.toList,e)) :
    Calls Tryz.prog 48 #[.string s] w fun r w'=>r=.returned (.tuple #[.int .i64 (v:Int),.string I,errC e])∧Below w.heap.size w w':=by
  have h1:=fopen_any s w hs
  rw [h] at h1
  unfold opnV at h1
  simp only [bs_of] at h1
  exact h1
set_option maxRecDepth 100000 in
theorem version_as (s I:ByteArray) (v e:Nat) (w:World) (hs:s.size≤140737488351232) (h:opnF s.data.toList=(v,I.data.toList,e)) :
    Calls Tryz.prog 17 #[.string s] w fun r w'=>r=.returned (.tuple #[.int .i64 (v:Int),errC e])∧Below w.heap.size w w':=by
  have H:=Lib.hid h
  obtain ⟨q,hq⟩:∃ q,errC e=q:=⟨_,rfl⟩
  have HQ:=Lib.hid hq
  rw [hq]
  clear h hq
  go_enter Tryz.func17,Tryz.ntmps17
  go_wp2_with fail
  refine (fopen_as s I v e _ hs H.out).mono ?_
  rintro r w1 ⟨rfl,hb1⟩
  rw [HQ.out]
  have HB1:=Lib.hid hb1
  clear hb1
  go_wp2
  go_ret2
  exact ⟨rfl,HB1.out⟩
end Go.Proofs.YtgfinhehgfbdgaaGreatDoor
namespace Go.Proofs.YtgfinhehgfbdgaaGreatDoor
open Go.RowKit
set_option maxRecDepth 100000 in
set_option maxHeartbeats 2000000 in
theorem right_any (v:Value) (l:List Tok) (w:World) (hv:IsToks w v l) (hl:l.length≤9223372036854775807) (hz:∀ t∈l,t.own.size≤140737488351232) :
   Calls Tryz.prog 121 #[v] w (RightIs w (rightF l 0 0)):=by
 obtain ⟨a1,c1,rfl,f1⟩:=hv.form
 have F1:=Lib.hid f1
 have HZ:=Lib.hid hz
 obtain ⟨n,hn⟩:∃ n,n=l.length:=⟨_,rfl⟩
 rw [←hn] at hl ⊢
 have HN:=Lib.hid hn
 clear hv f1 hn hz
 go_enter Tryz.func121,Tryz.ntmps121
 go_wp2
 go_loopw [3,9] (fun s i wr=>∃ k a:Nat,k≤n∧i=.int .i64 k∧s=.int .i64 a∧a≤20000∧rightF l 0 0=rightF (l.drop k) k a∧Below w.heap.size w wr) (fun _ i _=>n - (intOf i).toNat)
 case atStart=>exact ⟨0,0,by omega,rfl,rfl,by omega,rfl,Below.refl _ _⟩
 case round =>
   obtain ⟨k,a,hk,rfl,rfl,ha,heq,hbel⟩:=hrel
   have HEQ:=Lib.hid heq
   have HB:=Lib.hid hbel
   clear heq hbel
   by_cases hlt:k < n
   · have hkl:k < l.length:=by have:=HN.out;omega
     obtain ⟨t,ht⟩:∃ t,l[k]? = some t:=⟨l[k],List.getElem?_eq_getElem hkl⟩
     obtain ⟨b1,o1,rfl,hb1,p0,p1,p2⟩:=F1.out k t ht
     have hd:l.drop k=t :: l.drop (k + 1):=by
       rw [List.drop_eq_getElem_cons hkl];congr 1
       rw [List.getElem?_eq_getElem hkl] at ht;exact Option.some.inj ht
     have hmem:t∈l:=List.mem_of_getElem? ht
     have HS:=Lib.hid (HZ.out t hmem)
     obtain ⟨own,back,size⟩:=t
     simp only at p0 p1 p2
     have q0:=(HB.out.cell (p:=⟨b1,o1 + k * 3,none⟩) hb1).trans p0
     have q1:=(HB.out.cell (p:=⟨b1,o1 + k * 3 + 1,none⟩) hb1).trans p1
     have q2:=(HB.out.cell (p:=⟨b1,o1 + k * 3 + 2,none⟩) hb1).trans p2
     have hzr:=HB.out.size
     obtain ⟨e,he⟩:∃ e,wrongN ⟨own,back,size⟩ a=e:=⟨_,rfl⟩
     have HE:=Lib.hid he
     have HD:=Lib.hid hd
     clear p0 p1 p2 ht hmem hd hkl he
     have hgap:wr.heap.size < (wr.alloc (.cells #[.string own,.int .i64 back,.int .i64 size] 163)).heap.size:=by simp
     by_cases h0:e=0
     · subst h0
       have hok:0≤size∧size≤1000:=by rcases wrongN_ok HE.out with ⟨_,h,_⟩ | ⟨_,h1,h2,_⟩ <;> simp only at * <;> omega
       have hle:=wrongN_le HE.out
       have HN2:Hid (rightF l 0 0=rightF (l.drop (k + 1)) (k + 1) (a + lenT ⟨own,back,size⟩)):=by
         have h:rightF l 0 0=rightF (l.drop (k + 1)) (k + 1) (a + lenT ⟨own,back,size⟩):=by rw [HEQ.out,HD.out,rightF_ok HE.out]
         exact h
       obtain ⟨m,hm⟩:∃ m,lenT ⟨own,back,size⟩=m:=⟨_,rfl⟩
       rw [hm] at hle HN2
       have HM:=Lib.hid hm
       clear hm HEQ
       go_wp2_with fail
       refine (wrong_any own back size a _ HS.out ha).mono ?_
       rintro r w1 ⟨rfl,hb1⟩
       rw [HE.out]
       have c0:w1.cell? ⟨wr.heap.size,0,none⟩=some (.string own):=(hb1.cell (by simp)).trans (by simp)
       have c1:w1.cell? ⟨wr.heap.size,1,none⟩=some (.int .i64 back):=(hb1.cell (by simp)).trans (by simp)
       have c2:w1.cell? ⟨wr.heap.size,2,none⟩=some (.int .i64 size):=(hb1.cell (by simp)).trans (by simp)
       have HB1:Hid (Below w.heap.size w w1):=(HB.out.alloc hzr _).trans (hb1.mono (by omega))
       clear hb1 q0 q1 q2
       go_wp2_with fail
       refine (length_any own back size _ HS.out hok.1 hok.2).mono ?_
       rintro r w2 ⟨rfl,hb2⟩
       rw [HM.out]
       have HB2:Hid (Below w.heap.size w w2):=HB1.out.trans (hb2.mono HB1.out.size)
       clear hb2 c0 c1 c2
       go_wp2
       go_roundw
       case rel=>exact ⟨k + 1,a + m,by omega,by go_num,by go_num,by omega,HN2.out,HB2.out⟩
       case measure=>simp [intOf];omega
     · have HN2 : Hid (rightF l 0 0 = (e, (k : Int))) := by
         have h:rightF l 0 0=(e,(k:Int)):=by rw [HEQ.out,HD.out,rightF_bad (by rw [HE.out];exact h0),HE.out]
         exact h
       have hne:((e:Int) != 0)=true:=by simp;omega
       have H0:=Lib.hid h0
       clear HEQ h0
       go_wp2_with fail
       refine (wrong_any own back size a _ HS.out ha).mono ?_
       rintro r w1 ⟨rfl,hb1⟩
       rw [HE.out]
       have HB1:Hid (Below w.heap.size w w1):=(HB.out.alloc hzr _).trans (hb1.mono (by omega))
       have hz1:=HB1.out.size
       clear hb1 q0 q1 q2
       go_wp2
       go_ret
       rw [HN2.out]
       exact ⟨_,rfl,atIs.new w1 e k H0.out,HB1.out.alloc hz1 _⟩
   · have HN2 : Hid (rightF l 0 0 = (0, -1)) := by
       have h:rightF l 0 0=(0,-1):=by rw [HEQ.out,List.drop_eq_nil_of_le (by have:=HN.out;omega)];rfl
       exact h
     go_wp2
     go_ret
     exact ⟨_,rfl,.inl ⟨HN2.out,rfl⟩,HB.out⟩
end Go.Proofs.YtgfinhehgfbdgaaGreatDoor
