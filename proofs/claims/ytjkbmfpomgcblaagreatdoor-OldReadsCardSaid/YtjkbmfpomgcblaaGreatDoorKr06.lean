import Derived.Test.YtjkbmfpomgcblaaGreatDoorKr04
namespace Go.Proofs.YtjkbmfpomgcblaaGreatDoor
theorem cI_val (x1 x2 y1 y2:Int):cI (x1,x2) (y1,y2)=if x1 < y1∨x1=y1∧x2 < y2 then -1 else if x1=y1∧x2=y2 then 0 else 1:=by
 unfold cI orF cmpF
 simp only
 repeat' split
 all_goals omega
theorem cI_neg (x1 x2 y1 y2:Int):cI (y1,y2) (x1,x2)=- cI (x1,x2) (y1,y2):=by
 rw [cI_val,cI_val]
 repeat' split
 all_goals omega
theorem cI_three (x1 x2 y1 y2:Int):cI (x1,x2) (y1,y2)=-1∨cI (x1,x2) (y1,y2)=0∨cI (x1,x2) (y1,y2)=1:=by
 rw [cI_val]
 repeat' split
 all_goals omega
end Go.Proofs.YtjkbmfpomgcblaaGreatDoor
namespace Go.Proofs.YtjkbmfpomgcblaaGreatDoor
open Go.RowKit
def errC (e:Nat):Value:=if e=0 then .nilIface else .iface 44 (.int .i64 e)
def openV (r:List UInt8×Nat):Value:=.tuple #[.string ⟨r.1.toArray⟩,errC r.2]
theorem ext_list (s:ByteArray) (a b:Nat):(s.extract a b).data.toList=(s.data.toList.drop a).take (b - a):=by
 rw [ByteArray.data_extract,Array.toList_extract]
theorem undrew {w w':World} (h:Below w.drew.heap.size w.drew w'):Below w.heap.size w w':=((Below.refl _ _).drew).trans h
theorem take_bytes (s:ByteArray) (k:Nat):(⟨(s.data.toList.take k).toArray⟩:ByteArray)=s.extract 0 k:=by
 apply bytes_ext
 rw [ext_list,List.drop_zero,Nat.sub_zero]
theorem open_test (s:ByteArray) (k:Nat) (hk:s.size=k + 4):(s.extract k s.size).toList=s.data.toList.drop (s.data.toList.length - 4)∧s.data.toList.length - 4=k∧¬ s.data.toList.length < 4:=by
 have hl:s.data.toList.length=k + 4:=by simpa using hk
 refine ⟨?_,by omega,by omega⟩
 rw [toL,ext_list,hl,show k + 4 - 4=k by omega]
 apply List.take_of_length_le
 rw [List.length_drop]
 omega
set_option maxRecDepth 100000 in
set_option maxHeartbeats 1000000 in
theorem open_any (s:ByteArray) (w:World) (hs:s.size≤140737488351232) :
   Calls Tryz.prog 95 #[.string s] w fun e w'=>e=.returned (openV (openL s.data.toList))∧Below w.heap.size w w':=by
 by_cases h4:s.size < 4
 · have h:openL s.data.toList=([],7):=by unfold openL;rw [if_pos (by simpa using h4)]
   rw [h]
   go_enter Tryz.func95,Tryz.ntmps95
   go_wp2
   go_ret2
   exact ⟨rfl,Below.refl _ _⟩
 · obtain ⟨k,hk⟩:∃ k,s.size=k + 4:=⟨s.size - 4,by omega⟩
   have e1:(s.size:Int) - 4=(k:Int):=by omega
   have e2:(0:Int)≤(k:Int):=by omega
   have e3:(k:Int)≤(s.size:Int):=by omega
   have hk2:k≤s.size:=by omega
   have HZ:Hid ((s.extract 0 k).size≤140737488351232):=by
     have h:(s.extract 0 k).size≤140737488351232:=by simp;omega
     exact h
   obtain ⟨t1,t2,t3⟩:=open_test s k hk
   by_cases hq:(s.extract k s.size).toList=tail4 (sum (s.data.toList.take k))
   · have HO : Hid (openV (openL s.data.toList) = .tuple #[.string (s.extract 0 k), .nilIface]) := by
       have h:openL s.data.toList=(s.data.toList.take k,0):=by
         unfold openL
         rw [if_neg t3,if_pos (by rw [←t1,hq,t2]),t2]
       show openV _=_
       rw [h]
       unfold openV errC
       rw [if_pos rfl,take_bytes]
     have hb:((s.extract k s.size).toList == tail4 (sum (s.data.toList.take k)))=true:=beq_iff_eq.2 hq
     clear hq t1 t2 t3 hk
     go_enter Tryz.func95,Tryz.ntmps95
     go_wp2
     go_region_held3 (fun w'=>True) (trivial) (first | (go_at_call 60;refine (tail_any _ _ (by unfold maxLen;simp;omega)).mono ?_;rintro r w1 ⟨rfl,hb1⟩;have HB:=Lib.hid (undrew hb1);clear hb1))
     go_wp2_with fail
     refine (clone_s _ _ HZ.out).mono ?_
     rintro r w2 ⟨rfl,hb2⟩
     have HB2:Hid (Below w.heap.size w w2):=HB.out.trans (hb2.mono HB.out.size)
     clear hb2
     go_wp2
     go_ret2
     exact ⟨by rw [HO.out];rfl,HB2.out⟩
   · have HO : Hid (openV (openL s.data.toList) = .tuple #[.string ⟨#[]⟩, .iface 44 (.int .i64 15)]) := by
       have h:openL s.data.toList=([],15):=by
         unfold openL
         rw [if_neg t3,if_neg (by rw [←t1,t2];exact hq)]
       show openV _=_
       rw [h]
       rfl
     have hb:((s.extract k s.size).toList == tail4 (sum (s.data.toList.take k)))=false:=beq_eq_false_iff_ne.2 hq
     clear hq t1 t2 t3 hk
     go_enter Tryz.func95,Tryz.ntmps95
     go_wp2
     go_region_held3 (fun w'=>True) (trivial) (first | (go_at_call 60;refine (tail_any _ _ (by unfold maxLen;simp;omega)).mono ?_;rintro r w1 ⟨rfl,hb1⟩;have HB:=Lib.hid (undrew hb1);clear hb1))
     go_wp2
     go_ret2
     exact ⟨by rw [HO.out];rfl,HB.out⟩
end Go.Proofs.YtjkbmfpomgcblaaGreatDoor
namespace Go.Proofs.YtjkbmfpomgcblaaGreatDoor
open Go.RowKit
set_option maxRecDepth 100000 in
set_option maxHeartbeats 2000000 in
theorem within_any (x1 x2:Int) (vf vh:Value) (f h:List Ent) (w:World) (hf:IsEnts w vf f) (hh:IsEnts w vh h) (hlf:f.length≤9223372036854775807) (hlh:h.length≤9223372036854775807) (b:Bool) (hb:wiF (x1,x2) f h=b) :
   Calls Tryz.prog 147 #[.agg #[.int .i64 x1,.int .i64 x2],vf,vh] w fun e w'=>e=.returned (.bool b)∧Below w.heap.size w w':=by
 subst hb
 obtain ⟨p,hp⟩:∃ p,ofF f x2=p:=⟨_,rfl⟩
 obtain ⟨q,hq⟩:∃ q,ofF h x2=q:=⟨_,rfl⟩
 have HP:=Lib.hid hp
 have HQ:=Lib.hid hq
 have HLF:=Lib.hid hlf
 have HLH:=Lib.hid hlh
 have HF:Hid (IsEnts (w.alloc (.cells #[.int .i64 x1,.int .i64 x2] 57)).drew vf f):=Lib.hid ((hf.alloc _).drewN 1)
 have HH:Hid (IsEnts (w.alloc (.cells #[.int .i64 x1,.int .i64 x2] 57)).drew vh h):=Lib.hid ((hh.alloc _).drewN 1)
 have c0:(w.alloc (.cells #[.int .i64 x1,.int .i64 x2] 57)).cell? ⟨w.heap.size,0,none⟩=some (.int .i64 x1)∧(w.alloc (.cells #[.int .i64 x1,.int .i64 x2] 57)).cell? ⟨w.heap.size,1,none⟩=some (.int .i64 x2):=by simp
 have hval:wiF (x1,x2) f h=(decide (p < x1) && decide (x1≤q)):=by unfold wiF;simp only;rw [hp,hq]
 have HB0:Hid (Below w.heap.size w (w.alloc (.cells #[.int .i64 x1,.int .i64 x2] 57)).drew):=Lib.hid ((Below.refl _ _).alloc (Nat.le_refl _) _).drew
 by_cases h1:p < x1
 · by_cases h2:x1≤q
   · have HW:Hid (wiF (x1,x2) f h=true):=Lib.hid (by rw [hval,decide_eq_true h1,decide_eq_true h2];rfl)
     clear hf hh hp hq hlf hlh hval
     rw [HW.out]
     go_enter Tryz.func147,Tryz.ntmps147
     go_wp2
     go_region_held3 (fun w'=>w'.cell? ⟨w.heap.size,0,none⟩=some (.int .i64 x1)∧w'.cell? ⟨w.heap.size,1,none⟩=some (.int .i64 x2)) (first | exact c0 | exact c2 | exact c3) (first
       | (go_at_call 196;((with_reducible refine (vofI_as vf f x2 p _ HF.out HLF.out HP.out).mono ?_);rintro r w2 ⟨rfl,hb2⟩;have c2:w2.cell? ⟨w.heap.size,0,none⟩=some (.int .i64 x1)∧w2.cell? ⟨w.heap.size,1,none⟩=some (.int .i64 x2):=⟨(hb2.cell (by simp)).trans c0.1,(hb2.cell (by simp)).trans c0.2⟩;have HB2:Hid (Below w.heap.size w w2):=(HB0.out.trans (hb2.mono (by simp)));have HH2:=Lib.hid (HH.out.below hb2);have HZ2:Hid (w.heap.size < w2.heap.size):=(Nat.lt_of_lt_of_le (by simp) hb2.size);clear hb2))
       | (go_at_call 196;((with_reducible refine (vofI_as vh h x2 q w2 HH2.out HLH.out HQ.out).mono ?_);rintro r w3 ⟨rfl,hb3⟩;have c3:w3.cell? ⟨w.heap.size,0,none⟩=some (.int .i64 x1)∧w3.cell? ⟨w.heap.size,1,none⟩=some (.int .i64 x2):=⟨(hb3.cell HZ2.out).trans c2.1,(hb3.cell HZ2.out).trans c2.2⟩;have HB3:Hid (Below w.heap.size w w3):=(HB2.out.trans (hb3.mono HB2.out.size));clear hb3)))
     go_wp2
     go_ret
     exact ⟨rfl,HB3.out⟩
   · have HW:Hid (wiF (x1,x2) f h=false):=Lib.hid (by rw [hval,decide_eq_true h1,decide_eq_false h2];rfl)
     have d7:decide (x1≤q)=false:=decide_eq_false h2
     clear hf hh hp hq hlf hlh hval h2
     rw [HW.out]
     go_enter Tryz.func147,Tryz.ntmps147
     go_wp2
     go_region_held3 (fun w'=>w'.cell? ⟨w.heap.size,0,none⟩=some (.int .i64 x1)∧w'.cell? ⟨w.heap.size,1,none⟩=some (.int .i64 x2)) (first | exact c0 | exact c2 | exact c3) (first
       | (go_at_call 196;((with_reducible refine (vofI_as vf f x2 p _ HF.out HLF.out HP.out).mono ?_);rintro r w2 ⟨rfl,hb2⟩;have c2:w2.cell? ⟨w.heap.size,0,none⟩=some (.int .i64 x1)∧w2.cell? ⟨w.heap.size,1,none⟩=some (.int .i64 x2):=⟨(hb2.cell (by simp)).trans c0.1,(hb2.cell (by simp)).trans c0.2⟩;have HB2:Hid (Below w.heap.size w w2):=(HB0.out.trans (hb2.mono (by simp)));have HH2:=Lib.hid (HH.out.below hb2);have HZ2:Hid (w.heap.size < w2.heap.size):=(Nat.lt_of_lt_of_le (by simp) hb2.size);clear hb2))
       | (go_at_call 196;((with_reducible refine (vofI_as vh h x2 q w2 HH2.out HLH.out HQ.out).mono ?_);rintro r w3 ⟨rfl,hb3⟩;have c3:w3.cell? ⟨w.heap.size,0,none⟩=some (.int .i64 x1)∧w3.cell? ⟨w.heap.size,1,none⟩=some (.int .i64 x2):=⟨(hb3.cell HZ2.out).trans c2.1,(hb3.cell HZ2.out).trans c2.2⟩;have HB3:Hid (Below w.heap.size w w3):=(HB2.out.trans (hb3.mono HB2.out.size));clear hb3)))
     go_wp2
     go_ret
     exact ⟨rfl,HB3.out⟩
 · have HW:Hid (wiF (x1,x2) f h=false):=Lib.hid (by rw [hval,decide_eq_false h1];rfl)
   have d6:decide (p < x1)=false:=decide_eq_false h1
   clear hf hh hp hq hlf hlh hval h1
   rw [HW.out]
   go_enter Tryz.func147,Tryz.ntmps147
   go_wp2
   refine wp_region_held_drew (S:=fun w'=>w'.cell? ⟨w.heap.size,0,none⟩=some (.int .i64 x1)∧w'.cell? ⟨w.heap.size,1,none⟩=some (.int .i64 x2)) (by kernel_rfl) c0 (fun hHeld=>?_)
   refine wpAnyH_take (i:=0) (v:=?v0) rfl (by kernel_rfl) (by kernel_rfl) (by kernel_rfl) (fun _ _ _ h=>h) (Or.inl ⟨by rfl,?h0⟩) (by assumption) ?r0
   case h0=>(intro W hSw;(try dsimp only at hSw);go_simp;all_goals (with_reducible rfl))
   try simp only [Act.put,List.getElem_toArray,List.getElem_cons_zero,List.setIfInBounds_toArray,List.set_cons_zero,List.set_cons_succ]
   refine wpAnyH_take (i:=1) (v:=?v1) rfl (by kernel_rfl) (by kernel_rfl) (by kernel_rfl) (fun _ _ _ h=>h) (Or.inl ⟨by rfl,?h1⟩) (by assumption) ?r1
   case h1=>(intro W hSw;(try dsimp only at hSw);go_simp;all_goals (with_reducible rfl))
   try simp only [Act.put,List.getElem_toArray,List.getElem_cons_zero,List.getElem_cons_succ,List.setIfInBounds_toArray,List.set_cons_zero,List.set_cons_succ]
   refine wpAnyH_take (i:=2) (v:=?v2) rfl (by kernel_rfl) (by kernel_rfl) (by kernel_rfl) (fun _ _ _ h=>h) (Or.inl ⟨by rfl,?h2⟩) (by assumption) ?r2
   case h2=>(intro W hSw;(try dsimp only at hSw);go_simp;all_goals (with_reducible rfl))
   try simp only [Act.put,List.getElem_toArray,List.getElem_cons_zero,List.getElem_cons_succ,List.setIfInBounds_toArray,List.set_cons_zero,List.set_cons_succ]
   refine wpAnyH_take (i:=3) (v:=?v3) rfl (by kernel_rfl) (by kernel_rfl) (by kernel_rfl) (fun _ _ _ h=>h) (Or.inl ⟨by rfl,?h3⟩) (by assumption) ?r3
   case h3=>(intro W hSw;(try dsimp only at hSw);go_simp;all_goals (with_reducible rfl))
   try simp only [Act.put,List.getElem_toArray,List.getElem_cons_zero,List.getElem_cons_succ,List.setIfInBounds_toArray,List.set_cons_zero,List.set_cons_succ]
   refine wpAnyH_take (i:=4) (v:=?v4) rfl (by kernel_rfl) (by kernel_rfl) (by kernel_rfl) (fun _ _ _ h=>h) (Or.inl ⟨by rfl,?h4⟩) (by assumption) ?r4
   case h4=>(intro W hSw;(try dsimp only at hSw);go_simp;all_goals (with_reducible rfl))
   try simp only [Act.put,List.getElem_toArray,List.getElem_cons_zero,List.getElem_cons_succ,List.setIfInBounds_toArray,List.set_cons_zero,List.set_cons_succ]
   refine wpAnyH_ready (rs:=[5]) (by kernel_rfl) (by simp) ?_
   refine AllReadyH.cons rfl (fun K hK=>?_) AllReadyH.nil
   go_simp
   refine (vofI_as vf f x2 p _ HF.out HLF.out HP.out).mono ?_
   rintro r w2 ⟨rfl,hb2⟩
   have c2:w2.cell? ⟨w.heap.size,0,none⟩=some (.int .i64 x1)∧w2.cell? ⟨w.heap.size,1,none⟩=some (.int .i64 x2):=⟨(hb2.cell (by simp)).trans c0.1,(hb2.cell (by simp)).trans c0.2⟩
   have HB2:Hid (Below w.heap.size w w2):=HB0.out.trans (hb2.mono (by simp))
   clear hb2
   refine hK.out _ _ c2 (fun hHeld2=>?_)
   clear hK hHeld
   try simp only [Act.put,List.getElem_toArray,List.getElem_cons_zero,List.getElem_cons_succ,List.setIfInBounds_toArray,List.set_cons_zero,List.set_cons_succ]
   refine wpAnyH_take (i:=6) (v:=?v6) rfl (by kernel_rfl) (by kernel_rfl) (by kernel_rfl) (fun _ _ _ h=>h) (Or.inl ⟨by rfl,?h6⟩) (by assumption) ?r6
   case h6=>(intro W hSw;(try dsimp only at hSw);go_simp;all_goals (with_reducible rfl))
   try simp only [Act.put,List.getElem_toArray,List.getElem_cons_zero,List.getElem_cons_succ,List.setIfInBounds_toArray,List.set_cons_zero,List.set_cons_succ]
   refine wpAnyH_take (i:=7) (v:=?v7) rfl (by kernel_rfl) (by kernel_rfl) (by kernel_rfl) (fun _ _ _ h=>h) (Or.inl ⟨by rfl,?h7⟩) (by assumption) ?r7
   case h7=>(intro W hSw;(try dsimp only at hSw);go_simp;all_goals (with_reducible rfl))
   try simp only [Act.put,List.getElem_toArray,List.getElem_cons_zero,List.getElem_cons_succ,List.setIfInBounds_toArray,List.set_cons_zero,List.set_cons_succ]
   refine wpAnyH_take (i:=8) (v:=undef) rfl (by kernel_rfl) (by kernel_rfl) (by kernel_rfl) (fun _ _ _ h=>h) (Or.inr ⟨by rfl,rfl⟩) (by assumption) ?_
   try simp only [Act.put,List.getElem_toArray,List.getElem_cons_zero,List.getElem_cons_succ,List.setIfInBounds_toArray,List.set_cons_zero,List.set_cons_succ]
   refine wpAnyH_take (i:=10) (v:=undef) rfl (by kernel_rfl) (by kernel_rfl) (by kernel_rfl) (fun _ _ _ h=>h) (Or.inr ⟨by rfl,rfl⟩) (by assumption) ?_
   try simp only [Act.put,List.getElem_toArray,List.getElem_cons_zero,List.getElem_cons_succ,List.setIfInBounds_toArray,List.set_cons_zero,List.set_cons_succ]
   refine wpAnyH_take (i:=11) (v:=undef) rfl (by kernel_rfl) (by kernel_rfl) (by kernel_rfl) (fun _ _ _ h=>h) (Or.inr ⟨by rfl,rfl⟩) (by assumption) ?_
   try simp only [Act.put,List.getElem_toArray,List.getElem_cons_zero,List.getElem_cons_succ,List.setIfInBounds_toArray,List.set_cons_zero,List.set_cons_succ]
   refine wpAnyH_take (i:=9) (v:=undef) rfl (by kernel_rfl) (by kernel_rfl) (by kernel_rfl) (fun _ _ _ h=>h) (Or.inr ⟨by rfl,rfl⟩) (by assumption) ?_
   try simp only [Act.put,List.getElem_toArray,List.getElem_cons_zero,List.getElem_cons_succ,List.setIfInBounds_toArray,List.set_cons_zero,List.set_cons_succ]
   refine wpAnyH_take (i:=12) (v:=undef) rfl (by kernel_rfl) (by kernel_rfl) (by kernel_rfl) (fun _ _ _ h=>h) (Or.inr ⟨by rfl,rfl⟩) (by assumption) ?_
   try simp only [Act.put,List.getElem_toArray,List.getElem_cons_zero,List.getElem_cons_succ,List.setIfInBounds_toArray,List.set_cons_zero,List.set_cons_succ]
   refine wpAnyH_take (i:=13) (v:=undef) rfl (by kernel_rfl) (by kernel_rfl) (by kernel_rfl) (fun _ _ _ h=>h) (Or.inr ⟨by rfl,rfl⟩) (by assumption) ?_
   try simp only [Act.put,List.getElem_toArray,List.getElem_cons_zero,List.getElem_cons_succ,List.setIfInBounds_toArray,List.set_cons_zero,List.set_cons_succ]
   refine wpAnyH_take (i:=14) (v:=undef) rfl (by kernel_rfl) (by kernel_rfl) (by kernel_rfl) (fun _ _ _ h=>h) (Or.inr ⟨by rfl,rfl⟩) (by assumption) ?_
   try simp only [Act.put,List.getElem_toArray,List.getElem_cons_zero,List.getElem_cons_succ,List.setIfInBounds_toArray,List.set_cons_zero,List.set_cons_succ]
   refine wpAnyH_take (i:=15) (v:=?v15) rfl (by kernel_rfl) (by kernel_rfl) (by kernel_rfl) (fun _ _ _ h=>h) (Or.inl ⟨by rfl,?h15⟩) (by assumption) ?r15
   case h15=>(intro W hSw;(try dsimp only at hSw);go_simp;all_goals (with_reducible rfl))
   try simp only [Act.put,List.getElem_toArray,List.getElem_cons_zero,List.getElem_cons_succ,List.setIfInBounds_toArray,List.set_cons_zero,List.set_cons_succ]
   refine wpAnyH_take (i:=16) (v:=?v16) rfl (by kernel_rfl) (by kernel_rfl) (by kernel_rfl) (fun _ _ _ h=>h) (Or.inl ⟨by rfl,?h16⟩) (by assumption) ?r16
   case h16=>(intro W hSw;(try dsimp only at hSw);go_simp;all_goals (with_reducible rfl))
   try simp only [Act.put,List.getElem_toArray,List.getElem_cons_zero,List.getElem_cons_succ,List.setIfInBounds_toArray,List.set_cons_zero,List.set_cons_succ]
   refine wpAnyH_done (by kernel_rfl) ?_ _
   go_wp2
   go_ret
   exact ⟨rfl,HB2.out⟩
end Go.Proofs.YtjkbmfpomgcblaaGreatDoor
namespace Go.Proofs.YtjkbmfpomgcblaaGreatDoor
open Go.RowKit
def wE (x:Wr):Nat:=wriE x.time x.rep x.kind x.key x.value x.n
def wid (x:Wr):Int×Int:=(x.time,x.rep)
def late (q x:Wr):Prop:=cI (wid x) (wid q)=1
instance (q x : Wr) : Decidable (late q x) := by unfold late; infer_instance
def lateO:Option Wr→Wr→Prop
 | none,_=>True
 | some q,x=>late q x
instance (p : Option Wr) (x : Wr) : Decidable (lateO p x) := by cases p <;> (unfold lateO; infer_instance)
def bwE (f h:List Ent) (p:Option Wr) (x:Wr):Nat:=if wE x≠0 then wE x else if ¬ lateO p x then 10 else if wiF (wid x) f h=false then 6 else 0
def bwr (f h:List Ent):List Wr→Nat→Option Wr→Nat×Int
 | [],_,_=>(0,-1)
 | x :: r,i,p=>if bwE f h p x≠0 then (bwE f h p x,(i:Int)) else bwr f h r (i + 1) (some x)
def bbE (f h:List Ent):Nat:=if (vrightF f).1≠0 then (vrightF f).1 else if (vrightF h).1≠0 then (vrightF h).1 else if covB h f=false then 13 else 0
def batF (f h:List Ent) (ws:List Wr):Nat×Int:=if bbE f h≠0 then (bbE f h,-1) else if 60 < ws.length then (4,-1) else bwr f h ws 0 none
theorem bwr_bad {f h:List Ent} {x:Wr} {r:List Wr} {i:Nat} {p:Option Wr} {e:Nat} (hx:bwE f h p x=e) (he:e≠0):bwr f h (x :: r) i p=(e,(i:Int)):=by subst hx;rw [bwr,if_pos he]
theorem bwr_good {f h:List Ent} {x:Wr} {r:List Wr} {i:Nat} {p:Option Wr} (hx:bwE f h p x=0):bwr f h (x :: r) i p=bwr f h r (i + 1) (some x):=by rw [bwr,if_neg (by rw [hx];simp)]
theorem batF_bb {f h:List Ent} {ws:List Wr} {e:Nat} (hx:bbE f h=e) (he:e≠0):batF f h ws=(e,-1):=by subst hx;unfold batF;rw [if_pos he]
theorem batF_many {f h:List Ent} {ws:List Wr} (hx:bbE f h=0) (hl:60 < ws.length):batF f h ws=(4,-1):=by unfold batF;rw [if_neg (by rw [hx];simp),if_pos hl]
theorem batF_rest {f h:List Ent} {ws:List Wr} (hx:bbE f h=0) (hl:¬ 60 < ws.length):batF f h ws=bwr f h ws 0 none:=by unfold batF;rw [if_neg (by rw [hx];simp),if_neg hl]
theorem bwE_w {f h:List Ent} {p:Option Wr} {x:Wr} {e:Nat} (hx:wE x=e) (he:e≠0):bwE f h p x=e:=by subst hx;unfold bwE;rw [if_pos he]
theorem bwE_order {f h:List Ent} {p:Option Wr} {x:Wr} (hx:wE x=0) (hl:¬ lateO p x):bwE f h p x=10:=by unfold bwE;rw [if_neg (by rw [hx];simp),if_pos hl]
theorem bwE_state {f h:List Ent} {p:Option Wr} {x:Wr} (hx:wE x=0) (hl:lateO p x) (hw:wiF (wid x) f h=false):bwE f h p x=6:=by unfold bwE;rw [if_neg (by rw [hx];simp),if_neg (by simpa using hl),if_pos hw]
theorem bwE_fine {f h:List Ent} {p:Option Wr} {x:Wr} (hx:wE x=0) (hl:lateO p x) (hw:wiF (wid x) f h=true):bwE f h p x=0:=by unfold bwE;rw [if_neg (by rw [hx];simp),if_neg (by simpa using hl),if_neg (by rw [hw];decide)]
theorem late_iff {q x:Wr}:late q x↔cI (wid q) (wid x)=-1:=by
 unfold late wid
 have:=cI_neg x.time x.rep q.time q.rep
 omega
end Go.Proofs.YtjkbmfpomgcblaaGreatDoor
namespace Go.Proofs.YtjkbmfpomgcblaaGreatDoor
open Go.RowKit Go.Extern.Stop Go.Stop Go.Extern
def errT (w:World):Prop:=w.cell? ⟨0,0,none⟩=some (.iface 229 (.agg #[.pointer (some ⟨5,29,none⟩)]))
def asWorld (w:World) (t:Addr):World :=
 ((w.alloc (.cells #[.pointer (some t)] 109)).alloc (.cells #[.pointer (some ⟨5,109,none⟩),.pointer (some ⟨w.heap.size,0,none⟩),.int .u64 150] 173)).alloc (.cells #[.pointer (some ⟨5,109,none⟩),.pointer (some ⟨w.heap.size,0,none⟩),.int .u64 150] 173)
theorem lt_of_cell {w:World} {a:Addr} {v:Value} (h:w.cell? a=some v):a.block < w.heap.size:=by
 rcases Nat.lt_or_ge a.block w.heap.size with h' | h'
 · exact h'
 · simp [World.cell?,Array.getElem?_eq_none h'] at h
set_option maxRecDepth 100000 in
set_option maxHeartbeats 4000000 in
theorem as_errno (e:Int) (t:Addr) (old:Value) (w:World) (hg:errT w) (ht0:w.cell? t=some old) (hf0:w.frozen? t=false) :
   Calls Tryz.prog 86 #[.iface 44 (.int .i64 e),.iface 109 (.pointer (some t))] w fun ev w'=>ev=.returned (.bool true)∧((asWorld w t).alloc (.cells #[.int .i64 e] 44)).setCell t (.int .i64 e)=w':=by
 unfold asWorld
 unfold errT at hg
 have h6:=@run_callFunc_extern Tryz.prog 137 _ (fun args=>ReflectliteValue.unpack (args.getD 0 (.tuple #[]))) Tryz.func137 (by kernel_rfl) (by kernel_rfl) (by kernel_rfl) (by kernel_rfl)
 have h7 := @run_callFunc_extern Tryz.prog 138 _ (ReflectliteValue.methodAny (ReflectliteValue.valueError "reflectlite.Value.Type" 0) (fun t _ _ _ => ReflectliteType.toType t)) Tryz.func138 (by kernel_rfl) (by kernel_rfl) (by kernel_rfl) (by kernel_rfl)
 have h8 := @run_callFunc_extern Tryz.prog 139 _ (ReflectliteValue.method (ReflectliteValue.valueError "reflectlite.Value.IsNil" 0) ReflectliteValue.isNil) Tryz.func139 (by kernel_rfl) (by kernel_rfl) (by kernel_rfl) (by kernel_rfl)
 have h27:=@run_callFunc_extern Tryz.prog 263 _ (ReflectliteType.abiMethod fun t=>do pure (.int .u8 (←Rtype.kind t))) Tryz.func263 (by kernel_rfl) (by kernel_rfl) (by kernel_rfl) (by kernel_rfl)
 have h37:=@run_callFunc_extern Tryz.prog 276 _ (ReflectliteType.method ReflectliteType.elem) Tryz.func276 (by kernel_rfl) (by kernel_rfl) (by kernel_rfl) (by kernel_rfl)
 have h38 := @run_callFunc_extern Tryz.prog 277 _ (ReflectliteType.relation "Implements" ReflectliteType.implements_) Tryz.func277 (by kernel_rfl) (by kernel_rfl) (by kernel_rfl) (by kernel_rfl)
 have h10:=@run_callFunc_extern Tryz.prog 188 _ ReflectliteType.typeOf Tryz.func188 (by kernel_rfl) (by kernel_rfl) (by kernel_rfl) (by kernel_rfl)
 have h35 := @run_callFunc_extern Tryz.prog 274 _ (ReflectliteType.relation "AssignableTo" ReflectliteType.assignableTo) Tryz.func274 (by kernel_rfl) (by kernel_rfl) (by kernel_rfl) (by kernel_rfl)
 have h11 := @run_callFunc_extern Tryz.prog 189 _ (ReflectliteValue.method (ReflectliteValue.valueError "reflectlite.Value.Elem" 0) ReflectliteValue.elem) Tryz.func189 (by kernel_rfl) (by kernel_rfl) (by kernel_rfl) (by kernel_rfl)
 have h12:=@run_callFunc_extern Tryz.prog 190 _ ReflectliteValue.set Tryz.func190 (by kernel_rfl) (by kernel_rfl) (by kernel_rfl) (by kernel_rfl)
 have tO:=As.typeOfE
 have mA:=As.methodAssignableTo
 have aE:=As.assignableE
 have vE:=As.valueOfE
 have f6:=As.valueOfP
 have f7:=As.typeP
 have mK:=As.methodKind
 have mE:=As.methodElem
 have mI:=As.methodImplements
 have kP:=As.kindP
 have kE:=As.kindE
 have eP:=As.elemP
 have iE:=As.implementsE
 have htl:=lt_of_cell ht0
 have hlt:0 < w.heap.size:=lt_of_cell hg
 have n8:=As.isNilP ⟨w.heap.size,0,none⟩ t ((w.alloc (.cells #[.pointer (some t)] 109)).alloc (.cells #[.pointer (some ⟨5,109,none⟩),.pointer (some ⟨w.heap.size,0,none⟩),.int .u64 150] 173)) (by simp)
 have hg2:((w.alloc (.cells #[.pointer (some t)] 109)).alloc (.cells #[.pointer (some ⟨5,109,none⟩),.pointer (some ⟨w.heap.size,0,none⟩),.int .u64 150] 173)).cell? ⟨0,0,none⟩=some (.iface 229 (.agg #[.pointer (some ⟨5,29,none⟩)])):=by
   rw [World.cell?_alloc_lt _ _ ⟨0,0,none⟩ (by simp only [World.size_alloc];omega),World.cell?_alloc_lt _ _ ⟨0,0,none⟩ hlt];exact hg
 have el:=As.elemVP ⟨w.heap.size,0,none⟩ t (((w.alloc (.cells #[.pointer (some t)] 109)).alloc (.cells #[.pointer (some ⟨5,109,none⟩),.pointer (some ⟨w.heap.size,0,none⟩),.int .u64 150] 173)).alloc (.cells #[.pointer (some ⟨5,109,none⟩),.pointer (some ⟨w.heap.size,0,none⟩),.int .u64 150] 173)) (by rw [World.cell?_alloc_lt _ _ ⟨w.heap.size,0,none⟩ (by simp;omega)];simp)
 have st:=As.setE t ⟨w.heap.size + 1 + 1 + 1,0,none⟩ e old ((((w.alloc (.cells #[.pointer (some t)] 109)).alloc (.cells #[.pointer (some ⟨5,109,none⟩),.pointer (some ⟨w.heap.size,0,none⟩),.int .u64 150] 173)).alloc (.cells #[.pointer (some ⟨5,109,none⟩),.pointer (some ⟨w.heap.size,0,none⟩),.int .u64 150] 173)).alloc (.cells #[.int .i64 e] 44))
   (by rw [World.cell?_alloc_at _ _ _ _ (by simp)];rfl)
   (by rw [World.cell?_alloc_lt _ _ t (by simp;omega),World.cell?_alloc_lt _ _ t (by simp;omega),World.cell?_alloc_lt _ _ t (by simp;omega),World.cell?_alloc_lt _ _ t htl];exact ht0)
   (by rw [World.frozen?_alloc_old _ _ t (by simp;omega),World.frozen?_alloc_old _ _ t (by simp;omega),World.frozen?_alloc_old _ _ t (by simp;omega),World.frozen?_alloc_old _ _ t (Nat.ne_of_lt htl)];exact hf0)
 go_enter Tryz.func86,Tryz.ntmps86
 go_wp2
 refine wp_loop_rounds 1 ?_
 rw [rounds_succ]
 go_wp2
 go_ret
 exact ⟨rfl,rfl⟩
end Go.Proofs.YtjkbmfpomgcblaaGreatDoor
namespace Go.Proofs.YtjkbmfpomgcblaaGreatDoor
open Go.RowKit
def sameV (f h:List Ent) (l:List Wr) (f2 h2:List Ent) (l2:List Wr):Bool:=decide (f=f2) && decide (h=h2) && decide (l=l2)
theorem sameV_self (f h:List Ent) (l:List Wr):sameV f h l f h l=true:=by simp [sameV]
def bat2 (w:World) (B:Nat) (a b c d e g:Value):Prop :=
 w.cell? ⟨B,0,none⟩=some a∧w.cell? ⟨B,1,none⟩=some b∧w.cell? ⟨B,2,none⟩=some c∧w.cell? ⟨B + 1,0,none⟩=some d∧w.cell? ⟨B + 1,1,none⟩=some e∧w.cell? ⟨B + 1,2,none⟩=some g
theorem bat2_new (w:World) (a b c d e g:Value) (t u:TypeId):bat2 ((w.alloc (.cells #[a,b,c] t)).alloc (.cells #[d,e,g] u)) w.heap.size a b c d e g:=by
 unfold bat2;simp
theorem bat2.drewN {w:World} {B:Nat} {a b c d e g:Value} (h:bat2 w B a b c d e g) (n:Nat):bat2 (w.drewN n) B a b c d e g:=h
theorem bat2.below {w w':World} {B:Nat} {a b c d e g:Value} {m:Nat} (h:bat2 w B a b c d e g) (hb:Below m w w') (hm:B + 1 < m):bat2 w' B a b c d e g :=
 ⟨(hb.cell (Nat.lt_of_succ_lt hm)).trans h.1,(hb.cell (Nat.lt_of_succ_lt hm)).trans h.2.1,(hb.cell (Nat.lt_of_succ_lt hm)).trans h.2.2.1,(hb.cell hm).trans h.2.2.2.1,(hb.cell hm).trans h.2.2.2.2.1,(hb.cell hm).trans h.2.2.2.2.2⟩
end Go.Proofs.YtjkbmfpomgcblaaGreatDoor
