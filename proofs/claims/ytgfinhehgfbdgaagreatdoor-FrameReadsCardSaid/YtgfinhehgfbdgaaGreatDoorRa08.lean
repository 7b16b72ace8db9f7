import Derived.Test.YtgfinhehgfbdgaaGreatDoorRa05
namespace Go.Proofs.YtgfinhehgfbdgaaGreatDoor
open Go.RowKit
def errC (e:Nat):Value:=if e=0 then .nilIface else .iface 27 (.int .i64 e)
def openV (r:List UInt8×Nat):Value:=.tuple #[.string ⟨r.1.toArray⟩,errC r.2]
theorem ext_list (s:ByteArray) (a b:Nat):(s.extract a b).data.toList=(s.data.toList.drop a).take (b-a):=by
 rw [ByteArray.data_extract,Array.toList_extract]
theorem undrew {w w':World} (h:Below w.drew.heap.size w.drew w'):Below w.heap.size w w':=((Below.refl _ _).drew).trans h
theorem take_bytes (s:ByteArray) (k:Nat):(⟨(s.data.toList.take k).toArray⟩:ByteArray)=s.extract 0 k:=by
 apply bytes_ext
 rw [ext_list,List.drop_zero,Nat.sub_zero]
theorem open_test (s:ByteArray) (k:Nat) (hk:s.size=k+4):(s.extract k s.size).toList=s.data.toList.drop (s.data.toList.length-4)∧s.data.toList.length-4=k∧¬ s.data.toList.length<4:=by
 have hl:s.data.toList.length=k+4:=by simpa using hk
 refine ⟨?_,by omega,by omega⟩;rw [toL,ext_list,hl,show k+4-4=k by omega];apply List.take_of_length_le
 rw [List.length_drop];omega
set_option maxRecDepth 100000 in
set_option maxHeartbeats 1000000 in
theorem open_any (s:ByteArray) (w:World) (hs:s.size≤140737488351232) :
   Calls Tryz.prog 95 #[.string s] w fun e w'=>e=.returned (openV (openL s.data.toList))∧Below w.heap.size w w':=by
 by_cases h4:s.size<4
 · have h:openL s.data.toList=([],7):=by unfold openL;rw [if_pos (by simpa using h4)]
   rw [h];go_enter Tryz.func95,Tryz.ntmps95
   go_wp2;go_ret2;exact ⟨rfl,Below.refl _ _⟩
 · obtain ⟨k,hk⟩:∃ k,s.size=k+4:=⟨s.size-4,by omega⟩;have e1:(s.size:Int)-4=(k:Int):=by omega
   have e2:(0:Int)≤(k:Int):=by omega
   have e3:(k:Int)≤(s.size:Int):=by omega
   have hk2:k≤s.size:=by omega
   have HZ:Hid ((s.extract 0 k).size≤140737488351232):=by
     have h:(s.extract 0 k).size≤140737488351232:=by simp;omega
     exact h
   obtain ⟨t1,t2,t3⟩:=open_test s k hk;by_cases hq:(s.extract k s.size).toList=tail4 (sum (s.data.toList.take k))
   · have HO : Hid (openV (openL s.data.toList) = .tuple #[.string (s.extract 0 k), .nilIface]) := by
       have h:openL s.data.toList=(s.data.toList.take k,0):=by
         unfold openL;rw [if_neg t3,if_pos (by rw [←t1,hq,t2]),t2]
       show openV _=_
       rw [h];unfold openV errC;rw [if_pos rfl,take_bytes]
     have hb:((s.extract k s.size).toList == tail4 (sum (s.data.toList.take k)))=true:=beq_iff_eq.2 hq;clear hq t1 t2 t3 hk;go_enter Tryz.func95,Tryz.ntmps95
     go_wp2;go_region_held3 (fun w'=>True) (trivial) (first | (go_at_call 70;refine (tail_any _ _ (by unfold maxLen;simp;omega)).mono ?_;rintro r w1 ⟨rfl,hb1⟩;have HB:=Lib.hid (undrew hb1);clear hb1))
     go_wp2_with fail
     refine (clone_s _ _ HZ.out).mono ?_;rintro r w2 ⟨rfl,hb2⟩;have HB2:Hid (Below w.heap.size w w2):=HB.out.trans (hb2.mono HB.out.size);clear hb2;go_wp2;go_ret2;exact ⟨by rw [HO.out];rfl,HB2.out⟩
   · have HO : Hid (openV (openL s.data.toList) = .tuple #[.string ⟨#[]⟩, .iface 27 (.int .i64 15)]) := by
       have h:openL s.data.toList=([],15):=by
         unfold openL;rw [if_neg t3,if_neg (by rw [←t1,t2];exact hq)]
       show openV _=_
       rw [h]
       rfl
     have hb:((s.extract k s.size).toList == tail4 (sum (s.data.toList.take k)))=false:=beq_eq_false_iff_ne.2 hq;clear hq t1 t2 t3 hk;go_enter Tryz.func95,Tryz.ntmps95
     go_wp2;go_region_held3 (fun w'=>True) (trivial) (first | (go_at_call 70;refine (tail_any _ _ (by unfold maxLen;simp;omega)).mono ?_;rintro r w1 ⟨rfl,hb1⟩;have HB:=Lib.hid (undrew hb1);clear hb1))
     go_wp2;go_ret2;exact ⟨by rw [HO.out];rfl,HB.out⟩
end Go.Proofs.YtgfinhehgfbdgaaGreatDoor
namespace Go.Proofs.YtgfinhehgfbdgaaGreatDoor
open Go.RowKit
def lastB (T:List ByteArray) (s:ByteArray) (i:Nat):Int:=if idxB T s<i then (idxB T s:Int) else -1
theorem lastB_hit {T:List ByteArray} (hn:T.Nodup) {s:ByteArray} {i:Nat} (h:T[i]? = some s):lastB T s (i+1)=i:=by
 unfold lastB;rw [idxB_at hn h,if_pos (by omega)]
theorem lastB_miss {T:List ByteArray} {s x:ByteArray} {i:Nat} (h:T[i]? = some x) (hx:x≠s):lastB T s (i+1)=lastB T s i:=by
 unfold lastB;by_cases hi:idxB T s<i
 · rw [if_pos hi,if_pos (by omega)]
 · rw [if_neg hi];by_cases hs:s∈T
   · have : idxB T s ≠ i := by
       intro e;have:=idxB_get hs;rw [e,h] at this;exact hx (Option.some.inj this)
     rw [if_neg (by omega)]
   · have h1:=idxB_new hs;have h2:=(List.getElem?_eq_some_iff.1 h).1;rw [if_neg (by omega)]
theorem lastB_zero (T:List ByteArray) (s:ByteArray):lastB T s 0=-1:=by unfold lastB;rw [if_neg (by omega)]
theorem lastB_in {T:List ByteArray} {s:ByteArray} (h:s∈T):lastB T s T.length=idxB T s:=by unfold lastB;rw [if_pos (idxB_lt h)]
theorem lastB_new {T:List ByteArray} {s:ByteArray} (h:s ∉ T):lastB T s T.length=-1:=by unfold lastB;rw [idxB_new h,if_neg (by omega)]
set_option maxRecDepth 100000 in
set_option maxHeartbeats 4000000 in
theorem rtab_any (v:Value) (l:List ByteArray) (w:World) (hv:IsTexts w v l) (hl:l.length≤1000000) :
   Calls Tryz.prog 72 #[v] w (TabIs w l):=by
 obtain ⟨a1,c1,rfl,_,f1⟩:=hv;have F1:=Lib.hid f1;obtain ⟨n,hn⟩:∃ n,n=l.length:=⟨_,rfl⟩;rw [←hn] at hl ⊢;have HN:=Lib.hid hn;clear f1 hn;go_enter Tryz.func72,Tryz.ntmps72
 go_wp2
 go_loopw [4, 5, 12] (fun t a i wr => ∃ (k : Nat) (T : List ByteArray) (N : List Nat), k ≤ n ∧ i = .int .i64 k ∧ T.length ≤ k ∧ N.length = k ∧ T.Nodup ∧ tabK [] l = tabK T (l.drop k) ∧ atK [] l = N ++ atK T (l.drop k) ∧
     ownsS wr w.heap.size t T∧ownsN wr w.heap.size a N∧Below w.heap.size w wr) (fun _ _ i _=>n-(intOf i).toNat)
 case atStart=>exact ⟨0,[],[],Nat.zero_le _,rfl,Nat.le_refl _,rfl,List.nodup_nil,rfl,rfl,ownsS_nil _ _,ownsN_nil _ _,Below.refl _ _⟩
 case round =>
   obtain ⟨k,T,N,hk,rfl,hT,hN,hnd,ht,ha,hos,hon,hbel⟩:=hrel;have HT:=Lib.hid ht;have HA:=Lib.hid ha;have HO:=Lib.hid hos;have HQ:=Lib.hid hon;have HB:=Lib.hid hbel;have HNL:=Lib.hid hN;have HTL:=Lib.hid hT;have HND:=Lib.hid hnd;obtain ⟨ad,cp,rfl,_,g1⟩:=hos.isTexts;have G1:=Lib.hid g1;clear ht ha hos hon hbel hN hT hnd g1;by_cases hlt:k<n
   · obtain ⟨s, hs⟩ : ∃ s, l[k]? = some s := ⟨l[k]'(by have := HN.out; omega), List.getElem?_eq_getElem _⟩;obtain ⟨b1,o1,rfl,hb1,p0⟩:=F1.out k s hs;have q0:=(HB.out.cell (p:=⟨b1,o1+k,none⟩) hb1).trans p0;obtain ⟨m,hm⟩:∃ m,m=T.length:=⟨_,rfl⟩;have HM:=Lib.hid hm;have hml:m≤1000000:=by have:=HTL.out;omega
     rw [←hm];clear p0 hm;go_wp2
     go_loop [8,18] (fun x i=>∃ q:Nat,q≤m∧i=.int .i64 q∧x=.int .i64 (lastB T s q)) (fun _ i=>m-(intOf i).toNat)
     case atStart=>exact ⟨0,Nat.zero_le _,rfl,by rw [lastB_zero]⟩
     case round =>
       obtain ⟨q,hq,rfl,rfl⟩:=hrel;by_cases hlt2:q<m
       · obtain ⟨x, hx⟩ : ∃ x, T[q]? = some x := ⟨T[q]'(by have := HM.out; omega), List.getElem?_eq_getElem _⟩;obtain ⟨b2,o2,rfl,hb2,p2⟩:=G1.out q x hx;by_cases he:x=s
         · subst he;have HH:=Lib.hid (lastB_hit HND.out hx);have hb:=beq_same x;clear hx;go_wp2
           go_round
           case rel=>exact ⟨q+1,by omega,by go_num,by rw [HH.out]⟩
           case measure=>simp [intOf];omega
         · have HH:=Lib.hid (lastB_miss hx he);have hb:=beq_diff he;clear hx;go_wp2
           go_round
           case rel=>exact ⟨q+1,by omega,by go_num,by rw [HH.out]⟩
           case measure=>simp [intOf];omega
       · obtain rfl:q=m:=by omega
         by_cases hin:s∈T
         · have HJ:=Lib.hid (show lastB T s q=idxB T s by rw [HM.out];exact lastB_in hin);have HT2:=Lib.hid (HT.out.trans (tabK_in hs hin));have HA2:=Lib.hid (HA.out.trans (congrArg (N ++ ·) (atK_in hs hin)));obtain ⟨j,hj⟩:∃ j,idxB T s=j:=⟨_,rfl⟩;have hjm:j≤1000000:=by have:=idxB_lt hin;have:=HM.out;omega
           rw [hj] at HJ HA2;rw [HJ.out];clear hs hj;go_wp2_with (at_builtin;refine wpList_append_int rfl _ _ rfl w.heap.size _ N rfl (HQ.out.alloc _) ⟨wr.heap.size,0,none⟩ 1 rfl j ?c1 ?c2 ?c3 ?_)
           case c2=>have:=HNL.out;omega
           case c3=>have:=HB.out.size;simp;omega
           intro g cap w1 ho1 hg1;have hbel1:Below w.heap.size w w1:=(HB.out.alloc HB.out.size _).grown hg1 (by have:=HB.out.size;simp;omega) (fun g hg=>(HQ.out.lt g hg).1);have hs1:ownsS w1 w.heap.size _ T:=World.ownsRow.kept (HO.out.alloc _) hg1 (rows_apart HO.out HQ.out (show 9≠3 by decide));have ha1:atK [] l=(N++[j])++atK T (l.drop (k+1)):=by rw [HA2.out];simp
           have hn1:(N++[j]).length=k+1:=by have:=HNL.out;simp;omega
           have hTn:T.length=q:=HM.out.symm;rw [←hTn];have HX:=Lib.hid (And.intro hbel1 (And.intro hs1 (And.intro ha1 (And.intro hn1 ho1))));clear hbel1 hs1 ha1 hn1 ho1 hg1;go_wp2;go_roundw
           case rel=>exact ⟨k+1,T,N++[j],by omega,by go_num,by have:=HTL.out;omega,HX.out.2.2.2.1,HND.out,HT2.out,HX.out.2.2.1,HX.out.2.1,by simpa using HX.out.2.2.2.2,HX.out.1⟩
           case measure=>simp [intOf];omega
         · have HJ:=Lib.hid (show lastB T s q=-1 by rw [HM.out];exact lastB_new hin);have HT2:=Lib.hid (HT.out.trans (tabK_new hs hin));have HA2:=Lib.hid (HA.out.trans (congrArg (N ++ ·) (atK_new hs hin)));rw [HJ.out];clear hs;have hTn:T.length=q:=HM.out.symm;rw [←hTn];have hTm:T.length≤1000000:=by omega
           have HTE:=Lib.hid hTn;clear hTn;go_wp2_with (at_builtin;refine wpList_append_str rfl _ _ rfl w.heap.size _ T rfl (HO.out.alloc _) ⟨wr.heap.size,0,none⟩ 1 rfl s (by simp [Addr.add]) (by have:=HTL.out;omega) (by have:=HB.out.size;simp;omega) ?_)
           intro g cap w3 ho3 hg3;have HB3:Hid (Below w.heap.size w w3):=(HB.out.alloc HB.out.size _).grown hg3 (by have:=HB.out.size;simp;omega) (fun g hg=>(HO.out.lt g hg).1);have HN3:=Lib.hid (show ownsN w3 w.heap.size _ N from World.ownsRow.kept (HQ.out.alloc _) hg3 (rows_apart HQ.out HO.out (show 3≠9 by decide)));have HS3:=Lib.hid ho3;clear ho3 hg3 HB HO HQ;go_wp2_with (at_builtin;refine wpList_append_int rfl _ _ rfl w.heap.size _ N rfl (HN3.out.alloc _) ⟨w3.heap.size,0,none⟩ 1 rfl T.length (by simp [Addr.add]) (by have:=HNL.out;omega) (by have:=HB3.out.size;simp;omega) ?_)
           intro g' cap' w4 ho4 hg4;have HB4:Hid (Below w.heap.size w w4):=(HB3.out.alloc HB3.out.size _).grown hg4 (by have:=HB3.out.size;simp;omega) (fun g hg=>(HN3.out.lt g hg).1);have HS4:=Lib.hid (show ownsS w4 w.heap.size _ (T++[s]) from World.ownsRow.kept (HS3.out.alloc _) hg4 (rows_apart HS3.out HN3.out (show 9≠3 by decide)));have HN4:=Lib.hid ho4;have HA4:Hid (atK [] l=(N++[T.length])++atK (T++[s]) (l.drop (k+1))):=Lib.hid (show _=_ by rw [HA2.out];simp);have HL4:Hid ((N++[T.length]).length=k+1∧(T++[s]).length≤k+1):=Lib.hid (show _∧_ by have:=HNL.out;have:=HTL.out;simp;omega);have HD4:Hid ((T++[s]).Nodup):=Lib.hid (show _ by have:=addK_nodup (s:=s) HND.out;rwa [addK_new hin] at this);clear ho4 hg4 HB3 HS3 HN3 HA2;go_wp2;go_roundw
           case rel=>exact ⟨k+1,T++[s],N++[T.length],by omega,by go_num,HL4.out.2,HL4.out.1,HD4.out,HT2.out,HA4.out,HS4.out,HN4.out,HB4.out⟩
           case measure=>simp [intOf];omega
   · have HT2:Hid (tabK [] l=T):=Lib.hid (show _=_ by rw [HT.out,List.drop_eq_nil_of_le (by have:=HN.out;omega)];rfl);have HA2:Hid (atK [] l=N):=Lib.hid (show _=_ by rw [HA.out,List.drop_eq_nil_of_le (by have:=HN.out;omega)];simp [atK]);go_wp2;go_ret2;refine ⟨_,_,rfl,?_,?_,HB.out⟩
     · rw [HT2.out];exact HO.out
     · rw [HA2.out];exact HQ.out
end Go.Proofs.YtgfinhehgfbdgaaGreatDoor
namespace Go.Proofs.YtgfinhehgfbdgaaGreatDoor
open Go.ChangeShapes Go.WideShapes Go.ChangeAt Go.RowKit
def BatIs (W:World) (vf vh vw:Value) (f h:List Ent) (l:List Wr):Prop :=
 IsEnts W vf f∧IsEnts W vh h∧IsWrs W vw l∧f.length≤9223372036854775807∧h.length≤9223372036854775807∧l.length≤9223372036854775807∧∀ t∈l,WrOk t
theorem BatIs.below {w w':World} {vf vh vw:Value} {f h:List Ent} {l:List Wr} (hx:BatIs w vf vh vw f h l) (hb:Below w.heap.size w w'):BatIs w' vf vh vw f h l :=
 ⟨hx.1.below hb,hx.2.1.below hb,hx.2.2.1.below hb,hx.2.2.2⟩
theorem BatIs.alloc {w:World} {vf vh vw:Value} {f h:List Ent} {l:List Wr} (hx:BatIs w vf vh vw f h l) (o:Obj):BatIs (w.alloc o) vf vh vw f h l :=
 hx.below ((Below.refl _ _).alloc (Nat.le_refl _) o)
end Go.Proofs.YtgfinhehgfbdgaaGreatDoor
namespace Go.Proofs.YtgfinhehgfbdgaaGreatDoor
theorem cI_val (x1 x2 y1 y2:Int):cI (x1,x2) (y1,y2)=if x1<y1∨x1=y1∧x2<y2 then -1 else if x1=y1∧x2=y2 then 0 else 1:=by
 unfold cI orF cmpF;simp only
 repeat' split
 all_goals omega
theorem cI_neg (x1 x2 y1 y2:Int):cI (y1,y2) (x1,x2)=- cI (x1,x2) (y1,y2):=by
 rw [cI_val,cI_val]
 repeat' split
 all_goals omega
theorem cI_three (x1 x2 y1 y2:Int):cI (x1,x2) (y1,y2)=-1∨cI (x1,x2) (y1,y2)=0∨cI (x1,x2) (y1,y2)=1:=by
 rw [cI_val]
 repeat' split
 all_goals omega
theorem cI_trans {x1 x2 y1 y2 z1 z2:Int} (h1:cI (x1,x2) (y1,y2)=-1) (h2:cI (y1,y2) (z1,z2)=-1):cI (x1,x2) (z1,z2)=-1:=by
 rw [cI_val] at h1 h2 ⊢;split at h1
 · split at h2
   · rw [if_pos (by omega)]
   · split at h2 <;> omega
 · split at h1 <;> omega
end Go.Proofs.YtgfinhehgfbdgaaGreatDoor
namespace Go.Proofs.YtgfinhehgfbdgaaGreatDoor
open Go.RowKit
set_option maxRecDepth 100000 in
set_option maxHeartbeats 2000000 in
theorem within_any (x1 x2:Int) (vf vh:Value) (f h:List Ent) (w:World) (hf:IsEnts w vf f) (hh:IsEnts w vh h) (hlf:f.length≤9223372036854775807) (hlh:h.length≤9223372036854775807) (b:Bool) (hb:wiF (x1,x2) f h=b) :
   Calls Tryz.prog 105 #[.agg #[.int .i64 x1,.int .i64 x2],vf,vh] w fun e w'=>e=.returned (.bool b)∧Below w.heap.size w w':=by
 subst hb;obtain ⟨p,hp⟩:∃ p,ofF f x2=p:=⟨_,rfl⟩;obtain ⟨q,hq⟩:∃ q,ofF h x2=q:=⟨_,rfl⟩;have HP:=Lib.hid hp;have HQ:=Lib.hid hq;have HLF:=Lib.hid hlf;have HLH:=Lib.hid hlh;have HF:Hid (IsEnts (w.alloc (.cells #[.int .i64 x1,.int .i64 x2] 59)).drew vf f):=Lib.hid ((hf.alloc _).drewN 1);have HH:Hid (IsEnts (w.alloc (.cells #[.int .i64 x1,.int .i64 x2] 59)).drew vh h):=Lib.hid ((hh.alloc _).drewN 1);have c0:(w.alloc (.cells #[.int .i64 x1,.int .i64 x2] 59)).cell? ⟨w.heap.size,0,none⟩=some (.int .i64 x1)∧(w.alloc (.cells #[.int .i64 x1,.int .i64 x2] 59)).cell? ⟨w.heap.size,1,none⟩=some (.int .i64 x2):=by simp
 have hval:wiF (x1,x2) f h=(decide (p<x1) && decide (x1≤q)):=by unfold wiF;simp only;rw [hp,hq]
 have HB0:Hid (Below w.heap.size w (w.alloc (.cells #[.int .i64 x1,.int .i64 x2] 59)).drew):=Lib.hid ((Below.refl _ _).alloc (Nat.le_refl _) _).drew;by_cases h1:p<x1
 · by_cases h2:x1≤q
   · have HW:Hid (wiF (x1,x2) f h=true):=Lib.hid (by rw [hval,decide_eq_true h1,decide_eq_true h2];rfl);clear hf hh hp hq hlf hlh hval;rw [HW.out];go_enter Tryz.func105,Tryz.ntmps105
     go_wp2;go_region_held3 (fun w'=>w'.cell? ⟨w.heap.size,0,none⟩=some (.int .i64 x1)∧w'.cell? ⟨w.heap.size,1,none⟩=some (.int .i64 x2)) (first | exact c0 | exact c2 | exact c3) (first
       | (go_at_call 156;((with_reducible refine (vofI_as vf f x2 p _ HF.out HLF.out HP.out).mono ?_);rintro r w2 ⟨rfl,hb2⟩;have c2:w2.cell? ⟨w.heap.size,0,none⟩=some (.int .i64 x1)∧w2.cell? ⟨w.heap.size,1,none⟩=some (.int .i64 x2):=⟨(hb2.cell (by simp)).trans c0.1,(hb2.cell (by simp)).trans c0.2⟩;have HB2:Hid (Below w.heap.size w w2):=(HB0.out.trans (hb2.mono (by simp)));have HH2:=Lib.hid (HH.out.below hb2);have HZ2:Hid (w.heap.size<w2.heap.size):=(Nat.lt_of_lt_of_le (by simp) hb2.size);clear hb2))
       | (go_at_call 156;((with_reducible refine (vofI_as vh h x2 q w2 HH2.out HLH.out HQ.out).mono ?_);rintro r w3 ⟨rfl,hb3⟩;have c3:w3.cell? ⟨w.heap.size,0,none⟩=some (.int .i64 x1)∧w3.cell? ⟨w.heap.size,1,none⟩=some (.int .i64 x2):=⟨(hb3.cell HZ2.out).trans c2.1,(hb3.cell HZ2.out).trans c2.2⟩;have HB3:Hid (Below w.heap.size w w3):=(HB2.out.trans (hb3.mono HB2.out.size));clear hb3)))
     go_wp2;go_ret;exact ⟨rfl,HB3.out⟩
   · have HW:Hid (wiF (x1,x2) f h=false):=Lib.hid (by rw [hval,decide_eq_true h1,decide_eq_false h2];rfl);have d7:decide (x1≤q)=false:=decide_eq_false h2;clear hf hh hp hq hlf hlh hval h2;rw [HW.out];go_enter Tryz.func105,Tryz.ntmps105
     go_wp2;go_region_held3 (fun w'=>w'.cell? ⟨w.heap.size,0,none⟩=some (.int .i64 x1)∧w'.cell? ⟨w.heap.size,1,none⟩=some (.int .i64 x2)) (first | exact c0 | exact c2 | exact c3) (first
       | (go_at_call 156;((with_reducible refine (vofI_as vf f x2 p _ HF.out HLF.out HP.out).mono ?_);rintro r w2 ⟨rfl,hb2⟩;have c2:w2.cell? ⟨w.heap.size,0,none⟩=some (.int .i64 x1)∧w2.cell? ⟨w.heap.size,1,none⟩=some (.int .i64 x2):=⟨(hb2.cell (by simp)).trans c0.1,(hb2.cell (by simp)).trans c0.2⟩;have HB2:Hid (Below w.heap.size w w2):=(HB0.out.trans (hb2.mono (by simp)));have HH2:=Lib.hid (HH.out.below hb2);have HZ2:Hid (w.heap.size<w2.heap.size):=(Nat.lt_of_lt_of_le (by simp) hb2.size);clear hb2))
       | (go_at_call 156;((with_reducible refine (vofI_as vh h x2 q w2 HH2.out HLH.out HQ.out).mono ?_);rintro r w3 ⟨rfl,hb3⟩;have c3:w3.cell? ⟨w.heap.size,0,none⟩=some (.int .i64 x1)∧w3.cell? ⟨w.heap.size,1,none⟩=some (.int .i64 x2):=⟨(hb3.cell HZ2.out).trans c2.1,(hb3.cell HZ2.out).trans c2.2⟩;have HB3:Hid (Below w.heap.size w w3):=(HB2.out.trans (hb3.mono HB2.out.size));clear hb3)))
     go_wp2;go_ret;exact ⟨rfl,HB3.out⟩
 · have HW:Hid (wiF (x1,x2) f h=false):=Lib.hid (by rw [hval,decide_eq_false h1];rfl);have d6:decide (p<x1)=false:=decide_eq_false h1;clear hf hh hp hq hlf hlh hval h1;rw [HW.out];go_enter Tryz.func105,Tryz.ntmps105
   go_wp2;refine wp_region_held_drew (S:=fun w'=>w'.cell? ⟨w.heap.size,0,none⟩=some (.int .i64 x1)∧w'.cell? ⟨w.heap.size,1,none⟩=some (.int .i64 x2)) (by kernel_rfl) c0 (fun hHeld=>?_);refine wpAnyH_take (i:=0) (v:=?v0) rfl (by kernel_rfl) (by kernel_rfl) (by kernel_rfl) (fun _ _ _ h=>h) (Or.inl ⟨by rfl,?h0⟩) (by assumption) ?r0
   case h0=>(intro W hSw;(try dsimp only at hSw);go_simp;all_goals (with_reducible rfl))
   try simp only [Act.put,List.getElem_toArray,List.getElem_cons_zero,List.setIfInBounds_toArray,List.set_cons_zero,List.set_cons_succ]
   refine wpAnyH_take (i:=1) (v:=?v1) rfl (by kernel_rfl) (by kernel_rfl) (by kernel_rfl) (fun _ _ _ h=>h) (Or.inl ⟨by rfl,?h1⟩) (by assumption) ?r1
   case h1=>(intro W hSw;(try dsimp only at hSw);go_simp;all_goals (with_reducible rfl))
   try simp only [Act.put,List.getElem_toArray,List.getElem_cons_zero,List.getElem_cons_succ,List.setIfInBounds_toArray,List.set_cons_zero,List.set_cons_succ]
   refine wpAnyH_take (i:=2) (v:=?v2) rfl (by kernel_rfl) (by kernel_rfl) (by kernel_rfl) (fun _ _ _ h=>h) (Or.inl ⟨by rfl,?h2⟩) (by assumption) ?r2
   case h2=>(intro W hSw;(try dsimp only at hSw);go_simp;all_goals (with_reducible rfl))
   try simp only [Act.put,List.getElem_toArray,List.getElem_cons_zero,List.getElem_cons_succ,List.setIfInBounds_toArray,List.set_cons_zero,List.set_cons_succ]
   refine wpAnyH_take (i:=3) (v:=?v3) rfl (by kernel_rfl) (by kernel_rfl) (by kernel_rfl) (fun _ _ _ h=>h) (Or.inl ⟨by rfl,?h3⟩) (by assumption) ?r3
   case h3=>(intro W hSw;(try dsimp only at hSw);go_simp;all_goals (with_reducible rfl))
   try simp only [Act.put,List.getElem_toArray,List.getElem_cons_zero,List.getElem_cons_succ,List.setIfInBounds_toArray,List.set_cons_zero,List.set_cons_succ]
   refine wpAnyH_take (i:=4) (v:=?v4) rfl (by kernel_rfl) (by kernel_rfl) (by kernel_rfl) (fun _ _ _ h=>h) (Or.inl ⟨by rfl,?h4⟩) (by assumption) ?r4
   case h4=>(intro W hSw;(try dsimp only at hSw);go_simp;all_goals (with_reducible rfl))
   try simp only [Act.put,List.getElem_toArray,List.getElem_cons_zero,List.getElem_cons_succ,List.setIfInBounds_toArray,List.set_cons_zero,List.set_cons_succ]
   refine wpAnyH_ready (rs:=[5]) (by kernel_rfl) (by simp) ?_;refine AllReadyH.cons rfl (fun K hK=>?_) AllReadyH.nil
   go_simp
   refine (vofI_as vf f x2 p _ HF.out HLF.out HP.out).mono ?_;rintro r w2 ⟨rfl,hb2⟩;have c2:w2.cell? ⟨w.heap.size,0,none⟩=some (.int .i64 x1)∧w2.cell? ⟨w.heap.size,1,none⟩=some (.int .i64 x2):=⟨(hb2.cell (by simp)).trans c0.1,(hb2.cell (by simp)).trans c0.2⟩;have HB2:Hid (Below w.heap.size w w2):=HB0.out.trans (hb2.mono (by simp));clear hb2;refine hK.out _ _ c2 (fun hHeld2=>?_);clear hK hHeld
   try simp only [Act.put,List.getElem_toArray,List.getElem_cons_zero,List.getElem_cons_succ,List.setIfInBounds_toArray,List.set_cons_zero,List.set_cons_succ]
   refine wpAnyH_take (i:=6) (v:=?v6) rfl (by kernel_rfl) (by kernel_rfl) (by kernel_rfl) (fun _ _ _ h=>h) (Or.inl ⟨by rfl,?h6⟩) (by assumption) ?r6
   case h6=>(intro W hSw;(try dsimp only at hSw);go_simp;all_goals (with_reducible rfl))
   try simp only [Act.put,List.getElem_toArray,List.getElem_cons_zero,List.getElem_cons_succ,List.setIfInBounds_toArray,List.set_cons_zero,List.set_cons_succ]
   refine wpAnyH_take (i:=7) (v:=?v7) rfl (by kernel_rfl) (by kernel_rfl) (by kernel_rfl) (fun _ _ _ h=>h) (Or.inl ⟨by rfl,?h7⟩) (by assumption) ?r7
   case h7=>(intro W hSw;(try dsimp only at hSw);go_simp;all_goals (with_reducible rfl))
   try simp only [Act.put,List.getElem_toArray,List.getElem_cons_zero,List.getElem_cons_succ,List.setIfInBounds_toArray,List.set_cons_zero,List.set_cons_succ]
   refine wpAnyH_take (i:=8) (v:=undef) rfl (by kernel_rfl) (by kernel_rfl) (by kernel_rfl) (fun _ _ _ h=>h) (Or.inr ⟨by rfl,rfl⟩) (by assumption) ?_
   try simp only [Act.put,List.getElem_toArray,List.getElem_cons_zero,List.getElem_cons_succ,List.setIfInBounds_toArray,List.set_cons_zero,List.set_cons_succ]
   refine wpAnyH_take (i:=10) (v:=undef) rfl (by kernel_rfl) (by kernel_rfl) (by kernel_rfl) (fun _ _ _ h=>h) (Or.inr ⟨by rfl,rfl⟩) (by assumption) ?_
   try simp only [Act.put,List.getElem_toArray,List.getElem_cons_zero,List.getElem_cons_succ,List.setIfInBounds_toArray,List.set_cons_zero,List.set_cons_succ]
   refine wpAnyH_take (i:=11) (v:=undef) rfl (by kernel_rfl) (by kernel_rfl) (by kernel_rfl) (fun _ _ _ h=>h) (Or.inr ⟨by rfl,rfl⟩) (by assumption) ?_
   try simp only [Act.put,List.getElem_toArray,List.getElem_cons_zero,List.getElem_cons_succ,List.setIfInBounds_toArray,List.set_cons_zero,List.set_cons_succ]
   refine wpAnyH_take (i:=9) (v:=undef) rfl (by kernel_rfl) (by kernel_rfl) (by kernel_rfl) (fun _ _ _ h=>h) (Or.inr ⟨by rfl,rfl⟩) (by assumption) ?_
   try simp only [Act.put,List.getElem_toArray,List.getElem_cons_zero,List.getElem_cons_succ,List.setIfInBounds_toArray,List.set_cons_zero,List.set_cons_succ]
   refine wpAnyH_take (i:=12) (v:=undef) rfl (by kernel_rfl) (by kernel_rfl) (by kernel_rfl) (fun _ _ _ h=>h) (Or.inr ⟨by rfl,rfl⟩) (by assumption) ?_
   try simp only [Act.put,List.getElem_toArray,List.getElem_cons_zero,List.getElem_cons_succ,List.setIfInBounds_toArray,List.set_cons_zero,List.set_cons_succ]
   refine wpAnyH_take (i:=13) (v:=undef) rfl (by kernel_rfl) (by kernel_rfl) (by kernel_rfl) (fun _ _ _ h=>h) (Or.inr ⟨by rfl,rfl⟩) (by assumption) ?_
   try simp only [Act.put,List.getElem_toArray,List.getElem_cons_zero,List.getElem_cons_succ,List.setIfInBounds_toArray,List.set_cons_zero,List.set_cons_succ]
   refine wpAnyH_take (i:=14) (v:=undef) rfl (by kernel_rfl) (by kernel_rfl) (by kernel_rfl) (fun _ _ _ h=>h) (Or.inr ⟨by rfl,rfl⟩) (by assumption) ?_
   try simp only [Act.put,List.getElem_toArray,List.getElem_cons_zero,List.getElem_cons_succ,List.setIfInBounds_toArray,List.set_cons_zero,List.set_cons_succ]
   refine wpAnyH_take (i:=15) (v:=?v15) rfl (by kernel_rfl) (by kernel_rfl) (by kernel_rfl) (fun _ _ _ h=>h) (Or.inl ⟨by rfl,?h15⟩) (by assumption) ?r15
   case h15=>(intro W hSw;(try dsimp only at hSw);go_simp;all_goals (with_reducible rfl))
   try simp only [Act.put,List.getElem_toArray,List.getElem_cons_zero,List.getElem_cons_succ,List.setIfInBounds_toArray,List.set_cons_zero,List.set_cons_succ]
   refine wpAnyH_take (i:=16) (v:=?v16) rfl (by kernel_rfl) (by kernel_rfl) (by kernel_rfl) (fun _ _ _ h=>h) (Or.inl ⟨by rfl,?h16⟩) (by assumption) ?r16
   case h16=>(intro W hSw;(try dsimp only at hSw);go_simp;all_goals (with_reducible rfl))
   try simp only [Act.put,List.getElem_toArray,List.getElem_cons_zero,List.getElem_cons_succ,List.setIfInBounds_toArray,List.set_cons_zero,List.set_cons_succ]
   refine wpAnyH_done (by kernel_rfl) ?_ _;go_wp2;go_ret;exact ⟨rfl,HB2.out⟩
end Go.Proofs.YtgfinhehgfbdgaaGreatDoor
namespace Go.Proofs.YtgfinhehgfbdgaaGreatDoor
open Go.RowKit
theorem pre_two (s:List UInt8):Lib.hasPrefix s [80,84]=true↔s.take 2=[80,84]:=by
 unfold Lib.hasPrefix;rw [List.isPrefixOf_iff_prefix]
 constructor
 · rintro ⟨r,rfl⟩;rfl
 · intro h;exact ⟨s.drop 2,by rw [←h,List.take_append_drop]⟩
theorem pre_not {s:List UInt8} (h:s.take 2≠[80,84]):Lib.hasPrefix s [80,84]=false:=by
 cases hb:Lib.hasPrefix s [80,84] with
 | false=>rfl
 | true=>exact absurd ((pre_two s).1 hb) h
def opnV (r:Nat×List UInt8×Nat):Value:=.tuple #[.int .i64 (r.1:Nat),.string ⟨r.2.1.toArray⟩,errC r.2.2]
theorem errC_ne {e:Nat} (h:e≠0):errC e=.iface 27 (.int .i64 e):=by unfold errC;rw [if_neg h]
theorem errC_zero:errC 0=.nilIface:=rfl
set_option maxRecDepth 100000 in
set_option maxHeartbeats 1200000 in
theorem fopen_any (s:ByteArray) (w:World) (hs:s.size≤140737488351232) :
   Calls Tryz.prog 48 #[.string s] w fun e w'=>e=.returned (opnV (opnF s.data.toList))∧Below w.heap.size w w':=by
 have hl:s.size=s.data.toList.length:=size_data s;by_cases h8:s.size<8
 · have h:opnF s.data.toList=(0,[],7):=opn_few (by rw [←hl];exact h8);rw [h];have h8i:(s.size:Int)<8:=by omega
   clear h hl;go_enter Tryz.func48,Tryz.ntmps48
   go_wp2;go_ret3;exact ⟨rfl,Below.refl _ _⟩
 · have h8l:¬ s.data.toList.length<8:=by rw [←hl];exact h8
   have h8i:8≤(s.size:Int):=by omega
   by_cases hp:s.data.toList.take 2=[80,84]
   · have HPB:Hid (Lib.hasPrefix s.data.toList [80,84]=true):=Lib.hid ((pre_two _).2 hp);have hsz:2<s.size:=by omega
     obtain ⟨c, hc⟩ : ∃ c : UInt8, s[2]'hsz = c := ⟨_, rfl⟩;have hwr:wrap64 (c.toNat:Int)=(c.toNat:Int):=IntWalk.wrap64_in _ (by have:=c.toNat_lt;omega);have hcd:s.data.toList.getD 2 0=c:=by
       rw [List.getD_eq_getElem?_getD,List.getElem?_eq_getElem (by omega),Option.getD_some,←hc];rfl
     by_cases hv:c.toNat<1∨3<c.toNat
     · have h:opnF s.data.toList=(0,[],8):=opn_none h8l hp (by rw [hcd];exact hv);rw [h];clear h hl hp hcd;rcases hv with hv | hv
       · have hvi:(c.toNat:Int)<1:=by omega
         go_enter Tryz.func48,Tryz.ntmps48
         go_wp2_with fail
         refine (Tryz.strings_HasPrefix s _ w).mono ?_;rintro r w1 ⟨rfl,rfl⟩;rw [HPB.out];go_wp2;go_ret3;exact ⟨rfl,Below.refl _ _⟩
       · have hvi:3<(c.toNat:Int):=by omega
         have hvj:1≤(c.toNat:Int):=by omega
         go_enter Tryz.func48,Tryz.ntmps48
         go_wp2_with fail
         refine (Tryz.strings_HasPrefix s _ w).mono ?_;rintro r w1 ⟨rfl,rfl⟩;rw [HPB.out];go_wp2;go_ret3;exact ⟨rfl,Below.refl _ _⟩
     · have hv1:1≤(c.toNat:Int):=by omega
       have hv2:(c.toNat:Int)≤3:=by omega
       obtain ⟨o,e,hop⟩:∃ o e,openL s.data.toList=(o,e):=⟨_,_,rfl⟩;have HO:Hid (openV (openL s.data.toList)=.tuple #[.string ⟨o.toArray⟩,errC e]):=Lib.hid (by show openV _=_;rw [hop];rfl);by_cases he:e=0
       · subst he;have h:opnF s.data.toList=(c.toNat,o.drop 3,0):=by rw [opn_ok h8l hp (by rw [hcd];exact hv) (by rw [hop]),hcd,hop]
         rw [h];obtain ⟨O,hO⟩:∃ O:ByteArray,(⟨o.toArray⟩:ByteArray)=O:=⟨_,rfl⟩;have hOd:o=O.data.toList:=by rw [←hO]
         have hoz:O.size=s.size-4:=by
           unfold openL at hop;split at hop
           · injection hop with _ h2;cases h2
           · split at hop
             · injection hop with h1 _;rw [size_data,←hOd,←h1,List.length_take];omega
             · injection hop with _ h2;cases h2
         have hO3:3≤(O.size:Int):=by omega
         have HR:Hid (opnV (c.toNat,o.drop 3,0)=.tuple #[.int .i64 (c.toNat:Nat),.string (O.extract 3 O.size),.nilIface]):=Lib.hid (by
           have e1:(⟨(o.drop 3).toArray⟩:ByteArray)=O.extract 3 O.size:=bytes_ext (by
             rw [ext_list,←hOd,List.take_of_length_le (by rw [List.length_drop,hOd,←size_data];omega)])
           show Value.tuple #[.int .i64 (c.toNat:Nat),.string ⟨(o.drop 3).toArray⟩,errC 0]=_
           rw [e1];rfl)
         rw [hO] at HO;have HO3:=Lib.hid hoz;clear h hl hp hcd hop hO hOd hoz;go_enter Tryz.func48,Tryz.ntmps48
         go_wp2_with fail
         refine (Tryz.strings_HasPrefix s _ w).mono ?_;rintro r w1 ⟨rfl,rfl⟩;rw [HPB.out];go_wp2_with fail
         refine (open_any s _ hs).mono ?_;rintro r w2 ⟨rfl,hb2⟩;rw [HO.out,errC_zero];have HB2:=Lib.hid hb2;clear hb2;go_wp2;go_region
         go_wp2;go_ret3;exact ⟨by rw [HR.out];rfl,HB2.out.drew⟩
       · have h:opnF s.data.toList=(0,[],e):=opn_spoilt h8l hp (by rw [hcd];exact hv) (by rw [hop]) he;rw [h];have HR:Hid (opnV (0,[],e)=.tuple #[.int .i64 0,.string ⟨#[]⟩,.iface 27 (.int .i64 e)]):=Lib.hid (by unfold opnV;rw [errC_ne he];rfl);rw [errC_ne he] at HO;clear h hl hp hcd hop;go_enter Tryz.func48,Tryz.ntmps48
         go_wp2_with fail
         refine (Tryz.strings_HasPrefix s _ w).mono ?_;rintro r w1 ⟨rfl,rfl⟩;rw [HPB.out];go_wp2_with fail
         refine (open_any s _ hs).mono ?_;rintro r w2 ⟨rfl,hb2⟩;rw [HO.out];have HB2:=Lib.hid hb2;clear hb2;go_wp2;go_ret3;exact ⟨by rw [HR.out];rfl,HB2.out⟩
   · have HPB:Hid (Lib.hasPrefix s.data.toList [80,84]=false):=Lib.hid (pre_not hp);have h:opnF s.data.toList=(0,[],5):=opn_name h8l hp;rw [h];clear h hl hp;go_enter Tryz.func48,Tryz.ntmps48
     go_wp2_with fail
     refine (Tryz.strings_HasPrefix s _ w).mono ?_;rintro r w1 ⟨rfl,rfl⟩;rw [HPB.out];go_wp2;go_ret3;exact ⟨rfl,Below.refl _ _⟩
theorem fopen_as (s I:ByteArray) (v e:Nat) (w:World) (hs:s.size≤140737488351232) (h:opnF s.data.toList=(v,I.data.toList,e)) :
   Calls Tryz.prog 48 #[.string s] w fun r w'=>r=.returned (.tuple #[.int .i64 (v:Int),.string I,errC e])∧Below w.heap.size w w':=by
 have h1:=fopen_any s w hs;rw [h] at h1;unfold opnV at h1;simp only [bs_of] at h1
 exact h1
set_option maxRecDepth 100000 in
theorem version_as (s I:ByteArray) (v e:Nat) (w:World) (hs:s.size≤140737488351232) (h:opnF s.data.toList=(v,I.data.toList,e)) :
   Calls Tryz.prog 17 #[.string s] w fun r w'=>r=.returned (.tuple #[.int .i64 (v:Int),errC e])∧Below w.heap.size w w':=by
 have H:=Lib.hid h;obtain ⟨q,hq⟩:∃ q,errC e=q:=⟨_,rfl⟩;have HQ:=Lib.hid hq;rw [hq];clear h hq;go_enter Tryz.func17,Tryz.ntmps17
 go_wp2_with fail
 refine (fopen_as s I v e _ hs H.out).mono ?_;rintro r w1 ⟨rfl,hb1⟩;rw [HQ.out];have HB1:=Lib.hid hb1;clear hb1;go_wp2;go_ret2;exact ⟨rfl,HB1.out⟩
set_option maxRecDepth 100000 in
theorem inside_as (s I:ByteArray) (v e:Nat) (w:World) (hs:s.size≤140737488351232) (h:opnF s.data.toList=(v,I.data.toList,e)) :
   Calls Tryz.prog 18 #[.string s] w fun r w'=>r=.returned (.tuple #[.string I,errC e])∧Below w.heap.size w w':=by
 have H:=Lib.hid h;obtain ⟨q,hq⟩:∃ q,errC e=q:=⟨_,rfl⟩;have HQ:=Lib.hid hq;rw [hq];clear h hq;go_enter Tryz.func18,Tryz.ntmps18
 go_wp2_with fail
 refine (fopen_as s I v e _ hs H.out).mono ?_;rintro r w1 ⟨rfl,hb1⟩;rw [HQ.out];have HB1:=Lib.hid hb1;clear hb1;go_wp2;go_ret2;exact ⟨rfl,HB1.out⟩
end Go.Proofs.YtgfinhehgfbdgaaGreatDoor
namespace Go.Proofs.YtgfinhehgfbdgaaGreatDoor
open Go.RowKit
theorem ref_conv (n:Nat) (w:World):(convert 56 9 (.slice (some ⟨w.heap.size,0,none⟩) 1 1)).run Tryz.prog (w.alloc (.cells #[.int .u8 ((n:Int) % 256)] 5))=.ok (.string ⟨#[UInt8.ofNat n]⟩) (w.alloc (.cells #[.int .u8 ((n:Int) % 256)] 5)):=by
 refine run_convert_bytes_back _ _ _ _ _ _ [UInt8.ofNat n] Tryz.underlying56 Tryz.underlying5 Tryz.underlying9 fun j hj=>?_
 obtain rfl:j=0:=by simp at hj;omega
 have hadd:(⟨w.heap.size,0,none⟩:Addr).add 0=⟨w.heap.size,0,none⟩:=rfl;rw [hadd,cell_of_row _ _ _ _ _ _ (heap_alloc_new w _)];simp
def tk (s:ByteArray) (n k:Nat):ByteArray:=s++⟨((tail4 n).take k).toArray⟩
theorem tk_zero (s:ByteArray) (n:Nat):tk s n 0=s:=by apply bytes_ext;unfold tk;simp
theorem tk_size (s:ByteArray) (n k:Nat):(tk s n k).size≤s.size+4:=by
 unfold tk;rw [ByteArray.size_append];have:(⟨((tail4 n).take k).toArray⟩:ByteArray).size=((tail4 n).take k).length:=by show ((tail4 n).take k).toArray.size=_;simp
 rw [this];have h2:((tail4 n).take k).length≤4:=List.length_take_le' _ _;omega
theorem tk_succ (s:ByteArray) (n k:Nat) (h:k<4):tk s n k++⟨#[UInt8.ofNat (n / 256 ^ k)]⟩=tk s n (k+1):=by
 apply bytes_ext
 unfold tk;simp only [ByteArray.data_append,Array.toList_append,List.append_assoc]
 congr 1
 match k,h with
 | 0,_=>simp [tail4]
 | 1,_=>simp [tail4]
 | 2,_=>simp [tail4]
 | 3,_=>simp [tail4]
theorem tk_all (s:ByteArray):tk s (sum s.data.toList) 4=sealB s:=rfl
theorem div_next (n k:Nat):((n / 256 ^ k:Nat):Int) / 256=((n / 256 ^ (k+1):Nat):Int):=by
 rw [Nat.pow_succ,←Nat.div_div_eq_div_mul];omega
set_option maxRecDepth 100000 in
set_option maxHeartbeats 1000000 in
theorem refseal_any (s:ByteArray) (w:World) (hs:s.size≤1000000) :
   Calls Tryz.prog 40 #[.string s] w fun e w'=>e=.returned (.string (sealB s))∧Below w.heap.size w w':=by
 have hl:=sum_lt s.data.toList;obtain ⟨n,hn⟩:∃ n,n=sum s.data.toList:=⟨_,rfl⟩;have HN:=Lib.hid hn;rw [←hn] at hl;clear hn;go_enter Tryz.func40,Tryz.ntmps40
 go_wp2_with fail
 refine (refsum_any _ _ hs).mono ?_;rintro e w' ⟨rfl,rfl⟩;rw [←HN.out];go_wp2
 go_loopw [0,3,6] (fun t m c wr=>∃ k:Nat,k≤4∧c=.int .i64 k∧t=.string (tk s n k)∧m=.int .u32 (n / 256 ^ k:Nat)∧Below w.heap.size w wr) (fun _ _ c _=>4-(intOf c).toNat)
 case atStart=>exact ⟨0,by omega,rfl,by rw [tk_zero],by simp,Below.refl _ _⟩
 case round =>
   obtain ⟨k,hk,rfl,rfl,rfl,hb⟩:=hrel;have HB:=Lib.hid hb;clear hb;by_cases hlt:k<4
   · have hcv:=ref_conv (n / 256 ^ k) wr;have hz:=tk_size s n k;have hd:=div_next n k;have ht:=tk_succ s n k hlt;have hm:n / 256 ^ k<4294967296:=Nat.lt_of_le_of_lt (Nat.div_le_self _ _) hl;obtain ⟨m2,hm2⟩:∃ m2,n / 256 ^ (k+1)=m2:=⟨_,rfl⟩;rw [hm2] at hd;have HM2:=Lib.hid hm2;clear hm2;generalize n / 256 ^ k=m at *;go_wp2;go_roundw
     case rel=>exact ⟨k+1,by omega,by go_num,rfl,by rw [HM2.out],HB.out.alloc HB.out.size _⟩
     case measure=>simp [intOf];omega
   · obtain rfl:k=4:=by omega
     have HT:Hid (tk s n 4=sealB s):=by
       have h:tk s n 4=sealB s:=by rw [HN.out];exact tk_all s
       exact h
     go_wp2;go_ret;exact ⟨by rw [←HT.out];rfl,HB.out⟩
def openR (r:List UInt8×Nat):Value:=.tuple #[.string ⟨r.1.toArray⟩,.int .i64 r.2]
theorem seal_take (s:ByteArray) (k:Nat):sealL (s.data.toList.take k)=s.data.toList↔s.data.toList.drop k=tail4 (sum (s.data.toList.take k)):=by
 unfold sealL
 constructor
 · intro h;have h2:s.data.toList.take k++tail4 (sum (s.data.toList.take k))=s.data.toList.take k++s.data.toList.drop k:=by rw [h,List.take_append_drop]
   exact (List.append_cancel_left h2).symm
 · intro h;rw [←h,List.take_append_drop]
theorem ext_data0 (s:ByteArray) (k:Nat):(s.extract 0 k).data.toList=s.data.toList.take k:=by rw [ext_list,List.drop_zero,Nat.sub_zero]
set_option maxRecDepth 100000 in
set_option maxHeartbeats 1000000 in
theorem refopen_any (s:ByteArray) (w:World) (hs:s.size≤1000000) :
   Calls Tryz.prog 44 #[.string s] w fun e w'=>e=.returned (openR (openL s.data.toList))∧Below w.heap.size w w':=by
 by_cases h4:s.size<4
 · have h:openL s.data.toList=([],7):=by unfold openL;rw [if_pos (by simpa using h4)]
   rw [h];go_enter Tryz.func44,Tryz.ntmps44
   go_wp2;go_ret2;exact ⟨rfl,Below.refl _ _⟩
 · obtain ⟨k,hk⟩:∃ k,s.size=k+4:=⟨s.size-4,by omega⟩;have e1:(s.size:Int)-4=(k:Int):=by omega
   have e2:(0:Int)≤(k:Int):=by omega
   have e3:(k:Int)≤(s.size:Int):=by omega
   have hk2:k≤s.size:=by omega
   have HZ:Hid ((s.extract 0 k).size≤1000000):=by
     have h:(s.extract 0 k).size≤1000000:=by simp;omega
     exact h
   obtain ⟨_,t2,t3⟩:=open_test s k hk;have hst:=seal_take s k;by_cases hq:s.data.toList.drop k=tail4 (sum (s.data.toList.take k))
   · have HO : Hid (openR (openL s.data.toList) = .tuple #[.string (s.extract 0 k), .int .i64 0]) := by
       have h:openL s.data.toList=(s.data.toList.take k,0):=by
         unfold openL;rw [if_neg t3,t2,if_pos hq]
       show openR _=_
       rw [h];unfold openR;rw [take_bytes];rfl
     have HS:Hid (sealB (s.extract 0 k)=s):=by
       have h:sealB (s.extract 0 k)=s:=by apply bytes_ext;rw [sealB_data,ext_data0];exact hst.2 hq
       exact h
     clear hq t2 t3 hk hst;go_enter Tryz.func44,Tryz.ntmps44
     go_wp2_with fail
     refine (refseal_any _ _ HZ.out).mono ?_;rintro r w1 ⟨rfl,hb1⟩;rw [HS.out];have HB:=Lib.hid hb1;clear hb1;go_wp2;go_ret2;exact ⟨by rw [HO.out];rfl,HB.out⟩
   · have HO : Hid (openR (openL s.data.toList) = .tuple #[.string ⟨#[]⟩, .int .i64 15]) := by
       have h:openL s.data.toList=([],15):=by
         unfold openL;rw [if_neg t3,t2,if_neg hq]
       show openR _=_
       rw [h]
       rfl
     have hne:¬ sealB (s.extract 0 k)=s:=fun h=>hq (hst.1 (by have h2:=congrArg (fun b:ByteArray=>b.data.toList) h;rw [sealB_data,ext_data0] at h2;exact h2))
     have hb1:((sealB (s.extract 0 k)).toList == s.toList)=false:=beq_eq_false_iff_ne.2 (fun h=>hne (bytes_ext (by rw [←toL,←toL];exact h)));clear hq t2 t3 hk hst hne;go_enter Tryz.func44,Tryz.ntmps44
     go_wp2_with fail
     refine (refseal_any _ _ HZ.out).mono ?_;rintro r w1 ⟨rfl,hbw⟩;have HB:=Lib.hid hbw;clear hbw;go_wp2;go_ret2;exact ⟨by rw [HO.out];rfl,HB.out⟩
end Go.Proofs.YtgfinhehgfbdgaaGreatDoor
namespace Go.Proofs.YtgfinhehgfbdgaaGreatDoor
open Go.RowKit
set_option maxRecDepth 100000 in
set_option maxHeartbeats 2000000 in
theorem right_any (v:Value) (l:List Tok) (w:World) (hv:IsToks w v l) (hl:l.length≤9223372036854775807) (hz:∀ t∈l,t.own.size≤140737488351232) :
   Calls Tryz.prog 121 #[v] w (RightIs w (rightF l 0 0)):=by
 obtain ⟨a1,c1,rfl,f1⟩:=hv.form;have F1:=Lib.hid f1;have HZ:=Lib.hid hz;obtain ⟨n,hn⟩:∃ n,n=l.length:=⟨_,rfl⟩;rw [←hn] at hl ⊢;have HN:=Lib.hid hn;clear hv f1 hn hz;go_enter Tryz.func121,Tryz.ntmps121
 go_wp2
 go_loopw [3,9] (fun s i wr=>∃ k a:Nat,k≤n∧i=.int .i64 k∧s=.int .i64 a∧a≤20000∧rightF l 0 0=rightF (l.drop k) k a∧Below w.heap.size w wr) (fun _ i _=>n-(intOf i).toNat)
 case atStart=>exact ⟨0,0,by omega,rfl,rfl,by omega,rfl,Below.refl _ _⟩
 case round =>
   obtain ⟨k,a,hk,rfl,rfl,ha,heq,hbel⟩:=hrel;have HEQ:=Lib.hid heq;have HB:=Lib.hid hbel;clear heq hbel;by_cases hlt:k<n
   · have hkl:k<l.length:=by have:=HN.out;omega
     obtain ⟨t,ht⟩:∃ t,l[k]? = some t:=⟨l[k],List.getElem?_eq_getElem hkl⟩;obtain ⟨b1,o1,rfl,hb1,p0,p1,p2⟩:=F1.out k t ht;have hd:l.drop k=t::l.drop (k+1):=by
       rw [List.drop_eq_getElem_cons hkl];congr 1;rw [List.getElem?_eq_getElem hkl] at ht;exact Option.some.inj ht
     have hmem:t∈l:=List.mem_of_getElem? ht;have HS:=Lib.hid (HZ.out t hmem);obtain ⟨own,back,size⟩:=t;simp only at p0 p1 p2
     have q0:=(HB.out.cell (p:=⟨b1,o1+k * 3,none⟩) hb1).trans p0;have q1:=(HB.out.cell (p:=⟨b1,o1+k * 3+1,none⟩) hb1).trans p1;have q2:=(HB.out.cell (p:=⟨b1,o1+k * 3+2,none⟩) hb1).trans p2;have hzr:=HB.out.size;obtain ⟨e,he⟩:∃ e,wrongN ⟨own,back,size⟩ a=e:=⟨_,rfl⟩;have HE:=Lib.hid he;have HD:=Lib.hid hd;clear p0 p1 p2 ht hmem hd hkl he;have hgap:wr.heap.size<(wr.alloc (.cells #[.string own,.int .i64 back,.int .i64 size] 163)).heap.size:=by simp
     by_cases h0:e=0
     · subst h0;have hok:0≤size∧size≤1000:=by rcases wrongN_ok HE.out with ⟨_,h,_⟩ | ⟨_,h1,h2,_⟩ <;> simp only at * <;> omega
       have hle:=wrongN_le HE.out;have HN2:Hid (rightF l 0 0=rightF (l.drop (k+1)) (k+1) (a+lenT ⟨own,back,size⟩)):=by
         have h:rightF l 0 0=rightF (l.drop (k+1)) (k+1) (a+lenT ⟨own,back,size⟩):=by rw [HEQ.out,HD.out,rightF_ok HE.out]
         exact h
       obtain ⟨m,hm⟩:∃ m,lenT ⟨own,back,size⟩=m:=⟨_,rfl⟩;rw [hm] at hle HN2;have HM:=Lib.hid hm;clear hm HEQ;go_wp2_with fail
       refine (wrong_any own back size a _ HS.out ha).mono ?_;rintro r w1 ⟨rfl,hb1⟩;rw [HE.out];have c0:w1.cell? ⟨wr.heap.size,0,none⟩=some (.string own):=(hb1.cell (by simp)).trans (by simp);have c1:w1.cell? ⟨wr.heap.size,1,none⟩=some (.int .i64 back):=(hb1.cell (by simp)).trans (by simp);have c2:w1.cell? ⟨wr.heap.size,2,none⟩=some (.int .i64 size):=(hb1.cell (by simp)).trans (by simp);have HB1:Hid (Below w.heap.size w w1):=(HB.out.alloc hzr _).trans (hb1.mono (by omega));clear hb1 q0 q1 q2;go_wp2_with fail
       refine (length_any own back size _ HS.out hok.1 hok.2).mono ?_;rintro r w2 ⟨rfl,hb2⟩;rw [HM.out];have HB2:Hid (Below w.heap.size w w2):=HB1.out.trans (hb2.mono HB1.out.size);clear hb2 c0 c1 c2;go_wp2;go_roundw
       case rel=>exact ⟨k+1,a+m,by omega,by go_num,by go_num,by omega,HN2.out,HB2.out⟩
       case measure=>simp [intOf];omega
     · have HN2 : Hid (rightF l 0 0 = (e, (k : Int))) := by
         have h:rightF l 0 0=(e,(k:Int)):=by rw [HEQ.out,HD.out,rightF_bad (by rw [HE.out];exact h0),HE.out]
         exact h
       have hne:((e:Int) != 0)=true:=by simp;omega
       have H0:=Lib.hid h0;clear HEQ h0;go_wp2_with fail
       refine (wrong_any own back size a _ HS.out ha).mono ?_;rintro r w1 ⟨rfl,hb1⟩;rw [HE.out];have HB1:Hid (Below w.heap.size w w1):=(HB.out.alloc hzr _).trans (hb1.mono (by omega));have hz1:=HB1.out.size;clear hb1 q0 q1 q2;go_wp2;go_ret;rw [HN2.out];exact ⟨_,rfl,atIs.new w1 e k H0.out,HB1.out.alloc hz1 _⟩
   · have HN2 : Hid (rightF l 0 0 = (0, -1)) := by
       have h:rightF l 0 0=(0,-1):=by rw [HEQ.out,List.drop_eq_nil_of_le (by have:=HN.out;omega)];rfl
       exact h
     go_wp2;go_ret;exact ⟨_,rfl,.inl ⟨HN2.out,rfl⟩,HB.out⟩
end Go.Proofs.YtgfinhehgfbdgaaGreatDoor
