import Derived.Test.YtgfinhehgfbdgaaGreatDoorRa04
import Derived.Laws.Rows
import Derived.Laws.NewBlocks
import Derived.Deep.RegionHeld3
import Derived.StillTailTactics
import Derived.Deep.LoopGhost
namespace Go.Proofs.YtgfinhehgfbdgaaGreatDoor
open Go.RowKit
def findV (r:Nat×Nat):Value:=.tuple #[.int .i64 r.1,.int .i64 r.2]
set_option maxRecDepth 100000 in
set_option maxHeartbeats 1000000 in
theorem find_nat (s:ByteArray) (a:Nat) (w:World) (hs:s.size≤maxLen) (ha:a<s.size) :
   Calls Tryz.prog 124 #[.string s,.int .i64 a] w fun e w'=>e=.returned (findV (find s.data.toList a))∧∃ q,w'=w.drewN q:=by
 have HS:=Lib.hid hs;unfold maxLen at hs;obtain ⟨m,hm⟩:∃ m,m=min 67 (s.size-a):=⟨_,rfl⟩;obtain ⟨t,ht⟩:∃ t,t=min 1024 a:=⟨_,rfl⟩;have m1:(if (s.size:Int)-(a:Int)<67 then (s.size:Int)-(a:Int) else 67)=(m:Int):=by split <;> omega
 have t1:(if (a:Int)<1024 then (a:Int) else 1024)=(t:Int):=by split <;> omega
 have m2:min 67 ((s.size:Int)-(a:Int))=(m:Int):=by omega
 have t2:min 1024 (a:Int)=(t:Int):=by omega
 have HF:Hid (find s.data.toList a=best s.data.toList a m t):=by
   have hl:s.data.toList.length=s.size:=by simp
   have h:find s.data.toList a=best s.data.toList a m t:=by rw [find_in (by omega),hl,hm,ht]
   exact h
 have hm0:0<m:=by omega
 have hma:a+m≤s.size:=by omega
 have hta:t≤a:=by omega
 have c1:decide ((a:Int)<0)=false:=by simp
 have c2:decide (s.size≤a)=false:=by simp;omega
 clear hm ht;go_enter Tryz.func124,Tryz.ntmps124
 go_wp2;clear m1 t1 m2 t2 c1 c2
 go_loopw [4,5,24] (fun b n i wr=>∃ i' b' n' q:Nat,i'≤t∧i=.int .i64 i'∧b=.int .i64 b'∧n=.int .i64 n'∧n'<m∧bestC s.data.toList a m 1 i' b' n'∧wr=w.drewN q) (fun _ _ i _=>t-(intOf i).toNat)
 case atStart=>exact ⟨0,0,0,0,by omega,rfl,rfl,rfl,hm0,.inl ⟨rfl,rfl,fun k h1 h2=>by omega⟩,rfl⟩
 case round =>
   obtain ⟨i,b,n,q,hi,rfl,rfl,rfl,hn,hC,rfl⟩:=hrel;have HC:=Lib.hid hC;clear hC;by_cases hlt:i<t
   · obtain ⟨x,hx⟩:∃ x,sm s.data.toList a (i+1) m=x:=⟨_,rfl⟩;have hxm:=sm_le s.data.toList a (i+1) m;rw [hx] at hxm;by_cases hb:4≤x∧n<x
     · have hN:=bestC_far HC.out (by omega) (by omega) (by omega);rw [hx] at hN;have HN:=Lib.hid hN;have HX:=Lib.hid hx;obtain ⟨b4,bn⟩:=hb;clear hN hx;by_cases hf:x=m
       · have hbe:((x:Int) == (m:Int))=true:=by simp [hf]
         have HE:Hid (find s.data.toList a=(i+1,x)):=by
           have h:find s.data.toList a=(i+1,x):=by rw [HF.out];exact best_eq (bestC_full HN.out hf hm0 (by omega))
           exact h
         clear hf;go_wp2_with fail
         refine (same_at s a (i+1) m _ _ HS.out (by omega) (by omega) hma).mono ?_;rintro e w1 ⟨rfl,q1,rfl⟩;rw [HX.out];go_wp2;go_ret2;exact ⟨by rw [HE.out];rfl,by first | exact ⟨_,rfl⟩ | exact drewq _ _ _⟩
       · have hbe:((x:Int) == (m:Int))=false:=by simp;omega
         go_wp2_with fail
         refine (same_at s a (i+1) m _ _ HS.out (by omega) (by omega) hma).mono ?_;rintro e w1 ⟨rfl,q1,rfl⟩;rw [HX.out];go_wp2;go_roundw
         case rel=>exact ⟨i+1,i+1,x,q+q1,by omega,by go_num,by go_num,rfl,by omega,HN.out,by simp⟩
         case measure=>simp [intOf];omega
     · have hN:=bestC_farnot HC.out (by rw [hx];exact hb);have HN:=Lib.hid hN;have HX:=Lib.hid hx;have hbe:((n:Int) == (m:Int))=false:=by simp;omega
       clear hN hx;by_cases h4:4≤x
       · have h5:¬ n<x:=fun h=>hb ⟨h4,h⟩
         clear hb;go_wp2_with fail
         refine (same_at s a (i+1) m _ _ HS.out (by omega) (by omega) hma).mono ?_;rintro e w1 ⟨rfl,q1,rfl⟩;rw [HX.out];go_wp2;go_roundw
         case rel=>exact ⟨i+1,b,n,q+q1,by omega,by go_num,rfl,rfl,by omega,HN.out,by simp⟩
         case measure=>simp [intOf];omega
       · clear hb;go_wp2_with fail
         refine (same_at s a (i+1) m _ _ HS.out (by omega) (by omega) hma).mono ?_;rintro e w1 ⟨rfl,q1,rfl⟩;rw [HX.out];go_wp2;go_roundw
         case rel=>exact ⟨i+1,b,n,q+q1,by omega,by go_num,rfl,rfl,by omega,HN.out,by simp⟩
         case measure=>simp [intOf];omega
   · have HE : Hid (find s.data.toList a = (b, n)) := by
       have h:find s.data.toList a=(b,n):=by
         rw [HF.out];have e:i=t:=by omega
         rw [←e];exact best_eq HC.out
       exact h
     go_wp2;go_ret2;exact ⟨by rw [HE.out];rfl,_,rfl⟩
end Go.Proofs.YtgfinhehgfbdgaaGreatDoor
namespace Go.Proofs.YtgfinhehgfbdgaaGreatDoor
open Go.RowKit
set_option maxRecDepth 100000 in
theorem ridrightW_as (x1 x2:Int) (b:Bool) (w:World) (hb:idRW (x1,x2)=b) :
   Calls Tryz.prog 179 #[.agg #[.int .i64 x1,.int .i64 x2]] w fun e w'=>e=.returned (.bool b)∧Below w.heap.size w w':=by
 subst hb;by_cases h1:1≤x1∧x1≤1099511627776
 · by_cases h2:0≤x2∧x2≤200
   · have HW:Hid (idRW (x1,x2)=true):=Lib.hid (by unfold idRW;exact decide_eq_true ⟨h1.1,h1.2,h2.1,h2.2⟩);go_enter Tryz.func179,Tryz.ntmps179
     go_wp2_with fail
     refine (within_yes x1 1 1099511627776 _ h1.1 h1.2).mono ?_;rintro r w' ⟨rfl,rfl⟩;go_wp2_with fail
     refine (within_yes x2 0 200 _ h2.1 h2.2).mono ?_;rintro r w' ⟨rfl,rfl⟩;go_wp2;go_ret;exact ⟨by rw [HW.out];rfl,(Below.refl _ _).alloc (Nat.le_refl _) _⟩
   · have HW:Hid (idRW (x1,x2)=false):=Lib.hid (by unfold idRW;exact decide_eq_false (fun h=>h2 h.2.2));by_cases h3:x2<0
     · go_enter Tryz.func179,Tryz.ntmps179
       go_wp2_with fail
       refine (within_yes x1 1 1099511627776 _ h1.1 h1.2).mono ?_;rintro r w' ⟨rfl,rfl⟩;go_wp2_with fail
       refine (within_low x2 0 200 _ h3).mono ?_;rintro r w' ⟨rfl,rfl⟩;go_wp2;go_ret;exact ⟨by rw [HW.out];rfl,(Below.refl _ _).alloc (Nat.le_refl _) _⟩
     · go_enter Tryz.func179,Tryz.ntmps179
       go_wp2_with fail
       refine (within_yes x1 1 1099511627776 _ h1.1 h1.2).mono ?_;rintro r w' ⟨rfl,rfl⟩;go_wp2_with fail
       refine (within_high x2 0 200 _ (by omega) (by omega)).mono ?_;rintro r w' ⟨rfl,rfl⟩;go_wp2;go_ret;exact ⟨by rw [HW.out];rfl,(Below.refl _ _).alloc (Nat.le_refl _) _⟩
 · have HW:Hid (idRW (x1,x2)=false):=Lib.hid (by unfold idRW;exact decide_eq_false (fun h=>h1 ⟨h.1,h.2.1⟩));by_cases h3:x1<1
   · go_enter Tryz.func179,Tryz.ntmps179
     go_wp2_with fail
     refine (within_low x1 1 1099511627776 _ h3).mono ?_;rintro r w' ⟨rfl,rfl⟩;go_wp2;go_ret;exact ⟨by rw [HW.out];rfl,(Below.refl _ _).alloc (Nat.le_refl _) _⟩
   · go_enter Tryz.func179,Tryz.ntmps179
     go_wp2_with fail
     refine (within_high x1 1 1099511627776 _ (by omega) (by omega)).mono ?_;rintro r w' ⟨rfl,rfl⟩;go_wp2;go_ret;exact ⟨by rw [HW.out];rfl,(Below.refl _ _).alloc (Nat.le_refl _) _⟩
end Go.Proofs.YtgfinhehgfbdgaaGreatDoor
namespace Go.Proofs.YtgfinhehgfbdgaaGreatDoor
open Go.RowKit
def OwnIs (w:World) (base:Nat) (l:List Tok) (e:Ending) (w':World):Prop :=
 ∃ v,e=.returned v∧ownsK w' base v l∧Below base w w'
set_option maxRecDepth 100000 in
set_option maxHeartbeats 1000000 in
theorem own_any (v:Value) (l:List Tok) (s:ByteArray) (base:Nat) (w:World) (hs:s.size≤140737488351232) (hb:base≤w.heap.size) (ho:ownsK w base v l) (hl:l.length≤999999) :
   Calls Tryz.prog 125 #[v,.string s] w (OwnIs w base (l++ownT s.data.toList)):=by
 by_cases hz:s.data.toList=[]
 · have h1:s.toList=[]:=by rw [toL];exact hz
   have h2:s.toList.isEmpty=true:=by rw [h1];rfl
   have HO:Hid (ownsK w base v (l++ownT s.data.toList)):=by
     have h:ownsK w base v (l++ownT s.data.toList):=by rw [hz,ownT_nil,List.append_nil];exact ho
     exact h
   clear ho hz;go_enter Tryz.func125,Tryz.ntmps125
   go_wp2;go_ret;exact ⟨_,rfl,HO.out,Below.refl _ _⟩
 · have h2 : s.toList.isEmpty = false := by rw [toL]; cases h : s.data.toList with
                                                      | nil=>exact absurd h hz
                                                      | cons=>rfl
   have HO:=Lib.hid ho;have HT:Hid (ownT s.data.toList=[⟨s,0,0⟩]):=by
     have h:ownT s.data.toList=[⟨s,0,0⟩]:=by rw [ownT_cons hz]
     exact h
   clear ho hz;go_enter Tryz.func125,Tryz.ntmps125
   go_wp2_with fail
   refine (clone_s s _ hs).mono ?_;rintro r w1 ⟨rfl,hb1⟩;have HO1:=Lib.hid (HO.out.below hb1);have HB1:Hid (Below base w w1):=hb1.mono hb;have hbs:base≤w1.heap.size:=Nat.le_trans hb hb1.size;clear hb1;go_wp2_with (at_builtin;refine wpList_append_tok rfl _ _ rfl base _ l rfl (HO1.out.alloc _) w1.heap.size 1 rfl ⟨s,0,0⟩ ?c1 ?c2 ?c3 ?_)
   case c1=>exact tokBlk_new _ _ _ _
   case c2=>omega
   case c3=>simp;omega
   · intro g cap w2 ho2 hg2;have HB2:Hid (Below base w w2):=(HB1.out.alloc hbs _).grown hg2 (by simp;omega) (fun g hg=>(HO1.out.lt g hg).1);have HO2:=Lib.hid ho2;clear ho2 hg2;go_wp2;go_ret;exact ⟨_,rfl,by rw [HT.out];exact HO2.out,HB2.out⟩
end Go.Proofs.YtgfinhehgfbdgaaGreatDoor
namespace Go.Proofs.YtgfinhehgfbdgaaGreatDoor
open Go.RowKit
set_option maxRecDepth 100000 in
set_option maxHeartbeats 2000000 in
theorem rfind_nat (s:ByteArray) (a:Nat) (w:World) (hs:s.size≤maxLen) (ha:a<s.size) :
   Calls Tryz.prog 139 #[.string s,.int .i64 a] w fun e w'=>e=.returned (findV (find s.data.toList a))∧∃ q,w'=w.drewN q:=by
 unfold maxLen at hs;obtain ⟨m,hm⟩:∃ m,m=min 67 (s.size-a):=⟨_,rfl⟩;obtain ⟨t,ht⟩:∃ t,t=min 1024 a:=⟨_,rfl⟩;have t1:(if 1024<(a:Int) then 1024 else (a:Int))=(t:Int):=by split <;> omega
 have t2:min (a:Int) 1024=(t:Int):=by omega
 have HF:Hid (find s.data.toList a=best s.data.toList a m t):=by
   have hl:s.data.toList.length=s.size:=by simp
   have h:find s.data.toList a=best s.data.toList a m t:=by rw [find_in (by omega),hl,hm,ht]
   exact h
 have hm0:0<m:=by omega
 have hta:t≤a:=by omega
 have HM:=Lib.hid hm;clear hm ht;go_enter Tryz.func139,Tryz.ntmps139
 go_wp2_with fail
 refine (within_yes a 0 _ _ (by omega) (by omega)).mono ?_;rintro e w1 ⟨rfl,rfl⟩;go_wp2;clear t1 t2
 go_loopw [6,7,8] (fun n b i wr=>∃ i' b' n' q:Nat,i'≤t∧i=.int .i64 i'∧b=.int .i64 b'∧n=.int .i64 n'∧bestC s.data.toList a m (i'+1) t b' n'∧wr=w.drewN q) (fun _ _ i _=>(intOf i).toNat)
 case atStart=>exact ⟨t,0,0,0,by omega,rfl,rfl,rfl,.inl ⟨rfl,rfl,fun k h1 h2=>by omega⟩,rfl⟩
 case round =>
   obtain ⟨i,b,n,q,hi,rfl,rfl,rfl,hC,rfl⟩:=hrel;have HC:=Lib.hid hC;clear hC;by_cases hlt:1≤i
   · go_wp2;obtain ⟨wo,hwo⟩:∃ wo:World,wo=w.drewN q:=⟨_,rfl⟩;rw [←hwo];have HWO:=Lib.hid hwo;clear hwo
     go_loopw [9] (fun k wr=>∃ k' q':Nat,k'≤m∧k=.int .i64 k'∧wr=wo.drewN q'∧∀ j,j<k'→s.data.toList.getD (a+j) 0=s.data.toList.getD (a+j-i) 0) (fun k _=>m-(intOf k).toNat)
     case atStart=>exact ⟨0,0,by omega,rfl,rfl,fun j h=>by omega⟩
     case round =>
       obtain ⟨k,q',hk,rfl,rfl,hall⟩:=hrel;have HA:=Lib.hid hall;clear hall;by_cases hlt2:k<m
       · obtain ⟨p,hp⟩:∃ p,p=a+k:=⟨_,rfl⟩;obtain ⟨r,hr⟩:∃ r,r=a+k-i:=⟨_,rfl⟩;have hpl:p<s.size:=by have:=HM.out;omega
         have hrl:r<s.size:=by omega
         have h1:IntKind.i64.wrap ((a:Int)+(k:Int))=(p:Int):=by rw [IntWalk.i64_in _ (by omega)];omega
         have h2:IntKind.i64.wrap ((p:Int)-(i:Int))=(r:Int):=by rw [IntWalk.i64_in _ (by omega)];omega
         have k67:k<67:=by have:=HM.out;omega
         have d1:decide ((k:Int)<67)=true:=by simp;omega
         have d2:decide (p<s.size)=true:=by simp;omega
         have HP:=Lib.hid hp;have HR:=Lib.hid hr;clear hp hr;by_cases heq:s[p]=s[r]
         · have hq:((s[p].toNat:Int) == (s[r].toNat:Int))=true:=by rw [u8_eq];simp [heq]
           have HN:Hid (∀ j,j<k+1→s.data.toList.getD (a+j) 0=s.data.toList.getD (a+j-i) 0):=by
             intro j hj;by_cases e:j=k
             · rw [e,←HR.out,←HP.out,getB _ _ hpl,getB _ _ hrl];exact heq
             · exact HA.out j (by omega)
           clear heq;go_wp2
           go_quiet (fail)
           clear h1 h2 d1 d2;go_wp2;go_roundw
           case rel=>exact ⟨k+1,_,by omega,by go_num,rfl,HN.out⟩
           case measure=>simp [intOf];omega
         · have hq:((s[p].toNat:Int) == (s[r].toNat:Int))=false:=by rw [u8_eq];simp [heq]
           have HK:Hid (sm s.data.toList a i m=k):=by
             refine sm_eq ⟨by omega,HA.out,fun _=>?_⟩;rw [←HR.out,←HP.out,getB _ _ hpl,getB _ _ hrl];exact heq
           clear heq;have hC:=HC.out;by_cases c4:4≤k
           · by_cases cn:n≤k
             · have hN:=bestC_near hC hi (by rw [HK.out];exact c4) (by rw [HK.out];exact cn);rw [HK.out] at hN;have HN:=Lib.hid hN;clear hN hC;go_wp2
               go_quiet (fail)
               go_wp2;go_roundw
               case rel=>exact ⟨i-1,i,k,_,by omega,by go_num,rfl,rfl,by rw [show i-1+1=i by omega];exact HN.out,by rw [HWO.out];simp;rfl⟩
               case measure=>simp [intOf];omega
             · have hN:=bestC_nearnot hC (by rw [HK.out];exact fun h=>cn h.1);have HN:=Lib.hid hN;clear hN hC;go_wp2
               go_quiet (fail)
               go_wp2;go_roundw
               case rel=>exact ⟨i-1,b,n,_,by omega,by go_num,rfl,rfl,by rw [show i-1+1=i by omega];exact HN.out,by rw [HWO.out];simp;rfl⟩
               case measure=>simp [intOf];omega
           · have hN:=bestC_nearnot hC (by rw [HK.out];exact fun h=>c4 h.2);have HN:=Lib.hid hN;clear hN hC;by_cases cn:n≤k
             · go_wp2
               go_quiet (fail)
               go_wp2;go_roundw
               case rel=>exact ⟨i-1,b,n,_,by omega,by go_num,rfl,rfl,by rw [show i-1+1=i by omega];exact HN.out,by rw [HWO.out];simp;rfl⟩
               case measure=>simp [intOf];omega
             · go_wp2
               go_quiet (fail)
               go_wp2;go_roundw
               case rel=>exact ⟨i-1,b,n,_,by omega,by go_num,rfl,rfl,by rw [show i-1+1=i by omega];exact HN.out,by rw [HWO.out];simp;rfl⟩
               case measure=>simp [intOf];omega
       · have e:k=m:=by omega
         have HK:Hid (sm s.data.toList a i m=k):=by
           refine sm_eq ⟨by omega,HA.out,fun h=>absurd h hlt2⟩
         by_cases k67:k<67
         · obtain ⟨p,hp⟩:∃ p,p=a+k:=⟨_,rfl⟩;have hps:p≤s.size:=by have:=HM.out;omega
           have h1:IntKind.i64.wrap ((a:Int)+(k:Int))=(p:Int):=by rw [IntWalk.i64_in _ (by omega)];omega
           have d1:decide ((k:Int)<67)=true:=by simp;omega
           have d2:decide (p<s.size)=false:=by have:=HM.out;simp;omega
           have HP:=Lib.hid hp;clear hp e;have hC:=HC.out;by_cases c4:4≤k
           · by_cases cn:n≤k
             · have hN:=bestC_near hC hi (by rw [HK.out];exact c4) (by rw [HK.out];exact cn);rw [HK.out] at hN;have HN:=Lib.hid hN;clear hN hC;go_wp2
               go_quiet (fail)
               go_wp2;go_roundw
               case rel=>exact ⟨i-1,i,k,_,by omega,by go_num,rfl,rfl,by rw [show i-1+1=i by omega];exact HN.out,by rw [HWO.out];simp;rfl⟩
               case measure=>simp [intOf];omega
             · have hN:=bestC_nearnot hC (by rw [HK.out];exact fun h=>cn h.1);have HN:=Lib.hid hN;clear hN hC;go_wp2
               go_quiet (fail)
               go_wp2;go_roundw
               case rel=>exact ⟨i-1,b,n,_,by omega,by go_num,rfl,rfl,by rw [show i-1+1=i by omega];exact HN.out,by rw [HWO.out];simp;rfl⟩
               case measure=>simp [intOf];omega
           · have hN:=bestC_nearnot hC (by rw [HK.out];exact fun h=>c4 h.2);have HN:=Lib.hid hN;clear hN hC;by_cases cn:n≤k
             · go_wp2
               go_quiet (fail)
               go_wp2;go_roundw
               case rel=>exact ⟨i-1,b,n,_,by omega,by go_num,rfl,rfl,by rw [show i-1+1=i by omega];exact HN.out,by rw [HWO.out];simp;rfl⟩
               case measure=>simp [intOf];omega
             · go_wp2
               go_quiet (fail)
               go_wp2;go_roundw
               case rel=>exact ⟨i-1,b,n,_,by omega,by go_num,rfl,rfl,by rw [show i-1+1=i by omega];exact HN.out,by rw [HWO.out];simp;rfl⟩
               case measure=>simp [intOf];omega
         · have d1:decide ((k:Int)<67)=false:=by simp;omega
           clear e;have hC:=HC.out;by_cases c4:4≤k
           · by_cases cn:n≤k
             · have hN:=bestC_near hC hi (by rw [HK.out];exact c4) (by rw [HK.out];exact cn);rw [HK.out] at hN;have HN:=Lib.hid hN;clear hN hC;go_wp2
               go_quiet (fail)
               go_wp2;go_roundw
               case rel=>exact ⟨i-1,i,k,_,by omega,by go_num,rfl,rfl,by rw [show i-1+1=i by omega];exact HN.out,by rw [HWO.out];simp;rfl⟩
               case measure=>simp [intOf];omega
             · have hN:=bestC_nearnot hC (by rw [HK.out];exact fun h=>cn h.1);have HN:=Lib.hid hN;clear hN hC;go_wp2
               go_quiet (fail)
               go_wp2;go_roundw
               case rel=>exact ⟨i-1,b,n,_,by omega,by go_num,rfl,rfl,by rw [show i-1+1=i by omega];exact HN.out,by rw [HWO.out];simp;rfl⟩
               case measure=>simp [intOf];omega
           · omega
   · have HE : Hid (find s.data.toList a = (b, n)) := by
       have h:find s.data.toList a=(b,n):=by
         rw [HF.out];have e:i=0:=by omega
         have:=HC.out;rw [e] at this;exact best_eq this
       exact h
     go_wp2;go_ret2;exact ⟨by rw [HE.out];rfl,_,rfl⟩
end Go.Proofs.YtgfinhehgfbdgaaGreatDoor
namespace Go.Proofs.YtgfinhehgfbdgaaGreatDoor
open Go.RowKit
theorem not_u32 {n:Nat} (h:n<4294967296):bits .xor .u32 IntKind.u32.max (n:Int)=(inv n:Nat):=by
 rw [show IntKind.u32.max=((4294967295:Nat):Int) from by decide,u32_xor_nat _ _ (by decide) h,Nat.xor_comm];rfl
theorem xor_u32 {n:Nat} (h:n<4294967296) (c:UInt8):bits .xor .u32 (n:Int) ((c.toNat:Int) % 4294967296)=((n ^^^ c.toNat:Nat):Int):=by
 have:=byte_lt c;rw [Int.emod_eq_of_lt (by omega) (by omega)];exact u32_xor_nat _ _ h (byte_lt c)
theorem take_at (s:ByteArray) (c k:Nat) (h:k<s.size):run c (s.data.toList.take (k+1))=pass (run c (s.data.toList.take k) ^^^ s[k].toNat) :=
 run_take c s.data.toList k (by simpa using h)
theorem take_all (s:ByteArray):s.data.toList.take s.size=s.data.toList:=List.take_of_length_le (by simp)
set_option maxRecDepth 100000 in
set_option maxHeartbeats 400000 in
theorem more_any (x:Int) (s:ByteArray) (w:World) (h0:0≤x) (h1:x<4294967296) (hs:s.size≤maxLen) :
   Calls Tryz.prog 67 #[.int .u32 x,.string s] w fun e w'=>e=.returned (.int .u32 (more x.toNat s.data.toList:Nat))∧w=w':=by
 unfold maxLen at hs;obtain ⟨n,rfl⟩:=Int.eq_ofNat_of_zero_le h0;have hn:n<4294967296:=by omega
 clear h0 h1;go_enter Tryz.func67,Tryz.ntmps67
 go_wp2
 go_loop [0,10] (fun s0 i=>∃ k:Nat,k≤s.size∧i=.int .i64 k∧s0=.int .u32 (run (inv n) (s.data.toList.take k):Nat)) (fun _ i=>s.size-(intOf i).toNat)
 case atStart=>exact ⟨0,by omega,rfl,by rw [not_u32 hn];rfl⟩
 case round =>
   obtain ⟨k,hk,rfl,rfl⟩:=hrel;have hr:=run_lt (s.data.toList.take k) (inv_lt hn);by_cases hlt:k<s.size
   · have hx:=xor_u32 hr s[k];have hl:=xlt hr (byte_lt s[k]);go_wp2_with fail
     refine (pass_any _ _ (by omega) (by omega)).mono ?_;rintro e w' ⟨rfl,rfl⟩;rw [Int.toNat_natCast];go_wp2
     go_round
     case rel=>exact ⟨k+1,by omega,by go_num,by rw [take_at s _ k hlt]⟩
     case measure=>simp [intOf];omega
   · obtain rfl:k=s.size:=by omega
     go_wp2;go_ret;exact ⟨ret_u32 (by rw [not_u32 hr,take_all];rfl),rfl⟩
set_option maxRecDepth 100000 in
set_option maxHeartbeats 400000 in
theorem sum_any (s:ByteArray) (w:World) (hs:s.size≤maxLen) :
   Calls Tryz.prog 66 #[.string s] w fun e w'=>e=.returned (.int .u32 (sum s.data.toList:Nat))∧w=w':=by
 go_enter Tryz.func66,Tryz.ntmps66
 go_wp2_with fail
 refine (more_any _ _ _ (by omega) (by omega) hs).mono ?_;rintro e w' ⟨rfl,rfl⟩;go_wp2;go_ret;exact ⟨rfl,rfl⟩
end Go.Proofs.YtgfinhehgfbdgaaGreatDoor
namespace Go.Proofs.YtgfinhehgfbdgaaGreatDoor
def sumT:List Tok→Nat
 | []=>0
 | t::r=>lenT t+sumT r
theorem textL_sum (l:List Tok) (b:List UInt8):(textL b l).length=b.length+sumT l:=by
 induction l generalizing b with
 | nil=>rfl
 | cons t r ih=>show (textL (stepT b t) r).length=_;rw [ih,stepT_len,sumT];omega
def cost (l:List Tok):Nat:=(writeL l).length
theorem cost_cons (t:Tok) (r:List Tok):cost (t::r)=(putT t).length+cost r:=by unfold cost;rw [writeL_cons,List.length_append]
theorem cost_app (l m:List Tok):cost (l++m)=cost l+cost m:=by unfold cost;rw [writeL_app,List.length_append]
theorem rep_cost {t:Tok} (h:fine t) (h0:t.own.size=0):1≤(putT t).length∧(putT t).length≤3∧4≤lenT t:=by
 rcases h with ⟨h1,_,_⟩ | ⟨_,h1,h2,h3,h4⟩
 · exact absurd h0 h1
 · refine ⟨putT_pos t,?_,by unfold lenT;omega⟩;rw [putT_rep h0,List.length_append];have e1:=putL_len 1 (2 * (t.size.toNat-4)+1) (by omega) (by omega);have e2:=putL_len 2 (t.back.toNat-1) (by omega) (by omega);omega
end Go.Proofs.YtgfinhehgfbdgaaGreatDoor
namespace Go.Proofs.YtgfinhehgfbdgaaGreatDoor
open Go.RowKit
def tailC (n k:Nat):Array Value:=((List.range 4).map fun i=>Value.int .u8 (if i<k then (n:Int) / 2 ^ (8 * i) % 256 else 0)).toArray
theorem tailC_size (n k:Nat):(tailC n k).size=4:=by simp [tailC]
theorem tailC_at (n k i:Nat) (h:i<4):(tailC n k)[i]? = some (.int .u8 (if i<k then (n:Int) / 2 ^ (8 * i) % 256 else 0)):=by
 unfold tailC;simp [h]
theorem tailC_set (n k:Nat) (hk:k<4):(tailC n k).setIfInBounds k (.int .u8 ((n:Int) / 2 ^ (8 * k) % 256))=tailC n (k+1):=by
 apply Array.ext_getElem?
 intro i;rw [Array.getElem?_setIfInBounds,tailC_size];by_cases hi:i<4
 · by_cases e:k=i
   · subst e;rw [if_pos rfl,if_pos hk,tailC_at _ _ k hi,if_pos (by omega)]
   · rw [if_neg e,tailC_at _ _ i hi,tailC_at _ _ i hi];by_cases h2:i<k
     · rw [if_pos h2,if_pos (by omega)]
     · rw [if_neg h2,if_neg (by omega)]
 · rw [Array.getElem?_eq_none (by rw [tailC_size];omega),Array.getElem?_eq_none (by rw [tailC_size];omega),if_neg (by omega)]
theorem tail4_at (n j:Nat) (h:j<(tail4 n).length):((tail4 n)[j].toNat:Int)=(n:Int) / 2 ^ (8 * j) % 256:=by
 have e:∀ m:Nat,((UInt8.ofNat m).toNat:Int)=((m % 256:Nat):Int):=fun m=>by simp
 match j,h with
 | 0,_=>show ((UInt8.ofNat n).toNat:Int)=_;rw [e];simp
 | 1,_=>show ((UInt8.ofNat (n / 256)).toNat:Int)=_;rw [e];simp
 | 2,_=>show ((UInt8.ofNat (n / 65536)).toNat:Int)=_;rw [e];simp
 | 3,_=>show ((UInt8.ofNat (n / 16777216)).toNat:Int)=_;rw [e];simp
 | j+4,h=>exact absurd h (by simp [tail4])
theorem tail_conv (n:Nat) (w:World):(convert 56 9 (.slice (some ⟨w.heap.size,0,none⟩) 4 4)).run Tryz.prog (w.alloc (.cells (tailC n 4) 181))=.ok (.string ⟨(tail4 n).toArray⟩) (w.alloc (.cells (tailC n 4) 181)):=by
 refine run_convert_bytes_back _ _ _ _ _ _ (tail4 n) Tryz.underlying56 Tryz.underlying5 Tryz.underlying9 fun j hj=>?_
 have hadd:(⟨w.heap.size,0,none⟩:Addr).add j=⟨w.heap.size,j,none⟩:=by unfold Addr.add;split <;> simp_all
 have h4:j<4:=hj;rw [hadd,cell_of_row _ _ _ _ _ _ (heap_alloc_new w _),tailC_at _ _ _ h4,if_pos h4,tail4_at n j hj]
set_option maxRecDepth 100000 in
set_option maxHeartbeats 1000000 in
theorem tail_any (s:ByteArray) (w:World) (hs:s.size≤maxLen) :
   Calls Tryz.prog 70 #[.string s] w fun e w'=>e=.returned (.string ⟨(tail4 (sum s.data.toList)).toArray⟩)∧Below w.heap.size w w':=by
 have hl:=sum_lt s.data.toList;go_enter Tryz.func70,Tryz.ntmps70
 go_wp2_with fail
 refine (sum_any _ _ hs).mono ?_;rintro e w' ⟨rfl,rfl⟩;obtain ⟨n,hn⟩:∃ n,n=sum s.data.toList:=⟨_,rfl⟩;rw [←hn] at hl ⊢;have HN:=Lib.hid hn;clear hn;go_wp2
 go_loopw [8] (fun i wr=>∃ k:Nat,k≤4∧i=.int .i64 k∧wr=w.alloc (.cells (tailC n k) 181)) (fun i _=>4-(intOf i).toNat)
 case atStart=>exact ⟨0,by omega,rfl,rfl⟩
 case round =>
   obtain ⟨k,hk,rfl,rfl⟩:=hrel;by_cases hlt:k<4
   · have hc:=tailC_at n k k hlt;rw [if_neg (Nat.lt_irrefl k)] at hc;have hz:=tailC_set n k hlt;go_wp2;go_roundw
     case rel=>exact ⟨k+1,by omega,by go_num,rfl⟩
     case measure=>simp [intOf];omega
   · obtain rfl:k=4:=by omega
     have hconv:=tail_conv n w;go_wp2;go_ret;exact ⟨by rw [HN.out];rfl,(Below.refl _ _).alloc (Nat.le_refl _) _⟩
def sealB (s:ByteArray):ByteArray:=s++⟨(tail4 (sum s.data.toList)).toArray⟩
theorem sealB_data (s:ByteArray):(sealB s).data.toList=sealL s.data.toList:=by unfold sealB sealL;simp
set_option maxRecDepth 100000 in
set_option maxHeartbeats 1000000 in
theorem seal_any (s:ByteArray) (w:World) (hs:s.size≤140737488351232) :
   Calls Tryz.prog 35 #[.string s] w fun e w'=>e=.returned (.string (sealB s))∧Below w.heap.size w w':=by
 have hz:(⟨(tail4 (sum s.data.toList)).toArray⟩:ByteArray).size=4:=rfl;go_enter Tryz.func35,Tryz.ntmps35
 go_wp2_with fail
 refine (tail_any s _ (by unfold maxLen;omega)).mono ?_;rintro e w1 ⟨rfl,hb1⟩;have HB:=Lib.hid hb1;clear hb1;go_wp2;go_ret;exact ⟨rfl,HB.out⟩
end Go.Proofs.YtgfinhehgfbdgaaGreatDoor
namespace Go.Proofs.YtgfinhehgfbdgaaGreatDoor
open Go.RowKit
theorem shr_cast' (n k:Nat):(n:Int) / 2 ^ k=((n / 2 ^ k:Nat):Int):=by simp
theorem low_eq {n:Nat} (hn:n<4294967296) (y r:Nat) (hy:y<256) :
   bits .xor .u32 (bits .and .u32 (n:Int) 1) (bits .and .u32 ((y:Int) / 2 ^ r % 4294967296) 1)=(((n ^^^ y / 2 ^ r % 2) % 2:Nat):Int):=by
 have h1:y / 2 ^ r<256:=Nat.lt_of_le_of_lt (Nat.div_le_self _ _) hy;have e1:(y:Int) / 2 ^ r % 4294967296=((y / 2 ^ r:Nat):Int):=by
   rw [shr_cast'];generalize y / 2 ^ r=m at *;omega
 rw [e1,and_one n hn,and_one _ (by omega),u32_xor_nat _ _ (by omega) (by omega)]
 congr 1
 have:=Nat.xor_mod_two_pow (a:=n) (b:=y / 2 ^ r % 2) (n:=1);simp only [Nat.pow_one] at this
 rw [this,Nat.mod_mod]
theorem st_bit (n b:Nat) (hb:b<2):(n ^^^ b) / 2=n / 2:=by
 rw [Nat.xor_div_two,show b / 2=0 by omega,Nat.xor_zero]
theorem bit_yes {n:Nat} (hn:n<4294967296) (y r:Nat) (hy:y<256)
   (ht:(bits .xor .u32 (bits .and .u32 (n:Int) 1) (bits .and .u32 ((y:Int) / 2 ^ r % 4294967296) 1) == 1)=true) :
   bits .xor .u32 ((n:Int) / 2) 2197175160=(st (n ^^^ y / 2 ^ r % 2):Nat):=by
 rw [low_eq hn y r hy] at ht;have h2:=eq_of_beq ht;rw [st_odd (by omega),st_bit _ _ (Nat.mod_lt _ (by decide)),half_cast,show (2197175160:Int)=((2197175160:Nat):Int) from rfl,u32_xor_nat _ _ (by omega) (by omega)]
theorem bit_no {n:Nat} (hn:n<4294967296) (y r:Nat) (hy:y<256)
   (ht:(bits .xor .u32 (bits .and .u32 (n:Int) 1) (bits .and .u32 ((y:Int) / 2 ^ r % 4294967296) 1) == 1)=false) :
   (n:Int) / 2=(st (n ^^^ y / 2 ^ r % 2):Nat):=by
 rw [low_eq hn y r hy] at ht;have h2:(n ^^^ y / 2 ^ r % 2) % 2≠1:=by intro e;rw [e] at ht;exact absurd ht (by decide)
 rw [st_even h2,st_bit _ _ (Nat.mod_lt _ (by decide)),half_cast]
theorem bs_at (s:ByteArray) (c k:Nat) (h:k / 8<s.size):bs c (val s.data.toList) (k+1)=st (bs c (val s.data.toList) k ^^^ s[k / 8].toNat / 2 ^ (k % 8) % 2):=by
 have:=val_bit s.data.toList (k / 8) (k % 8) (by simpa using h) (Nat.mod_lt _ (by decide));rw [show 8 * (k / 8)+k % 8=k by omega] at this;rw [bs,this];rfl
set_option maxRecDepth 100000 in
set_option maxHeartbeats 1000000 in
theorem refcarry_any (x:Int) (s:ByteArray) (w:World) (h0:0≤x) (h1:x<4294967296) (hs:s.size≤1000000) :
   Calls Tryz.prog 140 #[.int .u32 x,.string s] w fun e w'=>e=.returned (.int .u32 (run x.toNat s.data.toList:Nat))∧w=w':=by
 obtain ⟨c,rfl⟩:=Int.eq_ofNat_of_zero_le h0;have hc:c<4294967296:=by omega
 clear h0 h1;go_enter Tryz.func140,Tryz.ntmps140
 go_wp2
 go_loop [0,5] (fun n i=>∃ k:Nat,k≤8 * s.size∧i=.int .i64 k∧n=.int .u32 (bs c (val s.data.toList) k:Nat)) (fun _ i=>8 * s.size-(intOf i).toNat)
 case atStart=>exact ⟨0,by omega,rfl,rfl⟩
 case round =>
   obtain ⟨k,hk,rfl,rfl⟩:=hrel;have hb:=bs_lt (val s.data.toList) k hc;by_cases hlt:k<8 * s.size
   · have hj:k / 8<s.size:=by omega
     have hj2:(k:Int) / 8<(s.size:Int):=by omega
     have hj1:0≤(k:Int) / 8:=by omega
     have hr1:0≤(k:Int) % 8:=by omega
     have hr2:(k:Int) % 8<8:=by omega
     go_wp2
     · have ht:=bit_yes hb _ _ s[k / 8].toNat_lt (by assumption)
       go_round
       case rel=>exact ⟨k+1,by omega,by go_num,by rw [ht,bs_at s c k hj]⟩
       case measure=>simp [intOf];omega
     · have ht:=bit_no hb _ _ s[k / 8].toNat_lt (by assumption)
       go_round
       case rel=>exact ⟨k+1,by omega,by go_num,by rw [ht,bs_at s c k hj]⟩
       case measure=>simp [intOf];omega
   · obtain rfl:k=8 * s.size:=by omega
     go_wp2;go_ret;exact ⟨ret_u32 (by rw [←bs_run];simp),rfl⟩
set_option maxRecDepth 100000 in
set_option maxHeartbeats 400000 in
theorem refsum_any (s:ByteArray) (w:World) (hs:s.size≤1000000) :
   Calls Tryz.prog 83 #[.string s] w fun e w'=>e=.returned (.int .u32 (sum s.data.toList:Nat))∧w=w':=by
 go_enter Tryz.func83,Tryz.ntmps83
 go_wp2_with fail
 refine (refcarry_any _ _ _ (by omega) (by omega) hs).mono ?_;rintro e w' ⟨rfl,rfl⟩;go_wp2;go_ret;exact ⟨ret_u32 (not_u32 (run_lt _ (by decide))),rfl⟩
end Go.Proofs.YtgfinhehgfbdgaaGreatDoor
namespace Go.Proofs.YtgfinhehgfbdgaaGreatDoor
open Go.RowKit
def hasV (K:Int):Bool:=decide (K=1) || decide (K=4)
def hasN (K:Int):Bool:=decide (K=3) || decide (K=4)
def idOk (T R:Int):Bool:=decide (1≤T∧T≤1099511627776∧0≤R∧R≤200)
def fitsN (K N:Int):Bool:=if K=3 then decide (-1125899906842624≤N) && decide (N≤1125899906842624) else if K=4 then decide (0≤N) && decide (N≤1000) else true
def wriE (T R K:Int) (key val:ByteArray) (N:Int):Nat :=
 if K<1∨4<K then 1 else if idOk T R=false then 2 else if 40<key.size∨300<val.size then 4 else if (0<val.size∧hasV K=false)∨(N≠0∧hasN K=false) then 3 else if fitsN K N=false then 2 else 0
theorem wriE_kind {T R K:Int} {key val:ByteArray} {N:Int} (h:K<1∨4<K):wriE T R K key val N=1:=if_pos h
theorem wriE_id {T R K:Int} {key val:ByteArray} {N:Int} (h:¬ (K<1∨4<K)) (h1:idOk T R=false):wriE T R K key val N=2:=by unfold wriE;rw [if_neg h,if_pos h1]
theorem wriE_size {T R K:Int} {key val:ByteArray} {N:Int} (h:¬ (K<1∨4<K)) (h1:idOk T R=true) (h2:40<key.size∨300<val.size):wriE T R K key val N=4:=by
 unfold wriE;rw [if_neg h,if_neg (by rw [h1];decide),if_pos h2]
theorem wriE_rest {T R K:Int} {key val:ByteArray} {N:Int} (h:¬ (K<1∨4<K)) (h1:idOk T R=true) (h2:¬ (40<key.size∨300<val.size)) :
   wriE T R K key val N=if ((decide (0<val.size) && !hasV K) || (decide (N≠0) && !hasN K))=true then 3 else if fitsN K N=true then 0 else 2:=by
 unfold wriE;rw [if_neg h,if_neg (by rw [h1];decide),if_neg h2];cases hasV K <;> cases hasN K <;> cases fitsN K N <;> simp
theorem empty_of {s:ByteArray} (h:¬ 0<s.size):s=⟨#[]⟩:=by
 cases s with
 | mk d => have : d.size = 0 := by have h2 : ¬ 0 < d.size := h; omega
           rw [Array.eq_empty_of_size_eq_zero this]
theorem bne_empty {s:ByteArray} (h:0<s.size):(s.toList != [])=true:=by
 rw [ByteArray.toList_eq,bne_iff_ne];intro e;have:s.data.toList.length=0:=by rw [e];rfl
 have h2:s.data.toList.length=s.size:=Array.length_toList;omega
theorem wriE_good {T R K:Int} {key val:ByteArray} {N:Int} (h:wriE T R K key val N=0) :
   ¬ (K<1∨4<K)∧idOk T R=true∧key.size≤40∧val.size≤300∧¬ ((0<val.size∧hasV K=false)∨(N≠0∧hasN K=false))∧fitsN K N=true:=by
 unfold wriE at h;split at h
 · simp at h
 · split at h
   · simp at h
   · split at h
     · simp at h
     · split at h
       · simp at h
       · split at h
         · simp at h
         · rename_i h1 h2 h3 h4 h5;exact ⟨h1,by simpa using h2,by omega,by omega,h4,by simpa using h5⟩
end Go.Proofs.YtgfinhehgfbdgaaGreatDoor
namespace Go.Proofs.YtgfinhehgfbdgaaGreatDoor
open Go.RowKit
def cmpF (x y:Int):Int:=if x<y then -1 else if y<x then 1 else 0
def orF (p q:Int):Int:=if p=0 then q else p
def cI (a b:Int×Int):Int:=orF (cmpF a.1 b.1) (cmpF a.2 b.2)
def wiF (x:Int×Int) (from_ have_:List Ent):Bool:=decide (ofF from_ x.2<x.1) && decide (x.1≤ofF have_ x.2)
set_option maxRecDepth 100000 in
theorem cmp_any (x y:Int) (w:World):Calls Tryz.prog 162 #[.int .i64 x,.int .i64 y] w fun e w'=>e=.returned (.int .i64 (cmpF x y))∧w=w':=by
 have hn:∀ (z:Int) (w:World),Calls Tryz.prog 196 #[.int .i64 z] w fun e w'=>e=.returned (.bool false)∧w=w':=fun z w=>by
   go_enter Tryz.func196,Tryz.ntmps196
   go_wp2;go_ret;exact ⟨by first | rfl | simp,rfl⟩
 by_cases h1:x<y
 · have HW:Hid (cmpF x y=-1):=Lib.hid (by unfold cmpF;rw [if_pos h1]);rw [HW.out];go_enter Tryz.func162,Tryz.ntmps162
   go_wp2_with (first | (go_at_call 196;refine (hn _ _).mono ?_;rintro e w' ⟨rfl,rfl⟩))
   go_ret;exact ⟨rfl,rfl⟩
 · by_cases h2:y<x
   · have HW:Hid (cmpF x y=1):=Lib.hid (by unfold cmpF;rw [if_neg h1,if_pos h2]);rw [HW.out];go_enter Tryz.func162,Tryz.ntmps162
     go_wp2_with (first | (go_at_call 196;refine (hn _ _).mono ?_;rintro e w' ⟨rfl,rfl⟩))
     go_ret;exact ⟨rfl,rfl⟩
   · obtain rfl:x=y:=by omega
     have HW:Hid (cmpF x x=0):=Lib.hid (by unfold cmpF;rw [if_neg h1,if_neg h1]);rw [HW.out];clear h1 h2;go_enter Tryz.func162,Tryz.ntmps162
     go_wp2_with (first | (go_at_call 196;refine (hn _ _).mono ?_;rintro e w' ⟨rfl,rfl⟩))
     go_ret;exact ⟨rfl,rfl⟩
theorem cmp_as (x y c:Int) (w:World) (h:cmpF x y=c):Calls Tryz.prog 162 #[.int .i64 x,.int .i64 y] w fun e w'=>e=.returned (.int .i64 c)∧w=w':=by
 subst h;exact cmp_any x y w
set_option maxRecDepth 100000 in
theorem or_any (p q c:Int) (B:Nat) (w:World) (h0:w.cell? ⟨B,0,none⟩=some (.int .i64 p)) (h1:w.cell? ⟨B,1,none⟩=some (.int .i64 q)) (h:orF p q=c) :
   Calls Tryz.prog 161 #[.slice (some ⟨B,0,none⟩) 2 2] w fun e w'=>e=.returned (.int .i64 c)∧w=w':=by
 subst h;by_cases hp:p=0
 · have HW:Hid (orF p q=q):=Lib.hid (by unfold orF;rw [if_pos hp]);rw [HW.out];subst hp;by_cases hq:q=0
   · subst hq;go_enter Tryz.func161,Tryz.ntmps161
     go_wp2;refine wp_loop_rounds 3 ?_;rw [rounds_succ];go_wp2;rw [rounds_succ];go_wp2;rw [rounds_succ];go_wp2;go_ret;exact ⟨rfl,rfl⟩
   · have bq:(q == 0)=false:=by simpa using hq
     have bq2:(q != 0)=true:=by simpa using hq
     go_enter Tryz.func161,Tryz.ntmps161
     go_wp2;refine wp_loop_rounds 2 ?_;rw [rounds_succ];go_wp2;rw [rounds_succ];go_wp2;go_ret;exact ⟨rfl,rfl⟩
 · have HW:Hid (orF p q=p):=Lib.hid (by unfold orF;rw [if_neg hp]);rw [HW.out];have bq:(p == 0)=false:=by simpa using hp
   have bq2:(p != 0)=true:=by simpa using hp
   go_enter Tryz.func161,Tryz.ntmps161
   go_wp2;refine wp_loop_rounds 1 ?_;rw [rounds_succ];go_wp2;go_ret;exact ⟨rfl,rfl⟩
theorem three_new (w:World) (o1 o2:Obj) (a b:Value) (t:TypeId):(((w.alloc o1).alloc o2).alloc (.cells #[a,b] t)).cell? ⟨w.heap.size+1+1,0,none⟩=some a∧(((w.alloc o1).alloc o2).alloc (.cells #[a,b] t)).cell? ⟨w.heap.size+1+1,1,none⟩=some b:=by
 have h:=heap_alloc_new ((w.alloc o1).alloc o2) (.cells #[a,b] t);rw [World.size_alloc,World.size_alloc] at h;exact ⟨cell_of_row _ _ 0 _ _ (0,0) h,cell_of_row _ _ 1 _ _ (0,0) h⟩
set_option maxRecDepth 100000 in
set_option maxHeartbeats 2000000 in
theorem idcmp_any (a b:Int×Int) (w:World):Calls Tryz.prog 104 #[.agg #[.int .i64 a.1,.int .i64 a.2],.agg #[.int .i64 b.1,.int .i64 b.2]] w fun e w'=>e=.returned (.int .i64 (cI a b))∧Below w.heap.size w w':=by
 obtain ⟨x1,x2⟩:=a;obtain ⟨y1,y2⟩:=b;simp only
 obtain ⟨c1,hc1⟩:∃ c,cmpF x1 y1=c:=⟨_,rfl⟩;obtain ⟨c2,hc2⟩:∃ c,cmpF x2 y2=c:=⟨_,rfl⟩;obtain ⟨c,hc⟩:∃ c,orF c1 c2=c:=⟨_,rfl⟩;have HW:Hid (cI (x1,x2) (y1,y2)=c):=Lib.hid (show cI (x1,x2) (y1,y2)=c by unfold cI;simp only;rw [hc1,hc2,hc]);have H1:=Lib.hid hc1;have H2:=Lib.hid hc2;have H3:=Lib.hid hc;clear hc1 hc2 hc;rw [HW.out];go_enter Tryz.func104,Tryz.ntmps104
 go_wp2;have k0:((w.alloc (.cells #[.int .i64 x1,.int .i64 x2] 59)).alloc (.cells #[.int .i64 y1,.int .i64 y2] 59)).cell? ⟨w.heap.size,0,none⟩=some (.int .i64 x1)∧((w.alloc (.cells #[.int .i64 x1,.int .i64 x2] 59)).alloc (.cells #[.int .i64 y1,.int .i64 y2] 59)).cell? ⟨w.heap.size,1,none⟩=some (.int .i64 x2)∧((w.alloc (.cells #[.int .i64 x1,.int .i64 x2] 59)).alloc (.cells #[.int .i64 y1,.int .i64 y2] 59)).cell? ⟨w.heap.size+1,0,none⟩=some (.int .i64 y1)∧((w.alloc (.cells #[.int .i64 x1,.int .i64 x2] 59)).alloc (.cells #[.int .i64 y1,.int .i64 y2] 59)).cell? ⟨w.heap.size+1,1,none⟩=some (.int .i64 y2):=by simp
 go_region_held3 (fun w'=>w'.cell? ⟨w.heap.size,0,none⟩=some (.int .i64 x1)∧w'.cell? ⟨w.heap.size,1,none⟩=some (.int .i64 x2)∧w'.cell? ⟨w.heap.size+1,0,none⟩=some (.int .i64 y1)∧w'.cell? ⟨w.heap.size+1,1,none⟩=some (.int .i64 y2)) (first | exact k0 | go_keep) (first | (go_at_call 162;((with_reducible refine (cmp_as x1 y1 c1 _ H1.out).mono ?_);rintro r w' ⟨rfl,rfl⟩)) | (go_at_call 162;((with_reducible refine (cmp_as x2 y2 c2 _ H2.out).mono ?_);rintro r w' ⟨rfl,rfl⟩)) | (go_at_call 161;((refine (or_any c1 c2 c _ _ (by simp;exact (three_new _ _ _ _ _ _).1) (by simp;exact (three_new _ _ _ _ _ _).2) H3.out).mono ?_);rintro r w' ⟨rfl,rfl⟩)))
 go_wp2;go_ret;refine ⟨rfl,?_⟩
 first
   | exact (((Below.refl _ _).alloc (Nat.le_refl _) _).alloc (by simp) _).drew.alloc (by simp;omega) _
   | exact ((((Below.refl _ _).alloc (Nat.le_refl _) _).alloc (by simp) _).alloc (by simp;omega) _).drew
theorem idcmp_as (x1 x2 y1 y2 c:Int) (w:World) (h:cI (x1,x2) (y1,y2)=c):Calls Tryz.prog 104 #[.agg #[.int .i64 x1,.int .i64 x2],.agg #[.int .i64 y1,.int .i64 y2]] w fun e w'=>e=.returned (.int .i64 c)∧Below w.heap.size w w':=by
 subst h;exact idcmp_any (x1,x2) (y1,y2) w
end Go.Proofs.YtgfinhehgfbdgaaGreatDoor
namespace Go.Proofs.YtgfinhehgfbdgaaGreatDoor
open Go.RowKit
def numR (r:Nat×Nat×Nat):Value:=.tuple #[.int .u64 r.1,.int .i64 r.2.1,.int .i64 r.2.2]
theorem numR_ret {l:List UInt8} {n k e:Nat} {a b c:Int} (h:getL l=(n,k,e)) (ha:a=n) (hb:b=k) (hc:c=e) :
   Ending.returned (.tuple #[.int .u64 a,.int .i64 b,.int .i64 c])=.returned (numR (getL l)):=by
 rw [h,ha,hb,hc];rfl
theorem valL_drop_le (l:List UInt8):∀ j,valL (l.drop j)≤valL l:=by
 induction l with
 | nil=>intro j;simp
 | cons c r ih =>
   intro j;cases j with
   | zero=>exact Nat.le_refl _
   | succ j=>rw [List.drop_succ_cons,valL];have:=ih j;omega
theorem valL_drop_step (s:ByteArray) (i j:Nat) (hi:i<s.size) (hj:j≤i) :
   valL ((s.data.toList.take (i+1)).drop j)=s[j].toNat % 128+128 * valL ((s.data.toList.take (i+1)).drop (j+1)):=by
 have hl:j<(s.data.toList.take (i+1)).length:=by rw [List.length_take,←size_data];omega
 rw [List.drop_eq_getElem_cons hl,valL]
 congr 2
 rw [List.getElem_take]
 rfl
set_option maxRecDepth 100000 in
set_option maxHeartbeats 1000000 in
theorem unvary_any (s:ByteArray) (w:World) (hs:s.size≤maxLen) :
   Calls Tryz.prog 84 #[.string s] w fun e w'=>e=.returned (numR (getL s.data.toList))∧w=w':=by
 unfold maxLen at hs;go_enter Tryz.func84,Tryz.ntmps84
 go_wp2
 go_loop [5] (fun i=>∃ k:Nat,k≤s.size∧k≤9∧i=.int .i64 k∧scan 0 s.data.toList=scan k (s.data.toList.drop k)) (fun i=>s.size-(intOf i).toNat)
 case atStart=>exact ⟨0,Nat.zero_le _,Nat.zero_le _,rfl,rfl⟩
 case round =>
   obtain ⟨k,hk,hk9,rfl,hsc⟩:=hrel;have HSC:=Lib.hid hsc;clear hsc;by_cases hlt:k<s.size
   · have hne:((k:Int) == (s.size:Int))=false:=by simp;omega
     have hd9:(((k:Int) == 9)=true∧Hid (k=9))∨(((k:Int) == 9)=false∧Hid (k≠9)):=by
       by_cases h:k=9
       · exact .inl ⟨by rw [h];rfl,h⟩
       · exact .inr ⟨by simp;omega,h⟩
     rcases hd9 with ⟨hb,H9⟩ | ⟨hb,H9⟩
     all_goals go_wp2
     all_goals first
       | (have h1 : 1 < (s[k].toNat : Int) := by assumption
          go_ret3;exact ⟨numR_ret (getL_of_bad (by rw [HSC.out,scan_at s k hlt,if_pos ⟨H9.out,by omega⟩])) rfl rfl rfl,rfl⟩)
       | (have h1 : s[k].toNat = 0 := by assumption
          have h2:0<k:=by first | assumption | (have:=H9.out;omega)
          go_ret3;exact ⟨numR_ret (getL_of_bad (by rw [HSC.out,scan_at s k hlt,if_neg (by omega),if_pos ⟨h2,h1⟩])) rfl rfl rfl,rfl⟩)
       | (have h3 : 128 ≤ (s[k].toNat : Int) := by assumption
          have n9:k≠9:=by first | exact H9.out | omega
          go_round
          case rel=>exact ⟨k+1,by omega,by omega,by go_num,by rw [HSC.out,scan_at s k hlt,if_neg (by intro h;exact n9 h.1),if_neg (by omega),if_neg (by omega)]⟩
          case measure=>simp [intOf];omega)
       | skip
     all_goals
       have HST:Hid (scan 0 s.data.toList=.inr (k+1)):=by
         have h9:=H9.out;show scan 0 s.data.toList=.inr (k+1)
         rw [HSC.out,scan_at s k hlt,if_neg (by omega),if_neg (by omega),if_pos (by omega)]
       have HV:=Lib.hid (scan_lt HST.out).2.2.2;clear HSC H9 hb hne
       go_loop [6,7] (fun n j=>∃ m:Nat,m≤k+1∧j=.int .i64 ((m:Int)-1)∧n=.int .u64 (valL ((s.data.toList.take (k+1)).drop m))) (fun _ j=>(intOf j+1).toNat)
       case atStart=>exact ⟨k+1,Nat.le_refl _,by go_num,by rw [List.drop_eq_nil_of_le (by simp;omega)];rfl⟩
       case round =>
         obtain ⟨m,hm,rfl,rfl⟩:=hrel;rcases m with _ | m
         · go_wp2;go_ret3;exact ⟨numR_ret (getL_of_ok HST.out) rfl rfl rfl,rfl⟩
         · have hm2:m<s.size:=by omega
           have hst:=valL_drop_step s k m hlt (by omega);have hle:=valL_drop_le (s.data.toList.take (k+1)) m;have hv:=HV.out;have HST2:=Lib.hid hst;have hbd:(valL ((s.data.toList.take (k+1)).drop (m+1)):Int) * 128+(s[m].toNat:Int) % 128≤18446744073709551615:=by omega
           clear hst hle hv;go_wp2
           go_round
           case rel=>exact ⟨m,by omega,rfl,by rw [HST2.out];go_num⟩
           case measure=>simp [intOf]
   · have hne:((k:Int) == (s.size:Int))=true:=by simp;omega
     go_wp2;go_ret3;exact ⟨numR_ret (getL_of_bad (by rw [HSC.out,List.drop_eq_nil_of_le (by rw [←size_data];omega),scan])) rfl rfl rfl,rfl⟩
end Go.Proofs.YtgfinhehgfbdgaaGreatDoor
