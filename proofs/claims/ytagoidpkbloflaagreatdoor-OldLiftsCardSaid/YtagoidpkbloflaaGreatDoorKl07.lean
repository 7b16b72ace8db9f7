import Derived.Test.YtagoidpkbloflaaGreatDoorKlq
import Derived.Test.YtagoidpkbloflaaGreatDoorKl06
import Derived.StillTailTactics
namespace Go.Proofs.YtagoidpkbloflaaGreatDoor
open Lib (hid)
set_option maxRecDepth 100000
set_option maxHeartbeats 8000000
section
open Go.RowKit
theorem ki (s:ByteArray) (a:Nat) (w:World) (hs:s.size≤maxLen) (ha:a<s.size) :
 Calls Tryz.prog 86 #[.string s,.int .i64 a] w fun e w'=>e=.returned (dR (find s.data.toList a))∧∃ q,w'=w.drewN q:=by
 unfold maxLen at hs;obtain ⟨m,hm⟩:∃ m,m=min 67 (s.size-a):=⟨_,rfl⟩;obtain ⟨t,ht⟩:∃ t,t=min 1024 a:=⟨_,rfl⟩;have t1:(if 1024<(a:Int) then 1024 else (a:Int))=(t:Int):=by split <;> omega
 have t2:min (a:Int) 1024=(t:Int):=by omega
 have HF:Hid (find s.data.toList a=best s.data.toList a m t):=by
  have hl:s.data.toList.length=s.size:=by simp
  have h:find s.data.toList a=best s.data.toList a m t:=by rw [lY (by omega),hl,hm,ht]
  exact h
 have hm0:0<m:=by omega
 have hta:t≤a:=by omega
 have HM:=hid hm;clear hm ht;go_enter Tryz.func86,Tryz.ntmps86
 go_wp2_with fail
 refine (aQ a 0 _ _ (by omega) (by omega)).mono ?_;rintro e w1 ⟨rfl,rfl⟩;go_wp2;clear t1 t2
 go_loopw [6,7,8] (fun n b i wr=>∃ i' b' n' q:Nat,i'≤t∧i=.int .i64 i'∧b=.int .i64 b'∧n=.int .i64 n'∧cA s.data.toList a m (i'+1) t b' n'∧wr=w.drewN q) (fun _ _ i _=>(intOf i).toNat)
 case atStart=>exact ⟨t,0,0,0,by omega,rfl,rfl,rfl,.inl ⟨rfl,rfl,fun k h1 h2=>by omega⟩,rfl⟩
 case round =>
  obtain ⟨i,b,n,q,hi,rfl,rfl,rfl,hC,rfl⟩:=hrel;have HC:=hid hC;clear hC;by_cases hlt:1≤i
  ·go_wp2;obtain ⟨wo,hwo⟩:∃ wo:World,wo=w.drewN q:=⟨_,rfl⟩;rw [←hwo];have HWO:=hid hwo;clear hwo
   go_loopw [9] (fun k wr=>∃ k' q':Nat,k'≤m∧k=.int .i64 k'∧wr=wo.drewN q'∧∀ j,j<k'→s.data.toList.getD (a+j) 0=s.data.toList.getD (a+j-i) 0) (fun k _=>m-(intOf k).toNat)
   case atStart=>exact ⟨0,0,by omega,rfl,rfl,fun j h=>by omega⟩
   case round =>
    obtain ⟨k,q',hk,rfl,rfl,hall⟩:=hrel;have HA:=hid hall;clear hall;by_cases hlt2:k<m
    ·obtain ⟨p,hp⟩:∃ p,p=a+k:=⟨_,rfl⟩;obtain ⟨r,hr⟩:∃ r,r=a+k-i:=⟨_,rfl⟩;have hpl:p<s.size:=by have:=HM.out;omega
     have hrl:r<s.size:=by omega
     have h1:IntKind.i64.wrap ((a:Int)+(k:Int))=(p:Int):=by rw [Dh _ (by omega)];omega
     have h2:IntKind.i64.wrap ((p:Int)-(i:Int))=(r:Int):=by rw [Dh _ (by omega)];omega
     have k67:k<67:=by have:=HM.out;omega
     have d1:decide ((k:Int)<67)=true:=by simp;omega
     have d2:decide (p<s.size)=true:=by simp;omega
     have HP:=hid hp;have HR:=hid hr;clear hp hr;by_cases heq:s[p]=s[r]
     ·have hq:((s[p].toNat:Int) == (s[r].toNat:Int))=true:=by rw [s7];simp [heq]
      have HN:Hid (∀ j,j<k+1→s.data.toList.getD (a+j) 0=s.data.toList.getD (a+j-i) 0):=by
       intro j hj;by_cases e:j=k
       ·rw [e,←HR.out,←HP.out,getB _ _ hpl,getB _ _ hrl];exact heq
       ·exact HA.out j (by omega)
      clear heq;go_wp2
      go_quiet (fail)
      clear h1 h2 d1 d2;go_wp2;go_roundw
      case rel=>exact ⟨k+1,_,by omega,by go_num,rfl,HN.out⟩
      case measure=>simp [intOf];omega
     ·have hq:((s[p].toNat:Int) == (s[r].toNat:Int))=false:=by rw [s7];simp [heq]
      have HK:Hid (sm s.data.toList a i m=k):=by
       refine kB ⟨by omega,HA.out,fun _=>?_⟩;rw [←HR.out,←HP.out,getB _ _ hpl,getB _ _ hrl];exact heq
      clear heq;have hC:=HC.out;by_cases c4:4≤k
      ·by_cases cn:n≤k
       ·have hN:=lG hC hi (by rw [HK.out];exact c4) (by rw [HK.out];exact cn);rw [HK.out] at hN;have HN:=hid hN;clear hN hC;go_wp2
        go_quiet (fail)
        go_wp2;go_roundw
        case rel=>exact ⟨i-1,i,k,_,by omega,by go_num,rfl,rfl,by rw [show i-1+1=i by omega];exact HN.out,by rw [HWO.out];simp;rfl⟩
        case measure=>simp [intOf];omega
       ·have hN:=gN hC (by rw [HK.out];exact fun h=>cn h.1);have HN:=hid hN;clear hN hC;go_wp2
        go_quiet (fail)
        go_wp2;go_roundw
        case rel=>exact ⟨i-1,b,n,_,by omega,by go_num,rfl,rfl,by rw [show i-1+1=i by omega];exact HN.out,by rw [HWO.out];simp;rfl⟩
        case measure=>simp [intOf];omega
      ·have hN:=gN hC (by rw [HK.out];exact fun h=>c4 h.2);have HN:=hid hN;clear hN hC;by_cases cn:n≤k
       ·go_wp2
        go_quiet (fail)
        go_wp2;go_roundw
        case rel=>exact ⟨i-1,b,n,_,by omega,by go_num,rfl,rfl,by rw [show i-1+1=i by omega];exact HN.out,by rw [HWO.out];simp;rfl⟩
        case measure=>simp [intOf];omega
       ·go_wp2
        go_quiet (fail)
        go_wp2;go_roundw
        case rel=>exact ⟨i-1,b,n,_,by omega,by go_num,rfl,rfl,by rw [show i-1+1=i by omega];exact HN.out,by rw [HWO.out];simp;rfl⟩
        case measure=>simp [intOf];omega
    ·have e:k=m:=by omega
     have HK:Hid (sm s.data.toList a i m=k):=by
      refine kB ⟨by omega,HA.out,fun h=>absurd h hlt2⟩
     by_cases k67:k<67
     ·obtain ⟨p,hp⟩:∃ p,p=a+k:=⟨_,rfl⟩;have hps:p≤s.size:=by have:=HM.out;omega
      have h1:IntKind.i64.wrap ((a:Int)+(k:Int))=(p:Int):=by rw [Dh _ (by omega)];omega
      have d1:decide ((k:Int)<67)=true:=by simp;omega
      have d2:decide (p<s.size)=false:=by have:=HM.out;simp;omega
      have HP:=hid hp;clear hp e;have hC:=HC.out;by_cases c4:4≤k
      ·by_cases cn:n≤k
       ·have hN:=lG hC hi (by rw [HK.out];exact c4) (by rw [HK.out];exact cn);rw [HK.out] at hN;have HN:=hid hN;clear hN hC;go_wp2
        go_quiet (fail)
        go_wp2;go_roundw
        case rel=>exact ⟨i-1,i,k,_,by omega,by go_num,rfl,rfl,by rw [show i-1+1=i by omega];exact HN.out,by rw [HWO.out];simp;rfl⟩
        case measure=>simp [intOf];omega
       ·have hN:=gN hC (by rw [HK.out];exact fun h=>cn h.1);have HN:=hid hN;clear hN hC;go_wp2
        go_quiet (fail)
        go_wp2;go_roundw
        case rel=>exact ⟨i-1,b,n,_,by omega,by go_num,rfl,rfl,by rw [show i-1+1=i by omega];exact HN.out,by rw [HWO.out];simp;rfl⟩
        case measure=>simp [intOf];omega
      ·have hN:=gN hC (by rw [HK.out];exact fun h=>c4 h.2);have HN:=hid hN;clear hN hC;by_cases cn:n≤k
       ·go_wp2
        go_quiet (fail)
        go_wp2;go_roundw
        case rel=>exact ⟨i-1,b,n,_,by omega,by go_num,rfl,rfl,by rw [show i-1+1=i by omega];exact HN.out,by rw [HWO.out];simp;rfl⟩
        case measure=>simp [intOf];omega
       ·go_wp2
        go_quiet (fail)
        go_wp2;go_roundw
        case rel=>exact ⟨i-1,b,n,_,by omega,by go_num,rfl,rfl,by rw [show i-1+1=i by omega];exact HN.out,by rw [HWO.out];simp;rfl⟩
        case measure=>simp [intOf];omega
     ·have d1:decide ((k:Int)<67)=false:=by simp;omega
      clear e;have hC:=HC.out;by_cases c4:4≤k
      ·by_cases cn:n≤k
       ·have hN:=lG hC hi (by rw [HK.out];exact c4) (by rw [HK.out];exact cn);rw [HK.out] at hN;have HN:=hid hN;clear hN hC;go_wp2
        go_quiet (fail)
        go_wp2;go_roundw
        case rel=>exact ⟨i-1,i,k,_,by omega,by go_num,rfl,rfl,by rw [show i-1+1=i by omega];exact HN.out,by rw [HWO.out];simp;rfl⟩
        case measure=>simp [intOf];omega
       ·have hN:=gN hC (by rw [HK.out];exact fun h=>cn h.1);have HN:=hid hN;clear hN hC;go_wp2
        go_quiet (fail)
        go_wp2;go_roundw
        case rel=>exact ⟨i-1,b,n,_,by omega,by go_num,rfl,rfl,by rw [show i-1+1=i by omega];exact HN.out,by rw [HWO.out];simp;rfl⟩
        case measure=>simp [intOf];omega
      ·omega
  ·have HE : Hid (find s.data.toList a = (b, n)) := by
    have h:find s.data.toList a=(b,n):=by
     rw [HF.out];have e:i=0:=by omega
     have:=HC.out;rw [e] at this;exact lH this
    exact h
   go_wp2;go_ret2;exact ⟨by rw [HE.out];rfl,_,rfl⟩
end
section
open Go.RowKit
def errC (e:Nat):Value:=if e=0 then .nilIface else .iface 26 (.int .i64 e)
def fc (r:List UInt8×Nat):Value:=.tuple #[.string ⟨r.1.toArray⟩,errC r.2]
theorem dP (s:ByteArray) (a b:Nat):(s.extract a b).data.toList=(s.data.toList.drop a).take (b-a):=by
 rw [ByteArray.data_extract,Array.toList_extract]
theorem kY {w w':World} (h:Below w.drew.heap.size w.drew w'):Below w.heap.size w w':=((Below.refl _ _).drew).trans h
theorem rW (s:ByteArray) (k:Nat):(⟨(s.data.toList.take k).toArray⟩:ByteArray)=s.extract 0 k:=by
 apply bY
 rw [dP,E4,Nat.sub_zero]
theorem qu (s:ByteArray) (k:Nat) (hk:s.size=k+4):(s.extract k s.size).toList=s.data.toList.drop (s.data.toList.length-4)∧s.data.toList.length-4=k∧¬ s.data.toList.length<4:=by
 have hl:s.data.toList.length=k+4:=by simpa using hk
 refine ⟨?_,by omega,by omega⟩;rw [toL,dP,hl,show k+4-4=k by omega];apply DL
 rw [Dj];omega
theorem qt (s:ByteArray) (w:World) (hs:s.size≤140737488351232) :
 Calls Tryz.prog 73 #[.string s] w fun e w'=>e=.returned (fc (aF s.data.toList))∧Below w.heap.size w w':=by
 by_cases h4:s.size<4
 ·have h:aF s.data.toList=([],7):=by unfold aF;rw [if_pos (by simpa using h4)]
  rw [h];go_enter Tryz.func73,Tryz.ntmps73
  go_wp2;go_ret2;exact ⟨rfl,Below.refl _ _⟩
 ·obtain ⟨k,hk⟩:∃ k,s.size=k+4:=⟨s.size-4,by omega⟩;have e1:(s.size:Int)-4=(k:Int):=by omega
  have e2:(0:Int)≤(k:Int):=by omega
  have e3:(k:Int)≤(s.size:Int):=by omega
  have hk2:k≤s.size:=by omega
  have HZ:Hid ((s.extract 0 k).size≤140737488351232):=by
   have h:(s.extract 0 k).size≤140737488351232:=by simp;omega
   exact h
  obtain ⟨t1,t2,t3⟩:=qu s k hk;by_cases hq:(s.extract k s.size).toList=br (sum (s.data.toList.take k))
  ·have HO : Hid (fc (aF s.data.toList) = .tuple #[.string (s.extract 0 k), .nilIface]) := by
    have h:aF s.data.toList=(s.data.toList.take k,0):=by
     unfold aF;rw [if_neg t3,if_pos (by rw [←t1,hq,t2]),t2]
    show fc _=_
    rw [h];unfold fc errC;rw [if_pos rfl,rW]
   have hb:((s.extract k s.size).toList == br (sum (s.data.toList.take k)))=true:=beq_iff_eq.2 hq;clear hq t1 t2 t3 hk;go_enter Tryz.func73,Tryz.ntmps73
   go_wp2;go_region_held3 (fun w'=>True) (trivial) (first | (go_at_call 91;refine (n7 _ _ (by unfold maxLen;simp;omega)).mono ?_;rintro r w1 ⟨rfl,hb1⟩;have HB:=hid (kY hb1);clear hb1))
   go_wp2_with fail
   refine (lM _ _ HZ.out).mono ?_;rintro r w2 ⟨rfl,hb2⟩;have HB2:Hid (Below w.heap.size w w2):=HB.out.trans (hb2.mono HB.out.size);clear hb2;go_wp2;go_ret2;exact ⟨by rw [HO.out];rfl,HB2.out⟩
  ·have HO : Hid (fc (aF s.data.toList) = .tuple #[.string ⟨#[]⟩, .iface 26 (.int .i64 15)]) := by
    have h:aF s.data.toList=([],15):=by
     unfold aF;rw [if_neg t3,if_neg (by rw [←t1,t2];exact hq)]
    show fc _=_
    rw [h]
    rfl
   have hb:((s.extract k s.size).toList == br (sum (s.data.toList.take k)))=false:=EB.2 hq;clear hq t1 t2 t3 hk;go_enter Tryz.func73,Tryz.ntmps73
   go_wp2;go_region_held3 (fun w'=>True) (trivial) (first | (go_at_call 91;refine (n7 _ _ (by unfold maxLen;simp;omega)).mono ?_;rintro r w1 ⟨rfl,hb1⟩;have HB:=hid (kY hb1);clear hb1))
   go_wp2;go_ret2;exact ⟨by rw [HO.out];rfl,HB.out⟩
end
section
theorem vO {t:Tok} (h:fine t) (hs:t.own.size≤140737488351232):(putT t).length≤lenT t+10∧1≤lenT t:=by
 by_cases h0:t.own.size=0
 ·obtain ⟨_,h1,h2⟩:=zG h h0;omega
 ·rw [jZ h0,Df,←ac];have:=aK (n:=2 * t.own.size) (by omega);unfold lenT;omega
theorem uT {l:List Tok} (h:∀ t∈l,fine t∧t.own.size≤140737488351232):cost l≤sumT l+10 * l.length∧l.length≤sumT l:=by
 induction l with
 | nil=>exact ⟨Ds _,Db _⟩
 | cons t r ih =>
  obtain ⟨i1,i2⟩:=ih (fun u hu=>h u (Eu _ hu));obtain ⟨h1,h2⟩:=h t (EO ..);obtain ⟨c1,c2⟩:=vO h1 h2;rw [uS,sumT,DM];omega
theorem gr {l:List Tok} (h:(a8 l 0 0).1=0):l.length≤20000∧cost l≤220000∧sumT l≤20000:=by
 have h1:=Bj (b:=[]) h rfl (by omega);rw [Bk,List.length_nil] at h1;obtain ⟨h2,h3⟩:=uT (mU h);omega
theorem B0 (a b:List Tok):sumT (a++b)=sumT a+sumT b:=by
 induction a with
 | nil=>rw [E7];exact (DY _).symm
 | cons u r ih=>rw [List.cons_append,sumT,sumT,ih];omega
theorem kj {l:List Tok} (h:(a8 l 0 0).1=0):∀ t∈l,t.own.size≤20000:=fun t ht=>by
 obtain ⟨i,hi,e⟩:=List.mem_iff_getElem.1 ht;have h2:=gr (zQ h (i+1));rw [E8 hi,e,B0] at h2;have h3:sumT [t]=lenT t:=rfl;have:t.own.size≤lenT t:=by unfold lenT;omega
 omega
theorem pc {l:List Tok} (k:Nat):cost (l.take k)≤cost l:=by
 have h:=uR (l.take k) (l.drop k);rw [EE] at h;omega
theorem sV (l:List Tok) (k:Nat) (t:Tok) (h:l[k]? = some t):aZ (l.take (k+1))=aZ (l.take k)++putT t:=by
 obtain ⟨hk,e⟩:=Do.1 h;rw [E8 hk,sU,e,ol,CQ,DV]
end
section
open Go.RowKit
instance : DecidableEq Wr := fun a b => decidable_of_iff (a.time = b.time ∧ a.rep = b.rep ∧ a.kind = b.kind ∧ a.key = b.key ∧ a.value = b.value ∧ a.n = b.n) (by cases a; cases b; simp)
theorem CJ {l m:List Wr} {k:Nat} (h:l.take k=m.take k) {t u:Wr} (hl:l[k]? = some t) (hm:m[k]? = some u) (e:t=u):l.take (k+1)=m.take (k+1):=by
 obtain ⟨h1,h2⟩:=Do.1 hl;obtain ⟨h3,h4⟩:=Do.1 hm;rw [E8 h1,E8 h3,h,h2,h4,e]
end
section
open Go.RowKit
def cmpF (x y:Int):Int:=if x<y then -1 else if y<x then 1 else 0
def orF (p q:Int):Int:=if p=0 then q else p
def cI (a b:Int×Int):Int:=orF (cmpF a.1 b.1) (cmpF a.2 b.2)
def wiF (x:Int×Int) (from_ have_:List Ent):Bool:=decide (ofF from_ x.2<x.1) && decide (x.1≤ofF have_ x.2)
theorem uK (x y:Int) (w:World):Calls Tryz.prog 197 #[.int .i64 x,.int .i64 y] w fun e w'=>e=.returned (.int .i64 (cmpF x y))∧w=w':=by
 have hn:∀ (z:Int) (w:World),Calls Tryz.prog 212 #[.int .i64 z] w fun e w'=>e=.returned (.bool false)∧w=w':=fun z w=>by
  go_enter Tryz.func212,Tryz.ntmps212
  go_wp2;go_ret;exact ⟨by first | rfl | simp,rfl⟩
 by_cases h1:x<y
 ·have HW:Hid (cmpF x y=-1):=hid (by unfold cmpF;rw [if_pos h1]);rw [HW.out];go_enter Tryz.func197,Tryz.ntmps197
  go_wp2_with (first | (go_at_call 212;refine (hn _ _).mono ?_;rintro e w' ⟨rfl,rfl⟩))
  go_ret;exact ⟨rfl,rfl⟩
 ·by_cases h2:y<x
  ·have HW:Hid (cmpF x y=1):=hid (by unfold cmpF;rw [if_neg h1,if_pos h2]);rw [HW.out];go_enter Tryz.func197,Tryz.ntmps197
   go_wp2_with (first | (go_at_call 212;refine (hn _ _).mono ?_;rintro e w' ⟨rfl,rfl⟩))
   go_ret;exact ⟨rfl,rfl⟩
  ·obtain rfl:x=y:=by omega
   have HW:Hid (cmpF x x=0):=hid (by unfold cmpF;rw [if_neg h1,if_neg h1]);rw [HW.out];clear h1 h2;go_enter Tryz.func197,Tryz.ntmps197
   go_wp2_with (first | (go_at_call 212;refine (hn _ _).mono ?_;rintro e w' ⟨rfl,rfl⟩))
   go_ret;exact ⟨rfl,rfl⟩
theorem p7 (x y c:Int) (w:World) (h:cmpF x y=c):Calls Tryz.prog 197 #[.int .i64 x,.int .i64 y] w fun e w'=>e=.returned (.int .i64 c)∧w=w':=by
 subst h;exact uK x y w
theorem yo (p q c:Int) (B:Nat) (w:World) (h0:w.cell? ⟨B,0,none⟩=some (.int .i64 p)) (h1:w.cell? ⟨B,1,none⟩=some (.int .i64 q)) (h:orF p q=c) :
 Calls Tryz.prog 196 #[.slice (some ⟨B,0,none⟩) 2 2] w fun e w'=>e=.returned (.int .i64 c)∧w=w':=by
 subst h;by_cases hp:p=0
 ·have HW:Hid (orF p q=q):=hid (by unfold orF;rw [if_pos hp]);rw [HW.out];subst hp;by_cases hq:q=0
  ·subst hq;go_enter Tryz.func196,Tryz.ntmps196
   go_wp2;refine EA 3 ?_;rw [Ec];go_wp2;rw [Ec];go_wp2;rw [Ec];go_wp2;go_ret;exact ⟨rfl,rfl⟩
  ·have bq:(q == 0)=false:=by simpa using hq
   have bq2:(q != 0)=true:=by simpa using hq
   go_enter Tryz.func196,Tryz.ntmps196
   go_wp2;refine EA 2 ?_;rw [Ec];go_wp2;rw [Ec];go_wp2;go_ret;exact ⟨rfl,rfl⟩
 ·have HW:Hid (orF p q=p):=hid (by unfold orF;rw [if_neg hp]);rw [HW.out];have bq:(p == 0)=false:=by simpa using hp
  have bq2:(p != 0)=true:=by simpa using hp
  go_enter Tryz.func196,Tryz.ntmps196
  go_wp2;refine EA 1 ?_;rw [Ec];go_wp2;go_ret;exact ⟨rfl,rfl⟩
theorem rY (w:World) (o1 o2:Obj) (a b:Value) (t:TypeId):(((w.alloc o1).alloc o2).alloc (.cells #[a,b] t)).cell? ⟨w.heap.size+1+1,0,none⟩=some a∧(((w.alloc o1).alloc o2).alloc (.cells #[a,b] t)).cell? ⟨w.heap.size+1+1,1,none⟩=some b:=by
 have h:=Dg ((w.alloc o1).alloc o2) (.cells #[a,b] t);rw [DE,DE] at h;exact ⟨Dd _ _ 0 _ _ (0,0) h,Dd _ _ 1 _ _ (0,0) h⟩
theorem wB (a b:Int×Int) (w:World):Calls Tryz.prog 168 #[.agg #[.int .i64 a.1,.int .i64 a.2],.agg #[.int .i64 b.1,.int .i64 b.2]] w fun e w'=>e=.returned (.int .i64 (cI a b))∧Below w.heap.size w w':=by
 obtain ⟨x1,x2⟩:=a;obtain ⟨y1,y2⟩:=b;simp only
 obtain ⟨c1,hc1⟩:∃ c,cmpF x1 y1=c:=⟨_,rfl⟩;obtain ⟨c2,hc2⟩:∃ c,cmpF x2 y2=c:=⟨_,rfl⟩;obtain ⟨c,hc⟩:∃ c,orF c1 c2=c:=⟨_,rfl⟩;have HW:Hid (cI (x1,x2) (y1,y2)=c):=hid (show cI (x1,x2) (y1,y2)=c by unfold cI;simp only;rw [hc1,hc2,hc]);have H1:=hid hc1;have H2:=hid hc2;have H3:=hid hc;clear hc1 hc2 hc;rw [HW.out];go_enter Tryz.func168,Tryz.ntmps168
 go_wp2;have k0:((w.alloc (.cells #[.int .i64 x1,.int .i64 x2] 76)).alloc (.cells #[.int .i64 y1,.int .i64 y2] 76)).cell? ⟨w.heap.size,0,none⟩=some (.int .i64 x1)∧((w.alloc (.cells #[.int .i64 x1,.int .i64 x2] 76)).alloc (.cells #[.int .i64 y1,.int .i64 y2] 76)).cell? ⟨w.heap.size,1,none⟩=some (.int .i64 x2)∧((w.alloc (.cells #[.int .i64 x1,.int .i64 x2] 76)).alloc (.cells #[.int .i64 y1,.int .i64 y2] 76)).cell? ⟨w.heap.size+1,0,none⟩=some (.int .i64 y1)∧((w.alloc (.cells #[.int .i64 x1,.int .i64 x2] 76)).alloc (.cells #[.int .i64 y1,.int .i64 y2] 76)).cell? ⟨w.heap.size+1,1,none⟩=some (.int .i64 y2):=by simp
 go_region_held3 (fun w'=>w'.cell? ⟨w.heap.size,0,none⟩=some (.int .i64 x1)∧w'.cell? ⟨w.heap.size,1,none⟩=some (.int .i64 x2)∧w'.cell? ⟨w.heap.size+1,0,none⟩=some (.int .i64 y1)∧w'.cell? ⟨w.heap.size+1,1,none⟩=some (.int .i64 y2)) (first | exact k0 | go_keep) (first | (go_at_call 197;((with_reducible refine (p7 x1 y1 c1 _ H1.out).mono ?_);rintro r w' ⟨rfl,rfl⟩)) | (go_at_call 197;((with_reducible refine (p7 x2 y2 c2 _ H2.out).mono ?_);rintro r w' ⟨rfl,rfl⟩)) | (go_at_call 196;((refine (yo c1 c2 c _ _ (by simp;exact (rY _ _ _ _ _ _).1) (by simp;exact (rY _ _ _ _ _ _).2) H3.out).mono ?_);rintro r w' ⟨rfl,rfl⟩)))
 go_wp2;go_ret;refine ⟨rfl,?_⟩
 first
  | exact (((Below.refl _ _).alloc (Db _) _).alloc (by simp) _).drew.alloc (by simp;omega) _
  | exact ((((Below.refl _ _).alloc (Db _) _).alloc (by simp) _).alloc (by simp;omega) _).drew
theorem pH (x1 x2 y1 y2 c:Int) (w:World) (h:cI (x1,x2) (y1,y2)=c):Calls Tryz.prog 168 #[.agg #[.int .i64 x1,.int .i64 x2],.agg #[.int .i64 y1,.int .i64 y2]] w fun e w'=>e=.returned (.int .i64 c)∧Below w.heap.size w w':=by
 subst h;exact wB (x1,x2) (y1,y2) w
end
section
open Go.RowKit
theorem dS (K:Int) (b:Bool) (w:World) (h:hasV K=b):Calls Tryz.prog 177 #[.int .i64 K] w fun e w'=>e=.returned (.bool b)∧w=w':=by
 subst h;unfold hasV;by_cases h1:K=1
 ·subst h1;go_enter Tryz.func177,Tryz.ntmps177
  go_wp2;go_ret;exact ⟨rfl,rfl⟩
 ·have b1:(K == 1)=false:=by simpa using h1
  rw [Dx h1,Bool.false_or];go_enter Tryz.func177,Tryz.ntmps177
  go_wp2;go_ret;exact ⟨by first | rfl | (congr 2;rw [Bool.eq_iff_iff];simp),rfl⟩
theorem gf (K:Int) (b:Bool) (w:World) (h:hasN K=b):Calls Tryz.prog 192 #[.int .i64 K] w fun e w'=>e=.returned (.bool b)∧w=w':=by
 subst h;unfold hasN;by_cases h1:K=3
 ·subst h1;go_enter Tryz.func192,Tryz.ntmps192
  go_wp2;go_ret;exact ⟨rfl,rfl⟩
 ·have b1:(K == 3)=false:=by simpa using h1
  rw [Dx h1,Bool.false_or];go_enter Tryz.func192,Tryz.ntmps192
  go_wp2;go_ret;exact ⟨by first | rfl | (congr 2;rw [Bool.eq_iff_iff];simp),rfl⟩
theorem eX (T R K:Int) (key val:ByteArray) (N:Int) (b:Bool) (w:World) (h:aV K N=b) :
 Calls Tryz.prog 193 #[.agg #[.int .i64 T,.int .i64 R,.int .i64 K,.string key,.string val,.int .i64 N]] w fun e w'=>e=.returned (.bool b)∧Below w.heap.size w w':=by
 subst h;unfold aV;by_cases h1:K=3
 ·subst h1;rw [if_pos rfl];by_cases h2 : -1125899906842624≤N
  ·rw [DX h2,Bool.true_and];go_enter Tryz.func193,Tryz.ntmps193
   go_wp2;go_ret;exact ⟨by first | rfl | simp,(Below.refl _ _).alloc (Db _) _⟩
  ·rw [Dx h2,Bool.false_and];have d:=Dx h2;go_enter Tryz.func193,Tryz.ntmps193
   go_wp2;go_ret;exact ⟨by first | rfl | simp,(Below.refl _ _).alloc (Db _) _⟩
 ·rw [if_neg h1];have b1:(K == 3)=false:=by simpa using h1
  by_cases h3:K=4
  ·subst h3;rw [if_pos rfl];by_cases h2:0≤N
   ·rw [DX h2,Bool.true_and];go_enter Tryz.func193,Tryz.ntmps193
    go_wp2;go_ret;exact ⟨by first | rfl | simp,(Below.refl _ _).alloc (Db _) _⟩
   ·rw [Dx h2,Bool.false_and];have d:=Dx h2;go_enter Tryz.func193,Tryz.ntmps193
    go_wp2;go_ret;exact ⟨by first | rfl | simp,(Below.refl _ _).alloc (Db _) _⟩
  ·rw [if_neg h3];have b3:(K == 4)=false:=by simpa using h3
   go_enter Tryz.func193,Tryz.ntmps193
   go_wp2;go_ret;exact ⟨rfl,(Below.refl _ _).alloc (Db _) _⟩
def wrAt (w:World) (B:Nat) (T R K:Int) (key val:ByteArray) (N:Int):Prop :=
 w.cell? ⟨B,0,none⟩=some (.int .i64 T)∧w.cell? ⟨B,1,none⟩=some (.int .i64 R)∧w.cell? ⟨B,2,none⟩=some (.int .i64 K)∧w.cell? ⟨B,3,none⟩=some (.string key)∧w.cell? ⟨B,4,none⟩=some (.string val)∧w.cell? ⟨B,5,none⟩=some (.int .i64 N)
theorem wrAt.below {w w':World} {B:Nat} {T R K:Int} {key val:ByteArray} {N:Int} {m:Nat} (h:wrAt w B T R K key val N) (hb:Below m w w') (hm:B<m):wrAt w' B T R K key val N :=
 ⟨(hb.cell hm).trans h.1,(hb.cell hm).trans h.2.1,(hb.cell hm).trans h.2.2.1,(hb.cell hm).trans h.2.2.2.1,(hb.cell hm).trans h.2.2.2.2.1,(hb.cell hm).trans h.2.2.2.2.2⟩
theorem fj (w:World) (T R K:Int) (key val:ByteArray) (N:Int) (t:TypeId):wrAt (w.alloc (.cells #[.int .i64 T,.int .i64 R,.int .i64 K,.string key,.string val,.int .i64 N] t)) w.heap.size T R K key val N:=by
 unfold wrAt;simp
theorem oj (T R K:Int) (key val:ByteArray) (N:Int) (w:World) (hk:key.size≤140737488351232) (hv:val.size≤140737488351232) :
 Calls Tryz.prog 165 #[.agg #[.int .i64 T,.int .i64 R,.int .i64 K,.string key,.string val,.int .i64 N]] w fun e w'=>e=.returned (errV (wriE T R K key val N))∧Below w.heap.size w w':=by
 have HN0:=hid (fj w T R K key val N 78);by_cases hK:K<1∨4<K
 ·rw [sR hK];by_cases h1:K<1
  ·go_enter Tryz.func165,Tryz.ntmps165
   go_wp2;go_ret;exact ⟨rfl,(Below.refl _ _).alloc (Db _) _⟩
  ·have h2:4<K:=by omega
   go_enter Tryz.func165,Tryz.ntmps165
   go_wp2;go_ret;exact ⟨rfl,(Below.refl _ _).alloc (Db _) _⟩
 ·have h1:¬ K<1:=by omega
  have h2:¬ 4<K:=by omega
  cases hiD:idOk T R with
  | false =>
   rw [sQ hK hiD];go_enter Tryz.func165,Tryz.ntmps165
   go_wp2_with fail
   refine (pI T R false _ hiD).mono ?_;rintro r w1 ⟨rfl,hb1⟩;have HB1:=hid (((Below.refl _ _).alloc (Db _) _).trans (hb1.mono (by simp)));clear hb1;go_wp2;go_ret;exact ⟨rfl,HB1.out⟩
  | true =>
   go_enter Tryz.func165,Tryz.ntmps165
   go_wp2_with fail
   refine (pI T R true _ hiD).mono ?_;rintro r w1 ⟨rfl,hb1⟩;have HA1:=hid (HN0.out.below hb1 (by simp));have HB1:=hid (((Below.refl _ _).alloc (Db _) _).trans (hb1.mono (by simp)));have HL1:Hid (w.heap.size<w1.heap.size):=hid (by have:=hb1.size;simp at this;exact this);have HID:=hid hiD;clear hb1 hiD;obtain ⟨c0,c1,c2,c3,c4,c5⟩:=HA1.out;by_cases hs:40<key.size∨300<val.size
   ·have HW:=hid (sT (N:=N) hK HID.out hs);by_cases h3:40<key.size
    ·go_wp2;go_ret;rw [HW.out];exact ⟨rfl,HB1.out⟩
    ·have h4:300<val.size:=by omega
     go_wp2;go_ret;rw [HW.out];exact ⟨rfl,HB1.out⟩
   ·have h3:¬ 40<key.size:=by omega
    have h4:¬ 300<val.size:=by omega
    have HW:=hid (sS (N:=N) hK HID.out hs);clear hK hs;by_cases hve:0<val.size
    ·have b0:¬ val.toList=[]:=by have:=eS hve;simpa using this
     cases hV:hasV K with
     | false =>
      have HR:Hid (wriE T R K key val N=3):=hid (by rw [HW.out,hV];simp [hve]);clear hve;go_wp2_with (go_at_call 177;refine (dS K false _ hV).mono ?_;rintro r w2 ⟨rfl,rfl⟩)
      go_ret;rw [HR.out];exact ⟨rfl,HB1.out⟩
     | true =>
      by_cases hn:N=0
      ·subst hn;cases hF:aV K 0 with
       | true =>
        have HR:Hid (wriE T R K key val 0=0):=hid (by rw [HW.out,hF];simp [hV]);go_wp2_with (first | (go_at_call 177;refine (dS K true _ hV).mono ?_;rintro r w2 ⟨rfl,rfl⟩) | (go_at_call 193;refine (eX T R K key val 0 true _ hF).mono ?_;rintro r w4 ⟨rfl,hb4⟩;have HB4:=hid (HB1.out.trans (hb4.mono (DG HL1.out)));clear hb4))
        go_ret;rw [HR.out];exact ⟨rfl,HB4.out⟩
       | false =>
        have HR:Hid (wriE T R K key val 0=2):=hid (by rw [HW.out,hF];simp [hV]);go_wp2_with (first | (go_at_call 177;refine (dS K true _ hV).mono ?_;rintro r w2 ⟨rfl,rfl⟩) | (go_at_call 193;refine (eX T R K key val 0 false _ hF).mono ?_;rintro r w4 ⟨rfl,hb4⟩;have HB4:=hid (HB1.out.trans (hb4.mono (DG HL1.out)));clear hb4))
        go_ret;rw [HR.out];exact ⟨rfl,HB4.out⟩
      ·cases hM:hasN K with
       | false =>
        have HR:Hid (wriE T R K key val N=3):=hid (by rw [HW.out,hM];simp [hn]);go_wp2_with (first | (go_at_call 177;refine (dS K true _ hV).mono ?_;rintro r w2 ⟨rfl,rfl⟩) | (go_at_call 192;refine (gf K false _ hM).mono ?_;rintro r w3 ⟨rfl,rfl⟩))
        go_ret;rw [HR.out];exact ⟨rfl,HB1.out⟩
       | true =>
        cases hF:aV K N with
        | true =>
         have HR:Hid (wriE T R K key val N=0):=hid (by rw [HW.out,hF];simp [hV,hM]);go_wp2_with (first | (go_at_call 177;refine (dS K true _ hV).mono ?_;rintro r w2 ⟨rfl,rfl⟩) | (go_at_call 192;refine (gf K true _ hM).mono ?_;rintro r w3 ⟨rfl,rfl⟩) | (go_at_call 193;refine (eX T R K key val N true _ hF).mono ?_;rintro r w4 ⟨rfl,hb4⟩;have HB4:=hid (HB1.out.trans (hb4.mono (DG HL1.out)));clear hb4))
         go_ret;rw [HR.out];exact ⟨rfl,HB4.out⟩
        | false =>
         have HR:Hid (wriE T R K key val N=2):=hid (by rw [HW.out,hF];simp [hV,hM]);go_wp2_with (first | (go_at_call 177;refine (dS K true _ hV).mono ?_;rintro r w2 ⟨rfl,rfl⟩) | (go_at_call 192;refine (gf K true _ hM).mono ?_;rintro r w3 ⟨rfl,rfl⟩) | (go_at_call 193;refine (eX T R K key val N false _ hF).mono ?_;rintro r w4 ⟨rfl,hb4⟩;have HB4:=hid (HB1.out.trans (hb4.mono (DG HL1.out)));clear hb4))
         go_ret;rw [HR.out];exact ⟨rfl,HB4.out⟩
    ·obtain rfl:=eV hve;have z0:(⟨#[]⟩:ByteArray).size=0:=rfl;by_cases hn:N=0
     ·subst hn;cases hF:aV K 0 with
      | true =>
       have HR:Hid (wriE T R K key ⟨#[]⟩ 0=0):=hid (by rw [HW.out,hF];simp [z0]);go_wp2_with (go_at_call 193;refine (eX T R K key ⟨#[]⟩ 0 true _ hF).mono ?_;rintro r w4 ⟨rfl,hb4⟩;have HB4:=hid (HB1.out.trans (hb4.mono (DG HL1.out)));clear hb4)
       go_ret;rw [HR.out];exact ⟨rfl,HB4.out⟩
      | false =>
       have HR:Hid (wriE T R K key ⟨#[]⟩ 0=2):=hid (by rw [HW.out,hF];simp [z0]);go_wp2_with (go_at_call 193;refine (eX T R K key ⟨#[]⟩ 0 false _ hF).mono ?_;rintro r w4 ⟨rfl,hb4⟩;have HB4:=hid (HB1.out.trans (hb4.mono (DG HL1.out)));clear hb4)
       go_ret;rw [HR.out];exact ⟨rfl,HB4.out⟩
     ·cases hM:hasN K with
      | false =>
       have HR:Hid (wriE T R K key ⟨#[]⟩ N=3):=hid (by rw [HW.out,hM];simp [hn]);go_wp2_with (first | (go_at_call 192;refine (gf K false _ hM).mono ?_;rintro r w3 ⟨rfl,rfl⟩))
       go_ret;rw [HR.out];exact ⟨rfl,HB1.out⟩
      | true =>
       cases hF:aV K N with
       | true =>
        have HR:Hid (wriE T R K key ⟨#[]⟩ N=0):=hid (by rw [HW.out,hF];simp [hM,z0]);go_wp2_with (first | (go_at_call 192;refine (gf K true _ hM).mono ?_;rintro r w3 ⟨rfl,rfl⟩) | (go_at_call 193;refine (eX T R K key ⟨#[]⟩ N true _ hF).mono ?_;rintro r w4 ⟨rfl,hb4⟩;have HB4:=hid (HB1.out.trans (hb4.mono (DG HL1.out)));clear hb4))
        go_ret;rw [HR.out];exact ⟨rfl,HB4.out⟩
       | false =>
        have HR:Hid (wriE T R K key ⟨#[]⟩ N=2):=hid (by rw [HW.out,hF];simp [hM,z0]);go_wp2_with (first | (go_at_call 192;refine (gf K true _ hM).mono ?_;rintro r w3 ⟨rfl,rfl⟩) | (go_at_call 193;refine (eX T R K key ⟨#[]⟩ N false _ hF).mono ?_;rintro r w4 ⟨rfl,hb4⟩;have HB4:=hid (HB1.out.trans (hb4.mono (DG HL1.out)));clear hb4))
        go_ret;rw [HR.out];exact ⟨rfl,HB4.out⟩
end
section
open Go.RowKit
theorem gq (v:Value) (l:List Tok) (w:World) (hv:bX w v l) (hl:l.length≤9223372036854775807) (hz:∀ t∈l,t.own.size≤140737488351232) :
 Calls Tryz.prog 151 #[v] w (jc w (a8 l 0 0)):=by
 obtain ⟨a1,c1,rfl,f1⟩:=hv.form;have F1:=hid f1;have HZ:=hid hz;obtain ⟨n,hn⟩:∃ n,n=l.length:=⟨_,rfl⟩;rw [←hn] at hl ⊢;have HN:=hid hn;clear hv f1 hn hz;go_enter Tryz.func151,Tryz.ntmps151
 go_wp2
 go_loopw [3,9] (fun s i wr=>∃ k a:Nat,k≤n∧i=.int .i64 k∧s=.int .i64 a∧a≤20000∧a8 l 0 0=a8 (l.drop k) k a∧Below w.heap.size w wr) (fun _ i _=>n-(intOf i).toNat)
 case atStart=>exact ⟨0,0,by omega,rfl,rfl,by omega,rfl,Below.refl _ _⟩
 case round =>
  obtain ⟨k,a,hk,rfl,rfl,ha,heq,hbel⟩:=hrel;have HEQ:=hid heq;have HB:=hid hbel;clear heq hbel;by_cases hlt:k<n
  ·have hkl:k<l.length:=by have:=HN.out;omega
   obtain ⟨t,ht⟩:∃ t,l[k]? = some t:=⟨l[k],Di hkl⟩;obtain ⟨b1,o1,rfl,hb1,p0,p1,p2⟩:=F1.out k t ht;have hd:l.drop k=t::l.drop (k+1):=by
    rw [DA hkl];congr 1;rw [Di hkl] at ht;exact Dr ht
   have hmem:t∈l:=DB ht;have HS:=hid (HZ.out t hmem);obtain ⟨own,back,size⟩:=t;simp only at p0 p1 p2
   have q0:=(HB.out.cell (p:=⟨b1,o1+k * 3,none⟩) hb1).trans p0;have q1:=(HB.out.cell (p:=⟨b1,o1+k * 3+1,none⟩) hb1).trans p1;have q2:=(HB.out.cell (p:=⟨b1,o1+k * 3+2,none⟩) hb1).trans p2;have hzr:=HB.out.size;obtain ⟨e,he⟩:∃ e,ap ⟨own,back,size⟩ a=e:=⟨_,rfl⟩;have HE:=hid he;have HD:=hid hd;clear p0 p1 p2 ht hmem hd hkl he;have hgap:wr.heap.size<(wr.alloc (.cells #[.string own,.int .i64 back,.int .i64 size] 142)).heap.size:=by simp
   by_cases h0:e=0
   ·subst h0;have hok:0≤size∧size≤1000:=by rcases gF HE.out with ⟨_,h,_⟩ | ⟨_,h1,h2,_⟩ <;> simp only at * <;> omega
    have hle:=j8 HE.out;have HN2:Hid (a8 l 0 0=a8 (l.drop (k+1)) (k+1) (a+lenT ⟨own,back,size⟩)):=by
     have h:a8 l 0 0=a8 (l.drop (k+1)) (k+1) (a+lenT ⟨own,back,size⟩):=by rw [HEQ.out,HD.out,eA HE.out]
     exact h
    obtain ⟨m,hm⟩:∃ m,lenT ⟨own,back,size⟩=m:=⟨_,rfl⟩;rw [hm] at hle HN2;have HM:=hid hm;clear hm HEQ;go_wp2_with fail
    refine (sW own back size a _ HS.out ha).mono ?_;rintro r w1 ⟨rfl,hb1⟩;rw [HE.out];have c0:w1.cell? ⟨wr.heap.size,0,none⟩=some (.string own):=(hb1.cell (by simp)).trans (by simp);have c1:w1.cell? ⟨wr.heap.size,1,none⟩=some (.int .i64 back):=(hb1.cell (by simp)).trans (by simp);have c2:w1.cell? ⟨wr.heap.size,2,none⟩=some (.int .i64 size):=(hb1.cell (by simp)).trans (by simp);have HB1:Hid (Below w.heap.size w w1):=(HB.out.alloc hzr _).trans (hb1.mono (by omega));clear hb1 q0 q1 q2;go_wp2_with fail
    refine (ig own back size _ HS.out hok.1 hok.2).mono ?_;rintro r w2 ⟨rfl,hb2⟩;rw [HM.out];have HB2:Hid (Below w.heap.size w w2):=HB1.out.trans (hb2.mono HB1.out.size);clear hb2 c0 c1 c2;go_wp2;go_roundw
    case rel=>exact ⟨k+1,a+m,by omega,by go_num,by go_num,by omega,HN2.out,HB2.out⟩
    case measure=>simp [intOf];omega
   ·have HN2 : Hid (a8 l 0 0 = (e, (k : Int))) := by
     have h:a8 l 0 0=(e,(k:Int)):=by rw [HEQ.out,HD.out,ez (by rw [HE.out];exact h0),HE.out]
     exact h
    have hne:((e:Int) != 0)=true:=by simp;omega
    have H0:=hid h0;clear HEQ h0;go_wp2_with fail
    refine (sW own back size a _ HS.out ha).mono ?_;rintro r w1 ⟨rfl,hb1⟩;rw [HE.out];have HB1:Hid (Below w.heap.size w w1):=(HB.out.alloc hzr _).trans (hb1.mono (by omega));have hz1:=HB1.out.size;clear hb1 q0 q1 q2;go_wp2;go_ret;rw [HN2.out];exact ⟨_,rfl,atIs.new w1 e k H0.out,HB1.out.alloc hz1 _⟩
  ·have HN2 : Hid (a8 l 0 0 = (0, -1)) := by
    have h:a8 l 0 0=(0,-1):=by rw [HEQ.out,DD (by have:=HN.out;omega)];rfl
    exact h
   go_wp2;go_ret;exact ⟨_,rfl,.inl ⟨HN2.out,rfl⟩,HB.out⟩
end
