import Derived.Test.YtagoidpkbloflaaGreatDoorKlq
import Derived.Test.YtagoidpkbloflaaGreatDoorKl21
namespace Go.Proofs.YtagoidpkbloflaaGreatDoor
open Lib (hid)
set_option maxRecDepth 100000
set_option maxHeartbeats 8000000
section
open Go.RowKit
theorem z7 {h:List Ent} {e:Ent}:∀ {last:Int} {p:Nat},okV last h→h[p]? = some e→aW h e.rep=p:=by
 induction h with
 | nil=>intro last p _ hp;simp at hp
 | cons d r ih =>
  intro last p ho hp;unfold aW;rw [List.findIdx_cons];cases p with
  | zero =>
   obtain rfl:d=e:=by simpa using hp
   simp
  | succ p =>
   have hp2:r[p]? = some e:=by simpa using hp
   have h1:=gh ho.2 e (DB hp2);have hne:decide (d.rep=e.rep)=false:=by simp;omega
   rw [hne];have h2:=ih ho.2 hp2;unfold aW at h2;simp [h2]
theorem mv (l:List UInt8):(∃ e,aq l=(0,0,e)∧e≠0)∨∃ c r,l=c::r∧aq l=(c.toNat,1,0)∧1≤c.toNat∧c.toNat≤4:=by
 cases l with
 | nil=>exact .inl ⟨7,rfl,by decide⟩
 | cons c r =>
  rw [mu];by_cases h:c.toNat<1∨4<c.toNat
  ·exact .inl ⟨1,by rw [if_pos h],by decide⟩
  ·exact .inr ⟨c,r,rfl,by rw [if_neg h],by omega,by omega⟩
theorem fy {T R K:Int} {key:ByteArray} {l:List UInt8} (h:aB T R K key l=0) :
 wriE T R K key (bP K l) (getN K l).1=0∧(b7 K (bP K l) (getN K l).1).data.toList=l.take (bZ K l)∧bZ K l≤l.length:=by
 obtain ⟨n,k,e,hn⟩:∃ n k e,getN K l=(n,k,e):=⟨_,_,_,rfl⟩;by_cases he:e=0
 ·subst he;obtain ⟨v,j,e2,hv⟩:∃ v j e2,getV K (l.drop k)=(v,j,e2):=⟨_,_,_,rfl⟩;by_cases he2:e2=0
  ·subst he2;rw [fu hn hv] at h;have h2:=yi hn hv;unfold bP bZ;rw [hn];simp only;rw [hv];simp only;exact ⟨h,h2.1,h2.2⟩
  ·rw [jA hn hv he2] at h;exact absurd h he2
 ·rw [jz hn he] at h;exact absurd h he
theorem sb {s:List UInt8} {h:List Ent} {T:List ByteArray} {a b n:Nat} {ahead:Int} {x:Wr} (hh:cG h) (h0:b8 s h T a ahead=.inr (b,x,n)) :
 T[n]? = some x.key∧wE x=0∧ahead≤x.time∧x.time≤1099511627776∧aW h x.rep<h.length∧s.drop a=oneB h ahead x n++s.drop b∧a<b∧b≤s.length∧(∃ e∈h,e.rep=x.rep):=by
 rcases mv (s.drop a) with ⟨e,hk,he⟩ | ⟨c,r,hc,hk,hc1,hc4⟩
 ·rw [kN hk he] at h0;cases h0
 ·have hal : a < s.length := by
   rcases Eg a s.length with h' | h'
   ·exact h'
   ·rw [El h'] at hc;cases hc
  have hr:r=s.drop (a+1):=by rw [←Dy,hc];rfl
  rcases ar (s.drop (a+1)) (1099511627776-ahead) with ⟨e,h1,he,_⟩ | ⟨t,k1,h1,ht,_,_,hk1l,hp1⟩
  ·rw [kO hk h1 he] at h0;cases h0
  ·rcases ar (s.drop (a+1+k1)) ((h.length:Int)-1) with ⟨e,h2,he,_⟩ | ⟨p,k2,h2,hp,_,_,hk2l,hp2⟩
   ·rw [nF hk h1 h2 he] at h0;cases h0
   ·rcases ar (s.drop (a+1+k1+k2)) ((T.length:Int)-1) with ⟨e,h3,he,_⟩ | ⟨m,k3,h3,hm,_,_,hk3l,hp3⟩
    ·rw [nD hk h1 h2 h3 he] at h0;cases h0
    ·by_cases h4:aB (ahead+t) (h.getD p ⟨0,0⟩).rep c.toNat (T.getD m ⟨#[]⟩) (s.drop (a+1+k1+k2+k3))=0
     ·rw [nE hk h1 h2 h3 h4] at h0;simp only [EH,Dz] at h0
      obtain ⟨hb,rfl,rfl⟩:=h0;obtain ⟨f1,f2,f3⟩:=fy h4;have e1:=cC hp1;have e2:=cC hp2;have e3:=cC hp3;have e4:=cC f2;rw [Dj] at hk1l hk2l hk3l f3;obtain ⟨L,hL⟩:∃ L,s.drop (a+1+k1+k2+k3)=L:=⟨_,rfl⟩;rw [hL] at f1 e3 e4 hb ⊢;rw [hL] at f3;obtain ⟨e, he⟩ : ∃ e, h[p]? = some e := ⟨h[p]'(by omega), Di _⟩;have hge:h.getD p ⟨0,0⟩=e:=by rw [DN,he];rfl
      have hme:T[m]? = some (T.getD m ⟨#[]⟩):=by
       obtain ⟨k, hk⟩ : ∃ k, T[m]? = some k := ⟨T[m]'(by omega), Di _⟩;rw [DN,hk];rfl
      have hpl:aW h (h.getD p ⟨0,0⟩).rep=p:=by rw [hge];exact z7 hh.2 he
      refine ⟨hme,f1,by show ahead≤ahead+(t:Int);omega,by show ahead+(t:Int)≤_;omega,by show aW h (h.getD p ⟨0,0⟩).rep<_;rw [hpl];omega,?_,by omega,by omega,?_⟩
      ·unfold oneB dZ;simp only
       rw [hpl,show (ahead+(t:Int)-ahead).toNat=t by omega,show ((c.toNat:Nat):Int).toNat=c.toNat by omega,il,hc,hr,e1,e2,e3];obtain ⟨X,hX⟩:∃ X,(b7 (c.toNat:Int) (bP (c.toNat:Int) L) (getN (c.toNat:Int) L).1).data.toList=X:=⟨_,rfl⟩;rw [hX] at e4 ⊢;rw [hb] at e4;rw [e4];simp
      ·exact ⟨e,DB he,by rw [hge]⟩
     ·rw [nC hk h1 h2 h3 rfl h4] at h0;cases h0
theorem nK {s:List UInt8} {h:List Ent} {T:List ByteArray} (hh:cG h) (k:Nat):∀ (a b:Nat) (ahead:Int) (W0 W:List Wr) (N0 N:List Nat),a≤s.length→unW s h T k a ahead W0 N0=.inr (b,W,N) →
 ∃ W1 N1,W=W0++W1∧N=N0++N1∧W1.length=k∧dq h T ahead W1 N1∧s.drop a=rowB h ahead W1 N1++s.drop b∧b≤s.length∧a≤b:=by
 induction k with
 | zero =>
  intro a b ahead W0 W N0 N ha h0;rw [unW] at h0;simp only [EH,Dz] at h0
  obtain ⟨rfl,rfl,rfl⟩:=h0;exact ⟨[],[],by simp,by simp,rfl,rfl,rfl,ha,Db _⟩
 | succ k ih =>
  intro a b ahead W0 W N0 N ha h0
  match h1:b8 s h T a ahead with
  | .inl r=>rw [nI h1] at h0;cases h0
  | .inr (c,x,n) =>
   rw [nJ h1] at h0;obtain ⟨o1,o2,o3,o4,o5,o6,o7,o8,o9⟩:=sb hh h1;obtain ⟨W1,N1,rfl,rfl,g3,g4,g5,g6,g7⟩:=ih _ _ _ _ _ _ _ o8 h0;refine ⟨x::W1,n::N1,by simp,by simp,by simp [g3],⟨⟨o2,o3,o5,o1⟩,g4⟩,?_,g6,by omega⟩;rw [r7,E3,←g5];exact o6
theorem se {s:List UInt8} (k:Nat):∀ (a b:Nat) (T0 T:List ByteArray),a≤s.length→unT s k a T0=.inr (b,T)→∃ T1,T=T0++T1∧T1.length=k∧s.drop a=bC T1++s.drop b∧b≤s.length∧a≤b:=by
 induction k with
 | zero =>
  intro a b T0 T ha h0;rw [unT] at h0;simp only [EH,Dz] at h0
  obtain ⟨rfl,rfl⟩:=h0;exact ⟨[],by simp,rfl,rfl,ha,Db _⟩
 | succ k ih =>
  intro a b T0 T ha h0;obtain ⟨t,n,e,hg⟩:∃ t n e,getS (s.drop a)=(t,n,e):=⟨_,_,_,rfl⟩;by_cases he:e=0
  ·subst he;obtain ⟨w1,w2,w3,w4⟩:=fl hg;rw [Dj] at w2;rw [iQ hg] at h0;obtain ⟨T1,rfl,g2,g3,g4,g5⟩:=ih _ _ _ _ (by omega) h0;refine ⟨⟨t.toArray⟩::T1,by simp,by simp [g2],?_,g4,by omega⟩;rw [nd,E3,←g3];exact cC w4
  ·rw [iP hg he] at h0;cases h0
theorem y6 {h:List Ent} {T:List ByteArray} (l:List Wr):∀ (ahead:Int) (N:List Nat),dq h T ahead l N→outG T (N.map Int.ofNat)=ay l:=by
 induction l with
 | nil=>intro ahead N hN;have hN:N=[]:=hN;subst hN;rfl
 | cons x r ih =>
  intro ahead N hN;cases N with
  | nil=>exact absurd hN id
  | cons n N =>
   have h2:=ih _ _ hN.2;unfold outG ay at h2 ⊢;rw [List.map_cons,List.map_cons,List.map_cons,h2];have h4:=hN.1.2.2.2
   congr 1
   show T.getD (Int.ofNat n).toNat ByteArray.empty=x.key
   rw [DN,show (Int.ofNat n).toNat=n from rfl,h4];rfl
theorem BT {s:List UInt8} {f h:List Ent} {l:List Wr} (h0:unbF s=.inr (f,h,l)):ff f h l∧cB f h l=s∧s.length≤20000:=by
 by_cases hl:20000<s.length
 ·rw [nN hl] at h0;cases h0
 obtain ⟨e1,n,f',h1⟩:∃ e n f',aj s=(e,n,f'):=⟨_,_,_,rfl⟩;have z1:e1=0:=by
  by_cases z:e1=0
  ·exact z
  ·rw [nL hl h1 z] at h0;cases h0
 subst z1;obtain ⟨r1,n1,n2,w1⟩:=fh h1;obtain ⟨e2,m,h',h2⟩:∃ e m h',aj (s.drop n)=(e,m,h'):=⟨_,_,_,rfl⟩;have z2:e2=0:=by
  by_cases z:e2=0
  ·exact z
  ·rw [nM hl h1 h2 z] at h0;cases h0
 subst z2;obtain ⟨r2,m1,m2,w2⟩:=fh h2;rw [Dj] at m2;rcases ar (s.drop (n+m)) 60 with ⟨e,h3,he,_⟩ | ⟨k,j,h3,hk,_,_,hjl,hp3⟩
 ·rw [nQ hl h1 h2 h3 he] at h0;cases h0
 rw [Dj] at hjl
 match h4:unT s k (n+m+j) [] with
 | .inl (e,p)=>rw [nP hl h1 h2 h3 h4] at h0;cases h0
 | .inr (b,T) =>
  obtain ⟨T1,hT1,hTl,q4,hb1,hb2⟩:=se k _ _ _ _ (by omega) h4;rw [E7] at hT1;subst hT1;rcases ar (s.drop b) 60 with ⟨e,h5,he,_⟩ | ⟨k2,j2,h5,hk2,_,_,hj2l,hp5⟩
  ·rw [nS hl h1 h2 h3 h4 h5 he] at h0;cases h0
  rw [Dj] at hj2l
  match h6:unW s h' T k2 (b+j2) 0 [] [] with
  | .inl (e,p)=>rw [nR hl h1 h2 h3 h4 h5 h6] at h0;cases h0
  | .inr (c,W,N) =>
   obtain ⟨W1,N1,hW1,hN1,hWl,hrow,q6,hc1,hc2⟩:=nK r2 k2 _ _ _ _ _ _ _ (by omega) h6;rw [E7] at hW1 hN1;subst hW1;subst hN1;rw [nO hl h1 h2 h3 h4 h5 h6] at h0;by_cases z3:c<s.length
   ·rw [if_pos z3] at h0;cases h0
   rw [if_neg z3] at h0;have z4:(aT T (N.map Int.ofNat)).2.1=0:=by
    by_cases z:(aT T (N.map Int.ofNat)).2.1=0
    ·exact z
    ·rw [if_pos z] at h0;cases h0
   rw [if_neg (by simpa using z4)] at h0;have z5:(batF f' h' W).1=0:=by
    by_cases z:(batF f' h' W).1=0
    ·exact z
    ·rw [if_pos z] at h0;cases h0
   rw [if_neg (by simpa using z5)] at h0;simp only [EH,Dz] at h0
   obtain ⟨rfl,rfl,rfl⟩:=h0;obtain ⟨_,lt,la⟩:=xu z4;rw [y6 _ _ _ hrow] at lt la;have la2:atK [] (ay W)=N:=by
    have hinj:∀ (x y:List Nat),x.map Int.ofNat=y.map Int.ofNat→x=y:=fun x y hxy=>(List.map_inj_right (fun a b hab=>Int.ofNat.inj hab)).1 hxy
    exact hinj _ _ la
   refine ⟨z5,?_,by omega⟩;have hc:s.drop c=[]:=El (by omega);have e1:=cC (a:=0) (s:=s) (k:=n) (p:=aC f') (by rw [E4];exact w1);rw [E4,DY] at e1;have e2:=cC w2;have e3:=cC hp3;have e5:=cC hp5;rw [hc,DV] at q6;unfold cB;rw [lt,la2,hTl,hWl];rw [e1,e2,e3,q4,e5,q6];simp
end
section
open Go.RowKit
def t8 (S:Nat) (s:ByteArray) (w:World) (e:Ending) (w':World):Prop :=
 w.grownBy w' (some S)∧((∃ v n l,aj s.data.toList=(0,n,l)∧e=.returned v∧ai w' w.heap.size v l∧Sc w' S s n) ∨
  ∃ (x:Nat) (pl:Int),aj s.data.toList=(x,0,[])∧x≠0∧e=.panicked [{ v:=.iface 119 (.agg #[.int .i64 (x:Int),.int .i64 pl]),recovered:=false }])
theorem fE {w w':World} {base S:Nat} {v:Value} {l:List Ent} (ho:ai w base v l) (hS:S<base) (hg:w.grownBy w' (some S)):ai w' base v l :=
 Dt ho hg (by
  cases hv:v.ownBlock with
  | none=>exact .inl rfl
  | some k=>exact .inr (fun e=>by have:=(ho.lt k hv).1;cases e;omega))
theorem ag {w w':World} (h:Below w.heap.size w w'):w.grownBy w' none:=⟨h.os,h.tape,h.output,h.size,fun k hk _=>h.block k hk⟩
theorem vq (S:Nat) (s:ByteArray) (w:World) (h:Sc w S s 0) (hs:s.size≤1000000) :
 Calls Tryz.prog 97 #[.pointer (some ⟨S,0,none⟩)] w (t8 S s w):=by
 obtain ⟨_,c1,_,hS⟩:=h.cells;have H:=hid h;have c1':w.cell? ⟨S,1,none⟩=some (.int .i64 0):=c1;have HLL:Hid (s.data.toList.length=s.size):=hid (show s.data.toList.length=s.size from rfl);clear h c1;have hz:s.data.toList.drop 0=s.data.toList:=E4;rcases ar s.data.toList 16 with ⟨x,hi,hx,_⟩ | ⟨R0,j0,hi,hR0,_,hj0,hjl,_⟩
 ·have HI:=hid hi;have HX:=hid hx;clear hi hx;go_enter Tryz.func97,Tryz.ntmps97
  go_wp2_with fail
  refine (ck S s 0 x 16 _ H.out hs (by omega) (by decide) (by decide) (by rw [hz];exact HI.out) HX.out).mono ?_;rintro r w1 ⟨rfl,hg1⟩;exact ⟨rfl,hg1,.inr ⟨x,_,lc HI.out HX.out,HX.out,rfl⟩⟩
 ·have HI:=hid hi;have hR16:R0≤16:=by omega
  rw [HLL.out] at hjl;clear hi hR0;go_enter Tryz.func97,Tryz.ntmps97
  go_wp2_with fail
  refine (bo S s 0 R0 j0 16 _ H.out hs (by omega) (by decide) (by decide) (by rw [hz];exact HI.out) hj0).mono ?_;rintro r w1 ⟨rfl,hsc1,hg1⟩;rw [DY] at hsc1;have HSC1:=hid hsc1;have HG1:=hid hg1;clear hsc1 hg1 hz;go_wp2
  go_loopw [4,5,6] (fun ov rv iv wr=>∃ (R a:Nat) (rep least:Int) (acc:List Ent),iv=.int .i64 R∧rv=.int .i64 rep∧R≤16∧a≤s.size∧((rep=-1∧least=0)∨(0≤rep∧least=rep+2))∧rep+300 * R≤5000∧acc.length+20 * R≤400∧rdA R0 (s.data.toList.drop j0) j0 0 []=rdA R (s.data.toList.drop a) a least acc∧ai wr w.heap.size ov acc∧Sc wr S s a∧w.grownBy wr (some S)) (fun _ _ iv _=>(intOf iv).toNat)
  case atStart=>exact ⟨R0,j0,-1,0,[],rfl,rfl,hR16,hjl,.inl ⟨rfl,rfl⟩,by omega,by simp;omega,rfl,cm _ _,HSC1.out,HG1.out⟩
  case round =>
   obtain ⟨R,a,rep,least,acc,rfl,rfl,hR,ha,hrl,hb,hal,heq,hown,hsc,hgr⟩:=hrel;have HEQ:=hid heq;have HOW:=hid hown;have HSC:=hid hsc;have HGR:=hid hgr;have HAL:=hid hal;obtain ⟨wo,rfl⟩:∃ wo,wo=wr:=⟨_,rfl⟩;clear heq hown hsc hgr hal;by_cases hR0:0<R
   ·obtain ⟨R',hR'⟩:∃ R',R=R'+1:=⟨R-1,by omega⟩;have HR':=hid hR';have hRr:(R:Int)-1=(R':Int):=by omega
    have hRw:IntKind.i64.wrap (R':Int)=(R':Int):=Dh _ (by omega);clear hR';rcases ar (s.data.toList.drop a) 200 with ⟨x,hi,hx,_⟩ | ⟨g,j,hi,hg2,_,hj,hjl2,_⟩
    ·have HV:Hid (aj s.data.toList=(x,0,[])):=hid (show aj s.data.toList=(x,0,[]) from fS HI.out (by rw [HEQ.out,HR'.out];exact fd (gZ hi hx)));have HI2:=hid hi;have HX:=hid hx;clear hi hx;go_wp2_with fail
     refine (ck S s a x 200 _ HSC.out hs ha (by decide) (by decide) HI2.out HX.out).mono ?_;rintro r w2 ⟨rfl,hg2⟩;exact ⟨rfl,aO HGR.out hg2 (fun k hk=>.inl (Dr hk).symm),.inr ⟨x,_,HV.out,HX.out,rfl⟩⟩
    ·rw [Dj,HLL.out] at hjl2;have HI2:=hid hi;have hdd:(s.data.toList.drop a).drop j=s.data.toList.drop (a+j):=by rw [Dy]
     obtain ⟨rp1,hrp1⟩:∃ rp1:Int,rp1=least+g-1:=⟨_,rfl⟩;have HRP:=hid hrp1;rcases ar (s.data.toList.drop (a+j)) 16 with ⟨x,hi2,hx,_⟩ | ⟨c,i,hi2,hc2,_,hi10,hil,_⟩
     ·have HV:Hid (aj s.data.toList=(x,0,[])):=hid (show aj s.data.toList=(x,0,[]) from fS HI.out (by rw [HEQ.out,HR'.out];exact fd (hH hi (by rw [hdd];exact hi2) hx)));have HI3:=hid hi2;have HX:=hid hx;clear hi2 hx hi hdd;have hrpw:IntKind.i64.wrap rp1=rp1:=Dh _ (by omega);have hgw:IntKind.i64.wrap ((g:Int)+1)=(g:Int)+1:=Dh _ (by omega);rcases hrl with ⟨rfl,hls⟩ | ⟨hr0,hls⟩
      ·have e1:(-1:Int)+(g:Int)=rp1:=by omega
       have hl0:0≤least∧least≤5002:=by omega
       have hl1:least≤-1+2:=by omega
       clear hrp1 hls;go_wp2_with fail
       refine (bo S s a g j 200 _ HSC.out hs ha (by decide) (by decide) HI2.out hj).mono ?_;rintro r w2 ⟨rfl,hsc2,hg3⟩;have HSC2:=hid hsc2;have HG2:=hid (aO HGR.out hg3 (fun k hk=>.inl (Dr hk).symm));clear hsc2 hg3;go_wp2_with fail
       refine (ck S s (a+j) x 16 _ HSC2.out hs (by omega) (by decide) (by decide) HI3.out HX.out).mono ?_;rintro r w3 ⟨rfl,hg4⟩;exact ⟨rfl,aO HG2.out hg4 (fun k hk=>.inl (Dr hk).symm),.inr ⟨x,_,HV.out,HX.out,rfl⟩⟩
      ·have e1:rep+((g:Int)+1)=rp1:=by omega
       have hl0:0≤least∧least≤5002:=by omega
       have hl1:least≤rep+2:=by omega
       clear hrp1 hls;go_wp2_with fail
       refine (bo S s a g j 200 _ HSC.out hs ha (by decide) (by decide) HI2.out hj).mono ?_;rintro r w2 ⟨rfl,hsc2,hg3⟩;have HSC2:=hid hsc2;have HG2:=hid (aO HGR.out hg3 (fun k hk=>.inl (Dr hk).symm));clear hsc2 hg3;go_wp2_with fail
       refine (ck S s (a+j) x 16 _ HSC2.out hs (by omega) (by decide) (by decide) HI3.out HX.out).mono ?_;rintro r w3 ⟨rfl,hg4⟩;exact ⟨rfl,aO HG2.out hg4 (fun k hk=>.inl (Dr hk).symm),.inr ⟨x,_,HV.out,HX.out,rfl⟩⟩
     ·rw [Dj,HLL.out] at hil;have HGET:Hid (getR (s.data.toList.drop a) 0 least []=tmA (c+1) (s.data.toList.drop (a+j+i)) (0+j+i) (least+g) []):=hid (show getR (s.data.toList.drop a) 0 least []=tmA (c+1) (s.data.toList.drop (a+j+i)) (0+j+i) (least+g) [] by
       rw [i7 hi (by rw [hdd];exact hi2),hdd,Dy])
      have HI3:=hid hi2;clear hi2 hi hdd;have hrpw:IntKind.i64.wrap rp1=rp1:=Dh _ (by omega);have hgw:IntKind.i64.wrap ((g:Int)+1)=(g:Int)+1:=Dh _ (by omega);rcases hrl with ⟨rfl,hls⟩ | ⟨hr0,hls⟩
      ·have e1:(-1:Int)+(g:Int)=rp1:=by omega
       have hl0:0≤least∧least≤5002:=by omega
       have hl1:least≤-1+2:=by omega
       clear hrp1 hls;go_wp2_with fail
       refine (bo S s a g j 200 _ HSC.out hs ha (by decide) (by decide) HI2.out hj).mono ?_;rintro r w2 ⟨rfl,hsc2,hg3⟩;have HSC2:=hid hsc2;have HG2:=hid (aO HGR.out hg3 (fun k hk=>.inl (Dr hk).symm));have HOW2:=hid (fE HOW.out hS hg3);clear hsc2 hg3;go_wp2_with fail
       refine (bo S s (a+j) c i 16 _ HSC2.out hs (by omega) (by decide) (by decide) HI3.out hi10).mono ?_;rintro r w3 ⟨rfl,hsc3,hg4⟩;have HSC3:=hid hsc3;have HG3:=hid (aO HG2.out hg4 (fun k hk=>.inl (Dr hk).symm));have HOW3:=hid (fE HOW2.out hS hg4);clear hsc3 hg4;go_wp2
       go_loopw [4,5,8] (fun ov rv kv wr=>∃ (T a2:Nat) (K rep2:Int) (racc:List Ent),kv=.int .i64 K∧K=(T:Int)-1∧rv=.int .i64 rep2∧T≤c+1∧a2≤s.size∧a≤a2∧getR (s.data.toList.drop a) 0 least []=tmA T (s.data.toList.drop a2) (a2-a) (rep2+1) racc∧(T≤c→(racc.getLastD ⟨0,0⟩).rep=rep2)∧rep2+T=least+g+c∧racc.length+T=c+1∧ai wr w.heap.size ov (acc++racc)∧Sc wr S s a2∧w.grownBy wr (some S)) (fun _ _ kv _=>(intOf kv+1).toNat)
       case atStart =>
        refine ⟨c+1,a+j+i,(c:Int),rp1,[],rfl,by omega,rfl,by omega,by omega,by omega,?_,by omega,by have:=HRP.out;omega,by simp,by rw [DV];exact HOW3.out,HSC3.out,HG3.out⟩;rw [HGET.out,show a+j+i-a=0+j+i by omega,show rp1+1=least+g by have:=HRP.out;omega]
       case round =>
        obtain ⟨T,a2,K,rep2,racc,rfl,hK,rfl,hT,ha2,haa,hgt,hlst,hrt,hrc,hown,hsc,hgr⟩:=hrel;have HGT:=hid hgt;have HLST:=hid hlst;have HOW4:=hid hown;have HSC4:=hid hsc;have HGR4:=hid hgr;have HK:=hid hK;have HRT:=hid hrt;have HRC:=hid hrc;have HACC:=HAL.out;have hkb : -1≤K∧K≤16:=by omega
        have hrb : -1≤rep2∧rep2≤6000:=by omega
        clear hgt hlst hown hsc hgr;by_cases hT0:0<T
        ·obtain ⟨T',hT'⟩:∃ T',T=T'+1:=⟨T-1,by omega⟩;have HT':=hid hT';have hK0:0≤K:=by omega
         have hKw:IntKind.i64.wrap (K-1)=K-1:=Dh _ (by omega);have hRw2:IntKind.i64.wrap (rep2+1)=rep2+1:=Dh _ (by omega);rcases ar (s.data.toList.drop a2) 1099511627776 with ⟨x,hi3,hx,_⟩ | ⟨n,m,hi3,hn3,_,hm10,hml,_⟩
         ·have HV:Hid (aj s.data.toList=(x,0,[])):=hid (show aj s.data.toList=(x,0,[]) from fS HI.out (by rw [HEQ.out,HR'.out];exact fd (by rw [HGT.out,hT'];exact gx hi3 hx)));have HI4:=hid hi3;have HX:=hid hx;clear hi3 hx hK hT' hrt hrc;go_wp2_with fail
          refine (ck S s a2 x 1099511627776 _ HSC4.out hs ha2 (by decide) (by decide) HI4.out HX.out).mono ?_;rintro r w5 ⟨rfl,hg5⟩;exact ⟨rfl,aO HGR4.out hg5 (fun k hk=>.inl (Dr hk).symm),.inr ⟨x,_,HV.out,HX.out,rfl⟩⟩
         ·rw [Dj,HLL.out] at hml;have HI4:=hid hi3;have HGT2:Hid (getR (s.data.toList.drop a) 0 least []=tmA T' (s.data.toList.drop (a2+m)) (a2+m-a) (rep2+1+1) (racc++[⟨rep2+1,n⟩])):=hid (show getR (s.data.toList.drop a) 0 least []=tmA T' (s.data.toList.drop (a2+m)) (a2+m-a) (rep2+1+1) (racc++[⟨rep2+1,n⟩]) by
           rw [HGT.out,hT',gy hi3,Dy,show a2-a+m=a2+m-a by omega])
          have hlen:(acc++racc).length+1≤1000000:=by rw [Df];omega
          clear hi3 hK hT' hrt hrc;go_wp2_with fail
          refine (bo S s a2 n m 1099511627776 _ HSC4.out hs ha2 (by decide) (by decide) HI4.out hm10).mono ?_;rintro r w5 ⟨rfl,hsc5,hg5⟩;have HSC5:=hid hsc5;have HG5:=hid (aO HGR4.out hg5 (fun k hk=>.inl (Dr hk).symm));have HOW5:=hid (fE HOW4.out hS hg5);have hz5:w.heap.size≤w5.heap.size:=HG5.out.size;clear hsc5 hg5;go_wp2_with (at_builtin;refine lh rfl _ _ rfl w.heap.size _ (acc++racc) rfl (HOW5.out.alloc _) w5.heap.size 1 rfl ⟨rep2+1,n⟩ ?c1 ?c2 ?c3 ?_)
          case c1=>exact cY _ _ _
          case c2=>exact hlen
          case c3=>simp;omega
          intro gg cap w6 ho6 hg6;have hne6:=(HOW5.out.alloc (.cells #[.int .i64 (rep2+1),.int .i64 n] 73)).lt;have HOW6:Hid (ai w6 w.heap.size (.slice (some ⟨gg,0,none⟩) (acc.length+racc.length+1) cap) (acc++(racc++[⟨rep2+1,n⟩]))):=hid (by simpa using ho6);have HG6:=hid (aO (aO HG5.out (E5 w5 (.cells #[.int .i64 (rep2+1),.int .i64 n] 73) none) (fun k hk=>by cases hk)) hg6 (fun k hk=>.inr (hne6 k hk).1));have HSC6:Hid (Sc w6 S s (a2+m)):=hid (show Sc w6 S s (a2+m) from (HSC5.out.kept (E5 w5 _ none) (by simp)).kept hg6 (fun e=>by have:=(hne6 S e).1;omega));clear ho6 hg6 hne6 hlen;go_wp2;go_roundw
          case rel =>
           have hT':=HT'.out;have hK:=HK.out;have hrt:=HRT.out;have hrc:=HRC.out;exact ⟨T',a2+m,K-1,rep2+1,racc++[⟨rep2+1,n⟩],rfl,by omega,rfl,by omega,by omega,by omega,HGT2.out,fun _=>by rw [jC],by omega,by rw [Df];simp;omega,HOW6.out,HSC6.out,HG6.out⟩
          case measure=>simp [intOf];omega
        ·have hT00:T=0:=by omega
         have hK1:K<0:=by omega
         have HE2:Hid (rdA R0 (s.data.toList.drop j0) j0 0 []=rdA R' (s.data.toList.drop a2) a2 (rep2+2) (acc++racc)):=hid (show rdA R0 (s.data.toList.drop j0) j0 0 []=rdA R' (s.data.toList.drop a2) a2 (rep2+2) (acc++racc) by
          have hg:=HGT.out;rw [hT00] at hg;have hg3:getR (s.data.toList.drop a) 0 least []=.inr (racc,a2-a):=hg;rw [HEQ.out,HR'.out,gl hg3,Dy,show a+(a2-a)=a2 by omega,HLST.out (by omega)])
         have hge:0≤rep2:=by omega
         have hbb2:rep2+300 * R'≤5000:=by have:=HR'.out;omega
         have hal2:(acc++racc).length+20 * R'≤400:=by have:=HR'.out;rw [Df];omega
         have hRR:R'<R:=by have:=HR'.out;omega
         have HFIN:Hid (0≤rep2∧rep2+300 * R'≤5000∧(acc++racc).length+20 * R'≤400∧R'<R):=hid ⟨hge,hbb2,hal2,hRR⟩;clear hT00 hK hrt hrc hbb2 hal2;go_wp2;go_roundw
         case rel=>exact ⟨R',a2,rep2,rep2+2,acc++racc,rfl,rfl,by have:=HFIN.out;omega,ha2,.inr ⟨hge,rfl⟩,HFIN.out.2.1,HFIN.out.2.2.1,HE2.out,HOW4.out,HSC4.out,HGR4.out⟩
         case measure=>simp [intOf];have:=HFIN.out;omega
      ·have e1:rep+((g:Int)+1)=rp1:=by omega
       have hl0:0≤least∧least≤5002:=by omega
       have hl1:least≤rep+2:=by omega
       clear hrp1 hls;go_wp2_with fail
       refine (bo S s a g j 200 _ HSC.out hs ha (by decide) (by decide) HI2.out hj).mono ?_;rintro r w2 ⟨rfl,hsc2,hg3⟩;have HSC2:=hid hsc2;have HG2:=hid (aO HGR.out hg3 (fun k hk=>.inl (Dr hk).symm));have HOW2:=hid (fE HOW.out hS hg3);clear hsc2 hg3;go_wp2_with fail
       refine (bo S s (a+j) c i 16 _ HSC2.out hs (by omega) (by decide) (by decide) HI3.out hi10).mono ?_;rintro r w3 ⟨rfl,hsc3,hg4⟩;have HSC3:=hid hsc3;have HG3:=hid (aO HG2.out hg4 (fun k hk=>.inl (Dr hk).symm));have HOW3:=hid (fE HOW2.out hS hg4);clear hsc3 hg4;go_wp2
       go_loopw [4,5,8] (fun ov rv kv wr=>∃ (T a2:Nat) (K rep2:Int) (racc:List Ent),kv=.int .i64 K∧K=(T:Int)-1∧rv=.int .i64 rep2∧T≤c+1∧a2≤s.size∧a≤a2∧getR (s.data.toList.drop a) 0 least []=tmA T (s.data.toList.drop a2) (a2-a) (rep2+1) racc∧(T≤c→(racc.getLastD ⟨0,0⟩).rep=rep2)∧rep2+T=least+g+c∧racc.length+T=c+1∧ai wr w.heap.size ov (acc++racc)∧Sc wr S s a2∧w.grownBy wr (some S)) (fun _ _ kv _=>(intOf kv+1).toNat)
       case atStart =>
        refine ⟨c+1,a+j+i,(c:Int),rp1,[],rfl,by omega,rfl,by omega,by omega,by omega,?_,by omega,by have:=HRP.out;omega,by simp,by rw [DV];exact HOW3.out,HSC3.out,HG3.out⟩;rw [HGET.out,show a+j+i-a=0+j+i by omega,show rp1+1=least+g by have:=HRP.out;omega]
       case round =>
        obtain ⟨T,a2,K,rep2,racc,rfl,hK,rfl,hT,ha2,haa,hgt,hlst,hrt,hrc,hown,hsc,hgr⟩:=hrel;have HGT:=hid hgt;have HLST:=hid hlst;have HOW4:=hid hown;have HSC4:=hid hsc;have HGR4:=hid hgr;have HK:=hid hK;have HRT:=hid hrt;have HRC:=hid hrc;have HACC:=HAL.out;have hkb : -1≤K∧K≤16:=by omega
        have hrb : -1≤rep2∧rep2≤6000:=by omega
        clear hgt hlst hown hsc hgr;by_cases hT0:0<T
        ·obtain ⟨T',hT'⟩:∃ T',T=T'+1:=⟨T-1,by omega⟩;have HT':=hid hT';have hK0:0≤K:=by omega
         have hKw:IntKind.i64.wrap (K-1)=K-1:=Dh _ (by omega);have hRw2:IntKind.i64.wrap (rep2+1)=rep2+1:=Dh _ (by omega);rcases ar (s.data.toList.drop a2) 1099511627776 with ⟨x,hi3,hx,_⟩ | ⟨n,m,hi3,hn3,_,hm10,hml,_⟩
         ·have HV:Hid (aj s.data.toList=(x,0,[])):=hid (show aj s.data.toList=(x,0,[]) from fS HI.out (by rw [HEQ.out,HR'.out];exact fd (by rw [HGT.out,hT'];exact gx hi3 hx)));have HI4:=hid hi3;have HX:=hid hx;clear hi3 hx hK hT' hrt hrc;go_wp2_with fail
          refine (ck S s a2 x 1099511627776 _ HSC4.out hs ha2 (by decide) (by decide) HI4.out HX.out).mono ?_;rintro r w5 ⟨rfl,hg5⟩;exact ⟨rfl,aO HGR4.out hg5 (fun k hk=>.inl (Dr hk).symm),.inr ⟨x,_,HV.out,HX.out,rfl⟩⟩
         ·rw [Dj,HLL.out] at hml;have HI4:=hid hi3;have HGT2:Hid (getR (s.data.toList.drop a) 0 least []=tmA T' (s.data.toList.drop (a2+m)) (a2+m-a) (rep2+1+1) (racc++[⟨rep2+1,n⟩])):=hid (show getR (s.data.toList.drop a) 0 least []=tmA T' (s.data.toList.drop (a2+m)) (a2+m-a) (rep2+1+1) (racc++[⟨rep2+1,n⟩]) by
           rw [HGT.out,hT',gy hi3,Dy,show a2-a+m=a2+m-a by omega])
          have hlen:(acc++racc).length+1≤1000000:=by rw [Df];omega
          clear hi3 hK hT' hrt hrc;go_wp2_with fail
          refine (bo S s a2 n m 1099511627776 _ HSC4.out hs ha2 (by decide) (by decide) HI4.out hm10).mono ?_;rintro r w5 ⟨rfl,hsc5,hg5⟩;have HSC5:=hid hsc5;have HG5:=hid (aO HGR4.out hg5 (fun k hk=>.inl (Dr hk).symm));have HOW5:=hid (fE HOW4.out hS hg5);have hz5:w.heap.size≤w5.heap.size:=HG5.out.size;clear hsc5 hg5;go_wp2_with (at_builtin;refine lh rfl _ _ rfl w.heap.size _ (acc++racc) rfl (HOW5.out.alloc _) w5.heap.size 1 rfl ⟨rep2+1,n⟩ ?c1 ?c2 ?c3 ?_)
          case c1=>exact cY _ _ _
          case c2=>exact hlen
          case c3=>simp;omega
          intro gg cap w6 ho6 hg6;have hne6:=(HOW5.out.alloc (.cells #[.int .i64 (rep2+1),.int .i64 n] 73)).lt;have HOW6:Hid (ai w6 w.heap.size (.slice (some ⟨gg,0,none⟩) (acc.length+racc.length+1) cap) (acc++(racc++[⟨rep2+1,n⟩]))):=hid (by simpa using ho6);have HG6:=hid (aO (aO HG5.out (E5 w5 (.cells #[.int .i64 (rep2+1),.int .i64 n] 73) none) (fun k hk=>by cases hk)) hg6 (fun k hk=>.inr (hne6 k hk).1));have HSC6:Hid (Sc w6 S s (a2+m)):=hid (show Sc w6 S s (a2+m) from (HSC5.out.kept (E5 w5 _ none) (by simp)).kept hg6 (fun e=>by have:=(hne6 S e).1;omega));clear ho6 hg6 hne6 hlen;go_wp2;go_roundw
          case rel =>
           have hT':=HT'.out;have hK:=HK.out;have hrt:=HRT.out;have hrc:=HRC.out;exact ⟨T',a2+m,K-1,rep2+1,racc++[⟨rep2+1,n⟩],rfl,by omega,rfl,by omega,by omega,by omega,HGT2.out,fun _=>by rw [jC],by omega,by rw [Df];simp;omega,HOW6.out,HSC6.out,HG6.out⟩
          case measure=>simp [intOf];omega
        ·have hT00:T=0:=by omega
         have hK1:K<0:=by omega
         have HE2:Hid (rdA R0 (s.data.toList.drop j0) j0 0 []=rdA R' (s.data.toList.drop a2) a2 (rep2+2) (acc++racc)):=hid (show rdA R0 (s.data.toList.drop j0) j0 0 []=rdA R' (s.data.toList.drop a2) a2 (rep2+2) (acc++racc) by
          have hg:=HGT.out;rw [hT00] at hg;have hg3:getR (s.data.toList.drop a) 0 least []=.inr (racc,a2-a):=hg;rw [HEQ.out,HR'.out,gl hg3,Dy,show a+(a2-a)=a2 by omega,HLST.out (by omega)])
         have hge:0≤rep2:=by omega
         have hbb2:rep2+300 * R'≤5000:=by have:=HR'.out;omega
         have hal2:(acc++racc).length+20 * R'≤400:=by have:=HR'.out;rw [Df];omega
         have hRR:R'<R:=by have:=HR'.out;omega
         have HFIN:Hid (0≤rep2∧rep2+300 * R'≤5000∧(acc++racc).length+20 * R'≤400∧R'<R):=hid ⟨hge,hbb2,hal2,hRR⟩;clear hT00 hK hrt hrc hbb2 hal2;go_wp2;go_roundw
         case rel=>exact ⟨R',a2,rep2,rep2+2,acc++racc,rfl,rfl,by have:=HFIN.out;omega,ha2,.inr ⟨hge,rfl⟩,HFIN.out.2.1,HFIN.out.2.2.1,HE2.out,HOW4.out,HSC4.out,HGR4.out⟩
         case measure=>simp [intOf];have:=HFIN.out;omega
   ·have hR00:R=0:=by omega
    have hR01:¬ 0<(R:Int):=by omega
    have HEQ0:Hid (rdA R0 (s.data.toList.drop j0) j0 0 []=.inr (acc,a)):=hid (show rdA R0 (s.data.toList.drop j0) j0 0 []=.inr (acc,a) by rw [HEQ.out,hR00];rfl);obtain ⟨e,pl,hv⟩:∃ e pl,au acc=(e,pl):=⟨_,_,rfl⟩;have HVR:=hid hv;have HACC:Hid (acc.length≤9223372036854775807):=hid (show acc.length≤9223372036854775807 by have:=HAL.out;omega);clear hR00 hv;go_wp2_with fail
    refine (eD _ acc e pl _ HOW.out.is HACC.out HVR.out).mono ?_;rintro r w2 ⟨rfl,hb2⟩;have HB2:=hid hb2;clear hb2;go_wp2_with fail
    refine (aH e pl _).mono ?_;rintro r w3 ⟨rfl,hb3⟩;have c0:w3.cell? ⟨w2.heap.size,0,none⟩=some (.int .i64 e):=(hb3.cell (by simp)).trans (by simp);have HG3:Hid (w.grownBy w3 (some S)):=hid (aO (aO (aO HGR.out (ag HB2.out) (fun k hk=>by cases hk)) (E5 w2 _ none) (fun k hk=>by cases hk)) (ag hb3) (fun k hk=>by cases hk));have HSC3:Hid (Sc w3 S s a):=hid (((HSC.out.kept (ag HB2.out) (by simp)).kept (E5 w2 _ none) (by simp)).kept (ag hb3) (by simp));have HOW3:=hid (((HOW.out.below HB2.out).alloc _).below hb3);clear hb3;by_cases he:e=0
    ·have hbe:((e:Int) == 0)=true:=by simp;exact he
     have HV:Hid (aj s.data.toList=(0,a,acc)):=hid (ld HI.out HEQ0.out (by rw [HVR.out];exact he));rw [hbe];clear hbe he;go_wp2;go_ret;exact ⟨HG3.out,.inl ⟨_,a,acc,HV.out,rfl,HOW3.out,HSC3.out⟩⟩
    ·have hbe:((e:Int) == 0)=false:=by simp;exact he
     have HV:Hid (aj s.data.toList=(e,0,[])):=hid (show aj s.data.toList=(e,0,[]) by
      have:=lf HI.out HEQ0.out (by rw [HVR.out];exact he);rw [HVR.out] at this;exact this)
     have HE:=hid he;rw [hbe];clear hbe he;go_wp2_with fail
     refine (bi e 0 _).mono ?_;rintro r w' ⟨rfl,rfl⟩;exact ⟨rfl,HG3.out,.inr ⟨e,0,HV.out,HE.out,rfl⟩⟩
end
