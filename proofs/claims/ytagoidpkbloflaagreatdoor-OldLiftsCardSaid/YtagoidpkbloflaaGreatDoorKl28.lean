import Derived.Test.YtagoidpkbloflaaGreatDoorKlq
import Derived.Test.YtagoidpkbloflaaGreatDoorKl26
import Derived.Test.YtagoidpkbloflaaGreatDoorKl08
import Derived.Lib.Join
namespace Go.Proofs.YtagoidpkbloflaaGreatDoor
open Lib (hid)
set_option maxRecDepth 100000
set_option maxHeartbeats 8000000
section
open Go.RowKit
def numS (most:Int) (l:List UInt8) (e:Nat):Nat×List UInt8×Nat:=if e≠0 then (0,l,e) else ((intL l most).1,l.drop (intL l most).2.1,(intL l most).2.2)
def dH (l:List UInt8) (e:Nat):Nat×List UInt8×Nat:=if e≠0 then (0,l,e) else ((aq l).1,l.drop (aq l).2.1,(aq l).2.2)
def dc (l:List UInt8) (e:Nat):List UInt8×List UInt8×Nat:=if e≠0 then ([],l,e) else ((getS l).1,l.drop (getS l).2.1,(getS l).2.2)
def fV:Wr:=⟨0,0,0,⟨#[]⟩,⟨#[]⟩,0⟩
def da (T R K:Int) (key:ByteArray) (l:List UInt8):Wr×Nat×Nat:=if aB T R K key l≠0 then (fV,0,aB T R K key l) else (⟨T,R,K,key,bP K l,(getN K l).1⟩,bZ K l,0)
def dQ (T R K:Int) (key:ByteArray) (l:List UInt8) (e:Nat):Wr×List UInt8×Nat :=
 if e≠0 then (fV,l,e) else ((da T R K key l).1,l.drop (da T R K key l).2.1,(da T R K key l).2.2)
theorem lU {T R K:Int} {key:ByteArray} {l:List UInt8} {x:Nat} (h:aB T R K key l=x) (hx:x≠0):da T R K key l=(fV,0,x):=by unfold da;rw [if_pos (by rw [h];exact hx),h]
theorem lV {T R K:Int} {key:ByteArray} {l:List UInt8} (h:aB T R K key l=0):da T R K key l=(⟨T,R,K,key,bP K l,(getN K l).1⟩,bZ K l,0):=by unfold da;rw [if_neg (by rw [h];simp)]
theorem lW {T R K:Int} {key:ByteArray} {l:List UInt8} {y:Wr} {k x:Nat} (h:da T R K key l=(y,k,x)):dQ T R K key l 0=(y,l.drop k,x):=by unfold dQ;rw [if_neg (by simp),h]
theorem dp {most:Int} {l:List UInt8} {e:Nat} (he:e≠0):numS most l e=(0,l,e):=by unfold numS;rw [if_pos he]
theorem cL {most:Int} {l:List UInt8} {n k x:Nat} (h:intL l most=(n,k,x)):numS most l 0=(n,l.drop k,x):=by unfold numS;rw [if_neg (by simp),h]
theorem pW {l:List UInt8} {e:Nat} (he:e≠0):dH l e=(0,l,e):=by unfold dH;rw [if_pos he]
theorem jN {l:List UInt8} {n k x:Nat} (h:aq l=(n,k,x)):dH l 0=(n,l.drop k,x):=by unfold dH;rw [if_neg (by simp),h]
theorem iM {l:List UInt8} {e:Nat} (he:e≠0):dc l e=([],l,e):=by unfold dc;rw [if_pos he]
theorem nc {l t:List UInt8} {k x:Nat} (h:getS l=(t,k,x)):dc l 0=(t,l.drop k,x):=by unfold dc;rw [if_neg (by simp),h]
theorem fx {T R K:Int} {key:ByteArray} {l:List UInt8} {e:Nat} (he:e≠0):dQ T R K key l e=(fV,l,e):=by unfold dQ;rw [if_pos he]
theorem po {T R K:Int} {key:ByteArray} {l:List UInt8} {x:Nat} (h:aB T R K key l=x) (hx:x≠0):dQ T R K key l 0=(fV,l,x):=by rw [lW (lU h hx)];rfl
theorem pq {T R K:Int} {key:ByteArray} {l:List UInt8} (h:aB T R K key l=0):dQ T R K key l 0=(⟨T,R,K,key,bP K l,(getN K l).1⟩,l.drop (bZ K l),0):=lW (lV h)
theorem vL {T R K:Int} {key:ByteArray} {l:List UInt8} {y:Wr} {k x:Nat} (h:da T R K key l=(y,k,x)):k≤l.length:=by
 by_cases he:aB T R K key l=0
 ·rw [lV he] at h;injection h with _ h;injection h with h _;rw [←h];exact (fy he).2.2
 ·rw [lU rfl he] at h;injection h with _ h;injection h with h _;omega
def cD:Nat→List UInt8→Nat→List Ent→List Ent×List UInt8×Nat
 | 0,l,e,L=>(L,l,e)
 | k + 1, l, e, L => cD k (numS 1099511627776 (numS 200 l e).2.1 (numS 200 l e).2.2).2.1 (numS 1099511627776 (numS 200 l e).2.1 (numS 200 l e).2.2).2.2
     (L++[⟨((numS 200 l e).1:Int),((numS 1099511627776 (numS 200 l e).2.1 (numS 200 l e).2.2).1:Int)⟩])
def vecS (l:List UInt8) (e:Nat):List Ent×List UInt8×Nat:=cD (numS 16 l e).1 (numS 16 l e).2.1 (numS 16 l e).2.2 []
def wrS (l:List UInt8) (e:Nat):Wr×List UInt8×Nat :=
 match dH l e with
 | (K,l1,e1)=>match numS 1099511627776 l1 e1 with
  | (t,l2,e2)=>match numS 200 l2 e2 with
   | (r,l3,e3)=>match dc l3 e3 with
    | (key,l4,e4)=>dQ t r K ⟨key.toArray⟩ l4 e4
theorem fk {l l1 l2 l3 l4 key:List UInt8} {e e1 e2 e3 e4 K t r:Nat} (h0:dH l e=(K,l1,e1)) (h1:numS 1099511627776 l1 e1=(t,l2,e2)) (h2:numS 200 l2 e2=(r,l3,e3)) (h3:dc l3 e3=(key,l4,e4)):wrS l e=dQ t r K ⟨key.toArray⟩ l4 e4:=by
 unfold wrS;rw [h0];simp only;rw [h1];simp only;rw [h2];simp only;rw [h3]
def wrsS:Nat→List UInt8→Nat→List Wr→List Wr×List UInt8×Nat
 | 0,l,e,W=>(W,l,e)
 | k+1,l,e,W=>wrsS k (wrS l e).2.1 (wrS l e).2.2 (W++[(wrS l e).1])
theorem pM {l:List UInt8} {most:Int} {n k x:Nat} (h:intL l most=(n,k,x)):k≤l.length∧(0≤most→(n:Int)≤most):=by
 rcases ar l most with ⟨e,h1,_⟩ | ⟨n',k',h1,h2,_,_,h3,_⟩
 ·rw [h1] at h;injection h with h2 h;injection h with h3 _;exact ⟨by omega,fun hm=>by omega⟩
 ·rw [h1] at h;injection h with h4 h;injection h with h5 _;exact ⟨by omega,fun _=>by omega⟩
theorem wY {l:List UInt8} {n k x:Nat} (h:aq l=(n,k,x)):k≤l.length∧n≤4:=by
 unfold aq at h;split at h
 ·injection h with h1 h;injection h with h2 _;exact ⟨by omega,by omega⟩
 ·split at h
  ·injection h with h1 h;injection h with h2 _;exact ⟨by omega,by omega⟩
  ·injection h with h1 h;injection h with h2 _;exact ⟨by rw [←h2];simp,by omega⟩
theorem pA {l t:List UInt8} {k x:Nat} (h:getS l=(t,k,x)):k≤l.length∧t.length≤2000∧(x≠0→t=[]∧k=0):=by
 by_cases hx:x=0
 ·subst hx;have:=fl h;exact ⟨this.2.1,this.2.2.1,fun h=>absurd rfl h⟩
 ·rcases cu l with ⟨e,hg,he⟩ | ⟨n,j,hg,_⟩
  ·rw [g9 hg he] at h;injection h with h1 h;injection h with h2 _;subst h1 h2;simp
  ·by_cases h2:2000<n
   ·rw [ga hg h2] at h;injection h with h1 h;injection h with h2 _;subst h1 h2;simp
   ·by_cases h3:l.length<j+n
    ·rw [gb hg h2 h3] at h;injection h with h1 h;injection h with h2 _;subst h1 h2;simp
    ·rw [gc hg h2 h3] at h;injection h with _ h;injection h with _ h;exact absurd h.symm hx
theorem my {most:Int} (h:0≤most) (l:List UInt8) (e:Nat):((numS most l e).1:Int)≤most:=by
 unfold numS;split
 ·exact h
 ·exact (pM (n:=(intL l most).1) (k:=(intL l most).2.1) (x:=(intL l most).2.2) rfl).2 h
theorem lT {l:List UInt8} {e:Nat} (he:e≠0):∀ (k:Nat) (L:List Ent),(cD k l e L).2=(l,e):=by
 intro k
 induction k with
 | zero=>intro L;rfl
 | succ k ih=>intro L;rw [cD,dp he,dp he];exact ih _
theorem vA (k:Nat):∀ (l:List UInt8) (e:Nat) (L:List Ent),(cD k l e L).1.length=L.length+k:=by
 induction k with
 | zero=>intro l e L;rfl
 | succ k ih=>intro l e L;rw [cD,ih,Df];simp;omega
theorem sA (l:List UInt8) (e:Nat):(vecS l e).1.length≤16:=by
 unfold vecS;rw [vA];have:=my (most:=16) (by decide) l e;simp;omega
theorem Ca {l:List UInt8} {e:Nat} (he:e≠0):vecS l e=([],l,e):=by unfold vecS;rw [dp he];rfl
theorem CL {l:List UInt8} {e:Nat} (he:e≠0):wrS l e=(fV,l,e):=by
 rw [fk (pW he) (dp he) (dp he) (iM he),fx he]
theorem j9 {l:List UInt8} {e:Nat} (he:e≠0):∀ (k:Nat) (W:List Wr),(wrsS k l e W).2=(l,e):=by
 intro k
 induction k with
 | zero=>intro W;rfl
 | succ k ih=>intro W;rw [wrsS,CL he];exact ih _
theorem CY (k:Nat):∀ (l:List UInt8) (e:Nat) (W:List Wr),(wrsS k l e W).1.length=W.length+k:=by
 induction k with
 | zero=>intro l e W;rfl
 | succ k ih=>intro l e W;rw [wrsS,ih,Df];simp;omega
theorem vx {s:List UInt8} (k:Nat):∀ (a:Nat) (L:List Ent) (x:Nat),unP s k a L=.inl x→(cD k (s.drop a) 0 L).2.2=x:=by
 induction k with
 | zero=>intro a L x h;cases h
 | succ k ih =>
  intro a L x h;obtain ⟨r,j,e1,h1⟩:∃ r j e1,intL (s.drop a) 200=(r,j,e1):=⟨_,_,_,rfl⟩;by_cases he1:e1=0
  ·subst he1;obtain ⟨t,i,e2,h2⟩:∃ t i e2,intL (s.drop (a+j)) 1099511627776=(t,i,e2):=⟨_,_,_,rfl⟩;rw [cD,cL h1,Dy,cL h2,Dy];by_cases he2:e2=0
   ·subst he2;rw [gz h1 h2] at h;exact ih _ _ _ h
   ·rw [gC h1 h2 he2] at h;injection h with h;subst h;simp only;rw [lT he2]
  ·rw [gA h1 he1] at h;injection h with h;subst h
   rw [cD,cL h1,dp he1];simp only;rw [lT he1]
theorem vz {s:List UInt8} (k:Nat):∀ (a:Nat) (L M:List Ent) (b:Nat),unP s k a L=.inr (b,M)→cD k (s.drop a) 0 L=(M,s.drop b,0):=by
 induction k with
 | zero=>intro a L M b h;rw [unP] at h;injection h with h;injection h with h1 h2;subst h1 h2;rfl
 | succ k ih =>
  intro a L M b h;obtain ⟨r,j,e1,h1⟩:∃ r j e1,intL (s.drop a) 200=(r,j,e1):=⟨_,_,_,rfl⟩;by_cases he1:e1=0
  ·subst he1;obtain ⟨t,i,e2,h2⟩:∃ t i e2,intL (s.drop (a+j)) 1099511627776=(t,i,e2):=⟨_,_,_,rfl⟩;rw [cD,cL h1,Dy,cL h2,Dy];by_cases he2:e2=0
   ·subst he2;rw [gz h1 h2] at h;exact ih _ _ _ _ h
   ·rw [gC h1 h2 he2] at h;cases h
  ·rw [gA h1 he1] at h;cases h
theorem sx {s:List UInt8} {a x:Nat} (h:unE s a=.inl x):(vecS (s.drop a) 0).2.2=x:=by
 obtain ⟨k,j,e1,h1⟩:∃ k j e1,intL (s.drop a) 16=(k,j,e1):=⟨_,_,_,rfl⟩;unfold vecS;rw [cL h1,Dy];by_cases he:e1=0
 ·subst he;rw [fQ h1] at h;exact vx _ _ _ _ h
 ·rw [fP h1 he] at h;injection h with h;subst h;simp only;rw [lT he]
theorem sy {s:List UInt8} {a b:Nat} {M:List Ent} (h:unE s a=.inr (b,M)):vecS (s.drop a) 0=(M,s.drop b,0):=by
 obtain ⟨k,j,e1,h1⟩:∃ k j e1,intL (s.drop a) 16=(k,j,e1):=⟨_,_,_,rfl⟩;unfold vecS;rw [cL h1,Dy];by_cases he:e1=0
 ·subst he;rw [fQ h1] at h;exact vz _ _ _ _ _ h
 ·rw [fP h1 he] at h;cases h
theorem pV {l:List UInt8} {K j:Nat} (h:aq l=(K,j,0)):j=1:=by
 unfold aq at h;split at h
 ·injection h with _ h;injection h with _ h;cases h
 ·split at h
  ·injection h with _ h;injection h with _ h;cases h
  ·injection h with _ h;injection h with h _;exact h.symm
theorem CK {s:List UInt8} {a x:Nat} (h:unV s a=.inl x):(wrS (s.drop a) 0).2.2=x:=by
 obtain ⟨K,j,e0,h0⟩:∃ K j e,aq (s.drop a)=(K,j,e):=⟨_,_,_,rfl⟩;by_cases he0:e0=0
 ·subst he0;obtain rfl:=pV h0;obtain ⟨t,k1,e1,h1⟩:∃ t k e,intL (s.drop (a+1)) 1099511627776=(t,k,e):=⟨_,_,_,rfl⟩;have g0:=jN h0;rw [Dy] at g0;by_cases he1:e1=0
  ·subst he1;obtain ⟨r,k2,e2,h2⟩:∃ t k e,intL (s.drop (a+1+k1)) 200=(t,k,e):=⟨_,_,_,rfl⟩;have g1:=cL h1;rw [Dy] at g1;by_cases he2:e2=0
   ·subst he2;obtain ⟨key,k3,e3,h3⟩:∃ t k e,getS (s.drop (a+1+k1+k2))=(t,k,e):=⟨_,_,_,rfl⟩;have g2:=cL h2;rw [Dy] at g2;have g3:=nc h3;rw [Dy] at g3;rw [fk g0 g1 g2 g3];by_cases he3:e3=0
    ·subst he3;by_cases h4:aB t r K ⟨key.toArray⟩ (s.drop (a+1+k1+k2+k3))=0
     ·rw [kS h0 h1 h2 h3 h4] at h;cases h
     ·rw [kQ h0 h1 h2 h3 rfl h4] at h;injection h with h;rw [po h (by rw [←h];exact h4)]
    ·rw [kR h0 h1 h2 h3 he3] at h;injection h with h;subst h;rw [fx he3]
   ·rw [kU h0 h1 h2 he2] at h;injection h with h;subst h
    rw [fk g0 g1 (cL h2) (iM he2),fx he2]
  ·rw [kV h0 h1 he1] at h;injection h with h;subst h
   rw [fk g0 (cL h1) (dp he1) (iM he1),fx he1]
 ·rw [iR h0 he0] at h;injection h with h;subst h
  rw [fk (jN h0) (dp he0) (dp he0) (iM he0),fx he0]
theorem sP {s:List UInt8} {a b:Nat} {y:Wr} (h:unV s a=.inr (b,y)):wrS (s.drop a) 0=(y,s.drop b,0):=by
 obtain ⟨K,j,e0,h0⟩:∃ K j e,aq (s.drop a)=(K,j,e):=⟨_,_,_,rfl⟩;by_cases he0:e0=0
 ·subst he0;obtain rfl:=pV h0;obtain ⟨t,k1,e1,h1⟩:∃ t k e,intL (s.drop (a+1)) 1099511627776=(t,k,e):=⟨_,_,_,rfl⟩;have g0:=jN h0;rw [Dy] at g0;by_cases he1:e1=0
  ·subst he1;obtain ⟨r,k2,e2,h2⟩:∃ t k e,intL (s.drop (a+1+k1)) 200=(t,k,e):=⟨_,_,_,rfl⟩;have g1:=cL h1;rw [Dy] at g1;by_cases he2:e2=0
   ·subst he2;obtain ⟨key,k3,e3,h3⟩:∃ t k e,getS (s.drop (a+1+k1+k2))=(t,k,e):=⟨_,_,_,rfl⟩;have g2:=cL h2;rw [Dy] at g2;by_cases he3:e3=0
    ·subst he3;have g3:=nc h3;rw [Dy] at g3;by_cases h4:aB t r K ⟨key.toArray⟩ (s.drop (a+1+k1+k2+k3))=0
     ·rw [kS h0 h1 h2 h3 h4] at h;injection h with h
      injection h with i1 i2
      rw [fk g0 g1 g2 g3,pq h4,Dy,i1,i2]
     ·rw [kQ h0 h1 h2 h3 rfl h4] at h;cases h
    ·rw [kR h0 h1 h2 h3 he3] at h;cases h
   ·rw [kU h0 h1 h2 he2] at h;cases h
  ·rw [kV h0 h1 he1] at h;cases h
 ·rw [iR h0 he0] at h;cases h
theorem CW {s:List UInt8} (k:Nat):∀ (a:Nat) (W:List Wr) (x:Nat),unVs s k a W=.inl x→(wrsS k (s.drop a) 0 W).2.2=x:=by
 induction k with
 | zero=>intro a W x h;cases h
 | succ k ih =>
  intro a W x h
  match h1:unV s a with
  | .inl e1 =>
   rw [kW h1] at h;injection h with h;subst h
   have h2:=CK h1;rw [wrsS,h2,j9 (sf h1)]
  | .inr (b,y)=>rw [kX h1] at h;rw [wrsS,sP h1];exact ih _ _ _ h
theorem CX {s:List UInt8} (k:Nat):∀ (a:Nat) (W M:List Wr) (b:Nat),unVs s k a W=.inr (b,M)→wrsS k (s.drop a) 0 W=(M,s.drop b,0):=by
 induction k with
 | zero=>intro a W M b h;rw [unVs] at h;injection h with h;injection h with h1 h2;subst h1 h2;rfl
 | succ k ih =>
  intro a W M b h
  match h1:unV s a with
  | .inl e1=>rw [kW h1] at h;cases h
  | .inr (c,y)=>rw [kX h1] at h;rw [wrsS,sP h1];exact ih _ _ _ _ h
theorem BJ {s:List UInt8} {f h:List Ent} {W:List Wr} {l1 l2 l3 l4:List UInt8} {e1 e2 e3 e4 k:Nat} (h1:vecS s 0=(f,l1,e1)) (h2:vecS l1 e1=(h,l2,e2)) (h3:numS 60 l2 e2=(k,l3,e3)) (h4:wrsS k l3 e3 []=(W,l4,e4)) :
 unO s=if e4≠0 then .inl e4 else if l4≠[] then .inl 3 else if (batF f h W).1≠0 then .inl (batF f h W).1 else .inr (f,h,W):=by
 match u1:unE s 0 with
 | .inl x =>
  have hx:=kM u1;have g:=sx u1;rw [E4,h1] at g;simp only at g
  subst g;rw [Ca hx] at h2;injection h2 with _ h2;injection h2 with _ h2;subst h2
  rw [dp hx] at h3;injection h3 with _ h3;injection h3 with _ h3;subst h3
  have g4:=j9 (l:=l3) hx k [];rw [h4] at g4;injection g4 with _ g4
  rw [ns u1,g4,if_pos hx]
 | .inr (a,f') =>
  have g:=sy u1;rw [E4,h1] at g;injection g with g1 g;injection g with g2 g3
  subst g1 g2 g3
  match u2:unE s a with
  | .inl x =>
   have hx:=kM u2;have g:=sx u2;rw [h2] at g;simp only at g
   subst g;rw [dp hx] at h3;injection h3 with _ h3;injection h3 with _ h3;subst h3
   have g4:=j9 (l:=l3) hx k [];rw [h4] at g4;injection g4 with _ g4
   rw [nu u1 u2,g4,if_pos hx]
  | .inr (b,h') =>
   have g:=sy u2;rw [h2] at g;injection g with g1 g;injection g with g2 g3
   subst g1 g2 g3;obtain ⟨k',j,x,u3⟩:∃ k j x,intL (s.drop b) 60=(k,j,x):=⟨_,_,_,rfl⟩;rw [cL u3,Dy] at h3;injection h3 with i1 h3;injection h3 with i2 i3
   subst i1 i2 i3;by_cases hx:x=0
   ·subst hx
    match u4:unVs s k' (b+j) [] with
    | .inl y =>
     have g:=CW _ _ _ _ u4;rw [h4] at g;simp only at g
     subst g;rw [nB u1 u2 u3 u4,if_pos (sg _ _ _ _ u4)]
    | .inr (c,W') =>
     have g:=CX _ _ _ _ _ u4;rw [h4] at g;injection g with i1 g;injection g with i2 i3
     subst i1 i2 i3;rw [nz u1 u2 u3 u4,if_neg (show ¬ (0:Nat)≠0 by simp)];by_cases hc:c<s.length
     ·rw [if_pos hc,if_pos (show s.drop c≠[] by intro e;have:=congrArg List.length e;rw [Dj] at this;simp at this;omega)]
     ·rw [if_neg hc,if_neg (show ¬ s.drop c≠[] by rw [El (by omega)];simp)]
   ·have g4:=j9 (l:=s.drop (b+j)) hx k' [];rw [h4] at g4;injection g4 with _ g4
    rw [nx u1 u2 u3 hx,g4,if_pos hx]
end
section
open Go.RowKit
theorem kq (n:Nat) (k:Int) (P:ByteArray) (w:World) (h:n≤1000000) (hk:(n:Int)=k) (hP:⟨(putL n).toArray⟩=P) :
 Calls Tryz.prog 20 #[.int .u64 k] w fun e w'=>e=.returned (.string P)∧Below w.heap.size w w':=by
 subst hk hP;exact eC n w (by omega)
def cF (l:List ByteArray):List UInt8:=(l.map (·.data.toList)).flatten
theorem pu (l:List ByteArray) (a b:ByteArray):cF (l++[a,b])=cF l++(a.data.toList++b.data.toList):=by simp [cF]
theorem pS (l:List ByteArray):Lib.join (l.map (·.data.toList)) (⟨#[]⟩:ByteArray).data.toList=cF l:=by
 show Lib.join _ []=_
 unfold cF;cases l with
 | nil=>rfl
 | cons x r =>
  rw [List.map_cons,Lib.join_cons,EG];unfold Lib.joinTail;simp [Function.comp_def]
theorem zT (v:Value) (base:Nat) (xs:List ByteArray) (w:World) (h:ak w base v xs) (hn:xs.length≤1000000) (hlen:(cF xs).length≤1000000) :
 Calls Tryz.prog 85 #[v,.string ⟨#[]⟩] w fun e w'=>e=.returned (.string ⟨(cF xs).toArray⟩)∧Below w.heap.size w w':=by
 have hown:=h;have hlt:=h.lt;obtain ⟨h0,h1⟩:=h;rcases h1 with ⟨rfl,hz⟩ | ⟨g,cap,cur,rfl,hb,hh,hc,hm,hs,ht⟩
 ·obtain rfl:=E0.1 hz;exact (Tryz.strings_Join_none none 0 ⟨#[]⟩ w).mono fun e w' ⟨he,hw⟩=>⟨he,hw ▸ Below.refl _ _⟩
 ·have hcap:xs.length≤cap:=by omega
  have:=Tryz.strings_Join g 0 cap xs ⟨#[]⟩ w (fun j x hj=>by
   have hjl:j<xs.length:=(Do.1 hj).1;rw [DY,Ej hown j (by omega)];rw [ER,hj];rfl) (hlt g rfl).2 (by omega) hcap (by rw [pS];omega)
  rw [pS] at this;exact this
theorem mm {w w':World} {row:Option Nat} (hg:w.grownBy w' row) {b o:Nat} (hb:b<w.heap.size) (hne:row≠some b):w'.cell? ⟨b,o,none⟩=w.cell? ⟨b,o,none⟩:=by
 simp [World.cell?,hg.block b hb (fun e=>hne e.symm)]
theorem ak.ne {w:World} {base:Nat} {v:Value} {l:List ByteArray} (h:ak w base v l) {b:Nat} (hb:w.heap.size≤b):v.ownBlock≠some b:=fun e=>by
 have:=(h.lt b e).2;omega
theorem Ax (v:Value) (l:List Tok) (w:World) (hv:bX w v l) (hl:l.length≤9223372036854775807) (hz:∀ t∈l,t.own.size≤140737488351232) :
 Calls Tryz.prog 51 #[v] w fun e w'=>e=.returned (.tuple #[.string ⟨(bR l).toArray⟩,bH (a8 l 0 0)])∧Below w.heap.size w w':=by
 have HLL:=hid hl;have HZ:=hid hz;obtain ⟨e,pl,hr⟩:∃ e pl,a8 l 0 0=(e,pl):=⟨_,_,rfl⟩;have HR:Hid (bH (a8 l 0 0)=.agg #[.int .i64 e,.int .i64 pl]):=by
  have h:bH (a8 l 0 0)=.agg #[.int .i64 e,.int .i64 pl]:=by rw [hr];rfl
  exact h
 have HVA:=hid (hv.alloc (.cells #[.int .i64 0,.int .i64 0] 28));by_cases he:e=0
 ·subst he;have hr0:(a8 l 0 0).1=0:=by rw [hr]
  have hpl:pl=-1:=by have:=fM hr0;rw [hr] at this;exact (Prod.mk.inj this).2
  subst hpl;have HW:Hid (bR l=aZ l):=by
   have h:bR l=aZ l:=by unfold bR;rw [if_pos hr0]
   exact h
  have HF:=hid (mU hr0);obtain ⟨hfew,hcost,_⟩:=gr hr0;have HC:=hid hcost;have HSZ:Hid (∀ t∈l,t.own.size≤20000):=by
   have h:∀ t∈l,t.own.size≤20000:=kj hr0;exact h
  obtain ⟨a1,c1,rfl,f1⟩:=hv.form;have F1:=hid f1;obtain ⟨n,hn⟩:∃ n,n=l.length:=⟨_,rfl⟩;rw [←hn] at hl hfew ⊢ HVA;have HN:=hid hn;clear hv f1 hn hz hr hr0 hcost;go_enter Tryz.func51,Tryz.ntmps51
  go_wp2_with fail
  refine (gv _ l _ HVA.out HLL.out HZ.out).mono ?_;rintro r w0 ⟨rfl,hb0⟩;rw [HR.out];have HB0:=hid hb0;have hz0:=hb0.size;rw [DE] at hz0;clear hb0;go_wp2_with fail
  refine (aH 0 (-1) _).mono ?_;rintro r w1 ⟨rfl,hb1⟩;have HB1:Hid (Below (w.heap.size+1) (w.alloc (.cells #[.int .i64 0,.int .i64 0] 28)) w1):=(HB0.out.mono (by simp)).alloc (by omega) _ |>.trans (hb1.mono (by simp;omega))
  clear hb1;go_wp2
  go_loopw [5,16] (fun o i wr=>∃ (k:Nat) (acc:List ByteArray),k≤n∧i=.int .i64 k∧cF acc=aZ (l.take k)∧acc.length=2 * k∧ak wr (w.heap.size+1) o acc∧Below (w.heap.size+1) (w.alloc (.cells #[.int .i64 0,.int .i64 0] 28)) wr) (fun _ i _=>n-(intOf i).toNat)
  case atStart=>exact ⟨0,[],by omega,rfl,rfl,rfl,bK _ _,HB1.out⟩
  case round =>
   obtain ⟨k,acc,hk,rfl,hfl,hal,hown,hbel⟩:=hrel;have HFL:=hid hfl;have HAL:=hid hal;have HO:=hid hown;have HB:=hid hbel;have hzr:=hbel.size;rw [DE] at hzr;have HBW:Hid (Below w.heap.size w wr):=((Below.refl _ _).alloc (Db _) _).trans (hbel.mono (Dq _));have x0:wr.cell? ⟨w.heap.size,0,none⟩=some (.int .i64 0):=(hbel.cell (by exact Du _)).trans (by simp);have x1:wr.cell? ⟨w.heap.size,1,none⟩=some (.int .i64 0):=(hbel.cell (by exact Du _)).trans (by simp);have y0:wr.frozen? ⟨w.heap.size,0,none⟩=false:=(hbel.frozen (by exact Du _)).trans (by simp);have y1:wr.frozen? ⟨w.heap.size,1,none⟩=false:=(hbel.frozen (by exact Du _)).trans (by simp);clear hfl hal hown hbel;by_cases hlt:k<n
   ·obtain ⟨t, ht⟩ : ∃ t, l[k]? = some t := ⟨l[k]'(by have := HN.out; omega), Di _⟩;obtain ⟨b1,o1,rfl,hb1,p0,p1,p2⟩:=F1.out k t ht;have HSN:=hid (sV l k t ht);have hfine:fine t:=(HF.out t (DB ht)).1;have hts:t.own.size≤20000:=HSZ.out t (DB ht);obtain ⟨own,back,size⟩:=t;simp only at p0 p1 p2 hts
    have q0:=(HBW.out.cell (p:=⟨b1,o1+k * 3,none⟩) hb1).trans p0;have q1:=(HBW.out.cell (p:=⟨b1,o1+k * 3+1,none⟩) hb1).trans p1;have q2:=(HBW.out.cell (p:=⟨b1,o1+k * 3+2,none⟩) hb1).trans p2;clear p0 p1 p2 ht x0 x1 y0 y1;rcases hfine with ⟨h1,h2,h3⟩ | ⟨h1,h2,h3,h4,h5⟩
    ·simp only at h1 h2 h3
     subst h2 h3;obtain ⟨P,hP⟩:∃ P:ByteArray,⟨(putL (2 * own.size)).toArray⟩=P:=⟨_,rfl⟩;have HX:Hid (cF (acc++[P,own])=aZ (l.take (k+1))):=by
      have h:cF (acc++[P,own])=aZ (l.take (k+1)):=by rw [pu,HSN.out,jZ h1,HFL.out,←hP]
      exact h
     have HPP:=hid hP;have k1:IntKind.i64.wrap (2 * (own.size:Int))=2 * own.size:=Dh _ (by omega);have k2:IntKind.u64.wrap (2 * (own.size:Int))=2 * own.size:=DI _ (by omega);have HQ:Hid (2 * own.size≤1000000∧((2 * own.size:Nat):Int)=2 * (own.size:Int)):=⟨by omega,by omega⟩;have c0:(wr.alloc (.cells #[.string own,.int .i64 0,.int .i64 0] 142)).cell? ⟨wr.heap.size,0,none⟩=some (.string own):=by simp
     have HO0:=hid (HO.out.alloc (.cells #[.string own,.int .i64 0,.int .i64 0] 142));have HB0':Hid (Below (w.heap.size+1) (w.alloc (.cells #[.int .i64 0,.int .i64 0] 28)) (wr.alloc (.cells #[.string own,.int .i64 0,.int .i64 0] 142))):=HB.out.alloc (by omega) _;have HAL2:Hid (acc.length+2≤8796093022208):=hid (show acc.length+2≤8796093022208 by have:=HAL.out;omega);clear h1 hP;go_wp2;go_region_held3 (fun w'=>w'.cell? ⟨wr.heap.size,0,none⟩=some (.string own)) (first | exact c0 | exact c1' | exact c15 | exact c2) (first | (go_at_call 20;(with_reducible refine (kq (2 * own.size) _ P _ HQ.out.1 HQ.out.2 HPP.out).mono ?_);rintro r w2 ⟨rfl,hb2⟩;have c1':w2.cell? ⟨wr.heap.size,0,none⟩=some (.string own):=(hb2.cell (by simp)).trans c0;have HB2:Hid (Below (w.heap.size+1) (w.alloc (.cells #[.int .i64 0,.int .i64 0] 28)) w2):=(HB0'.out.drew.trans (hb2.mono (by simp;omega)));have HO2:Hid (ak w2 (w.heap.size+1) _ acc):=(HO0.out.drew.below hb2);have hz2:wr.heap.size<w2.heap.size:=(Dv (by simp) hb2.size);have c15:(w2.alloc (.cells #[.string P,.string own] 9)).cell? ⟨wr.heap.size,0,none⟩=some (.string own):=((((Below.refl _ _).alloc (Db _) _).cell hz2).trans c1');clear hb2) | (refine rI _ rfl _ _ rfl (w.heap.size+1) _ acc rfl (HO2.out.alloc _) ⟨w2.heap.size,0,none⟩ 2 rfl P own (by simp [Addr.add]) (by simp [Addr.add]) HAL2.out (by simp;omega) ?_;intro g cap w3 hown3 hg3;have c2:w3.cell? ⟨wr.heap.size,0,none⟩=some (.string own):=((mm hg3 (by simp;omega) (HO.out.ne (Db _))).trans c15);have HB3:Hid (Below (w.heap.size+1) (w.alloc (.cells #[.int .i64 0,.int .i64 0] 28)) w3):=((HB2.out.alloc (by omega) _).grown hg3 (by simp;omega) (fun g hg=>(HO.out.lt g hg).1));have HO3:=hid hown3;clear hown3 hg3))
     go_wp2;go_roundw
     case rel=>exact ⟨k+1,acc++[P,own],by omega,by go_num,HX.out,by rw [Df,HAL.out];simp;omega,HO3.out,HB3.out⟩
     case measure=>simp [intOf];omega
    ·simp only at h1 h2 h3 h4 h5
     obtain ⟨Z,rfl⟩:=DS (show 0≤size by omega);obtain ⟨B,rfl⟩:=DS (show 0≤back by omega);obtain ⟨P,hP⟩:∃ P:ByteArray,⟨(putL (2 * (Z-4)+1)).toArray⟩=P:=⟨_,rfl⟩;obtain ⟨R,hR⟩:∃ R:ByteArray,⟨(putL (B-1)).toArray⟩=R:=⟨_,rfl⟩;have HX:Hid (cF (acc++[P,R])=aZ (l.take (k+1))):=by
      have h:cF (acc++[P,R])=aZ (l.take (k+1)):=by rw [pu,HSN.out,k7 h1,HFL.out,←hP,←hR];rfl
      exact h
     have HPP:=hid hP;have HRR:=hid hR;have k0:((Z:Int) == 0)=false:=by simp;omega
     have k1:IntKind.i64.wrap ((Z:Int)-4)=(Z:Int)-4:=Dh _ (by omega);have k2:IntKind.i64.wrap (2 * ((Z:Int)-4))=2 * ((Z:Int)-4):=Dh _ (by omega);have k3:IntKind.i64.wrap (2 * ((Z:Int)-4)+1)=2 * ((Z:Int)-4)+1:=Dh _ (by omega);have k4:IntKind.u64.wrap (2 * ((Z:Int)-4)+1)=2 * ((Z:Int)-4)+1:=DI _ (by omega);have k5:IntKind.i64.wrap ((B:Int)-1)=(B:Int)-1:=Dh _ (by omega);have k6:IntKind.u64.wrap ((B:Int)-1)=(B:Int)-1:=DI _ (by omega);have HQ:Hid (2 * (Z-4)+1≤1000000∧((2 * (Z-4)+1:Nat):Int)=2 * ((Z:Int)-4)+1):=⟨by omega,by omega⟩;have HQ2:Hid (B-1≤1000000∧((B-1:Nat):Int)=(B:Int)-1):=⟨by omega,by omega⟩;have c0:(wr.alloc (.cells #[.string own,.int .i64 B,.int .i64 Z] 142)).cell? ⟨wr.heap.size,1,none⟩=some (.int .i64 B)∧(wr.alloc (.cells #[.string own,.int .i64 B,.int .i64 Z] 142)).cell? ⟨wr.heap.size,2,none⟩=some (.int .i64 Z):=by simp
     have HO0:=hid (HO.out.alloc (.cells #[.string own,.int .i64 B,.int .i64 Z] 142));have HB0':Hid (Below (w.heap.size+1) (w.alloc (.cells #[.int .i64 0,.int .i64 0] 28)) (wr.alloc (.cells #[.string own,.int .i64 B,.int .i64 Z] 142))):=HB.out.alloc (by omega) _;have HAL2:Hid (acc.length+2≤8796093022208):=hid (show acc.length+2≤8796093022208 by have:=HAL.out;omega);clear h1 hP hR;go_wp2;go_region_held3 (fun w'=>w'.cell? ⟨wr.heap.size,1,none⟩=some (.int .i64 B)∧w'.cell? ⟨wr.heap.size,2,none⟩=some (.int .i64 Z)) (first | exact c0 | exact c1' | exact c12 | exact c15 | exact c2) (first | (go_at_call 20;(with_reducible refine (kq (2 * (Z-4)+1) _ P _ HQ.out.1 HQ.out.2 HPP.out).mono ?_);rintro r w2 ⟨rfl,hb2⟩;have c1':w2.cell? ⟨wr.heap.size,1,none⟩=some (.int .i64 B)∧w2.cell? ⟨wr.heap.size,2,none⟩=some (.int .i64 Z):=⟨(hb2.cell (by simp)).trans c0.1,(hb2.cell (by simp)).trans c0.2⟩;have HB2:Hid (Below (w.heap.size+1) (w.alloc (.cells #[.int .i64 0,.int .i64 0] 28)) w2):=(HB0'.out.drew.trans (hb2.mono (by simp;omega)));have HO2:Hid (ak w2 (w.heap.size+1) _ acc):=(HO0.out.drew.below hb2);have HZ2:Hid (wr.heap.size<w2.heap.size):=(Dv (by simp) hb2.size);clear hb2) | (go_at_call 20;(with_reducible refine (kq (B-1) _ R _ HQ2.out.1 HQ2.out.2 HRR.out).mono ?_);rintro r w2' ⟨rfl,hb2⟩;have c12:w2'.cell? ⟨wr.heap.size,1,none⟩=some (.int .i64 B)∧w2'.cell? ⟨wr.heap.size,2,none⟩=some (.int .i64 Z):=⟨(hb2.cell HZ2.out).trans c1'.1,(hb2.cell HZ2.out).trans c1'.2⟩;have HB2':Hid (Below (w.heap.size+1) (w.alloc (.cells #[.int .i64 0,.int .i64 0] 28)) w2'):=(HB2.out.trans (hb2.mono (by have:=HZ2.out;omega)));have HO2':Hid (ak w2' (w.heap.size+1) _ acc):=(HO2.out.below hb2);have hz2:wr.heap.size<w2'.heap.size:=(Dv HZ2.out hb2.size);have c15:(w2'.alloc (.cells #[.string P,.string R] 9)).cell? ⟨wr.heap.size,1,none⟩=some (.int .i64 B)∧(w2'.alloc (.cells #[.string P,.string R] 9)).cell? ⟨wr.heap.size,2,none⟩=some (.int .i64 Z):=⟨((((Below.refl _ _).alloc (Db _) _).cell hz2).trans c12.1),((((Below.refl _ _).alloc (Db _) _).cell hz2).trans c12.2)⟩;clear hb2) | (refine rI _ rfl _ _ rfl (w.heap.size+1) _ acc rfl (HO2'.out.alloc _) ⟨w2'.heap.size,0,none⟩ 2 rfl P R (by simp [Addr.add]) (by simp [Addr.add]) HAL2.out (by simp;omega) ?_;intro g cap w3 hown3 hg3;have c2:w3.cell? ⟨wr.heap.size,1,none⟩=some (.int .i64 B)∧w3.cell? ⟨wr.heap.size,2,none⟩=some (.int .i64 Z):=⟨((mm hg3 (by simp;omega) (HO.out.ne (Db _))).trans c15.1),((mm hg3 (by simp;omega) (HO.out.ne (Db _))).trans c15.2)⟩;have HB3:Hid (Below (w.heap.size+1) (w.alloc (.cells #[.int .i64 0,.int .i64 0] 28)) w3):=((HB2'.out.alloc (by omega) _).grown hg3 (by simp;omega) (fun g hg=>(HO.out.lt g hg).1));have HO3:=hid hown3;clear hown3 hg3))
     go_wp2;go_roundw
     case rel=>exact ⟨k+1,acc++[P,R],by omega,by go_num,HX.out,by rw [Df,HAL.out];simp;omega,HO3.out,HB3.out⟩
     case measure=>simp [intOf];omega
   ·have hkn:k=n:=by omega
    have HFW:Hid ((⟨(cF acc).toArray⟩:ByteArray)=⟨(bR l).toArray⟩):=by
     have h:(⟨(cF acc).toArray⟩:ByteArray)=⟨(bR l).toArray⟩:=by rw [HFL.out,hkn,HN.out,ES,HW.out]
     exact h
    have HFZ:Hid ((cF acc).length≤1000000):=by
     have h:(cF acc).length≤1000000:=by
      rw [HFL.out];have h1:=pc (l:=l) k;have:=HC.out;unfold cost at this h1;omega
     exact h
    have hlt0:w.heap.size<wr.heap.size:=by omega
    clear hkn HFL;go_wp2_with fail
    refine (zT _ _ acc _ HO.out (by have:=HAL.out;omega) HFZ.out).mono ?_;rintro r w2 ⟨rfl,hb2⟩;rw [HFW.out];have HB2:Hid (Below w.heap.size w w2):=HBW.out.trans (hb2.mono (DG hlt0));have HLT2:Hid (w.heap.size<w2.heap.size):=Dv hlt0 hb2.size;have x0':=(hb2.cell (p:=⟨w.heap.size,0,none⟩) hlt0).trans x0;have x1':=(hb2.cell (p:=⟨w.heap.size,1,none⟩) hlt0).trans x1;have y0':=(hb2.frozen (p:=⟨w.heap.size,0,none⟩) hlt0).trans y0;have y1':=(hb2.frozen (p:=⟨w.heap.size,1,none⟩) hlt0).trans y1;clear hb2 x0 x1 y0 y1;go_wp2_with fail
    refine (dF _).mono ?_;rintro r w3 ⟨rfl,hb3⟩;have d0:w3.cell? ⟨w.heap.size,0,none⟩=some (.int .i64 0):=(hb3.cell HLT2.out).trans x0';have d1:w3.cell? ⟨w.heap.size,1,none⟩=some (.int .i64 0):=(hb3.cell HLT2.out).trans x1';have g0:w3.frozen? ⟨w.heap.size,0,none⟩=false:=(hb3.frozen HLT2.out).trans y0';have g1:w3.frozen? ⟨w.heap.size,1,none⟩=false:=(hb3.frozen HLT2.out).trans y1';have HB3:Hid (Below w.heap.size w w3):=HB2.out.trans (hb3.mono (DG HLT2.out));clear hb3 x0' x1' y0' y1';go_wp2;refine Dc (v:=.tuple #[.string ⟨(bR l).toArray⟩,.agg #[.int .i64 0,.int .i64 (-1)]]) (by simp [results,Tryz.results51,go_sem,d0,d1]) rfl ?_;rw [HR.out];exact ⟨rfl,(HB3.out.setCell (Db _) _).setCell (Db _) _⟩
 ·have HT : Hid ((⟨(bR l).toArray⟩ : ByteArray) = ⟨#[]⟩) := by
   have h:(⟨(bR l).toArray⟩:ByteArray)=⟨#[]⟩:=by unfold bR;rw [if_neg (by rw [hr];exact he)]
   exact h
  have hbe:((e:Int) == 0)=false:=by simp;omega
  have HBE:=hid hbe;clear hv hl hz hr he hbe;go_enter Tryz.func51,Tryz.ntmps51
  go_wp2_with fail
  refine (gv _ l _ HVA.out HLL.out HZ.out).mono ?_;rintro r w0 ⟨rfl,hb0⟩;rw [HR.out];have HB0:=hid hb0;have hz0:=hb0.size;rw [DE] at hz0;clear hb0;go_wp2_with fail
  refine (aH e pl _).mono ?_;rintro r w1 ⟨rfl,hb1⟩;rw [HBE.out];have HB1:=hid hb1;have hB1:Below (w.heap.size+1) (w.alloc (.cells #[.int .i64 0,.int .i64 0] 28)) w1:=(HB0.out.mono (by simp)).alloc (by omega) _ |>.trans (hb1.mono (by simp;omega))
  have hl0:w0.heap.size<(w0.alloc (.cells #[.int .i64 e,.int .i64 pl] 28)).heap.size:=by simp
  have u0:w1.cell? ⟨w0.heap.size,0,none⟩=some (.int .i64 e):=(hb1.cell hl0).trans (by simp);have u1:w1.cell? ⟨w0.heap.size,1,none⟩=some (.int .i64 pl):=(hb1.cell hl0).trans (by simp);have x0:w1.cell? ⟨w.heap.size,0,none⟩=some (.int .i64 0):=(hB1.cell (by exact Du _)).trans (by simp);have x1:w1.cell? ⟨w.heap.size,1,none⟩=some (.int .i64 0):=(hB1.cell (by exact Du _)).trans (by simp);have y0:w1.frozen? ⟨w.heap.size,0,none⟩=false:=(hB1.frozen (by exact Du _)).trans (by simp);have y1:w1.frozen? ⟨w.heap.size,1,none⟩=false:=(hB1.frozen (by exact Du _)).trans (by simp);have HBW:Hid (Below w.heap.size w w1):=((Below.refl _ _).alloc (Db _) _).trans (hB1.mono (Dq _));clear hb1 hB1;go_wp2;go_region
  go_wp2;refine Dc (v:=.tuple #[.string ⟨#[]⟩,.agg #[.int .i64 e,.int .i64 pl]]) (by simp [results,Tryz.results51,go_sem,x0,x1]) rfl ?_;rw [HT.out,HR.out];exact ⟨rfl,by first | exact ((HBW.out.drew).setCell (Db _) _).setCell (Db _) _ | exact ((HBW.out.setCell (Db _) _).setCell (Db _) _).drew⟩
end
section
open Go.RowKit
theorem zL (F O:Nat) (pl:Int) (u:FrameMode) (w:World) (c0:w.cell? ⟨F,0,none⟩=some (.int .i64 0)) (c1:w.cell? ⟨F,1,none⟩=some (.int .i64 pl)) :
 CallsD Tryz.prog 95 #[.pointer (some ⟨F,0,none⟩),.pointer (some ⟨O,0,none⟩)] u w fun r u' w'=>u'=u∧(r=.returned (.tuple #[])∧Below w.heap.size w w'):=by
 go_enter_d Tryz.func95,Tryz.ntmps95
 go_wp2_with fail
 refine (aH 0 pl _).mono ?_;rintro r w1 ⟨rfl,hb1⟩;have HB1:=hid hb1;clear hb1;go_wp2
 go_end0
 exact ⟨rfl,HB1.out⟩
theorem zK (F O:Nat) (e pl:Int) (v:Value) (u:FrameMode) (w:World) (he:(e == 0)=false) (c0:w.cell? ⟨F,0,none⟩=some (.int .i64 e)) (c1:w.cell? ⟨F,1,none⟩=some (.int .i64 pl)) (hO:O<w.heap.size) (o0:w.cell? ⟨O,0,none⟩=some v) (y0:w.frozen? ⟨O,0,none⟩=false) :
 CallsD Tryz.prog 95 #[.pointer (some ⟨F,0,none⟩),.pointer (some ⟨O,0,none⟩)] u w fun r u' w'=>u'=u∧(r=.returned (.tuple #[])∧∃ w1,Below w.heap.size w w1∧w'=w1.setCell ⟨O,0,none⟩ (.slice none 0 0)):=by
 go_enter_d Tryz.func95,Tryz.ntmps95
 go_wp2_with fail
 refine (aH e pl _).mono ?_;rintro r w1 ⟨rfl,hb1⟩;rw [he];have o1:w1.cell? ⟨O,0,none⟩=some v:=(hb1.cell hO).trans o0;have y1:w1.frozen? ⟨O,0,none⟩=false:=(hb1.frozen hO).trans y0;have HB1:=hid hb1;clear hb1 o0 y0;go_wp2
 go_end0
 exact ⟨rfl,w1,HB1.out,rfl⟩
end
