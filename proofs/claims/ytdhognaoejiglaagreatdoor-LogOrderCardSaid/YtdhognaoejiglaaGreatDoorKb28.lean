import Derived.Test.YtdhognaoejiglaaGreatDoorKb27
namespace Go.Proofs.YtdhognaoejiglaaGreatDoor
open Lib (hid)
set_option maxRecDepth 100000
set_option maxHeartbeats 8000000
open Go.RowKit
def numS (most:Int) (l:List UInt8) (e:Nat):Nat×List UInt8×Nat:=if e≠0 then (0,l,e) else ((intL l most).1,l.drop (intL l most).2.1,(intL l most).2.2)
def dV (l:List UInt8) (e:Nat):Nat×List UInt8×Nat:=if e≠0 then (0,l,e) else ((ar l).1,l.drop (ar l).2.1,(ar l).2.2)
def dy (l:List UInt8) (e:Nat):List UInt8×List UInt8×Nat:=if e≠0 then ([],l,e) else ((getS l).1,l.drop (getS l).2.1,(getS l).2.2)
def gz:Wr:=⟨0,0,0,⟨#[]⟩,⟨#[]⟩,0⟩
def dq (T R K:Int) (key:ByteArray) (l:List UInt8):Wr×Nat×Nat:=if aH T R K key l≠0 then (gz,0,aH T R K key l) else (⟨T,R,K,key,cy K l,(getN K l).1⟩,cH K l,0)
def eC (T R K:Int) (key:ByteArray) (l:List UInt8) (e:Nat):Wr×List UInt8×Nat :=
 if e≠0 then (gz,l,e) else ((dq T R K key l).1,l.drop (dq T R K key l).2.1,(dq T R K key l).2.2)
theorem nc {T R K:Int} {key:ByteArray} {l:List UInt8} {x:Nat} (h:aH T R K key l=x) (hx:x≠0):dq T R K key l=(gz,0,x):=by unfold dq;rw [if_pos (by rw [h];exact hx),h]
theorem nd {T R K:Int} {key:ByteArray} {l:List UInt8} (h:aH T R K key l=0):dq T R K key l=(⟨T,R,K,key,cy K l,(getN K l).1⟩,cH K l,0):=by unfold dq;rw [if_neg (by rw [h];simp)]
theorem ne {T R K:Int} {key:ByteArray} {l:List UInt8} {y:Wr} {k x:Nat} (h:dq T R K key l=(y,k,x)):eC T R K key l 0=(y,l.drop k,x):=by unfold eC;rw [if_neg (by simp),h]
theorem dG {most:Int} {l:List UInt8} {e:Nat} (he:e≠0):numS most l e=(0,l,e):=by unfold numS;rw [if_pos he]
theorem cP {most:Int} {l:List UInt8} {n k x:Nat} (h:intL l most=(n,k,x)):numS most l 0=(n,l.drop k,x):=by unfold numS;rw [if_neg (by simp),h]
theorem sd {l:List UInt8} {e:Nat} (he:e≠0):dV l e=(0,l,e):=by unfold dV;rw [if_pos he]
theorem kQ {l:List UInt8} {n k x:Nat} (h:ar l=(n,k,x)):dV l 0=(n,l.drop k,x):=by unfold dV;rw [if_neg (by simp),h]
theorem jt {l:List UInt8} {e:Nat} (he:e≠0):dy l e=([],l,e):=by unfold dy;rw [if_pos he]
theorem oO {l t:List UInt8} {k x:Nat} (h:getS l=(t,k,x)):dy l 0=(t,l.drop k,x):=by unfold dy;rw [if_neg (by simp),h]
theorem fY {T R K:Int} {key:ByteArray} {l:List UInt8} {e:Nat} (he:e≠0):eC T R K key l e=(gz,l,e):=by unfold eC;rw [if_pos he]
theorem qR {T R K:Int} {key:ByteArray} {l:List UInt8} {x:Nat} (h:aH T R K key l=x) (hx:x≠0):eC T R K key l 0=(gz,l,x):=by rw [ne (nc h hx)];rfl
theorem qS {T R K:Int} {key:ByteArray} {l:List UInt8} (h:aH T R K key l=0):eC T R K key l 0=(⟨T,R,K,key,cy K l,(getN K l).1⟩,l.drop (cH K l),0):=ne (nd h)
theorem zh {T R K:Int} {key:ByteArray} {l:List UInt8} {y:Wr} {k x:Nat} (h:dq T R K key l=(y,k,x)):k≤l.length:=by
 by_cases he:aH T R K key l=0
 ·rw [nd he] at h;injection h with _ h;injection h with h _;rw [←h];exact (kC he).2.2
 ·rw [nc rfl he] at h;injection h with _ h;injection h with h _;omega
def cG:Nat→List UInt8→Nat→List Ent→List Ent×List UInt8×Nat
 | 0,l,e,L=>(L,l,e)
 | k + 1, l, e, L => cG k (numS 1099511627776 (numS 200 l e).2.1 (numS 200 l e).2.2).2.1 (numS 1099511627776 (numS 200 l e).2.1 (numS 200 l e).2.2).2.2
     (L++[⟨((numS 200 l e).1:Int),((numS 1099511627776 (numS 200 l e).2.1 (numS 200 l e).2.2).1:Int)⟩])
def vecS (l:List UInt8) (e:Nat):List Ent×List UInt8×Nat:=cG (numS 16 l e).1 (numS 16 l e).2.1 (numS 16 l e).2.2 []
def wrS (l:List UInt8) (e:Nat):Wr×List UInt8×Nat :=
 match dV l e with
 | (K,l1,e1)=>match numS 1099511627776 l1 e1 with
  | (t,l2,e2)=>match numS 200 l2 e2 with
   | (r,l3,e3)=>match dy l3 e3 with
    | (key,l4,e4)=>eC t r K ⟨key.toArray⟩ l4 e4
theorem fK {l l1 l2 l3 l4 key:List UInt8} {e e1 e2 e3 e4 K t r:Nat} (h0:dV l e=(K,l1,e1)) (h1:numS 1099511627776 l1 e1=(t,l2,e2)) (h2:numS 200 l2 e2=(r,l3,e3)) (h3:dy l3 e3=(key,l4,e4)):wrS l e=eC t r K ⟨key.toArray⟩ l4 e4:=by
 unfold wrS;rw [h0];simp only;rw [h1];simp only;rw [h2];simp only;rw [h3]
def wrsS:Nat→List UInt8→Nat→List Wr→List Wr×List UInt8×Nat
 | 0,l,e,W=>(W,l,e)
 | k+1,l,e,W=>wrsS k (wrS l e).2.1 (wrS l e).2.2 (W++[(wrS l e).1])
theorem rS {l:List UInt8} {most:Int} {n k x:Nat} (h:intL l most=(n,k,x)):k≤l.length∧(0≤most→(n:Int)≤most):=by
 rcases ba l most with ⟨e,h1,_⟩ | ⟨n',k',h1,h2,_,_,h3,_⟩
 ·rw [h1] at h;injection h with h2 h;injection h with h3 _;exact ⟨by omega,fun hm=>by omega⟩
 ·rw [h1] at h;injection h with h4 h;injection h with h5 _;exact ⟨by omega,fun _=>by omega⟩
theorem Au {l:List UInt8} {n k x:Nat} (h:ar l=(n,k,x)):k≤l.length∧n≤4:=by
 unfold ar at h;split at h
 ·injection h with h1 h;injection h with h2 _;exact ⟨by omega,by omega⟩
 ·split at h
  ·injection h with h1 h;injection h with h2 _;exact ⟨by omega,by omega⟩
  ·injection h with h1 h;injection h with h2 _;exact ⟨by rw [←h2];simp,by omega⟩
theorem ru {l t:List UInt8} {k x:Nat} (h:getS l=(t,k,x)):k≤l.length∧t.length≤2000∧(x≠0→t=[]∧k=0):=by
 by_cases hx:x=0
 ·subst hx;have:=jJ h;exact ⟨this.2.1,this.2.2.1,fun h=>absurd rfl h⟩
 ·rcases dC l with ⟨e,hg,he⟩ | ⟨n,j,hg,_⟩
  ·rw [iQ hg he] at h;injection h with h1 h;injection h with h2 _;subst h1 h2;simp
  ·by_cases h2:2000<n
   ·rw [iR hg h2] at h;injection h with h1 h;injection h with h2 _;subst h1 h2;simp
   ·by_cases h3:l.length<j+n
    ·rw [iS hg h2 h3] at h;injection h with h1 h;injection h with h2 _;subst h1 h2;simp
    ·rw [gN hg h2 h3] at h;injection h with _ h;injection h with _ h;exact absurd h.symm hx
theorem nU {most:Int} (h:0≤most) (l:List UInt8) (e:Nat):((numS most l e).1:Int)≤most:=by
 unfold numS;split
 ·exact h
 ·exact (rS (n:=(intL l most).1) (k:=(intL l most).2.1) (x:=(intL l most).2.2) rfl).2 h
theorem mX {l:List UInt8} {e:Nat} (he:e≠0):∀ (k:Nat) (L:List Ent),(cG k l e L).2=(l,e):=by
 intro k
 induction k with
 | zero=>intro L;rfl
 | succ k ih=>intro L;rw [cG,dG he,dG he];exact ih _
theorem z7 (k:Nat):∀ (l:List UInt8) (e:Nat) (L:List Ent),(cG k l e L).1.length=L.length+k:=by
 induction k with
 | zero=>intro l e L;rfl
 | succ k ih=>intro l e L;rw [cG,ih,List.length_append];simp;omega
theorem vv (l:List UInt8) (e:Nat):(vecS l e).1.length≤16:=by
 unfold vecS;rw [z7];have:=nU (most:=16) (by decide) l e;simp;omega
theorem FJ {l:List UInt8} {e:Nat} (he:e≠0):vecS l e=([],l,e):=by unfold vecS;rw [dG he];rfl
theorem Gt {l:List UInt8} {e:Nat} (he:e≠0):wrS l e=(gz,l,e):=by
 rw [fK (sd he) (dG he) (dG he) (jt he),fY he]
theorem jI {l:List UInt8} {e:Nat} (he:e≠0):∀ (k:Nat) (W:List Wr),(wrsS k l e W).2=(l,e):=by
 intro k
 induction k with
 | zero=>intro W;rfl
 | succ k ih=>intro W;rw [wrsS,Gt he];exact ih _
theorem GK (k:Nat):∀ (l:List UInt8) (e:Nat) (W:List Wr),(wrsS k l e W).1.length=W.length+k:=by
 induction k with
 | zero=>intro l e W;rfl
 | succ k ih=>intro l e W;rw [wrsS,ih,List.length_append];simp;omega
theorem yZ {s:List UInt8} (k:Nat):∀ (a:Nat) (L:List Ent) (x:Nat),unP s k a L=.inl x→(cG k (s.drop a) 0 L).2.2=x:=by
 induction k with
 | zero=>intro a L x h;cases h
 | succ k ih =>
  intro a L x h;obtain ⟨r,j,e1,h1⟩:∃ r j e1,intL (s.drop a) 200=(r,j,e1):=⟨_,_,_,rfl⟩;by_cases he1:e1=0
  ·subst he1;obtain ⟨t,i,e2,h2⟩:∃ t i e2,intL (s.drop (a+j)) 1099511627776=(t,i,e2):=⟨_,_,_,rfl⟩;rw [cG,cP h1,List.drop_drop,cP h2,List.drop_drop];by_cases he2:e2=0
   ·subst he2;rw [m6 h1 h2] at h;exact ih _ _ _ h
   ·rw [oZ h1 h2 he2] at h;injection h with h;subst h;simp only;rw [mX he2]
  ·rw [oY h1 he1] at h;injection h with h;subst h
   rw [cG,cP h1,dG he1];simp only;rw [mX he1]
theorem z6 {s:List UInt8} (k:Nat):∀ (a:Nat) (L M:List Ent) (b:Nat),unP s k a L=.inr (b,M)→cG k (s.drop a) 0 L=(M,s.drop b,0):=by
 induction k with
 | zero=>intro a L M b h;rw [unP] at h;injection h with h;injection h with h1 h2;subst h1 h2;rfl
 | succ k ih =>
  intro a L M b h;obtain ⟨r,j,e1,h1⟩:∃ r j e1,intL (s.drop a) 200=(r,j,e1):=⟨_,_,_,rfl⟩;by_cases he1:e1=0
  ·subst he1;obtain ⟨t,i,e2,h2⟩:∃ t i e2,intL (s.drop (a+j)) 1099511627776=(t,i,e2):=⟨_,_,_,rfl⟩;rw [cG,cP h1,List.drop_drop,cP h2,List.drop_drop];by_cases he2:e2=0
   ·subst he2;rw [m6 h1 h2] at h;exact ih _ _ _ _ h
   ·rw [oZ h1 h2 he2] at h;cases h
  ·rw [oY h1 he1] at h;cases h
theorem vq {s:List UInt8} {a x:Nat} (h:unE s a=.inl x):(vecS (s.drop a) 0).2.2=x:=by
 obtain ⟨k,j,e1,h1⟩:∃ k j e1,intL (s.drop a) 16=(k,j,e1):=⟨_,_,_,rfl⟩;unfold vecS;rw [cP h1,List.drop_drop];by_cases he:e1=0
 ·subst he;rw [m5 h1] at h;exact yZ _ _ _ _ h
 ·rw [oV h1 he] at h;injection h with h;subst h;simp only;rw [mX he]
theorem vu {s:List UInt8} {a b:Nat} {M:List Ent} (h:unE s a=.inr (b,M)):vecS (s.drop a) 0=(M,s.drop b,0):=by
 obtain ⟨k,j,e1,h1⟩:∃ k j e1,intL (s.drop a) 16=(k,j,e1):=⟨_,_,_,rfl⟩;unfold vecS;rw [cP h1,List.drop_drop];by_cases he:e1=0
 ·subst he;rw [m5 h1] at h;exact z6 _ _ _ _ _ h
 ·rw [oV h1 he] at h;cases h
theorem s9 {l:List UInt8} {K j:Nat} (h:ar l=(K,j,0)):j=1:=by
 unfold ar at h;split at h
 ·injection h with _ h;injection h with _ h;cases h
 ·split at h
  ·injection h with _ h;injection h with _ h;cases h
  ·injection h with _ h;injection h with h _;exact h.symm
theorem Gs {s:List UInt8} {a x:Nat} (h:unV s a=.inl x):(wrS (s.drop a) 0).2.2=x:=by
 obtain ⟨K,j,e0,h0⟩:∃ K j e,ar (s.drop a)=(K,j,e):=⟨_,_,_,rfl⟩;by_cases he0:e0=0
 ·subst he0;obtain rfl:=s9 h0;obtain ⟨t,k1,e1,h1⟩:∃ t k e,intL (s.drop (a+1)) 1099511627776=(t,k,e):=⟨_,_,_,rfl⟩;have g0:=kQ h0;rw [List.drop_drop] at g0;by_cases he1:e1=0
  ·subst he1;obtain ⟨r,k2,e2,h2⟩:∃ t k e,intL (s.drop (a+1+k1)) 200=(t,k,e):=⟨_,_,_,rfl⟩;have g1:=cP h1;rw [List.drop_drop] at g1;by_cases he2:e2=0
   ·subst he2;obtain ⟨key,k3,e3,h3⟩:∃ t k e,getS (s.drop (a+1+k1+k2))=(t,k,e):=⟨_,_,_,rfl⟩;have g2:=cP h2;rw [List.drop_drop] at g2;have g3:=oO h3;rw [List.drop_drop] at g3;rw [fK g0 g1 g2 g3];by_cases he3:e3=0
    ·subst he3;by_cases h4:aH t r K ⟨key.toArray⟩ (s.drop (a+1+k1+k2+k3))=0
     ·rw [p8 h0 h1 h2 h3 h4] at h;cases h
     ·rw [uK h0 h1 h2 h3 rfl h4] at h;injection h with h;rw [qR h (by rw [←h];exact h4)]
    ·rw [uL h0 h1 h2 h3 he3] at h;injection h with h;subst h;rw [fY he3]
   ·rw [uO h0 h1 h2 he2] at h;injection h with h;subst h
    rw [fK g0 g1 (cP h2) (jt he2),fY he2]
  ·rw [uP h0 h1 he1] at h;injection h with h;subst h
   rw [fK g0 (cP h1) (dG he1) (jt he1),fY he1]
 ·rw [uM h0 he0] at h;injection h with h;subst h
  rw [fK (kQ h0) (dG he0) (dG he0) (jt he0),fY he0]
theorem vT {s:List UInt8} {a b:Nat} {y:Wr} (h:unV s a=.inr (b,y)):wrS (s.drop a) 0=(y,s.drop b,0):=by
 obtain ⟨K,j,e0,h0⟩:∃ K j e,ar (s.drop a)=(K,j,e):=⟨_,_,_,rfl⟩;by_cases he0:e0=0
 ·subst he0;obtain rfl:=s9 h0;obtain ⟨t,k1,e1,h1⟩:∃ t k e,intL (s.drop (a+1)) 1099511627776=(t,k,e):=⟨_,_,_,rfl⟩;have g0:=kQ h0;rw [List.drop_drop] at g0;by_cases he1:e1=0
  ·subst he1;obtain ⟨r,k2,e2,h2⟩:∃ t k e,intL (s.drop (a+1+k1)) 200=(t,k,e):=⟨_,_,_,rfl⟩;have g1:=cP h1;rw [List.drop_drop] at g1;by_cases he2:e2=0
   ·subst he2;obtain ⟨key,k3,e3,h3⟩:∃ t k e,getS (s.drop (a+1+k1+k2))=(t,k,e):=⟨_,_,_,rfl⟩;have g2:=cP h2;rw [List.drop_drop] at g2;by_cases he3:e3=0
    ·subst he3;have g3:=oO h3;rw [List.drop_drop] at g3;by_cases h4:aH t r K ⟨key.toArray⟩ (s.drop (a+1+k1+k2+k3))=0
     ·rw [p8 h0 h1 h2 h3 h4] at h;injection h with h
      injection h with i1 i2
      rw [fK g0 g1 g2 g3,qS h4,List.drop_drop,i1,i2]
     ·rw [uK h0 h1 h2 h3 rfl h4] at h;cases h
    ·rw [uL h0 h1 h2 h3 he3] at h;cases h
   ·rw [uO h0 h1 h2 he2] at h;cases h
  ·rw [uP h0 h1 he1] at h;cases h
 ·rw [uM h0 he0] at h;cases h
theorem GI {s:List UInt8} (k:Nat):∀ (a:Nat) (W:List Wr) (x:Nat),unVs s k a W=.inl x→(wrsS k (s.drop a) 0 W).2.2=x:=by
 induction k with
 | zero=>intro a W x h;cases h
 | succ k ih =>
  intro a W x h
  match h1:unV s a with
  | .inl e1 =>
   rw [p9 h1] at h;injection h with h;subst h
   have h2:=Gs h1;rw [wrsS,h2,jI (uN h1)]
  | .inr (b,y)=>rw [m8 h1] at h;rw [wrsS,vT h1];exact ih _ _ _ h
theorem GJ {s:List UInt8} (k:Nat):∀ (a:Nat) (W M:List Wr) (b:Nat),unVs s k a W=.inr (b,M)→wrsS k (s.drop a) 0 W=(M,s.drop b,0):=by
 induction k with
 | zero=>intro a W M b h;rw [unVs] at h;injection h with h;injection h with h1 h2;subst h1 h2;rfl
 | succ k ih =>
  intro a W M b h
  match h1:unV s a with
  | .inl e1=>rw [p9 h1] at h;cases h
  | .inr (c,y)=>rw [m8 h1] at h;rw [wrsS,vT h1];exact ih _ _ _ _ h
theorem F5 {s:List UInt8} {f h:List Ent} {W:List Wr} {l1 l2 l3 l4:List UInt8} {e1 e2 e3 e4 k:Nat} (h1:vecS s 0=(f,l1,e1)) (h2:vecS l1 e1=(h,l2,e2)) (h3:numS 60 l2 e2=(k,l3,e3)) (h4:wrsS k l3 e3 []=(W,l4,e4)) :
 unO s=if e4≠0 then .inl e4 else if l4≠[] then .inl 3 else if (batF f h W).1≠0 then .inl (batF f h W).1 else .inr (f,h,W):=by
 match u1:unE s 0 with
 | .inl x =>
  have hx:=m4 u1;have g:=vq u1;rw [List.drop_zero,h1] at g;simp only at g
  subst g;rw [FJ hx] at h2;injection h2 with _ h2;injection h2 with _ h2;subst h2
  rw [dG hx] at h3;injection h3 with _ h3;injection h3 with _ h3;subst h3
  have g4:=jI (l:=l3) hx k [];rw [h4] at g4;injection g4 with _ g4
  rw [uy u1,g4,if_pos hx]
 | .inr (a,f') =>
  have g:=vu u1;rw [List.drop_zero,h1] at g;injection g with g1 g;injection g with g2 g3
  subst g1 g2 g3
  match u2:unE s a with
  | .inl x =>
   have hx:=m4 u2;have g:=vq u2;rw [h2] at g;simp only at g
   subst g;rw [dG hx] at h3;injection h3 with _ h3;injection h3 with _ h3;subst h3
   have g4:=jI (l:=l3) hx k [];rw [h4] at g4;injection g4 with _ g4
   rw [uz u1 u2,g4,if_pos hx]
  | .inr (b,h') =>
   have g:=vu u2;rw [h2] at g;injection g with g1 g;injection g with g2 g3
   subst g1 g2 g3;obtain ⟨k',j,x,u3⟩:∃ k j x,intL (s.drop b) 60=(k,j,x):=⟨_,_,_,rfl⟩;rw [cP u3,List.drop_drop] at h3;injection h3 with i1 h3;injection h3 with i2 i3
   subst i1 i2 i3;by_cases hx:x=0
   ·subst hx
    match u4:unVs s k' (b+j) [] with
    | .inl y =>
     have g:=GI _ _ _ _ u4;rw [h4] at g;simp only at g
     subst g;rw [uC u1 u2 u3 u4,if_pos (uQ _ _ _ _ u4)]
    | .inr (c,W') =>
     have g:=GJ _ _ _ _ _ u4;rw [h4] at g;injection g with i1 g;injection g with i2 i3
     subst i1 i2 i3;rw [oW u1 u2 u3 u4,if_neg (show ¬ (0:Nat)≠0 by simp)];by_cases hc:c<s.length
     ·rw [if_pos hc,if_pos (show s.drop c≠[] by intro e;have:=congrArg List.length e;rw [List.length_drop] at this;simp at this;omega)]
     ·rw [if_neg hc,if_neg (show ¬ s.drop c≠[] by rw [List.drop_of_length_le (by omega)];simp)]
   ·have g4:=jI (l:=s.drop (b+j)) hx k' [];rw [h4] at g4;injection g4 with _ g4
    rw [uB u1 u2 u3 hx,g4,if_pos hx]
