import Derived.Test.YtdhognaoejiglaaGreatDoorKa26
namespace Go.Proofs.YtdhognaoejiglaaGreatDoor
open Lib (hid)
set_option maxRecDepth 100000
set_option maxHeartbeats 8000000
open Go.RowKit
def numS (most:Int) (l:List UInt8) (e:Nat):Nat×List UInt8×Nat:=if e≠0 then (0,l,e) else ((intL l most).1,l.drop (intL l most).2.1,(intL l most).2.2)
def eq (l:List UInt8) (e:Nat):Nat×List UInt8×Nat:=if e≠0 then (0,l,e) else ((ax l).1,l.drop (ax l).2.1,(ax l).2.2)
def dN (l:List UInt8) (e:Nat):List UInt8×List UInt8×Nat:=if e≠0 then ([],l,e) else ((getS l).1,l.drop (getS l).2.1,(getS l).2.2)
def gH:Wr:=⟨0,0,0,⟨#[]⟩,⟨#[]⟩,0⟩
def dH (T R K:Int) (key:ByteArray) (l:List UInt8):Wr×Nat×Nat:=if aJ T R K key l≠0 then (gH,0,aJ T R K key l) else (⟨T,R,K,key,cK K l,(getN K l).1⟩,cT K l,0)
def eO (T R K:Int) (key:ByteArray) (l:List UInt8) (e:Nat):Wr×List UInt8×Nat :=
 if e≠0 then (gH,l,e) else ((dH T R K key l).1,l.drop (dH T R K key l).2.1,(dH T R K key l).2.2)
theorem nQ {T R K:Int} {key:ByteArray} {l:List UInt8} {x:Nat} (h:aJ T R K key l=x) (hx:x≠0):dH T R K key l=(gH,0,x):=by unfold dH;rw [if_pos (by rw [h];exact hx),h]
theorem nR {T R K:Int} {key:ByteArray} {l:List UInt8} (h:aJ T R K key l=0):dH T R K key l=(⟨T,R,K,key,cK K l,(getN K l).1⟩,cT K l,0):=by unfold dH;rw [if_neg (by rw [h];simp)]
theorem nS {T R K:Int} {key:ByteArray} {l:List UInt8} {y:Wr} {k x:Nat} (h:dH T R K key l=(y,k,x)):eO T R K key l 0=(y,l.drop k,x):=by unfold eO;rw [if_neg (by simp),h]
theorem dS {most:Int} {l:List UInt8} {e:Nat} (he:e≠0):numS most l e=(0,l,e):=by unfold numS;rw [if_pos he]
theorem dd {most:Int} {l:List UInt8} {n k x:Nat} (h:intL l most=(n,k,x)):numS most l 0=(n,l.drop k,x):=by unfold numS;rw [if_neg (by simp),h]
theorem sY {l:List UInt8} {e:Nat} (he:e≠0):eq l e=(0,l,e):=by unfold eq;rw [if_pos he]
theorem lB {l:List UInt8} {n k x:Nat} (h:ax l=(n,k,x)):eq l 0=(n,l.drop k,x):=by unfold eq;rw [if_neg (by simp),h]
theorem jU {l:List UInt8} {e:Nat} (he:e≠0):dN l e=([],l,e):=by unfold dN;rw [if_pos he]
theorem ph {l t:List UInt8} {k x:Nat} (h:getS l=(t,k,x)):dN l 0=(t,l.drop k,x):=by unfold dN;rw [if_neg (by simp),h]
theorem gj {T R K:Int} {key:ByteArray} {l:List UInt8} {e:Nat} (he:e≠0):eO T R K key l e=(gH,l,e):=by unfold eO;rw [if_pos he]
theorem rJ {T R K:Int} {key:ByteArray} {l:List UInt8} {x:Nat} (h:aJ T R K key l=x) (hx:x≠0):eO T R K key l 0=(gH,l,x):=by rw [nS (nQ h hx)];rfl
theorem rK {T R K:Int} {key:ByteArray} {l:List UInt8} (h:aJ T R K key l=0):eO T R K key l 0=(⟨T,R,K,key,cK K l,(getN K l).1⟩,l.drop (cT K l),0):=nS (nR h)
theorem zU {T R K:Int} {key:ByteArray} {l:List UInt8} {y:Wr} {k x:Nat} (h:dH T R K key l=(y,k,x)):k≤l.length:=by
 by_cases he:aJ T R K key l=0
 ·rw [nR he] at h;injection h with _ h;injection h with h _;rw [←h];exact (ld he).2.2
 ·rw [nQ rfl he] at h;injection h with _ h;injection h with h _;omega
def cR:Nat→List UInt8→Nat→List Ent→List Ent×List UInt8×Nat
 | 0,l,e,L=>(L,l,e)
 | k + 1, l, e, L => cR k (numS 1099511627776 (numS 200 l e).2.1 (numS 200 l e).2.2).2.1 (numS 1099511627776 (numS 200 l e).2.1 (numS 200 l e).2.2).2.2
     (L++[⟨((numS 200 l e).1:Int),((numS 1099511627776 (numS 200 l e).2.1 (numS 200 l e).2.2).1:Int)⟩])
def vecS (l:List UInt8) (e:Nat):List Ent×List UInt8×Nat:=cR (numS 16 l e).1 (numS 16 l e).2.1 (numS 16 l e).2.2 []
def wrS (l:List UInt8) (e:Nat):Wr×List UInt8×Nat :=
 match eq l e with
 | (K,l1,e1)=>match numS 1099511627776 l1 e1 with
  | (t,l2,e2)=>match numS 200 l2 e2 with
   | (r,l3,e3)=>match dN l3 e3 with
    | (key,l4,e4)=>eO t r K ⟨key.toArray⟩ l4 e4
theorem fW {l l1 l2 l3 l4 key:List UInt8} {e e1 e2 e3 e4 K t r:Nat} (h0:eq l e=(K,l1,e1)) (h1:numS 1099511627776 l1 e1=(t,l2,e2)) (h2:numS 200 l2 e2=(r,l3,e3)) (h3:dN l3 e3=(key,l4,e4)):wrS l e=eO t r K ⟨key.toArray⟩ l4 e4:=by
 unfold wrS;rw [h0];simp only;rw [h1];simp only;rw [h2];simp only;rw [h3]
def wrsS:Nat→List UInt8→Nat→List Wr→List Wr×List UInt8×Nat
 | 0,l,e,W=>(W,l,e)
 | k+1,l,e,W=>wrsS k (wrS l e).2.1 (wrS l e).2.2 (W++[(wrS l e).1])
theorem sH {l:List UInt8} {most:Int} {n k x:Nat} (h:intL l most=(n,k,x)):k≤l.length∧(0≤most→(n:Int)≤most):=by
 rcases bi l most with ⟨e,h1,_⟩ | ⟨n',k',h1,h2,_,_,h3,_⟩
 ·rw [h1] at h;injection h with h2 h;injection h with h3 _;exact ⟨by omega,fun hm=>by omega⟩
 ·rw [h1] at h;injection h with h4 h;injection h with h5 _;exact ⟨by omega,fun _=>by omega⟩
theorem B7 {l:List UInt8} {n k x:Nat} (h:ax l=(n,k,x)):k≤l.length∧n≤4:=by
 unfold ax at h;split at h
 ·injection h with h1 h;injection h with h2 _;exact ⟨by omega,by omega⟩
 ·split at h
  ·injection h with h1 h;injection h with h2 _;exact ⟨by omega,by omega⟩
  ·injection h with h1 h;injection h with h2 _;exact ⟨by rw [←h2];simp,by omega⟩
theorem s8 {l t:List UInt8} {k x:Nat} (h:getS l=(t,k,x)):k≤l.length∧t.length≤2000∧(x≠0→t=[]∧k=0):=by
 by_cases hx:x=0
 ·subst hx;have:=kq h;exact ⟨this.2.1,this.2.2.1,fun h=>absurd rfl h⟩
 ·rcases dO l with ⟨e,hg,he⟩ | ⟨n,j,hg,_⟩
  ·rw [jb hg he] at h;injection h with h1 h;injection h with h2 _;subst h1 h2;simp
  ·by_cases h2:2000<n
   ·rw [jc hg h2] at h;injection h with h1 h;injection h with h2 _;subst h1 h2;simp
   ·by_cases h3:l.length<j+n
    ·rw [jd hg h2 h3] at h;injection h with h1 h;injection h with h2 _;subst h1 h2;simp
    ·rw [gS hg h2 h3] at h;injection h with _ h;injection h with _ h;exact absurd h.symm hx
theorem oF {most:Int} (h:0≤most) (l:List UInt8) (e:Nat):((numS most l e).1:Int)≤most:=by
 unfold numS;split
 ·exact h
 ·exact (sH (n:=(intL l most).1) (k:=(intL l most).2.1) (x:=(intL l most).2.2) rfl).2 h
theorem nO {l:List UInt8} {e:Nat} (he:e≠0):∀ (k:Nat) (L:List Ent),(cR k l e L).2=(l,e):=by
 intro k
 induction k with
 | zero=>intro L;rfl
 | succ k ih=>intro L;rw [cR,dS he,dS he];exact ih _
theorem zM (k:Nat):∀ (l:List UInt8) (e:Nat) (L:List Ent),(cR k l e L).1.length=L.length+k:=by
 induction k with
 | zero=>intro l e L;rfl
 | succ k ih=>intro l e L;rw [cR,ih,List.length_append];simp;omega
theorem wG (l:List UInt8) (e:Nat):(vecS l e).1.length≤16:=by
 unfold vecS;rw [zM];have:=oF (most:=16) (by decide) l e;simp;omega
theorem GI {l:List UInt8} {e:Nat} (he:e≠0):vecS l e=([],l,e):=by unfold vecS;rw [dS he];rfl
theorem Hu {l:List UInt8} {e:Nat} (he:e≠0):wrS l e=(gH,l,e):=by
 rw [fW (sY he) (dS he) (dS he) (jU he),gj he]
theorem kp {l:List UInt8} {e:Nat} (he:e≠0):∀ (k:Nat) (W:List Wr),(wrsS k l e W).2=(l,e):=by
 intro k
 induction k with
 | zero=>intro W;rfl
 | succ k ih=>intro W;rw [wrsS,Hu he];exact ih _
theorem Ib (k:Nat):∀ (l:List UInt8) (e:Nat) (W:List Wr),(wrsS k l e W).1.length=W.length+k:=by
 induction k with
 | zero=>intro l e W;rfl
 | succ k ih=>intro l e W;rw [wrsS,ih,List.length_append];simp;omega
theorem zK {s:List UInt8} (k:Nat):∀ (a:Nat) (L:List Ent) (x:Nat),unP s k a L=.inl x→(cR k (s.drop a) 0 L).2.2=x:=by
 induction k with
 | zero=>intro a L x h;cases h
 | succ k ih =>
  intro a L x h;obtain ⟨r,j,e1,h1⟩:∃ r j e1,intL (s.drop a) 200=(r,j,e1):=⟨_,_,_,rfl⟩;by_cases he1:e1=0
  ·subst he1;obtain ⟨t,i,e2,h2⟩:∃ t i e2,intL (s.drop (a+j)) 1099511627776=(t,i,e2):=⟨_,_,_,rfl⟩;rw [cR,dd h1,List.drop_drop,dd h2,List.drop_drop];by_cases he2:e2=0
   ·subst he2;rw [mC h1 h2] at h;exact ih _ _ _ h
   ·rw [py h1 h2 he2] at h;injection h with h;subst h;simp only;rw [nO he2]
  ·rw [px h1 he1] at h;injection h with h;subst h
   rw [cR,dd h1,dS he1];simp only;rw [nO he1]
theorem zL {s:List UInt8} (k:Nat):∀ (a:Nat) (L M:List Ent) (b:Nat),unP s k a L=.inr (b,M)→cR k (s.drop a) 0 L=(M,s.drop b,0):=by
 induction k with
 | zero=>intro a L M b h;rw [unP] at h;injection h with h;injection h with h1 h2;subst h1 h2;rfl
 | succ k ih =>
  intro a L M b h;obtain ⟨r,j,e1,h1⟩:∃ r j e1,intL (s.drop a) 200=(r,j,e1):=⟨_,_,_,rfl⟩;by_cases he1:e1=0
  ·subst he1;obtain ⟨t,i,e2,h2⟩:∃ t i e2,intL (s.drop (a+j)) 1099511627776=(t,i,e2):=⟨_,_,_,rfl⟩;rw [cR,dd h1,List.drop_drop,dd h2,List.drop_drop];by_cases he2:e2=0
   ·subst he2;rw [mC h1 h2] at h;exact ih _ _ _ _ h
   ·rw [py h1 h2 he2] at h;cases h
  ·rw [px h1 he1] at h;cases h
theorem wD {s:List UInt8} {a x:Nat} (h:unE s a=.inl x):(vecS (s.drop a) 0).2.2=x:=by
 obtain ⟨k,j,e1,h1⟩:∃ k j e1,intL (s.drop a) 16=(k,j,e1):=⟨_,_,_,rfl⟩;unfold vecS;rw [dd h1,List.drop_drop];by_cases he:e1=0
 ·subst he;rw [mB h1] at h;exact zK _ _ _ _ h
 ·rw [pq h1 he] at h;injection h with h;subst h;simp only;rw [nO he]
theorem wF {s:List UInt8} {a b:Nat} {M:List Ent} (h:unE s a=.inr (b,M)):vecS (s.drop a) 0=(M,s.drop b,0):=by
 obtain ⟨k,j,e1,h1⟩:∃ k j e1,intL (s.drop a) 16=(k,j,e1):=⟨_,_,_,rfl⟩;unfold vecS;rw [dd h1,List.drop_drop];by_cases he:e1=0
 ·subst he;rw [mB h1] at h;exact zL _ _ _ _ _ h
 ·rw [pq h1 he] at h;cases h
theorem sX {l:List UInt8} {K j:Nat} (h:ax l=(K,j,0)):j=1:=by
 unfold ax at h;split at h
 ·injection h with _ h;injection h with _ h;cases h
 ·split at h
  ·injection h with _ h;injection h with _ h;cases h
  ·injection h with _ h;injection h with h _;exact h.symm
theorem Ht {s:List UInt8} {a x:Nat} (h:unV s a=.inl x):(wrS (s.drop a) 0).2.2=x:=by
 obtain ⟨K,j,e0,h0⟩:∃ K j e,ax (s.drop a)=(K,j,e):=⟨_,_,_,rfl⟩;by_cases he0:e0=0
 ·subst he0;obtain rfl:=sX h0;obtain ⟨t,k1,e1,h1⟩:∃ t k e,intL (s.drop (a+1)) 1099511627776=(t,k,e):=⟨_,_,_,rfl⟩;have g0:=lB h0;rw [List.drop_drop] at g0;by_cases he1:e1=0
  ·subst he1;obtain ⟨r,k2,e2,h2⟩:∃ t k e,intL (s.drop (a+1+k1)) 200=(t,k,e):=⟨_,_,_,rfl⟩;have g1:=dd h1;rw [List.drop_drop] at g1;by_cases he2:e2=0
   ·subst he2;obtain ⟨key,k3,e3,h3⟩:∃ t k e,getS (s.drop (a+1+k1+k2))=(t,k,e):=⟨_,_,_,rfl⟩;have g2:=dd h2;rw [List.drop_drop] at g2;have g3:=ph h3;rw [List.drop_drop] at g3;rw [fW g0 g1 g2 g3];by_cases he3:e3=0
    ·subst he3;by_cases h4:aJ t r K ⟨key.toArray⟩ (s.drop (a+1+k1+k2+k3))=0
     ·rw [pB h0 h1 h2 h3 h4] at h;cases h
     ·rw [vU h0 h1 h2 h3 rfl h4] at h;injection h with h;rw [rJ h (by rw [←h];exact h4)]
    ·rw [vV h0 h1 h2 h3 he3] at h;injection h with h;subst h;rw [gj he3]
   ·rw [vY h0 h1 h2 he2] at h;injection h with h;subst h
    rw [fW g0 g1 (dd h2) (jU he2),gj he2]
  ·rw [vZ h0 h1 he1] at h;injection h with h;subst h
   rw [fW g0 (dd h1) (dS he1) (jU he1),gj he1]
 ·rw [vW h0 he0] at h;injection h with h;subst h
  rw [fW (lB h0) (dS he0) (dS he0) (jU he0),gj he0]
theorem x4 {s:List UInt8} {a b:Nat} {y:Wr} (h:unV s a=.inr (b,y)):wrS (s.drop a) 0=(y,s.drop b,0):=by
 obtain ⟨K,j,e0,h0⟩:∃ K j e,ax (s.drop a)=(K,j,e):=⟨_,_,_,rfl⟩;by_cases he0:e0=0
 ·subst he0;obtain rfl:=sX h0;obtain ⟨t,k1,e1,h1⟩:∃ t k e,intL (s.drop (a+1)) 1099511627776=(t,k,e):=⟨_,_,_,rfl⟩;have g0:=lB h0;rw [List.drop_drop] at g0;by_cases he1:e1=0
  ·subst he1;obtain ⟨r,k2,e2,h2⟩:∃ t k e,intL (s.drop (a+1+k1)) 200=(t,k,e):=⟨_,_,_,rfl⟩;have g1:=dd h1;rw [List.drop_drop] at g1;by_cases he2:e2=0
   ·subst he2;obtain ⟨key,k3,e3,h3⟩:∃ t k e,getS (s.drop (a+1+k1+k2))=(t,k,e):=⟨_,_,_,rfl⟩;have g2:=dd h2;rw [List.drop_drop] at g2;by_cases he3:e3=0
    ·subst he3;have g3:=ph h3;rw [List.drop_drop] at g3;by_cases h4:aJ t r K ⟨key.toArray⟩ (s.drop (a+1+k1+k2+k3))=0
     ·rw [pB h0 h1 h2 h3 h4] at h;injection h with h
      injection h with i1 i2
      rw [fW g0 g1 g2 g3,rK h4,List.drop_drop,i1,i2]
     ·rw [vU h0 h1 h2 h3 rfl h4] at h;cases h
    ·rw [vV h0 h1 h2 h3 he3] at h;cases h
   ·rw [vY h0 h1 h2 he2] at h;cases h
  ·rw [vZ h0 h1 he1] at h;cases h
 ·rw [vW h0 he0] at h;cases h
theorem I9 {s:List UInt8} (k:Nat):∀ (a:Nat) (W:List Wr) (x:Nat),unVs s k a W=.inl x→(wrsS k (s.drop a) 0 W).2.2=x:=by
 induction k with
 | zero=>intro a W x h;cases h
 | succ k ih =>
  intro a W x h
  match h1:unV s a with
  | .inl e1 =>
   rw [pC h1] at h;injection h with h;subst h
   have h2:=Ht h1;rw [wrsS,h2,kp (vX h1)]
  | .inr (b,y)=>rw [mF h1] at h;rw [wrsS,x4 h1];exact ih _ _ _ h
theorem Ia {s:List UInt8} (k:Nat):∀ (a:Nat) (W M:List Wr) (b:Nat),unVs s k a W=.inr (b,M)→wrsS k (s.drop a) 0 W=(M,s.drop b,0):=by
 induction k with
 | zero=>intro a W M b h;rw [unVs] at h;injection h with h;injection h with h1 h2;subst h1 h2;rfl
 | succ k ih =>
  intro a W M b h
  match h1:unV s a with
  | .inl e1=>rw [pC h1] at h;cases h
  | .inr (c,y)=>rw [mF h1] at h;rw [wrsS,x4 h1];exact ih _ _ _ _ h
theorem G7 {s:List UInt8} {f h:List Ent} {W:List Wr} {l1 l2 l3 l4:List UInt8} {e1 e2 e3 e4 k:Nat} (h1:vecS s 0=(f,l1,e1)) (h2:vecS l1 e1=(h,l2,e2)) (h3:numS 60 l2 e2=(k,l3,e3)) (h4:wrsS k l3 e3 []=(W,l4,e4)) :
 unO s=if e4≠0 then .inl e4 else if l4≠[] then .inl 3 else if (batF f h W).1≠0 then .inl (batF f h W).1 else .inr (f,h,W):=by
 match u1:unE s 0 with
 | .inl x =>
  have hx:=mz u1;have g:=wD u1;rw [List.drop_zero,h1] at g;simp only at g
  subst g;rw [GI hx] at h2;injection h2 with _ h2;injection h2 with _ h2;subst h2
  rw [dS hx] at h3;injection h3 with _ h3;injection h3 with _ h3;subst h3
  have g4:=kp (l:=l3) hx k [];rw [h4] at g4;injection g4 with _ g4
  rw [vJ u1,g4,if_pos hx]
 | .inr (a,f') =>
  have g:=wF u1;rw [List.drop_zero,h1] at g;injection g with g1 g;injection g with g2 g3
  subst g1 g2 g3
  match u2:unE s a with
  | .inl x =>
   have hx:=mz u2;have g:=wD u2;rw [h2] at g;simp only at g
   subst g;rw [dS hx] at h3;injection h3 with _ h3;injection h3 with _ h3;subst h3
   have g4:=kp (l:=l3) hx k [];rw [h4] at g4;injection g4 with _ g4
   rw [vK u1 u2,g4,if_pos hx]
  | .inr (b,h') =>
   have g:=wF u2;rw [h2] at g;injection g with g1 g;injection g with g2 g3
   subst g1 g2 g3;obtain ⟨k',j,x,u3⟩:∃ k j x,intL (s.drop b) 60=(k,j,x):=⟨_,_,_,rfl⟩;rw [dd u3,List.drop_drop] at h3;injection h3 with i1 h3;injection h3 with i2 i3
   subst i1 i2 i3;by_cases hx:x=0
   ·subst hx
    match u4:unVs s k' (b+j) [] with
    | .inl y =>
     have g:=I9 _ _ _ _ u4;rw [h4] at g;simp only at g
     subst g;rw [vM u1 u2 u3 u4,if_pos (wb _ _ _ _ u4)]
    | .inr (c,W') =>
     have g:=Ia _ _ _ _ _ u4;rw [h4] at g;injection g with i1 g;injection g with i2 i3
     subst i1 i2 i3;rw [pu u1 u2 u3 u4,if_neg (show ¬ (0:Nat)≠0 by simp)];by_cases hc:c<s.length
     ·rw [if_pos hc,if_pos (show s.drop c≠[] by intro e;have:=congrArg List.length e;rw [List.length_drop] at this;simp at this;omega)]
     ·rw [if_neg hc,if_neg (show ¬ s.drop c≠[] by rw [List.drop_of_length_le (by omega)];simp)]
   ·have g4:=kp (l:=s.drop (b+j)) hx k' [];rw [h4] at g4;injection g4 with _ g4
    rw [vL u1 u2 u3 hx,g4,if_pos hx]
