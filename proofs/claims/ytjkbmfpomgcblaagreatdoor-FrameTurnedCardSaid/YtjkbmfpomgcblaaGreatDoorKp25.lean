import Derived.Test.YtjkbmfpomgcblaaGreatDoorKp24
namespace Go.Proofs.YtjkbmfpomgcblaaGreatDoor
open Go.RowKit
def numS (most:Int) (l:List UInt8) (e:Nat):Nat×List UInt8×Nat:=if e≠0 then (0,l,e) else ((intL l most).1,l.drop (intL l most).2.1,(intL l most).2.2)
def kindS (l:List UInt8) (e:Nat):Nat×List UInt8×Nat:=if e≠0 then (0,l,e) else ((kindF l).1,l.drop (kindF l).2.1,(kindF l).2.2)
def textS (l:List UInt8) (e:Nat):List UInt8×List UInt8×Nat:=if e≠0 then ([],l,e) else ((getS l).1,l.drop (getS l).2.1,(getS l).2.2)
def zeroR:Wr:=⟨0,0,0,⟨#[]⟩,⟨#[]⟩,0⟩
def fillR (T R K:Int) (key:ByteArray) (l:List UInt8):Wr×Nat×Nat:=if fillE T R K key l≠0 then (zeroR,0,fillE T R K key l) else (⟨T,R,K,key,fillV K l,(getN K l).1⟩,fillN K l,0)
def fillS (T R K:Int) (key:ByteArray) (l:List UInt8) (e:Nat):Wr×List UInt8×Nat :=
 if e≠0 then (zeroR,l,e) else ((fillR T R K key l).1,l.drop (fillR T R K key l).2.1,(fillR T R K key l).2.2)
theorem fillR_bad {T R K:Int} {key:ByteArray} {l:List UInt8} {x:Nat} (h:fillE T R K key l=x) (hx:x≠0):fillR T R K key l=(zeroR,0,x):=by unfold fillR;rw [if_pos (by rw [h];exact hx),h]
theorem fillR_ok {T R K:Int} {key:ByteArray} {l:List UInt8} (h:fillE T R K key l=0):fillR T R K key l=(⟨T,R,K,key,fillV K l,(getN K l).1⟩,fillN K l,0):=by unfold fillR;rw [if_neg (by rw [h];simp)]
theorem fillS_go {T R K:Int} {key:ByteArray} {l:List UInt8} {y:Wr} {k x:Nat} (h:fillR T R K key l=(y,k,x)):fillS T R K key l 0=(y,l.drop k,x):=by unfold fillS;rw [if_neg (by simp),h]
theorem numS_skip {most:Int} {l:List UInt8} {e:Nat} (he:e≠0):numS most l e=(0,l,e):=by unfold numS;rw [if_pos he]
theorem numS_go {most:Int} {l:List UInt8} {n k x:Nat} (h:intL l most=(n,k,x)):numS most l 0=(n,l.drop k,x):=by unfold numS;rw [if_neg (by simp),h]
theorem kindS_skip {l:List UInt8} {e:Nat} (he:e≠0):kindS l e=(0,l,e):=by unfold kindS;rw [if_pos he]
theorem kindS_go {l:List UInt8} {n k x:Nat} (h:kindF l=(n,k,x)):kindS l 0=(n,l.drop k,x):=by unfold kindS;rw [if_neg (by simp),h]
theorem textS_skip {l:List UInt8} {e:Nat} (he:e≠0):textS l e=([],l,e):=by unfold textS;rw [if_pos he]
theorem textS_go {l t:List UInt8} {k x:Nat} (h:getS l=(t,k,x)):textS l 0=(t,l.drop k,x):=by unfold textS;rw [if_neg (by simp),h]
theorem fillS_skip {T R K:Int} {key:ByteArray} {l:List UInt8} {e:Nat} (he:e≠0):fillS T R K key l e=(zeroR,l,e):=by unfold fillS;rw [if_pos he]
theorem fillS_bad {T R K:Int} {key:ByteArray} {l:List UInt8} {x:Nat} (h:fillE T R K key l=x) (hx:x≠0):fillS T R K key l 0=(zeroR,l,x):=by rw [fillS_go (fillR_bad h hx)];rfl
theorem fillS_ok {T R K:Int} {key:ByteArray} {l:List UInt8} (h:fillE T R K key l=0):fillS T R K key l 0=(⟨T,R,K,key,fillV K l,(getN K l).1⟩,l.drop (fillN K l),0):=fillS_go (fillR_ok h)
theorem fillR_fit {T R K:Int} {key:ByteArray} {l:List UInt8} {y:Wr} {k x:Nat} (h:fillR T R K key l=(y,k,x)):k≤l.length:=by
 by_cases he:fillE T R K key l=0
 · rw [fillR_ok he] at h;injection h with _ h;injection h with h _;rw [←h];exact (fill_only he).2.2
 · rw [fillR_bad rfl he] at h;injection h with _ h;injection h with h _;omega
def entsS:Nat→List UInt8→Nat→List Ent→List Ent×List UInt8×Nat
 | 0,l,e,L=>(L,l,e)
 | k + 1, l, e, L => entsS k (numS 1099511627776 (numS 200 l e).2.1 (numS 200 l e).2.2).2.1 (numS 1099511627776 (numS 200 l e).2.1 (numS 200 l e).2.2).2.2
     (L ++ [⟨((numS 200 l e).1:Int),((numS 1099511627776 (numS 200 l e).2.1 (numS 200 l e).2.2).1:Int)⟩])
def vecS (l:List UInt8) (e:Nat):List Ent×List UInt8×Nat:=entsS (numS 16 l e).1 (numS 16 l e).2.1 (numS 16 l e).2.2 []
def wrS (l:List UInt8) (e:Nat):Wr×List UInt8×Nat :=
 match kindS l e with
 | (K,l1,e1)=>match numS 1099511627776 l1 e1 with
   | (t,l2,e2)=>match numS 200 l2 e2 with
     | (r,l3,e3)=>match textS l3 e3 with
       | (key,l4,e4)=>fillS t r K ⟨key.toArray⟩ l4 e4
theorem wrS_of {l l1 l2 l3 l4 key:List UInt8} {e e1 e2 e3 e4 K t r:Nat} (h0:kindS l e=(K,l1,e1)) (h1:numS 1099511627776 l1 e1=(t,l2,e2)) (h2:numS 200 l2 e2=(r,l3,e3)) (h3:textS l3 e3=(key,l4,e4)):wrS l e=fillS t r K ⟨key.toArray⟩ l4 e4:=by
 unfold wrS;rw [h0];simp only;rw [h1];simp only;rw [h2];simp only;rw [h3]
def wrsS:Nat→List UInt8→Nat→List Wr→List Wr×List UInt8×Nat
 | 0,l,e,W=>(W,l,e)
 | k + 1,l,e,W=>wrsS k (wrS l e).2.1 (wrS l e).2.2 (W ++ [(wrS l e).1])
theorem intL_fit {l:List UInt8} {most:Int} {n k x:Nat} (h:intL l most=(n,k,x)):k≤l.length∧(0≤most→(n:Int)≤most):=by
 rcases intL_cases l most with ⟨e,h1,_⟩ | ⟨n',k',h1,h2,_,_,h3,_⟩
 · rw [h1] at h;injection h with h2 h;injection h with h3 _;exact ⟨by omega,fun hm=>by omega⟩
 · rw [h1] at h;injection h with h4 h;injection h with h5 _;exact ⟨by omega,fun _=>by omega⟩
theorem kindF_fit {l:List UInt8} {n k x:Nat} (h:kindF l=(n,k,x)):k≤l.length∧n≤4:=by
 unfold kindF at h
 split at h
 · injection h with h1 h;injection h with h2 _;exact ⟨by omega,by omega⟩
 · split at h
   · injection h with h1 h;injection h with h2 _;exact ⟨by omega,by omega⟩
   · injection h with h1 h;injection h with h2 _;exact ⟨by rw [←h2];simp,by omega⟩
theorem getS_fit {l t:List UInt8} {k x:Nat} (h:getS l=(t,k,x)):k≤l.length∧t.length≤2000∧(x≠0→t=[]∧k=0):=by
 by_cases hx:x=0
 · subst hx
   have:=wspan_only h
   exact ⟨this.2.1,this.2.2.1,fun h=>absurd rfl h⟩
 · rcases getL_cases l with ⟨e,hg,he⟩ | ⟨n,j,hg,_⟩
   · rw [getS_bad hg he] at h;injection h with h1 h;injection h with h2 _;subst h1 h2;simp
   · by_cases h2:2000 < n
     · rw [getS_big hg h2] at h;injection h with h1 h;injection h with h2 _;subst h1 h2;simp
     · by_cases h3:l.length < j + n
       · rw [getS_miss hg h2 h3] at h;injection h with h1 h;injection h with h2 _;subst h1 h2;simp
       · rw [getS_ok hg h2 h3] at h;injection h with _ h;injection h with _ h;exact absurd h.symm hx
theorem numS_most {most:Int} (h:0≤most) (l:List UInt8) (e:Nat):((numS most l e).1:Int)≤most:=by
 unfold numS;split
 · exact h
 · exact (intL_fit (n:=(intL l most).1) (k:=(intL l most).2.1) (x:=(intL l most).2.2) rfl).2 h
theorem entsS_skip {l:List UInt8} {e:Nat} (he:e≠0):∀ (k:Nat) (L:List Ent),(entsS k l e L).2=(l,e):=by
 intro k
 induction k with
 | zero=>intro L;rfl
 | succ k ih=>intro L;rw [entsS,numS_skip he,numS_skip he];exact ih _
theorem entsS_len (k:Nat):∀ (l:List UInt8) (e:Nat) (L:List Ent),(entsS k l e L).1.length=L.length + k:=by
 induction k with
 | zero=>intro l e L;rfl
 | succ k ih=>intro l e L;rw [entsS,ih,List.length_append];simp;omega
theorem vecS_len (l:List UInt8) (e:Nat):(vecS l e).1.length≤16:=by
 unfold vecS;rw [entsS_len]
 have:=numS_most (most:=16) (by decide) l e
 simp;omega
theorem vecS_skip {l:List UInt8} {e:Nat} (he:e≠0):vecS l e=([],l,e):=by unfold vecS;rw [numS_skip he];rfl
theorem wrS_skip {l:List UInt8} {e:Nat} (he:e≠0):wrS l e=(zeroR,l,e):=by
 rw [wrS_of (kindS_skip he) (numS_skip he) (numS_skip he) (textS_skip he),fillS_skip he]
theorem wrsS_skip {l:List UInt8} {e:Nat} (he:e≠0):∀ (k:Nat) (W:List Wr),(wrsS k l e W).2=(l,e):=by
 intro k
 induction k with
 | zero=>intro W;rfl
 | succ k ih=>intro W;rw [wrsS,wrS_skip he];exact ih _
theorem wrsS_len (k:Nat):∀ (l:List UInt8) (e:Nat) (W:List Wr),(wrsS k l e W).1.length=W.length + k:=by
 induction k with
 | zero=>intro l e W;rfl
 | succ k ih=>intro l e W;rw [wrsS,ih,List.length_append];simp;omega
theorem entsS_bad {s:List UInt8} (k:Nat):∀ (a:Nat) (L:List Ent) (x:Nat),unP s k a L=.inl x→(entsS k (s.drop a) 0 L).2.2=x:=by
 induction k with
 | zero=>intro a L x h;cases h
 | succ k ih =>
   intro a L x h
   obtain ⟨r,j,e1,h1⟩:∃ r j e1,intL (s.drop a) 200=(r,j,e1):=⟨_,_,_,rfl⟩
   by_cases he1:e1=0
   · subst he1
     obtain ⟨t,i,e2,h2⟩:∃ t i e2,intL (s.drop (a + j)) 1099511627776=(t,i,e2):=⟨_,_,_,rfl⟩
     rw [entsS,numS_go h1,List.drop_drop,numS_go h2,List.drop_drop]
     by_cases he2:e2=0
     · subst he2;rw [unP_ok h1 h2] at h;exact ih _ _ _ h
     · rw [unP_time h1 h2 he2] at h;injection h with h;subst h;simp only;rw [entsS_skip he2]
   · rw [unP_rep h1 he1] at h;injection h with h;subst h
     rw [entsS,numS_go h1,numS_skip he1];simp only;rw [entsS_skip he1]
theorem entsS_good {s:List UInt8} (k:Nat):∀ (a:Nat) (L M:List Ent) (b:Nat),unP s k a L=.inr (b,M)→entsS k (s.drop a) 0 L=(M,s.drop b,0):=by
 induction k with
 | zero=>intro a L M b h;rw [unP] at h;injection h with h;injection h with h1 h2;subst h1 h2;rfl
 | succ k ih =>
   intro a L M b h
   obtain ⟨r,j,e1,h1⟩:∃ r j e1,intL (s.drop a) 200=(r,j,e1):=⟨_,_,_,rfl⟩
   by_cases he1:e1=0
   · subst he1
     obtain ⟨t,i,e2,h2⟩:∃ t i e2,intL (s.drop (a + j)) 1099511627776=(t,i,e2):=⟨_,_,_,rfl⟩
     rw [entsS,numS_go h1,List.drop_drop,numS_go h2,List.drop_drop]
     by_cases he2:e2=0
     · subst he2;rw [unP_ok h1 h2] at h;exact ih _ _ _ _ h
     · rw [unP_time h1 h2 he2] at h;cases h
   · rw [unP_rep h1 he1] at h;cases h
theorem vecS_bad {s:List UInt8} {a x:Nat} (h:unE s a=.inl x):(vecS (s.drop a) 0).2.2=x:=by
 obtain ⟨k,j,e1,h1⟩:∃ k j e1,intL (s.drop a) 16=(k,j,e1):=⟨_,_,_,rfl⟩
 unfold vecS
 rw [numS_go h1,List.drop_drop]
 by_cases he:e1=0
 · subst he;rw [unE_ok h1] at h;exact entsS_bad _ _ _ _ h
 · rw [unE_bad h1 he] at h;injection h with h;subst h;simp only;rw [entsS_skip he]
theorem vecS_good {s:List UInt8} {a b:Nat} {M:List Ent} (h:unE s a=.inr (b,M)):vecS (s.drop a) 0=(M,s.drop b,0):=by
 obtain ⟨k,j,e1,h1⟩:∃ k j e1,intL (s.drop a) 16=(k,j,e1):=⟨_,_,_,rfl⟩
 unfold vecS
 rw [numS_go h1,List.drop_drop]
 by_cases he:e1=0
 · subst he;rw [unE_ok h1] at h;exact entsS_good _ _ _ _ _ h
 · rw [unE_bad h1 he] at h;cases h
theorem kindF_one {l:List UInt8} {K j:Nat} (h:kindF l=(K,j,0)):j=1:=by
 unfold kindF at h
 split at h
 · injection h with _ h;injection h with _ h;cases h
 · split at h
   · injection h with _ h;injection h with _ h;cases h
   · injection h with _ h;injection h with h _;exact h.symm
theorem wrS_bad {s:List UInt8} {a x:Nat} (h:unV s a=.inl x):(wrS (s.drop a) 0).2.2=x:=by
 obtain ⟨K,j,e0,h0⟩:∃ K j e,kindF (s.drop a)=(K,j,e):=⟨_,_,_,rfl⟩
 by_cases he0:e0=0
 · subst he0
   obtain rfl:=kindF_one h0
   obtain ⟨t,k1,e1,h1⟩:∃ t k e,intL (s.drop (a + 1)) 1099511627776=(t,k,e):=⟨_,_,_,rfl⟩
   have g0:=kindS_go h0
   rw [List.drop_drop] at g0
   by_cases he1:e1=0
   · subst he1
     obtain ⟨r,k2,e2,h2⟩:∃ t k e,intL (s.drop (a + 1 + k1)) 200=(t,k,e):=⟨_,_,_,rfl⟩
     have g1:=numS_go h1
     rw [List.drop_drop] at g1
     by_cases he2:e2=0
     · subst he2
       obtain ⟨key,k3,e3,h3⟩:∃ t k e,getS (s.drop (a + 1 + k1 + k2))=(t,k,e):=⟨_,_,_,rfl⟩
       have g2:=numS_go h2
       rw [List.drop_drop] at g2
       have g3:=textS_go h3
       rw [List.drop_drop] at g3
       rw [wrS_of g0 g1 g2 g3]
       by_cases he3:e3=0
       · subst he3
         by_cases h4:fillE t r K ⟨key.toArray⟩ (s.drop (a + 1 + k1 + k2 + k3))=0
         · rw [unV_ok h0 h1 h2 h3 h4] at h;cases h
         · rw [unV_fill h0 h1 h2 h3 rfl h4] at h;injection h with h;rw [fillS_bad h (by rw [←h];exact h4)]
       · rw [unV_key h0 h1 h2 h3 he3] at h;injection h with h;subst h;rw [fillS_skip he3]
     · rw [unV_rep h0 h1 h2 he2] at h;injection h with h;subst h
       rw [wrS_of g0 g1 (numS_go h2) (textS_skip he2),fillS_skip he2]
   · rw [unV_time h0 h1 he1] at h;injection h with h;subst h
     rw [wrS_of g0 (numS_go h1) (numS_skip he1) (textS_skip he1),fillS_skip he1]
 · rw [unV_kind h0 he0] at h;injection h with h;subst h
   rw [wrS_of (kindS_go h0) (numS_skip he0) (numS_skip he0) (textS_skip he0),fillS_skip he0]
theorem wrS_good {s:List UInt8} {a b:Nat} {y:Wr} (h:unV s a=.inr (b,y)):wrS (s.drop a) 0=(y,s.drop b,0):=by
 obtain ⟨K,j,e0,h0⟩:∃ K j e,kindF (s.drop a)=(K,j,e):=⟨_,_,_,rfl⟩
 by_cases he0:e0=0
 · subst he0
   obtain rfl:=kindF_one h0
   obtain ⟨t,k1,e1,h1⟩:∃ t k e,intL (s.drop (a + 1)) 1099511627776=(t,k,e):=⟨_,_,_,rfl⟩
   have g0:=kindS_go h0
   rw [List.drop_drop] at g0
   by_cases he1:e1=0
   · subst he1
     obtain ⟨r,k2,e2,h2⟩:∃ t k e,intL (s.drop (a + 1 + k1)) 200=(t,k,e):=⟨_,_,_,rfl⟩
     have g1:=numS_go h1
     rw [List.drop_drop] at g1
     by_cases he2:e2=0
     · subst he2
       obtain ⟨key,k3,e3,h3⟩:∃ t k e,getS (s.drop (a + 1 + k1 + k2))=(t,k,e):=⟨_,_,_,rfl⟩
       have g2:=numS_go h2
       rw [List.drop_drop] at g2
       by_cases he3:e3=0
       · subst he3
         have g3:=textS_go h3
         rw [List.drop_drop] at g3
         by_cases h4:fillE t r K ⟨key.toArray⟩ (s.drop (a + 1 + k1 + k2 + k3))=0
         · rw [unV_ok h0 h1 h2 h3 h4] at h
           injection h with h
           injection h with i1 i2
           rw [wrS_of g0 g1 g2 g3,fillS_ok h4,List.drop_drop,i1,i2]
         · rw [unV_fill h0 h1 h2 h3 rfl h4] at h;cases h
       · rw [unV_key h0 h1 h2 h3 he3] at h;cases h
     · rw [unV_rep h0 h1 h2 he2] at h;cases h
   · rw [unV_time h0 h1 he1] at h;cases h
 · rw [unV_kind h0 he0] at h;cases h
theorem wrsS_bad {s:List UInt8} (k:Nat):∀ (a:Nat) (W:List Wr) (x:Nat),unVs s k a W=.inl x→(wrsS k (s.drop a) 0 W).2.2=x:=by
 induction k with
 | zero=>intro a W x h;cases h
 | succ k ih =>
   intro a W x h
   match h1:unV s a with
   | .inl e1 =>
     rw [unVs_bad h1] at h;injection h with h;subst h
     have h2:=wrS_bad h1
     rw [wrsS,h2,wrsS_skip (unV_ne h1)]
   | .inr (b,y)=>rw [unVs_ok h1] at h;rw [wrsS,wrS_good h1];exact ih _ _ _ h
theorem wrsS_good {s:List UInt8} (k:Nat):∀ (a:Nat) (W M:List Wr) (b:Nat),unVs s k a W=.inr (b,M)→wrsS k (s.drop a) 0 W=(M,s.drop b,0):=by
 induction k with
 | zero=>intro a W M b h;rw [unVs] at h;injection h with h;injection h with h1 h2;subst h1 h2;rfl
 | succ k ih =>
   intro a W M b h
   match h1:unV s a with
   | .inl e1=>rw [unVs_bad h1] at h;cases h
   | .inr (c,y)=>rw [unVs_ok h1] at h;rw [wrsS,wrS_good h1];exact ih _ _ _ _ h
theorem unO_parts {s:List UInt8} {f h:List Ent} {W:List Wr} {l1 l2 l3 l4:List UInt8} {e1 e2 e3 e4 k:Nat} (h1:vecS s 0=(f,l1,e1)) (h2:vecS l1 e1=(h,l2,e2)) (h3:numS 60 l2 e2=(k,l3,e3)) (h4:wrsS k l3 e3 []=(W,l4,e4)) :
   unO s=if e4≠0 then .inl e4 else if l4≠[] then .inl 3 else if (batF f h W).1≠0 then .inl (batF f h W).1 else .inr (f,h,W):=by
 match u1:unE s 0 with
 | .inl x =>
   have hx:=unE_ne u1
   have g:=vecS_bad u1
   rw [List.drop_zero,h1] at g
   simp only at g
   subst g
   rw [vecS_skip hx] at h2
   injection h2 with _ h2;injection h2 with _ h2;subst h2
   rw [numS_skip hx] at h3
   injection h3 with _ h3;injection h3 with _ h3;subst h3
   have g4:=wrsS_skip (l:=l3) hx k []
   rw [h4] at g4
   injection g4 with _ g4
   rw [unO_from u1,g4,if_pos hx]
 | .inr (a,f') =>
   have g:=vecS_good u1
   rw [List.drop_zero,h1] at g
   injection g with g1 g;injection g with g2 g3
   subst g1 g2 g3
   match u2:unE s a with
   | .inl x =>
     have hx:=unE_ne u2
     have g:=vecS_bad u2
     rw [h2] at g
     simp only at g
     subst g
     rw [numS_skip hx] at h3
     injection h3 with _ h3;injection h3 with _ h3;subst h3
     have g4:=wrsS_skip (l:=l3) hx k []
     rw [h4] at g4
     injection g4 with _ g4
     rw [unO_have u1 u2,g4,if_pos hx]
   | .inr (b,h') =>
     have g:=vecS_good u2
     rw [h2] at g
     injection g with g1 g;injection g with g2 g3
     subst g1 g2 g3
     obtain ⟨k',j,x,u3⟩:∃ k j x,intL (s.drop b) 60=(k,j,x):=⟨_,_,_,rfl⟩
     rw [numS_go u3,List.drop_drop] at h3
     injection h3 with i1 h3;injection h3 with i2 i3
     subst i1 i2 i3
     by_cases hx:x=0
     · subst hx
       match u4:unVs s k' (b + j) [] with
       | .inl y =>
         have g:=wrsS_bad _ _ _ _ u4
         rw [h4] at g
         simp only at g
         subst g
         rw [unO_write1 u1 u2 u3 u4,if_pos (unVs_ne _ _ _ _ u4)]
       | .inr (c,W') =>
         have g:=wrsS_good _ _ _ _ _ u4
         rw [h4] at g
         injection g with i1 g;injection g with i2 i3
         subst i1 i2 i3
         rw [unO_rest u1 u2 u3 u4,if_neg (show ¬ (0:Nat)≠0 by simp)]
         by_cases hc:c < s.length
         · rw [if_pos hc,if_pos (show s.drop c≠[] by intro e;have:=congrArg List.length e;rw [List.length_drop] at this;simp at this;omega)]
         · rw [if_neg hc,if_neg (show ¬ s.drop c≠[] by rw [List.drop_of_length_le (by omega)];simp)]
     · have g4:=wrsS_skip (l:=s.drop (b + j)) hx k' []
       rw [h4] at g4
       injection g4 with _ g4
       rw [unO_many u1 u2 u3 hx,g4,if_pos hx]
end Go.Proofs.YtjkbmfpomgcblaaGreatDoor
namespace Go.Proofs.YtjkbmfpomgcblaaGreatDoor
open Go.RowKit
theorem idxB_0 (x y:Value) (w:World):(Instr.index 183 (.agg #[x,y]) (.int .i64 0)).run Tryz.prog w=.ok x w:=by kernel_rfl
theorem idxB_1 (x y:Value) (w:World):(Instr.index 183 (.agg #[x,y]) (.int .i64 1)).run Tryz.prog w=.ok y w:=by kernel_rfl
theorem bcov_as (va vb:Value) (a b:List Ent) (x:Bool) (w:World) (ha:IsEnts w va a) (hb:IsEnts w vb b) (hla:a.length≤9223372036854775807) (hlb:b.length≤9223372036854775807) (hx:covB a b=x) :
   Calls Tryz.prog 144 #[va,vb] w fun r w'=>r=.returned (.bool x)∧Below w.heap.size w w':=by
 subst hx;exact vcov_any va vb a b w ha hb hla hlb
set_option maxRecDepth 100000 in
set_option maxHeartbeats 4000000 in
theorem bbounds_any (vf vh vw:Value) (f h:List Ent) (l:List Wr) (w:World) (hf:IsEnts w vf f) (hh:IsEnts w vh h) (hv:IsWrs w vw l) (hlf:f.length≤9223372036854775807) (hlh:h.length≤9223372036854775807) (hg:errT w) :
   Calls Tryz.prog 90 #[.agg #[vf,vh,vw]] w fun r w'=>r=.returned (errV (bbE f h))∧Below w.heap.size w w':=by
 have HF:=Lib.hid hf
 have HH:=Lib.hid hh
 have HG:=Lib.hid hg
 have HLF:=Lib.hid hlf
 have HLH:=Lib.hid hlh
 obtain ⟨af,cf,rfl,_⟩:=hf.form
 obtain ⟨ah,ch,rfl,_⟩:=hh.form
 obtain ⟨aw,cw,rfl,_⟩:=hv.form
 obtain ⟨nf,hnf⟩:∃ n,n=f.length:=⟨_,rfl⟩
 obtain ⟨nh,hnh⟩:∃ n,n=h.length:=⟨_,rfl⟩
 obtain ⟨n,hn⟩:∃ n,n=l.length:=⟨_,rfl⟩
 rw [←hnf] at HF ⊢
 rw [←hnh] at HH ⊢
 rw [←hn]
 have HA:=Lib.hid (batAt_new w (.slice af nf cf) (.slice ah nh ch) (.slice aw n cw) 25)
 have HW0:Hid (Below w.heap.size w (w.alloc (.cells #[.slice af nf cf,.slice ah nh ch,.slice aw n cw] 25))):=Lib.hid ((Below.refl _ _).alloc (Nat.le_refl _) _)
 have HZ:Hid (w.heap.size < (w.alloc (.cells #[.slice af nf cf,.slice ah nh ch,.slice aw n cw] 25)).heap.size):=Lib.hid (by simp)
 have i0:=idxB_0
 have i1:=idxB_1
 clear hf hh hv hg hlf hlh hnf hnh hn
 go_enter Tryz.func90,Tryz.ntmps90
 go_wp2
 generalize w.alloc (.cells #[.slice af nf cf,.slice ah nh ch,.slice aw n cw] 25)=W at HA HW0 HZ ⊢
 have HE:Hid (∀ w',Below W.heap.size W w'→Below w.heap.size w w'):=Lib.hid (fun w' hx=>HW0.out.trans (hx.mono HW0.out.size))
 go_loopw [11] (fun i wr=>∃ k:Nat,k≤2∧i=.int .i64 k∧(k=0∨(k=1∧(vrightF f).1=0)∨(k=2∧(vrightF f).1=0∧(vrightF h).1=0))∧Below W.heap.size W wr) (fun i _=>2 - (intOf i).toNat)
 case atStart=>exact ⟨0,by omega,rfl,.inl rfl,Below.refl _ _⟩
 case round =>
   obtain ⟨k,hk,rfl,hj,hbel⟩:=hrel
   have HB:=Lib.hid hbel
   clear hbel
   rcases hj with rfl | ⟨rfl,h1⟩ | ⟨rfl,h1,h2⟩
   · by_cases h1:(vrightF f).1=0
     · have H1:=Lib.hid h1
       clear h1
       go_wp2_with fail
       refine (vright_any _ f _ (HF.out.below (HE.out _ HB.out)) HLF.out).mono ?_
       rintro r w1 ⟨err,rfl,hat,hb1⟩
       obtain rfl:=hat.nil H1.out
       have HB1:Hid (Below W.heap.size W w1):=HB.out.trans (hb1.mono HB.out.size)
       clear hat hb1
       go_wp2
       go_roundw
       case rel=>exact ⟨1,by omega,by go_num,.inr (.inl ⟨rfl,H1.out⟩),HB1.out⟩
       case measure=>simp [intOf]
     · have H1:=Lib.hid h1
       have HR:Hid (bbE f h=(vrightF f).1):=Lib.hid (by unfold bbE;rw [if_pos h1])
       have HQ:=Lib.hid (errV_no h1)
       clear h1
       go_wp2_with fail
       refine (vright_any _ f _ (HF.out.below (HE.out _ HB.out)) HLF.out).mono ?_
       rintro r w1 ⟨err,rfl,hat,hb1⟩
       have HER:=Lib.hid (hat.isErr H1.out)
       obtain ⟨t,u,rfl⟩:=hat.iface H1.out
       have HB1:Hid (Below W.heap.size W w1):=HB.out.trans (hb1.mono HB.out.size)
       clear hat hb1
       go_wp2_with fail
       refine (tell_err _ _ _ (HG.out.below (HE.out _ HB1.out)) HER.out).mono ?_
       rintro r w2 ⟨rfl,hb2⟩
       have HB2:Hid (Below W.heap.size W w2):=HB1.out.trans (hb2.mono HB1.out.size)
       clear hb2
       go_wp2
       go_ret
       exact ⟨by rw [HR.out,HQ.out];rfl,HE.out _ HB2.out⟩
   · by_cases h2:(vrightF h).1=0
     · have H2:=Lib.hid h2
       have H1:=Lib.hid h1
       clear h2 h1
       go_wp2_with fail
       refine (vright_any _ h _ (HH.out.below (HE.out _ HB.out)) HLH.out).mono ?_
       rintro r w1 ⟨err,rfl,hat,hb1⟩
       obtain rfl:=hat.nil H2.out
       have HB1:Hid (Below W.heap.size W w1):=HB.out.trans (hb1.mono HB.out.size)
       clear hat hb1
       go_wp2
       go_roundw
       case rel=>exact ⟨2,by omega,by go_num,.inr (.inr ⟨rfl,H1.out,H2.out⟩),HB1.out⟩
       case measure=>simp [intOf]
     · have H2:=Lib.hid h2
       have HR:Hid (bbE f h=(vrightF h).1):=Lib.hid (by unfold bbE;rw [if_neg (by simpa using h1),if_pos h2])
       have HQ:=Lib.hid (errV_no h2)
       clear h2 h1
       go_wp2_with fail
       refine (vright_any _ h _ (HH.out.below (HE.out _ HB.out)) HLH.out).mono ?_
       rintro r w1 ⟨err,rfl,hat,hb1⟩
       have HER:=Lib.hid (hat.isErr H2.out)
       obtain ⟨t,u,rfl⟩:=hat.iface H2.out
       have HB1:Hid (Below W.heap.size W w1):=HB.out.trans (hb1.mono HB.out.size)
       clear hat hb1
       go_wp2_with fail
       refine (tell_err _ _ _ (HG.out.below (HE.out _ HB1.out)) HER.out).mono ?_
       rintro r w2 ⟨rfl,hb2⟩
       have HB2:Hid (Below W.heap.size W w2):=HB1.out.trans (hb2.mono HB1.out.size)
       clear hb2
       go_wp2
       go_ret
       exact ⟨by rw [HR.out,HQ.out];rfl,HE.out _ HB2.out⟩
   · obtain ⟨c,hc⟩:∃ c,covB h f=c:=⟨_,rfl⟩
     have HC:=Lib.hid hc
     have HR:Hid (bbE f h=if c=false then 13 else 0):=Lib.hid (by unfold bbE;rw [if_neg (by simpa using h1),if_neg (by simpa using h2),hc])
     obtain ⟨d0,d1,d2⟩:=HA.out.below HB.out HZ.out
     clear h1 h2 hc
     go_wp2_with fail
     refine (bcov_as _ _ h f c _ (HH.out.below (HE.out _ HB.out)) (HF.out.below (HE.out _ HB.out)) HLH.out HLF.out HC.out).mono ?_
     rintro r w1 ⟨rfl,hb1⟩
     have HB1:Hid (Below W.heap.size W w1):=HB.out.trans (hb1.mono HB.out.size)
     clear hb1 d0 d1 d2
     cases c with
     | true =>
       go_wp2
       go_ret
       exact ⟨by rw [HR.out];rfl,HE.out _ HB1.out⟩
     | false =>
       go_wp2
       go_ret
       exact ⟨by rw [HR.out];rfl,HE.out _ HB1.out⟩
theorem bbounds_as (vf vh vw:Value) (f h:List Ent) (l:List Wr) (e:Nat) (w:World) (hf:IsEnts w vf f) (hh:IsEnts w vh h) (hv:IsWrs w vw l) (hlf:f.length≤9223372036854775807) (hlh:h.length≤9223372036854775807) (hg:errT w) (he:bbE f h=e) :
   Calls Tryz.prog 90 #[.agg #[vf,vh,vw]] w fun r w'=>r=.returned (errV e)∧Below w.heap.size w w':=by
 subst he;exact bbounds_any vf vh vw f h l w hf hh hv hlf hlh hg
set_option maxRecDepth 100000 in
set_option maxHeartbeats 4000000 in
theorem bright_any (vf vh vw:Value) (f h:List Ent) (l:List Wr) (w:World) (hf:IsEnts w vf f) (hh:IsEnts w vh h) (hv:IsWrs w vw l) (hlf:f.length≤9223372036854775807) (hlh:h.length≤9223372036854775807) (hok:∀ t∈l,WrOk t) (hg:errT w) :
   Calls Tryz.prog 43 #[.agg #[vf,vh,vw]] w (VRightIs w (batF f h l)):=by
 have HF:=Lib.hid hf
 have HH:=Lib.hid hh
 have HV:=Lib.hid hv
 have HG:=Lib.hid hg
 have HLF:=Lib.hid hlf
 have HLH:=Lib.hid hlh
 have HOK:=Lib.hid hok
 obtain ⟨af,cf,rfl,_⟩:=hf.form
 obtain ⟨ah,ch,rfl,_⟩:=hh.form
 obtain ⟨aw,cw,rfl,_⟩:=hv.form
 obtain ⟨nf,hnf⟩:∃ n,n=f.length:=⟨_,rfl⟩
 obtain ⟨nh,hnh⟩:∃ n,n=h.length:=⟨_,rfl⟩
 obtain ⟨n,hn⟩:∃ n,n=l.length:=⟨_,rfl⟩
 rw [←hnf] at HF ⊢
 rw [←hnh] at HH ⊢
 rw [←hn] at HV ⊢
 have HN:=Lib.hid hn
 have HA:=Lib.hid (batAt_new w (.slice af nf cf) (.slice ah nh ch) (.slice aw n cw) 25)
 have HW0:Hid (Below w.heap.size w (w.alloc (.cells #[.slice af nf cf,.slice ah nh ch,.slice aw n cw] 25))):=Lib.hid ((Below.refl _ _).alloc (Nat.le_refl _) _)
 have HZ:Hid (w.heap.size < (w.alloc (.cells #[.slice af nf cf,.slice ah nh ch,.slice aw n cw] 25)).heap.size):=Lib.hid (by simp)
 obtain ⟨eb,heb⟩:∃ e,bbE f h=e:=⟨_,rfl⟩
 have HEB:=Lib.hid heb
 clear hf hh hv hg hlf hlh hnf hnh hn hok heb
 go_enter Tryz.func43,Tryz.ntmps43
 go_wp2_with fail
 generalize w.alloc (.cells #[.slice af nf cf,.slice ah nh ch,.slice aw n cw] 25)=W at HA HW0 HZ ⊢
 have HE:Hid (∀ w',Below W.heap.size W w'→Below w.heap.size w w'):=Lib.hid (fun w' hx=>HW0.out.trans (hx.mono HW0.out.size))
 refine (bbounds_as _ _ _ f h l eb _ (HF.out.below HW0.out) (HH.out.below HW0.out) (HV.out.below HW0.out) HLF.out HLH.out (HG.out.below HW0.out) HEB.out).mono ?_
 rintro r w1 ⟨rfl,hb1⟩
 have HB1:Hid (Below W.heap.size W w1):=Lib.hid hb1
 clear hb1
 by_cases h0:eb=0
 · subst h0
   rw [errV_ok]
   obtain ⟨d0,d1,d2⟩:=HA.out.below HB1.out HZ.out
   by_cases h6:60 < n
   · have HR:=Lib.hid (batF_many HEB.out (show 60 < l.length by rw [←HN.out];exact h6))
     have h6':(60:Int) < (n:Int):=by omega
     go_wp2
     go_ret
     rw [HR.out]
     exact ⟨_,rfl,.inr ⟨by decide,rfl,rfl⟩,HE.out _ HB1.out⟩
   · have HR:=Lib.hid (batF_rest (ws:=l) HEB.out (show ¬ 60 < l.length by rw [←HN.out];exact h6))
     have h6':¬ (60:Int) < (n:Int):=by omega
     have hn6:n≤60:=by omega
     clear h6
     go_wp2
     clear d0 d1 d2
     go_loopw [19] (fun i wr=>∃ (k:Nat) (p:Option Wr),k≤n∧i=.int .i64 k∧((k=0∧p=none)∨∃ j q,k=j + 1∧l[j]? = some q∧p=some q)∧bwr f h l 0 none=bwr f h (l.drop k) k p∧Below W.heap.size W wr) (fun i _=>n - (intOf i).toNat)
     case atStart=>exact ⟨0,none,by omega,rfl,.inl ⟨rfl,rfl⟩,rfl,HB1.out⟩
     case round =>
       obtain ⟨k,p,hk,rfl,hla,heq,hbel⟩:=hrel
       have HEQ:=Lib.hid heq
       have HLA:=Lib.hid hla
       have HB:=Lib.hid hbel
       clear heq hbel hla
       by_cases hlt:k < n
       · have hkl:k < l.length:=by have:=HN.out;omega
         obtain ⟨t,ht⟩:∃ t,l[k]? = some t:=⟨l[k],List.getElem?_eq_getElem hkl⟩
         have hd:l.drop k=t :: l.drop (k + 1):=by
           rw [List.drop_eq_getElem_cons hkl];congr 1
           rw [List.getElem?_eq_getElem hkl] at ht;exact Option.some.inj ht
         have HD:=Lib.hid hd
         have HT:=Lib.hid ht
         obtain ⟨e,he⟩:∃ e,bwE f h p t=e:=⟨_,rfl⟩
         have HEE:=Lib.hid he
         obtain ⟨d0,d1,d2⟩:=HA.out.below HB.out HZ.out
         clear ht hkl hd he
         go_wp2_with fail
         refine (bwrong_any _ _ _ f h l k t p e _ (HF.out.below (HE.out _ HB.out)) (HH.out.below (HE.out _ HB.out)) (HV.out.below (HE.out _ HB.out)) HLF.out HLH.out (by have:=HN.out;omega) HT.out HLA.out HOK.out (HG.out.below (HE.out _ HB.out)) HEE.out).mono ?_
         rintro r w2 ⟨rfl,hb2⟩
         have HB2:Hid (Below W.heap.size W w2):=HB.out.trans (hb2.mono HB.out.size)
         clear hb2 d0 d1 d2
         by_cases hz:e=0
         · subst hz
           have HN2:Hid (bwr f h l 0 none=bwr f h (l.drop (k + 1)) (k + 1) (some t)):=Lib.hid (show bwr f h l 0 none=bwr f h (l.drop (k + 1)) (k + 1) (some t) by rw [HEQ.out,HD.out,bwr_good HEE.out])
           go_wp2
           go_roundw
           case rel=>exact ⟨k + 1,some t,by omega,by go_num,.inr ⟨k,t,rfl,HT.out,rfl⟩,HN2.out,HB2.out⟩
           case measure=>simp [intOf];omega
         · have HN2:Hid (bwr f h l 0 none=(e,(k:Int))):=Lib.hid (show bwr f h l 0 none=(e,(k:Int)) by rw [HEQ.out,HD.out,bwr_bad HEE.out hz])
           have hne:((e:Int) != 0)=true:=by simp;omega
           have H0:=Lib.hid hz
           have hz2:=HB2.out.size
           clear hz
           go_wp2
           go_ret
           rw [HR.out,HN2.out]
           exact ⟨_,rfl,.inl (atIs.new w2 e k H0.out),HE.out _ (HB2.out.alloc hz2 _)⟩
       · have HN2:Hid (bwr f h l 0 none=(0,-1)):=Lib.hid (show bwr f h l 0 none=(0,-1) by rw [HEQ.out,List.drop_eq_nil_of_le (by have:=HN.out;omega)];rfl)
         go_wp2
         go_ret
         exact ⟨_,rfl,.inl (.inl ⟨HR.out.trans HN2.out,rfl⟩),HE.out _ HB.out⟩
 · have HR:=Lib.hid (batF_bb (ws:=l) HEB.out h0)
   have H0:=Lib.hid h0
   rw [errV_no h0]
   clear h0
   go_wp2
   go_ret
   rw [HR.out]
   exact ⟨_,rfl,.inr ⟨H0.out,rfl,rfl⟩,HE.out _ HB1.out⟩
end Go.Proofs.YtjkbmfpomgcblaaGreatDoor
namespace Go.Proofs.YtjkbmfpomgcblaaGreatDoor
open Go.RowKit
theorem vread_cases (s:List UInt8):(∃ e,vreadF s=(e,0,[])∧e≠0)∨∃ n l,vreadF s=(0,n,l):=by
 rcases intL_cases s 16 with ⟨e,hi,he,_⟩ | ⟨R,j,hi,_⟩
 · exact .inl ⟨e,vread_few hi he,he⟩
 · match hr:rdA R (s.drop j) j 0 [] with
   | .inl e =>
     refine .inl ⟨e,vread_bad hi hr,?_⟩
     have:∀ (k:Nat) (s:List UInt8) (used:Nat) (least:Int) (acc:List Ent),rdA k s used least acc=.inl e→e≠0:=by
       intro k
       induction k with
       | zero=>intro s used least acc h;cases h
       | succ k ih =>
         intro s used least acc h
         match hg:getR s 0 least [] with
         | .inl e'=>rw [rdA_bad hg] at h;injection h with h;subst h;exact getR_err hg
         | .inr (run,j)=>rw [rdA_ok hg] at h;exact ih _ _ _ _ h
     exact this _ _ _ _ _ hr
   | .inr (l,n) =>
     by_cases h0:(vrightF l).1=0
     · exact .inr ⟨n,l,vread_ok hi hr h0⟩
     · exact .inl ⟨_,vread_wrong hi hr h0,h0⟩
end Go.Proofs.YtjkbmfpomgcblaaGreatDoor
