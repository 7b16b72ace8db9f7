import Derived.Test.YtjkbmfpomgcblaaGreatDoorKp23
namespace Go.Proofs.YtjkbmfpomgcblaaGreatDoor
open Go.RowKit
def entsP (l:List Ent):List UInt8:=l.flatMap fun e=>putL e.rep.toNat ++ putL e.time.toNat
def plainL (l:List Ent):List UInt8:=putL l.length ++ entsP l
def oldW (x:Wr):List UInt8:=[UInt8.ofNat x.kind.toNat] ++ putL x.time.toNat ++ putL x.rep.toNat ++ spanL x.key.data.toList ++ tailL x
def oldWs (l:List Wr):List UInt8:=l.flatMap oldW
def oldL (f h:List Ent) (l:List Wr):List UInt8:=plainL f ++ plainL h ++ putL l.length ++ oldWs l
def firstF (f h:List Ent) (l:List Wr):List UInt8×Nat×Int:=if (batF f h l).1≠0 then ([],batF f h l) else (sealL (80 :: 84 :: 1 :: oldL f h l),0,-1)
def secondF (f h:List Ent) (l:List Wr):List UInt8×Nat×Int:=if (bodyF f h l).2.1≠0 then ([],(bodyF f h l).2) else (sealL (80 :: 84 :: 2 :: (bodyF f h l).1),0,-1)
theorem entsP_cons (e:Ent) (l:List Ent):entsP (e :: l)=putL e.rep.toNat ++ (putL e.time.toNat ++ entsP l):=by simp [entsP]
theorem oldWs_cons (x:Wr) (l:List Wr):oldWs (x :: l)=oldW x ++ oldWs l:=by simp [oldWs]
def unP (s:List UInt8):Nat→Nat→List Ent→Nat ⊕ (Nat×List Ent)
 | 0,a,L=>.inr (a,L)
 | k + 1,a,L=>match intL (s.drop a) 200 with
   | (r,j,e)=>if e≠0 then .inl e else match intL (s.drop (a + j)) 1099511627776 with
     | (t,i,e)=>if e≠0 then .inl e else unP s k (a + j + i) (L ++ [⟨(r:Int),(t:Int)⟩])
section
variable {s:List UInt8} {k a r j t i e:Nat} {L:List Ent}
theorem unP_rep (h:intL (s.drop a) 200=(r,j,e)) (he:e≠0):unP s (k + 1) a L=.inl e:=by rw [unP,h];simp only;rw [if_pos he]
theorem unP_time (h:intL (s.drop a) 200=(r,j,0)) (h1:intL (s.drop (a + j)) 1099511627776=(t,i,e)) (he:e≠0):unP s (k + 1) a L=.inl e:=by
 rw [unP,h];simp only;rw [if_neg (by simp),h1];simp only;rw [if_pos he]
theorem unP_ok (h:intL (s.drop a) 200=(r,j,0)) (h1:intL (s.drop (a + j)) 1099511627776=(t,i,0)):unP s (k + 1) a L=unP s k (a + j + i) (L ++ [⟨(r:Int),(t:Int)⟩]):=by
 rw [unP,h];simp only;rw [if_neg (by simp),h1];simp only;rw [if_neg (by simp)]
end
theorem unP_ne {s:List UInt8}:∀ (k a:Nat) (L:List Ent) (e:Nat),unP s k a L=.inl e→e≠0:=by
 intro k
 induction k with
 | zero=>intro a L e h;cases h
 | succ k ih =>
   intro a L e h
   obtain ⟨r,j,e1,h1⟩:∃ r j e1,intL (s.drop a) 200=(r,j,e1):=⟨_,_,_,rfl⟩
   by_cases he1:e1=0
   · subst he1
     obtain ⟨t,i,e2,h2⟩:∃ t i e2,intL (s.drop (a + j)) 1099511627776=(t,i,e2):=⟨_,_,_,rfl⟩
     by_cases he2:e2=0
     · subst he2;rw [unP_ok h1 h2] at h;exact ih _ _ _ h
     · rw [unP_time h1 h2 he2] at h;injection h with h;rw [←h];exact he2
   · rw [unP_rep h1 he1] at h;injection h with h;rw [←h];exact he1
theorem unP_write {s:List UInt8} (l:List Ent):∀ (a:Nat) (L:List Ent) (more:List UInt8),(∀ e∈l,0≤e.rep∧e.rep≤200∧0≤e.time∧e.time≤1099511627776)→s.drop a=entsP l ++ more→unP s l.length a L=.inr (a + (entsP l).length,L ++ l):=by
 induction l with
 | nil=>intro a L more _ _;simp [unP,entsP]
 | cons x l ih =>
   intro a L more hx hs
   obtain ⟨b1,b2,b3,b4⟩:=hx x List.mem_cons_self
   rw [entsP_cons,List.append_assoc,List.append_assoc] at hs
   have e1:=drop_app hs
   have e2:=drop_app e1
   have k1:intL (s.drop a) 200=(x.rep.toNat,(putL x.rep.toNat).length,0):=by rw [hs];exact intL_put _ _ _ (by omega) (by omega)
   have k2:intL (s.drop (a + (putL x.rep.toNat).length)) 1099511627776=(x.time.toNat,(putL x.time.toNat).length,0):=by rw [e1];exact intL_put _ _ _ (by omega) (by omega)
   have hx1:(⟨((x.rep.toNat:Nat):Int),((x.time.toNat:Nat):Int)⟩:Ent)=x:=by
     obtain ⟨r,t⟩:=x
     simp only at b1 b3 ⊢
     congr 1 <;> omega
   rw [List.length_cons,unP_ok k1 k2,hx1,ih _ _ more (fun e he=>hx e (List.mem_cons_of_mem _ he)) e2,entsP_cons,List.length_append,List.length_append]
   simp [Nat.add_assoc]
theorem unP_only {s:List UInt8} (k:Nat):∀ (a b:Nat) (L M:List Ent),a≤s.length→unP s k a L=.inr (b,M)→∃ M1,M=L ++ M1∧M1.length=k∧s.drop a=entsP M1 ++ s.drop b∧b≤s.length∧a≤b:=by
 induction k with
 | zero =>
   intro a b L M ha h0
   rw [unP] at h0
   simp only [Sum.inr.injEq,Prod.mk.injEq] at h0
   obtain ⟨rfl,rfl⟩:=h0
   exact ⟨[],by simp,rfl,rfl,ha,Nat.le_refl _⟩
 | succ k ih =>
   intro a b L M ha h0
   rcases intL_cases (s.drop a) 200 with ⟨e,h1,he,_⟩ | ⟨r,j,h1,hr,_,_,hj,hp⟩
   · rw [unP_rep h1 he] at h0;cases h0
   · rcases intL_cases (s.drop (a + j)) 1099511627776 with ⟨e,h2,he,_⟩ | ⟨t,i,h2,ht,_,_,hi,hq⟩
     · rw [unP_time h1 h2 he] at h0;cases h0
     · rw [unP_ok h1 h2] at h0
       rw [List.length_drop] at hj hi
       obtain ⟨M1,rfl,g2,g3,g4,g5⟩:=ih _ _ _ _ (by omega) h0
       refine ⟨⟨(r:Int),(t:Int)⟩ :: M1,by simp,by simp [g2],?_,g4,by omega⟩
       rw [entsP_cons,List.append_assoc,List.append_assoc,←g3]
       have d1:=drop_put hp
       have d2:=drop_put hq
       rw [d1,d2]
       rfl
def unE (s:List UInt8) (a:Nat):Nat ⊕ (Nat×List Ent) :=
 match intL (s.drop a) 16 with
 | (k,j,e)=>if e≠0 then .inl e else unP s k (a + j) []
theorem unE_bad {s:List UInt8} {a k j e:Nat} (h:intL (s.drop a) 16=(k,j,e)) (he:e≠0):unE s a=.inl e:=by unfold unE;rw [h];simp only;rw [if_pos he]
theorem unE_ok {s:List UInt8} {a k j:Nat} (h:intL (s.drop a) 16=(k,j,0)):unE s a=unP s k (a + j) []:=by unfold unE;rw [h];simp only;rw [if_neg (by simp)]
theorem unE_ne {s:List UInt8} {a e:Nat} (h:unE s a=.inl e):e≠0:=by
 obtain ⟨k,j,e1,h1⟩:∃ k j e1,intL (s.drop a) 16=(k,j,e1):=⟨_,_,_,rfl⟩
 by_cases he:e1=0
 · subst he;rw [unE_ok h1] at h;exact unP_ne _ _ _ _ h
 · rw [unE_bad h1 he] at h;injection h with h;rw [←h];exact he
theorem unE_write {s:List UInt8} {l:List Ent} {a:Nat} {more:List UInt8} (hl:rightV l) (hs:s.drop a=plainL l ++ more):unE s a=.inr (a + (plainL l).length,l):=by
 have h16:=hl.1
 unfold plainL at hs ⊢
 rw [List.append_assoc] at hs
 have k1:intL (s.drop a) 16=(l.length,(putL l.length).length,0):=by rw [hs];exact intL_put _ _ _ (by omega) (by omega)
 rw [unE_ok k1,unP_write l _ [] more (fun e he=>by have:=okV_mem hl.2 e he;omega) (drop_app hs),List.length_append,List.nil_append,Nat.add_assoc]
theorem unE_only {s:List UInt8} {a b:Nat} {l:List Ent} (ha:a≤s.length) (h:unE s a=.inr (b,l)):s.drop a=plainL l ++ s.drop b∧b≤s.length∧a≤b:=by
 rcases intL_cases (s.drop a) 16 with ⟨e,h1,he,_⟩ | ⟨k,j,h1,hk,_,_,hj,hp⟩
 · rw [unE_bad h1 he] at h;cases h
 · rw [unE_ok h1] at h
   rw [List.length_drop] at hj
   obtain ⟨M1,g1,g2,g3,g4,g5⟩:=unP_only _ _ _ _ _ (by omega) h
   rw [List.nil_append] at g1
   subst g1
   refine ⟨?_,g4,by omega⟩
   unfold plainL
   rw [List.append_assoc,←g3,g2]
   exact drop_put hp
def unV (s:List UInt8) (a:Nat):Nat ⊕ (Nat×Wr) :=
 match kindF (s.drop a) with
 | (K,_,e)=>if e≠0 then .inl e else
   match intL (s.drop (a + 1)) 1099511627776 with
   | (t,k1,e)=>if e≠0 then .inl e else
     match intL (s.drop (a + 1 + k1)) 200 with
     | (r,k2,e)=>if e≠0 then .inl e else
       match getS (s.drop (a + 1 + k1 + k2)) with
       | (key,k3,e)=>if e≠0 then .inl e else
         if fillE t r K ⟨key.toArray⟩ (s.drop (a + 1 + k1 + k2 + k3))≠0 then .inl (fillE t r K ⟨key.toArray⟩ (s.drop (a + 1 + k1 + k2 + k3)))
         else .inr (a + 1 + k1 + k2 + k3 + fillN K (s.drop (a + 1 + k1 + k2 + k3)),⟨t,r,K,⟨key.toArray⟩,fillV K (s.drop (a + 1 + k1 + k2 + k3)),(getN K (s.drop (a + 1 + k1 + k2 + k3))).1⟩)
section
variable {s key:List UInt8} {a K j t k1 r k2 k3 e:Nat}
theorem unV_kind (h0:kindF (s.drop a)=(K,j,e)) (he:e≠0):unV s a=.inl e:=by unfold unV;rw [h0];simp only;rw [if_pos he]
theorem unV_time (h0:kindF (s.drop a)=(K,j,0)) (h1:intL (s.drop (a + 1)) 1099511627776=(t,k1,e)) (he:e≠0):unV s a=.inl e:=by
 unfold unV;rw [h0];simp only;rw [if_neg (by simp),h1];simp only;rw [if_pos he]
theorem unV_rep (h0:kindF (s.drop a)=(K,j,0)) (h1:intL (s.drop (a + 1)) 1099511627776=(t,k1,0)) (h2:intL (s.drop (a + 1 + k1)) 200=(r,k2,e)) (he:e≠0):unV s a=.inl e:=by
 unfold unV;rw [h0];simp only;rw [if_neg (by simp),h1];simp only;rw [if_neg (by simp),h2];simp only;rw [if_pos he]
theorem unV_key (h0:kindF (s.drop a)=(K,j,0)) (h1:intL (s.drop (a + 1)) 1099511627776=(t,k1,0)) (h2:intL (s.drop (a + 1 + k1)) 200=(r,k2,0)) (h3:getS (s.drop (a + 1 + k1 + k2))=(key,k3,e)) (he:e≠0):unV s a=.inl e:=by
 unfold unV;rw [h0];simp only;rw [if_neg (by simp),h1];simp only;rw [if_neg (by simp),h2];simp only;rw [if_neg (by simp),h3];simp only;rw [if_pos he]
theorem unV_fill (h0:kindF (s.drop a)=(K,j,0)) (h1:intL (s.drop (a + 1)) 1099511627776=(t,k1,0)) (h2:intL (s.drop (a + 1 + k1)) 200=(r,k2,0)) (h3:getS (s.drop (a + 1 + k1 + k2))=(key,k3,0))
   (h4:fillE t r K ⟨key.toArray⟩ (s.drop (a + 1 + k1 + k2 + k3))=e) (he:e≠0):unV s a=.inl e:=by
 unfold unV;rw [h0];simp only;rw [if_neg (by simp),h1];simp only;rw [if_neg (by simp),h2];simp only;rw [if_neg (by simp),h3];simp only;rw [if_neg (by simp),if_pos (by rw [h4];exact he),h4]
theorem unV_ok (h0:kindF (s.drop a)=(K,j,0)) (h1:intL (s.drop (a + 1)) 1099511627776=(t,k1,0)) (h2:intL (s.drop (a + 1 + k1)) 200=(r,k2,0)) (h3:getS (s.drop (a + 1 + k1 + k2))=(key,k3,0))
   (h4:fillE t r K ⟨key.toArray⟩ (s.drop (a + 1 + k1 + k2 + k3))=0) :
   unV s a=.inr (a + 1 + k1 + k2 + k3 + fillN K (s.drop (a + 1 + k1 + k2 + k3)),⟨t,r,K,⟨key.toArray⟩,fillV K (s.drop (a + 1 + k1 + k2 + k3)),(getN K (s.drop (a + 1 + k1 + k2 + k3))).1⟩):=by
 unfold unV;rw [h0];simp only;rw [if_neg (by simp),h1];simp only;rw [if_neg (by simp),h2];simp only;rw [if_neg (by simp),h3];simp only;rw [if_neg (by simp),if_neg (by rw [h4];simp)]
end
theorem unV_ne {s:List UInt8} {a e:Nat} (h:unV s a=.inl e):e≠0:=by
 unfold unV at h
 repeat' split at h
 all_goals first
   | (injection h with h;rw [←h];assumption)
   | cases h
theorem unV_write {s more:List UInt8} {a:Nat} {x:Wr} (hs:s.drop a=oldW x ++ more) (hw:wE x=0):unV s a=.inr (a + (oldW x).length,x):=by
 have hf:=wE_facts hw
 unfold oldW at hs ⊢
 have hk0:kindF (s.drop a)=(x.kind.toNat,1,0):=by
   rw [hs]
   have hc:(UInt8.ofNat x.kind.toNat).toNat=x.kind.toNat:=toNat_ofNat_lt (by omega)
   refine (kindF_cons (UInt8.ofNat x.kind.toNat) _).trans ?_
   rw [hc,if_neg (by omega)]
 have e1:s.drop (a + 1)=putL x.time.toNat ++ (putL x.rep.toNat ++ (spanL x.key.data.toList ++ (tailL x ++ more))):=by
   have:=drop_app (x:=[UInt8.ofNat x.kind.toNat]) (y:=putL x.time.toNat ++ (putL x.rep.toNat ++ (spanL x.key.data.toList ++ (tailL x ++ more)))) (by rw [hs];simp)
   simpa using this
 have e2:=drop_app e1
 have e3:=drop_app e2
 have e4:=drop_app e3
 have k1:intL (s.drop (a + 1)) 1099511627776=(x.time.toNat,(putL x.time.toNat).length,0):=by rw [e1];exact intL_put _ _ _ (by omega) (by omega)
 have k2:intL (s.drop (a + 1 + (putL x.time.toNat).length)) 200=(x.rep.toNat,(putL x.rep.toNat).length,0):=by rw [e2];exact intL_put _ _ _ (by omega) (by omega)
 have k3:getS (s.drop (a + 1 + (putL x.time.toNat).length + (putL x.rep.toNat).length))=(x.key.data.toList,(spanL x.key.data.toList).length,0):=by rw [e3];exact wspan _ _ (by rw [←size_data];omega)
 have ht:((x.time.toNat:Nat):Int)=x.time:=by omega
 have hr:((x.rep.toNat:Nat):Int)=x.rep:=by omega
 have hk:((x.kind.toNat:Nat):Int)=x.kind:=by omega
 have hkey:(⟨x.key.data.toList.toArray⟩:ByteArray)=x.key:=rfl
 obtain ⟨f1,f2,f3,f4⟩:=fill_tail (T:=x.time) (R:=x.rep) (key:=x.key) hw more
 have hok:=unV_ok (s:=s) hk0 k1 k2 k3 (by rw [ht,hr,hk,hkey,e4];exact f1)
 rw [ht,hr,hk,hkey,e4] at hok
 unfold tailL at hok ⊢
 rw [f2,f3,f4] at hok
 rw [hok]
 simp only [List.length_append,List.length_cons,List.length_nil]
 refine congrArg Sum.inr (Prod.ext ?_ rfl)
 simp only
 omega
theorem unV_only {s:List UInt8} {a b:Nat} {x:Wr} (h0:unV s a=.inr (b,x)):wE x=0∧s.drop a=oldW x ++ s.drop b∧a < b∧b≤s.length:=by
 rcases kind_cases (s.drop a) with ⟨e,hk,he⟩ | ⟨c,r,hc,hk,hc1,hc4⟩
 · rw [unV_kind hk he] at h0;cases h0
 · have hal : a < s.length := by
     rcases Nat.lt_or_ge a s.length with h' | h'
     · exact h'
     · rw [List.drop_of_length_le h'] at hc;cases hc
   have hr:r=s.drop (a + 1):=by rw [←List.drop_drop,hc];rfl
   rcases intL_cases (s.drop (a + 1)) 1099511627776 with ⟨e,h1,he,_⟩ | ⟨t,k1,h1,ht,_,_,hk1l,hp1⟩
   · rw [unV_time hk h1 he] at h0;cases h0
   · rcases intL_cases (s.drop (a + 1 + k1)) 200 with ⟨e,h2,he,_⟩ | ⟨p,k2,h2,hp,_,_,hk2l,hp2⟩
     · rw [unV_rep hk h1 h2 he] at h0;cases h0
     · obtain ⟨key,k3,e3,h3⟩:∃ key k3 e3,getS (s.drop (a + 1 + k1 + k2))=(key,k3,e3):=⟨_,_,_,rfl⟩
       by_cases he3:e3=0
       · subst he3
         obtain ⟨w1,w2,w3,w4⟩:=wspan_only h3
         by_cases h4:fillE t p c.toNat ⟨key.toArray⟩ (s.drop (a + 1 + k1 + k2 + k3))=0
         · rw [unV_ok hk h1 h2 h3 h4] at h0
           simp only [Sum.inr.injEq,Prod.mk.injEq] at h0
           obtain ⟨hb,rfl⟩:=h0
           obtain ⟨f1,f2,f3⟩:=fill_only h4
           have e1:=drop_put hp1
           have e2:=drop_put hp2
           have e3:=drop_put w4
           have e4:=drop_put f2
           rw [List.length_drop] at hk1l hk2l w2 f3
           obtain ⟨L,hL⟩:∃ L,s.drop (a + 1 + k1 + k2 + k3)=L:=⟨_,rfl⟩
           rw [hL] at f1 e3 e4 hb ⊢
           rw [hL] at f3
           refine ⟨f1,?_,by omega,by omega⟩
           unfold oldW tailL
           simp only
           rw [show ((t:Int)).toNat=t by omega,show ((p:Int)).toNat=p by omega,show ((c.toNat:Nat):Int).toNat=c.toNat by omega,ofNat_toNat,hc,hr,e1,e2,e3]
           obtain ⟨X,hX⟩:∃ X,(tailB (c.toNat:Int) (fillV (c.toNat:Int) L) (getN (c.toNat:Int) L).1).data.toList=X:=⟨_,rfl⟩
           rw [hX] at e4 ⊢
           rw [hb] at e4
           rw [e4]
           simp
         · rw [unV_fill hk h1 h2 h3 rfl h4] at h0;cases h0
       · rw [unV_key hk h1 h2 h3 he3] at h0;cases h0
def unVs (s:List UInt8):Nat→Nat→List Wr→Nat ⊕ (Nat×List Wr)
 | 0,a,W=>.inr (a,W)
 | k + 1,a,W=>match unV s a with
   | .inl e=>.inl e
   | .inr (b,x)=>unVs s k b (W ++ [x])
theorem unVs_bad {s:List UInt8} {k a e:Nat} {W:List Wr} (h:unV s a=.inl e):unVs s (k + 1) a W=.inl e:=by rw [unVs,h]
theorem unVs_ok {s:List UInt8} {k a b:Nat} {W:List Wr} {x:Wr} (h:unV s a=.inr (b,x)):unVs s (k + 1) a W=unVs s k b (W ++ [x]):=by rw [unVs,h]
theorem unVs_ne {s:List UInt8}:∀ (k a:Nat) (W:List Wr) (e:Nat),unVs s k a W=.inl e→e≠0:=by
 intro k
 induction k with
 | zero=>intro a W e h;cases h
 | succ k ih =>
   intro a W e h
   match h1:unV s a with
   | .inl e1=>rw [unVs_bad h1] at h;injection h with h;rw [←h];exact unV_ne h1
   | .inr (b,x)=>rw [unVs_ok h1] at h;exact ih _ _ _ h
theorem unVs_write {s:List UInt8} (l:List Wr):∀ (a:Nat) (W:List Wr) (more:List UInt8),(∀ x∈l,wE x=0)→s.drop a=oldWs l ++ more→unVs s l.length a W=.inr (a + (oldWs l).length,W ++ l):=by
 induction l with
 | nil=>intro a W more _ _;simp [unVs,oldWs]
 | cons x l ih =>
   intro a W more hx hs
   rw [oldWs_cons,List.append_assoc] at hs
   rw [List.length_cons,unVs_ok (unV_write hs (hx x List.mem_cons_self)),ih _ _ more (fun y hy=>hx y (List.mem_cons_of_mem _ hy)) (drop_app hs),oldWs_cons,List.length_append]
   simp [Nat.add_assoc]
theorem unVs_only {s:List UInt8} (k:Nat):∀ (a b:Nat) (W M:List Wr),a≤s.length→unVs s k a W=.inr (b,M)→∃ M1,M=W ++ M1∧M1.length=k∧s.drop a=oldWs M1 ++ s.drop b∧b≤s.length∧a≤b:=by
 induction k with
 | zero =>
   intro a b W M ha h0
   rw [unVs] at h0
   simp only [Sum.inr.injEq,Prod.mk.injEq] at h0
   obtain ⟨rfl,rfl⟩:=h0
   exact ⟨[],by simp,rfl,rfl,ha,Nat.le_refl _⟩
 | succ k ih =>
   intro a b W M ha h0
   match h1:unV s a with
   | .inl e=>rw [unVs_bad h1] at h0;cases h0
   | .inr (c,x) =>
     rw [unVs_ok h1] at h0
     obtain ⟨o1,o2,o3,o4⟩:=unV_only h1
     obtain ⟨M1,rfl,g2,g3,g4,g5⟩:=ih _ _ _ _ o4 h0
     refine ⟨x :: M1,by simp,by simp [g2],?_,g4,by omega⟩
     rw [oldWs_cons,List.append_assoc,←g3];exact o2
def unO (s:List UInt8):Nat ⊕ (List Ent×List Ent×List Wr) :=
 match unE s 0 with
 | .inl e=>.inl e
 | .inr (a,f)=>match unE s a with
   | .inl e=>.inl e
   | .inr (b,h)=>match intL (s.drop b) 60 with
     | (k,j,e)=>if e≠0 then .inl e else
       match unVs s k (b + j) [] with
       | .inl e=>.inl e
       | .inr (c,W)=>if c < s.length then .inl 3 else if (batF f h W).1≠0 then .inl (batF f h W).1 else .inr (f,h,W)
section
variable {s:List UInt8} {f h:List Ent} {W:List Wr} {a b c k j e:Nat}
theorem unO_from (h1:unE s 0=.inl e):unO s=.inl e:=by unfold unO;rw [h1]
theorem unO_have (h1:unE s 0=.inr (a,f)) (h2:unE s a=.inl e):unO s=.inl e:=by unfold unO;rw [h1];simp only;rw [h2]
theorem unO_many (h1:unE s 0=.inr (a,f)) (h2:unE s a=.inr (b,h)) (h3:intL (s.drop b) 60=(k,j,e)) (he:e≠0):unO s=.inl e:=by
 unfold unO;rw [h1];simp only;rw [h2];simp only;rw [h3];simp only;rw [if_pos he]
theorem unO_write1 (h1:unE s 0=.inr (a,f)) (h2:unE s a=.inr (b,h)) (h3:intL (s.drop b) 60=(k,j,0)) (h4:unVs s k (b + j) []=.inl e):unO s=.inl e:=by
 unfold unO;rw [h1];simp only;rw [h2];simp only;rw [h3];simp only;rw [if_neg (by simp),h4]
theorem unO_rest (h1:unE s 0=.inr (a,f)) (h2:unE s a=.inr (b,h)) (h3:intL (s.drop b) 60=(k,j,0)) (h4:unVs s k (b + j) []=.inr (c,W)) :
   unO s=if c < s.length then .inl 3 else if (batF f h W).1≠0 then .inl (batF f h W).1 else .inr (f,h,W):=by
 unfold unO;rw [h1];simp only;rw [h2];simp only;rw [h3];simp only;rw [if_neg (by simp),h4]
end
theorem unO_ne {s:List UInt8} {e:Nat} (h0:unO s=.inl e):e≠0:=by
 match h1:unE s 0 with
 | .inl e1=>rw [unO_from h1] at h0;injection h0 with h0;rw [←h0];exact unE_ne h1
 | .inr (a,f) =>
   match h2:unE s a with
   | .inl e1=>rw [unO_have h1 h2] at h0;injection h0 with h0;rw [←h0];exact unE_ne h2
   | .inr (b,h) =>
     obtain ⟨k,j,e1,h3⟩:∃ k j e1,intL (s.drop b) 60=(k,j,e1):=⟨_,_,_,rfl⟩
     by_cases he:e1=0
     · subst he
       match h4:unVs s k (b + j) [] with
       | .inl e1=>rw [unO_write1 h1 h2 h3 h4] at h0;injection h0 with h0;rw [←h0];exact unVs_ne _ _ _ _ h4
       | .inr (c,W) =>
         rw [unO_rest h1 h2 h3 h4] at h0
         split at h0
         · injection h0 with h0;rw [←h0];decide
         · split at h0
           · rename_i hb;injection h0 with h0;rw [←h0];exact hb
           · cases h0
     · rw [unO_many h1 h2 h3 he] at h0;injection h0 with h0;rw [←h0];exact he
theorem unO_write {f h:List Ent} {l:List Wr} (hr:rightB f h l):unO (oldL f h l)=.inr (f,h,l):=by
 have hb:=rightB_iff.1 hr
 obtain ⟨⟨g1,g2,g3⟩,g4,g5,g6⟩:=hb
 obtain ⟨s,hs⟩:∃ s,oldL f h l=s:=⟨_,rfl⟩
 have hs0:s=plainL f ++ (plainL h ++ (putL l.length ++ (oldWs l ++ []))):=by rw [←hs];unfold oldL;simp
 have e0:s.drop 0=plainL f ++ (plainL h ++ (putL l.length ++ (oldWs l ++ []))):=by rw [List.drop_zero];exact hs0
 have e1:=drop_app e0
 rw [Nat.zero_add] at e1
 have e2:=drop_app e1
 have e3:=drop_app e2
 have k1:=unE_write g1 e0
 rw [Nat.zero_add] at k1
 have k2:=unE_write g2 e1
 have k3:intL (s.drop ((plainL f).length + (plainL h).length)) 60=(l.length,(putL l.length).length,0):=by rw [e2];exact intL_put _ _ _ (by omega) (by omega)
 have k4:=unVs_write l _ [] [] (fun x hx=>(g5 x hx).1) e3
 have hr0:(batF f h l).1=0:=hr
 have hlen:s.length=(plainL f).length + (plainL h).length + (putL l.length).length + (oldWs l).length:=by rw [hs0];simp only [List.length_append,List.length_nil];omega
 rw [hs,unO_rest k1 k2 k3 k4,List.nil_append,if_neg (by omega),if_neg (by rw [hr0];simp)]
theorem unO_only {s:List UInt8} {f h:List Ent} {l:List Wr} (h0:unO s=.inr (f,h,l)):rightB f h l∧oldL f h l=s:=by
 match h1:unE s 0 with
 | .inl e1=>rw [unO_from h1] at h0;cases h0
 | .inr (a,f') =>
   match h2:unE s a with
   | .inl e1=>rw [unO_have h1 h2] at h0;cases h0
   | .inr (b,h') =>
     obtain ⟨p1,p2,p3⟩:=unE_only (Nat.zero_le _) h1
     obtain ⟨q1,q2,q3⟩:=unE_only p2 h2
     rcases intL_cases (s.drop b) 60 with ⟨e,h3,he,_⟩ | ⟨k,j,h3,hk,_,_,hj,hp⟩
     · rw [unO_many h1 h2 h3 he] at h0;cases h0
     · match h4:unVs s k (b + j) [] with
       | .inl e1=>rw [unO_write1 h1 h2 h3 h4] at h0;cases h0
       | .inr (c,W) =>
         rw [unO_rest h1 h2 h3 h4] at h0
         rw [List.length_drop] at hj
         obtain ⟨M1,g1,g2,g3,g4,g5⟩:=unVs_only _ _ _ _ _ (by omega) h4
         rw [List.nil_append] at g1
         subst g1
         split at h0
         · cases h0
         · rename_i hc
           split at h0
           · cases h0
           · rename_i hb
             injection h0 with h0
             injection h0 with i1 h0
             injection h0 with i2 i3
             subst i1 i2 i3
             refine ⟨by unfold rightB;simpa using hb,?_⟩
             have hce:s.drop c=[]:=List.drop_of_length_le (by omega)
             rw [hce,List.append_nil] at g3
             rw [List.drop_zero] at p1
             have hput:=drop_put hp
             unfold oldL
             rw [p1,q1,hput,g3,g2]
             simp
def oldF (s:List UInt8):(Nat×Int) ⊕ (List Ent×List Ent×List Wr) :=
 match opnF s with
 | (v,i,e)=>if e≠0 then .inl (e,-1) else if v=3 then .inl (6,-1) else if v=2 then unbF i else
   match unO i with
   | .inl e=>.inl (e,-1)
   | .inr b=>.inr b
section
variable {s i:List UInt8} {v e:Nat} {b:List Ent×List Ent×List Wr}
theorem old_open (h0:opnF s=(v,i,e)) (he:e≠0):oldF s=.inl (e,-1):=by unfold oldF;rw [h0];simp only;rw [if_pos he]
theorem old_state (h0:opnF s=(3,i,0)):oldF s=.inl (6,-1):=by unfold oldF;rw [h0];simp only;rw [if_neg (by simp),if_pos trivial]
theorem old_two (h0:opnF s=(2,i,0)):oldF s=unbF i:=by unfold oldF;rw [h0];simp only;rw [if_neg (by simp),if_neg (by simp),if_pos trivial]
theorem old_bad (h0:opnF s=(v,i,0)) (h3:v≠3) (h2:v≠2) (h1:unO i=.inl e):oldF s=.inl (e,-1):=by unfold oldF;rw [h0];simp only;rw [if_neg (by simp),if_neg h3,if_neg h2,h1]
theorem old_ok (h0:opnF s=(v,i,0)) (h3:v≠3) (h2:v≠2) (h1:unO i=.inr b):oldF s=.inr b:=by unfold oldF;rw [h0];simp only;rw [if_neg (by simp),if_neg h3,if_neg h2,h1]
end
theorem plainL_pos (l:List Ent):1≤(plainL l).length:=by unfold plainL;rw [List.length_append];have:=putL_pos l.length;omega
theorem old_first {f h:List Ent} {l:List Wr} (hr:rightB f h l):oldF (sealL (80 :: 84 :: 1 :: oldL f h l))=.inr (f,h,l):=by
 have hp:=plainL_pos f
 refine old_ok (v:=1) (i:=oldL f h l) ?_ (by decide) (by decide) (unO_write hr)
 rw [opn_seal 1 _ (by unfold oldL;simp only [List.length_append];omega),if_neg (by decide)];rfl
theorem old_second {f h:List Ent} {l:List Wr} (hr:rightB f h l) (hl:(bodyL f h l).length≤20000) (hp:1≤(bodyL f h l).length):oldF (sealL (80 :: 84 :: 2 :: bodyL f h l))=.inr (f,h,l):=by
 have h1:=unb_body hr [] (by simpa using hl)
 rw [List.append_nil,if_pos rfl] at h1
 rw [old_two (i:=bodyL f h l) (by rw [opn_seal 2 _ hp,if_neg (by decide)];rfl),h1]
theorem openL_same {l t:List UInt8} (h:openL l=(t,0)):sealL t=l:=by
 unfold openL at h
 split at h
 · injection h with _ h;cases h
 · split at h
   · rename_i hd
     injection h with h _
     unfold sealL
     rw [←h,←hd,List.take_append_drop]
   · injection h with _ h;cases h
theorem opn_only {s i:List UInt8} {v:Nat} (h:opnF s=(v,i,0)):s=sealL (80 :: 84 :: UInt8.ofNat v :: i)∧1≤v∧v≤3:=by
 by_cases h0:s.length < 8
 · rw [opn_few h0] at h;injection h with _ h;injection h with _ h;cases h
 · by_cases h1:s.take 2=[80,84]
   · by_cases h2:(s.getD 2 0).toNat < 1∨3 < (s.getD 2 0).toNat
     · rw [opn_none h0 h1 h2] at h;injection h with _ h;injection h with _ h;cases h
     · by_cases h3:(openL s).2=0
       · rw [opn_ok h0 h1 h2 h3] at h
         injection h with h4 h
         injection h with h5 _
         have ho:openL s=((openL s).1,0):=by rw [←h3]
         have hs:=openL_same ho
         have hl:=openL_few ho
         obtain ⟨t,ht⟩:∃ t,(openL s).1=t:=⟨_,rfl⟩
         rw [ht] at hs hl h5
         refine ⟨?_,by omega,by omega⟩
         rw [←hs]
         congr 1
         match t,hl,hs,h5 with
         | [],hl,_,_=>simp at hl;omega
         | [_],hl,_,_=>simp at hl;omega
         | [_,_],hl,_,_=>simp at hl;omega
         | a :: b :: c :: r,_,hs,h5 =>
           have e1:s.take 2=[a,b]:=by rw [←hs];rfl
           have e2:s.getD 2 0=c:=by rw [←hs];rfl
           rw [h1] at e1
           injection e1 with e1 e3
           injection e3 with e3 _
           rw [e2] at h4
           rw [←e1,←e3,←h4,ofNat_toNat,←h5];rfl
       · rw [opn_spoilt h0 h1 h2 rfl h3] at h;injection h with _ h;injection h with _ h;exact absurd h h3
   · rw [opn_name h0 h1] at h;injection h with _ h;injection h with _ h;cases h
theorem old_only {s:List UInt8} {f h:List Ent} {l:List Wr} (h0:oldF s=.inr (f,h,l)):rightB f h l ∧
   ((∃ i,opnF s=(1,i,0)∧firstF f h l=(s,0,-1))∨∃ i,opnF s=(2,i,0)∧secondF f h l=(s,0,-1)):=by
 obtain ⟨v,i,e,ho⟩:∃ v i e,opnF s=(v,i,e):=⟨_,_,_,rfl⟩
 by_cases he:e=0
 · subst he
   obtain ⟨hs,hv1,hv3⟩:=opn_only ho
   rcases (show v=1∨v=2∨v=3 by omega) with rfl | rfl | rfl
   · match h1:unO i with
     | .inl e=>rw [old_bad ho (by decide) (by decide) h1] at h0;cases h0
     | .inr b =>
       rw [old_ok ho (by decide) (by decide) h1] at h0
       injection h0 with h0
       subst h0
       obtain ⟨g1,g2⟩:=unO_only h1
       have hr:(batF f h l).1=0:=g1
       refine ⟨g1,.inl ⟨i,ho,?_⟩⟩
       unfold firstF
       rw [if_neg (by rw [hr];simp),g2]
       exact Prod.ext hs.symm rfl
   · rw [old_two ho] at h0
     obtain ⟨g1,g2,g3⟩:=unb_only h0
     have hb:bodyF f h l=(i,0,-1):=by rw [bodyF_ok g1 (by rw [g2];omega),g2]
     refine ⟨g1,.inr ⟨i,ho,?_⟩⟩
     unfold secondF
     rw [hb,if_neg (by simp)]
     exact Prod.ext hs.symm rfl
   · rw [old_state ho] at h0;cases h0
 · rw [old_open ho he] at h0;cases h0
end Go.Proofs.YtjkbmfpomgcblaaGreatDoor
