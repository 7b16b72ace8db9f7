import Derived.Test.YtjkbmfpomgcblaaGreatDoorKr17
namespace Go.Proofs.YtjkbmfpomgcblaaGreatDoor
open Go.RowKit
def entsP (l:List Ent):List UInt8:=l.flatMap fun e=>putL e.rep.toNat ++ putL e.time.toNat
def plainL (l:List Ent):List UInt8:=putL l.length ++ entsP l
def oldW (x:Wr):List UInt8:=[UInt8.ofNat x.kind.toNat] ++ putL x.time.toNat ++ putL x.rep.toNat ++ spanL x.key.data.toList ++ tailL x
theorem entsP_cons (e:Ent) (l:List Ent):entsP (e :: l)=putL e.rep.toNat ++ (putL e.time.toNat ++ entsP l):=by simp [entsP]
def unP (s:List UInt8):Nat→Nat→List Ent→Nat ⊕ (Nat×List Ent)
 | 0,a,L=>.inr (a,L)
 | k + 1,a,L=>match intL (s.drop a) 200 with
   | (r,j,e)=>if e≠0 then .inl e else match intL (s.drop (a + j)) 1099511627776 with
     | (t,i,e)=>if e≠0 then .inl e else unP s k (a + j + i) (L ++ [⟨(r:Int),(t:Int)⟩])
section
variable {s:List UInt8} {k a r j t i e:Nat} {L:List Ent}
theorem unP_rep (h:intL (s.drop a) 200=(r,j,e)) (he:e≠0):unP s (k + 1) a L=.inl e:=by rw [unP,h];simp only;rw [if_pos he]
theorem unP_time (h:intL (s.drop a) 200=(r,j,0)) (h1:intL (s.drop (a + j)) 1099511627776=(t,i,e)) (he:e≠0):unP s (k + 1) a L=.inl e:=by
 rw [unP,h];simp only;rw [if_neg (by simp),h1];simp only;rw [if_pos he]
theorem unP_ok (h:intL (s.drop a) 200=(r,j,0)) (h1:intL (s.drop (a + j)) 1099511627776=(t,i,0)):unP s (k + 1) a L=unP s k (a + j + i) (L ++ [⟨(r:Int),(t:Int)⟩]):=by
 rw [unP,h];simp only;rw [if_neg (by simp),h1];simp only;rw [if_neg (by simp)]
end
theorem unP_ne {s:List UInt8}:∀ (k a:Nat) (L:List Ent) (e:Nat),unP s k a L=.inl e→e≠0:=by
 intro k
 induction k with
 | zero=>intro a L e h;cases h
 | succ k ih =>
   intro a L e h
   obtain ⟨r,j,e1,h1⟩:∃ r j e1,intL (s.drop a) 200=(r,j,e1):=⟨_,_,_,rfl⟩
   by_cases he1:e1=0
   · subst he1
     obtain ⟨t,i,e2,h2⟩:∃ t i e2,intL (s.drop (a + j)) 1099511627776=(t,i,e2):=⟨_,_,_,rfl⟩
     by_cases he2:e2=0
     · subst he2;rw [unP_ok h1 h2] at h;exact ih _ _ _ h
     · rw [unP_time h1 h2 he2] at h;injection h with h;rw [←h];exact he2
   · rw [unP_rep h1 he1] at h;injection h with h;rw [←h];exact he1
theorem unP_only {s:List UInt8} (k:Nat):∀ (a b:Nat) (L M:List Ent),a≤s.length→unP s k a L=.inr (b,M)→∃ M1,M=L ++ M1∧M1.length=k∧s.drop a=entsP M1 ++ s.drop b∧b≤s.length∧a≤b:=by
 induction k with
 | zero =>
   intro a b L M ha h0
   rw [unP] at h0
   simp only [Sum.inr.injEq,Prod.mk.injEq] at h0
   obtain ⟨rfl,rfl⟩:=h0
   exact ⟨[],by simp,rfl,rfl,ha,Nat.le_refl _⟩
 | succ k ih =>
   intro a b L M ha h0
   rcases intL_cases (s.drop a) 200 with ⟨e,h1,he,_⟩ | ⟨r,j,h1,hr,_,_,hj,hp⟩
   · rw [unP_rep h1 he] at h0;cases h0
   · rcases intL_cases (s.drop (a + j)) 1099511627776 with ⟨e,h2,he,_⟩ | ⟨t,i,h2,ht,_,_,hi,hq⟩
     · rw [unP_time h1 h2 he] at h0;cases h0
     · rw [unP_ok h1 h2] at h0
       rw [List.length_drop] at hj hi
       obtain ⟨M1,rfl,g2,g3,g4,g5⟩:=ih _ _ _ _ (by omega) h0
       refine ⟨⟨(r:Int),(t:Int)⟩ :: M1,by simp,by simp [g2],?_,g4,by omega⟩
       rw [entsP_cons,List.append_assoc,List.append_assoc,←g3]
       have d1:=drop_put hp
       have d2:=drop_put hq
       rw [d1,d2]
       rfl
def unE (s:List UInt8) (a:Nat):Nat ⊕ (Nat×List Ent) :=
 match intL (s.drop a) 16 with
 | (k,j,e)=>if e≠0 then .inl e else unP s k (a + j) []
theorem unE_bad {s:List UInt8} {a k j e:Nat} (h:intL (s.drop a) 16=(k,j,e)) (he:e≠0):unE s a=.inl e:=by unfold unE;rw [h];simp only;rw [if_pos he]
theorem unE_ok {s:List UInt8} {a k j:Nat} (h:intL (s.drop a) 16=(k,j,0)):unE s a=unP s k (a + j) []:=by unfold unE;rw [h];simp only;rw [if_neg (by simp)]
theorem unE_ne {s:List UInt8} {a e:Nat} (h:unE s a=.inl e):e≠0:=by
 obtain ⟨k,j,e1,h1⟩:∃ k j e1,intL (s.drop a) 16=(k,j,e1):=⟨_,_,_,rfl⟩
 by_cases he:e1=0
 · subst he;rw [unE_ok h1] at h;exact unP_ne _ _ _ _ h
 · rw [unE_bad h1 he] at h;injection h with h;rw [←h];exact he
theorem unE_only {s:List UInt8} {a b:Nat} {l:List Ent} (ha:a≤s.length) (h:unE s a=.inr (b,l)):s.drop a=plainL l ++ s.drop b∧b≤s.length∧a≤b:=by
 rcases intL_cases (s.drop a) 16 with ⟨e,h1,he,_⟩ | ⟨k,j,h1,hk,_,_,hj,hp⟩
 · rw [unE_bad h1 he] at h;cases h
 · rw [unE_ok h1] at h
   rw [List.length_drop] at hj
   obtain ⟨M1,g1,g2,g3,g4,g5⟩:=unP_only _ _ _ _ _ (by omega) h
   rw [List.nil_append] at g1
   subst g1
   refine ⟨?_,g4,by omega⟩
   unfold plainL
   rw [List.append_assoc,←g3,g2]
   exact drop_put hp
def unV (s:List UInt8) (a:Nat):Nat ⊕ (Nat×Wr) :=
 match kindF (s.drop a) with
 | (K,_,e)=>if e≠0 then .inl e else
   match intL (s.drop (a + 1)) 1099511627776 with
   | (t,k1,e)=>if e≠0 then .inl e else
     match intL (s.drop (a + 1 + k1)) 200 with
     | (r,k2,e)=>if e≠0 then .inl e else
       match getS (s.drop (a + 1 + k1 + k2)) with
       | (key,k3,e)=>if e≠0 then .inl e else
         if fillE t r K ⟨key.toArray⟩ (s.drop (a + 1 + k1 + k2 + k3))≠0 then .inl (fillE t r K ⟨key.toArray⟩ (s.drop (a + 1 + k1 + k2 + k3)))
         else .inr (a + 1 + k1 + k2 + k3 + fillN K (s.drop (a + 1 + k1 + k2 + k3)),⟨t,r,K,⟨key.toArray⟩,fillV K (s.drop (a + 1 + k1 + k2 + k3)),(getN K (s.drop (a + 1 + k1 + k2 + k3))).1⟩)
section
variable {s key:List UInt8} {a K j t k1 r k2 k3 e:Nat}
theorem unV_kind (h0:kindF (s.drop a)=(K,j,e)) (he:e≠0):unV s a=.inl e:=by unfold unV;rw [h0];simp only;rw [if_pos he]
theorem unV_time (h0:kindF (s.drop a)=(K,j,0)) (h1:intL (s.drop (a + 1)) 1099511627776=(t,k1,e)) (he:e≠0):unV s a=.inl e:=by
 unfold unV;rw [h0];simp only;rw [if_neg (by simp),h1];simp only;rw [if_pos he]
theorem unV_rep (h0:kindF (s.drop a)=(K,j,0)) (h1:intL (s.drop (a + 1)) 1099511627776=(t,k1,0)) (h2:intL (s.drop (a + 1 + k1)) 200=(r,k2,e)) (he:e≠0):unV s a=.inl e:=by
 unfold unV;rw [h0];simp only;rw [if_neg (by simp),h1];simp only;rw [if_neg (by simp),h2];simp only;rw [if_pos he]
theorem unV_key (h0:kindF (s.drop a)=(K,j,0)) (h1:intL (s.drop (a + 1)) 1099511627776=(t,k1,0)) (h2:intL (s.drop (a + 1 + k1)) 200=(r,k2,0)) (h3:getS (s.drop (a + 1 + k1 + k2))=(key,k3,e)) (he:e≠0):unV s a=.inl e:=by
 unfold unV;rw [h0];simp only;rw [if_neg (by simp),h1];simp only;rw [if_neg (by simp),h2];simp only;rw [if_neg (by simp),h3];simp only;rw [if_pos he]
theorem unV_fill (h0:kindF (s.drop a)=(K,j,0)) (h1:intL (s.drop (a + 1)) 1099511627776=(t,k1,0)) (h2:intL (s.drop (a + 1 + k1)) 200=(r,k2,0)) (h3:getS (s.drop (a + 1 + k1 + k2))=(key,k3,0))
   (h4:fillE t r K ⟨key.toArray⟩ (s.drop (a + 1 + k1 + k2 + k3))=e) (he:e≠0):unV s a=.inl e:=by
 unfold unV;rw [h0];simp only;rw [if_neg (by simp),h1];simp only;rw [if_neg (by simp),h2];simp only;rw [if_neg (by simp),h3];simp only;rw [if_neg (by simp),if_pos (by rw [h4];exact he),h4]
theorem unV_ok (h0:kindF (s.drop a)=(K,j,0)) (h1:intL (s.drop (a + 1)) 1099511627776=(t,k1,0)) (h2:intL (s.drop (a + 1 + k1)) 200=(r,k2,0)) (h3:getS (s.drop (a + 1 + k1 + k2))=(key,k3,0))
   (h4:fillE t r K ⟨key.toArray⟩ (s.drop (a + 1 + k1 + k2 + k3))=0) :
   unV s a=.inr (a + 1 + k1 + k2 + k3 + fillN K (s.drop (a + 1 + k1 + k2 + k3)),⟨t,r,K,⟨key.toArray⟩,fillV K (s.drop (a + 1 + k1 + k2 + k3)),(getN K (s.drop (a + 1 + k1 + k2 + k3))).1⟩):=by
 unfold unV;rw [h0];simp only;rw [if_neg (by simp),h1];simp only;rw [if_neg (by simp),h2];simp only;rw [if_neg (by simp),h3];simp only;rw [if_neg (by simp),if_neg (by rw [h4];simp)]
end
theorem unV_ne {s:List UInt8} {a e:Nat} (h:unV s a=.inl e):e≠0:=by
 unfold unV at h
 repeat' split at h
 all_goals first
   | (injection h with h;rw [←h];assumption)
   | cases h
theorem unV_only {s:List UInt8} {a b:Nat} {x:Wr} (h0:unV s a=.inr (b,x)):wE x=0∧s.drop a=oldW x ++ s.drop b∧a < b∧b≤s.length:=by
 rcases kind_cases (s.drop a) with ⟨e,hk,he⟩ | ⟨c,r,hc,hk,hc1,hc4⟩
 · rw [unV_kind hk he] at h0;cases h0
 · have hal : a < s.length := by
     rcases Nat.lt_or_ge a s.length with h' | h'
     · exact h'
     · rw [List.drop_of_length_le h'] at hc;cases hc
   have hr:r=s.drop (a + 1):=by rw [←List.drop_drop,hc];rfl
   rcases intL_cases (s.drop (a + 1)) 1099511627776 with ⟨e,h1,he,_⟩ | ⟨t,k1,h1,ht,_,_,hk1l,hp1⟩
   · rw [unV_time hk h1 he] at h0;cases h0
   · rcases intL_cases (s.drop (a + 1 + k1)) 200 with ⟨e,h2,he,_⟩ | ⟨p,k2,h2,hp,_,_,hk2l,hp2⟩
     · rw [unV_rep hk h1 h2 he] at h0;cases h0
     · obtain ⟨key,k3,e3,h3⟩:∃ key k3 e3,getS (s.drop (a + 1 + k1 + k2))=(key,k3,e3):=⟨_,_,_,rfl⟩
       by_cases he3:e3=0
       · subst he3
         obtain ⟨w1,w2,w3,w4⟩:=wspan_only h3
         by_cases h4:fillE t p c.toNat ⟨key.toArray⟩ (s.drop (a + 1 + k1 + k2 + k3))=0
         · rw [unV_ok hk h1 h2 h3 h4] at h0
           simp only [Sum.inr.injEq,Prod.mk.injEq] at h0
           obtain ⟨hb,rfl⟩:=h0
           obtain ⟨f1,f2,f3⟩:=fill_only h4
           have e1:=drop_put hp1
           have e2:=drop_put hp2
           have e3:=drop_put w4
           have e4:=drop_put f2
           rw [List.length_drop] at hk1l hk2l w2 f3
           obtain ⟨L,hL⟩:∃ L,s.drop (a + 1 + k1 + k2 + k3)=L:=⟨_,rfl⟩
           rw [hL] at f1 e3 e4 hb ⊢
           rw [hL] at f3
           refine ⟨f1,?_,by omega,by omega⟩
           unfold oldW tailL
           simp only
           rw [show ((t:Int)).toNat=t by omega,show ((p:Int)).toNat=p by omega,show ((c.toNat:Nat):Int).toNat=c.toNat by omega,ofNat_toNat,hc,hr,e1,e2,e3]
           obtain ⟨X,hX⟩:∃ X,(tailB (c.toNat:Int) (fillV (c.toNat:Int) L) (getN (c.toNat:Int) L).1).data.toList=X:=⟨_,rfl⟩
           rw [hX] at e4 ⊢
           rw [hb] at e4
           rw [e4]
           simp
         · rw [unV_fill hk h1 h2 h3 rfl h4] at h0;cases h0
       · rw [unV_key hk h1 h2 h3 he3] at h0;cases h0
def unVs (s:List UInt8):Nat→Nat→List Wr→Nat ⊕ (Nat×List Wr)
 | 0,a,W=>.inr (a,W)
 | k + 1,a,W=>match unV s a with
   | .inl e=>.inl e
   | .inr (b,x)=>unVs s k b (W ++ [x])
theorem unVs_bad {s:List UInt8} {k a e:Nat} {W:List Wr} (h:unV s a=.inl e):unVs s (k + 1) a W=.inl e:=by rw [unVs,h]
theorem unVs_ok {s:List UInt8} {k a b:Nat} {W:List Wr} {x:Wr} (h:unV s a=.inr (b,x)):unVs s (k + 1) a W=unVs s k b (W ++ [x]):=by rw [unVs,h]
theorem unVs_ne {s:List UInt8}:∀ (k a:Nat) (W:List Wr) (e:Nat),unVs s k a W=.inl e→e≠0:=by
 intro k
 induction k with
 | zero=>intro a W e h;cases h
 | succ k ih =>
   intro a W e h
   match h1:unV s a with
   | .inl e1=>rw [unVs_bad h1] at h;injection h with h;rw [←h];exact unV_ne h1
   | .inr (b,x)=>rw [unVs_ok h1] at h;exact ih _ _ _ h
def unO (s:List UInt8):Nat ⊕ (List Ent×List Ent×List Wr) :=
 match unE s 0 with
 | .inl e=>.inl e
 | .inr (a,f)=>match unE s a with
   | .inl e=>.inl e
   | .inr (b,h)=>match intL (s.drop b) 60 with
     | (k,j,e)=>if e≠0 then .inl e else
       match unVs s k (b + j) [] with
       | .inl e=>.inl e
       | .inr (c,W)=>if c < s.length then .inl 3 else if (batF f h W).1≠0 then .inl (batF f h W).1 else .inr (f,h,W)
section
variable {s:List UInt8} {f h:List Ent} {W:List Wr} {a b c k j e:Nat}
theorem unO_from (h1:unE s 0=.inl e):unO s=.inl e:=by unfold unO;rw [h1]
theorem unO_have (h1:unE s 0=.inr (a,f)) (h2:unE s a=.inl e):unO s=.inl e:=by unfold unO;rw [h1];simp only;rw [h2]
theorem unO_many (h1:unE s 0=.inr (a,f)) (h2:unE s a=.inr (b,h)) (h3:intL (s.drop b) 60=(k,j,e)) (he:e≠0):unO s=.inl e:=by
 unfold unO;rw [h1];simp only;rw [h2];simp only;rw [h3];simp only;rw [if_pos he]
theorem unO_write1 (h1:unE s 0=.inr (a,f)) (h2:unE s a=.inr (b,h)) (h3:intL (s.drop b) 60=(k,j,0)) (h4:unVs s k (b + j) []=.inl e):unO s=.inl e:=by
 unfold unO;rw [h1];simp only;rw [h2];simp only;rw [h3];simp only;rw [if_neg (by simp),h4]
theorem unO_rest (h1:unE s 0=.inr (a,f)) (h2:unE s a=.inr (b,h)) (h3:intL (s.drop b) 60=(k,j,0)) (h4:unVs s k (b + j) []=.inr (c,W)) :
   unO s=if c < s.length then .inl 3 else if (batF f h W).1≠0 then .inl (batF f h W).1 else .inr (f,h,W):=by
 unfold unO;rw [h1];simp only;rw [h2];simp only;rw [h3];simp only;rw [if_neg (by simp),h4]
end
theorem unO_ne {s:List UInt8} {e:Nat} (h0:unO s=.inl e):e≠0:=by
 match h1:unE s 0 with
 | .inl e1=>rw [unO_from h1] at h0;injection h0 with h0;rw [←h0];exact unE_ne h1
 | .inr (a,f) =>
   match h2:unE s a with
   | .inl e1=>rw [unO_have h1 h2] at h0;injection h0 with h0;rw [←h0];exact unE_ne h2
   | .inr (b,h) =>
     obtain ⟨k,j,e1,h3⟩:∃ k j e1,intL (s.drop b) 60=(k,j,e1):=⟨_,_,_,rfl⟩
     by_cases he:e1=0
     · subst he
       match h4:unVs s k (b + j) [] with
       | .inl e1=>rw [unO_write1 h1 h2 h3 h4] at h0;injection h0 with h0;rw [←h0];exact unVs_ne _ _ _ _ h4
       | .inr (c,W) =>
         rw [unO_rest h1 h2 h3 h4] at h0
         split at h0
         · injection h0 with h0;rw [←h0];decide
         · split at h0
           · rename_i hb;injection h0 with h0;rw [←h0];exact hb
           · cases h0
     · rw [unO_many h1 h2 h3 he] at h0;injection h0 with h0;rw [←h0];exact he
def oldF (s:List UInt8):(Nat×Int) ⊕ (List Ent×List Ent×List Wr) :=
 match opnF s with
 | (v,i,e)=>if e≠0 then .inl (e,-1) else if v=3 then .inl (6,-1) else if v=2 then unbF i else
   match unO i with
   | .inl e=>.inl (e,-1)
   | .inr b=>.inr b
section
variable {s i:List UInt8} {v e:Nat} {b:List Ent×List Ent×List Wr}
theorem old_open (h0:opnF s=(v,i,e)) (he:e≠0):oldF s=.inl (e,-1):=by unfold oldF;rw [h0];simp only;rw [if_pos he]
theorem old_state (h0:opnF s=(3,i,0)):oldF s=.inl (6,-1):=by unfold oldF;rw [h0];simp only;rw [if_neg (by simp),if_pos trivial]
theorem old_two (h0:opnF s=(2,i,0)):oldF s=unbF i:=by unfold oldF;rw [h0];simp only;rw [if_neg (by simp),if_neg (by simp),if_pos trivial]
theorem old_bad (h0:opnF s=(v,i,0)) (h3:v≠3) (h2:v≠2) (h1:unO i=.inl e):oldF s=.inl (e,-1):=by unfold oldF;rw [h0];simp only;rw [if_neg (by simp),if_neg h3,if_neg h2,h1]
theorem old_ok (h0:opnF s=(v,i,0)) (h3:v≠3) (h2:v≠2) (h1:unO i=.inr b):oldF s=.inr b:=by unfold oldF;rw [h0];simp only;rw [if_neg (by simp),if_neg h3,if_neg h2,h1]
end
theorem openL_same {l t:List UInt8} (h:openL l=(t,0)):sealL t=l:=by
 unfold openL at h
 split at h
 · injection h with _ h;cases h
 · split at h
   · rename_i hd
     injection h with h _
     unfold sealL
     rw [←h,←hd,List.take_append_drop]
   · injection h with _ h;cases h
theorem opn_only {s i:List UInt8} {v:Nat} (h:opnF s=(v,i,0)):s=sealL (80 :: 84 :: UInt8.ofNat v :: i)∧1≤v∧v≤3:=by
 by_cases h0:s.length < 8
 · rw [opn_few h0] at h;injection h with _ h;injection h with _ h;cases h
 · by_cases h1:s.take 2=[80,84]
   · by_cases h2:(s.getD 2 0).toNat < 1∨3 < (s.getD 2 0).toNat
     · rw [opn_none h0 h1 h2] at h;injection h with _ h;injection h with _ h;cases h
     · by_cases h3:(openL s).2=0
       · rw [opn_ok h0 h1 h2 h3] at h
         injection h with h4 h
         injection h with h5 _
         have ho:openL s=((openL s).1,0):=by rw [←h3]
         have hs:=openL_same ho
         have hl:=openL_few ho
         obtain ⟨t,ht⟩:∃ t,(openL s).1=t:=⟨_,rfl⟩
         rw [ht] at hs hl h5
         refine ⟨?_,by omega,by omega⟩
         rw [←hs]
         congr 1
         match t,hl,hs,h5 with
         | [],hl,_,_=>simp at hl;omega
         | [_],hl,_,_=>simp at hl;omega
         | [_,_],hl,_,_=>simp at hl;omega
         | a :: b :: c :: r,_,hs,h5 =>
           have e1:s.take 2=[a,b]:=by rw [←hs];rfl
           have e2:s.getD 2 0=c:=by rw [←hs];rfl
           rw [h1] at e1
           injection e1 with e1 e3
           injection e3 with e3 _
           rw [e2] at h4
           rw [←e1,←e3,←h4,ofNat_toNat,←h5];rfl
       · rw [opn_spoilt h0 h1 h2 rfl h3] at h;injection h with _ h;injection h with _ h;exact absurd h h3
   · rw [opn_name h0 h1] at h;injection h with _ h;injection h with _ h;cases h
end Go.Proofs.YtjkbmfpomgcblaaGreatDoor
namespace Go.Proofs.YtjkbmfpomgcblaaGreatDoor
open Go.RowKit
def numS (most:Int) (l:List UInt8) (e:Nat):Nat×List UInt8×Nat:=if e≠0 then (0,l,e) else ((intL l most).1,l.drop (intL l most).2.1,(intL l most).2.2)
def kindS (l:List UInt8) (e:Nat):Nat×List UInt8×Nat:=if e≠0 then (0,l,e) else ((kindF l).1,l.drop (kindF l).2.1,(kindF l).2.2)
def textS (l:List UInt8) (e:Nat):List UInt8×List UInt8×Nat:=if e≠0 then ([],l,e) else ((getS l).1,l.drop (getS l).2.1,(getS l).2.2)
def zeroR:Wr:=⟨0,0,0,⟨#[]⟩,⟨#[]⟩,0⟩
def fillR (T R K:Int) (key:ByteArray) (l:List UInt8):Wr×Nat×Nat:=if fillE T R K key l≠0 then (zeroR,0,fillE T R K key l) else (⟨T,R,K,key,fillV K l,(getN K l).1⟩,fillN K l,0)
def fillS (T R K:Int) (key:ByteArray) (l:List UInt8) (e:Nat):Wr×List UInt8×Nat :=
 if e≠0 then (zeroR,l,e) else ((fillR T R K key l).1,l.drop (fillR T R K key l).2.1,(fillR T R K key l).2.2)
theorem fillR_bad {T R K:Int} {key:ByteArray} {l:List UInt8} {x:Nat} (h:fillE T R K key l=x) (hx:x≠0):fillR T R K key l=(zeroR,0,x):=by unfold fillR;rw [if_pos (by rw [h];exact hx),h]
theorem fillR_ok {T R K:Int} {key:ByteArray} {l:List UInt8} (h:fillE T R K key l=0):fillR T R K key l=(⟨T,R,K,key,fillV K l,(getN K l).1⟩,fillN K l,0):=by unfold fillR;rw [if_neg (by rw [h];simp)]
theorem fillS_go {T R K:Int} {key:ByteArray} {l:List UInt8} {y:Wr} {k x:Nat} (h:fillR T R K key l=(y,k,x)):fillS T R K key l 0=(y,l.drop k,x):=by unfold fillS;rw [if_neg (by simp),h]
theorem numS_skip {most:Int} {l:List UInt8} {e:Nat} (he:e≠0):numS most l e=(0,l,e):=by unfold numS;rw [if_pos he]
theorem numS_go {most:Int} {l:List UInt8} {n k x:Nat} (h:intL l most=(n,k,x)):numS most l 0=(n,l.drop k,x):=by unfold numS;rw [if_neg (by simp),h]
theorem kindS_skip {l:List UInt8} {e:Nat} (he:e≠0):kindS l e=(0,l,e):=by unfold kindS;rw [if_pos he]
theorem kindS_go {l:List UInt8} {n k x:Nat} (h:kindF l=(n,k,x)):kindS l 0=(n,l.drop k,x):=by unfold kindS;rw [if_neg (by simp),h]
theorem textS_skip {l:List UInt8} {e:Nat} (he:e≠0):textS l e=([],l,e):=by unfold textS;rw [if_pos he]
theorem textS_go {l t:List UInt8} {k x:Nat} (h:getS l=(t,k,x)):textS l 0=(t,l.drop k,x):=by unfold textS;rw [if_neg (by simp),h]
theorem fillS_skip {T R K:Int} {key:ByteArray} {l:List UInt8} {e:Nat} (he:e≠0):fillS T R K key l e=(zeroR,l,e):=by unfold fillS;rw [if_pos he]
theorem fillS_bad {T R K:Int} {key:ByteArray} {l:List UInt8} {x:Nat} (h:fillE T R K key l=x) (hx:x≠0):fillS T R K key l 0=(zeroR,l,x):=by rw [fillS_go (fillR_bad h hx)];rfl
theorem fillS_ok {T R K:Int} {key:ByteArray} {l:List UInt8} (h:fillE T R K key l=0):fillS T R K key l 0=(⟨T,R,K,key,fillV K l,(getN K l).1⟩,l.drop (fillN K l),0):=fillS_go (fillR_ok h)
theorem fillR_fit {T R K:Int} {key:ByteArray} {l:List UInt8} {y:Wr} {k x:Nat} (h:fillR T R K key l=(y,k,x)):k≤l.length:=by
 by_cases he:fillE T R K key l=0
 · rw [fillR_ok he] at h;injection h with _ h;injection h with h _;rw [←h];exact (fill_only he).2.2
 · rw [fillR_bad rfl he] at h;injection h with _ h;injection h with h _;omega
def entsS:Nat→List UInt8→Nat→List Ent→List Ent×List UInt8×Nat
 | 0,l,e,L=>(L,l,e)
 | k + 1, l, e, L => entsS k (numS 1099511627776 (numS 200 l e).2.1 (numS 200 l e).2.2).2.1 (numS 1099511627776 (numS 200 l e).2.1 (numS 200 l e).2.2).2.2
     (L ++ [⟨((numS 200 l e).1:Int),((numS 1099511627776 (numS 200 l e).2.1 (numS 200 l e).2.2).1:Int)⟩])
def vecS (l:List UInt8) (e:Nat):List Ent×List UInt8×Nat:=entsS (numS 16 l e).1 (numS 16 l e).2.1 (numS 16 l e).2.2 []
def wrS (l:List UInt8) (e:Nat):Wr×List UInt8×Nat :=
 match kindS l e with
 | (K,l1,e1)=>match numS 1099511627776 l1 e1 with
   | (t,l2,e2)=>match numS 200 l2 e2 with
     | (r,l3,e3)=>match textS l3 e3 with
       | (key,l4,e4)=>fillS t r K ⟨key.toArray⟩ l4 e4
theorem wrS_of {l l1 l2 l3 l4 key:List UInt8} {e e1 e2 e3 e4 K t r:Nat} (h0:kindS l e=(K,l1,e1)) (h1:numS 1099511627776 l1 e1=(t,l2,e2)) (h2:numS 200 l2 e2=(r,l3,e3)) (h3:textS l3 e3=(key,l4,e4)):wrS l e=fillS t r K ⟨key.toArray⟩ l4 e4:=by
 unfold wrS;rw [h0];simp only;rw [h1];simp only;rw [h2];simp only;rw [h3]
def wrsS:Nat→List UInt8→Nat→List Wr→List Wr×List UInt8×Nat
 | 0,l,e,W=>(W,l,e)
 | k + 1,l,e,W=>wrsS k (wrS l e).2.1 (wrS l e).2.2 (W ++ [(wrS l e).1])
theorem intL_fit {l:List UInt8} {most:Int} {n k x:Nat} (h:intL l most=(n,k,x)):k≤l.length∧(0≤most→(n:Int)≤most):=by
 rcases intL_cases l most with ⟨e,h1,_⟩ | ⟨n',k',h1,h2,_,_,h3,_⟩
 · rw [h1] at h;injection h with h2 h;injection h with h3 _;exact ⟨by omega,fun hm=>by omega⟩
 · rw [h1] at h;injection h with h4 h;injection h with h5 _;exact ⟨by omega,fun _=>by omega⟩
theorem kindF_fit {l:List UInt8} {n k x:Nat} (h:kindF l=(n,k,x)):k≤l.length∧n≤4:=by
 unfold kindF at h
 split at h
 · injection h with h1 h;injection h with h2 _;exact ⟨by omega,by omega⟩
 · split at h
   · injection h with h1 h;injection h with h2 _;exact ⟨by omega,by omega⟩
   · injection h with h1 h;injection h with h2 _;exact ⟨by rw [←h2];simp,by omega⟩
theorem getS_fit {l t:List UInt8} {k x:Nat} (h:getS l=(t,k,x)):k≤l.length∧t.length≤2000∧(x≠0→t=[]∧k=0):=by
 by_cases hx:x=0
 · subst hx
   have:=wspan_only h
   exact ⟨this.2.1,this.2.2.1,fun h=>absurd rfl h⟩
 · rcases getL_cases l with ⟨e,hg,he⟩ | ⟨n,j,hg,_⟩
   · rw [getS_bad hg he] at h;injection h with h1 h;injection h with h2 _;subst h1 h2;simp
   · by_cases h2:2000 < n
     · rw [getS_big hg h2] at h;injection h with h1 h;injection h with h2 _;subst h1 h2;simp
     · by_cases h3:l.length < j + n
       · rw [getS_miss hg h2 h3] at h;injection h with h1 h;injection h with h2 _;subst h1 h2;simp
       · rw [getS_ok hg h2 h3] at h;injection h with _ h;injection h with _ h;exact absurd h.symm hx
theorem numS_most {most:Int} (h:0≤most) (l:List UInt8) (e:Nat):((numS most l e).1:Int)≤most:=by
 unfold numS;split
 · exact h
 · exact (intL_fit (n:=(intL l most).1) (k:=(intL l most).2.1) (x:=(intL l most).2.2) rfl).2 h
theorem entsS_skip {l:List UInt8} {e:Nat} (he:e≠0):∀ (k:Nat) (L:List Ent),(entsS k l e L).2=(l,e):=by
 intro k
 induction k with
 | zero=>intro L;rfl
 | succ k ih=>intro L;rw [entsS,numS_skip he,numS_skip he];exact ih _
theorem entsS_len (k:Nat):∀ (l:List UInt8) (e:Nat) (L:List Ent),(entsS k l e L).1.length=L.length + k:=by
 induction k with
 | zero=>intro l e L;rfl
 | succ k ih=>intro l e L;rw [entsS,ih,List.length_append];simp;omega
theorem vecS_len (l:List UInt8) (e:Nat):(vecS l e).1.length≤16:=by
 unfold vecS;rw [entsS_len]
 have:=numS_most (most:=16) (by decide) l e
 simp;omega
theorem vecS_skip {l:List UInt8} {e:Nat} (he:e≠0):vecS l e=([],l,e):=by unfold vecS;rw [numS_skip he];rfl
theorem wrS_skip {l:List UInt8} {e:Nat} (he:e≠0):wrS l e=(zeroR,l,e):=by
 rw [wrS_of (kindS_skip he) (numS_skip he) (numS_skip he) (textS_skip he),fillS_skip he]
theorem wrsS_skip {l:List UInt8} {e:Nat} (he:e≠0):∀ (k:Nat) (W:List Wr),(wrsS k l e W).2=(l,e):=by
 intro k
 induction k with
 | zero=>intro W;rfl
 | succ k ih=>intro W;rw [wrsS,wrS_skip he];exact ih _
theorem wrsS_len (k:Nat):∀ (l:List UInt8) (e:Nat) (W:List Wr),(wrsS k l e W).1.length=W.length + k:=by
 induction k with
 | zero=>intro l e W;rfl
 | succ k ih=>intro l e W;rw [wrsS,ih,List.length_append];simp;omega
theorem entsS_bad {s:List UInt8} (k:Nat):∀ (a:Nat) (L:List Ent) (x:Nat),unP s k a L=.inl x→(entsS k (s.drop a) 0 L).2.2=x:=by
 induction k with
 | zero=>intro a L x h;cases h
 | succ k ih =>
   intro a L x h
   obtain ⟨r,j,e1,h1⟩:∃ r j e1,intL (s.drop a) 200=(r,j,e1):=⟨_,_,_,rfl⟩
   by_cases he1:e1=0
   · subst he1
     obtain ⟨t,i,e2,h2⟩:∃ t i e2,intL (s.drop (a + j)) 1099511627776=(t,i,e2):=⟨_,_,_,rfl⟩
     rw [entsS,numS_go h1,List.drop_drop,numS_go h2,List.drop_drop]
     by_cases he2:e2=0
     · subst he2;rw [unP_ok h1 h2] at h;exact ih _ _ _ h
     · rw [unP_time h1 h2 he2] at h;injection h with h;subst h;simp only;rw [entsS_skip he2]
   · rw [unP_rep h1 he1] at h;injection h with h;subst h
     rw [entsS,numS_go h1,numS_skip he1];simp only;rw [entsS_skip he1]
theorem entsS_good {s:List UInt8} (k:Nat):∀ (a:Nat) (L M:List Ent) (b:Nat),unP s k a L=.inr (b,M)→entsS k (s.drop a) 0 L=(M,s.drop b,0):=by
 induction k with
 | zero=>intro a L M b h;rw [unP] at h;injection h with h;injection h with h1 h2;subst h1 h2;rfl
 | succ k ih =>
   intro a L M b h
   obtain ⟨r,j,e1,h1⟩:∃ r j e1,intL (s.drop a) 200=(r,j,e1):=⟨_,_,_,rfl⟩
   by_cases he1:e1=0
   · subst he1
     obtain ⟨t,i,e2,h2⟩:∃ t i e2,intL (s.drop (a + j)) 1099511627776=(t,i,e2):=⟨_,_,_,rfl⟩
     rw [entsS,numS_go h1,List.drop_drop,numS_go h2,List.drop_drop]
     by_cases he2:e2=0
     · subst he2;rw [unP_ok h1 h2] at h;exact ih _ _ _ _ h
     · rw [unP_time h1 h2 he2] at h;cases h
   · rw [unP_rep h1 he1] at h;cases h
theorem vecS_bad {s:List UInt8} {a x:Nat} (h:unE s a=.inl x):(vecS (s.drop a) 0).2.2=x:=by
 obtain ⟨k,j,e1,h1⟩:∃ k j e1,intL (s.drop a) 16=(k,j,e1):=⟨_,_,_,rfl⟩
 unfold vecS
 rw [numS_go h1,List.drop_drop]
 by_cases he:e1=0
 · subst he;rw [unE_ok h1] at h;exact entsS_bad _ _ _ _ h
 · rw [unE_bad h1 he] at h;injection h with h;subst h;simp only;rw [entsS_skip he]
theorem vecS_good {s:List UInt8} {a b:Nat} {M:List Ent} (h:unE s a=.inr (b,M)):vecS (s.drop a) 0=(M,s.drop b,0):=by
 obtain ⟨k,j,e1,h1⟩:∃ k j e1,intL (s.drop a) 16=(k,j,e1):=⟨_,_,_,rfl⟩
 unfold vecS
 rw [numS_go h1,List.drop_drop]
 by_cases he:e1=0
 · subst he;rw [unE_ok h1] at h;exact entsS_good _ _ _ _ _ h
 · rw [unE_bad h1 he] at h;cases h
theorem kindF_one {l:List UInt8} {K j:Nat} (h:kindF l=(K,j,0)):j=1:=by
 unfold kindF at h
 split at h
 · injection h with _ h;injection h with _ h;cases h
 · split at h
   · injection h with _ h;injection h with _ h;cases h
   · injection h with _ h;injection h with h _;exact h.symm
theorem wrS_bad {s:List UInt8} {a x:Nat} (h:unV s a=.inl x):(wrS (s.drop a) 0).2.2=x:=by
 obtain ⟨K,j,e0,h0⟩:∃ K j e,kindF (s.drop a)=(K,j,e):=⟨_,_,_,rfl⟩
 by_cases he0:e0=0
 · subst he0
   obtain rfl:=kindF_one h0
   obtain ⟨t,k1,e1,h1⟩:∃ t k e,intL (s.drop (a + 1)) 1099511627776=(t,k,e):=⟨_,_,_,rfl⟩
   have g0:=kindS_go h0
   rw [List.drop_drop] at g0
   by_cases he1:e1=0
   · subst he1
     obtain ⟨r,k2,e2,h2⟩:∃ t k e,intL (s.drop (a + 1 + k1)) 200=(t,k,e):=⟨_,_,_,rfl⟩
     have g1:=numS_go h1
     rw [List.drop_drop] at g1
     by_cases he2:e2=0
     · subst he2
       obtain ⟨key,k3,e3,h3⟩:∃ t k e,getS (s.drop (a + 1 + k1 + k2))=(t,k,e):=⟨_,_,_,rfl⟩
       have g2:=numS_go h2
       rw [List.drop_drop] at g2
       have g3:=textS_go h3
       rw [List.drop_drop] at g3
       rw [wrS_of g0 g1 g2 g3]
       by_cases he3:e3=0
       · subst he3
         by_cases h4:fillE t r K ⟨key.toArray⟩ (s.drop (a + 1 + k1 + k2 + k3))=0
         · rw [unV_ok h0 h1 h2 h3 h4] at h;cases h
         · rw [unV_fill h0 h1 h2 h3 rfl h4] at h;injection h with h;rw [fillS_bad h (by rw [←h];exact h4)]
       · rw [unV_key h0 h1 h2 h3 he3] at h;injection h with h;subst h;rw [fillS_skip he3]
     · rw [unV_rep h0 h1 h2 he2] at h;injection h with h;subst h
       rw [wrS_of g0 g1 (numS_go h2) (textS_skip he2),fillS_skip he2]
   · rw [unV_time h0 h1 he1] at h;injection h with h;subst h
     rw [wrS_of g0 (numS_go h1) (numS_skip he1) (textS_skip he1),fillS_skip he1]
 · rw [unV_kind h0 he0] at h;injection h with h;subst h
   rw [wrS_of (kindS_go h0) (numS_skip he0) (numS_skip he0) (textS_skip he0),fillS_skip he0]
theorem wrS_good {s:List UInt8} {a b:Nat} {y:Wr} (h:unV s a=.inr (b,y)):wrS (s.drop a) 0=(y,s.drop b,0):=by
 obtain ⟨K,j,e0,h0⟩:∃ K j e,kindF (s.drop a)=(K,j,e):=⟨_,_,_,rfl⟩
 by_cases he0:e0=0
 · subst he0
   obtain rfl:=kindF_one h0
   obtain ⟨t,k1,e1,h1⟩:∃ t k e,intL (s.drop (a + 1)) 1099511627776=(t,k,e):=⟨_,_,_,rfl⟩
   have g0:=kindS_go h0
   rw [List.drop_drop] at g0
   by_cases he1:e1=0
   · subst he1
     obtain ⟨r,k2,e2,h2⟩:∃ t k e,intL (s.drop (a + 1 + k1)) 200=(t,k,e):=⟨_,_,_,rfl⟩
     have g1:=numS_go h1
     rw [List.drop_drop] at g1
     by_cases he2:e2=0
     · subst he2
       obtain ⟨key,k3,e3,h3⟩:∃ t k e,getS (s.drop (a + 1 + k1 + k2))=(t,k,e):=⟨_,_,_,rfl⟩
       have g2:=numS_go h2
       rw [List.drop_drop] at g2
       by_cases he3:e3=0
       · subst he3
         have g3:=textS_go h3
         rw [List.drop_drop] at g3
         by_cases h4:fillE t r K ⟨key.toArray⟩ (s.drop (a + 1 + k1 + k2 + k3))=0
         · rw [unV_ok h0 h1 h2 h3 h4] at h
           injection h with h
           injection h with i1 i2
           rw [wrS_of g0 g1 g2 g3,fillS_ok h4,List.drop_drop,i1,i2]
         · rw [unV_fill h0 h1 h2 h3 rfl h4] at h;cases h
       · rw [unV_key h0 h1 h2 h3 he3] at h;cases h
     · rw [unV_rep h0 h1 h2 he2] at h;cases h
   · rw [unV_time h0 h1 he1] at h;cases h
 · rw [unV_kind h0 he0] at h;cases h
theorem wrsS_bad {s:List UInt8} (k:Nat):∀ (a:Nat) (W:List Wr) (x:Nat),unVs s k a W=.inl x→(wrsS k (s.drop a) 0 W).2.2=x:=by
 induction k with
 | zero=>intro a W x h;cases h
 | succ k ih =>
   intro a W x h
   match h1:unV s a with
   | .inl e1 =>
     rw [unVs_bad h1] at h;injection h with h;subst h
     have h2:=wrS_bad h1
     rw [wrsS,h2,wrsS_skip (unV_ne h1)]
   | .inr (b,y)=>rw [unVs_ok h1] at h;rw [wrsS,wrS_good h1];exact ih _ _ _ h
theorem wrsS_good {s:List UInt8} (k:Nat):∀ (a:Nat) (W M:List Wr) (b:Nat),unVs s k a W=.inr (b,M)→wrsS k (s.drop a) 0 W=(M,s.drop b,0):=by
 induction k with
 | zero=>intro a W M b h;rw [unVs] at h;injection h with h;injection h with h1 h2;subst h1 h2;rfl
 | succ k ih =>
   intro a W M b h
   match h1:unV s a with
   | .inl e1=>rw [unVs_bad h1] at h;cases h
   | .inr (c,y)=>rw [unVs_ok h1] at h;rw [wrsS,wrS_good h1];exact ih _ _ _ _ h
theorem unO_parts {s:List UInt8} {f h:List Ent} {W:List Wr} {l1 l2 l3 l4:List UInt8} {e1 e2 e3 e4 k:Nat} (h1:vecS s 0=(f,l1,e1)) (h2:vecS l1 e1=(h,l2,e2)) (h3:numS 60 l2 e2=(k,l3,e3)) (h4:wrsS k l3 e3 []=(W,l4,e4)) :
   unO s=if e4≠0 then .inl e4 else if l4≠[] then .inl 3 else if (batF f h W).1≠0 then .inl (batF f h W).1 else .inr (f,h,W):=by
 match u1:unE s 0 with
 | .inl x =>
   have hx:=unE_ne u1
   have g:=vecS_bad u1
   rw [List.drop_zero,h1] at g
   simp only at g
   subst g
   rw [vecS_skip hx] at h2
   injection h2 with _ h2;injection h2 with _ h2;subst h2
   rw [numS_skip hx] at h3
   injection h3 with _ h3;injection h3 with _ h3;subst h3
   have g4:=wrsS_skip (l:=l3) hx k []
   rw [h4] at g4
   injection g4 with _ g4
   rw [unO_from u1,g4,if_pos hx]
 | .inr (a,f') =>
   have g:=vecS_good u1
   rw [List.drop_zero,h1] at g
   injection g with g1 g;injection g with g2 g3
   subst g1 g2 g3
   match u2:unE s a with
   | .inl x =>
     have hx:=unE_ne u2
     have g:=vecS_bad u2
     rw [h2] at g
     simp only at g
     subst g
     rw [numS_skip hx] at h3
     injection h3 with _ h3;injection h3 with _ h3;subst h3
     have g4:=wrsS_skip (l:=l3) hx k []
     rw [h4] at g4
     injection g4 with _ g4
     rw [unO_have u1 u2,g4,if_pos hx]
   | .inr (b,h') =>
     have g:=vecS_good u2
     rw [h2] at g
     injection g with g1 g;injection g with g2 g3
     subst g1 g2 g3
     obtain ⟨k',j,x,u3⟩:∃ k j x,intL (s.drop b) 60=(k,j,x):=⟨_,_,_,rfl⟩
     rw [numS_go u3,List.drop_drop] at h3
     injection h3 with i1 h3;injection h3 with i2 i3
     subst i1 i2 i3
     by_cases hx:x=0
     · subst hx
       match u4:unVs s k' (b + j) [] with
       | .inl y =>
         have g:=wrsS_bad _ _ _ _ u4
         rw [h4] at g
         simp only at g
         subst g
         rw [unO_write1 u1 u2 u3 u4,if_pos (unVs_ne _ _ _ _ u4)]
       | .inr (c,W') =>
         have g:=wrsS_good _ _ _ _ _ u4
         rw [h4] at g
         injection g with i1 g;injection g with i2 i3
         subst i1 i2 i3
         rw [unO_rest u1 u2 u3 u4,if_neg (show ¬ (0:Nat)≠0 by simp)]
         by_cases hc:c < s.length
         · rw [if_pos hc,if_pos (show s.drop c≠[] by intro e;have:=congrArg List.length e;rw [List.length_drop] at this;simp at this;omega)]
         · rw [if_neg hc,if_neg (show ¬ s.drop c≠[] by rw [List.drop_of_length_le (by omega)];simp)]
     · have g4:=wrsS_skip (l:=s.drop (b + j)) hx k' []
       rw [h4] at g4
       injection g4 with _ g4
       rw [unO_many u1 u2 u3 hx,g4,if_pos hx]
end Go.Proofs.YtjkbmfpomgcblaaGreatDoor
