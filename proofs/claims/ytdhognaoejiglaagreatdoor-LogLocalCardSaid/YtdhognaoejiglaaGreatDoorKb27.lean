import Derived.Test.YtdhognaoejiglaaGreatDoorKb26
namespace Go.Proofs.YtdhognaoejiglaaGreatDoor
open Lib (hid)
set_option maxRecDepth 100000
set_option maxHeartbeats 8000000
section
open Go.RowKit
def cM (l:List Ent):List UInt8:=l.flatMap fun e=>putL e.rep.toNat++putL e.time.toNat
def bR (l:List Ent):List UInt8:=putL l.length++cM l
def oldW (x:Wr):List UInt8:=[UInt8.ofNat x.kind.toNat]++putL x.time.toNat++putL x.rep.toNat++bT x.key.data.toList++dj x
def bD (l:List Wr):List UInt8:=l.flatMap oldW
def oldL (f h:List Ent) (l:List Wr):List UInt8:=bR f++bR h++putL l.length++bD l
def fZ (f h:List Ent) (l:List Wr):List UInt8×Nat×Int:=if (batF f h l).1≠0 then ([],batF f h l) else (bi (80::84::1::oldL f h l),0,-1)
def gn (f h:List Ent) (l:List Wr):List UInt8×Nat×Int:=if (aJ f h l).2.1≠0 then ([],(aJ f h l).2) else (bi (80::84::2::(aJ f h l).1),0,-1)
theorem mW (e:Ent) (l:List Ent):cM (e::l)=putL e.rep.toNat++(putL e.time.toNat++cM l):=by simp [cM]
theorem nX (x:Wr) (l:List Wr):bD (x::l)=oldW x++bD l:=by simp [bD]
def unP (s:List UInt8):Nat→Nat→List Ent→Nat ⊕ (Nat×List Ent)
 | 0,a,L=>.inr (a,L)
 | k+1,a,L=>match intL (s.drop a) 200 with
  | (r,j,e)=>if e≠0 then .inl e else match intL (s.drop (a+j)) 1099511627776 with
   | (t,i,e)=>if e≠0 then .inl e else unP s k (a+j+i) (L++[⟨(r:Int),(t:Int)⟩])
section
variable {s:List UInt8} {k a r j t i e:Nat} {L:List Ent}
theorem oY (h:intL (s.drop a) 200=(r,j,e)) (he:e≠0):unP s (k+1) a L=.inl e:=by rw [unP,h];simp only;rw [if_pos he]
theorem oZ (h:intL (s.drop a) 200=(r,j,0)) (h1:intL (s.drop (a+j)) 1099511627776=(t,i,e)) (he:e≠0):unP s (k+1) a L=.inl e:=by
 rw [unP,h];simp only;rw [if_neg (by simp),h1];simp only;rw [if_pos he]
theorem m6 (h:intL (s.drop a) 200=(r,j,0)) (h1:intL (s.drop (a+j)) 1099511627776=(t,i,0)):unP s (k+1) a L=unP s k (a+j+i) (L++[⟨(r:Int),(t:Int)⟩]):=by
 rw [unP,h];simp only;rw [if_neg (by simp),h1];simp only;rw [if_neg (by simp)]
end
theorem F9 {s:List UInt8}:∀ (k a:Nat) (L:List Ent) (e:Nat),unP s k a L=.inl e→e≠0:=by
 intro k
 induction k with
 | zero=>intro a L e h;cases h
 | succ k ih =>
  intro a L e h;obtain ⟨r,j,e1,h1⟩:∃ r j e1,intL (s.drop a) 200=(r,j,e1):=⟨_,_,_,rfl⟩;by_cases he1:e1=0
  ·subst he1;obtain ⟨t,i,e2,h2⟩:∃ t i e2,intL (s.drop (a+j)) 1099511627776=(t,i,e2):=⟨_,_,_,rfl⟩;by_cases he2:e2=0
   ·subst he2;rw [m6 h1 h2] at h;exact ih _ _ _ h
   ·rw [oZ h1 h2 he2] at h;injection h with h;rw [←h];exact he2
  ·rw [oY h1 he1] at h;injection h with h;rw [←h];exact he1
theorem Fa {s:List UInt8} (l:List Ent):∀ (a:Nat) (L:List Ent) (more:List UInt8),(∀ e∈l,0≤e.rep∧e.rep≤200∧0≤e.time∧e.time≤1099511627776)→s.drop a=cM l++more→unP s l.length a L=.inr (a+(cM l).length,L++l):=by
 induction l with
 | nil=>intro a L more _ _;simp [unP,cM]
 | cons x l ih =>
  intro a L more hx hs;obtain ⟨b1,b2,b3,b4⟩:=hx x List.mem_cons_self;rw [mW,List.append_assoc,List.append_assoc] at hs;have e1:=bK hs;have e2:=bK e1;have k1:intL (s.drop a) 200=(x.rep.toNat,(putL x.rep.toNat).length,0):=by rw [hs];exact cN _ _ _ (by omega) (by omega)
  have k2:intL (s.drop (a+(putL x.rep.toNat).length)) 1099511627776=(x.time.toNat,(putL x.time.toNat).length,0):=by rw [e1];exact cN _ _ _ (by omega) (by omega)
  have hx1:(⟨((x.rep.toNat:Nat):Int),((x.time.toNat:Nat):Int)⟩:Ent)=x:=by
   obtain ⟨r,t⟩:=x;simp only at b1 b3 ⊢
   congr 1 <;> omega
  rw [List.length_cons,m6 k1 k2,hx1,ih _ _ more (fun e he=>hx e (List.mem_cons_of_mem _ he)) e2,mW,List.length_append,List.length_append];simp [Nat.add_assoc]
def unE (s:List UInt8) (a:Nat):Nat ⊕ (Nat×List Ent) :=
 match intL (s.drop a) 16 with
 | (k,j,e)=>if e≠0 then .inl e else unP s k (a+j) []
theorem oV {s:List UInt8} {a k j e:Nat} (h:intL (s.drop a) 16=(k,j,e)) (he:e≠0):unE s a=.inl e:=by unfold unE;rw [h];simp only;rw [if_pos he]
theorem m5 {s:List UInt8} {a k j:Nat} (h:intL (s.drop a) 16=(k,j,0)):unE s a=unP s k (a+j) []:=by unfold unE;rw [h];simp only;rw [if_neg (by simp)]
theorem m4 {s:List UInt8} {a e:Nat} (h:unE s a=.inl e):e≠0:=by
 obtain ⟨k,j,e1,h1⟩:∃ k j e1,intL (s.drop a) 16=(k,j,e1):=⟨_,_,_,rfl⟩;by_cases he:e1=0
 ·subst he;rw [m5 h1] at h;exact F9 _ _ _ _ h
 ·rw [oV h1 he] at h;injection h with h;rw [←h];exact he
theorem ux {s:List UInt8} {l:List Ent} {a:Nat} {more:List UInt8} (hl:aB l) (hs:s.drop a=bR l++more):unE s a=.inr (a+(bR l).length,l):=by
 have h16:=hl.1;unfold bR at hs ⊢;rw [List.append_assoc] at hs;have k1:intL (s.drop a) 16=(l.length,(putL l.length).length,0):=by rw [hs];exact cN _ _ _ (by omega) (by omega)
 rw [m5 k1,Fa l _ [] more (fun e he=>by have:=bJ hl.2 e he;omega) (bK hs),List.length_append,List.nil_append,Nat.add_assoc]
def unV (s:List UInt8) (a:Nat):Nat ⊕ (Nat×Wr) :=
 match ar (s.drop a) with
 | (K,_,e)=>if e≠0 then .inl e else
  match intL (s.drop (a+1)) 1099511627776 with
  | (t,k1,e)=>if e≠0 then .inl e else
   match intL (s.drop (a+1+k1)) 200 with
   | (r,k2,e)=>if e≠0 then .inl e else
    match getS (s.drop (a+1+k1+k2)) with
    | (key,k3,e)=>if e≠0 then .inl e else
     if aH t r K ⟨key.toArray⟩ (s.drop (a+1+k1+k2+k3))≠0 then .inl (aH t r K ⟨key.toArray⟩ (s.drop (a+1+k1+k2+k3)))
     else .inr (a+1+k1+k2+k3+cH K (s.drop (a+1+k1+k2+k3)),⟨t,r,K,⟨key.toArray⟩,cy K (s.drop (a+1+k1+k2+k3)),(getN K (s.drop (a+1+k1+k2+k3))).1⟩)
section
variable {s key:List UInt8} {a K j t k1 r k2 k3 e:Nat}
theorem uM (h0:ar (s.drop a)=(K,j,e)) (he:e≠0):unV s a=.inl e:=by unfold unV;rw [h0];simp only;rw [if_pos he]
theorem uP (h0:ar (s.drop a)=(K,j,0)) (h1:intL (s.drop (a+1)) 1099511627776=(t,k1,e)) (he:e≠0):unV s a=.inl e:=by
 unfold unV;rw [h0];simp only;rw [if_neg (by simp),h1];simp only;rw [if_pos he]
theorem uO (h0:ar (s.drop a)=(K,j,0)) (h1:intL (s.drop (a+1)) 1099511627776=(t,k1,0)) (h2:intL (s.drop (a+1+k1)) 200=(r,k2,e)) (he:e≠0):unV s a=.inl e:=by
 unfold unV;rw [h0];simp only;rw [if_neg (by simp),h1];simp only;rw [if_neg (by simp),h2];simp only;rw [if_pos he]
theorem uL (h0:ar (s.drop a)=(K,j,0)) (h1:intL (s.drop (a+1)) 1099511627776=(t,k1,0)) (h2:intL (s.drop (a+1+k1)) 200=(r,k2,0)) (h3:getS (s.drop (a+1+k1+k2))=(key,k3,e)) (he:e≠0):unV s a=.inl e:=by
 unfold unV;rw [h0];simp only;rw [if_neg (by simp),h1];simp only;rw [if_neg (by simp),h2];simp only;rw [if_neg (by simp),h3];simp only;rw [if_pos he]
theorem uK (h0:ar (s.drop a)=(K,j,0)) (h1:intL (s.drop (a+1)) 1099511627776=(t,k1,0)) (h2:intL (s.drop (a+1+k1)) 200=(r,k2,0)) (h3:getS (s.drop (a+1+k1+k2))=(key,k3,0))
 (h4:aH t r K ⟨key.toArray⟩ (s.drop (a+1+k1+k2+k3))=e) (he:e≠0):unV s a=.inl e:=by
 unfold unV;rw [h0];simp only;rw [if_neg (by simp),h1];simp only;rw [if_neg (by simp),h2];simp only;rw [if_neg (by simp),h3];simp only;rw [if_neg (by simp),if_pos (by rw [h4];exact he),h4]
theorem p8 (h0:ar (s.drop a)=(K,j,0)) (h1:intL (s.drop (a+1)) 1099511627776=(t,k1,0)) (h2:intL (s.drop (a+1+k1)) 200=(r,k2,0)) (h3:getS (s.drop (a+1+k1+k2))=(key,k3,0))
 (h4:aH t r K ⟨key.toArray⟩ (s.drop (a+1+k1+k2+k3))=0) :
 unV s a=.inr (a+1+k1+k2+k3+cH K (s.drop (a+1+k1+k2+k3)),⟨t,r,K,⟨key.toArray⟩,cy K (s.drop (a+1+k1+k2+k3)),(getN K (s.drop (a+1+k1+k2+k3))).1⟩):=by
 unfold unV;rw [h0];simp only;rw [if_neg (by simp),h1];simp only;rw [if_neg (by simp),h2];simp only;rw [if_neg (by simp),h3];simp only;rw [if_neg (by simp),if_neg (by rw [h4];simp)]
end
theorem uN {s:List UInt8} {a e:Nat} (h:unV s a=.inl e):e≠0:=by
 unfold unV at h
 repeat' split at h
 all_goals first
  | (injection h with h;rw [←h];assumption)
  | cases h
theorem Fh {s more:List UInt8} {a:Nat} {x:Wr} (hs:s.drop a=oldW x++more) (hw:wE x=0):unV s a=.inr (a+(oldW x).length,x):=by
 have hf:=cL hw;unfold oldW at hs ⊢;have hk0:ar (s.drop a)=(x.kind.toNat,1,0):=by
  rw [hs];have hc:(UInt8.ofNat x.kind.toNat).toNat=x.kind.toNat:=fh (by omega);refine (j7 (UInt8.ofNat x.kind.toNat) _).trans ?_;rw [hc,if_neg (by omega)]
 have e1:s.drop (a+1)=putL x.time.toNat++(putL x.rep.toNat++(bT x.key.data.toList++(dj x++more))):=by
  have:=bK (x:=[UInt8.ofNat x.kind.toNat]) (y:=putL x.time.toNat++(putL x.rep.toNat++(bT x.key.data.toList++(dj x++more)))) (by rw [hs];simp)
  simpa using this
 have e2:=bK e1;have e3:=bK e2;have e4:=bK e3;have k1:intL (s.drop (a+1)) 1099511627776=(x.time.toNat,(putL x.time.toNat).length,0):=by rw [e1];exact cN _ _ _ (by omega) (by omega)
 have k2:intL (s.drop (a+1+(putL x.time.toNat).length)) 200=(x.rep.toNat,(putL x.rep.toNat).length,0):=by rw [e2];exact cN _ _ _ (by omega) (by omega)
 have k3:getS (s.drop (a+1+(putL x.time.toNat).length+(putL x.rep.toNat).length))=(x.key.data.toList,(bT x.key.data.toList).length,0):=by rw [e3];exact pB _ _ (by rw [←aj];omega)
 have ht:((x.time.toNat:Nat):Int)=x.time:=by omega
 have hr:((x.rep.toNat:Nat):Int)=x.rep:=by omega
 have hk:((x.kind.toNat:Nat):Int)=x.kind:=by omega
 have hkey:(⟨x.key.data.toList.toArray⟩:ByteArray)=x.key:=rfl;obtain ⟨f1,f2,f3,f4⟩:=qT (T:=x.time) (R:=x.rep) (key:=x.key) hw more;have hok:=p8 (s:=s) hk0 k1 k2 k3 (by rw [ht,hr,hk,hkey,e4];exact f1);rw [ht,hr,hk,hkey,e4] at hok;unfold dj at hok ⊢;rw [f2,f3,f4] at hok;rw [hok];simp only [List.length_append,List.length_cons,List.length_nil]
 refine congrArg Sum.inr (Prod.ext ?_ rfl);simp only
 omega
def unVs (s:List UInt8):Nat→Nat→List Wr→Nat ⊕ (Nat×List Wr)
 | 0,a,W=>.inr (a,W)
 | k+1,a,W=>match unV s a with
  | .inl e=>.inl e
  | .inr (b,x)=>unVs s k b (W++[x])
theorem p9 {s:List UInt8} {k a e:Nat} {W:List Wr} (h:unV s a=.inl e):unVs s (k+1) a W=.inl e:=by rw [unVs,h]
theorem m8 {s:List UInt8} {k a b:Nat} {W:List Wr} {x:Wr} (h:unV s a=.inr (b,x)):unVs s (k+1) a W=unVs s k b (W++[x]):=by rw [unVs,h]
theorem uQ {s:List UInt8}:∀ (k a:Nat) (W:List Wr) (e:Nat),unVs s k a W=.inl e→e≠0:=by
 intro k
 induction k with
 | zero=>intro a W e h;cases h
 | succ k ih =>
  intro a W e h
  match h1:unV s a with
  | .inl e1=>rw [p9 h1] at h;injection h with h;rw [←h];exact uN h1
  | .inr (b,x)=>rw [m8 h1] at h;exact ih _ _ _ h
theorem Fi {s:List UInt8} (l:List Wr):∀ (a:Nat) (W:List Wr) (more:List UInt8),(∀ x∈l,wE x=0)→s.drop a=bD l++more→unVs s l.length a W=.inr (a+(bD l).length,W++l):=by
 induction l with
 | nil=>intro a W more _ _;simp [unVs,bD]
 | cons x l ih =>
  intro a W more hx hs;rw [nX,List.append_assoc] at hs;rw [List.length_cons,m8 (Fh hs (hx x List.mem_cons_self)),ih _ _ more (fun y hy=>hx y (List.mem_cons_of_mem _ hy)) (bK hs),nX,List.length_append];simp [Nat.add_assoc]
def unO (s:List UInt8):Nat ⊕ (List Ent×List Ent×List Wr) :=
 match unE s 0 with
 | .inl e=>.inl e
 | .inr (a,f)=>match unE s a with
  | .inl e=>.inl e
  | .inr (b,h)=>match intL (s.drop b) 60 with
   | (k,j,e)=>if e≠0 then .inl e else
    match unVs s k (b+j) [] with
    | .inl e=>.inl e
    | .inr (c,W)=>if c<s.length then .inl 3 else if (batF f h W).1≠0 then .inl (batF f h W).1 else .inr (f,h,W)
section
variable {s:List UInt8} {f h:List Ent} {W:List Wr} {a b c k j e:Nat}
theorem uy (h1:unE s 0=.inl e):unO s=.inl e:=by unfold unO;rw [h1]
theorem uz (h1:unE s 0=.inr (a,f)) (h2:unE s a=.inl e):unO s=.inl e:=by unfold unO;rw [h1];simp only;rw [h2]
theorem uB (h1:unE s 0=.inr (a,f)) (h2:unE s a=.inr (b,h)) (h3:intL (s.drop b) 60=(k,j,e)) (he:e≠0):unO s=.inl e:=by
 unfold unO;rw [h1];simp only;rw [h2];simp only;rw [h3];simp only;rw [if_pos he]
theorem uC (h1:unE s 0=.inr (a,f)) (h2:unE s a=.inr (b,h)) (h3:intL (s.drop b) 60=(k,j,0)) (h4:unVs s k (b+j) []=.inl e):unO s=.inl e:=by
 unfold unO;rw [h1];simp only;rw [h2];simp only;rw [h3];simp only;rw [if_neg (by simp),h4]
theorem oW (h1:unE s 0=.inr (a,f)) (h2:unE s a=.inr (b,h)) (h3:intL (s.drop b) 60=(k,j,0)) (h4:unVs s k (b+j) []=.inr (c,W)) :
 unO s=if c<s.length then .inl 3 else if (batF f h W).1≠0 then .inl (batF f h W).1 else .inr (f,h,W):=by
 unfold unO;rw [h1];simp only;rw [h2];simp only;rw [h3];simp only;rw [if_neg (by simp),h4]
end
theorem F4 {s:List UInt8} {e:Nat} (h0:unO s=.inl e):e≠0:=by
 match h1:unE s 0 with
 | .inl e1=>rw [uy h1] at h0;injection h0 with h0;rw [←h0];exact m4 h1
 | .inr (a,f) =>
  match h2:unE s a with
  | .inl e1=>rw [uz h1 h2] at h0;injection h0 with h0;rw [←h0];exact m4 h2
  | .inr (b,h) =>
   obtain ⟨k,j,e1,h3⟩:∃ k j e1,intL (s.drop b) 60=(k,j,e1):=⟨_,_,_,rfl⟩;by_cases he:e1=0
   ·subst he
    match h4:unVs s k (b+j) [] with
    | .inl e1=>rw [uC h1 h2 h3 h4] at h0;injection h0 with h0;rw [←h0];exact uQ _ _ _ _ h4
    | .inr (c,W) =>
     rw [oW h1 h2 h3 h4] at h0;split at h0
     ·injection h0 with h0;rw [←h0];decide
     ·split at h0
      ·rename_i hb;injection h0 with h0;rw [←h0];exact hb
      ·cases h0
   ·rw [uB h1 h2 h3 he] at h0;injection h0 with h0;rw [←h0];exact he
theorem F6 {f h:List Ent} {l:List Wr} (hr:aY f h l):unO (oldL f h l)=.inr (f,h,l):=by
 have hb:=dX.1 hr;obtain ⟨⟨g1,g2,g3⟩,g4,g5,g6⟩:=hb;obtain ⟨s,hs⟩:∃ s,oldL f h l=s:=⟨_,rfl⟩;have hs0:s=bR f++(bR h++(putL l.length++(bD l++[]))):=by rw [←hs];unfold oldL;simp
 have e0:s.drop 0=bR f++(bR h++(putL l.length++(bD l++[]))):=by rw [List.drop_zero];exact hs0
 have e1:=bK e0;rw [Nat.zero_add] at e1;have e2:=bK e1;have e3:=bK e2;have k1:=ux g1 e0;rw [Nat.zero_add] at k1;have k2:=ux g2 e1;have k3:intL (s.drop ((bR f).length+(bR h).length)) 60=(l.length,(putL l.length).length,0):=by rw [e2];exact cN _ _ _ (by omega) (by omega)
 have k4:=Fi l _ [] [] (fun x hx=>(g5 x hx).1) e3;have hr0:(batF f h l).1=0:=hr;have hlen:s.length=(bR f).length+(bR h).length+(putL l.length).length+(bD l).length:=by rw [hs0];simp only [List.length_append,List.length_nil];omega
 rw [hs,oW k1 k2 k3 k4,List.nil_append,if_neg (by omega),if_neg (by rw [hr0];simp)]
def oldF (s:List UInt8):(Nat×Int) ⊕ (List Ent×List Ent×List Wr) :=
 match opnF s with
 | (v,i,e)=>if e≠0 then .inl (e,-1) else if v=3 then .inl (6,-1) else if v=2 then unbF i else
  match unO i with
  | .inl e=>.inl (e,-1)
  | .inr b=>.inr b
section
variable {s i:List UInt8} {v e:Nat} {b:List Ent×List Ent×List Wr}
theorem C8 (h0:opnF s=(v,i,e)) (he:e≠0):oldF s=.inl (e,-1):=by unfold oldF;rw [h0];simp only;rw [if_pos he]
theorem sW (h0:opnF s=(3,i,0)):oldF s=.inl (6,-1):=by unfold oldF;rw [h0];simp only;rw [if_neg (by simp),if_pos trivial]
theorem nZ (h0:opnF s=(2,i,0)):oldF s=unbF i:=by unfold oldF;rw [h0];simp only;rw [if_neg (by simp),if_neg (by simp),if_pos trivial]
theorem C7 (h0:opnF s=(v,i,0)) (h3:v≠3) (h2:v≠2) (h1:unO i=.inl e):oldF s=.inl (e,-1):=by unfold oldF;rw [h0];simp only;rw [if_neg (by simp),if_neg h3,if_neg h2,h1]
theorem sV (h0:opnF s=(v,i,0)) (h3:v≠3) (h2:v≠2) (h1:unO i=.inr b):oldF s=.inr b:=by unfold oldF;rw [h0];simp only;rw [if_neg (by simp),if_neg h3,if_neg h2,h1]
end
theorem tm (l:List Ent):1≤(bR l).length:=by unfold bR;rw [List.length_append];have:=ia l.length;omega
theorem sU {f h:List Ent} {l:List Wr} (hr:aY f h l):oldF (bi (80::84::1::oldL f h l))=.inr (f,h,l):=by
 have hp:=tm f;refine sV (v:=1) (i:=oldL f h l) ?_ (by decide) (by decide) (F6 hr);rw [jg 1 _ (by unfold oldL;simp only [List.length_append];omega),if_neg (by decide)];rfl
theorem C9 {f h:List Ent} {l:List Wr} (hr:aY f h l) (hl:(aK f h l).length≤20000) (hp:1≤(aK f h l).length):oldF (bi (80::84::2::aK f h l))=.inr (f,h,l):=by
 have h1:=uT hr [] (by simpa using hl);rw [List.append_nil,if_pos rfl] at h1;rw [nZ (i:=aK f h l) (by rw [jg 2 _ hp,if_neg (by decide)];rfl),h1]
theorem Cj {l t:List UInt8} (h:aS l=(t,0)):bi t=l:=by
 unfold aS at h;split at h
 ·injection h with _ h;cases h
 ·split at h
  ·rename_i hd;injection h with h _
   unfold bi;rw [←h,←hd,List.take_append_drop]
  ·injection h with _ h;cases h
theorem Cl {s i:List UInt8} {v:Nat} (h:opnF s=(v,i,0)):s=bi (80::84::UInt8.ofNat v::i)∧1≤v∧v≤3:=by
 by_cases h0:s.length<8
 ·rw [o0 h0] at h;injection h with _ h;injection h with _ h;cases h
 ·by_cases h1:s.take 2=[80,84]
  ·by_cases h2:(s.getD 2 0).toNat<1∨3<(s.getD 2 0).toNat
   ·rw [lf h0 h1 h2] at h;injection h with _ h;injection h with _ h;cases h
   ·by_cases h3:(aS s).2=0
    ·rw [lg h0 h1 h2 h3] at h;injection h with h4 h
     injection h with h5 _
     have ho:aS s=((aS s).1,0):=by rw [←h3]
     have hs:=Cj ho;have hl:=sX ho;obtain ⟨t,ht⟩:∃ t,(aS s).1=t:=⟨_,rfl⟩;rw [ht] at hs hl h5;refine ⟨?_,by omega,by omega⟩;rw [←hs]
     congr 1
     match t,hl,hs,h5 with
     | [],hl,_,_=>simp at hl;omega
     | [_],hl,_,_=>simp at hl;omega
     | [_,_],hl,_,_=>simp at hl;omega
     | a::b::c::r,_,hs,h5 =>
      have e1:s.take 2=[a,b]:=by rw [←hs];rfl
      have e2:s.getD 2 0=c:=by rw [←hs];rfl
      rw [h1] at e1;injection e1 with e1 e3
      injection e3 with e3 _
      rw [e2] at h4;rw [←e1,←e3,←h4,ld,←h5];rfl
    ·rw [ob h0 h1 h2 rfl h3] at h;injection h with _ h;injection h with _ h;exact absurd h h3
  ·rw [oa h0 h1] at h;injection h with _ h;injection h with _ h;cases h
end
section
open Go.RowKit
theorem D1 {h:List Ent} {r:Int} {k:Nat} {e:Ent} (hk:h[k]? = some e) (hle:k≤bF h r) (he:e.rep=r):bF h r=k:=by
 obtain ⟨hl,hx⟩:=List.getElem?_eq_some_iff.1 hk;refine Nat.le_antisymm (Nat.not_lt.1 fun hlt=>?_) hle;have h2 : ¬ (decide ((h[k]'hl).rep = r) = true) := by simpa using List.not_of_lt_findIdx hlt
 exact h2 (by rw [hx];simpa using he)
theorem D2 {h:List Ent} {r:Int} {k:Nat} {e:Ent} (hk:h[k]? = some e) (hle:k≤bF h r) (he:e.rep≠r):k+1≤bF h r:=by
 obtain ⟨hl,hx⟩:=List.getElem?_eq_some_iff.1 hk;refine Nat.lt_of_le_of_ne hle fun heq=>he ?_
 have hlt:h.findIdx (fun e=>decide (e.rep=r))<h.length:=by show bF h r<_;omega
 have h2:=List.findIdx_getElem (w:=hlt);have h3 : h[h.findIdx (fun e => decide (e.rep = r))]'hlt = h[k]'hl := by congr 1; exact heq.symm
 rw [h3,hx] at h2
 simpa using h2
theorem xJ (x t r:Int) (B:Nat) (w:World) (c:Bool) (hB:B<w.heap.size) (h0:w.cell? ⟨B,0,none⟩=some (.int .i64 r)) (hc:decide (x=r)=c) :
 Calls Tryz.prog 174 #[.agg #[.int .i64 x,.int .i64 t],.pointer (some ⟨B,0,none⟩)] w fun e w'=>e=.returned (.bool c)∧Below w.heap.size w w':=by
 have hcc:(x == r)=c:=by rw [←hc];rfl
 have h1:(w.alloc (.cells #[.int .i64 x,.int .i64 t] 58)).cell? ⟨B,0,none⟩=some (.int .i64 r):=(World.cell?_alloc_lt _ _ _ hB).trans h0;go_enter Tryz.func174,Tryz.ntmps174
 go_wp2;go_ret;exact ⟨by first | rfl | (rw [hcc]),(Below.refl _ _).alloc (Nat.le_refl _) _⟩
theorem zZ (v:Value) (h:List Ent) (r:Int) (p B:Nat) (w:World) (hv:ae w v h) (hl:h.length≤1000000) (hB:B<w.heap.size) (h0:w.cell? ⟨B,0,none⟩=some (.int .i64 r)) (hp:bF h r=p) (hpl:p<h.length) :
 Calls Tryz.prog 173 #[v,.func (.func 174) #[] #[.pointer (some ⟨B,0,none⟩)]] w fun e w'=>e=.returned (.int .i64 (p:Int))∧Below w.heap.size w w':=by
 obtain ⟨a1,c1,rfl,f1⟩:=hv.form;have F1:=hid f1;obtain ⟨n,hn⟩:∃ n,n=h.length:=⟨_,rfl⟩;rw [←hn] at hl hpl ⊢;have HN:=hid hn;have HP:=hid hp;clear f1 hn hv hp;go_enter Tryz.func173,Tryz.ntmps173
 go_wp2
 go_loopw [8] (fun i wr=>∃ k:Nat,k≤p∧i=.int .i64 k∧Below w.heap.size w wr) (fun i _=>n-(intOf i).toNat)
 case atStart=>exact ⟨0,Nat.zero_le _,rfl,Below.refl _ _⟩
 case round =>
  obtain ⟨k,hk,rfl,hbel⟩:=hrel;have HB:=hid hbel;clear hbel;obtain ⟨x, hx⟩ : ∃ x, h[k]? = some x := ⟨h[k]'(by have := HN.out; omega), List.getElem?_eq_getElem _⟩;obtain ⟨b1,o1,rfl,hb1,p0,p1⟩:=F1.out k x hx;have hlt:k<n:=by omega
  have q0:=(HB.out.cell (p:=⟨b1,o1+k * 2,none⟩) hb1).trans p0;have q1:=(HB.out.cell (p:=⟨b1,o1+k * 2+1,none⟩) hb1).trans p1;have HC:Hid (wr.cell? ⟨B,0,none⟩=some (.int .i64 r)):=hid ((HB.out.cell (p:=⟨B,0,none⟩) hB).trans h0);have HBW:Hid (B<wr.heap.size):=hid (Nat.lt_of_lt_of_le hB HB.out.size);obtain ⟨c,hc⟩:∃ c,decide (x.rep=r)=c:=⟨_,rfl⟩;have HCC:=hid hc;have HX:=hid hx;obtain ⟨X,T⟩:=x;dsimp only at q0 q1 HCC
  clear p0 p1 hx hc;go_wp2_with fail
  refine (xJ X T r B wr c HBW.out HC.out HCC.out).mono ?_;rintro rr w1 ⟨rfl,hb1⟩;have HB1:Hid (Below w.heap.size w w1):=HB.out.trans (hb1.mono HB.out.size);clear hb1 q0 q1;cases c with
  | true =>
   have hpk:=D1 HX.out (by rw [HP.out];exact hk) (of_decide_eq_true HCC.out);rw [HP.out] at hpk;have HPK:=hid hpk;clear hpk;go_wp2;go_ret;exact ⟨by rw [HPK.out];rfl,HB1.out⟩
  | false =>
   have hpk:=D2 HX.out (by rw [HP.out];exact hk) (of_decide_eq_false HCC.out);rw [HP.out] at hpk;go_wp2;go_roundw
   case rel=>exact ⟨k+1,hpk,by go_num,HB1.out⟩
   case measure=>simp [intOf];omega
theorem xK (v:Value) (h:List Ent) (r:Int) (p:Nat) (w:World) (hv:ae w v h) (hl:h.length≤1000000) (hp:bF h r=p) (hpl:p<h.length) :
 Calls Tryz.prog 146 #[v,.int .i64 r] w fun e w'=>e=.returned (.int .i64 (p:Int))∧Below w.heap.size w w':=by
 have hmf:∀ (fn:Fn) (first cap:Array Value) (w:World),(Instr.makeFunc fn first cap).run Tryz.prog w=.ok (.func fn first cap) w:=fun _ _ _ _=>rfl
 have HV:=hid (hv.below ((Below.refl _ _).alloc (Nat.le_refl _) (.cells #[.int .i64 r] 3)));clear hv;go_enter Tryz.func146,Tryz.ntmps146
 go_wp2_with fail
 refine (zZ v h r p w.heap.size _ HV.out hl (by simp) (by simp) hp hpl).mono ?_;rintro rr w1 ⟨rfl,hb1⟩;have HB1:Hid (Below w.heap.size w w1):=hid (((Below.refl _ _).alloc (Nat.le_refl _) _).trans (hb1.mono (by simp)));clear hb1;go_wp2;go_ret;exact ⟨rfl,HB1.out⟩
end
section
open Go.RowKit
theorem Da {s:List UInt8} {f a e p:Nat} {l:List Tok} {b:List Nat} (h:rdF s f a l b=.inl (e,p)):e≠0:=by
 induction f generalizing a l b with
 | zero=>cases h
 | succ f ih =>
  by_cases hlt:a<s.length
  ·match hg:getT (s.drop a) with
   | .inl (e',p') =>
    rw [ly hlt hg] at h;injection h with h
    injection h with h1 h2
    subst h1;exact rC hg
   | .inr (t,k)=>rw [jl hlt hg] at h;exact ih h
  ·rw [jk hlt] at h;cases h
def dg (s:List UInt8):List UInt8:=if (aL s).1.1=0 then b7 [] (aL s).2 else []
theorem uc {s:List UInt8} (h:(aL s).1.1=0):dg s=b7 [] (aL s).2:=by unfold dg;rw [if_pos h]
theorem El {s:List UInt8} (h:¬ (aL s).1.1=0):dg s=[]:=by unfold dg;rw [if_neg h]
theorem Di {s:List UInt8} (h:(aL s).1.1=0):(aL s).1=(0,-1):=by
 match hr:rdF s s.length 0 [] [] with
 | .inl (e,p) =>
  rw [oo hr] at h;exact absurd h (Da hr)
 | .inr (l,b) =>
  by_cases hw:(am l 0 0).1=0
  ·rw [lz hr hw]
  ·rw [oq hr hw] at h;exact absurd h hw
def wA (w:World) (s:List UInt8) (e:Ending) (w':World):Prop :=
 ∃ err,e=.returned (.tuple #[.string ⟨(dg s).toArray⟩,err])∧atIs w' err (aL s).1∧Below w.heap.size w w'
theorem Bo (s:ByteArray) (w:World) (hs:s.size≤400000) (hg:errT w) :
 Calls Tryz.prog 156 #[.string s] w (wA w s.data.toList):=by
 have HG:=hid hg;clear hg;by_cases hr:(aL s.data.toList).1.1=0
 ·have HS:=hid (uc hr);have hr2:=(Dj hr).1;obtain ⟨f1,_,_⟩:=lB hr2;have HF1:Hid ((aL s.data.toList).2.length≤9223372036854775807):=hid (show (aL s.data.toList).2.length≤9223372036854775807 by omega);have HF2:Hid (∀ t∈(aL s.data.toList).2,t.own.size≤140737488351232):=hid (show ∀ t∈(aL s.data.toList).2,t.own.size≤140737488351232 from fun t ht=>by have:=tw hr2 t ht;omega);have HR0:=hid hr;have HRG:=hid (Di hr);have HR2:=hid hr2;have HT:Hid (dN (aL s.data.toList).2=b7 [] (aL s.data.toList).2):=hid (show dN (aL s.data.toList).2=b7 [] (aL s.data.toList).2 by unfold dN;rw [if_pos hr2]);clear hr hr2 f1;go_enter Tryz.func156,Tryz.ntmps156
  go_wp2_with fail
  refine (sC s _ hs HG.out).mono ?_;rintro r w1 ⟨v,err,rfl,hok,hat,hb1⟩;obtain rfl:=hat.nil HR0.out;have HK:=hid hok;have HB1:=hid hb1;clear hok hat hb1;go_wp2_with fail
  refine (EI v _ _ HK.out.is HF1.out HF2.out).mono ?_;rintro r w2 ⟨err,rfl,hat,hb2⟩;obtain rfl:=hat.nil HR2.out;have HB2:Hid (Below w.heap.size w w2):=HB1.out.trans (hb2.mono HB1.out.size);clear hat hb2;go_wp2;go_ret2;refine ⟨.nilIface,?_,.inl ⟨HRG.out,rfl⟩,HB2.out⟩;rw [HS.out,HT.out];rfl
 ·have HS:=hid (El hr);have HR0:=hid hr;clear hr;go_enter Tryz.func156,Tryz.ntmps156
  go_wp2_with fail
  refine (sC s _ hs HG.out).mono ?_;rintro r w1 ⟨v,err,rfl,hok,hat,hb1⟩;obtain ⟨ty,u,rfl⟩:=hat.iface HR0.out;have HAT:=hid hat;have HB1:=hid hb1;clear hok hat hb1;go_wp2;go_ret2;exact ⟨_,by rw [HS.out];rfl,HAT.out,HB1.out⟩
theorem Em (s:List UInt8) (h:s.length≤20000):dg (sqL s)=s∧(aL (sqL s)).1=(0,-1):=by
 have h1:=oR s h;have h2:aL (sqL s)=((0,-1),toks s):=Dk (by rw [h1.1]);refine ⟨?_,by rw [h2]⟩;rw [uc (by rw [h2]),h2];exact h1.2
theorem E9 (s:List UInt8) (h:s.length≤20000):(sqL s).length≤220000:=(lB (l:=toks s) (by rw [(oR s h).1])).2.1
end
