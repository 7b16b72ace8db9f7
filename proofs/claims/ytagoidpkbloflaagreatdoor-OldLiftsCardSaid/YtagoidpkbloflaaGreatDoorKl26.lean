import Derived.Test.YtagoidpkbloflaaGreatDoorKlq
import Derived.Test.YtagoidpkbloflaaGreatDoorKl24
namespace Go.Proofs.YtagoidpkbloflaaGreatDoor
open Lib (hid)
set_option maxRecDepth 100000
set_option maxHeartbeats 8000000
section
open Go.RowKit
theorem yY {h:List Ent} {r:Int} {k:Nat} {e:Ent} (hk:h[k]? = some e) (hle:k≤aW h r) (he:e.rep=r):aW h r=k:=by
 obtain ⟨hl,hx⟩:=Do.1 hk;refine Nat.le_antisymm (Nat.not_lt.1 fun hlt=>?_) hle;have h2 : ¬ (decide ((h[k]'hl).rep = r) = true) := by simpa using List.not_of_lt_findIdx hlt
 exact h2 (by rw [hx];simpa using he)
theorem yZ {h:List Ent} {r:Int} {k:Nat} {e:Ent} (hk:h[k]? = some e) (hle:k≤aW h r) (he:e.rep≠r):k+1≤aW h r:=by
 obtain ⟨hl,hx⟩:=Do.1 hk;refine Nat.lt_of_le_of_ne hle fun heq=>he ?_
 have hlt:h.findIdx (fun e=>decide (e.rep=r))<h.length:=by show aW h r<_;omega
 have h2:=List.findIdx_getElem (w:=hlt);have h3 : h[h.findIdx (fun e => decide (e.rep = r))]'hlt = h[k]'hl := by congr 1; exact heq.symm
 rw [h3,hx] at h2
 simpa using h2
theorem yX {h:List Ent} {r:Int} (hlt:aW h r<h.length):∃ e,h[aW h r]? = some e∧e.rep=r:=by
 have h2:=List.findIdx_getElem (p:=fun e:Ent=>decide (e.rep=r)) (w:=hlt);exact ⟨_, Di hlt, by show (h[h.findIdx (fun e => decide (e.rep = r))]'hlt).rep = r; simpa using h2⟩
theorem yR (x t r:Int) (B:Nat) (w:World) (c:Bool) (hB:B<w.heap.size) (h0:w.cell? ⟨B,0,none⟩=some (.int .i64 r)) (hc:decide (x=r)=c) :
 Calls Tryz.prog 175 #[.agg #[.int .i64 x,.int .i64 t],.pointer (some ⟨B,0,none⟩)] w fun e w'=>e=.returned (.bool c)∧Below w.heap.size w w':=by
 have hcc:(x == r)=c:=by rw [←hc];rfl
 have h1:(w.alloc (.cells #[.int .i64 x,.int .i64 t] 73)).cell? ⟨B,0,none⟩=some (.int .i64 r):=(DC _ _ _ hB).trans h0;go_enter Tryz.func175,Tryz.ntmps175
 go_wp2;go_ret;exact ⟨by first | rfl | (rw [hcc]),(Below.refl _ _).alloc (Db _) _⟩
theorem wH (v:Value) (h:List Ent) (r:Int) (p B:Nat) (w:World) (hv:ae w v h) (hl:h.length≤1000000) (hB:B<w.heap.size) (h0:w.cell? ⟨B,0,none⟩=some (.int .i64 r)) (hp:aW h r=p) (hpl:p<h.length) :
 Calls Tryz.prog 174 #[v,.func (.func 175) #[] #[.pointer (some ⟨B,0,none⟩)]] w fun e w'=>e=.returned (.int .i64 (p:Int))∧Below w.heap.size w w':=by
 obtain ⟨a1,c1,rfl,f1⟩:=hv.form;have F1:=hid f1;obtain ⟨n,hn⟩:∃ n,n=h.length:=⟨_,rfl⟩;rw [←hn] at hl hpl ⊢;have HN:=hid hn;have HP:=hid hp;clear f1 hn hv hp;go_enter Tryz.func174,Tryz.ntmps174
 go_wp2
 go_loopw [8] (fun i wr=>∃ k:Nat,k≤p∧i=.int .i64 k∧Below w.heap.size w wr) (fun i _=>n-(intOf i).toNat)
 case atStart=>exact ⟨0,Ds _,rfl,Below.refl _ _⟩
 case round =>
  obtain ⟨k,hk,rfl,hbel⟩:=hrel;have HB:=hid hbel;clear hbel;obtain ⟨x, hx⟩ : ∃ x, h[k]? = some x := ⟨h[k]'(by have := HN.out; omega), Di _⟩;obtain ⟨b1,o1,rfl,hb1,p0,p1⟩:=F1.out k x hx;have hlt:k<n:=by omega
  have q0:=(HB.out.cell (p:=⟨b1,o1+k * 2,none⟩) hb1).trans p0;have q1:=(HB.out.cell (p:=⟨b1,o1+k * 2+1,none⟩) hb1).trans p1;have HC:Hid (wr.cell? ⟨B,0,none⟩=some (.int .i64 r)):=hid ((HB.out.cell (p:=⟨B,0,none⟩) hB).trans h0);have HBW:Hid (B<wr.heap.size):=hid (Dv hB HB.out.size);obtain ⟨c,hc⟩:∃ c,decide (x.rep=r)=c:=⟨_,rfl⟩;have HCC:=hid hc;have HX:=hid hx;obtain ⟨X,T⟩:=x;dsimp only at q0 q1 HCC
  clear p0 p1 hx hc;go_wp2_with fail
  refine (yR X T r B wr c HBW.out HC.out HCC.out).mono ?_;rintro rr w1 ⟨rfl,hb1⟩;have HB1:Hid (Below w.heap.size w w1):=HB.out.trans (hb1.mono HB.out.size);clear hb1 q0 q1;cases c with
  | true =>
   have hpk:=yY HX.out (by rw [HP.out];exact hk) (of_decide_eq_true HCC.out);rw [HP.out] at hpk;have HPK:=hid hpk;clear hpk;go_wp2;go_ret;exact ⟨by rw [HPK.out];rfl,HB1.out⟩
  | false =>
   have hpk:=yZ HX.out (by rw [HP.out];exact hk) (of_decide_eq_false HCC.out);rw [HP.out] at hpk;go_wp2;go_roundw
   case rel=>exact ⟨k+1,hpk,by go_num,HB1.out⟩
   case measure=>simp [intOf];omega
theorem uk (v:Value) (h:List Ent) (r:Int) (p:Nat) (w:World) (hv:ae w v h) (hl:h.length≤1000000) (hp:aW h r=p) (hpl:p<h.length) :
 Calls Tryz.prog 136 #[v,.int .i64 r] w fun e w'=>e=.returned (.int .i64 (p:Int))∧Below w.heap.size w w':=by
 have hmf:∀ (fn:Fn) (first cap:Array Value) (w:World),(Instr.makeFunc fn first cap).run Tryz.prog w=.ok (.func fn first cap) w:=fun _ _ _ _=>rfl
 have HV:=hid (hv.below ((Below.refl _ _).alloc (Db _) (.cells #[.int .i64 r] 3)));clear hv;go_enter Tryz.func136,Tryz.ntmps136
 go_wp2_with fail
 refine (wH v h r p w.heap.size _ HV.out hl (by simp) (by simp) hp hpl).mono ?_;rintro rr w1 ⟨rfl,hb1⟩;have HB1:Hid (Below w.heap.size w w1):=hid (((Below.refl _ _).alloc (Db _) _).trans (hb1.mono (by simp)));clear hb1;go_wp2;go_ret;exact ⟨rfl,HB1.out⟩
end
section
open Go.RowKit
def gS (l:List Ent):List UInt8:=l.flatMap fun e=>putL e.rep.toNat++putL e.time.toNat
def qJ (l:List Ent):List UInt8:=putL l.length++gS l
def oldW (x:Wr):List UInt8:=[UInt8.ofNat x.kind.toNat]++putL x.time.toNat++putL x.rep.toNat++cT x.key.data.toList++dZ x
theorem vv (e:Ent) (l:List Ent):gS (e::l)=putL e.rep.toNat++(putL e.time.toNat++gS l):=by simp [gS]
def unP (s:List UInt8):Nat→Nat→List Ent→Nat ⊕ (Nat×List Ent)
 | 0,a,L=>.inr (a,L)
 | k+1,a,L=>match intL (s.drop a) 200 with
  | (r,j,e)=>if e≠0 then .inl e else match intL (s.drop (a+j)) 1099511627776 with
   | (t,i,e)=>if e≠0 then .inl e else unP s k (a+j+i) (L++[⟨(r:Int),(t:Int)⟩])
section
variable {s:List UInt8} {k a r j t i e:Nat} {L:List Ent}
theorem gA (h:intL (s.drop a) 200=(r,j,e)) (he:e≠0):unP s (k+1) a L=.inl e:=by rw [unP,h];simp only;rw [if_pos he]
theorem gC (h:intL (s.drop a) 200=(r,j,0)) (h1:intL (s.drop (a+j)) 1099511627776=(t,i,e)) (he:e≠0):unP s (k+1) a L=.inl e:=by
 rw [unP,h];simp only;rw [if_neg (by simp),h1];simp only;rw [if_pos he]
theorem gz (h:intL (s.drop a) 200=(r,j,0)) (h1:intL (s.drop (a+j)) 1099511627776=(t,i,0)):unP s (k+1) a L=unP s k (a+j+i) (L++[⟨(r:Int),(t:Int)⟩]):=by
 rw [unP,h];simp only;rw [if_neg (by simp),h1];simp only;rw [if_neg (by simp)]
end
theorem BL {s:List UInt8}:∀ (k a:Nat) (L:List Ent) (e:Nat),unP s k a L=.inl e→e≠0:=by
 intro k
 induction k with
 | zero=>intro a L e h;cases h
 | succ k ih =>
  intro a L e h;obtain ⟨r,j,e1,h1⟩:∃ r j e1,intL (s.drop a) 200=(r,j,e1):=⟨_,_,_,rfl⟩;by_cases he1:e1=0
  ·subst he1;obtain ⟨t,i,e2,h2⟩:∃ t i e2,intL (s.drop (a+j)) 1099511627776=(t,i,e2):=⟨_,_,_,rfl⟩;by_cases he2:e2=0
   ·subst he2;rw [gz h1 h2] at h;exact ih _ _ _ h
   ·rw [gC h1 h2 he2] at h;injection h with h;rw [←h];exact he2
  ·rw [gA h1 he1] at h;injection h with h;rw [←h];exact he1
theorem sd {s:List UInt8} (k:Nat):∀ (a b:Nat) (L M:List Ent),a≤s.length→unP s k a L=.inr (b,M)→∃ M1,M=L++M1∧M1.length=k∧s.drop a=gS M1++s.drop b∧b≤s.length∧a≤b:=by
 induction k with
 | zero =>
  intro a b L M ha h0;rw [unP] at h0;simp only [EH,Dz] at h0
  obtain ⟨rfl,rfl⟩:=h0;exact ⟨[],by simp,rfl,rfl,ha,Db _⟩
 | succ k ih =>
  intro a b L M ha h0;rcases ar (s.drop a) 200 with ⟨e,h1,he,_⟩ | ⟨r,j,h1,hr,_,_,hj,hp⟩
  ·rw [gA h1 he] at h0;cases h0
  ·rcases ar (s.drop (a+j)) 1099511627776 with ⟨e,h2,he,_⟩ | ⟨t,i,h2,ht,_,_,hi,hq⟩
   ·rw [gC h1 h2 he] at h0;cases h0
   ·rw [gz h1 h2] at h0;rw [Dj] at hj hi;obtain ⟨M1,rfl,g2,g3,g4,g5⟩:=ih _ _ _ _ (by omega) h0;refine ⟨⟨(r:Int),(t:Int)⟩::M1,by simp,by simp [g2],?_,g4,by omega⟩;rw [vv,E3,E3,←g3];have d1:=cC hp;have d2:=cC hq;rw [d1,d2]
    rfl
def unE (s:List UInt8) (a:Nat):Nat ⊕ (Nat×List Ent) :=
 match intL (s.drop a) 16 with
 | (k,j,e)=>if e≠0 then .inl e else unP s k (a+j) []
theorem fP {s:List UInt8} {a k j e:Nat} (h:intL (s.drop a) 16=(k,j,e)) (he:e≠0):unE s a=.inl e:=by unfold unE;rw [h];simp only;rw [if_pos he]
theorem fQ {s:List UInt8} {a k j:Nat} (h:intL (s.drop a) 16=(k,j,0)):unE s a=unP s k (a+j) []:=by unfold unE;rw [h];simp only;rw [if_neg (by simp)]
theorem kM {s:List UInt8} {a e:Nat} (h:unE s a=.inl e):e≠0:=by
 obtain ⟨k,j,e1,h1⟩:∃ k j e1,intL (s.drop a) 16=(k,j,e1):=⟨_,_,_,rfl⟩;by_cases he:e1=0
 ·subst he;rw [fQ h1] at h;exact BL _ _ _ _ h
 ·rw [fP h1 he] at h;injection h with h;rw [←h];exact he
theorem BI {s:List UInt8} {a b:Nat} {l:List Ent} (ha:a≤s.length) (h:unE s a=.inr (b,l)):s.drop a=qJ l++s.drop b∧b≤s.length∧a≤b:=by
 rcases ar (s.drop a) 16 with ⟨e,h1,he,_⟩ | ⟨k,j,h1,hk,_,_,hj,hp⟩
 ·rw [fP h1 he] at h;cases h
 ·rw [fQ h1] at h;rw [Dj] at hj;obtain ⟨M1,g1,g2,g3,g4,g5⟩:=sd _ _ _ _ _ (by omega) h;rw [E7] at g1;subst g1;refine ⟨?_,g4,by omega⟩;unfold qJ;rw [E3,←g3,g2];exact cC hp
def unV (s:List UInt8) (a:Nat):Nat ⊕ (Nat×Wr) :=
 match aq (s.drop a) with
 | (K,_,e)=>if e≠0 then .inl e else
  match intL (s.drop (a+1)) 1099511627776 with
  | (t,k1,e)=>if e≠0 then .inl e else
   match intL (s.drop (a+1+k1)) 200 with
   | (r,k2,e)=>if e≠0 then .inl e else
    match getS (s.drop (a+1+k1+k2)) with
    | (key,k3,e)=>if e≠0 then .inl e else
     if aB t r K ⟨key.toArray⟩ (s.drop (a+1+k1+k2+k3))≠0 then .inl (aB t r K ⟨key.toArray⟩ (s.drop (a+1+k1+k2+k3)))
     else .inr (a+1+k1+k2+k3+bZ K (s.drop (a+1+k1+k2+k3)),⟨t,r,K,⟨key.toArray⟩,bP K (s.drop (a+1+k1+k2+k3)),(getN K (s.drop (a+1+k1+k2+k3))).1⟩)
section
variable {s key:List UInt8} {a K j t k1 r k2 k3 e:Nat}
theorem iR (h0:aq (s.drop a)=(K,j,e)) (he:e≠0):unV s a=.inl e:=by unfold unV;rw [h0];simp only;rw [if_pos he]
theorem kV (h0:aq (s.drop a)=(K,j,0)) (h1:intL (s.drop (a+1)) 1099511627776=(t,k1,e)) (he:e≠0):unV s a=.inl e:=by
 unfold unV;rw [h0];simp only;rw [if_neg (by simp),h1];simp only;rw [if_pos he]
theorem kU (h0:aq (s.drop a)=(K,j,0)) (h1:intL (s.drop (a+1)) 1099511627776=(t,k1,0)) (h2:intL (s.drop (a+1+k1)) 200=(r,k2,e)) (he:e≠0):unV s a=.inl e:=by
 unfold unV;rw [h0];simp only;rw [if_neg (by simp),h1];simp only;rw [if_neg (by simp),h2];simp only;rw [if_pos he]
theorem kR (h0:aq (s.drop a)=(K,j,0)) (h1:intL (s.drop (a+1)) 1099511627776=(t,k1,0)) (h2:intL (s.drop (a+1+k1)) 200=(r,k2,0)) (h3:getS (s.drop (a+1+k1+k2))=(key,k3,e)) (he:e≠0):unV s a=.inl e:=by
 unfold unV;rw [h0];simp only;rw [if_neg (by simp),h1];simp only;rw [if_neg (by simp),h2];simp only;rw [if_neg (by simp),h3];simp only;rw [if_pos he]
theorem kQ (h0:aq (s.drop a)=(K,j,0)) (h1:intL (s.drop (a+1)) 1099511627776=(t,k1,0)) (h2:intL (s.drop (a+1+k1)) 200=(r,k2,0)) (h3:getS (s.drop (a+1+k1+k2))=(key,k3,0))
 (h4:aB t r K ⟨key.toArray⟩ (s.drop (a+1+k1+k2+k3))=e) (he:e≠0):unV s a=.inl e:=by
 unfold unV;rw [h0];simp only;rw [if_neg (by simp),h1];simp only;rw [if_neg (by simp),h2];simp only;rw [if_neg (by simp),h3];simp only;rw [if_neg (by simp),if_pos (by rw [h4];exact he),h4]
theorem kS (h0:aq (s.drop a)=(K,j,0)) (h1:intL (s.drop (a+1)) 1099511627776=(t,k1,0)) (h2:intL (s.drop (a+1+k1)) 200=(r,k2,0)) (h3:getS (s.drop (a+1+k1+k2))=(key,k3,0))
 (h4:aB t r K ⟨key.toArray⟩ (s.drop (a+1+k1+k2+k3))=0) :
 unV s a=.inr (a+1+k1+k2+k3+bZ K (s.drop (a+1+k1+k2+k3)),⟨t,r,K,⟨key.toArray⟩,bP K (s.drop (a+1+k1+k2+k3)),(getN K (s.drop (a+1+k1+k2+k3))).1⟩):=by
 unfold unV;rw [h0];simp only;rw [if_neg (by simp),h1];simp only;rw [if_neg (by simp),h2];simp only;rw [if_neg (by simp),h3];simp only;rw [if_neg (by simp),if_neg (by rw [h4];simp)]
end
theorem sf {s:List UInt8} {a e:Nat} (h:unV s a=.inl e):e≠0:=by
 unfold unV at h
 repeat' split at h
 all_goals first
  | (injection h with h;rw [←h];assumption)
  | cases h
theorem BR {s:List UInt8} {a b:Nat} {x:Wr} (h0:unV s a=.inr (b,x)):wE x=0∧s.drop a=oldW x++s.drop b∧a<b∧b≤s.length:=by
 rcases mv (s.drop a) with ⟨e,hk,he⟩ | ⟨c,r,hc,hk,hc1,hc4⟩
 ·rw [iR hk he] at h0;cases h0
 ·have hal : a < s.length := by
   rcases Eg a s.length with h' | h'
   ·exact h'
   ·rw [El h'] at hc;cases hc
  have hr:r=s.drop (a+1):=by rw [←Dy,hc];rfl
  rcases ar (s.drop (a+1)) 1099511627776 with ⟨e,h1,he,_⟩ | ⟨t,k1,h1,ht,_,_,hk1l,hp1⟩
  ·rw [kV hk h1 he] at h0;cases h0
  ·rcases ar (s.drop (a+1+k1)) 200 with ⟨e,h2,he,_⟩ | ⟨p,k2,h2,hp,_,_,hk2l,hp2⟩
   ·rw [kU hk h1 h2 he] at h0;cases h0
   ·obtain ⟨key,k3,e3,h3⟩:∃ key k3 e3,getS (s.drop (a+1+k1+k2))=(key,k3,e3):=⟨_,_,_,rfl⟩;by_cases he3:e3=0
    ·subst he3;obtain ⟨w1,w2,w3,w4⟩:=fl h3;by_cases h4:aB t p c.toNat ⟨key.toArray⟩ (s.drop (a+1+k1+k2+k3))=0
     ·rw [kS hk h1 h2 h3 h4] at h0;simp only [EH,Dz] at h0
      obtain ⟨hb,rfl⟩:=h0;obtain ⟨f1,f2,f3⟩:=fy h4;have e1:=cC hp1;have e2:=cC hp2;have e3:=cC w4;have e4:=cC f2;rw [Dj] at hk1l hk2l w2 f3;obtain ⟨L,hL⟩:∃ L,s.drop (a+1+k1+k2+k3)=L:=⟨_,rfl⟩;rw [hL] at f1 e3 e4 hb ⊢;rw [hL] at f3;refine ⟨f1,?_,by omega,by omega⟩;unfold oldW dZ;simp only
      rw [show ((t:Int)).toNat=t by omega,show ((p:Int)).toNat=p by omega,show ((c.toNat:Nat):Int).toNat=c.toNat by omega,il,hc,hr,e1,e2,e3];obtain ⟨X,hX⟩:∃ X,(b7 (c.toNat:Int) (bP (c.toNat:Int) L) (getN (c.toNat:Int) L).1).data.toList=X:=⟨_,rfl⟩;rw [hX] at e4 ⊢;rw [hb] at e4;rw [e4];simp
     ·rw [kQ hk h1 h2 h3 rfl h4] at h0;cases h0
    ·rw [kR hk h1 h2 h3 he3] at h0;cases h0
def unVs (s:List UInt8):Nat→Nat→List Wr→Nat ⊕ (Nat×List Wr)
 | 0,a,W=>.inr (a,W)
 | k+1,a,W=>match unV s a with
  | .inl e=>.inl e
  | .inr (b,x)=>unVs s k b (W++[x])
theorem kW {s:List UInt8} {k a e:Nat} {W:List Wr} (h:unV s a=.inl e):unVs s (k+1) a W=.inl e:=by rw [unVs,h]
theorem kX {s:List UInt8} {k a b:Nat} {W:List Wr} {x:Wr} (h:unV s a=.inr (b,x)):unVs s (k+1) a W=unVs s k b (W++[x]):=by rw [unVs,h]
theorem sg {s:List UInt8}:∀ (k a:Nat) (W:List Wr) (e:Nat),unVs s k a W=.inl e→e≠0:=by
 intro k
 induction k with
 | zero=>intro a W e h;cases h
 | succ k ih =>
  intro a W e h
  match h1:unV s a with
  | .inl e1=>rw [kW h1] at h;injection h with h;rw [←h];exact sf h1
  | .inr (b,x)=>rw [kX h1] at h;exact ih _ _ _ h
def unO (s:List UInt8):Nat ⊕ (List Ent×List Ent×List Wr) :=
 match unE s 0 with
 | .inl e=>.inl e
 | .inr (a,f)=>match unE s a with
  | .inl e=>.inl e
  | .inr (b,h)=>match intL (s.drop b) 60 with
   | (k,j,e)=>if e≠0 then .inl e else
    match unVs s k (b+j) [] with
    | .inl e=>.inl e
    | .inr (c,W)=>if c<s.length then .inl 3 else if (batF f h W).1≠0 then .inl (batF f h W).1 else .inr (f,h,W)
section
variable {s:List UInt8} {f h:List Ent} {W:List Wr} {a b c k j e:Nat}
theorem ns (h1:unE s 0=.inl e):unO s=.inl e:=by unfold unO;rw [h1]
theorem nu (h1:unE s 0=.inr (a,f)) (h2:unE s a=.inl e):unO s=.inl e:=by unfold unO;rw [h1];simp only;rw [h2]
theorem nx (h1:unE s 0=.inr (a,f)) (h2:unE s a=.inr (b,h)) (h3:intL (s.drop b) 60=(k,j,e)) (he:e≠0):unO s=.inl e:=by
 unfold unO;rw [h1];simp only;rw [h2];simp only;rw [h3];simp only;rw [if_pos he]
theorem nB (h1:unE s 0=.inr (a,f)) (h2:unE s a=.inr (b,h)) (h3:intL (s.drop b) 60=(k,j,0)) (h4:unVs s k (b+j) []=.inl e):unO s=.inl e:=by
 unfold unO;rw [h1];simp only;rw [h2];simp only;rw [h3];simp only;rw [if_neg (by simp),h4]
theorem nz (h1:unE s 0=.inr (a,f)) (h2:unE s a=.inr (b,h)) (h3:intL (s.drop b) 60=(k,j,0)) (h4:unVs s k (b+j) []=.inr (c,W)) :
 unO s=if c<s.length then .inl 3 else if (batF f h W).1≠0 then .inl (batF f h W).1 else .inr (f,h,W):=by
 unfold unO;rw [h1];simp only;rw [h2];simp only;rw [h3];simp only;rw [if_neg (by simp),h4]
end
theorem sa {s:List UInt8} {e:Nat} (h0:unO s=.inl e):e≠0:=by
 match h1:unE s 0 with
 | .inl e1=>rw [ns h1] at h0;injection h0 with h0;rw [←h0];exact kM h1
 | .inr (a,f) =>
  match h2:unE s a with
  | .inl e1=>rw [nu h1 h2] at h0;injection h0 with h0;rw [←h0];exact kM h2
  | .inr (b,h) =>
   obtain ⟨k,j,e1,h3⟩:∃ k j e1,intL (s.drop b) 60=(k,j,e1):=⟨_,_,_,rfl⟩;by_cases he:e1=0
   ·subst he
    match h4:unVs s k (b+j) [] with
    | .inl e1=>rw [nB h1 h2 h3 h4] at h0;injection h0 with h0;rw [←h0];exact sg _ _ _ _ h4
    | .inr (c,W) =>
     rw [nz h1 h2 h3 h4] at h0;split at h0
     ·injection h0 with h0;rw [←h0];decide
     ·split at h0
      ·rename_i hb;injection h0 with h0;rw [←h0];exact hb
      ·cases h0
   ·rw [nx h1 h2 h3 he] at h0;injection h0 with h0;rw [←h0];exact he
def oldF (s:List UInt8):(Nat×Int) ⊕ (List Ent×List Ent×List Wr) :=
 match opnF s with
 | (v,i,e)=>if e≠0 then .inl (e,-1) else if v=3 then .inl (6,-1) else if v=2 then unbF i else
  match unO i with
  | .inl e=>.inl (e,-1)
  | .inr b=>.inr b
section
variable {s i:List UInt8} {v e:Nat} {b:List Ent×List Ent×List Wr}
theorem mC (h0:opnF s=(v,i,e)) (he:e≠0):oldF s=.inl (e,-1):=by unfold oldF;rw [h0];simp only;rw [if_pos he]
theorem mD (h0:opnF s=(3,i,0)):oldF s=.inl (6,-1):=by unfold oldF;rw [h0];simp only;rw [if_neg (by simp),if_pos trivial]
theorem jT (h0:opnF s=(2,i,0)):oldF s=unbF i:=by unfold oldF;rw [h0];simp only;rw [if_neg (by simp),if_neg (by simp),if_pos trivial]
theorem mz (h0:opnF s=(v,i,0)) (h3:v≠3) (h2:v≠2) (h1:unO i=.inl e):oldF s=.inl (e,-1):=by unfold oldF;rw [h0];simp only;rw [if_neg (by simp),if_neg h3,if_neg h2,h1]
theorem mB (h0:opnF s=(v,i,0)) (h3:v≠3) (h2:v≠2) (h1:unO i=.inr b):oldF s=.inr b:=by unfold oldF;rw [h0];simp only;rw [if_neg (by simp),if_neg h3,if_neg h2,h1]
end
theorem yn {l t:List UInt8} (h:aF l=(t,0)):dI t=l:=by
 unfold aF at h;split at h
 ·injection h with _ h;cases h
 ·split at h
  ·rename_i hd;injection h with h _
   unfold dI;rw [←h,←hd,EE]
  ·injection h with _ h;cases h
theorem qv {s i:List UInt8} {v:Nat} (h:opnF s=(v,i,0)):s=dI (80::84::UInt8.ofNat v::i)∧1≤v∧v≤3:=by
 by_cases h0:s.length<8
 ·rw [io h0] at h;injection h with _ h;injection h with _ h;cases h
 ·by_cases h1:s.take 2=[80,84]
  ·by_cases h2:(s.getD 2 0).toNat<1∨3<(s.getD 2 0).toNat
   ·rw [iq h0 h1 h2] at h;injection h with _ h;injection h with _ h;cases h
   ·by_cases h3:(aF s).2=0
    ·rw [ir h0 h1 h2 h3] at h;injection h with h4 h
     injection h with h5 _
     have ho:aF s=((aF s).1,0):=by rw [←h3]
     have hs:=yn ho;have hl:=jU ho;obtain ⟨t,ht⟩:∃ t,(aF s).1=t:=⟨_,rfl⟩;rw [ht] at hs hl h5;refine ⟨?_,by omega,by omega⟩;rw [←hs]
     congr 1
     match t,hl,hs,h5 with
     | [],hl,_,_=>simp at hl;omega
     | [_],hl,_,_=>simp at hl;omega
     | [_,_],hl,_,_=>simp at hl;omega
     | a::b::c::r,_,hs,h5 =>
      have e1:s.take 2=[a,b]:=by rw [←hs];rfl
      have e2:s.getD 2 0=c:=by rw [←hs];rfl
      rw [h1] at e1;injection e1 with e1 e3
      injection e3 with e3 _
      rw [e2] at h4;rw [←e1,←e3,←h4,il,←h5];rfl
    ·rw [iu h0 h1 h2 rfl h3] at h;injection h with _ h;injection h with _ h;exact absurd h h3
  ·rw [ip h0 h1] at h;injection h with _ h;injection h with _ h;cases h
end
