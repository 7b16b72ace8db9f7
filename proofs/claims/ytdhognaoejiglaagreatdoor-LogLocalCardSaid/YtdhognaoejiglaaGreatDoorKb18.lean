import Derived.Test.YtdhognaoejiglaaGreatDoorKb16
namespace Go.Proofs.YtdhognaoejiglaaGreatDoor
open Lib (hid)
set_option maxRecDepth 100000
set_option maxHeartbeats 8000000
section
def cY:Int→List Ent→Prop
 | _,[]=>True
 | r,e::t=>e.rep=r∧cY (r+1) t
theorem qD {l:List Ent} {e:Ent}:∀ {r:Int},cY r l→e.rep=r+l.length→cY r (l++[e]):=by
 induction l with
 | nil=>intro r _ h;exact ⟨by simpa using h,trivial⟩
 | cons d t ih=>intro r h he;exact ⟨h.1,ih h.2 (by rw [he,List.length_cons];omega)⟩
theorem yx {l:List Ent} {r:Int} (h:cY r l) (h0:l≠[]):(l.headD ⟨0,0⟩).rep=r:=by
 cases l with
 | nil=>exact absurd rfl h0
 | cons e t=>exact h.1
theorem iI {l:List Ent}:∀ {r:Int},cY r l→l≠[]→(l.getLastD ⟨0,0⟩).rep=r+l.length-1:=by
 induction l with
 | nil=>intro r _ h0;exact absurd rfl h0
 | cons e t ih =>
  intro r h _;cases t with
  | nil=>have:=h.1;simp;omega
  | cons d u =>
   have h3:=ih h.2 (by simp);rw [List.getLastD_cons] at h3 ⊢;rw [List.getLastD_cons];simp only [List.length_cons] at h3 ⊢
   omega
def eE:Int→List (List Ent)→Prop
 | _,[]=>True
 | least,run::rs=>run≠[]∧least≤(run.headD ⟨0,0⟩).rep∧cY (run.headD ⟨0,0⟩).rep run∧eE ((run.getLastD ⟨0,0⟩).rep+2) rs
def cutA:List Ent→List Ent→List (List Ent)
 | _,[]=>[]
 | cur,[e]=>[cur++[e]]
 | cur,e::d::r=>if e.rep+1<d.rep then (cur++[e])::cutA [] (d::r) else cutA (cur++[e]) (d::r)
def aV (l:List Ent):List (List Ent):=cutA [] l
theorem qF (cur:List Ent) (e:Ent):cutA cur [e]=[cur++[e]]:=rfl
theorem mQ {cur r:List Ent} {e d:Ent} (h:e.rep+1<d.rep):cutA cur (e::d::r)=(cur++[e])::cutA [] (d::r):=by rw [cutA,if_pos h]
theorem mR {cur r:List Ent} {e d:Ent} (h:¬ e.rep+1<d.rep):cutA cur (e::d::r)=cutA (cur++[e]) (d::r):=by rw [cutA,if_neg h]
theorem kL {l:List Ent} (m:List Ent) (h:l≠[]) (d:Ent):(l++m).headD d=l.headD d:=by
 cases l with
 | nil=>exact absurd rfl h
 | cons e t=>rfl
theorem ro (l:List Ent) (e d:Ent):(l++[e]).getLastD d=e:=by
 simp
theorem yG (r:List Ent):∀ (cur:List Ent) (e:Ent) (least last:Int),okV last (e::r)→(cur=[]→least≤e.rep)→(cur≠[]→least≤(cur.headD ⟨0,0⟩).rep∧cY (cur.headD ⟨0,0⟩).rep cur∧e.rep=(cur.headD ⟨0,0⟩).rep+cur.length) →
 eE least (cutA cur (e::r))∧(cutA cur (e::r)).flatten=cur++e::r:=by
 induction r with
 | nil =>
  intro cur e least last h h0 h1;rw [qF];refine ⟨⟨by simp,?_,?_,trivial⟩,by simp⟩
  ·by_cases hc:cur=[]
   ·subst hc;exact h0 rfl
   ·rw [kL _ hc];exact (h1 hc).1
  ·by_cases hc:cur=[]
   ·subst hc;exact ⟨rfl,trivial⟩
   ·rw [kL _ hc];exact qD (h1 hc).2.1 (h1 hc).2.2
 | cons d r ih =>
  intro cur e least last h h0 h1;have hd:=h.2.1;rw [im] at hd;have hcons:cY ((cur++[e]).headD ⟨0,0⟩).rep (cur++[e]):=by
   by_cases hc:cur=[]
   ·subst hc;exact ⟨rfl,trivial⟩
   ·rw [kL _ hc];exact qD (h1 hc).2.1 (h1 hc).2.2
  have hlow:least≤((cur++[e]).headD ⟨0,0⟩).rep:=by
   by_cases hc:cur=[]
   ·subst hc;exact h0 rfl
   ·rw [kL _ hc];exact (h1 hc).1
  by_cases hg:e.rep+1<d.rep
  ·rw [mQ hg];obtain ⟨i1,i2⟩:=ih [] d (e.rep+2) e.rep h.2 (fun _=>by omega) (fun hn=>absurd rfl hn);refine ⟨⟨by simp,hlow,hcons,?_⟩,?_⟩
   ·rw [ro];exact i1
   ·rw [List.flatten_cons,i2];simp
  ·rw [mR hg];obtain ⟨i1,i2⟩:=ih (cur++[e]) d least e.rep h.2 (fun hn=>absurd hn (by simp)) (fun _=>⟨hlow,hcons,by
    have:=iI hcons (by simp);rw [ro] at this;omega⟩)
   exact ⟨i1,by rw [i2];simp⟩
theorem oy {l:List Ent} (h:okV (-1) l):eE 0 (aV l)∧(aV l).flatten=l:=by
 cases l with
 | nil=>exact ⟨trivial,rfl⟩
 | cons e r =>
  have:=h.1;rw [im] at this;have h2:=yG r [] e 0 (-1) h (fun _=>by omega) (fun hn=>absurd rfl hn);exact h2
theorem yH (run:List Ent):∀ (cur:List Ent) (r:Int) (rest:List Ent),cY r run→run≠[]→(∀ e t,rest=e::t→(run.getLastD ⟨0,0⟩).rep+1<e.rep) →
 cutA cur (run++rest)=(cur++run)::cutA [] rest:=by
 induction run with
 | nil=>intro _ _ _ _ h;exact absurd rfl h
 | cons e t ih =>
  intro cur r rest h _ hr;cases t with
  | nil =>
   cases rest with
   | nil=>rfl
   | cons d u =>
    have:=hr d u rfl;exact mQ (by simpa using this)
  | cons d u =>
   have e1:=h.1;have e2:=h.2.1;show cutA cur (e::d::(u++rest))=_
   rw [mR (by omega)];have:=ih (cur++[e]) (r+1) rest h.2 (by simp) (fun x y hx=>by
    have:=hr x y hx;rw [List.getLastD_cons,List.getLastD_cons] at this;rw [List.getLastD_cons];exact this)
   rw [show d::(u++rest)=(d::u)++rest from rfl,this];simp
theorem DC {R:List (List Ent)}:∀ {least:Int},eE least R→aV R.flatten=R:=by
 induction R with
 | nil=>intro _ _;rfl
 | cons run rs ih =>
  intro least h;obtain ⟨h1,h2,h3,h4⟩:=h;unfold aV;rw [List.flatten_cons,yH run [] _ _ h3 h1]
  ·have:=ih h4;unfold aV at this;rw [this];rfl
  ·intro e t he;cases rs with
   | nil=>cases he
   | cons run2 rs2 =>
    obtain ⟨g1,g2,g3,_⟩:=h4;rw [List.flatten_cons] at he;cases run2 with
    | nil=>exact absurd rfl g1
    | cons d u =>
     simp only [List.cons_append,List.cons.injEq] at he
     obtain ⟨rfl,_⟩:=he;simp only [List.headD_cons] at g2
     omega
def aZ (l:List Ent):List UInt8:=l.flatMap fun e=>putL e.time.toNat
def runB (least:Int) (run:List Ent):List UInt8:=putL ((run.headD ⟨0,0⟩).rep-least).toNat++putL (run.length-1)++aZ run
def bS:Int→List (List Ent)→List UInt8
 | _,[]=>[]
 | least,run::rs=>runB least run++bS ((run.getLastD ⟨0,0⟩).rep+2) rs
def aG (l:List Ent):List UInt8:=putL (aV l).length++bS 0 (aV l)
def ed (l:List Ent):List UInt8:=if (aq l).1=0 then aG l else []
theorem oP (e:Ent) (l:List Ent):aZ (e::l)=putL e.time.toNat++aZ l:=by simp [aZ]
theorem EO (a b:List Ent):aZ (a++b)=aZ a++aZ b:=by simp [aZ]
def tmA:Nat→List UInt8→Nat→Int→List Ent→Nat ⊕ (List Ent×Nat)
 | 0,_,used,_,acc=>.inr (acc,used)
 | k+1,s,used,r,acc =>
  if (intL s 1099511627776).2.2≠0 then .inl (intL s 1099511627776).2.2
  else tmA k (s.drop (intL s 1099511627776).2.1) (used+(intL s 1099511627776).2.1) (r+1) (acc++[⟨r,(intL s 1099511627776).1⟩])
theorem lY {k:Nat} {s:List UInt8} {used e:Nat} {r:Int} {acc:List Ent} (h:intL s 1099511627776=(0,0,e)) (he:e≠0):tmA (k+1) s used r acc=.inl e:=by
 rw [tmA,h,if_pos he]
theorem jv {k:Nat} {s:List UInt8} {used n j:Nat} {r:Int} {acc:List Ent} (h:intL s 1099511627776=(n,j,0)):tmA (k+1) s used r acc=tmA k (s.drop j) (used+j) (r+1) (acc++[⟨r,n⟩]):=by
 rw [tmA,h,if_neg (by simp)]
def getR (s:List UInt8) (used:Nat) (least:Int) (acc:List Ent):Nat ⊕ (List Ent×Nat) :=
 if (intL s 200).2.2≠0 then .inl (intL s 200).2.2
 else if (intL (s.drop (intL s 200).2.1) 16).2.2≠0 then .inl (intL (s.drop (intL s 200).2.1) 16).2.2
 else tmA ((intL (s.drop (intL s 200).2.1) 16).1+1) ((s.drop (intL s 200).2.1).drop (intL (s.drop (intL s 200).2.1) 16).2.1) (used+(intL s 200).2.1+(intL (s.drop (intL s 200).2.1) 16).2.1) (least+(intL s 200).1) acc
theorem kF {s:List UInt8} {used e:Nat} {least:Int} {acc:List Ent} (h:intL s 200=(0,0,e)) (he:e≠0):getR s used least acc=.inl e:=by
 unfold getR;rw [h,if_pos he]
theorem kG {s:List UInt8} {used e g j:Nat} {least:Int} {acc:List Ent} (h:intL s 200=(g,j,0)) (h2:intL (s.drop j) 16=(0,0,e)) (he:e≠0):getR s used least acc=.inl e:=by
 unfold getR;rw [h];simp only;rw [h2,if_neg (by simp),if_pos he]
theorem iP {s:List UInt8} {used g j c i:Nat} {least:Int} {acc:List Ent} (h:intL s 200=(g,j,0)) (h2:intL (s.drop j) 16=(c,i,0)):getR s used least acc=tmA (c+1) ((s.drop j).drop i) (used+j+i) (least+g) acc:=by
 unfold getR;rw [h];simp only;rw [h2,if_neg (by simp),if_neg (by simp)]
def rdA:Nat→List UInt8→Nat→Int→List Ent→Nat ⊕ (List Ent×Nat)
 | 0,_,used,_,acc=>.inr (acc,used)
 | k+1,s,used,least,acc=>match getR s 0 least [] with
  | .inl e=>.inl e
  | .inr (run,j)=>rdA k (s.drop j) (used+j) ((run.getLastD ⟨0,0⟩).rep+2) (acc++run)
theorem lx {k:Nat} {s:List UInt8} {used e:Nat} {least:Int} {acc:List Ent} (h:getR s 0 least []=.inl e):rdA (k+1) s used least acc=.inl e:=by rw [rdA,h]
theorem jj {k:Nat} {s:List UInt8} {used j:Nat} {least:Int} {acc run:List Ent} (h:getR s 0 least []=.inr (run,j)):rdA (k+1) s used least acc=rdA k (s.drop j) (used+j) ((run.getLastD ⟨0,0⟩).rep+2) (acc++run):=by rw [rdA,h]
def ay (s:List UInt8):Nat×Nat×List Ent :=
 if (intL s 16).2.2≠0 then ((intL s 16).2.2,0,[]) else match rdA (intL s 16).1 (s.drop (intL s 16).2.1) (intL s 16).2.1 0 [] with
  | .inl e=>(e,0,[])
  | .inr (l,n)=>if (aq l).1≠0 then ((aq l).1,0,[]) else (0,n,l)
theorem pj {s:List UInt8} {e:Nat} (h:intL s 16=(0,0,e)) (he:e≠0):ay s=(e,0,[]):=by unfold ay;rw [h,if_pos he]
theorem pi {s:List UInt8} {k j e:Nat} (h:intL s 16=(k,j,0)) (h2:rdA k (s.drop j) j 0 []=.inl e):ay s=(e,0,[]):=by unfold ay;rw [h,if_neg (by simp)];simp only;rw [h2]
theorem pn {s:List UInt8} {k j n:Nat} {l:List Ent} (h:intL s 16=(k,j,0)) (h2:rdA k (s.drop j) j 0 []=.inr (l,n)) (h3:(aq l).1≠0):ay s=((aq l).1,0,[]):=by
 unfold ay;rw [h,if_neg (by simp)];simp only;rw [h2];simp only;rw [if_pos h3]
theorem ma {s:List UInt8} {k j n:Nat} {l:List Ent} (h:intL s 16=(k,j,0)) (h2:rdA k (s.drop j) j 0 []=.inr (l,n)) (h3:(aq l).1=0):ay s=(0,n,l):=by
 unfold ay;rw [h,if_neg (by simp)];simp only;rw [h2];simp only;rw [if_neg (by simpa using h3)]
theorem ba (l:List UInt8) (most:Int):(∃ e,intL l most=(0,0,e)∧e≠0∧(e=7∨e=4∨e=3∨e=2))∨∃ n k,intL l most=(n,k,0)∧(n:Int)≤most∧1≤k∧k≤10∧k≤l.length∧putL n=l.take k:=by
 rcases dC l with ⟨e,hg,he⟩ | ⟨n,k,hg,hn,hk1,hk2,hk3⟩
 ·have h3:=zC l;rw [hg] at h3;simp only at h3
  exact .inl ⟨e,iY hg he,he,by omega⟩
 ·by_cases hm:most<0∨most<n
  ·exact .inl ⟨2,gT hg hm,by decide,by omega⟩
  ·exact .inr ⟨n,k,fE hg hm,by omega,hk1,hk2,hk3,(gb hg).2.2⟩
theorem cN (n:Nat) (more:List UInt8) (most:Int) (h:(n:Int)≤most) (hn:n≤1099511627776):intL (putL n++more) most=(n,(putL n).length,0) :=
 fE (fB n more (by omega)) (by omega)
theorem ET (run:List Ent):∀ (r:Int) (more:List UInt8) (used:Nat) (acc:List Ent),cY r run→(∀ e∈run,0≤e.time∧e.time≤1099511627776) →
 tmA run.length (aZ run++more) used r acc=.inr (acc++run,used+(aZ run).length):=by
 induction run with
 | nil=>intro r more used acc _ _;simp [tmA,aZ]
 | cons e t ih =>
  intro r more used acc h hb;have hb1:=hb e List.mem_cons_self;rw [oP,List.length_cons,List.append_assoc,jv (cN e.time.toNat _ _ (by omega) (by omega)),List.drop_left,ih _ _ _ _ h.2 (fun x hx=>hb x (List.mem_cons_of_mem _ hx))];have e1:(⟨r,(e.time.toNat:Nat)⟩:Ent)=e:=by
   have:=h.1;cases e;simp only at this hb1 ⊢;congr 1 <;> omega
  rw [e1,List.length_append];simp;omega
theorem zE {run:List Ent} {least:Int} (more:List UInt8) (used:Nat) (acc:List Ent) (h0:run≠[]) (h1:least≤(run.headD ⟨0,0⟩).rep) (h2:cY (run.headD ⟨0,0⟩).rep run) (hg:(run.headD ⟨0,0⟩).rep-least≤200) (hl:run.length≤17)
 (hb:∀ e∈run,0≤e.time∧e.time≤1099511627776):getR (runB least run++more) used least acc=.inr (acc++run,used+(runB least run).length):=by
 have hlen:0<run.length:=List.length_pos_iff.2 h0;unfold runB;rw [List.append_assoc,List.append_assoc];have e1:=cN ((run.headD ⟨0,0⟩).rep-least).toNat (putL (run.length-1)++(aZ run++more)) 200 (by omega) (by omega);rw [iP e1 (c:=run.length-1) (i:=(putL (run.length-1)).length) (by rw [List.drop_left];exact cN _ _ _ (by omega) (by omega)),List.drop_left,List.drop_left];rw [show run.length-1+1=run.length by omega,show least+((((run.headD ⟨0,0⟩).rep-least).toNat:Nat):Int)=(run.headD ⟨0,0⟩).rep by omega,ET run _ _ _ _ h2 hb];simp only [List.length_append]
 congr 2;omega
theorem D9 (R:List (List Ent)):∀ (least:Int) (more:List UInt8) (used:Nat) (acc:List Ent),eE least R→0≤least→(∀ run∈R,run.length≤17∧∀ e∈run,0≤e.rep∧e.rep≤200∧0≤e.time∧e.time≤1099511627776) →
 rdA R.length (bS least R++more) used least acc=.inr (acc++R.flatten,used+(bS least R).length):=by
 induction R with
 | nil=>intro least more used acc _ _ _;simp [rdA,bS]
 | cons run rs ih =>
  intro least more used acc h hl0 hb;obtain ⟨h1,h2,h3,h4⟩:=h;obtain ⟨hl,he⟩:=hb run List.mem_cons_self;have hlast:=iI h3 h1;have hlen:0<run.length:=List.length_pos_iff.2 h1;have hhead:(run.headD ⟨0,0⟩).rep≤200:=by
   cases run with
   | nil=>exact absurd rfl h1
   | cons e t=>exact (he e List.mem_cons_self).2.1
  rw [bS,List.append_assoc,List.length_cons,jj (zE _ 0 [] h1 h2 h3 (by omega) hl (fun e hm=>(he e hm).2.2)),List.nil_append,Nat.zero_add,List.drop_left,
   ih _ _ _ _ h4 (by omega) (fun r hr=>hb r (List.mem_cons_of_mem _ hr))]
  rw [List.flatten_cons,List.length_append,List.append_assoc]
  congr 2;omega
theorem vF {l:List Ent} (h:aB l) (more:List UInt8):ay (aG l++more)=(0,(aG l).length,l):=by
 obtain ⟨h1,h2⟩:=oy h.2;have hall:∀ run∈aV l,run.length≤17∧∀ e∈run,0≤e.rep∧e.rep≤200∧0≤e.time∧e.time≤1099511627776:=by
  intro run hr;have hsub:∀ e∈run,e∈l:=fun e he=>by rw [←h2];exact List.mem_flatten.2 ⟨run,hr,he⟩
  have hle:run.length≤l.length:=by rw [←h2];exact (List.sublist_flatten_of_mem hr).length_le
  refine ⟨by have:=h.1;omega,fun e he=>?_⟩;have:=bJ h.2 e (hsub e he);omega
 have hnum:(aV l).length≤l.length:=by
  have:∀ (R:List (List Ent)) (least:Int),eE least R→R.length≤R.flatten.length:=by
   intro R
   induction R with
   | nil=>intro _ _;exact Nat.le_refl _
   | cons run rs ih =>
    intro least hR;have:=ih _ hR.2.2.2;have h3:0<run.length:=List.length_pos_iff.2 hR.1;rw [List.flatten_cons,List.length_append,List.length_cons];omega
  have h4:=this _ _ h1;rw [h2] at h4;exact h4
 have hl:=h.1;unfold aG;rw [List.append_assoc];have e1:=cN (aV l).length (bS 0 (aV l)++more) 16 (by omega) (by omega);have e2:=D9 (aV l) 0 more (putL (aV l).length).length [] h1 (Int.le_refl _) hall;rw [List.nil_append,h2] at e2;rw [ma e1 (by rw [List.drop_left];exact e2) ((bO l).2 h),List.length_append]
theorem ES (k:Nat):∀ (s:List UInt8) (used:Nat) (r:Int) (acc l:List Ent) (n:Nat),tmA k s used r acc=.inr (l,n) →
 ∃ run,l=acc++run∧run.length=k∧cY r run∧used≤n∧n≤used+s.length∧aZ run=s.take (n-used)∧∀ e∈run,0≤e.time∧e.time≤1099511627776:=by
 induction k with
 | zero =>
  intro s used r acc l n h;rw [tmA] at h;injection h with h
  injection h with h1 h2
  subst h1;subst h2;exact ⟨[],by simp,rfl,trivial,Nat.le_refl _,by omega,by simp [aZ],fun e h=>by cases h⟩
 | succ k ih =>
  intro s used r acc l n h;rcases ba s 1099511627776 with ⟨e,hi,he,_⟩ | ⟨t,j,hi,ht,hj1,hj2,hj3,hp⟩
  ·rw [lY hi he] at h;cases h
  ·rw [jv hi] at h;obtain ⟨run,rfl,h2,h3,h4,h5,h6,h7⟩:=ih _ _ _ _ _ _ h;rw [List.length_drop] at h5;refine ⟨⟨r,t⟩::run,by simp,by simp [h2],⟨rfl,h3⟩,by omega,by omega,?_,?_⟩
   ·rw [oP,h6];simp only [Int.toNat_natCast]
    rw [hp,←List.take_add,show j+(n-(used+j))=n-used by omega]
   ·intro e he;rcases List.mem_cons.1 he with rfl | he
    ·simp only;omega
    ·exact h7 e he
theorem rt {s:List UInt8} {used n:Nat} {least:Int} {acc l:List Ent} (h:getR s used least acc=.inr (l,n)) :
 ∃ run,l=acc++run∧run≠[]∧run.length≤17∧least≤(run.headD ⟨0,0⟩).rep∧(run.headD ⟨0,0⟩).rep≤least+200∧cY (run.headD ⟨0,0⟩).rep run∧used≤n∧n≤used+s.length∧runB least run=s.take (n-used)∧∀ e∈run,0≤e.time∧e.time≤1099511627776:=by
 rcases ba s 200 with ⟨e,hi,he,_⟩ | ⟨g,j,hi,hg,hj1,hj2,hj3,hp⟩
 ·rw [kF hi he] at h;cases h
 ·rcases ba (s.drop j) 16 with ⟨e,hi2,he,_⟩ | ⟨c,i,hi2,hc,hi1,hi3,hi4,hp2⟩
  ·rw [kG hi hi2 he] at h;cases h
  ·rw [iP hi hi2] at h;obtain ⟨run,rfl,h2,h3,h4,h5,h6,h7⟩:=ES _ _ _ _ _ _ _ h;have hne:run≠[]:=by intro e;rw [e] at h2;simp at h2
   have hh:=yx h3 hne;rw [List.length_drop] at hi4;rw [List.length_drop,List.length_drop] at h5;refine ⟨run,rfl,hne,by omega,by omega,by omega,by rw [hh];exact h3,by omega,by omega,?_,h7⟩;unfold runB;rw [hh,h6,show (least+(g:Int)-least).toNat=g by omega,show run.length-1=c by omega,hp,hp2,←List.take_add,List.drop_drop,←List.take_add]
   congr 1;omega
theorem D8 (k:Nat):∀ (s:List UInt8) (used:Nat) (least:Int) (acc l:List Ent) (n:Nat),rdA k s used least acc=.inr (l,n) →
 ∃ R,l=acc++R.flatten∧R.length=k∧eE least R∧used≤n∧n≤used+s.length∧bS least R=s.take (n-used):=by
 induction k with
 | zero =>
  intro s used least acc l n h;rw [rdA] at h;injection h with h
  injection h with h1 h2
  subst h1;subst h2;exact ⟨[],by simp,rfl,trivial,Nat.le_refl _,by omega,by simp [bS]⟩
 | succ k ih =>
  intro s used least acc l n h
  match hg:getR s 0 least [] with
  | .inl e=>rw [lx hg] at h;cases h
  | .inr (run,j) =>
   rw [jj hg] at h;obtain ⟨run',hr,g1,_,g3,_,g4,g5,g6,g7,g8⟩:=rt hg;rw [List.nil_append] at hr;subst hr;obtain ⟨R,rfl,h2,h3,h4,h5,h6⟩:=ih _ _ _ _ _ _ h;rw [List.length_drop] at h5;refine ⟨run::R,by simp,by simp [h2],⟨g1,g3,g4,h3⟩,by omega,by omega,?_⟩;rw [bS,g7,h6,Nat.sub_zero,←List.take_add]
   congr 1;omega
theorem mb {s:List UInt8} {n:Nat} {l:List Ent} (h:ay s=(0,n,l)):aB l∧1≤n∧n≤s.length∧aG l=s.take n:=by
 rcases ba s 16 with ⟨e,hi,he,_⟩ | ⟨k,j,hi,hk,hj1,hj2,hj3,hp⟩
 ·rw [pj hi he] at h;simp only [Prod.mk.injEq] at h
  exact absurd h.1 he
 ·match hr:rdA k (s.drop j) j 0 [] with
  | .inl e =>
   rw [pi hi hr] at h;simp only [Prod.mk.injEq] at h
   obtain ⟨rfl,_⟩:=h;exact absurd hr (by
    have hgr:∀ (s:List UInt8) (least:Int),getR s 0 least []≠.inl 0:=by
     have htm:∀ (k:Nat) (s:List UInt8) (used:Nat) (r:Int) (acc:List Ent),tmA k s used r acc≠.inl 0:=by
      intro k
      induction k with
      | zero=>intro s used r acc h;cases h
      | succ k ih =>
       intro s used r acc h;rcases ba s 1099511627776 with ⟨e,hi,he,_⟩ | ⟨t,j,hi,_⟩
       ·rw [lY hi he] at h;injection h with h;exact he h
       ·rw [jv hi] at h;exact ih _ _ _ _ h
     intro s least h;rcases ba s 200 with ⟨e,hi,he,_⟩ | ⟨g,j,hi,_⟩
     ·rw [kF hi he] at h;injection h with h;exact he h
     ·rcases ba (s.drop j) 16 with ⟨e,hi2,he,_⟩ | ⟨c,i,hi2,_⟩
      ·rw [kG hi hi2 he] at h;injection h with h;exact he h
      ·rw [iP hi hi2] at h;exact htm _ _ _ _ _ h
    have:∀ (k:Nat) (s:List UInt8) (used:Nat) (least:Int) (acc:List Ent),rdA k s used least acc≠.inl 0:=by
     intro k
     induction k with
     | zero=>intro s used least acc h;cases h
     | succ k ih =>
      intro s used least acc h
      match hg:getR s 0 least [] with
      | .inl e=>rw [lx hg] at h;injection h with h;subst h;exact hgr _ _ hg
      | .inr (run,j)=>rw [jj hg] at h;exact ih _ _ _ _ h
    exact this _ _ _ _ _)
  | .inr (m,i) =>
   by_cases hw:(aq m).1=0
   ·rw [ma hi hr hw] at h;simp only [Prod.mk.injEq,true_and] at h
    obtain ⟨rfl,rfl⟩:=h;obtain ⟨R,hl,h2,h3,h4,h5,h6⟩:=D8 _ _ _ _ _ _ _ hr;rw [List.nil_append] at hl;rw [List.length_drop] at h5;refine ⟨(bO m).1 hw,by omega,by omega,?_⟩;have e1:=DC h3;rw [←hl] at e1;unfold aG;rw [e1,h2,h6,hp,←List.take_add]
    congr 1;omega
   ·rw [pn hi hr hw] at h;simp only [Prod.mk.injEq] at h
    exact absurd h.1 hw
end
section
open Go.RowKit
def bT (l:List UInt8):List UInt8:=putL l.length++l
def dK (s:ByteArray):ByteArray:=⟨(putL s.size).toArray⟩++s
theorem lR (s:ByteArray):(dK s).data.toList=bT s.data.toList:=by unfold dK bT;rw [gG,←aj]
theorem lS (s:ByteArray):(dK s).size=(putL s.size).length+s.size:=by unfold dK;rw [pR,cq]
def getS (l:List UInt8):List UInt8×Nat×Nat :=
 if (getL l).2.2≠0 then ([],0,(getL l).2.2) else if 2000<(getL l).1 then ([],0,4) else if l.length<(getL l).2.1+(getL l).1 then ([],0,7)
 else ((l.drop (getL l).2.1).take (getL l).1,(getL l).2.1+(getL l).1,0)
theorem iQ {l:List UInt8} {e:Nat} (h:getL l=(0,0,e)) (he:e≠0):getS l=([],0,e):=by
 unfold getS;rw [h];rw [if_pos (by exact he)]
theorem iR {l:List UInt8} {n k:Nat} (h:getL l=(n,k,0)) (hn:2000<n):getS l=([],0,4):=by
 unfold getS;rw [h];rw [if_neg (by simp),if_pos (by exact hn)]
theorem iS {l:List UInt8} {n k:Nat} (h:getL l=(n,k,0)) (hn:¬ 2000<n) (hl:l.length<k+n):getS l=([],0,7):=by
 unfold getS;rw [h];rw [if_neg (by simp),if_neg (by exact hn),if_pos (by exact hl)]
theorem gN {l:List UInt8} {n k:Nat} (h:getL l=(n,k,0)) (hn:¬ 2000<n) (hl:¬ l.length<k+n):getS l=((l.drop k).take n,k+n,0):=by
 unfold getS;rw [h];rw [if_neg (by simp),if_neg (by exact hn),if_neg (by exact hl)]
def dL (r:List UInt8×Nat×Nat):Value:=.tuple #[.string ⟨r.1.toArray⟩,.int .i64 r.2.1,errV r.2.2]
theorem qz (s:ByteArray) (w:World) (hs:s.size≤281474976710656) :
 Calls Tryz.prog 74 #[.string s] w fun e w'=>e=.returned (.string s)∧Below w.heap.size w w':=by
 go_enter Tryz.func74,Tryz.ntmps74
 go_wp2_with fail
 refine (Tryz.stringslite_Clone s _ hs).mono ?_;rintro r w1 ⟨rfl,hb⟩;have HB:=hid hb;clear hb;go_wp2;go_ret;exact ⟨rfl,HB.out⟩
theorem oI (s:ByteArray) (w:World) (hs:s.size≤2000) :
 Calls Tryz.prog 117 #[.string s] w fun r w'=>r=.returned (.tuple #[.string (dK s),.nilIface])∧Below w.heap.size w w':=by
 have hl:=aI (n:=s.size) (by omega);have HP:Hid (dK s=⟨(putL s.size).toArray⟩++s):=rfl;go_enter Tryz.func117,Tryz.ntmps117
 go_wp2_with (go_at_call 115;refine (lw s.size _ (by omega)).mono ?_;rintro r w1 ⟨rfl,hb1⟩)
 go_ret2;exact ⟨by rw [HP.out];rfl,by assumption⟩
theorem lO (s:ByteArray) (w:World) (hs:s.size≤140737488351232) :
 Calls Tryz.prog 197 #[.string s] w fun r w'=>r=.returned (dL (getS s.data.toList))∧Below w.heap.size w w':=by
 have hs2:s.size≤maxLen:=by unfold maxLen;omega
 rcases dC s.data.toList with ⟨e,hg,he⟩ | ⟨n,k,hg,hn,hk1,hk2,hk3⟩
 ·have HP : Hid (dL (getS s.data.toList) = .tuple #[.string ⟨#[]⟩, .int .i64 0, .iface 68 (.int .i64 e)]) := by
   show dL _=_
   rw [iQ hg he];unfold dL errV;rw [if_neg he];rfl
  have HG:=hid hg;clear hg;rw [HP.out];go_enter Tryz.func197,Tryz.ntmps197
  go_wp2_with (go_at_call 182;refine (nu _ _ hs2 e HG.out he).mono ?_;rintro r w' ⟨rfl,rfl⟩)
  go_ret3;exact ⟨rfl,Below.refl _ _⟩
 ·rw [←aj] at hk3;by_cases h2:2000<n
  ·have HP : Hid (dL (getS s.data.toList) = .tuple #[.string ⟨#[]⟩, .int .i64 0, .iface 68 (.int .i64 4)]) := by
    show dL _=_
    rw [iR hg h2];rfl
   have HG:=hid hg;clear hg;rw [HP.out];go_enter Tryz.func197,Tryz.ntmps197
   go_wp2_with (go_at_call 182;refine (dD _ _ hs2 n k HG.out).mono ?_;rintro r w' ⟨rfl,rfl⟩)
   go_ret3;exact ⟨rfl,Below.refl _ _⟩
  ·have h2':n≤2000:=by omega
   by_cases h3:s.size<k+n
   ·have HP : Hid (dL (getS s.data.toList) = .tuple #[.string ⟨#[]⟩, .int .i64 0, .iface 68 (.int .i64 7)]) := by
     show dL _=_
     rw [iS hg h2 (by rw [←aj];exact h3)];rfl
    have HG:=hid hg;clear hg h2;rw [HP.out];go_enter Tryz.func197,Tryz.ntmps197
    go_wp2_with (go_at_call 182;refine (dD _ _ hs2 n k HG.out).mono ?_;rintro r w' ⟨rfl,rfl⟩)
    go_ret3;exact ⟨rfl,Below.refl _ _⟩
   ·have hx:s.extract k (k+n)=⟨((s.data.toList.drop k).take n).toArray⟩:=jX (by rw [fX,List.drop_take,Nat.add_sub_cancel_left]);have hxs:(s.extract k (k+n)).size≤281474976710656:=by rw [ByteArray.size_extract];omega
    have HP:Hid (dL (getS s.data.toList)=.tuple #[.string (s.extract k (k+n)),.int .i64 ((k:Int)+n),.nilIface]):=by
     show dL _=_
     rw [gN hg h2 (by rw [←aj];exact h3),hx];rfl
    have HG:=hid hg;have h3':k+n≤s.size:=by omega
    clear hg h2 h3 hx;rw [HP.out];go_enter Tryz.func197,Tryz.ntmps197
    go_wp2_with (first | (go_at_call 182;refine (dD _ _ hs2 n k HG.out).mono ?_;rintro r w' ⟨rfl,rfl⟩) | (go_at_call 74;refine (qz _ _ hxs).mono ?_;rintro r w1 ⟨rfl,hb1⟩))
    go_ret3;exact ⟨rfl,by assumption⟩
end
