import Derived.Test.YtdhognaoejiglaaGreatDoorKa11
import Derived.Test.YtdhognaoejiglaaGreatDoorKa09
namespace Go.Proofs.YtdhognaoejiglaaGreatDoor
open Lib (hid)
set_option maxRecDepth 100000
set_option maxHeartbeats 8000000
section
def maxT (l:List Ent):Int:=l.foldl (fun a e=>max a e.time) 0
theorem oB (l:List Ent):∀ a:Int,a≤l.foldl (fun a e=>max a e.time) a∧∀ e∈l,e.time≤l.foldl (fun a e=>max a e.time) a:=by
 induction l with
 | nil=>intro a;exact ⟨Int.le_refl _,fun e h=>(by cases h)⟩
 | cons d r ih =>
  intro a;rw [List.foldl_cons];obtain ⟨h1,h2⟩:=ih (max a d.time);refine ⟨by omega,fun e he=>?_⟩;rcases List.mem_cons.1 he with rfl | he
  ·omega
  ·exact h2 e he
theorem tu (l:List Ent):0≤maxT l:=(oB l 0).1
theorem fR (l:List Ent) (r:Int):ofF l r≤maxT l:=by
 by_cases h:ofF l r=0
 ·have:=tu l;omega
 ·obtain ⟨e,he,_,h2⟩:=jz h;have:=(oB l 0).2 e he;unfold maxT;omega
def lcW (s:LogS) (w:Wr):Wr:={ w with time:=maxT s.hv+1,rep:=s.rep }
def lcJ (s:LogS):Nat×List Ent:=aQ s.hv [⟨s.rep,maxT s.hv+1⟩]
def lcE (s:LogS) (w:Wr):Nat:=if 1099511627776≤maxT s.hv then 4 else if wE (lcW s w)≠0 then wE (lcW s w) else if 300≤s.ws.length then 12 else (lcJ s).1
def lcS (s:LogS) (w:Wr):LogS:=⟨s.rep,(lcJ s).2,s.ws++[lcW s w]⟩
theorem tf {s:LogS} {w:Wr} (h:lcE s w=0):maxT s.hv<1099511627776∧wE (lcW s w)=0∧s.ws.length<300∧(lcJ s).1=0:=by
 unfold lcE at h;split at h
 ·cases h
 ·split at h
  ·rename_i h2;exact absurd h h2
  ·split at h
   ·cases h
   ·rename_i h1 h2 h3;exact ⟨by omega,by simpa using h2,by omega,h⟩
theorem lA {a b:List Ent} (h:(aQ a b).1=0):az a∧az b∧az (aQ a b).2∧∀ r,ofF (aQ a b).2 r=max (ofF a r) (ofF b r):=by
 by_cases h1:(ar a).1=0
 ·by_cases h2:(ar b).1=0
  ·by_cases h3:16<(cL a b).length
   ·rw [sP h1 h2 h3] at h;cases h
   ·rw [gZ h1 h2 h3];have ra:=(br a).1 h1;have rb:=(br b).1 h2;exact ⟨ra,rb,⟨(by show (cL a b).length≤16;omega),jk ra.2 rb.2⟩,jj ra.2 rb.2⟩
  ·rw [sO h1 h2] at h;exact absurd h h2
 ·rw [sN h1] at h;exact absurd h h1
theorem oG (r t x:Int):ofF [⟨r,t⟩] x=if r=x then t else 0:=by
 by_cases h:r=x
 ·rw [cW h,if_pos h]
 ·rw [dr h,if_neg h];rfl
theorem tg {s:LogS} (hs:aH s) (h:(lcJ s).1=0) (x:Int):ofF (lcJ s).2 x=if s.rep=x then maxT s.hv+1 else ofF s.hv x:=by
 have h1:=(lA h).2.2.2 x;unfold lcJ;rw [h1,oG];have h2:=fR s.hv x;have h3:=bR hs.hv.2 x;split <;> omega
theorem oz {s:LogS} (hs:aH s) {w:Wr} (h:lcE s w=0):aH (lcS s w):=by
 obtain ⟨h1,h2,h3,h4⟩:=tf h;refine ⟨hs.rep,(lA h4).2.2.1,?_,fun x hx=>?_,?_⟩
 ·show (s.ws++[lcW s w]).Pairwise late
  rw [List.pairwise_append];refine ⟨hs.srt,List.pairwise_singleton _ _,fun a ha b hb=>?_⟩;obtain rfl:=List.mem_singleton.1 hb;have h5:=(hs.mem a ha).2;have h6:=fR s.hv a.rep;exact fp.2 (.inl (by show a.time<maxT s.hv+1;omega))
 ·have hx':x∈s.ws++[lcW s w]:=hx;show wE x=0∧x.time≤ofF (lcJ s).2 x.rep
  rw [tg hs h4];rcases List.mem_append.1 hx' with hx | hx
  ·obtain ⟨g1,g2⟩:=hs.mem x hx;refine ⟨g1,?_⟩;have h6:=fR s.hv x.rep;split <;> omega
  ·obtain rfl:=List.mem_singleton.1 hx;refine ⟨h2,?_⟩;rw [if_pos (show s.rep=(lcW s w).rep from rfl)];exact Int.le_refl _
 ·show (s.ws++[lcW s w]).length≤300
  rw [List.length_append];simp;omega
def dm (ws:List Wr) (x:Wr):Prop:=∃ y∈ws,wid y=wid x∧y≠x
open Classical in
noncomputable def twA (ws:List Wr):List Wr→Nat→Option Nat
 | [],_=>none
 | x::r,i=>if dm ws x then some i else twA ws r (i+1)
def aP (ws b:List Wr):List Wr:=b.filter (fun x=>!ws.any (fun y=>decide (wid y=wid x)))
noncomputable def accE (s:LogS) (f h:List Ent) (b:List Wr):Nat×Int :=
 if (batF f h b).1≠0 then batF f h b else if covB s.hv f=false then (10,-1) else if (aQ s.hv h).1≠0 then ((aQ s.hv h).1,-1) else
  match twA s.ws b 0 with
  | some i=>(9,(i:Int))
  | none=>if 300<s.ws.length+(aP s.ws b).length then (12,-1) else (0,-1)
def accS (s:LogS) (h:List Ent) (b:List Wr):LogS:=⟨s.rep,(aQ s.hv h).2,cO (s.ws++aP s.ws b)⟩
theorem jY {ws:List Wr} (b:List Wr):∀ i,twA ws b i=none↔∀ x∈b,¬ dm ws x:=by
 induction b with
 | nil=>intro i;exact ⟨fun _ x h=>(by cases h),fun _=>rfl⟩
 | cons x r ih =>
  intro i;rw [twA];by_cases h:dm ws x
  ·rw [if_pos h];exact ⟨fun e=>(by cases e),fun k=>absurd h (k x List.mem_cons_self)⟩
  ·rw [if_neg h,ih];exact ⟨fun k y hy=>by
    rcases List.mem_cons.1 hy with rfl | hy
    ·exact h
    ·exact k y hy,fun k y hy=>k y (List.mem_cons_of_mem _ hy)⟩
theorem eQ {ws b:List Wr} {x:Wr}:x∈aP ws b↔x∈b∧∀ y∈ws,wid y≠wid x:=by
 unfold aP;rw [List.mem_filter];simp
theorem qa {s:LogS} {f h:List Ent} {b:List Wr} (ha:(accE s f h b).1=0):aZ f h b∧covB s.hv f=true∧(aQ s.hv h).1=0∧(∀ x∈b,¬ dm s.ws x)∧s.ws.length+(aP s.ws b).length≤300:=by
 unfold accE at ha;split at ha
 ·rename_i h1;exact absurd ha h1
 ·rename_i h1;split at ha
  ·simp at ha
  ·rename_i h2;split at ha
   ·rename_i h3;exact absurd ha h3
   ·rename_i h3;split at ha
    ·simp at ha
    ·rename_i h4;split at ha
     ·simp at ha
     ·rename_i h5;exact ⟨by unfold aZ;simpa using h1,by simpa using h2,by simpa using h3,(jY b 0).1 h4,by omega⟩
theorem n4 {s:LogS} (hs:aH s) {f h:List Ent} {b:List Wr} (ha:(accE s f h b).1=0):aH (accS s h b):=by
 obtain ⟨h1,_,h3,_,h5⟩:=qa ha;obtain ⟨_,_,hr,hj⟩:=lA h3;have hb:=(dx.1 h1).2.2;refine ⟨hs.rep,hr,?_,fun x hx=>?_,?_⟩
 ·refine p8 ?_;show (s.ws++aP s.ws b).Pairwise _
  rw [List.pairwise_append];exact ⟨js hs.srt,js (hb.2.filter _),fun a ha c hc=>(eQ.1 hc).2 a ha⟩
 ·have hx':x∈s.ws++aP s.ws b:=jQ.1 hx;show wE x=0∧x.time≤ofF (aQ s.hv h).2 x.rep
  rw [hj];rcases List.mem_append.1 hx' with hx | hx
  ·obtain ⟨g1,g2⟩:=hs.mem x hx;exact ⟨g1,by omega⟩
  ·obtain ⟨g1,g2⟩:=hb.1 x (eQ.1 hx).1;refine ⟨g1,?_⟩;unfold wiF wid at g2;simp only [Bool.and_eq_true,decide_eq_true_eq] at g2
   omega
 ·show (cO (s.ws++aP s.ws b)).length≤300
  rw [uJ,List.length_append];exact h5
theorem m7 {s t:LogS} (hs:aH s) (ht:aH t) {h:List Ent} {b:List Wr} (ho:iC s t.hv h b) :
 (∀ x∈b,¬ dm t.ws x)∧aP t.ws b=b∧aQ t.hv h=(0,h)∧accE t t.hv h b=if 300<t.ws.length+b.length then (12,-1) else (0,-1):=by
 have hne:∀ x∈b,∀ y∈t.ws,wid y≠wid x:=by
  intro x hx y hy e;have h1:=(ho.mem x).1 hx;have h2:=(ht.mem y hy).2;unfold wid at e;simp only [Prod.mk.injEq] at e
  rw [e.2] at h2;omega
 have h1:∀ x∈b,¬ dm t.ws x:=fun x hx ⟨y,hy,e,_⟩=>hne x hx y hy e
 have h2:aP t.ws b=b:=by
  unfold aP;rw [List.filter_eq_self];intro x hx
  simpa using fun y hy=>hne x hx y hy
 have hj:cL t.hv h=h:=jB (jk ht.hv.2 ho.right.2) ho.right.2 (fun r=>by rw [jj ht.hv.2 ho.right.2];have:=ho.lo r;omega);have h3:aQ t.hv h=(0,h):=by
  rw [gZ ((br _).2 ht.hv) ((br _).2 ho.right) (by rw [hj];have:=ho.right.1;omega),hj]
 refine ⟨h1,h2,h3,?_⟩;have h4:(batF t.hv h b).1=0:=mi hs ht.hv ho;unfold accE;rw [if_neg (by rw [h4];simp),if_neg (by rw [(dp ht.hv ht.hv).2 (fun _=>Int.le_refl _)];simp),h3,if_neg (by simp),(jY b 0).2 h1,h2]
structure b7 (U:List Wr) (L:List LogS):Prop where
 ids:∀ x∈U,∀ y∈U,wid x=wid y→x=y
 ok:∀ s∈L,aH s
 rep:∀ (i:Nat) s,L[i]? = some s→s.rep=i
 own:∀ (i:Nat) s,L[i]? = some s→∀ x∈U,x.rep=i→x.time≤ofF s.hv i
 cov:∀ (i:Nat) s,L[i]? = some s→∀ t∈L,ofF t.hv i≤ofF s.hv i
 out:∀ s∈L,∀ r:Int,(r<0∨(L.length:Int)≤r)→ofF s.hv r=0
 ws:∀ s∈L,∀ x,x∈s.ws↔x∈U∧x.time≤ofF s.hv x.rep
theorem ui {U:List Wr} {L:List LogS} (h:b7 U L) {s t:LogS} (hs:s∈L) (ht:t∈L) (e:s.hv=t.hv):s.ws=t.ws :=
 jr (h.ok s hs).srt (h.ok t ht).srt (fun x=>by rw [h.ws s hs,h.ws t ht,e])
theorem DI (n:Nat) (hn:n≤201):b7 [] ((List.range n).map fun i:Nat=>(⟨(i:Int),[],[]⟩:LogS)):=by
 have hm:∀ s∈(List.range n).map fun i:Nat=>(⟨(i:Int),[],[]⟩:LogS),∃ i:Nat,i<n∧s=⟨(i:Int),[],[]⟩:=fun s hs=>by
  obtain ⟨i,hi,rfl⟩:=List.mem_map.1 hs;exact ⟨i,List.mem_range.1 hi,rfl⟩
 have hi:∀ (i:Nat) s,((List.range n).map fun i:Nat=>(⟨(i:Int),[],[]⟩:LogS))[i]? = some s→s=⟨(i:Int),[],[]⟩:=fun i s h=>by
  obtain ⟨hlt,e⟩:=List.getElem?_eq_some_iff.1 h;rw [←e];simp
 refine ⟨fun x h=>(by cases h),fun s hs=>?_,fun i s h=>by rw [hi i s h],fun i s _ x hx=>(by cases hx),fun i s h t ht=>?_,fun s hs r _=>?_,fun s hs x=>?_⟩
 ·obtain ⟨i,h1,rfl⟩:=hm s hs;exact jv ⟨by omega,by omega⟩
 ·obtain ⟨j,_,rfl⟩:=hm t ht;rw [hi i s h];exact Int.le_refl _
 ·obtain ⟨i,_,rfl⟩:=hm s hs;rfl
 ·obtain ⟨i,_,rfl⟩:=hm s hs;exact ⟨fun h=>(by cases h),fun h=>(by cases h.1)⟩
theorem cX {α:Type} {L:List α} {i j:Nat} {a b:α} (h:(L.set i a)[j]? = some b):(j=i∧b=a)∨(j≠i∧L[j]? = some b):=by
 by_cases e:j=i
 ·subst e;rw [List.getElem?_set_self' ] at h;cases h2:L[j]? with
  | none=>rw [h2] at h;cases h
  | some c=>rw [h2] at h;left;exact ⟨rfl,(Option.some.inj h).symm⟩
 ·right
  rw [List.getElem?_set_ne (fun e2=>e e2.symm)] at h;exact ⟨e,h⟩
theorem dV {α:Type} {L:List α} {i:Nat} {a b:α} (h:b∈L.set i a):b=a∨b∈L:=by
 rcases List.mem_or_eq_of_mem_set h with h | h
 ·exact .inr h
 ·exact .inl h
theorem DH {U:List Wr} {L:List LogS} (h:b7 U L) {i:Nat} {s:LogS} (hi:L[i]? = some s) {w:Wr} (hw:lcE s w=0):b7 (lcW s w::U) (L.set i (lcS s w)):=by
 have hs:=List.mem_of_getElem? hi;have ok:=h.ok s hs;obtain ⟨_,h2,_,h4⟩:=tf hw;have hr:s.rep=i:=h.rep i s hi;have hof:=tg ok h4;have hwr:(lcW s w).rep=i:=hr;have hwt:(lcW s w).time=maxT s.hv+1:=rfl;have hil:i<L.length:=(List.getElem?_eq_some_iff.1 hi).1;have hnew:∀ x∈U,wid x≠wid (lcW s w):=by
  intro x hx e;unfold wid at e;simp only [Prod.mk.injEq] at e
  have h5:=h.own i s hi x hx (by rw [e.2,hwr]);have h6:=fR s.hv (i:Int);rw [hwt] at e;omega
 refine ⟨?_,?_,?_,?_,?_,?_,?_⟩
 ·intro x hx y hy e;rcases List.mem_cons.1 hx with ex | hx
  ·rcases List.mem_cons.1 hy with ey | hy
   ·rw [ex,ey]
   ·rw [ex] at e;exact absurd e.symm (hnew y hy)
  ·rcases List.mem_cons.1 hy with ey | hy
   ·rw [ey] at e;exact absurd e (hnew x hx)
   ·exact h.ids x hx y hy e
 ·intro t ht;rcases dV ht with rfl | ht
  ·exact oz ok hw
  ·exact h.ok t ht
 ·intro j t ht;rcases cX ht with ⟨rfl,rfl⟩ | ⟨_,ht⟩
  ·exact hr
  ·exact h.rep j t ht
 ·intro j t ht x hx e;rcases cX ht with ⟨rfl,rfl⟩ | ⟨hj,ht⟩
  ·show x.time≤ofF (lcJ s).2 j
   rw [hof,if_pos hr];rcases List.mem_cons.1 hx with rfl | hx
   ·exact Int.le_refl _
   ·have:=h.own j s hi x hx e;have:=fR s.hv (j:Int);omega
  ·rcases List.mem_cons.1 hx with rfl | hx
   ·rw [hwr] at e;exact absurd (by omega) hj
   ·exact h.own j t ht x hx e
 ·intro j t ht u hu0;have hu':ofF u.hv j≤if s.rep=j then maxT s.hv+1 else ofF t.hv j:=by
   rcases dV hu0 with rfl | hu
   ·show ofF (lcJ s).2 j≤_
    rw [hof];split
    ·exact Int.le_refl _
    ·rename_i hne;rcases cX ht with ⟨rfl,rfl⟩ | ⟨_,ht⟩
     ·exact absurd hr hne
     ·exact h.cov j t ht s hs
   ·split
    ·rename_i he;have hj:j=i:=by omega
     subst hj;have:=h.cov j s hi u hu;have:=fR s.hv (j:Int);omega
    ·rename_i hne;rcases cX ht with ⟨rfl,rfl⟩ | ⟨_,ht⟩
     ·exact absurd hr hne
     ·exact h.cov j t ht u hu
  rcases cX ht with ⟨rfl,rfl⟩ | ⟨hj,ht⟩
  ·show _≤ofF (lcJ s).2 j
   rw [hof,if_pos hr]
   rwa [if_pos hr] at hu'
  ·rwa [if_neg (by omega)] at hu'
 ·intro t ht r hout;rw [List.length_set] at hout;rcases dV ht with rfl | ht
  ·show ofF (lcJ s).2 r=0
   rw [hof,if_neg (by omega)];exact h.out s hs r hout
  ·exact h.out t ht r hout
 ·intro t ht x;obtain ⟨j,hj⟩:=List.getElem?_of_mem ht;rcases cX hj with ⟨rfl,rfl⟩ | ⟨hji,hj⟩
  ·show x∈s.ws++[lcW s w]↔x∈lcW s w::U∧x.time≤ofF (lcJ s).2 x.rep
   rw [hof,List.mem_append,List.mem_singleton,List.mem_cons,h.ws s hs]
   constructor
   ·rintro (⟨h1,h3⟩ | rfl)
    ·refine ⟨.inr h1,?_⟩;have:=fR s.hv x.rep;split <;> omega
    ·refine ⟨.inl rfl,?_⟩;rw [if_pos (show s.rep=(lcW s w).rep from rfl)];exact Int.le_refl _
   ·rintro ⟨rfl | h1,h3⟩
    ·exact .inr rfl
    ·left
     refine ⟨h1,?_⟩;split at h3
     ·rename_i he;have:=h.own j s hi x h1 (by omega);rw [show x.rep=(j:Int) by omega];exact this
     ·exact h3
  ·have htm:=List.mem_of_getElem? hj;rw [h.ws t htm,List.mem_cons]
   constructor
   ·rintro ⟨h1,h3⟩;exact ⟨.inr h1,h3⟩
   ·rintro ⟨rfl | h1,h3⟩
    ·rw [hwr,hwt] at h3;have h5:=h.cov i s hi t htm;have h6:=fR s.hv (i:Int);omega
    ·exact ⟨h1,h3⟩
theorem DJ {U:List Wr} {L:List LogS} (h:b7 U L) {j:Nat} {s t:LogS} (hs:s∈L) (hj:L[j]? = some t) {hh:List Ent} {b:List Wr} (ho:iC s t.hv hh b) (ha:(accE t t.hv hh b).1=0) :
 accS t hh b=⟨t.rep,hh,cO (t.ws++b)⟩∧b7 U (L.set j (accS t hh b)):=by
 have ht:=List.mem_of_getElem? hj;obtain ⟨_,h2,h3,_⟩:=m7 (h.ok s hs) (h.ok t ht) ho;have eS:accS t hh b=⟨t.rep,hh,cO (t.ws++b)⟩:=by unfold accS;rw [h2,h3]
 refine ⟨eS,h.ids,?_,?_,?_,?_,?_,?_⟩
 ·intro u hu;rcases dV hu with rfl | hu
  ·exact n4 (h.ok t ht) ha
  ·exact h.ok u hu
 ·intro i u hu;rcases cX hu with ⟨rfl,rfl⟩ | ⟨_,hu⟩
  ·exact h.rep i t hj
  ·exact h.rep i u hu
 ·intro i u hu x hx e;rcases cX hu with ⟨rfl,rfl⟩ | ⟨_,hu⟩
  ·rw [eS];have h5:=h.own i t hj x hx e;have h6:=ho.lo (i:Int);show x.time≤ofF hh i
   omega
  ·exact h.own i u hu x hx e
 ·intro i u hu v hv;have hv':ofF v.hv i≤ofF hh i∨∃ y∈L,ofF v.hv i≤ofF y.hv i:=by
   rcases dV hv with rfl | hv
   ·rw [eS];exact .inl (Int.le_refl _)
   ·exact .inr ⟨v,hv,Int.le_refl _⟩
  rcases cX hu with ⟨rfl,rfl⟩ | ⟨_,hu⟩
  ·rw [eS];show _≤ofF hh i
   rcases hv' with hv' | ⟨y,hy,hv'⟩
   ·exact hv'
   ·have:=h.cov i t hj y hy;have:=ho.lo (i:Int);omega
  ·rcases hv' with hv' | ⟨y,hy,hv'⟩
   ·have:=ho.hi (i:Int);have:=h.cov i u hu s hs;omega
   ·have:=h.cov i u hu y hy;omega
 ·intro u hu r hout;rw [List.length_set] at hout;rcases dV hu with rfl | hu
  ·rw [eS];show ofF hh r=0
   have h1:=ho.hi r;have h5:=ho.lo r;rw [h.out s hs r hout] at h1;rw [h.out t ht r hout] at h5;omega
  ·exact h.out u hu r hout
 ·intro u hu x;rcases dV hu with rfl | hu
  ·rw [eS];show x∈cO (t.ws++b)↔x∈U∧x.time≤ofF hh x.rep
   rw [jQ,List.mem_append,h.ws t ht,ho.mem,h.ws s hs];have h1:=ho.lo x.rep;have h5:=ho.hi x.rep
   constructor
   ·rintro (⟨g1,g2⟩ | ⟨⟨g1,_⟩,_,g3⟩)
    ·exact ⟨g1,by omega⟩
    ·exact ⟨g1,g3⟩
   ·rintro ⟨g1,g2⟩;by_cases e:x.time≤ofF t.hv x.rep
    ·exact .inl ⟨g1,e⟩
    ·exact .inr ⟨⟨g1,by omega⟩,by omega,g2⟩
  ·exact h.ws u hu x
end
section
open Go.RowKit
def io (f h:List Ent) (l:List Wr) (f2 h2:List Ent) (l2:List Wr):Bool:=decide (f=f2) && decide (h=h2) && decide (l=l2)
theorem Eu (f h:List Ent) (l:List Wr):io f h l f h l=true:=by simp [io]
def bat2 (w:World) (B:Nat) (a b c d e g:Value):Prop :=
 w.cell? ⟨B,0,none⟩=some a∧w.cell? ⟨B,1,none⟩=some b∧w.cell? ⟨B,2,none⟩=some c∧w.cell? ⟨B+1,0,none⟩=some d∧w.cell? ⟨B+1,1,none⟩=some e∧w.cell? ⟨B+1,2,none⟩=some g
theorem yl (w:World) (a b c d e g:Value) (t u:TypeId):bat2 ((w.alloc (.cells #[a,b,c] t)).alloc (.cells #[d,e,g] u)) w.heap.size a b c d e g:=by
 unfold bat2;simp
theorem bat2.drewN {w:World} {B:Nat} {a b c d e g:Value} (h:bat2 w B a b c d e g) (n:Nat):bat2 (w.drewN n) B a b c d e g:=h
end
section
def accW (ws b:List Wr):List Wr:=cO (ws++aP ws b)
theorem gd {ws b:List Wr} {x:Wr}:x∈accW ws b↔x∈ws∨x∈aP ws b:=by unfold accW;rw [jQ,List.mem_append]
theorem mZ (ws b:List Wr):(accW ws b).length=ws.length+(aP ws b).length:=by unfold accW;rw [uJ,List.length_append]
theorem gc {ws b:List Wr} (hw:ws.Pairwise late) (hb:b.Pairwise late):(accW ws b).Pairwise late:=by
 refine p8 ?_;show (ws++aP ws b).Pairwise _
 rw [List.pairwise_append];exact ⟨js hw,js (hb.filter _),fun a ha c hc=>(eQ.1 hc).2 a ha⟩
theorem qb {ws:List Wr} (hw:ws.Pairwise late):accW ws []=ws :=
 jr (gc hw List.Pairwise.nil) hw (fun c=>by rw [gd,eQ];simp)
theorem gE {b:List Wr} (hb:b.Pairwise late) (k:Nat):(b.take k).Pairwise late:=hb.sublist (List.take_sublist k b)
theorem mv {b:List Wr} {k:Nat} {x:Wr} (hx:b[k]? = some x):b.take (k+1)=b.take k++[x]:=by rw [List.take_add_one,hx];rfl
theorem Fy {b:List Wr} (hb:b.Pairwise late) {k:Nat} {x:Wr} (hx:b[k]? = some x):∀ y∈b.take k,wid y≠wid x:=by
 intro y hy;have h:=gE hb (k+1);rw [mv hx,List.pairwise_append] at h;exact db (h.2.2 y hy x List.mem_cons_self)
theorem rU {ws b:List Wr} {k:Nat} {x:Wr} (hx:b[k]? = some x) (y:Wr):y∈aP ws (b.take (k+1))↔y∈aP ws (b.take k)∨y=x∧∀ z∈ws,wid z≠wid x:=by
 rw [mv hx,eQ,eQ,List.mem_append,List.mem_singleton]
 constructor
 ·rintro ⟨h | rfl,h2⟩
  ·exact .inl ⟨h,h2⟩
  ·exact .inr ⟨rfl,h2⟩
 ·rintro (⟨h,h2⟩ | ⟨rfl,h2⟩)
  ·exact ⟨.inl h,h2⟩
  ·exact ⟨.inr rfl,h2⟩
theorem xG {ws b:List Wr} (hw:ws.Pairwise late) (hb:b.Pairwise late) {k:Nat} {x y:Wr} (hx:b[k]? = some x) (hy:y∈ws) (e:wid y=wid x):accW ws (b.take (k+1))=accW ws (b.take k) :=
 jr (gc hw (gE hb _)) (gc hw (gE hb _)) (fun c=>by
  rw [gd,gd,rU hx]
  constructor
  ·rintro (h | h | ⟨rfl,h⟩)
   ·exact .inl h
   ·exact .inr h
   ·exact absurd e (h y hy)
  ·rintro (h | h)
   ·exact .inl h
   ·exact .inr (.inl h))
theorem xF {ws b:List Wr} (hb:b.Pairwise late) {k:Nat} {x y:Wr} (hx:b[k]? = some x) (hy:y∈accW ws (b.take k)) (e:wid y=wid x):y∈ws:=by
 rcases gd.1 hy with h | h
 ·exact h
 ·exact absurd e (Fy hb hx y (eQ.1 h).1)
theorem xE {ws b:List Wr} (hw:ws.Pairwise late) (hb:b.Pairwise late) {k:Nat} {x:Wr} (hx:b[k]? = some x) {p:Nat} (hp:p≤(accW ws (b.take k)).length)
 (h1:∀ i y,i<p→(accW ws (b.take k))[i]? = some y→late y x) (h2:∀ i y,p≤i→(accW ws (b.take k))[i]? = some y→late x y) :
 accW ws (b.take (k+1))=(accW ws (b.take k)).take p++x::(accW ws (b.take k)).drop p:=by
 obtain ⟨A,hA⟩:∃ A,A=accW ws (b.take k):=⟨_,rfl⟩;have hl:A.Pairwise late:=by rw [hA];exact gc hw (gE hb _)
 have hm:∀ c,c∈A↔c∈ws∨c∈aP ws (b.take k):=fun c=>by rw [hA,gd]
 rw [←hA] at h1 h2 hp ⊢;have t1:∀ y∈A.take p,late y x:=fun y hy=>by
  obtain ⟨i,hi,e⟩:=List.getElem_of_mem hy;have hip:i<p:=by rw [List.length_take] at hi;omega
  refine h1 i y hip ?_;rw [←List.getElem?_take_of_lt hip,List.getElem?_eq_getElem hi,e]
 have t2:∀ y∈A.drop p,late x y:=fun y hy=>by
  obtain ⟨i,hi,e⟩:=List.getElem_of_mem hy;refine h2 (p+i) y (by omega) ?_;rw [←List.getElem?_drop,List.getElem?_eq_getElem hi,e]
 have hn:∀ z∈A,wid z≠wid x:=fun z hz=>by
  rw [←List.take_append_drop p A] at hz;rcases List.mem_append.1 hz with hz | hz
  ·exact db (t1 z hz)
  ·exact fun e=>db (t2 z hz) e.symm
 refine jr (gc hw (gE hb _)) ?_ (fun c=>?_)
 ·rw [List.pairwise_append,List.pairwise_cons];have hs:=hl;rw [←List.take_append_drop p A,List.pairwise_append] at hs;refine ⟨hs.1,⟨t2,hs.2.1⟩,fun a ha c hc=>?_⟩;rcases List.mem_cons.1 hc with rfl | hc
  ·exact t1 a ha
  ·exact hs.2.2 a ha c hc
 ·rw [gd,rU hx,List.mem_append,List.mem_cons];have hd:c∈A↔c∈A.take p∨c∈A.drop p:=by rw [←List.mem_append,List.take_append_drop]
  constructor
  ·rintro (h | h | ⟨rfl,_⟩)
   ·rcases hd.1 ((hm c).2 (.inl h)) with h | h
    ·exact .inl h
    ·exact .inr (.inr h)
   ·rcases hd.1 ((hm c).2 (.inr h)) with h | h
    ·exact .inl h
    ·exact .inr (.inr h)
   ·exact .inr (.inl rfl)
  ·rintro (h | rfl | h)
   ·rcases (hm c).1 (hd.2 (.inl h)) with h | h
    ·exact .inl h
    ·exact .inr (.inl h)
   ·exact .inr (.inr ⟨rfl,fun z hz=>hn z ((hm z).2 (.inl hz))⟩)
   ·rcases (hm c).1 (hd.2 (.inr h)) with h | h
    ·exact .inl h
    ·exact .inr (.inl h)
theorem G3 {ws:List Wr} (b:List Wr):∀ (k i:Nat) (x:Wr),(∀ y∈b.take k,¬ dm ws y)→b[k]? = some x→dm ws x→twA ws b i=some (i+k):=by
 induction b with
 | nil=>intro k i x _ h;cases h
 | cons c r ih =>
  intro k i x hn hx hc;rw [twA];cases k with
  | zero =>
   obtain rfl:c=x:=by simpa using hx
   rw [if_pos hc];rfl
  | succ k =>
   rw [if_neg (hn c (by simp)),ih k (i+1) x (fun y hy=>hn y (by simp [hy])) (by simpa using hx) hc]
   congr 1;omega
noncomputable def togE (ws b:List Wr):Nat×Int :=
 match twA ws b 0 with
 | some i=>(9,(i:Int))
 | none=>if 300<ws.length+(aP ws b).length then (12,-1) else (0,-1)
end
section
def bJ (f:List Ent) (l:List Wr):List Ent:=tab (fun r=>topT f l (r:Int)) 201
theorem G0 (f:List Ent) (l:List Wr) (x:Wr) (r:Int):topT f (l++[x]) r=if x.rep=r then max (topT f l r) x.time else topT f l r:=by
 unfold topT;rw [List.foldl_append];rfl
theorem E3 {f:List Ent} (hf:az f):bJ f []=f:=Fm hf.2
def InV (hv:List Ent) (l:List Wr):Prop:=∀ x∈l,0≤x.rep∧x.rep≤200∧1≤x.time∧x.time≤1099511627776∧x.time≤ofF hv x.rep
theorem oR {hv f:List Ent} {l:List Wr} (hh:az hv) (hf:az f) (hc:∀ r,ofF f r≤ofF hv r) (hl:InV hv l) :
 (∀ r,ofF f r≤topT f l r∧topT f l r≤ofF hv r)∧(∀ r,ofF (bJ f l) r=topT f l r)∧az (bJ f l):=by
 have hT:∀ r:Int,ofF f r≤topT f l r∧topT f l r≤ofF hv r:=by
  intro r;refine ⟨(my r l _).1,?_⟩;rcases pn r l (ofF f r) with h | ⟨x,hx,hr,h⟩
  ·unfold topT;rw [h];exact hc r
  ·unfold topT;rw [h,←hr];exact (hl x hx).2.2.2.2
 have hof:∀ r,ofF (bJ f l) r=topT f l r:=by
  intro r;unfold bJ;rw [lF];have h1:=hT r;have h2:=bR hf.2 r;by_cases hr:0≤r∧r≤200
  ·have e:(r.toNat:Int)=r:=by omega
   rw [e];split
   ·rfl
   ·omega
  ·have h3:=gu hf.2 (x:=r) (by omega);have h4:=gu hh.2 (x:=r) (by omega);rw [if_neg (by omega)];omega
 have hov:okV (-1) (bJ f l):=mt (f:=fun r=>topT f l (r:Int)) (fun r=>Int.le_trans (hT r).2 (bR hh.2 _).2) (Nat.le_refl 201);refine ⟨hT,hof,?_,hov⟩;have hsub:∀ e∈bJ f l,∃ d∈hv,d.rep=e.rep:=by
  intro e he;have h1:=jA hov he;have h2:=bc hov e he;have h3:=hof e.rep;have h4:=(hT e.rep).2;obtain ⟨d,hd,h5,_⟩:=jz (l:=hv) (x:=e.rep) (by omega);exact ⟨d,hd,h5⟩
 have hnd:∀ {l:List Ent} {a:Int},okV a l→(l.map (·.rep)).Nodup:=by
  intro l
  induction l with
  | nil=>intro a _;exact List.nodup_nil
  | cons e r ih =>
   intro a h;rw [List.map_cons,List.nodup_cons];refine ⟨fun hm=>?_,ih h.2⟩;obtain ⟨d,hd,he⟩:=List.mem_map.1 hm;have:=bc h.2 d hd;omega
 have h5:=(hnd hov).length_le_of_subset (l₂:=hv.map (·.rep)) (fun r hr=>by
  obtain ⟨e,he,rfl⟩:=List.mem_map.1 hr;obtain ⟨d,hd,h6⟩:=hsub e he;exact List.mem_map.2 ⟨d,hd,h6⟩)
 rw [List.length_map,List.length_map] at h5;exact Nat.le_trans h5 hh.1
theorem E4 {hv f:List Ent} {l:List Wr} {x:Wr} (hh:az hv) (hf:az f) (hc:∀ r,ofF f r≤ofF hv r) (hl:InV hv (l++[x])) :
 aQ (bJ f l) [⟨x.rep,x.time⟩]=(0,bJ f (l++[x])):=by
 have hx:=hl x (by simp);obtain ⟨_,h2,h3⟩:=oR hh hf hc (l:=l) (fun y hy=>hl y (List.mem_append_left _ hy));obtain ⟨_,h5,h6⟩:=oR hh hf hc hl;have h7:az [(⟨x.rep,x.time⟩:Ent)]:=by
  refine ⟨by simp,?_⟩;exact ⟨gF.2 ⟨hx.1,hx.2.1,hx.2.2.1,hx.2.2.2.1,by show (-1:Int)<x.rep;omega⟩,trivial⟩
 have hj:cL (bJ f l) [⟨x.rep,x.time⟩]=bJ f (l++[x]):=jB (jk h3.2 h7.2) h6.2 (fun r=>by
  rw [jj h3.2 h7.2,h2,h5,G0,oG];split
  ·rfl
  ·have:=(my r l (ofF f r)).1;have h8:=bR hf.2 r;have h9:topT f l r=l.foldl (fun a w=>if w.rep=r then max a w.time else a) (ofF f r):=rfl;omega)
 rw [gZ ((br _).2 h3) ((br _).2 h7) (by rw [hj];have:=h6.1;omega),hj]
theorem AE {s:LogS} (ok:aH s) {l:List Wr} (h:∀ x∈l,x∈s.ws):InV s.hv l:=fun x hx=>by
 have h1:=ok.mem x (h x hx);have h2:=pO h1.1;exact ⟨h2.2.2.1,h2.2.2.2,h2.1,h2.2.1,h1.2⟩
end
section
structure iB (U:List Wr) (f h:List Ent) (b:List Wr):Prop where
 right:aZ f h b
 mem:∀ x,x∈b↔x∈U∧ofF f x.rep<x.time∧x.time≤ofF h x.rep
theorem uE {U:List Wr} {L:List LogS} (h:b7 U L) {s:LogS} (hs:s∈L) {f hh:List Ent} {b:List Wr} (hf:az f) (ho:iC s f hh b):iB U f hh b :=
 ⟨mi (h.ok s hs) hf ho,fun x=>by
  rw [ho.mem,h.ws s hs];have:=ho.hi x.rep;exact ⟨fun ⟨⟨a,_⟩,c,d⟩=>⟨a,c,d⟩,fun ⟨a,c,d⟩=>⟨⟨a,by omega⟩,c,d⟩⟩⟩
theorem Fz {U:List Wr} {L:List LogS} (h:b7 U L) {t:LogS} (ht:t∈L) {f hh:List Ent} {b:List Wr} (hb:iB U f hh b):∀ x∈b,¬ dm t.ws x:=fun x hx ⟨y,hy,e,hne⟩ =>
 hne (h.ids y ((h.ws t ht y).1 hy).1 x ((hb.mem x).1 hx).1 e)
theorem Fx {U:List Wr} {L:List LogS} (h:b7 U L) {t:LogS} (ht:t∈L) {f hh:List Ent} {b:List Wr} (hb:iB U f hh b) (x:Wr):x∈aP t.ws b↔x∈b∧ofF t.hv x.rep<x.time:=by
 rw [eQ]
 constructor
 ·rintro ⟨h1,h2⟩;refine ⟨h1,?_⟩;refine Classical.byContradiction fun hn=>?_
  exact h2 x ((h.ws t ht x).2 ⟨((hb.mem x).1 h1).1,by omega⟩) rfl
 ·rintro ⟨h1,h2⟩;refine ⟨h1,fun y hy e=>?_⟩;have h3:=(h.ok t ht).mem y hy;unfold wid at e;simp only [Prod.mk.injEq] at e
  rw [e.2] at h3;omega
theorem Ft {U:List Wr} {L:List LogS} (h:b7 U L) {t:LogS} (ht:t∈L) {f hh:List Ent} {b:List Wr} (hb:iB U f hh b) (hc:covB t.hv f=true) (hj:(aQ t.hv hh).1=0) :
 accE t f hh b=if 300<t.ws.length+(aP t.ws b).length then (12,-1) else (0,-1):=by
 unfold accE;rw [if_neg (by rw [show (batF f hh b).1=0 from hb.right];simp),if_neg (by rw [hc];simp),if_neg (by rw [hj];simp),(jY b 0).2 (Fz h ht hb)]
theorem DK {U:List Wr} {L:List LogS} (h:b7 U L) {j:Nat} {s t:LogS} (hs:s∈L) (hj:L[j]? = some t) {f hh:List Ent} {b:List Wr} (hb:iB U f hh b) (hhi:∀ r,ofF hh r≤ofF s.hv r) (hlo:∀ r,ofF f r≤ofF t.hv r) (ha:(accE t f hh b).1=0) :
 b7 U (L.set j (accS t hh b))∧∀ r,ofF (accS t hh b).hv r=max (ofF t.hv r) (ofF hh r):=by
 have ht:=List.mem_of_getElem? hj;obtain ⟨_,_,h3,_,_⟩:=qa ha;obtain ⟨_,rh,_,hjn⟩:=lA h3;have hA:∀ r,ofF (accS t hh b).hv r=max (ofF t.hv r) (ofF hh r):=hjn;refine ⟨⟨h.ids,?_,?_,?_,?_,?_,?_⟩,hA⟩
 ·intro u hu;rcases dV hu with rfl | hu
  ·exact n4 (h.ok t ht) ha
  ·exact h.ok u hu
 ·intro i u hu;rcases cX hu with ⟨rfl,rfl⟩ | ⟨_,hu⟩
  ·exact h.rep i t hj
  ·exact h.rep i u hu
 ·intro i u hu x hx e;rcases cX hu with ⟨rfl,rfl⟩ | ⟨_,hu⟩
  ·rw [hA];have h5:=h.own i t hj x hx e;omega
  ·exact h.own i u hu x hx e
 ·intro i u hu v hv;have hv':∃ y∈L,∃ z∈L,ofF v.hv i≤max (ofF y.hv i) (ofF z.hv i):=by
   rcases dV hv with rfl | hv
   ·exact ⟨t,ht,s,hs,by rw [hA];have:=hhi (i:Int);omega⟩
   ·exact ⟨v,hv,v,hv,by omega⟩
  obtain ⟨y,hy,z,hz,hv'⟩:=hv';rcases cX hu with ⟨rfl,rfl⟩ | ⟨_,hu⟩
  ·rw [hA];have:=h.cov i t hj y hy;have:=h.cov i t hj z hz;omega
  ·have:=h.cov i u hu y hy;have:=h.cov i u hu z hz;omega
 ·intro u hu r hout;rw [List.length_set] at hout;rcases dV hu with rfl | hu
  ·rw [hA];have h1:=hhi r;rw [h.out s hs r hout] at h1;have h2:=h.out t ht r hout;have h3:=bR rh.2 r;omega
  ·exact h.out u hu r hout
 ·intro u hu x;rcases dV hu with rfl | hu
  ·rw [hA];show x∈cO (t.ws++aP t.ws b)↔_
   rw [jQ,List.mem_append,Fx h ht hb,hb.mem,h.ws t ht];have h1:=hlo x.rep
   constructor
   ·rintro (⟨g1,g2⟩ | ⟨⟨g1,_,g3⟩,_⟩)
    ·exact ⟨g1,by omega⟩
    ·exact ⟨g1,by omega⟩
   ·rintro ⟨g1,g2⟩;by_cases e:x.time≤ofF t.hv x.rep
    ·exact .inl ⟨g1,e⟩
    ·exact .inr ⟨⟨g1,by omega,by omega⟩,by omega⟩
  ·exact h.ws u hu x
theorem ug {U:List Wr} {L:List LogS} (h:b7 U L) {s:LogS} (hs:s∈L):s.ws.length≤U.length:=by
 have hn:s.ws.Nodup:=(h.ok s hs).srt.imp (fun {a b} h (e:a=b)=>db h (by rw [e]));exact hn.length_le_of_subset (fun x hx=>((h.ws s hs x).1 hx).1)
theorem uD {s:LogS} (f:List Ent) (h:s.ws.length≤60):ak s f=aS s f∧ay s f=s.hv:=by
 have hl:(aS s f).length≤60:=Nat.le_trans (List.length_filter_le _ _) h;exact ⟨by unfold ak;rw [if_pos hl],by unfold ay;rw [if_pos hl]⟩
end
section
open Go.RowKit
theorem wU (x1 x2:Int) (vf vh:Value) (f h:List Ent) (b:Bool) (w:World) (hf:ag w vf f) (hh:ag w vh h) (hlf:f.length≤9223372036854775807) (hlh:h.length≤9223372036854775807) (hb:wiF (x1,x2) f h=b) :
 Calls Tryz.prog 27 #[.agg #[.int .i64 x1,.int .i64 x2],vf,vh] w fun e w'=>e=.returned (.bool b)∧Below w.heap.size w w':=Ha x1 x2 vf vh f h w hf hh hlf hlh b hb
end
section
open Go.RowKit
theorem nu (vf vh vw uf uh uw:Value) (f h:List Ent) (l:List Wr) (f2 h2:List Ent) (l2:List Wr) (c:Bool) (w:World) (hx:aB w vf vh vw f h l) (hy:aB w uf uh uw f2 h2 l2) (hc:io f h l f2 h2 l2=c) :
 Calls Tryz.prog 25 #[.agg #[vf,vh,vw],.agg #[uf,uh,uw]] w fun e w'=>e=.returned (.bool c)∧Below w.heap.size w w':=by
 subst hc;have HX:=hid hx;have HY:=hid hy;obtain ⟨hf,hh,hv,_⟩:=hx;obtain ⟨af,cf,rfl,_⟩:=hf.form;obtain ⟨ah,ch,rfl,_⟩:=hh.form;obtain ⟨aw,cw,rfl,_⟩:=hv.form;obtain ⟨hf2,hh2,hv2,_⟩:=hy;obtain ⟨bf,df,rfl,_⟩:=hf2.form;obtain ⟨bh,dh,rfl,_⟩:=hh2.form;obtain ⟨bw,dw,rfl,_⟩:=hv2.form;clear hf hh hv hf2 hh2 hv2;obtain ⟨nf,hn1⟩:∃ n,n=f.length:=⟨_,rfl⟩;obtain ⟨nh,hn2⟩:∃ n,n=h.length:=⟨_,rfl⟩;obtain ⟨n,hn3⟩:∃ n,n=l.length:=⟨_,rfl⟩;obtain ⟨mf,hn4⟩:∃ n,n=f2.length:=⟨_,rfl⟩;obtain ⟨mh,hn5⟩:∃ n,n=h2.length:=⟨_,rfl⟩;obtain ⟨m,hn6⟩:∃ n,n=l2.length:=⟨_,rfl⟩;rw [←hn1,←hn2,←hn3] at HX ⊢;rw [←hn4,←hn5,←hn6] at HY ⊢;obtain ⟨c1,e1⟩:∃ c,decide (f=f2)=c:=⟨_,rfl⟩;obtain ⟨c2,e2⟩:∃ c,decide (h=h2)=c:=⟨_,rfl⟩;obtain ⟨c3,e3⟩:∃ c,decide (l=l2)=c:=⟨_,rfl⟩;have HR:Hid (io f h l f2 h2 l2=(c1 && c2 && c3)):=hid (by unfold io;rw [e1,e2,e3]);have H1:=hid e1;have H2:=hid e2;have H3:=hid e3;have HW0:Hid (Below w.heap.size w ((w.alloc (.cells #[.slice af nf cf,.slice ah nh ch,.slice aw n cw] 47)).alloc (.cells #[.slice bf mf df,.slice bh mh dh,.slice bw m dw] 47))):=hid (((Below.refl _ _).alloc (Nat.le_refl _) _).alloc (by simp) _);have HA:Hid (bat2 ((w.alloc (.cells #[.slice af nf cf,.slice ah nh ch,.slice aw n cw] 47)).alloc (.cells #[.slice bf mf df,.slice bh mh dh,.slice bw m dw] 47)) w.heap.size (.slice af nf cf) (.slice ah nh ch) (.slice aw n cw) (.slice bf mf df) (.slice bh mh dh) (.slice bw m dw)):=hid (yl _ _ _ _ _ _ _ _ _)
 clear hn1 hn2 hn3 hn4 hn5 hn6 e1 e2 e3;rw [HR.out];go_enter Tryz.func25,Tryz.ntmps25
 go_wp2_with fail
 generalize (w.alloc (.cells #[.slice af nf cf,.slice ah nh ch,.slice aw n cw] 47)).alloc (.cells #[.slice bf mf df,.slice bh mh dh,.slice bw m dw] 47)=W at HA HW0 ⊢;have HX0:=hid (HX.out.below HW0.out);have HY0:=hid (HY.out.below HW0.out);refine (rE _ _ f f2 c1 _ HX0.out.1 HY0.out.1 HX0.out.2.2.2.1 HY0.out.2.2.2.1 H1.out).mono ?_;rintro r w1 ⟨rfl,q1,rfl⟩;cases c1 with
 | false =>
  go_wp2;go_ret;exact ⟨rfl,below_drewN HW0.out _⟩
 | true =>
  obtain ⟨d0,d1,d2,d3,d4,d5⟩:=HA.out.drewN q1;go_wp2_with fail
  refine (rE _ _ h h2 c2 _ (HX0.out.2.1.drewN q1) (HY0.out.2.1.drewN q1) HX0.out.2.2.2.2.1 HY0.out.2.2.2.2.1 H2.out).mono ?_;rintro r w2 ⟨rfl,q2,rfl⟩;rw [World.drewN_drewN];clear d0 d1 d2 d3 d4 d5;cases c2 with
  | false =>
   go_wp2;go_ret;exact ⟨rfl,below_drewN HW0.out _⟩
  | true =>
   obtain ⟨d0,d1,d2,d3,d4,d5⟩:=HA.out.drewN (q1+q2);go_wp2_with fail
   refine (iY _ _ l l2 c3 _ (HX0.out.2.2.1.drewN (q1+q2)) (HY0.out.2.2.1.drewN (q1+q2)) HX0.out.2.2.2.2.2.1 HY0.out.2.2.2.2.2.1 H3.out).mono ?_;rintro r w3 ⟨rfl,q3,rfl⟩;rw [World.drewN_drewN];clear d0 d1 d2 d3 d4 d5;go_wp2;go_ret;exact ⟨by first | rfl | simp,below_drewN HW0.out _⟩
end
section
theorem cV {α:Type} {L:List α} {i:Nat} {a:α} (h:L[i]? = some a):a∈L:=List.mem_of_getElem? h
theorem sA {s t:LogS} (hs:aH s) (ht:aH t) (h:∀ r,ofF s.hv r=ofF t.hv r):s.hv=t.hv:=jB hs.hv.2 ht.hv.2 h
theorem DM {U:List Wr} {L:List LogS} (h:b7 U L) (hU:U.length≤60) {i j:Nat} {s t:LogS} (hi:L[i]? = some s) (hj:L[j]? = some t) (he:bj s t.hv=0) :
 aZ t.hv (ay s t.hv) (ak s t.hv)∧(accE t t.hv (ay s t.hv) (ak s t.hv)).1=0∧b7 U (L.set j (accS t (ay s t.hv) (ak s t.hv))) ∧
  (∀ s',(L.set j (accS t (ay s t.hv) (ak s t.hv)))[i]? = some s'→covB (accS t (ay s t.hv) (ak s t.hv)).hv s'.hv=true)∧(ak s t.hv).length≤60:=by
 have hs:=cV hi;have ht:=cV hj;have hrv:az t.hv:=(h.ok t ht).hv;have hcv:covB s.hv t.hv=true:=by
  unfold bj at he;split at he
  ·rename_i hn;exact absurd he hn
  ·split at he
   ·cases he
   ·rename_i hc;simpa using hc
 have ho:=jP (h.ok s hs) hrv hcv;obtain ⟨_,h2,h3,h4⟩:=m7 (h.ok s hs) (h.ok t ht) ho;have hb:=uE h hs hrv ho;have hfl:(t.ws++ak s t.hv).length≤U.length:=by
  have hn:(t.ws++ak s t.hv).Nodup:=by
   rw [List.nodup_append];refine ⟨(h.ok t ht).srt.imp (fun {a b} h (e:a=b)=>db h (by rw [e])),ho.srt.imp (fun {a b} h (e:a=b)=>db h (by rw [e])),?_⟩;intro x hx y hy e;subst e;have h1:=(h.ws t ht x).1 hx;have h2:=(hb.mem x).1 hy;omega
  refine hn.length_le_of_subset (fun x hx=>?_);rcases List.mem_append.1 hx with hx | hx
  ·exact ((h.ws t ht x).1 hx).1
  ·exact ((hb.mem x).1 hx).1
 rw [List.length_append] at hfl;have ha:(accE t t.hv (ay s t.hv) (ak s t.hv)).1=0:=by rw [h4,if_neg (by omega)]
 obtain ⟨g1,g2⟩:=DJ h hs hj ho ha;refine ⟨hb.right,ha,g2,fun s' hs'=>?_,ho.len⟩;have hsl:s.ws.length≤60:=Nat.le_trans (ug h hs) hU;have hh:=(uD t.hv hsl).2;rcases cX hs' with ⟨_,rfl⟩ | ⟨_,hs'⟩
 ·exact (dp (g2.ok _ (by rw [List.mem_iff_getElem?];exact ⟨i,hs'⟩)).hv (g2.ok _ (by rw [List.mem_iff_getElem?];exact ⟨i,hs'⟩)).hv).2 (fun _=>Int.le_refl _)
 ·rw [hi] at hs';obtain rfl:=Option.some.inj hs';rw [g1];show covB (ay s t.hv) s.hv=true
  rw [hh];exact (dp (h.ok s hs).hv (h.ok s hs).hv).2 (fun _=>Int.le_refl _)
end
