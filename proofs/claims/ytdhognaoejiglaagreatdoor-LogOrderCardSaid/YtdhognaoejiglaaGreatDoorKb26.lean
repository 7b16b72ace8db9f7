import Derived.Test.YtdhognaoejiglaaGreatDoorKb24
namespace Go.Proofs.YtdhognaoejiglaaGreatDoor
open Lib (hid)
set_option maxRecDepth 100000
set_option maxHeartbeats 8000000
section
open Go.RowKit
theorem AI {q x:Wr} (h:late q x):q.time≤x.time:=by
 unfold late cI orF cmpF wid at h;simp only at h
 split at h <;> split at h <;> simp_all <;> omega
theorem cL {x:Wr} (h:wE x=0):1≤x.kind∧x.kind≤4∧1≤x.time∧x.time≤1099511627776∧0≤x.rep∧x.rep≤200∧x.key.size≤40∧x.value.size≤300∧(dj x).length≤320∧WrOk x:=by
 obtain ⟨h1,h2,h3,h4,h5,h6⟩:=fL h;unfold idOk at h2;have h2:=of_decide_eq_true h2;have hn:=sI h6;have hs:=tP h4;have hv:(valB x.kind x.value).size≤310:=by unfold valB;split <;> first | exact hs | exact Nat.zero_le _
 have ht:(dj x).length≤320:=by unfold dj;rw [←aj,pU];omega
 have hN : -9223372036854775808≤x.n∧x.n≤9223372036854775807:=by
  unfold ci at h6;by_cases k3:x.kind=3
  ·rw [if_pos k3] at h6;simp only [Bool.and_eq_true,decide_eq_true_eq] at h6;omega
  ·rw [if_neg k3] at h6;by_cases k4:x.kind=4
   ·rw [if_pos k4] at h6;simp only [Bool.and_eq_true,decide_eq_true_eq] at h6;omega
   ·have : x.n = 0 := by
     by_cases hN:x.n=0
     ·exact hN
     ·exact absurd (.inr ⟨hN,by unfold hasN;rw [decide_eq_false k3,decide_eq_false k4];rfl⟩) h5
    omega
 exact ⟨by omega,by omega,h2.1,h2.2.1,h2.2.2.1,h2.2.2.2,h3,h4,ht,hN.1,hN.2,by omega,by omega⟩
theorem D0 {h:List Ent} {r:Int} {e:Ent} (he:e∈h) (hr:e.rep=r):bF h r<h.length:=List.findIdx_lt_length_of_exists ⟨e,he,by simpa using hr⟩
def dI (h:List Ent) (T:List ByteArray):Int→List Wr→List Nat→Prop
 | _,[],N=>N=[]
 | _,_::_,[]=>False
 | ahead,x::r,n::N=>(wE x=0∧ahead≤x.time∧bF h x.rep<h.length∧T[n]? = some x.key)∧dI h T x.time r N
theorem BY (h:List Ent) (l:List Wr):∀ (T0:List ByteArray) (ahead:Int),(∀ x∈l,wE x=0∧ahead≤x.time∧bF h x.rep<h.length)→l.Pairwise late→dI h (tabK T0 (aN l)) ahead l (atK T0 (aN l)):=by
 induction l with
 | nil=>intro T0 ahead _ _;rfl
 | cons x r ih =>
  intro T0 ahead hx hp;rw [List.pairwise_cons] at hp;obtain ⟨h1,h2,h3⟩:=hx x List.mem_cons_self;refine ⟨⟨h1,h2,h3,?_⟩,ih (addK T0 x.key) x.time (fun y hy=>⟨(hx y (List.mem_cons_of_mem _ hy)).1,AI (hp.1 y hy),(hx y (List.mem_cons_of_mem _ hy)).2.2⟩) hp.2⟩;have hpre:addK T0 x.key <+: tabK T0 (aN (x::r)):=lU (aN r) (addK T0 x.key);have hat:(addK T0 x.key)[idxB T0 x.key]? = some x.key:=by
   by_cases hm:x.key∈T0
   ·rw [gE hm];exact kN hm
   ·rw [fU hm,iV hm];simp
  obtain ⟨t,ht⟩:=hpre;rw [←ht,List.getElem?_append_left (List.getElem?_eq_some_iff.1 hat).1];exact hat
theorem tv {f h:List Ent} {l:List Wr} (hr:aY f h l):dI h (tabK [] (aN l)) 0 l (atK [] (aN l)):=by
 rw [dX] at hr;obtain ⟨⟨g1,g2,g3⟩,g4,g5,g6⟩:=hr;refine BY h l [] 0 (fun x hx=>?_) g6;obtain ⟨h1,h2⟩:=g5 x hx;have hf:=cL h1;refine ⟨h1,by omega,?_⟩;unfold wiF wid at h2;simp only [Bool.and_eq_true,decide_eq_true_eq] at h2
 obtain ⟨e,he,h3,_⟩:=jd (l:=h) (x:=x.rep) (by omega);exact D0 he h3
theorem BX {h:List Ent} {T:List ByteArray} (l:List Wr):∀ (ahead:Int) (N:List Nat),dI h T ahead l N→N.length=l.length:=by
 induction l with
 | nil=>intro ahead N hN;have hN:N=[]:=hN;rw [hN];rfl
 | cons x r ih =>
  intro ahead N hN;cases N with
  | nil=>exact absurd hN id
  | cons n N=>rw [List.length_cons,List.length_cons,ih _ _ hN.2]
theorem Cb {h:List Ent} {ahead:Int} {x:Wr} {n:Nat} (hw:wE x=0) (hp:bF h x.rep≤1000) (h0:0≤ahead) (hn:n≤1000):(oneB h ahead x n).length≤351:=by
 have hf:=cL hw;have h1:=aI (n:=(x.time-ahead).toNat) (by omega);have h2:=aI (n:=bF h x.rep) (by omega);have h3:=aI (n:=n) (by omega);unfold oneB;simp only [List.length_append,List.length_cons,List.length_nil]
 omega
theorem Ds {h:List Ent} {T:List ByteArray} (hh:h.length≤1000) (hT:T.length≤1000) (l:List Wr):∀ (ahead:Int) (N:List Nat),0≤ahead→dI h T ahead l N→(rowB h ahead l N).length≤l.length * 351:=by
 induction l with
 | nil=>intro ahead N _ _;simp [rowB]
 | cons x r ih =>
  intro ahead N h0 hN;cases N with
  | nil=>exact absurd hN id
  | cons n N =>
   obtain ⟨⟨h1,h2,h3,h4⟩,h5⟩:=hN;have hf:=cL h1;have hn:n<T.length:=(List.getElem?_eq_some_iff.1 h4).1;have:=Cb (n:=n) h1 (show bF h x.rep≤1000 by omega) h0 (by omega);have:=ih x.time N (by omega) h5;rw [lC,List.length_append,List.length_cons];omega
theorem EL {T:List ByteArray} (h:∀ k∈T,k.size≤40):(bA T).length≤T.length * 50:=by
 induction T with
 | nil=>simp [bA]
 | cons k T ih =>
  have h1:=h k List.mem_cons_self;have h2:=ih fun y hy=>h y (List.mem_cons_of_mem _ hy)
  have h3:=aI (n:=k.data.toList.length) (by rw [←aj];omega);rw [ju,List.length_append,List.length_cons];unfold bT;rw [List.length_append,←aj];rw [←aj] at h3;omega
theorem Eu {l:List Wr} {k:ByteArray} (hk:k∈tabK [] (aN l)):∃ x∈l,x.key=k:=by
 rcases ue _ _ _ hk with h | h
 ·cases h
 ·exact List.mem_map.1 h
theorem uj {f h:List Ent} {l:List Wr} (hr:aY f h l):(∀ k∈tabK [] (aN l),k.size≤40)∧(tabK [] (aN l)).length≤60:=by
 rw [dX] at hr;refine ⟨fun k hk=>?_,?_⟩
 ·obtain ⟨x,hx,rfl⟩:=Eu hk;have:=cL (hr.2.2.1 x hx).1;omega
 ·have:=Eq (aN l) [];unfold aN at this ⊢;rw [List.length_map] at this;have:=hr.2.1;simp at *
  omega
theorem eX {s:List UInt8} {a k:Nat} {p:List UInt8} (hp:p=(s.drop a).take k):s.drop a=p++s.drop (a+k):=by
 rw [hp,←List.drop_drop];exact (List.take_append_drop _ _).symm
theorem bK {s x y:List UInt8} {a:Nat} (h:s.drop a=x++y):s.drop (a+x.length)=y:=by
 rw [←List.drop_drop,h,List.drop_left]
theorem qT {T R K:Int} {key val:ByteArray} {N:Int} (h:wriE T R K key val N=0) (more:List UInt8) :
 aH T R K key ((bc K val N).data.toList++more)=0∧cH K ((bc K val N).data.toList++more)=(bc K val N).data.toList.length∧cy K ((bc K val N).data.toList++more)=val∧(getN K ((bc K val N).data.toList++more)).1=N:=by
 have h1:getN K ((bc K val N).data.toList++more)=(N,(numB K N).size,0):=by
  have:=xt h ((valB K val).data.toList++more);unfold bc;rw [gG,List.append_assoc];exact this
 have h2:getV K (((bc K val N).data.toList++more).drop (numB K N).size)=(val.data.toList,(valB K val).size,0):=by rw [xr];exact xu h more
 have hv:(⟨val.data.toList.toArray⟩:ByteArray)=val:=rfl;refine ⟨?_,?_,?_,?_⟩
 ·rw [kB h1 h2,hv];exact h
 ·unfold cH;rw [h1];simp only;rw [h2];simp only;rw [←aj,pU]
 ·unfold cy;rw [h1];simp only;rw [h2]
 ·rw [h1]
theorem j7 (c:UInt8) (r:List UInt8):ar (c::r)=if c.toNat<1∨4<c.toNat then (0,0,1) else (c.toNat,1,0):=rfl
theorem F8 {s more:List UInt8} {h:List Ent} {T:List ByteArray} {a n:Nat} {ahead:Int} {x:Wr} (hs:s.drop a=oneB h ahead x n++more) (h0:0≤ahead) (hw:wE x=0) (ha:ahead≤x.time) (hp:bF h x.rep<h.length) (hh:h.length≤1000) (hT:T.length≤1000) (hn:T[n]? = some x.key) :
 br s h T a ahead=.inr (a+(oneB h ahead x n).length,x,n):=by
 have hf:=cL hw;obtain ⟨hnl,hnk⟩:=List.getElem?_eq_some_iff.1 hn;obtain ⟨p,hpe⟩:∃ p,bF h x.rep=p:=⟨_,rfl⟩;have hget:∃ e,h[p]? = some e∧e.rep=x.rep:=by
  have h2:=List.findIdx_getElem (p:=fun e:Ent=>decide (e.rep=x.rep)) (w:=hp);refine ⟨_,by rw [←hpe];exact List.getElem?_eq_getElem hp,?_⟩;show (h[h.findIdx (fun e => decide (e.rep = x.rep))]'hp).rep = x.rep
  simpa using h2
 obtain ⟨e,he,her⟩:=hget;obtain ⟨t,ht⟩:∃ t,(x.time-ahead).toNat=t:=⟨_,rfl⟩;have htt:ahead+(t:Int)=x.time:=by omega
 unfold oneB at hs ⊢;rw [hpe,ht] at hs ⊢;rw [hpe] at hp;have hk0:ar (s.drop a)=(x.kind.toNat,1,0):=by
  rw [hs];have hc:(UInt8.ofNat x.kind.toNat).toNat=x.kind.toNat:=fh (by omega);refine (j7 (UInt8.ofNat x.kind.toNat) _).trans ?_;rw [hc,if_neg (by omega)]
 have e1:s.drop (a+1)=putL t++(putL p++(putL n++(dj x++more))):=by
  have:=bK (x:=[UInt8.ofNat x.kind.toNat]) (y:=putL t++(putL p++(putL n++(dj x++more)))) (by rw [hs];simp)
  simpa using this
 have e2:=bK e1;have e3:=bK e2;have e4:=bK e3;have k1:intL (s.drop (a+1)) (1099511627776-ahead)=(t,(putL t).length,0):=by rw [e1];exact cN _ _ _ (by omega) (by omega)
 have k2:intL (s.drop (a+1+(putL t).length)) ((h.length:Int)-1)=(p,(putL p).length,0):=by rw [e2];exact cN _ _ _ (by omega) (by omega)
 have k3:intL (s.drop (a+1+(putL t).length+(putL p).length)) ((T.length:Int)-1)=(n,(putL n).length,0):=by rw [e3];exact cN _ _ _ (by omega) (by omega)
 have hrep:(h.getD p ⟨0,0⟩).rep=x.rep:=by rw [List.getD_eq_getElem?_getD,he];exact her
 have hkey:T.getD n ⟨#[]⟩=x.key:=by rw [List.getD_eq_getElem?_getD,hn];rfl
 have hkd:((x.kind.toNat:Nat):Int)=x.kind:=by omega
 obtain ⟨f1,f2,f3,f4⟩:=qT (T:=x.time) (R:=x.rep) (key:=x.key) hw more;have hok:=oX (s:=s) (h:=h) (T:=T) hk0 k1 k2 k3 (by rw [hrep,hkey,htt,hkd,e4];exact f1);rw [hrep,hkey,htt,hkd,e4] at hok;unfold dj at hok ⊢;rw [f2,f3,f4] at hok;rw [hok];simp only [List.length_append,List.length_cons,List.length_nil]
 refine congrArg Sum.inr (Prod.ext ?_ rfl);simp only
 omega
theorem Fk {s:List UInt8} {h:List Ent} {T:List ByteArray} (hh:h.length≤1000) (hT:T.length≤1000) (l:List Wr):∀ (a:Nat) (ahead:Int) (N:List Nat) (W0:List Wr) (N0:List Nat) (more:List UInt8),0≤ahead→dI h T ahead l N→s.drop a=rowB h ahead l N++more →
 unW s h T l.length a ahead W0 N0=.inr (a+(rowB h ahead l N).length,W0++l,N0++N):=by
 induction l with
 | nil=>intro a ahead N W0 N0 more _ hN _;have hN:N=[]:=hN;subst hN;simp [unW,rowB]
 | cons x r ih =>
  intro a ahead N W0 N0 more h0 hN hs;cases N with
  | nil=>exact absurd hN id
  | cons n N =>
   obtain ⟨⟨h1,h2,h3,h4⟩,h5⟩:=hN;have hf:=cL h1;rw [lC,List.append_assoc] at hs;have hone:=F8 hs h0 h1 h2 h3 hh hT h4;rw [List.length_cons,pa hone,ih _ x.time N _ _ more (by omega) h5 (bK hs),lC,List.length_append];simp [Nat.add_assoc]
theorem Fe {s:List UInt8} (T:List ByteArray):∀ (a:Nat) (T0:List ByteArray) (more:List UInt8),(∀ k∈T,k.size≤2000)→s.drop a=bA T++more→unT s T.length a T0=.inr (a+(bA T).length,T0++T):=by
 induction T with
 | nil=>intro a T0 more _ _;simp [unT,bA]
 | cons k T ih =>
  intro a T0 more hk hs;rw [ju,List.append_assoc] at hs;have hg:getS (s.drop a)=(k.data.toList,(bT k.data.toList).length,0):=by rw [hs];exact pB _ _ (by rw [←aj];exact hk k List.mem_cons_self)
  rw [List.length_cons,jx hg,ih _ _ more (fun y hy=>hk y (List.mem_cons_of_mem _ hy)) (bK hs),ju,List.length_append];simp [Nat.add_assoc]
theorem uT {f h:List Ent} {l:List Wr} (hr:aY f h l) (more:List UInt8) (hl:(aK f h l++more).length≤20000) :
 unbF (aK f h l++more)=if more=[] then .inr (f,h,l) else .inl (3,((aK f h l).length:Int)):=by
 have hb:=dX.1 hr;obtain ⟨⟨g1,g2,g3⟩,g4,g5,g6⟩:=hb;obtain ⟨t1,t2⟩:=uj hr;have hrow:=tv hr;obtain ⟨s,hs⟩:∃ s,aK f h l++more=s:=⟨_,rfl⟩;obtain ⟨T,hT⟩:∃ T,tabK [] (aN l)=T:=⟨_,rfl⟩;obtain ⟨N,hN⟩:∃ N,atK [] (aN l)=N:=⟨_,rfl⟩;have hlist:=Bd (aN l);rw [hT,hN] at hlist;have hbl:aK f h l=aG f++(aG h++(putL T.length++(bA T++(putL l.length++rowB h 0 l N)))):=by unfold aK;rw [hT,hN];simp
 rw [hT] at t1 t2;rw [hT,hN] at hrow;have hlen:(aK f h l).length=(aG f).length+(aG h).length+(putL T.length).length+(bA T).length+(putL l.length).length+(rowB h 0 l N).length:=by rw [hbl];simp only [List.length_append];omega
 have hsl:s.length=(aK f h l).length+more.length:=by rw [←hs,List.length_append]
 rw [hs] at hl ⊢;have hs0:s=aG f++(aG h++(putL T.length++(bA T++(putL l.length++(rowB h 0 l N++more))))):=by rw [←hs,hbl];simp
 have e0:s.drop 0=aG f++(aG h++(putL T.length++(bA T++(putL l.length++(rowB h 0 l N++more))))):=by rw [List.drop_zero];exact hs0
 have e1:=bK e0;rw [Nat.zero_add] at e1;have e2:=bK e1;have e3:=bK e2;have e4:=bK e3;have e5:=bK e4;have k1:ay s=(0,(aG f).length,f):=by rw [hs0];exact vF g1 _
 have k2:ay (s.drop (aG f).length)=(0,(aG h).length,h):=by rw [e1];exact vF g2 _
 have k3:intL (s.drop ((aG f).length+(aG h).length)) 60=(T.length,(putL T.length).length,0):=by rw [e2];exact cN _ _ _ (by omega) (by omega)
 have k4:=Fe T _ [] _ (fun k hk=>Nat.le_trans (t1 k hk) (by decide)) e3;have k5:intL (s.drop ((aG f).length+(aG h).length+(putL T.length).length+(bA T).length)) 60=(l.length,(putL l.length).length,0):=by rw [e4];exact cN _ _ _ (by omega) (by omega)
 have hh16:=g2.1;have k6:=Fk (h:=h) (T:=T) (by omega) (by omega) l _ 0 N [] [] more (Int.le_refl _) hrow e5;simp only [List.nil_append] at k4 k6
 rw [pc (by omega) k1 k2 k3 k4 k5 k6,←hlen];by_cases hm:more=[]
 ·subst hm;have hr0:(batF f h l).1=0:=hr;rw [if_pos rfl,if_neg (by rw [hsl];simp),hlist];simp only [ne_eq,not_true_eq_false,if_false,hr0]
 ·have:0<more.length:=List.length_pos_iff.2 hm;rw [if_neg hm,if_pos (by omega)]
end
section
open Go.RowKit
theorem qq (vf vh vw:Value) (f h:List Ent) (l:List Wr) (w:World) (hx:aC w vf vh vw f h l) (hg:errT w) :
 Calls Tryz.prog 28 #[.agg #[vf,vh,vw]] w (iu w (batF f h l)) :=
 mJ vf vh vw f h l w hx.1 hx.2.1 hx.2.2.1 hx.2.2.2.1 hx.2.2.2.2.1 hx.2.2.2.2.2.2 hg
end
section
open Go.RowKit
theorem qr (w:World):Calls Tryz.prog 139 #[.nilIface] w fun e w'=>e=.returned (.tuple #[])∧w=w':=by
 go_enter Tryz.func139,Tryz.ntmps139
 go_wp2
 go_end0
 exact ⟨rfl,rfl⟩
theorem jY (t:TypeId) (v:Value) (w:World):Calls Tryz.prog 139 #[.iface t v] w fun e w'=>e=.panicked [{ v:=.iface t v,recovered:=false }]∧w'=w:=by
 go_enter Tryz.func139,Tryz.ntmps139
 go_wp2;exact ⟨rfl,rfl,rfl⟩
theorem mm (B b:Nat) (l:List UInt8) (s:ByteArray) (w:World) (h:bQ w B b l) (hl:l.length≤1000000) (hs:s.size≤1000000) (hBw:B≤w.heap.size) :
 Calls Tryz.prog 140 #[.pointer (some ⟨b,0,none⟩),.string s,.nilIface] w fun e w'=>e=.returned (.tuple #[])∧bQ w' B b (l++s.data.toList)∧Below B w w'∧NonB b w w':=by
 have H:=hid h;clear h;go_enter Tryz.func140,Tryz.ntmps140
 go_wp2_with fail
 refine (qr _).mono ?_;rintro r w1 ⟨rfl,rfl⟩;go_wp2_with fail
 refine (vI B b l s _ H.out (by omega) hBw).mono ?_;rintro r w2 ⟨rfl,hbl,hb2,hn2⟩;have H2:=hid hbl;have HB2:=hid hb2;have HN2:=hid hn2;clear hbl hb2 hn2;go_wp2
 go_end0
 exact ⟨rfl,H2.out,HB2.out,HN2.out⟩
theorem jC (B b n:Nat) (l:List UInt8) (w:World) (h:bQ w B b l) (hn:n≤1099511627776) (hl:l.length≤1000000) (hBw:B≤w.heap.size) :
 Calls Tryz.prog 144 #[.pointer (some ⟨b,0,none⟩),.int .i64 (n:Int)] w fun e w'=>e=.returned (.tuple #[])∧bQ w' B b (l++putL n)∧Below B w w'∧NonB b w w':=by
 have H:=hid h;have hp:=aI (n:=n) (by omega);have hk:IntKind.u64.wrap (n:Int)=(n:Int):=IntWalk.u64_in _ (by omega);obtain ⟨P,hP⟩:∃ P:ByteArray,⟨(putL n).toArray⟩=P:=⟨_,rfl⟩;have hPd:putL n=P.data.toList:=by rw [←hP]
 have hPs:P.size≤10:=by rw [←hP,cq];exact hp
 have HPD:=hid hPd;have HP:=hid hP;rw [hPd];clear h hp hP hPd;go_enter Tryz.func144,Tryz.ntmps144
 go_wp2;go_region_held3 (fun w'=>True) (trivial) (first
  | (go_at_call 115;((with_reducible refine (lw n _ (by omega)).mono ?_);rintro r w1 ⟨rfl,hb1⟩;rw [HP.out];have HB1:Hid (Below w.heap.size w w1):=hid (cd hb1);clear hb1))
  | (go_at_call 88;((with_reducible refine (vI B b l P w1 (H.out.below HB1.out) (by omega) (by have:=HB1.out.size;omega)).mono ?_);rintro r w2 ⟨rfl,hbl,hb2,hn2⟩;have H2:=hid hbl;have HB2:=hid ((HB1.out.mono hBw).trans hb2);have HN2:=hid ((NonB.of (b:=b) HB1.out).trans hn2 HB1.out.size);clear hbl hb2 hn2))
  | fail)
 go_wp2
 go_end0
 exact ⟨rfl,H2.out,HB2.out,HN2.out⟩
theorem Ao (v:Value) (l:List Wr) (w:World) (hv:az w v l) (hl:l.length≤1000000) :
 Calls Tryz.prog 143 #[v] w fun e w'=>∃ u,e=.returned u∧ai w' w.heap.size u (aN l)∧Below w.heap.size w w':=by
 obtain ⟨a1,c1,rfl,f1⟩:=hv.form;have F1:=hid f1;obtain ⟨n,hn⟩:∃ n,n=l.length:=⟨_,rfl⟩;rw [←hn] at hl ⊢;have HN:=hid hn;clear f1 hn hv;go_enter Tryz.func143,Tryz.ntmps143
 go_wp2
 go_loopw [3,8] (fun x i wr=>∃ k:Nat,k≤n∧i=.int .i64 k∧ai wr w.heap.size x ((aN l).take k)∧Below w.heap.size w wr) (fun _ i _=>n-(intOf i).toNat)
 case atStart=>exact ⟨0,Nat.zero_le _,rfl,dv _ _,Below.refl _ _⟩
 case round =>
  obtain ⟨k,hk,rfl,hos,hbel⟩:=hrel;have HO:=hid hos;have HB:=hid hbel;obtain ⟨ad,cp,rfl,hcp,g1⟩:=hos.isTexts;have hkl:((aN l).take k).length=k:=by rw [List.length_take];have:=HN.out;unfold aN;rw [List.length_map];omega
  have HKL:=hid hkl;rw [hkl] at HO hcp;rw [hkl];clear hos hbel hkl g1 hcp;by_cases hlt:k<n
  ·obtain ⟨x, hx⟩ : ∃ x, l[k]? = some x := ⟨l[k]'(by have := HN.out; omega), List.getElem?_eq_getElem _⟩;obtain ⟨b1,o1,rfl,hb1,p0,p1,p2,p3,p4,p5⟩:=F1.out k x hx;have q0:=(HB.out.cell (p:=⟨b1,o1+k * 6,none⟩) hb1).trans p0;have q1:=(HB.out.cell (p:=⟨b1,o1+k * 6+1,none⟩) hb1).trans p1;have q2:=(HB.out.cell (p:=⟨b1,o1+k * 6+2,none⟩) hb1).trans p2;have q3:=(HB.out.cell (p:=⟨b1,o1+k * 6+3,none⟩) hb1).trans p3;have q4:=(HB.out.cell (p:=⟨b1,o1+k * 6+4,none⟩) hb1).trans p4;have q5:=(HB.out.cell (p:=⟨b1,o1+k * 6+5,none⟩) hb1).trans p5;have HTK:Hid ((aN l).take k++[x.key]=(aN l).take (k+1)):=hid (show _=_ by
    have h2:(aN l)[k]? = some x.key:=by unfold aN;rw [List.getElem?_map,hx];rfl
    obtain ⟨hk2,e⟩:=List.getElem?_eq_some_iff.1 h2;rw [←e,List.take_append_getElem hk2])
   obtain ⟨T,R,K,key,val,N⟩:=x;dsimp only at q0 q1 q2 q3 q4 q5 HTK
   clear p0 p1 p2 p3 p4 p5 hx;obtain ⟨L,hL⟩:∃ L,(aN l).take k=L:=⟨_,rfl⟩;rw [hL] at HO HKL HTK;clear hL;go_wp2_with (at_builtin;refine jD rfl _ _ rfl w.heap.size _ L rfl ((HO.out.alloc _).alloc _) ⟨wr.heap.size+1,0,none⟩ 1 rfl key (by simp [Addr.add]) (by have:=HKL.out;omega) (by have:=HB.out.size;simp;omega) ?_)
   intro g cap w4 ho4 hg4;rw [HTK.out] at ho4;have HO4:=hid ho4;have HB4:Hid (Below w.heap.size w w4):=hid (((HB.out.alloc HB.out.size _).alloc (by have:=HB.out.size;simp;omega) _).grown hg4 (by have:=HB.out.size;simp;omega) (fun g hg=>(HO.out.lt g hg).1));have HKL1:Hid (L.length+1=k+1):=hid (by rw [HKL.out]);rw [HKL1.out] at HO4 ⊢;clear ho4 hg4;go_wp2;go_roundw
   case rel=>exact ⟨k+1,by omega,by go_num,HO4.out,HB4.out⟩
   case measure=>simp [intOf];omega
  ·have HT:Hid ((aN l).take k=aN l):=hid (List.take_of_length_le (by unfold aN;rw [List.length_map];have:=HN.out;omega));go_wp2;go_ret;rw [HT.out] at HO;exact ⟨_,rfl,HO.out,HB.out⟩
end
section
open Go.RowKit
theorem D3 {h:List Ent} {e:Ent}:∀ {last:Int} {p:Nat},okV last h→h[p]? = some e→bF h e.rep=p:=by
 induction h with
 | nil=>intro last p _ hp;simp at hp
 | cons d r ih =>
  intro last p ho hp;unfold bF;rw [List.findIdx_cons];cases p with
  | zero =>
   obtain rfl:d=e:=by simpa using hp
   simp
  | succ p =>
   have hp2:r[p]? = some e:=by simpa using hp
   have h1:=bJ ho.2 e (List.mem_of_getElem? hp2);have hne:decide (d.rep=e.rep)=false:=by simp;omega
   rw [hne];have h2:=ih ho.2 hp2;unfold bF at h2;simp [h2]
theorem sf (l:List UInt8):(∃ e,ar l=(0,0,e)∧e≠0)∨∃ c r,l=c::r∧ar l=(c.toNat,1,0)∧1≤c.toNat∧c.toNat≤4:=by
 cases l with
 | nil=>exact .inl ⟨7,rfl,by decide⟩
 | cons c r =>
  rw [j7];by_cases h:c.toNat<1∨4<c.toNat
  ·exact .inl ⟨1,by rw [if_pos h],by decide⟩
  ·exact .inr ⟨c,r,rfl,by rw [if_neg h],by omega,by omega⟩
theorem kC {T R K:Int} {key:ByteArray} {l:List UInt8} (h:aH T R K key l=0) :
 wriE T R K key (cy K l) (getN K l).1=0∧(bc K (cy K l) (getN K l).1).data.toList=l.take (cH K l)∧cH K l≤l.length:=by
 obtain ⟨n,k,e,hn⟩:∃ n k e,getN K l=(n,k,e):=⟨_,_,_,rfl⟩;by_cases he:e=0
 ·subst he;obtain ⟨v,j,e2,hv⟩:∃ v j e2,getV K (l.drop k)=(v,j,e2):=⟨_,_,_,rfl⟩;by_cases he2:e2=0
  ·subst he2;rw [kB hn hv] at h;have h2:=Cf hn hv;unfold cy cH;rw [hn];simp only;rw [hv];simp only;exact ⟨h,h2.1,h2.2⟩
  ·rw [qQ hn hv he2] at h;exact absurd h he2
 ·rw [qP hn he] at h;exact absurd h he
theorem uG {s:List UInt8} {h:List Ent} {T:List ByteArray} {a b n:Nat} {ahead:Int} {x:Wr} (hh:aB h) (h0:br s h T a ahead=.inr (b,x,n)) :
 T[n]? = some x.key∧wE x=0∧ahead≤x.time∧x.time≤1099511627776∧bF h x.rep<h.length∧s.drop a=oneB h ahead x n++s.drop b∧a<b∧b≤s.length∧(∃ e∈h,e.rep=x.rep):=by
 rcases sf (s.drop a) with ⟨e,hk,he⟩ | ⟨c,r,hc,hk,hc1,hc4⟩
 ·rw [uF hk he] at h0;cases h0
 ·have hal : a < s.length := by
   rcases Nat.lt_or_ge a s.length with h' | h'
   ·exact h'
   ·rw [List.drop_of_length_le h'] at hc;cases hc
  have hr:r=s.drop (a+1):=by rw [←List.drop_drop,hc];rfl
  rcases ba (s.drop (a+1)) (1099511627776-ahead) with ⟨e,h1,he,_⟩ | ⟨t,k1,h1,ht,_,_,hk1l,hp1⟩
  ·rw [uI hk h1 he] at h0;cases h0
  ·rcases ba (s.drop (a+1+k1)) ((h.length:Int)-1) with ⟨e,h2,he,_⟩ | ⟨p,k2,h2,hp,_,_,hk2l,hp2⟩
   ·rw [uH hk h1 h2 he] at h0;cases h0
   ·rcases ba (s.drop (a+1+k1+k2)) ((T.length:Int)-1) with ⟨e,h3,he,_⟩ | ⟨m,k3,h3,hm,_,_,hk3l,hp3⟩
    ·rw [uE hk h1 h2 h3 he] at h0;cases h0
    ·by_cases h4:aH (ahead+t) (h.getD p ⟨0,0⟩).rep c.toNat (T.getD m ⟨#[]⟩) (s.drop (a+1+k1+k2+k3))=0
     ·rw [oX hk h1 h2 h3 h4] at h0;simp only [Sum.inr.injEq,Prod.mk.injEq] at h0
      obtain ⟨hb,rfl,rfl⟩:=h0;obtain ⟨f1,f2,f3⟩:=kC h4;have e1:=eX hp1;have e2:=eX hp2;have e3:=eX hp3;have e4:=eX f2;rw [List.length_drop] at hk1l hk2l hk3l f3;obtain ⟨L,hL⟩:∃ L,s.drop (a+1+k1+k2+k3)=L:=⟨_,rfl⟩;rw [hL] at f1 e3 e4 hb ⊢;rw [hL] at f3;obtain ⟨e, he⟩ : ∃ e, h[p]? = some e := ⟨h[p]'(by omega), List.getElem?_eq_getElem _⟩;have hge:h.getD p ⟨0,0⟩=e:=by rw [List.getD_eq_getElem?_getD,he];rfl
      have hme:T[m]? = some (T.getD m ⟨#[]⟩):=by
       obtain ⟨k, hk⟩ : ∃ k, T[m]? = some k := ⟨T[m]'(by omega), List.getElem?_eq_getElem _⟩;rw [List.getD_eq_getElem?_getD,hk];rfl
      have hpl:bF h (h.getD p ⟨0,0⟩).rep=p:=by rw [hge];exact D3 hh.2 he
      refine ⟨hme,f1,by show ahead≤ahead+(t:Int);omega,by show ahead+(t:Int)≤_;omega,by show bF h (h.getD p ⟨0,0⟩).rep<_;rw [hpl];omega,?_,by omega,by omega,?_⟩
      ·unfold oneB dj;simp only
       rw [hpl,show (ahead+(t:Int)-ahead).toNat=t by omega,show ((c.toNat:Nat):Int).toNat=c.toNat by omega,ld,hc,hr,e1,e2,e3];obtain ⟨X,hX⟩:∃ X,(bc (c.toNat:Int) (cy (c.toNat:Int) L) (getN (c.toNat:Int) L).1).data.toList=X:=⟨_,rfl⟩;rw [hX] at e4 ⊢;rw [hb] at e4;rw [e4];simp
      ·exact ⟨e,List.mem_of_getElem? he,by rw [hge]⟩
     ·rw [uD hk h1 h2 h3 rfl h4] at h0;cases h0
theorem uS {s:List UInt8} {h:List Ent} {T:List ByteArray} (hh:aB h) (k:Nat):∀ (a b:Nat) (ahead:Int) (W0 W:List Wr) (N0 N:List Nat),a≤s.length→unW s h T k a ahead W0 N0=.inr (b,W,N) →
 ∃ W1 N1,W=W0++W1∧N=N0++N1∧W1.length=k∧dI h T ahead W1 N1∧s.drop a=rowB h ahead W1 N1++s.drop b∧b≤s.length∧a≤b:=by
 induction k with
 | zero =>
  intro a b ahead W0 W N0 N ha h0;rw [unW] at h0;simp only [Sum.inr.injEq,Prod.mk.injEq] at h0
  obtain ⟨rfl,rfl,rfl⟩:=h0;exact ⟨[],[],by simp,by simp,rfl,rfl,rfl,ha,Nat.le_refl _⟩
 | succ k ih =>
  intro a b ahead W0 W N0 N ha h0
  match h1:br s h T a ahead with
  | .inl r=>rw [uR h1] at h0;cases h0
  | .inr (c,x,n) =>
   rw [pa h1] at h0;obtain ⟨o1,o2,o3,o4,o5,o6,o7,o8,o9⟩:=uG hh h1;obtain ⟨W1,N1,rfl,rfl,g3,g4,g5,g6,g7⟩:=ih _ _ _ _ _ _ _ o8 h0;refine ⟨x::W1,n::N1,by simp,by simp,by simp [g3],⟨⟨o2,o3,o5,o1⟩,g4⟩,?_,g6,by omega⟩;rw [lC,List.append_assoc,←g5];exact o6
theorem uJ {s:List UInt8} (k:Nat):∀ (a b:Nat) (T0 T:List ByteArray),a≤s.length→unT s k a T0=.inr (b,T)→∃ T1,T=T0++T1∧T1.length=k∧s.drop a=bA T1++s.drop b∧b≤s.length∧a≤b:=by
 induction k with
 | zero =>
  intro a b T0 T ha h0;rw [unT] at h0;simp only [Sum.inr.injEq,Prod.mk.injEq] at h0
  obtain ⟨rfl,rfl⟩:=h0;exact ⟨[],by simp,rfl,rfl,ha,Nat.le_refl _⟩
 | succ k ih =>
  intro a b T0 T ha h0;obtain ⟨t,n,e,hg⟩:∃ t n e,getS (s.drop a)=(t,n,e):=⟨_,_,_,rfl⟩;by_cases he:e=0
  ·subst he;obtain ⟨w1,w2,w3,w4⟩:=jJ hg;rw [List.length_drop] at w2;rw [jx hg] at h0;obtain ⟨T1,rfl,g2,g3,g4,g5⟩:=ih _ _ _ _ (by omega) h0;refine ⟨⟨t.toArray⟩::T1,by simp,by simp [g2],?_,g4,by omega⟩;rw [ju,List.append_assoc,←g3];exact eX w4
  ·rw [m7 hg he] at h0;cases h0
theorem BW {h:List Ent} {T:List ByteArray} (l:List Wr):∀ (ahead:Int) (N:List Nat),dI h T ahead l N→outG T (N.map Int.ofNat)=aN l:=by
 induction l with
 | nil=>intro ahead N hN;have hN:N=[]:=hN;subst hN;rfl
 | cons x r ih =>
  intro ahead N hN;cases N with
  | nil=>exact absurd hN id
  | cons n N =>
   have h2:=ih _ _ hN.2;unfold outG aN at h2 ⊢;rw [List.map_cons,List.map_cons,List.map_cons,h2];have h4:=hN.1.2.2.2
   congr 1
   show T.getD (Int.ofNat n).toNat ByteArray.empty=x.key
   rw [List.getD_eq_getElem?_getD,show (Int.ofNat n).toNat=n from rfl,h4];rfl
theorem Fl {s:List UInt8} {f h:List Ent} {l:List Wr} (h0:unbF s=.inr (f,h,l)):aY f h l∧aK f h l=s∧s.length≤20000:=by
 by_cases hl:20000<s.length
 ·rw [uW hl] at h0;cases h0
 obtain ⟨e1,n,f',h1⟩:∃ e n f',ay s=(e,n,f'):=⟨_,_,_,rfl⟩;have z1:e1=0:=by
  by_cases z:e1=0
  ·exact z
  ·rw [uU hl h1 z] at h0;cases h0
 subst z1;obtain ⟨r1,n1,n2,w1⟩:=mb h1;obtain ⟨e2,m,h',h2⟩:∃ e m h',ay (s.drop n)=(e,m,h'):=⟨_,_,_,rfl⟩;have z2:e2=0:=by
  by_cases z:e2=0
  ·exact z
  ·rw [uV hl h1 h2 z] at h0;cases h0
 subst z2;obtain ⟨r2,m1,m2,w2⟩:=mb h2;rw [List.length_drop] at m2;rcases ba (s.drop (n+m)) 60 with ⟨e,h3,he,_⟩ | ⟨k,j,h3,hk,_,_,hjl,hp3⟩
 ·rw [uZ hl h1 h2 h3 he] at h0;cases h0
 rw [List.length_drop] at hjl
 match h4:unT s k (n+m+j) [] with
 | .inl (e,p)=>rw [uY hl h1 h2 h3 h4] at h0;cases h0
 | .inr (b,T) =>
  obtain ⟨T1,hT1,hTl,q4,hb1,hb2⟩:=uJ k _ _ _ _ (by omega) h4;rw [List.nil_append] at hT1;subst hT1;rcases ba (s.drop b) 60 with ⟨e,h5,he,_⟩ | ⟨k2,j2,h5,hk2,_,_,hj2l,hp5⟩
  ·rw [ve hl h1 h2 h3 h4 h5 he] at h0;cases h0
  rw [List.length_drop] at hj2l
  match h6:unW s h' T k2 (b+j2) 0 [] [] with
  | .inl (e,p)=>rw [vd hl h1 h2 h3 h4 h5 h6] at h0;cases h0
  | .inr (c,W,N) =>
   obtain ⟨W1,N1,hW1,hN1,hWl,hrow,q6,hc1,hc2⟩:=uS r2 k2 _ _ _ _ _ _ _ (by omega) h6;rw [List.nil_append] at hW1 hN1;subst hW1;subst hN1;rw [pc hl h1 h2 h3 h4 h5 h6] at h0;by_cases z3:c<s.length
   ·rw [if_pos z3] at h0;cases h0
   rw [if_neg z3] at h0;have z4:(bC T (N.map Int.ofNat)).2.1=0:=by
    by_cases z:(bC T (N.map Int.ofNat)).2.1=0
    ·exact z
    ·rw [if_pos z] at h0;cases h0
   rw [if_neg (by simpa using z4)] at h0;have z5:(batF f' h' W).1=0:=by
    by_cases z:(batF f' h' W).1=0
    ·exact z
    ·rw [if_pos z] at h0;cases h0
   rw [if_neg (by simpa using z5)] at h0;simp only [Sum.inr.injEq,Prod.mk.injEq] at h0
   obtain ⟨rfl,rfl,rfl⟩:=h0;obtain ⟨_,lt,la⟩:=Ba z4;rw [BW _ _ _ hrow] at lt la;have la2:atK [] (aN W)=N:=by
    have hinj:∀ (x y:List Nat),x.map Int.ofNat=y.map Int.ofNat→x=y:=fun x y hxy=>(List.map_inj_right (fun a b hab=>Int.ofNat.inj hab)).1 hxy
    exact hinj _ _ la
   refine ⟨z5,?_,by omega⟩;have hc:s.drop c=[]:=List.drop_of_length_le (by omega);have e1:=eX (a:=0) (s:=s) (k:=n) (p:=aG f') (by rw [List.drop_zero];exact w1);rw [List.drop_zero,Nat.zero_add] at e1;have e2:=eX w2;have e3:=eX hp3;have e5:=eX hp5;rw [hc,List.append_nil] at q6;unfold aK;rw [lt,la2,hTl,hWl];rw [e1,e2,e3,q4,e5,q6];simp
end
section
open Go.RowKit
theorem ti {w:World} {base base':Nat} {e1 e2:TypeId} {k1 k2 n1 n2:Nat} {v1 v2:Value} {x1 x2:List Value} (h1:w.ownsRow base e1 k1 v1 n1 x1) (h2:w.ownsRow base' e2 k2 v2 n2 x2) (hne:e1≠e2) :
 v1.ownBlock=none∨v1.ownBlock≠v2.ownBlock:=by
 rcases h1.2 with ⟨rfl,_⟩ | ⟨g,cap,cur,rfl,_,hh,_⟩
 ·exact .inl rfl
 ·refine .inr ?_;rcases h2.2 with ⟨rfl,_⟩ | ⟨g',cap',cur',rfl,_,hh',_⟩
  ·simp [Value.ownBlock]
  ·intro e;have:g=g':=by simpa [Value.ownBlock] using e
   subst this;rw [hh] at hh';injection hh' with hh'
   injection hh' with _ ht
   exact hne ht
def wn (w:World) (s:List UInt8) (e:Ending) (w':World):Prop :=
 ∃ v err,e=.returned (.tuple #[v,err])∧bm w' w.heap.size v (aL s).2∧atIs w' err (aL s).1∧Below w.heap.size w w'
theorem atIs.iface {w:World} {v:Value} {r:Nat×Int} (h:atIs w v r) (h0:r.1≠0):∃ t u,v=.iface t u:=by
 rcases h with ⟨h,_⟩ | ⟨_,b,h,_⟩
 ·exact absurd (by rw [h]) h0
 ·exact ⟨_,_,h⟩
theorem atIs.nil {w:World} {v:Value} {r:Nat×Int} (h:atIs w v r) (h0:r.1=0):v=.nilIface:=by
 rcases h with ⟨_,h⟩ | ⟨h,_⟩
 ·exact h
 ·exact absurd h0 h
theorem rC {l:List UInt8} {e p:Nat} (hg:getT l=.inl (e,p)):e≠0:=by
 intro h0;subst h0;unfold getT at hg;split at hg
 ·rename_i hne;injection hg with hg;injection hg with hg _;exact hne hg
 ·split at hg
  ·split at hg
   ·injection hg with hg;injection hg with hg _;omega
   ·split at hg
    ·injection hg with hg;injection hg with hg _;omega
    ·cases hg
  ·split at hg
   ·injection hg with hg;injection hg with hg _;omega
   ·split at hg
    ·rename_i hne;injection hg with hg;injection hg with hg _;exact hne hg
    ·cases hg
theorem tt (l:List Tok) (b:List Nat):(eM l b).1=(am l 0 0).1:=by
 unfold eM;split
 ·rename_i h;exact h.symm
 ·rfl
theorem sC (s:ByteArray) (w:World) (hs:s.size≤400000) (hg:errT w) :
 Calls Tryz.prog 183 #[.string s] w (wn w s.data.toList):=by
 have HG:=hid hg;have hlen:s.data.toList.length=s.size:=(aj s).symm;have HL:=hid hlen;clear hg hlen;go_enter Tryz.func183,Tryz.ntmps183
 go_wp2
 go_loopw [4,5,6] (fun lv bv av wr=>∃ (f a:Nat) (l:List Tok) (b:List Nat),av=.int .i64 a∧a≤s.size∧s.size≤a+f∧l.length≤a∧b.length=l.length∧(∀ t∈l,t.own.size≤140737488351232)∧rdF s.data.toList s.data.toList.length 0 [] []=rdF s.data.toList f a l b∧bm wr w.heap.size lv l∧aU wr w.heap.size bv b∧Below w.heap.size w wr) (fun _ _ av _=>s.size-(intOf av).toNat)
 case atStart=>exact ⟨s.size,0,[],[],rfl,by omega,by omega,by simp,rfl,(fun t h=>by cases h),by rw [HL.out],lh _ _,hZ _ _,Below.refl _ _⟩
 case round =>
  obtain ⟨f,a,l,b,rfl,ha,hf,hla,hbl,hz,heq,hok,hon,hbel⟩:=hrel;have HZ:=hid hz;have HBL:=hid hbl;have HEQ:=hid heq;have HK:=hid hok;have HN:=hid hon;have HB:=hid hbel;have hzr:=hbel.size;have HGR:=hid (HG.out.below (hbel.mono (Nat.le_refl _)));clear hz hbl heq hok hon hbel;by_cases hlt:a<s.size
  ·obtain ⟨f',rfl⟩:∃ f',f=f'+1:=⟨f-1,by omega⟩;have hlt':a<s.data.toList.length:=by rw [HL.out];exact hlt
   match hgt:getT (s.data.toList.drop a) with
   | .inl (e,p) =>
    have HE:Hid (rdF s.data.toList s.data.toList.length 0 [] []=.inl (e,a+p)):=hid (show rdF s.data.toList s.data.toList.length 0 [] []=.inl (e,a+p) by rw [HEQ.out,ly hlt' hgt]);have HNE:=hid (rC hgt);have HGT:=hid hgt;clear hgt hlt';go_wp2_with fail
    refine (sB s a _ (by omega) (by omega) HGR.out).mono ?_;rw [HGT.out];rintro r w1 ⟨err,rfl,hat,hb1⟩;have HAT:=hid hat;have HB1:Hid (Below w.heap.size w w1):=HB.out.trans (hb1.mono hzr);have hz1:=HB1.out.size;obtain ⟨ty,u,rfl⟩:=hat.iface HNE.out;clear hat hb1;go_wp2;go_ret2;refine ⟨_,_,rfl,?_⟩;rw [oo HE.out];exact ⟨lh _ _,HAT.out.below ((Below.refl _ _).alloc (Nat.le_refl _) _),HB1.out.alloc hz1 _⟩
   | .inr (t,k) =>
    obtain ⟨k1,k2,_,_,k5⟩:=rF hgt;rw [List.length_drop,HL.out] at k2 k5;have HE:Hid (rdF s.data.toList s.data.toList.length 0 [] []=rdF s.data.toList f' (a+k) (l++[t]) (b++[a])):=hid (show rdF s.data.toList s.data.toList.length 0 [] []=rdF s.data.toList f' (a+k) (l++[t]) (b++[a]) by rw [HEQ.out,jl hlt' hgt]);have HGT:=hid hgt;have HZ2:Hid (∀ u∈l++[t],u.own.size≤140737488351232):=hid (show ∀ u∈l++[t],u.own.size≤140737488351232 from fun u hu=>by
     rcases List.mem_append.1 hu with hu | hu
     ·exact HZ.out u hu
     ·rw [List.mem_singleton.1 hu];omega)
    have HTV:Hid (tokV t=.agg #[.string t.own,.int .i64 t.back,.int .i64 t.size]):=rfl;clear hgt hlt' k5;go_wp2_with fail
    refine (sB s a _ (by omega) (by omega) HGR.out).mono ?_;rw [HGT.out];rintro r w1 ⟨rfl,hb1⟩;have HB1:Hid (Below w.heap.size w w1):=HB.out.trans (hb1.mono hzr);have hz1:=HB1.out.size;have HK1:=hid (HK.out.below hb1);have HN1:=hid (HN.out.below hb1);clear hb1;rw [HTV.out];go_wp2_with (at_builtin;refine px rfl _ _ rfl w.heap.size _ l rfl ((HK1.out.alloc _).alloc _) (w1.heap.size+1) 1 rfl t ?c1 ?c2 ?c3 ?_)
    case c1=>have:=jw (w1.alloc (.cells #[.string t.own,.int .i64 t.back,.int .i64 t.size] 237)) t.own t.back t.size;simpa using this
    case c2=>omega
    case c3=>simp;omega
    ·intro g cap w2 ho2 hg2;have HB2:Hid (Below w.heap.size w w2):=((HB1.out.alloc hz1 _).alloc (by simp;omega) _).grown hg2 (by simp;omega) (fun g hg=>(HK1.out.lt g hg).1);have HN2:=hid (show aU w2 w.heap.size _ b from World.ownsRow.kept ((HN1.out.alloc _).alloc _) hg2 (ti HN1.out HK1.out (show 3≠237 by decide)));have HK2:=hid ho2;have hz2:=HB2.out.size;clear ho2 hg2;go_wp2_with (at_builtin;refine mg rfl _ _ rfl w.heap.size _ b rfl (HN2.out.alloc _) ⟨w2.heap.size,0,none⟩ 1 rfl a ?c4 ?c5 ?c6 ?_)
     case c4=>simp [Addr.add]
     case c5=>have:=HBL.out;omega
     case c6=>simp;omega
     ·intro g' cap' w3 ho3 hg3;have HB3:Hid (Below w.heap.size w w3):=(HB2.out.alloc hz2 _).grown hg3 (by simp;omega) (fun g hg=>(HN2.out.lt g hg).1);have HK3:Hid (bm w3 w.heap.size (.slice (some ⟨g,0,none⟩) (l.length+1) cap) (l++[t])):=World.ownsRow.kept (HK2.out.alloc _) hg3 (ti HK2.out HN2.out (show 237≠3 by decide));have HN3:=hid ho3;clear ho3 hg3;obtain ⟨l1,hl1⟩:∃ l1,l++[t]=l1:=⟨_,rfl⟩;have hll:l1.length=l.length+1:=by rw [←hl1];simp
      rw [hl1] at HK3 HE HZ2;have HBL2:Hid ((b++[a]).length=l1.length):=hid (show (b++[a]).length=l1.length by rw [hll,List.length_append,HBL.out];rfl);clear hl1;go_wp2;go_roundw
      case rel=>exact ⟨f',a+k,l1,b++[a],by go_num,by omega,by omega,by omega,HBL2.out,HZ2.out,HE.out,HK3.out,HN3.out,HB3.out⟩
      case measure=>simp [intOf];omega
  ·have hlt':¬ a<s.data.toList.length:=by rw [HL.out];exact hlt
   have HE:Hid (rdF s.data.toList s.data.toList.length 0 [] []=.inr (l,b)):=hid (show rdF s.data.toList s.data.toList.length 0 [] []=.inr (l,b) by rw [HEQ.out,jk hlt']);clear hlt';go_wp2_with fail
   refine (Bm _ _ l b w.heap.size _ HK.out.is (by omega) HZ.out HN.out HBL.out).mono ?_;rintro r w1 ⟨err,rfl,hat,hb1⟩;have HAT:=hid hat;have HB1:Hid (Below w.heap.size w w1):=HB.out.trans (hb1.mono hzr);have HK1:=hid (HK.out.below hb1);clear hb1;by_cases hr:(am l 0 0).1=0
   ·obtain rfl:=hat.nil (by rw [tt];exact hr);have HRD:=hid (lz HE.out hr);clear hat hr;go_wp2;go_ret2;refine ⟨_,_,rfl,?_⟩;rw [HRD.out];exact ⟨HK1.out,.inl ⟨rfl,rfl⟩,HB1.out⟩
   ·obtain ⟨ty,u,rfl⟩:=hat.iface (by rw [tt];exact hr);have HRD:=hid (oq HE.out hr);have HAT2:Hid (atIs w1 (.iface ty u) ((am l 0 0).1,((b.getD (am l 0 0).2.toNat 0:Nat):Int))):=by
     have h:=HAT.out;unfold eM at h;rw [if_neg hr] at h;exact h
    clear hat hr;go_wp2;go_ret2;refine ⟨_,_,rfl,?_⟩;rw [HRD.out];exact ⟨lh _ _,HAT2.out,HB1.out⟩
end
