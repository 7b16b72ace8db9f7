import Derived.Test.YtdhognaoejiglaaGreatDoorKb20
import Derived.Laws.CopyOwn
namespace Go.Proofs.YtdhognaoejiglaaGreatDoor
open Lib (hid)
set_option maxRecDepth 100000
set_option maxHeartbeats 8000000
section
open Go.RowKit
def arrA (f:Nat→Int):Array Value:=((List.range 201).map fun i=>Value.int .i64 (f i)).toArray
theorem iz (f:Nat→Int):(arrA f).size=201:=by simp [arrA]
theorem gH (f:Nat→Int) (i:Nat) (h:i<201):(arrA f)[i]? = some (.int .i64 (f i)):=by
 unfold arrA;simp [h]
def updT (f:Nat→Int) (r:Nat) (x:Int):Nat→Int:=fun i=>if i=r then x else f i
theorem xj (f:Nat→Int) (r:Nat) (x:Int) (h:r<201):(arrA f).setIfInBounds r (.int .i64 x)=arrA (updT f r x):=by
 apply Array.ext_getElem?
 intro i;rw [Array.getElem?_setIfInBounds,iz];by_cases hi:i<201
 ·by_cases e:r=i
  ·subst e;rw [if_pos rfl,if_pos h,gH _ r hi];unfold updT;rw [if_pos rfl]
  ·rw [if_neg e,gH _ i hi,gH _ i hi];unfold updT;rw [if_neg (by omega)]
 ·rw [if_neg (by omega),Array.getElem?_eq_none (by rw [iz];omega),Array.getElem?_eq_none (by rw [iz];omega)]
theorem xk:(Tryz.prog.info? 113).map (·.size)=some 201:=by kernel_rfl
theorem xl (f:Nat→Int):(Tryz.prog.info? 113).map (·.size)=some (arrA f).size:=by rw [iz,xk]
def arr0:Array Value:=Array.replicate 201 (.int .i64 0)
theorem xi:arr0=arrA fun _=>0:=by
 apply Array.ext_getElem?
 intro i;unfold arr0;rw [Array.getElem?_replicate];by_cases hi:i<201
 ·rw [if_pos hi,gH _ i hi]
 ·rw [if_neg hi,Array.getElem?_eq_none (by rw [iz];omega)]
theorem um {l:List Ent} {k:Nat} {t:Ent} (h:l[k]? = some t):l.take (k+1)=l.take k++[t]:=by
 obtain ⟨hk,ht⟩:=List.getElem?_eq_some_iff.1 h;rw [List.take_succ_eq_append_getElem hk,ht]
def aP (f:Nat→Int) (l:List Ent):Nat→Int:=l.foldl (fun f e=>updT f e.rep.toNat (max (f e.rep.toNat) e.time)) f
theorem rd (f:Nat→Int) (l:List Ent) (e:Ent):aP f (l++[e])=updT (aP f l) e.rep.toNat (max (aP f l e.rep.toNat) e.time):=by
 unfold aP;rw [List.foldl_append];rfl
theorem qZ (l:List Ent):∀ (f:Nat→Int) (last:Int) (r:Nat),okV last l→(∀ r,0≤f r)→aP f l r=max (f r) (ofF l r):=by
 induction l with
 | nil=>intro f last r _ hf;show f r=max (f r) 0;have:=hf r;omega
 | cons e t ih =>
  intro f last r h hf;have hm:=bJ h e List.mem_cons_self;show aP (updT f e.rep.toNat (max (f e.rep.toNat) e.time)) t r=_
  rw [ih _ e.rep r h.2 (fun r=>by unfold updT;split <;> first | (have:=hf e.rep.toNat;omega) | exact hf r)];unfold updT;by_cases hr:r=e.rep.toNat
  ·subst hr;have e1:((e.rep.toNat:Nat):Int)=e.rep:=by omega
   rw [if_pos rfl,e1,du rfl,je h.2 (Int.le_refl _)];omega
  ·rw [if_neg hr,dH (by omega)]
def eq (a b:List Ent):Nat→Int:=aP (aP (fun _=>0) a) b
theorem qm {a b:List Ent} {x y:Int} (ha:okV x a) (hb:okV y b) (r:Nat):eq a b r=jF a b r:=by
 unfold eq jF;have h1:∀ r,aP (fun _=>0) a r=max 0 (ofF a r):=fun r=>qZ a _ x r ha (fun _=>Int.le_refl _)
 rw [qZ b _ y r hb (fun r=>by rw [h1];omega),h1];have:=cQ ha r;omega
theorem Es {a b:List Ent} {x y:Int} (ha:okV x a) (hb:okV y b) (n:Nat):tab (eq a b) n=tab (jF a b) n:=Et fun r _=>qm ha hb r
def TJ (F:Nat→Int) (w wr:World):Prop:=wr.heap[w.heap.size]? = some (.cells (arrA F) 113 (0,0))∧Below w.heap.size w wr
theorem TJ.start (w:World):TJ (fun _=>0) w (w.alloc (.cells (arrA fun _=>0) 113)):=⟨heap_alloc_new _ _,(Below.refl _ _).alloc (Nat.le_refl _) _⟩
theorem TJ.lt {F:Nat→Int} {w wr:World} (h:TJ F w wr):w.heap.size<wr.heap.size:=(Array.getElem?_eq_some_iff.1 h.1).1
theorem TJ.below {F:Nat→Int} {w wr w':World} (h:TJ F w wr) (hb:Below wr.heap.size wr w'):TJ F w w' :=
 ⟨(hb.block _ h.lt).trans h.1,h.2.trans (hb.mono (Nat.le_of_lt h.lt))⟩
theorem TJ.alloc {F:Nat→Int} {w wr:World} (h:TJ F w wr) (o:Obj):TJ F w (wr.alloc o):=h.below ((Below.refl _ _).alloc (Nat.le_refl _) o)
theorem TJ.drew {F:Nat→Int} {w wr:World} (h:TJ F w wr):TJ F w wr.drew:=⟨by rw [heap_drew];exact h.1,h.2.drew⟩
theorem TJ.set {F:Nat→Int} {w wr:World} (h:TJ F w wr) (r:Nat) (hr:r<201) (x:Int):TJ (updT F r x) w (wr.setCell ⟨w.heap.size,r,none⟩ (.int .i64 x)) :=
 ⟨by rw [heap_setCell_same _ _ _ _ _ _ h.1,xj F r x hr],h.2.setCell (Nat.le_refl _) _⟩
theorem TJ.cells {F:Nat→Int} {w wr:World} (h:TJ F w wr) (r:Nat) (hr:r<201):wr.cell? ⟨w.heap.size,r,none⟩=some (.int .i64 (F r))∧wr.frozen? ⟨w.heap.size,r,none⟩=false :=
 ⟨by rw [cell_of_row _ _ _ _ _ _ h.1,gH _ _ hr],frozen_of_row _ _ _ _ _ h.1⟩
end
section
open Go.RowKit
theorem m9 (v:Value) (l:List Ent) (x y:Int) (w:World) (hv:ae w v l) (hl:l.length≤9223372036854775807) (h:ofF l x=y) :
 Calls Tryz.prog 19 #[v,.int .i64 x] w fun r w'=>r=.returned (.int .i64 y)∧Below w.heap.size w w':=by
 subst h;exact FO v l x w hv hl
theorem yE {a b:List Ent} {k:Nat} {t:Ent} (h:b[k]? = some t):covA a (b.drop k)=(decide (t.time≤ofF a t.rep) && covA a (b.drop (k+1))):=by
 obtain ⟨hk,ht⟩:=List.getElem?_eq_some_iff.1 h;rw [List.drop_eq_getElem_cons hk,ht];rfl
theorem FI (va vb:Value) (a b:List Ent) (w:World) (ha:ae w va a) (hb:ae w vb b) (hla:a.length≤9223372036854775807) (hlb:b.length≤9223372036854775807) :
 Calls Tryz.prog 26 #[va,vb] w fun r w'=>r=.returned (.bool (covB a b))∧Below w.heap.size w w':=by
 have HVA:=hid ha;have HVB:=hid hb;have HLA:=hid hla;have HLB:=hid hlb;obtain ⟨aa,ca,rfl,_⟩:=ha.form;obtain ⟨ab,cb,rfl,fb⟩:=hb.form;have FB:=hid fb;obtain ⟨na,hna⟩:∃ n,n=a.length:=⟨_,rfl⟩;obtain ⟨nb,hnb⟩:∃ n,n=b.length:=⟨_,rfl⟩;have HNB:=hid hnb;rw [←hna] at HVA ⊢;rw [←hnb] at HVB ⊢;clear ha hb hla hlb fb hna hnb;by_cases h1:(aq a).1=0
 ·by_cases h2:(aq b).1=0
  ·have H1:=hid h1;have H2:=hid h2;have HC:Hid (covB a b=covA a b):=hid (show covB a b=covA a b by unfold covB;rw [h1,h2];simp);have h16:nb≤16:=by rw [HNB.out];exact ((bO b).1 h2).1
   clear h1 h2;rw [HC.out];go_enter Tryz.func26,Tryz.ntmps26
   go_wp2_with fail
   refine (cC _ a _ HVA.out HLA.out).mono ?_;rintro r w1 ⟨err,rfl,hat,hb1⟩;obtain rfl:=hat.nil H1.out;have HB1:=hid hb1;clear hat hb1;go_wp2_with fail
   refine (cC _ b _ (HVB.out.below HB1.out) HLB.out).mono ?_;rintro r w2 ⟨err,rfl,hat,hb2⟩;obtain rfl:=hat.nil H2.out;have HB2:Hid (Below w.heap.size w w2):=HB1.out.trans (hb2.mono HB1.out.size);clear hat hb2;go_wp2
   go_loopw [17] (fun i wr=>∃ k:Nat,k≤nb∧i=.int .i64 k∧covA a b=covA a (b.drop k)∧Below w.heap.size w wr) (fun i _=>nb-(intOf i).toNat)
   case atStart=>exact ⟨0,by omega,rfl,rfl,HB2.out⟩
   case round =>
    obtain ⟨k,hk,rfl,heq,hbel⟩:=hrel;have HEQ:=hid heq;have HB:=hid hbel;have hzr:=hbel.size;clear heq hbel;by_cases hlt:k<nb
    ·obtain ⟨t, ht⟩ : ∃ t, b[k]? = some t := ⟨b[k]'(by have := HNB.out; omega), List.getElem?_eq_getElem _⟩;obtain ⟨b1,o1,rfl,hb1,p0,p1⟩:=FB.out k t ht;have hd:=yE (a:=a) ht;obtain ⟨rep,time⟩:=t;simp only at p0 p1 hd
     have q0:=(HB.out.cell (p:=⟨b1,o1+k * 2,none⟩) hb1).trans p0;have q1:=(HB.out.cell (p:=⟨b1,o1+k * 2+1,none⟩) hb1).trans p1;obtain ⟨x,hx⟩:∃ x,ofF a rep=x:=⟨_,rfl⟩;rw [hx] at hd;have HX:=hid hx;have HV1:Hid (ae (wr.alloc (.cells #[.int .i64 rep,.int .i64 time] 58)).drew (.slice aa na ca) a):=hid (((HVA.out.below HB.out).alloc _).drewN 1);have c0:(wr.alloc (.cells #[.int .i64 rep,.int .i64 time] 58)).cell? ⟨wr.heap.size,0,none⟩=some (.int .i64 rep)∧(wr.alloc (.cells #[.int .i64 rep,.int .i64 time] 58)).cell? ⟨wr.heap.size,1,none⟩=some (.int .i64 time):=by simp
     by_cases hlx:x<time
     ·have HW:Hid (covA a b=false):=hid (show covA a b=false by rw [HEQ.out,hd,decide_eq_false (by omega),Bool.false_and]);clear p0 p1 ht hd hx;go_wp2;go_region_held3 (fun w'=>w'.cell? ⟨wr.heap.size,0,none⟩=some (.int .i64 rep)∧w'.cell? ⟨wr.heap.size,1,none⟩=some (.int .i64 time)) (first | exact c0 | exact c2) (first | (go_at_call 19;((with_reducible refine (m9 _ a rep x _ HV1.out HLA.out HX.out).mono ?_);rintro r w2 ⟨rfl,hb2⟩;have c2:w2.cell? ⟨wr.heap.size,0,none⟩=some (.int .i64 rep)∧w2.cell? ⟨wr.heap.size,1,none⟩=some (.int .i64 time):=⟨(hb2.cell (by simp)).trans c0.1,(hb2.cell (by simp)).trans c0.2⟩;have HB2:Hid (Below w.heap.size w w2):=((HB.out.alloc hzr _).drew.trans (hb2.mono (by simp;omega)));clear hb2)))
      go_wp2;go_ret;exact ⟨by rw [HW.out];rfl,HB2.out⟩
     ·have HW:Hid (covA a b=covA a (b.drop (k+1))):=hid (show covA a b=covA a (b.drop (k+1)) by rw [HEQ.out,hd,decide_eq_true (by omega),Bool.true_and]);clear p0 p1 ht hd hx;go_wp2;go_region_held3 (fun w'=>w'.cell? ⟨wr.heap.size,0,none⟩=some (.int .i64 rep)∧w'.cell? ⟨wr.heap.size,1,none⟩=some (.int .i64 time)) (first | exact c0 | exact c2) (first | (go_at_call 19;((with_reducible refine (m9 _ a rep x _ HV1.out HLA.out HX.out).mono ?_);rintro r w2 ⟨rfl,hb2⟩;have c2:w2.cell? ⟨wr.heap.size,0,none⟩=some (.int .i64 rep)∧w2.cell? ⟨wr.heap.size,1,none⟩=some (.int .i64 time):=⟨(hb2.cell (by simp)).trans c0.1,(hb2.cell (by simp)).trans c0.2⟩;have HB2:Hid (Below w.heap.size w w2):=((HB.out.alloc hzr _).drew.trans (hb2.mono (by simp;omega)));clear hb2)))
      go_wp2;go_roundw
      case rel=>exact ⟨k+1,by omega,by go_num,HW.out,HB2.out⟩
      case measure=>simp [intOf];omega
    ·have HW:Hid (covA a b=true):=hid (show covA a b=true by rw [HEQ.out,List.drop_eq_nil_of_le (by have:=HNB.out;omega)];rfl);go_wp2;go_ret;exact ⟨by rw [HW.out];rfl,HB.out⟩
  ·have H1:=hid h1;have H2:=hid h2;have HC:Hid (covB a b=false):=hid (show covB a b=false by unfold covB;rw [decide_eq_false h2];simp);clear h1 h2;rw [HC.out];go_enter Tryz.func26,Tryz.ntmps26
   go_wp2_with fail
   refine (cC _ a _ HVA.out HLA.out).mono ?_;rintro r w1 ⟨err,rfl,hat,hb1⟩;obtain rfl:=hat.nil H1.out;have HB1:=hid hb1;clear hat hb1;go_wp2_with fail
   refine (cC _ b _ (HVB.out.below HB1.out) HLB.out).mono ?_;rintro r w2 ⟨err,rfl,hat,hb2⟩;obtain ⟨t,u,rfl⟩:=hat.iface H2.out;have HB2:Hid (Below w.heap.size w w2):=HB1.out.trans (hb2.mono HB1.out.size);clear hat hb2;go_wp2;go_ret;exact ⟨rfl,HB2.out⟩
 ·have H1:=hid h1;have HC:Hid (covB a b=false):=hid (show covB a b=false by unfold covB;rw [decide_eq_false h1];simp);clear h1;rw [HC.out];go_enter Tryz.func26,Tryz.ntmps26
  go_wp2_with fail
  refine (cC _ a _ HVA.out HLA.out).mono ?_;rintro r w1 ⟨err,rfl,hat,hb1⟩;obtain ⟨t,u,rfl⟩:=hat.iface H1.out;have HB1:=hid hb1;clear hat hb1;go_wp2;go_ret;exact ⟨rfl,HB1.out⟩
end
section
open Go.RowKit
theorem G5 (K:Int) (s:ByteArray) (w:World) (hs:s.size≤140737488351232) :
 Calls Tryz.prog 218 #[.int .i64 K,.string s] w fun e w'=>e=.returned (.tuple #[.int .i64 (getN K s.data.toList).1,.int .i64 (getN K s.data.toList).2.1,errV (getN K s.data.toList).2.2])∧w=w':=by
 have hs2:s.size≤maxLen:=by unfold maxLen;omega
 by_cases h3:K=3
 ·subst h3;have HR:Hid (getN 3 s.data.toList=(zagN (getL s.data.toList).1,(getL s.data.toList).2.1,(getL s.data.toList).2.2)):=hid (show _=_ by unfold getN;rw [if_pos rfl]);have HZ:Hid ((getL s.data.toList).1≤18446744073709551615):=hid (by
   show _≤_
   rcases dC s.data.toList with ⟨e,hg,he⟩ | ⟨n,k,hg,hn,_⟩
   ·rw [hg];exact Nat.zero_le _
   ·rw [hg];exact hn)
  go_enter Tryz.func218,Tryz.ntmps218
  go_wp2_with fail
  refine (nr s _ hs2).mono ?_;rintro r w' ⟨rfl,rfl⟩;unfold numV;go_wp2_with fail
  refine (GP _ _ (by omega) (by have:=HZ.out;omega)).mono ?_;rintro r w' ⟨rfl,rfl⟩;go_wp2;go_ret3;rw [HR.out];exact ⟨rfl,rfl⟩
 ·have b3:(K == 3)=false:=by simpa using h3
  by_cases h4:K=4
  ·subst h4;have HR:Hid (getN 4 s.data.toList=(((intL s.data.toList 1000).1:Int),(intL s.data.toList 1000).2.1,(intL s.data.toList 1000).2.2)):=hid (show _=_ by unfold getN;rw [if_neg (by decide),if_pos rfl]);go_enter Tryz.func218,Tryz.ntmps218
   go_wp2_with fail
   refine (gd s 1000 _ hs2 (by decide) (by decide)).mono ?_;rintro r w' ⟨rfl,rfl⟩;unfold intV;go_wp2;go_ret3;rw [HR.out];exact ⟨rfl,rfl⟩
  ·have b4:(K == 4)=false:=by simpa using h4
   have HR:Hid (getN K s.data.toList=(0,0,0)):=hid (show _=_ by unfold getN;rw [if_neg h3,if_neg h4]);go_enter Tryz.func218,Tryz.ntmps218
   go_wp2;go_ret3;rw [HR.out];exact ⟨rfl,rfl⟩
theorem G7 (K:Int) (s:ByteArray) (w:World) (hs:s.size≤140737488351232) :
 Calls Tryz.prog 219 #[.int .i64 K,.string s] w fun e w'=>e=.returned (.tuple #[.string ⟨(getV K s.data.toList).1.toArray⟩,.int .i64 (getV K s.data.toList).2.1,errV (getV K s.data.toList).2.2])∧Below w.heap.size w w':=by
 cases hV:hasV K with
 | false =>
  have HR:Hid (getV K s.data.toList=([],0,0)):=hid (show _=_ by unfold getV;rw [hV,if_neg (by decide)]);go_enter Tryz.func219,Tryz.ntmps219
  go_wp2_with (go_at_call 71;refine (eD K false _ hV).mono ?_;rintro r w3 ⟨rfl,rfl⟩)
  go_ret3;rw [HR.out];exact ⟨rfl,Below.refl _ _⟩
 | true =>
  have HR:Hid (getV K s.data.toList=getS s.data.toList):=hid (show _=_ by unfold getV;rw [hV,if_pos rfl]);go_enter Tryz.func219,Tryz.ntmps219
  go_wp2_with (first
   | (go_at_call 71;refine (eD K true _ hV).mono ?_;rintro r w3 ⟨rfl,rfl⟩)
   | (go_at_call 197;refine (lO s _ hs).mono ?_;rintro r w4 ⟨rfl,hb4⟩;have HB4:=hid hb4;clear hb4;unfold dL))
  go_ret3;rw [HR.out];exact ⟨rfl,HB4.out⟩
def aH (T R K:Int) (key:ByteArray) (l:List UInt8):Nat :=
 if (getN K l).2.2≠0 then (getN K l).2.2 else if (getV K (l.drop (getN K l).2.1)).2.2≠0 then (getV K (l.drop (getN K l).2.1)).2.2 else wriE T R K key ⟨(getV K (l.drop (getN K l).2.1)).1.toArray⟩ (getN K l).1
def fM:Value:=.agg #[.int .i64 0,.int .i64 0,.int .i64 0,.string ⟨#[]⟩,.string ⟨#[]⟩,.int .i64 0]
def mn (ev:Nat→Value) (T R K:Int) (key:ByteArray) (l:List UInt8) (r:Value):Prop :=
 (aH T R K key l≠0∧r=.tuple #[fM,.int .i64 0,ev (aH T R K key l)]) ∨
 (aH T R K key l=0∧r=.tuple #[.agg #[.int .i64 T,.int .i64 R,.int .i64 K,.string key,.string ⟨(getV K (l.drop (getN K l).2.1)).1.toArray⟩,.int .i64 (getN K l).1],.int .i64 (((getN K l).2.1+(getV K (l.drop (getN K l).2.1)).2.1:Nat):Int),ev 0])
theorem qP {T R K:Int} {key:ByteArray} {l:List UInt8} {n:Int} {k e:Nat} (h:getN K l=(n,k,e)) (he:e≠0):aH T R K key l=e:=by unfold aH;rw [h];exact if_pos he
theorem qQ {T R K:Int} {key:ByteArray} {l v:List UInt8} {n:Int} {k j e:Nat} (h:getN K l=(n,k,0)) (h2:getV K (l.drop k)=(v,j,e)) (he:e≠0):aH T R K key l=e:=by
 unfold aH;rw [h];simp only [ne_eq,not_true_eq_false,if_false];rw [h2];exact if_pos he
theorem kB {T R K:Int} {key:ByteArray} {l v:List UInt8} {n:Int} {k j:Nat} (h:getN K l=(n,k,0)) (h2:getV K (l.drop k)=(v,j,0)):aH T R K key l=wriE T R K key ⟨v.toArray⟩ n:=by
 unfold aH;rw [h];simp only [ne_eq,not_true_eq_false,if_false];rw [h2];simp
theorem n4 {ev:Nat→Value} {T R K:Int} {key:ByteArray} {l:List UInt8} {e:Nat} (h:aH T R K key l=e) (he:e≠0):mn ev T R K key l (.tuple #[fM,.int .i64 0,ev e]):=by
 refine .inl ⟨by rw [h];exact he,by rw [h]⟩
theorem zg {ev:Nat→Value} {T R K:Int} {key:ByteArray} {l v:List UInt8} {n:Int} {k j:Nat} (h:getN K l=(n,k,0)) (h2:getV K (l.drop k)=(v,j,0)) (h3:wriE T R K key ⟨v.toArray⟩ n=0) :
 mn ev T R K key l (.tuple #[.agg #[.int .i64 T,.int .i64 R,.int .i64 K,.string key,.string ⟨v.toArray⟩,.int .i64 n],.int .i64 ((k+j:Nat):Int),ev 0]):=by
 refine .inr ⟨by rw [kB h h2];exact h3,?_⟩;rw [h];simp only
 rw [h2]
def dU (w:World) (B:Nat):Prop:=w.frozen? ⟨B,0,none⟩=false∧w.frozen? ⟨B,1,none⟩=false∧w.frozen? ⟨B,2,none⟩=false∧w.frozen? ⟨B,3,none⟩=false∧w.frozen? ⟨B,4,none⟩=false∧w.frozen? ⟨B,5,none⟩=false
theorem dU.below {w w':World} {B m:Nat} (h:dU w B) (hb:Below m w w') (hm:B<m):dU w' B :=
 ⟨(hb.frozen hm).trans h.1,(hb.frozen hm).trans h.2.1,(hb.frozen hm).trans h.2.2.1,(hb.frozen hm).trans h.2.2.2.1,(hb.frozen hm).trans h.2.2.2.2.1,(hb.frozen hm).trans h.2.2.2.2.2⟩
theorem Gv:(Tryz.prog.info? 38).map (·.size)=some 6:=by kernel_rfl
theorem eR (a0 a1 a2 a3 a4 a5:Value):(Tryz.prog.info? 38).map (·.size)=some (#[a0,a1,a2,a3,a4,a5]:Array Value).size:=Gv
theorem eQ (T R K:Int) (key val:ByteArray) (N:Int):(#[.int .i64 T,.int .i64 R,.int .i64 K,.string key,.string val,.int .i64 N]:Array Value).all (·.oneCell')=true:=by simp [Value.oneCell']
theorem fj (T R K:Int) (key val:ByteArray) (N:Int):(#[.int .i64 0,.int .i64 0,.int .i64 0,.string ⟨#[]⟩,.string ⟨#[]⟩,.int .i64 0]:Array Value).size=(#[.int .i64 T,.int .i64 R,.int .i64 K,.string key,.string val,.int .i64 N]:Array Value).size:=rfl
theorem gM {w:World} {B:Nat} {cs:Array Value} {t:TypeId} (h:w.heap[B]? = some (.cells cs t (0,0))):dU w B:=by
 unfold dU;simp [World.frozen?,h]
theorem bZ {w:World} {B:Nat} {T R K:Int} {key val:ByteArray} {N:Int} {t:TypeId} {fr:Nat×Nat} (h:w.heap[B]? = some (.cells #[.int .i64 T,.int .i64 R,.int .i64 K,.string key,.string val,.int .i64 N] t fr)):wrAt w B T R K key val N :=
 ⟨cell_of_row _ _ 0 _ _ _ h,cell_of_row _ _ 1 _ _ _ h,cell_of_row _ _ 2 _ _ _ h,cell_of_row _ _ 3 _ _ _ h,cell_of_row _ _ 4 _ _ _ h,cell_of_row _ _ 5 _ _ _ h⟩
theorem zG (K:Int) (l:List UInt8):(getV K l).1.length≤l.length∧(getV K l).2.1≤l.length:=by
 unfold getV;split
 ·rcases dC l with ⟨e,hg,he⟩ | ⟨n,k,hg,hn,hk1,hk2,hk3⟩
  ·rw [iQ hg he];simp
  ·by_cases h2:2000<n
   ·rw [iR hg h2];simp
   ·by_cases h3:l.length<k+n
    ·rw [iS hg h2 h3];simp
    ·rw [gN hg h2 h3];simp only [List.length_take,List.length_drop]
     omega
 ·simp
theorem dQ {m:Nat} {w w':World} (h:Below m w w') {B:Nat} (hB:m≤B) (cs:Array Value):Below m w (w'.setRow B cs) :=
 h.trans ⟨rfl,rfl,rfl,by simp [World.setRow],fun k hk=>by
  simp only [World.setRow,Array.getElem?_modify]
  rw [if_neg (by omega)]⟩
theorem cA {w:World} {B:Nat} {old:Array Value} {t:TypeId} {fr:Nat×Nat} (h:w.heap[B]? = some (.cells old t fr)) (cs:Array Value):(w.setRow B cs).heap[B]? = some (.cells cs t fr):=by
 simp only [World.setRow,Array.getElem?_modify,h]
 simp
theorem iB {m B:Nat} {w w':World} (h:Below m w w') (hB:m≤B) (a0 a1 a2 a3 a4 a5:Value) :
 Below m w ((((((w'.setCell ⟨B,0,none⟩ a0).setCell ⟨B,1,none⟩ a1).setCell ⟨B,2,none⟩ a2).setCell ⟨B,3,none⟩ a3).setCell ⟨B,4,none⟩ a4).setCell ⟨B,5,none⟩ a5) :=
 (((((h.setCell (p:=⟨B,0,none⟩) hB a0).setCell (p:=⟨B,1,none⟩) hB a1).setCell (p:=⟨B,2,none⟩) hB a2).setCell (p:=⟨B,3,none⟩) hB a3).setCell (p:=⟨B,4,none⟩) hB a4).setCell (p:=⟨B,5,none⟩) hB a5
theorem vK (T R K:Int) (key val:ByteArray) (N:Int) (s:ByteArray) (w:World) (hk:key.size≤140737488351232) (hs:s.size≤140737488351232) :
 Calls Tryz.prog 200 #[.agg #[.int .i64 T,.int .i64 R,.int .i64 K,.string key,.string val,.int .i64 N],.string s] w fun e w'=>(∃ r,e=.returned r∧mn errV T R K key s.data.toList r)∧Below w.heap.size w w':=by
 obtain ⟨n,k,e,hn⟩:∃ n k e,getN K s.data.toList=(n,k,e):=⟨_,_,_,rfl⟩;have hkl:=(zD K s.data.toList);rw [hn] at hkl;simp only at hkl
 have HKL:=hid hkl;have HN:=hid hn;clear hn hkl;go_enter Tryz.func200,Tryz.ntmps200
 go_wp2_with fail
 refine (G5 K s _ hs).mono ?_;rintro r w1 ⟨rfl,rfl⟩;rw [HN.out];by_cases he:e=0
 ·subst he;obtain ⟨v,j,e,hv⟩:∃ v j e,getV K (s.data.toList.drop k)=(v,j,e):=⟨_,_,_,rfl⟩;have hx:(s.extract k s.size).data.toList=s.data.toList.drop k:=by rw [fX,List.take_of_length_le (by rw [←aj];exact Nat.le_refl _)]
  have HV:Hid (getV K (s.extract k s.size).data.toList=(v,j,e)):=hid (by rw [hx];exact hv);have HV2:=hid hv;have HVL:Hid (v.length≤140737488351232∧j≤140737488351232):=hid (by
   show _∧_
   have h:=zG K (s.data.toList.drop k);rw [hv,List.length_drop,←aj] at h;simp only at h
   omega)
  have HSZ:Hid ((s.extract k s.size).size≤140737488351232):=hid (by show _≤_;rw [ByteArray.size_extract];omega);have d1:(0:Int)≤(k:Int):=by omega
  have d2:(k:Int)≤(s.size:Int):=by have:=HKL.out.1;rw [←aj] at this;omega
  clear hv hx;rw [show errV 0=Value.nilIface from rfl];go_wp2;have HA0:=hid (ik w T R K key val N 38);obtain ⟨W0,hW0⟩:∃ W0,W0=((w.alloc (.cells #[.int .i64 T,.int .i64 R,.int .i64 K,.string key,.string val,.int .i64 N] 38)).alloc (.cells #[.int .i64 0,.int .i64 0,.int .i64 0,.string ⟨#[]⟩,.string ⟨#[]⟩,.int .i64 0] 38)):=⟨_,rfl⟩;have hs0:W0.heap.size=w.heap.size+1+1:=by rw [hW0];simp
  have ha0:wrAt W0 w.heap.size T R K key val N:=by rw [hW0];exact HA0.out.below ((Below.refl _ _).alloc (Nat.le_refl _) _) (by simp)
  have hz0:wrAt W0 (w.heap.size+1) 0 0 0 ⟨#[]⟩ ⟨#[]⟩ 0:=by rw [hW0];have h:=ik (w.alloc (.cells #[.int .i64 T,.int .i64 R,.int .i64 K,.string key,.string val,.int .i64 N] 38)) 0 0 0 ⟨#[]⟩ ⟨#[]⟩ 0 38;rw [World.size_alloc] at h;exact h
  have hf0:dU W0 w.heap.size:=by rw [hW0];unfold dU;simp
  have hg0:dU W0 (w.heap.size+1):=by rw [hW0];unfold dU;simp
  have hb0:Below w.heap.size w W0:=by rw [hW0];exact ((Below.refl _ _).alloc (Nat.le_refl _) _).alloc (by simp) _
  have HRB0:Hid (W0.heap[w.heap.size]? = some (.cells #[.int .i64 T,.int .i64 R,.int .i64 K,.string key,.string val,.int .i64 N] 38 (0,0))∧W0.heap[w.heap.size+1]? = some (.cells #[.int .i64 0,.int .i64 0,.int .i64 0,.string ⟨#[]⟩,.string ⟨#[]⟩,.int .i64 0] 38 (0,0))∧w.heap.size+1<W0.heap.size):=hid (by
   rw [hW0];refine ⟨?_,?_,by simp⟩
   ·rw [Below.heap_alloc _ _ _ (by simp)];exact heap_alloc_new _ _
   ·have h:=heap_alloc_new (w.alloc (.cells #[.int .i64 T,.int .i64 R,.int .i64 K,.string key,.string val,.int .i64 N] 38)) (.cells #[.int .i64 0,.int .i64 0,.int .i64 0,.string ⟨#[]⟩,.string ⟨#[]⟩,.int .i64 0] 38);rw [World.size_alloc] at h;exact h)
  rw [←hW0];clear hW0 HA0;have HRB:Hid (W0.heap[w.heap.size]? = some (.cells #[.int .i64 T,.int .i64 R,.int .i64 K,.string key,.string val,.int .i64 N] 38 (0,0))∧W0.heap[w.heap.size+1]? = some (.cells #[.int .i64 0,.int .i64 0,.int .i64 0,.string ⟨#[]⟩,.string ⟨#[]⟩,.int .i64 0] 38 (0,0))∧w.heap.size+1<W0.heap.size):=hid (HRB0.out);have HX:=hid (And.intro hs0 (And.intro ha0 (And.intro hz0 (And.intro hf0 (And.intro hg0 hb0)))));obtain ⟨c0,c1,c2,c3,c4,c5⟩:=ha0;clear hs0 hz0 hf0 hg0 hb0;have HBD:Hid (Below W0.heap.size W0 W0.drew):=hid ((Below.refl _ _).drew);have HSW:Hid (w.heap.size<W0.heap.size):=hid (by have:=HX.out.1;omega);go_region_held3 (fun w'=>w'.cell? ⟨w.heap.size,2,none⟩=some (.int .i64 K)) (first | exact c2 | exact k4) (first | (go_at_call 219;((with_reducible refine (G7 K (s.extract k s.size) W0.drew HSZ.out).mono ?_);rintro r w4 ⟨rfl,hb4⟩;rw [HV.out];have HB4:Hid (Below W0.heap.size W0 w4):=hid (HBD.out.trans (hb4.mono HBD.out.size));have k4:w4.cell? ⟨w.heap.size,2,none⟩=some (.int .i64 K):=(HB4.out.cell HSW.out).trans c2;clear hb4)))
  obtain ⟨hs0,ha0,hz0,hf0,hg0,hb0⟩:=HX.out;have ha4:=ha0.below HB4.out HSW.out;have hz4:=hz0.below HB4.out (by omega);have hf4:=hf0.below HB4.out HSW.out;have hg4:=hg0.below HB4.out (by omega);have HBW:Hid (Below w.heap.size w w4):=hid (hb0.trans (HB4.out.mono (by omega)));have HL4:Hid (w.heap.size+1<w4.heap.size):=hid (by have:=HB4.out.size;omega);clear c0 c1 c2 c3 c4 c5 k4 hs0 ha0 hz0 hf0 hg0 hb0;by_cases h2:e=0
  ·subst h2;rw [show errV 0=Value.nilIface from rfl];have rB:w4.heap[w.heap.size]? = some (.cells #[.int .i64 T,.int .i64 R,.int .i64 K,.string key,.string val,.int .i64 N] 38 (0,0)):=(HB4.out.block _ HSW.out).trans HRB.out.1;have rZ:w4.heap[w.heap.size+1]? = some (.cells #[.int .i64 0,.int .i64 0,.int .i64 0,.string ⟨#[]⟩,.string ⟨#[]⟩,.int .i64 0] 38 (0,0)):=(HB4.out.block _ HRB.out.2.2).trans HRB.out.2.1
   have rB5:((w4.setCell ⟨w.heap.size,5,none⟩ (.int .i64 n)).setCell ⟨w.heap.size,4,none⟩ (.string ⟨v.toArray⟩)).heap[w.heap.size]? = some (.cells #[.int .i64 T,.int .i64 R,.int .i64 K,.string key,.string ⟨v.toArray⟩,.int .i64 n] 38 (0,0)) :=
    heap_setCell_same _ _ 4 _ _ _ (heap_setCell_same _ _ 5 _ _ _ rB)
   have rZ5:((w4.setCell ⟨w.heap.size,5,none⟩ (.int .i64 n)).setCell ⟨w.heap.size,4,none⟩ (.string ⟨v.toArray⟩)).heap[w.heap.size+1]? = some (.cells #[.int .i64 0,.int .i64 0,.int .i64 0,.string ⟨#[]⟩,.string ⟨#[]⟩,.int .i64 0] 38 (0,0)):=by
    rw [heap_setCell_other _ _ _ _ (by show w.heap.size+1≠w.heap.size;omega),heap_setCell_other _ _ _ _ (by show w.heap.size+1≠w.heap.size;omega)];exact rZ
   have HR5:=hid rB5;have HZ5:=hid rZ5;have HI:=hid (eR (.int .i64 T) (.int .i64 R) (.int .i64 K) (.string key) (.string ⟨v.toArray⟩) (.int .i64 n));have c4:w4.cell? ⟨w.heap.size,4,none⟩=some (.string val):=cell_of_row _ _ 4 _ _ _ rB;have c5:w4.cell? ⟨w.heap.size,5,none⟩=some (.int .i64 N):=cell_of_row _ _ 5 _ _ _ rB;obtain ⟨_,_,_,_,f4,f5⟩:=hf4;clear ha4 hz4 hg4 rB rZ rB5 rZ5;have HBS:Hid (Below w.heap.size w ((w4.setCell ⟨w.heap.size,5,none⟩ (.int .i64 n)).setCell ⟨w.heap.size,4,none⟩ (.string ⟨v.toArray⟩))):=hid ((HBW.out.setCell (p:=⟨w.heap.size,5,none⟩) (Nat.le_refl _) _).setCell (p:=⟨w.heap.size,4,none⟩) (Nat.le_refl _) _);have HLS:Hid (w.heap.size+1<((w4.setCell ⟨w.heap.size,5,none⟩ (.int .i64 n)).setCell ⟨w.heap.size,4,none⟩ (.string ⟨v.toArray⟩)).heap.size):=hid (by show _<_;have:=HL4.out;simpa [World.setCell] using this);go_wp2_with (with_reducible refine wpList_load_row rfl _ _ rfl _ rfl _ _ _ _ HR5.out Tryz.underlying38 rfl HI.out ?_)
   have hvl:(⟨v.toArray⟩:ByteArray).size≤140737488351232:=by rw [cq];exact HVL.out.1
   refine (gy T R K key ⟨v.toArray⟩ n _ hk hvl).mono ?_;rintro r w5 ⟨rfl,hb5⟩;obtain ⟨E,hE⟩:∃ E,wriE T R K key ⟨v.toArray⟩ n=E:=⟨_,rfl⟩;rw [hE];have rB6:=(hb5.block _ (Nat.lt_of_succ_lt HLS.out)).trans HR5.out;have rZ6:=(hb5.block _ HLS.out).trans HZ5.out;have HB6:Hid (Below w.heap.size w w5):=hid (HBS.out.trans (hb5.mono HBS.out.size));have HL6:Hid (w.heap.size+1<w5.heap.size):=hid (Nat.lt_of_lt_of_le HLS.out hb5.size);have HRB6:=hid rB6;have HRZ6:=hid rZ6;have HE6:=hid hE;clear hb5 rB6 rZ6 c4 c5 f4 f5 hE HR5 HZ5 HBS HLS;by_cases h3:E=0
   ·subst h3;rw [show errV 0=Value.nilIface from rfl];obtain ⟨_,_,_,c3,_,_⟩:=bZ HRB6.out;go_wp2_with fail
    refine (qz key w5 (by omega)).mono ?_;rintro r w6 ⟨rfl,hb6⟩;have rB7:=(hb6.block _ (Nat.lt_of_succ_lt HL6.out)).trans HRB6.out;have rZ7:=(hb6.block _ HL6.out).trans HRZ6.out;have HB7:Hid (Below w.heap.size w w6):=hid (HB6.out.trans (hb6.mono HB6.out.size));obtain ⟨_,_,_,c3,_,_⟩:=bZ rB7;obtain ⟨_,_,_,f3,_,_⟩:=gM rB7;have HRB8:Hid ((w6.setCell ⟨w.heap.size,3,none⟩ (.string key)).heap[w.heap.size]? = some (.cells #[.int .i64 T,.int .i64 R,.int .i64 K,.string key,.string ⟨v.toArray⟩,.int .i64 n] 38 (0,0))):=hid (heap_setCell_same _ _ 3 _ _ _ rB7);have HRZ8:Hid ((w6.setCell ⟨w.heap.size,3,none⟩ (.string key)).heap[w.heap.size+1]? = some (.cells #[.int .i64 0,.int .i64 0,.int .i64 0,.string ⟨#[]⟩,.string ⟨#[]⟩,.int .i64 0] 38 (0,0))):=hid (by
     show _=_
     rw [heap_setCell_other _ _ _ _ (by show w.heap.size+1≠w.heap.size;omega)];exact rZ7)
    have HRZ9:=hid (cA HRZ8.out #[.int .i64 T,.int .i64 R,.int .i64 K,.string key,.string ⟨v.toArray⟩,.int .i64 n]);have HONE:=hid (eQ T R K key ⟨v.toArray⟩ n);have HSAME:=hid (fj T R K key ⟨v.toArray⟩ n);have hj1:j≤140737488351232:=HVL.out.2;have hk1:k≤10:=HKL.out.2;have HOUT:=hid (zg (ev:=errV) (R:=R) HN.out HV2.out HE6.out);clear hb6 rB7 rZ7 HRB6 HRZ6;go_wp2_with (first
     | (with_reducible refine wpList_load_row rfl _ _ rfl _ rfl _ _ _ _ HRB8.out Tryz.underlying38 rfl HI.out ?_)
     | (with_reducible refine wpList_store_row rfl _ _ _ rfl _ _ rfl rfl _ _ HRZ8.out HI.out HSAME.out HONE.out ?_))
    obtain ⟨c0,c1,c2,c3,c4,c5⟩:=bZ HRZ9.out;refine bodyPost_ret (v:=.tuple #[.agg #[.int .i64 T,.int .i64 R,.int .i64 K,.string key,.string ⟨v.toArray⟩,.int .i64 n],.int .i64 ((k:Int)+j),.nilIface]) (by simp [results,Tryz.results200,go_sem,c0,c1,c2,c3,c4,c5]) rfl ?_;exact ⟨⟨_,rfl,HOUT.out⟩,dQ (HB7.out.setCell (p:=⟨w.heap.size,3,none⟩) (Nat.le_refl _) _) (Nat.le_succ _) _⟩
   ·have HR:=hid (n4 (ev:=errV) (T:=T) (R:=R) (key:=key) ((kB (T:=T) (R:=R) (key:=key) HN.out HV2.out).trans HE6.out) h3);have HE:=hid (dS h3);rw [dS h3];obtain ⟨c0,c1,c2,c3,c4,c5⟩:=bZ HRZ6.out;obtain ⟨f0,f1,f2,f3,f4,f5⟩:=gM HRZ6.out;go_wp2;refine bodyPost_ret (v:=.tuple #[fM,.int .i64 0,.iface 68 (.int .i64 E)]) (by simp [results,Tryz.results200,go_sem,fM,c0,c1,c2,c3,c4,c5]) rfl ?_;exact ⟨⟨_,rfl,by rw [←HE.out];exact HR.out⟩,iB HB6.out (Nat.le_succ _) _ _ _ _ _ _⟩
  ·have HR:=hid (n4 (ev:=errV) (T:=T) (R:=R) (key:=key) (qQ HN.out HV2.out h2) h2);have HE:=hid (dS h2);rw [dS h2];obtain ⟨c0,c1,c2,c3,c4,c5⟩:=hz4;obtain ⟨f0,f1,f2,f3,f4,f5⟩:=hg4;clear ha4 hf4;go_wp2;refine bodyPost_ret (v:=.tuple #[fM,.int .i64 0,.iface 68 (.int .i64 e)]) (by simp [results,Tryz.results200,go_sem,fM,c0,c1,c2,c3,c4,c5]) rfl ?_;exact ⟨⟨_,rfl,by rw [←HE.out];exact HR.out⟩,iB HBW.out (Nat.le_succ _) _ _ _ _ _ _⟩
 ·rw [dS he];have HR:=hid (n4 (ev:=errV) (T:=T) (R:=R) (key:=key) (qP HN.out he) he);have HE:=hid (dS he);go_wp2;refine bodyPost_ret (v:=.tuple #[fM,.int .i64 0,.iface 68 (.int .i64 e)]) (by simp [results,Tryz.results200,go_sem,fM]) rfl ?_;exact ⟨⟨_,rfl,by rw [←HE.out];exact HR.out⟩,((Below.refl _ _).alloc (Nat.le_refl _) _).alloc (by simp) _⟩
end
section
open Go.RowKit
theorem GM (n:Int):zagN (zigN n)=n:=by unfold zigN zagN;split <;> split <;> omega
theorem GN {n:Int} (h0:0≤n):zigN (zagN n)=n:=by unfold zigN zagN;split <;> split <;> omega
theorem pB (l more:List UInt8) (hl:l.length≤2000):getS (bT l++more)=(l,(bT l).length,0):=by
 unfold bT;rw [List.append_assoc,gN (fB _ _ (by omega)) (by omega) (by simp)];simp
theorem jJ {l t:List UInt8} {k:Nat} (h:getS l=(t,k,0)):1≤k∧k≤l.length∧t.length≤2000∧bT t=l.take k:=by
 rcases dC l with ⟨e,hg,he⟩ | ⟨n,j,hg,hn,hk1,hk2,hk3⟩
 ·rw [iQ hg he] at h;simp only [Prod.mk.injEq] at h;omega
 ·by_cases h2:2000<n
  ·rw [iR hg h2] at h;simp at h
  ·by_cases h3:l.length<j+n
   ·rw [iS hg h2 h3] at h;simp at h
   ·rw [gN hg h2 h3] at h;simp only [Prod.mk.injEq] at h
    obtain ⟨rfl,rfl,_⟩:=h;obtain ⟨_,_,hp⟩:=gb hg;have hl:((l.drop j).take n).length=n:=by simp;omega
    refine ⟨by omega,by omega,by omega,?_⟩;unfold bT;rw [hl,hp,←List.take_add]
theorem xt {T R K:Int} {key val:ByteArray} {N:Int} (h:wriE T R K key val N=0) (x:List UInt8):getN K ((numB K N).data.toList++x)=(N,(numB K N).size,0):=by
 obtain ⟨g1,g2,g3,g4,g5,g6⟩:=fL h;unfold numB getN;unfold ci at g6;by_cases h3:K=3
 ·subst h3;rw [if_pos rfl] at g6 ⊢;rw [if_pos rfl];simp only [Bool.and_eq_true,decide_eq_true_eq] at g6
  have hz:=pC g6.1 g6.2;rw [iD,cq,fB _ _ (by omega)];simp only
  rw [Int.toNat_of_nonneg hz.1,GM]
 ·rw [if_neg h3] at g6;rw [if_neg h3,if_neg h3];by_cases h4:K=4
  ·subst h4;rw [if_pos rfl] at g6;rw [if_pos rfl,if_pos rfl];simp only [Bool.and_eq_true,decide_eq_true_eq] at g6
   rw [iD,cq,fE (fB _ _ (by omega)) (by omega)];simp only
   rw [Int.toNat_of_nonneg g6.1]
  ·rw [if_neg h4,if_neg h4];have hn:N=0:=by
    by_cases hN:N=0
    ·exact hN
    ·exact absurd (.inr ⟨hN,by unfold hasN;rw [decide_eq_false h3,decide_eq_false h4];rfl⟩) g5
   rw [hn];rfl
theorem xu {T R K:Int} {key val:ByteArray} {N:Int} (h:wriE T R K key val N=0) (x:List UInt8):getV K ((valB K val).data.toList++x)=(val.data.toList,(valB K val).size,0):=by
 obtain ⟨g1,g2,g3,g4,g5,g6⟩:=fL h;unfold valB getV;cases hV:hasV K with
 | true =>
  rw [if_pos rfl,if_pos rfl,lR,pB _ _ (by rw [←aj];omega),lS];unfold bT;rw [List.length_append,←aj]
 | false =>
  rw [if_neg (by decide),if_neg (by decide)];have hz:¬ 0<val.size:=fun hz=>g5 (.inl ⟨hz,hV⟩)
  rw [iJ hz];rfl
theorem xr (K:Int) (val:ByteArray) (N:Int) (x:List UInt8):((bc K val N).data.toList++x).drop (numB K N).size=(valB K val).data.toList++x:=by
 unfold bc;rw [gG,List.append_assoc,aj,List.drop_left]
theorem pU (K:Int) (val:ByteArray) (N:Int):(bc K val N).size=(numB K N).size+(valB K val).size:=by unfold bc;rw [pR]
theorem Ce {K:Int} {l:List UInt8} {n:Int} {k:Nat} (h:getN K l=(n,k,0)):(numB K n).data.toList=l.take k∧k≤l.length:=by
 unfold getN at h;unfold numB;by_cases h3:K=3
 ·rw [if_pos h3] at h ⊢;obtain ⟨m,j,e,hg⟩:∃ m j e,getL l=(m,j,e):=⟨_,_,_,rfl⟩;rw [hg] at h;simp only [Prod.mk.injEq] at h
  obtain ⟨rfl,rfl,rfl⟩:=h;have:=gb hg;rw [iD,GN (by omega),Int.toNat_natCast];exact ⟨this.2.2,this.2.1⟩
 ·rw [if_neg h3] at h ⊢;by_cases h4:K=4
  ·rw [if_pos h4] at h ⊢;rcases dC l with ⟨e,hg,he⟩ | ⟨m,j,hg,_⟩
   ·rw [iY hg he] at h;simp only [Prod.mk.injEq] at h
    exact absurd h.2.2 he
   ·by_cases hm:(1000:Int)<0∨(1000:Int)<m
    ·rw [gT hg hm] at h;simp at h
    ·rw [fE hg hm] at h;simp only [Prod.mk.injEq] at h
     obtain ⟨rfl,rfl,_⟩:=h;have:=gb hg;rw [iD,Int.toNat_natCast];exact ⟨this.2.2,this.2.1⟩
  ·rw [if_neg h4] at h ⊢;simp only [Prod.mk.injEq] at h
   obtain ⟨_,rfl,_⟩:=h;exact ⟨by rw [List.take_zero],Nat.zero_le _⟩
theorem Cg {K:Int} {l v:List UInt8} {j:Nat} (h:getV K l=(v,j,0)):(valB K ⟨v.toArray⟩).data.toList=l.take j∧j≤l.length:=by
 unfold getV at h;unfold valB;cases hV:hasV K with
 | true =>
  rw [hV,if_pos rfl] at h;rw [if_pos rfl,lR,iD];have:=jJ h;exact ⟨this.2.2.2,this.2.1⟩
 | false =>
  rw [hV,if_neg (by decide)] at h;rw [if_neg (by decide)];simp only [Prod.mk.injEq] at h
  obtain ⟨_,rfl,_⟩:=h;exact ⟨by rw [List.take_zero],Nat.zero_le _⟩
theorem Cf {K:Int} {l v:List UInt8} {n:Int} {k j:Nat} (h:getN K l=(n,k,0)) (h2:getV K (l.drop k)=(v,j,0)):(bc K ⟨v.toArray⟩ n).data.toList=l.take (k+j)∧k+j≤l.length:=by
 obtain ⟨a1,a2⟩:=Ce h;obtain ⟨b1,b2⟩:=Cg h2;rw [List.length_drop] at b2;unfold bc;rw [gG,a1,b1];refine ⟨?_,by omega⟩;rw [List.take_add]
end
