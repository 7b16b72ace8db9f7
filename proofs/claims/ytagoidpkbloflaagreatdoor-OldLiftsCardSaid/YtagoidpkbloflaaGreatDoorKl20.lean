import Derived.Test.YtagoidpkbloflaaGreatDoorKlq
import Derived.Test.YtagoidpkbloflaaGreatDoorKl19
namespace Go.Proofs.YtagoidpkbloflaaGreatDoor
open Lib (hid)
set_option maxRecDepth 100000
set_option maxHeartbeats 8000000
section
open Go.RowKit
theorem wF (x y:Value) (w:World):(Instr.index 225 (.agg #[x,y]) (.int .i64 0)).run Tryz.prog w=.ok x w:=by kernel_rfl
theorem wG (x y:Value) (w:World):(Instr.index 225 (.agg #[x,y]) (.int .i64 1)).run Tryz.prog w=.ok y w:=by kernel_rfl
theorem tM (va vb:Value) (a b:List Ent) (x:Bool) (w:World) (ha:ae w va a) (hb:ae w vb b) (hla:a.length≤9223372036854775807) (hlb:b.length≤9223372036854775807) (hx:covB a b=x) :
 Calls Tryz.prog 167 #[va,vb] w fun r w'=>r=.returned (.bool x)∧Below w.heap.size w w':=by
 subst hx;exact C7 va vb a b w ha hb hla hlb
theorem tK (vf vh vw:Value) (f h:List Ent) (l:List Wr) (w:World) (hf:ae w vf f) (hh:ae w vh h) (hv:bj w vw l) (hlf:f.length≤9223372036854775807) (hlh:h.length≤9223372036854775807) (hg:errT w) :
 Calls Tryz.prog 123 #[.agg #[vf,vh,vw]] w fun r w'=>r=.returned (errV (bbE f h))∧Below w.heap.size w w':=by
 have HF:=hid hf;have HH:=hid hh;have HG:=hid hg;have HLF:=hid hlf;have HLH:=hid hlh;obtain ⟨af,cf,rfl,_⟩:=hf.form;obtain ⟨ah,ch,rfl,_⟩:=hh.form;obtain ⟨aw,cw,rfl,_⟩:=hv.form;obtain ⟨nf,hnf⟩:∃ n,n=f.length:=⟨_,rfl⟩;obtain ⟨nh,hnh⟩:∃ n,n=h.length:=⟨_,rfl⟩;obtain ⟨n,hn⟩:∃ n,n=l.length:=⟨_,rfl⟩;rw [←hnf] at HF ⊢;rw [←hnh] at HH ⊢;rw [←hn];have HA:=hid (cy w (.slice af nf cf) (.slice ah nh ch) (.slice aw n cw) 25);have HW0:Hid (Below w.heap.size w (w.alloc (.cells #[.slice af nf cf,.slice ah nh ch,.slice aw n cw] 25))):=hid ((Below.refl _ _).alloc (Db _) _);have HZ:Hid (w.heap.size<(w.alloc (.cells #[.slice af nf cf,.slice ah nh ch,.slice aw n cw] 25)).heap.size):=hid (by simp);have i0:=wF;have i1:=wG;clear hf hh hv hg hlf hlh hnf hnh hn;go_enter Tryz.func123,Tryz.ntmps123
 go_wp2;generalize w.alloc (.cells #[.slice af nf cf,.slice ah nh ch,.slice aw n cw] 25)=W at HA HW0 HZ ⊢;have HE:Hid (∀ w',Below W.heap.size W w'→Below w.heap.size w w'):=hid (fun w' hx=>HW0.out.trans (hx.mono HW0.out.size))
 go_loopw [11] (fun i wr=>∃ k:Nat,k≤2∧i=.int .i64 k∧(k=0∨(k=1∧(au f).1=0)∨(k=2∧(au f).1=0∧(au h).1=0))∧Below W.heap.size W wr) (fun i _=>2-(intOf i).toNat)
 case atStart=>exact ⟨0,by omega,rfl,.inl rfl,Below.refl _ _⟩
 case round =>
  obtain ⟨k,hk,rfl,hj,hbel⟩:=hrel;have HB:=hid hbel;clear hbel;rcases hj with rfl | ⟨rfl,h1⟩ | ⟨rfl,h1,h2⟩
  ·by_cases h1:(au f).1=0
   ·have H1:=hid h1;clear h1;go_wp2_with fail
    refine (de _ f _ (HF.out.below (HE.out _ HB.out)) HLF.out).mono ?_;rintro r w1 ⟨err,rfl,hat,hb1⟩;obtain rfl:=hat.nil H1.out;have HB1:Hid (Below W.heap.size W w1):=HB.out.trans (hb1.mono HB.out.size);clear hat hb1;go_wp2;go_roundw
    case rel=>exact ⟨1,by omega,by go_num,.inr (.inl ⟨rfl,H1.out⟩),HB1.out⟩
    case measure=>simp [intOf]
   ·have H1:=hid h1;have HR:Hid (bbE f h=(au f).1):=hid (by unfold bbE;rw [if_pos h1]);have HQ:=hid (jw h1);clear h1;go_wp2_with fail
    refine (de _ f _ (HF.out.below (HE.out _ HB.out)) HLF.out).mono ?_;rintro r w1 ⟨err,rfl,hat,hb1⟩;have HER:=hid (hat.isErr H1.out);obtain ⟨t,u,rfl⟩:=hat.iface H1.out;have HB1:Hid (Below W.heap.size W w1):=HB.out.trans (hb1.mono HB.out.size);clear hat hb1;go_wp2_with fail
    refine (e7 _ _ _ (HG.out.below (HE.out _ HB1.out)) HER.out).mono ?_;rintro r w2 ⟨rfl,hb2⟩;have HB2:Hid (Below W.heap.size W w2):=HB1.out.trans (hb2.mono HB1.out.size);clear hb2;go_wp2;go_ret;exact ⟨by rw [HR.out,HQ.out];rfl,HE.out _ HB2.out⟩
  ·by_cases h2:(au h).1=0
   ·have H2:=hid h2;have H1:=hid h1;clear h2 h1;go_wp2_with fail
    refine (de _ h _ (HH.out.below (HE.out _ HB.out)) HLH.out).mono ?_;rintro r w1 ⟨err,rfl,hat,hb1⟩;obtain rfl:=hat.nil H2.out;have HB1:Hid (Below W.heap.size W w1):=HB.out.trans (hb1.mono HB.out.size);clear hat hb1;go_wp2;go_roundw
    case rel=>exact ⟨2,by omega,by go_num,.inr (.inr ⟨rfl,H1.out,H2.out⟩),HB1.out⟩
    case measure=>simp [intOf]
   ·have H2:=hid h2;have HR:Hid (bbE f h=(au h).1):=hid (by unfold bbE;rw [if_neg (by simpa using h1),if_pos h2]);have HQ:=hid (jw h2);clear h2 h1;go_wp2_with fail
    refine (de _ h _ (HH.out.below (HE.out _ HB.out)) HLH.out).mono ?_;rintro r w1 ⟨err,rfl,hat,hb1⟩;have HER:=hid (hat.isErr H2.out);obtain ⟨t,u,rfl⟩:=hat.iface H2.out;have HB1:Hid (Below W.heap.size W w1):=HB.out.trans (hb1.mono HB.out.size);clear hat hb1;go_wp2_with fail
    refine (e7 _ _ _ (HG.out.below (HE.out _ HB1.out)) HER.out).mono ?_;rintro r w2 ⟨rfl,hb2⟩;have HB2:Hid (Below W.heap.size W w2):=HB1.out.trans (hb2.mono HB1.out.size);clear hb2;go_wp2;go_ret;exact ⟨by rw [HR.out,HQ.out];rfl,HE.out _ HB2.out⟩
  ·obtain ⟨c,hc⟩:∃ c,covB h f=c:=⟨_,rfl⟩;have HC:=hid hc;have HR:Hid (bbE f h=if c=false then 13 else 0):=hid (by unfold bbE;rw [if_neg (by simpa using h1),if_neg (by simpa using h2),hc]);obtain ⟨d0,d1,d2⟩:=HA.out.below HB.out HZ.out;clear h1 h2 hc;go_wp2_with fail
   refine (tM _ _ h f c _ (HH.out.below (HE.out _ HB.out)) (HF.out.below (HE.out _ HB.out)) HLH.out HLF.out HC.out).mono ?_;rintro r w1 ⟨rfl,hb1⟩;have HB1:Hid (Below W.heap.size W w1):=HB.out.trans (hb1.mono HB.out.size);clear hb1 d0 d1 d2;cases c with
   | true =>
    go_wp2;go_ret;exact ⟨by rw [HR.out];rfl,HE.out _ HB1.out⟩
   | false =>
    go_wp2;go_ret;exact ⟨by rw [HR.out];rfl,HE.out _ HB1.out⟩
theorem tL (vf vh vw:Value) (f h:List Ent) (l:List Wr) (e:Nat) (w:World) (hf:ae w vf f) (hh:ae w vh h) (hv:bj w vw l) (hlf:f.length≤9223372036854775807) (hlh:h.length≤9223372036854775807) (hg:errT w) (he:bbE f h=e) :
 Calls Tryz.prog 123 #[.agg #[vf,vh,vw]] w fun r w'=>r=.returned (errV e)∧Below w.heap.size w w':=by
 subst he;exact tK vf vh vw f h l w hf hh hv hlf hlh hg
theorem um (vf vh vw:Value) (f h:List Ent) (l:List Wr) (w:World) (hf:ae w vf f) (hh:ae w vh h) (hv:bj w vw l) (hlf:f.length≤9223372036854775807) (hlh:h.length≤9223372036854775807) (hok:∀ t∈l,WrOk t) (hg:errT w) :
 Calls Tryz.prog 82 #[.agg #[vf,vh,vw]] w (gJ w (batF f h l)):=by
 have HF:=hid hf;have HH:=hid hh;have HV:=hid hv;have HG:=hid hg;have HLF:=hid hlf;have HLH:=hid hlh;have HOK:=hid hok;obtain ⟨af,cf,rfl,_⟩:=hf.form;obtain ⟨ah,ch,rfl,_⟩:=hh.form;obtain ⟨aw,cw,rfl,_⟩:=hv.form;obtain ⟨nf,hnf⟩:∃ n,n=f.length:=⟨_,rfl⟩;obtain ⟨nh,hnh⟩:∃ n,n=h.length:=⟨_,rfl⟩;obtain ⟨n,hn⟩:∃ n,n=l.length:=⟨_,rfl⟩;rw [←hnf] at HF ⊢;rw [←hnh] at HH ⊢;rw [←hn] at HV ⊢;have HN:=hid hn;have HA:=hid (cy w (.slice af nf cf) (.slice ah nh ch) (.slice aw n cw) 25);have HW0:Hid (Below w.heap.size w (w.alloc (.cells #[.slice af nf cf,.slice ah nh ch,.slice aw n cw] 25))):=hid ((Below.refl _ _).alloc (Db _) _);have HZ:Hid (w.heap.size<(w.alloc (.cells #[.slice af nf cf,.slice ah nh ch,.slice aw n cw] 25)).heap.size):=hid (by simp);obtain ⟨eb,heb⟩:∃ e,bbE f h=e:=⟨_,rfl⟩;have HEB:=hid heb;clear hf hh hv hg hlf hlh hnf hnh hn hok heb;go_enter Tryz.func82,Tryz.ntmps82
 go_wp2_with fail
 generalize w.alloc (.cells #[.slice af nf cf,.slice ah nh ch,.slice aw n cw] 25)=W at HA HW0 HZ ⊢;have HE:Hid (∀ w',Below W.heap.size W w'→Below w.heap.size w w'):=hid (fun w' hx=>HW0.out.trans (hx.mono HW0.out.size));refine (tL _ _ _ f h l eb _ (HF.out.below HW0.out) (HH.out.below HW0.out) (HV.out.below HW0.out) HLF.out HLH.out (HG.out.below HW0.out) HEB.out).mono ?_;rintro r w1 ⟨rfl,hb1⟩;have HB1:Hid (Below W.heap.size W w1):=hid hb1;clear hb1;by_cases h0:eb=0
 ·subst h0;rw [pm];obtain ⟨d0,d1,d2⟩:=HA.out.below HB1.out HZ.out;by_cases h6:60<n
  ·have HR:=hid (lE HEB.out (show 60<l.length by rw [←HN.out];exact h6));have h6':(60:Int)<(n:Int):=by omega
   go_wp2;go_ret;rw [HR.out];exact ⟨_,rfl,.inr ⟨by decide,rfl,rfl⟩,HE.out _ HB1.out⟩
  ·have HR:=hid (lF (ws:=l) HEB.out (show ¬ 60<l.length by rw [←HN.out];exact h6));have h6':¬ (60:Int)<(n:Int):=by omega
   have hn6:n≤60:=by omega
   clear h6;go_wp2;clear d0 d1 d2
   go_loopw [19] (fun i wr=>∃ (k:Nat) (p:Option Wr),k≤n∧i=.int .i64 k∧((k=0∧p=none)∨∃ j q,k=j+1∧l[j]? = some q∧p=some q)∧bwr f h l 0 none=bwr f h (l.drop k) k p∧Below W.heap.size W wr) (fun i _=>n-(intOf i).toNat)
   case atStart=>exact ⟨0,none,by omega,rfl,.inl ⟨rfl,rfl⟩,rfl,HB1.out⟩
   case round =>
    obtain ⟨k,p,hk,rfl,hla,heq,hbel⟩:=hrel;have HEQ:=hid heq;have HLA:=hid hla;have HB:=hid hbel;clear heq hbel hla;by_cases hlt:k<n
    ·have hkl:k<l.length:=by have:=HN.out;omega
     obtain ⟨t,ht⟩:∃ t,l[k]? = some t:=⟨l[k],Di hkl⟩;have hd:l.drop k=t::l.drop (k+1):=by
      rw [DA hkl];congr 1;rw [Di hkl] at ht;exact Dr ht
     have HD:=hid hd;have HT:=hid ht;obtain ⟨e,he⟩:∃ e,bwE f h p t=e:=⟨_,rfl⟩;have HEE:=hid he;obtain ⟨d0,d1,d2⟩:=HA.out.below HB.out HZ.out;clear ht hkl hd he;go_wp2_with fail
     refine (uv _ _ _ f h l k t p e _ (HF.out.below (HE.out _ HB.out)) (HH.out.below (HE.out _ HB.out)) (HV.out.below (HE.out _ HB.out)) HLF.out HLH.out (by have:=HN.out;omega) HT.out HLA.out HOK.out (HG.out.below (HE.out _ HB.out)) HEE.out).mono ?_;rintro r w2 ⟨rfl,hb2⟩;have HB2:Hid (Below W.heap.size W w2):=HB.out.trans (hb2.mono HB.out.size);clear hb2 d0 d1 d2;by_cases hz:e=0
     ·subst hz;have HN2:Hid (bwr f h l 0 none=bwr f h (l.drop (k+1)) (k+1) (some t)):=hid (show bwr f h l 0 none=bwr f h (l.drop (k+1)) (k+1) (some t) by rw [HEQ.out,HD.out,gQ HEE.out]);go_wp2;go_roundw
      case rel=>exact ⟨k+1,some t,by omega,by go_num,.inr ⟨k,t,rfl,HT.out,rfl⟩,HN2.out,HB2.out⟩
      case measure=>simp [intOf];omega
     ·have HN2:Hid (bwr f h l 0 none=(e,(k:Int))):=hid (show bwr f h l 0 none=(e,(k:Int)) by rw [HEQ.out,HD.out,fs HEE.out hz]);have hne:((e:Int) != 0)=true:=by simp;omega
      have H0:=hid hz;have hz2:=HB2.out.size;clear hz;go_wp2;go_ret;rw [HR.out,HN2.out];exact ⟨_,rfl,.inl (atIs.new w2 e k H0.out),HE.out _ (HB2.out.alloc hz2 _)⟩
    ·have HN2:Hid (bwr f h l 0 none=(0,-1)):=hid (show bwr f h l 0 none=(0,-1) by rw [HEQ.out,DD (by have:=HN.out;omega)];rfl);go_wp2;go_ret;exact ⟨_,rfl,.inl (.inl ⟨HR.out.trans HN2.out,rfl⟩),HE.out _ HB.out⟩
 ·have HR:=hid (gL (ws:=l) HEB.out h0);have H0:=hid h0;rw [jw h0];clear h0;go_wp2;go_ret;rw [HR.out];exact ⟨_,rfl,.inr ⟨H0.out,rfl,rfl⟩,HE.out _ HB1.out⟩
end
section
open Go.RowKit
def ay (l:List Wr):List ByteArray:=l.map (·.key)
def dZ (x:Wr):List UInt8:=(b7 x.kind x.value x.n).data.toList
def aW (h:List Ent) (r:Int):Nat:=h.findIdx (fun e=>decide (e.rep=r))
def bC (T:List ByteArray):List UInt8:=T.flatMap fun k=>cT k.data.toList
def oneB (h:List Ent) (ahead:Int) (x:Wr) (n:Nat):List UInt8 :=
 [UInt8.ofNat x.kind.toNat]++putL (x.time-ahead).toNat++putL (aW h x.rep)++putL n++dZ x
def rowB (h:List Ent):Int→List Wr→List Nat→List UInt8
 | _,[],_=>[]
 | _,_::_,[]=>[]
 | ahead,x::r,n::N=>oneB h ahead x n++rowB h x.time r N
def cB (f h:List Ent) (l:List Wr):List UInt8 :=
 aC f++aC h++putL (tabK [] (ay l)).length++bC (tabK [] (ay l))++putL l.length++rowB h 0 l (atK [] (ay l))
def aP (f h:List Ent) (l:List Wr):List UInt8×Nat×Int :=
 if (batF f h l).1≠0 then ([],batF f h l) else if 20000<(cB f h l).length then ([],4,-1) else (cB f h l,0,-1)
theorem gO {f h:List Ent} {l:List Wr} (h0:(batF f h l).1≠0):aP f h l=([],batF f h l):=by unfold aP;rw [if_pos h0]
theorem fZ {f h:List Ent} {l:List Wr} (h0:(batF f h l).1=0) (h1:20000<(cB f h l).length):aP f h l=([],4,-1):=by unfold aP;rw [if_neg (by simpa using h0),if_pos h1]
theorem fq {f h:List Ent} {l:List Wr} (h0:(batF f h l).1=0) (h1:¬ 20000<(cB f h l).length):aP f h l=(cB f h l,0,-1):=by unfold aP;rw [if_neg (by simpa using h0),if_neg h1]
theorem nd (k:ByteArray) (T:List ByteArray):bC (k::T)=cT k.data.toList++bC T:=by simp [bC]
theorem r7 (h:List Ent) (ahead:Int) (x:Wr) (r:List Wr) (n:Nat) (N:List Nat):rowB h ahead (x::r) (n::N)=oneB h ahead x n++rowB h x.time r N:=rfl
def aq:List UInt8→Nat×Nat×Nat
 | []=>(0,0,7)
 | c::_=>if c.toNat<1∨4<c.toNat then (0,0,1) else (c.toNat,1,0)
def unT (s:List UInt8):Nat→Nat→List ByteArray→(Nat×Nat) ⊕ (Nat×List ByteArray)
 | 0,a,T=>.inr (a,T)
 | k+1,a,T=>if (getS (s.drop a)).2.2≠0 then .inl ((getS (s.drop a)).2.2,a) else unT s k (a+(getS (s.drop a)).2.1) (T++[⟨(getS (s.drop a)).1.toArray⟩])
theorem iP {s t:List UInt8} {k a n e:Nat} {T:List ByteArray} (h:getS (s.drop a)=(t,n,e)) (he:e≠0):unT s (k+1) a T=.inl (e,a):=by unfold unT;rw [h,if_pos he]
theorem iQ {s t:List UInt8} {k a n:Nat} {T:List ByteArray} (h:getS (s.drop a)=(t,n,0)):unT s (k+1) a T=unT s k (a+n) (T++[⟨t.toArray⟩]):=by rw [unT,h,if_neg (by simp)]
def bZ (K:Int) (l:List UInt8):Nat:=(getN K l).2.1+(getV K (l.drop (getN K l).2.1)).2.1
def bP (K:Int) (l:List UInt8):ByteArray:=⟨(getV K (l.drop (getN K l).2.1)).1.toArray⟩
def b8 (s:List UInt8) (h:List Ent) (T:List ByteArray) (a:Nat) (ahead:Int):(Nat×Nat) ⊕ (Nat×Wr×Nat) :=
 match aq (s.drop a) with
 | (K,_,e)=>if e≠0 then .inl (e,a) else
  match intL (s.drop (a+1)) (1099511627776-ahead) with
  | (t,k1,e)=>if e≠0 then .inl (e,a+1) else
   match intL (s.drop (a+1+k1)) ((h.length:Int)-1) with
   | (p,k2,e)=>if e≠0 then .inl (e,a+1+k1) else
    match intL (s.drop (a+1+k1+k2)) ((T.length:Int)-1) with
    | (n,k3,e)=>if e≠0 then .inl (e,a+1+k1+k2) else
     if aB (ahead+t) (h.getD p ⟨0,0⟩).rep K (T.getD n ⟨#[]⟩) (s.drop (a+1+k1+k2+k3))≠0 then .inl (aB (ahead+t) (h.getD p ⟨0,0⟩).rep K (T.getD n ⟨#[]⟩) (s.drop (a+1+k1+k2+k3)),a+1+k1+k2+k3)
     else .inr (a+1+k1+k2+k3+bZ K (s.drop (a+1+k1+k2+k3)),⟨ahead+t,(h.getD p ⟨0,0⟩).rep,K,T.getD n ⟨#[]⟩,bP K (s.drop (a+1+k1+k2+k3)),(getN K (s.drop (a+1+k1+k2+k3))).1⟩,n)
section
variable {s:List UInt8} {h:List Ent} {T:List ByteArray} {a:Nat} {ahead:Int} {K j t k1 p k2 n k3 e:Nat}
theorem kN (h0:aq (s.drop a)=(K,j,e)) (he:e≠0):b8 s h T a ahead=.inl (e,a):=by unfold b8;rw [h0];simp only;rw [if_pos he]
theorem kO (h0:aq (s.drop a)=(K,j,0)) (h1:intL (s.drop (a+1)) (1099511627776-ahead)=(t,k1,e)) (he:e≠0):b8 s h T a ahead=.inl (e,a+1):=by
 unfold b8;rw [h0];simp only;rw [if_neg (by simp),h1];simp only;rw [if_pos he]
theorem nF (h0:aq (s.drop a)=(K,j,0)) (h1:intL (s.drop (a+1)) (1099511627776-ahead)=(t,k1,0)) (h2:intL (s.drop (a+1+k1)) ((h.length:Int)-1)=(p,k2,e)) (he:e≠0):b8 s h T a ahead=.inl (e,a+1+k1):=by
 unfold b8;rw [h0];simp only;rw [if_neg (by simp),h1];simp only;rw [if_neg (by simp),h2];simp only;rw [if_pos he]
theorem nD (h0:aq (s.drop a)=(K,j,0)) (h1:intL (s.drop (a+1)) (1099511627776-ahead)=(t,k1,0)) (h2:intL (s.drop (a+1+k1)) ((h.length:Int)-1)=(p,k2,0))
 (h3:intL (s.drop (a+1+k1+k2)) ((T.length:Int)-1)=(n,k3,e)) (he:e≠0):b8 s h T a ahead=.inl (e,a+1+k1+k2):=by
 unfold b8;rw [h0];simp only;rw [if_neg (by simp),h1];simp only;rw [if_neg (by simp),h2];simp only;rw [if_neg (by simp),h3];simp only;rw [if_pos he]
theorem nC (h0:aq (s.drop a)=(K,j,0)) (h1:intL (s.drop (a+1)) (1099511627776-ahead)=(t,k1,0)) (h2:intL (s.drop (a+1+k1)) ((h.length:Int)-1)=(p,k2,0))
 (h3:intL (s.drop (a+1+k1+k2)) ((T.length:Int)-1)=(n,k3,0)) (h4:aB (ahead+t) (h.getD p ⟨0,0⟩).rep K (T.getD n ⟨#[]⟩) (s.drop (a+1+k1+k2+k3))=e) (he:e≠0):b8 s h T a ahead=.inl (e,a+1+k1+k2+k3):=by
 unfold b8;rw [h0];simp only;rw [if_neg (by simp),h1];simp only;rw [if_neg (by simp),h2];simp only;rw [if_neg (by simp),h3];simp only;rw [if_neg (by simp),if_pos (by rw [h4];exact he),h4]
theorem nE (h0:aq (s.drop a)=(K,j,0)) (h1:intL (s.drop (a+1)) (1099511627776-ahead)=(t,k1,0)) (h2:intL (s.drop (a+1+k1)) ((h.length:Int)-1)=(p,k2,0))
 (h3:intL (s.drop (a+1+k1+k2)) ((T.length:Int)-1)=(n,k3,0)) (h4:aB (ahead+t) (h.getD p ⟨0,0⟩).rep K (T.getD n ⟨#[]⟩) (s.drop (a+1+k1+k2+k3))=0) :
 b8 s h T a ahead=.inr (a+1+k1+k2+k3+bZ K (s.drop (a+1+k1+k2+k3)),⟨ahead+t,(h.getD p ⟨0,0⟩).rep,K,T.getD n ⟨#[]⟩,bP K (s.drop (a+1+k1+k2+k3)),(getN K (s.drop (a+1+k1+k2+k3))).1⟩,n):=by
 unfold b8;rw [h0];simp only;rw [if_neg (by simp),h1];simp only;rw [if_neg (by simp),h2];simp only;rw [if_neg (by simp),h3];simp only;rw [if_neg (by simp),if_neg (by rw [h4];simp)]
end
def unW (s:List UInt8) (h:List Ent) (T:List ByteArray):Nat→Nat→Int→List Wr→List Nat→(Nat×Nat) ⊕ (Nat×List Wr×List Nat)
 | 0,a,_,W,N=>.inr (a,W,N)
 | k+1,a,ahead,W,N=>match b8 s h T a ahead with
  | .inl r=>.inl r
  | .inr (b,x,n)=>unW s h T k b x.time (W++[x]) (N++[n])
theorem nI {s:List UInt8} {h:List Ent} {T:List ByteArray} {k a:Nat} {ahead:Int} {W:List Wr} {N:List Nat} {r:Nat×Nat} (h0:b8 s h T a ahead=.inl r):unW s h T (k+1) a ahead W N=.inl r:=by rw [unW,h0]
theorem nJ {s:List UInt8} {h:List Ent} {T:List ByteArray} {k a b n:Nat} {ahead:Int} {W:List Wr} {N:List Nat} {x:Wr} (h0:b8 s h T a ahead=.inr (b,x,n)):unW s h T (k+1) a ahead W N=unW s h T k b x.time (W++[x]) (N++[n]):=by rw [unW,h0]
def unbF (s:List UInt8):(Nat×Int) ⊕ (List Ent×List Ent×List Wr) :=
 if 20000<s.length then .inl (4,-1) else
 match aj s with
 | (e,n,f)=>if e≠0 then .inl (e,0) else
  match aj (s.drop n) with
  | (e,m,h)=>if e≠0 then .inl (e,(n:Int)) else
   match intL (s.drop (n+m)) 60 with
   | (k,j,e)=>if e≠0 then .inl (e,((n+m:Nat):Int)) else
    match unT s k (n+m+j) [] with
    | .inl (e,p)=>.inl (e,(p:Int))
    | .inr (b,T)=>match intL (s.drop b) 60 with
     | (k2,j2,e)=>if e≠0 then .inl (e,(b:Int)) else
      match unW s h T k2 (b+j2) 0 [] [] with
      | .inl (e,p)=>.inl (e,(p:Int))
      | .inr (c,W,N)=>if c<s.length then .inl (3,(c:Int))
       else if (aT T (N.map Int.ofNat)).2.1≠0 then .inl ((aT T (N.map Int.ofNat)).2.1,(s.length:Int))
       else if (batF f h W).1≠0 then .inl ((batF f h W).1,(s.length:Int))
       else .inr (f,h,W)
section
variable {s:List UInt8} {f h:List Ent} {T:List ByteArray} {W:List Wr} {N:List Nat} {n m k j b k2 j2 c e p:Nat}
theorem nN (h0:20000<s.length):unbF s=.inl (4,-1):=by unfold unbF;rw [if_pos h0]
theorem nL (h0:¬ 20000<s.length) (h1:aj s=(e,n,f)) (he:e≠0):unbF s=.inl (e,0):=by unfold unbF;rw [if_neg h0,h1];simp only;rw [if_pos he]
theorem nM (h0:¬ 20000<s.length) (h1:aj s=(0,n,f)) (h2:aj (s.drop n)=(e,m,h)) (he:e≠0):unbF s=.inl (e,(n:Int)):=by
 unfold unbF;rw [if_neg h0,h1];simp only;rw [if_neg (by simp),h2];simp only;rw [if_pos he]
theorem nQ (h0:¬ 20000<s.length) (h1:aj s=(0,n,f)) (h2:aj (s.drop n)=(0,m,h)) (h3:intL (s.drop (n+m)) 60=(k,j,e)) (he:e≠0):unbF s=.inl (e,((n+m:Nat):Int)):=by
 unfold unbF;rw [if_neg h0,h1];simp only;rw [if_neg (by simp),h2];simp only;rw [if_neg (by simp),h3];simp only;rw [if_pos he]
theorem nP (h0:¬ 20000<s.length) (h1:aj s=(0,n,f)) (h2:aj (s.drop n)=(0,m,h)) (h3:intL (s.drop (n+m)) 60=(k,j,0)) (h4:unT s k (n+m+j) []=.inl (e,p)):unbF s=.inl (e,(p:Int)):=by
 unfold unbF;rw [if_neg h0,h1];simp only;rw [if_neg (by simp),h2];simp only;rw [if_neg (by simp),h3];simp only;rw [if_neg (by simp),h4]
theorem nS (h0:¬ 20000<s.length) (h1:aj s=(0,n,f)) (h2:aj (s.drop n)=(0,m,h)) (h3:intL (s.drop (n+m)) 60=(k,j,0)) (h4:unT s k (n+m+j) []=.inr (b,T)) (h5:intL (s.drop b) 60=(k2,j2,e)) (he:e≠0):unbF s=.inl (e,(b:Int)):=by
 unfold unbF;rw [if_neg h0,h1];simp only;rw [if_neg (by simp),h2];simp only;rw [if_neg (by simp),h3];simp only;rw [if_neg (by simp),h4];simp only;rw [h5];simp only;rw [if_pos he]
theorem nR (h0:¬ 20000<s.length) (h1:aj s=(0,n,f)) (h2:aj (s.drop n)=(0,m,h)) (h3:intL (s.drop (n+m)) 60=(k,j,0)) (h4:unT s k (n+m+j) []=.inr (b,T)) (h5:intL (s.drop b) 60=(k2,j2,0)) (h6:unW s h T k2 (b+j2) 0 [] []=.inl (e,p)):unbF s=.inl (e,(p:Int)):=by
 unfold unbF;rw [if_neg h0,h1];simp only;rw [if_neg (by simp),h2];simp only;rw [if_neg (by simp),h3];simp only;rw [if_neg (by simp),h4];simp only;rw [h5];simp only;rw [if_neg (by simp),h6]
theorem nO (h0:¬ 20000<s.length) (h1:aj s=(0,n,f)) (h2:aj (s.drop n)=(0,m,h)) (h3:intL (s.drop (n+m)) 60=(k,j,0)) (h4:unT s k (n+m+j) []=.inr (b,T)) (h5:intL (s.drop b) 60=(k2,j2,0)) (h6:unW s h T k2 (b+j2) 0 [] []=.inr (c,W,N)) :
 unbF s=if c<s.length then .inl (3,(c:Int)) else if (aT T (N.map Int.ofNat)).2.1≠0 then .inl ((aT T (N.map Int.ofNat)).2.1,(s.length:Int)) else if (batF f h W).1≠0 then .inl ((batF f h W).1,(s.length:Int)) else .inr (f,h,W):=by
 unfold unbF;rw [if_neg h0,h1];simp only;rw [if_neg (by simp),h2];simp only;rw [if_neg (by simp),h3];simp only;rw [if_neg (by simp),h4];simp only;rw [h5];simp only;rw [if_neg (by simp),h6]
end
end
