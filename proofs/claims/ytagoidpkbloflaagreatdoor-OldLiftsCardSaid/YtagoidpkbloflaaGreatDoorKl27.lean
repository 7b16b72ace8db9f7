import Derived.Test.YtagoidpkbloflaaGreatDoorKlq
import Derived.Test.YtagoidpkbloflaaGreatDoorKl26
import Derived.Test.YtagoidpkbloflaaGreatDoorKl22
namespace Go.Proofs.YtagoidpkbloflaaGreatDoor
open Lib (hid)
set_option maxRecDepth 100000
set_option maxHeartbeats 8000000
section
open Go.RowKit
def gK (w:World) (r:List UInt8×Nat×Int) (e:Ending) (w':World):Prop :=
 Below w.heap.size w w'∧((r.2=(0,-1)∧e=.returned (.string ⟨r.1.toArray⟩))∨(r.2.1≠0∧r.1=[]∧∃ t v,e=.panicked [{ v:=.iface t v,recovered:=false }]∧az w' (.iface t v) r.2))
def WU (w1:World) (vt vn:Value) (T:List ByteArray) (N:List Nat) (pre:List UInt8) (wr:World):Prop :=
 bI wr w1.heap.size w1.heap.size pre∧Below w1.heap.size w1 wr∧ak wr (w1.heap.size+1) vt T∧aG wr (w1.heap.size+1) vn N
theorem WU.lt {w1 wr:World} {vt vn:Value} {T:List ByteArray} {N:List Nat} {pre:List UInt8} (h:WU w1 vt vn T N pre wr):w1.heap.size<wr.heap.size:=h.1.lt.2
theorem WU.calls {w1 wr w':World} {vt vn:Value} {T:List ByteArray} {N:List Nat} {pre:List UInt8} (h:WU w1 vt vn T N pre wr) (hb:Below wr.heap.size wr w'):WU w1 vt vn T N pre w' :=
 ⟨h.1.below hb,h.2.1.trans (hb.mono h.2.1.size),h.2.2.1.below hb,h.2.2.2.below hb⟩
theorem WU.alloc {w1 wr:World} {vt vn:Value} {T:List ByteArray} {N:List Nat} {pre:List UInt8} (h:WU w1 vt vn T N pre wr) (o:Obj):WU w1 vt vn T N pre (wr.alloc o):=h.calls ((Below.refl _ _).alloc (Db _) o)
theorem WU.put {w1 wr w':World} {vt vn:Value} {T:List ByteArray} {N:List Nat} {pre pre':List UInt8} (h:WU w1 vt vn T N pre wr) (h1:bI w' w1.heap.size w1.heap.size pre') (hb:Below w1.heap.size wr w') (hn:NonB w1.heap.size wr w'):WU w1 vt vn T N pre' w' :=
 ⟨h1,h.2.1.trans hb,NonB.row hn h.2.2.1 (by decide) (fun e=>by have:=(h.2.2.1.lt _ e).1;omega),NonB.row hn h.2.2.2 (by decide) (fun e=>by have:=(h.2.2.2.lt _ e).1;omega)⟩
def WQ (w1:World) (vt vn:Value) (T:List ByteArray) (N:List Nat) (Q:Nat) (x:Wr) (pre:List UInt8) (wr:World):Prop :=
 WU w1 vt vn T N pre wr∧dx wr Q x∧w1.heap.size<Q
theorem WQ.calls {w1 wr w':World} {vt vn:Value} {T:List ByteArray} {N:List Nat} {Q:Nat} {x:Wr} {pre:List UInt8} (h:WQ w1 vt vn T N Q x pre wr) (hb:Below wr.heap.size wr w'):WQ w1 vt vn T N Q x pre w' :=
 ⟨h.1.calls hb,(hb.block Q (DF.1 h.2.1).1).trans h.2.1,h.2.2⟩
theorem WQ.put {w1 wr w':World} {vt vn:Value} {T:List ByteArray} {N:List Nat} {Q:Nat} {x:Wr} {pre pre':List UInt8} (h:WQ w1 vt vn T N Q x pre wr) (h1:bI w' w1.heap.size w1.heap.size pre') (hb:Below w1.heap.size wr w') (hn:NonB w1.heap.size wr w'):WQ w1 vt vn T N Q x pre' w' :=
 ⟨h.1.put h1 hb hn,(hn Q (DF.1 h.2.1).1 (by have:=h.2.2;omega) (fun cs fz hc=>by rw [h.2.1] at hc;injection hc with hc;injection hc with _ ht;exact absurd ht (by decide))).trans h.2.1,h.2.2⟩
theorem WQ.cells {w1 wr:World} {vt vn:Value} {T:List ByteArray} {N:List Nat} {Q:Nat} {x:Wr} {pre:List UInt8} (h:WQ w1 vt vn T N Q x pre wr):wrAt wr Q x.time x.rep x.kind x.key x.value x.n :=
 ⟨Dd _ _ 0 _ _ _ h.2.1,Dd _ _ 1 _ _ _ h.2.1,Dd _ _ 2 _ _ _ h.2.1,Dd _ _ 3 _ _ _ h.2.1,Dd _ _ 4 _ _ _ h.2.1,Dd _ _ 5 _ _ _ h.2.1⟩
theorem oU (v:Value) (l:List Ent) (T:ByteArray) (w:World) (hv:ae w v l) (hl:l.length≤9223372036854775807) (hr:cG l) (hT:aC l=T.data.toList) :
 Calls Tryz.prog 130 #[v] w fun e w'=>e=.returned (.tuple #[.string T,.nilIface])∧Below w.heap.size w w' :=
 (Co v l w hv hl).mono fun e w' ⟨err,h1,h2,h3⟩=>by
  have h0:=(ec l).2 hr;obtain rfl:=h2.nil h0;refine ⟨?_,h3⟩;rw [h1,show cj l=aC l by unfold cj;rw [if_pos h0],hT,bF]
theorem uq (x:Wr) (B:ByteArray) (w:World) (h:wE x=0) (hB:b7 x.kind x.value x.n=B) :
 Calls Tryz.prog 137 #[.agg #[.int .i64 x.time,.int .i64 x.rep,.int .i64 x.kind,.string x.key,.string x.value,.int .i64 x.n]] w fun e w'=>e=.returned (.tuple #[.string B,.nilIface])∧Below w.heap.size w w':=by
 have hf:=dg h;refine (D0 x.time x.rep x.kind x.key x.value x.n w (by omega) (by omega)).mono ?_;rintro e w' ⟨rfl,hb⟩;refine ⟨?_,hb⟩;rw [kG h,hB];rfl
theorem lL (vf vh vw:Value) (f h:List Ent) (l:List Wr) (e:Nat) (pl:Int) (w:World) (hx:aR w vf vh vw f h l) (hg:errT w) (hb:batF f h l=(e,pl)) :
 Calls Tryz.prog 82 #[.agg #[vf,vh,vw]] w (gJ w (e,pl)):=by
 rw [←hb];exact oR vf vh vw f h l w hx hg
theorem CR (vf vh vw:Value) (f h:List Ent) (l:List Wr) (w:World) (hx:aR w vf vh vw f h l) (hg:errT w) (h0:(batF f h l).1≠0) :
 Calls Tryz.prog 90 #[.agg #[vf,vh,vw]] w (gK w (aP f h l)):=by
 obtain ⟨W0,hW0⟩:∃ W0,w.alloc (.cells #[vf,vh,vw] 25)=W0:=⟨_,rfl⟩;have hb0:Below w.heap.size w W0:=by rw [←hW0];exact (Below.refl _ _).alloc (Db _) _
 have HX:Hid (aR W0 vf vh vw f h l):=hid (by rw [←hW0];exact hx.alloc _);have HG:Hid (errT W0):=hid (by rw [←hW0];exact hg.alloc _);obtain ⟨c0,c1,c2⟩:=cy w vf vh vw 25;rw [hW0] at c0 c1 c2;obtain ⟨af,cf,rfl,_⟩:=hx.1.form;obtain ⟨ah,ch,rfl,_⟩:=hx.2.1.form;obtain ⟨aw,cw,rfl,_⟩:=hx.2.2.1.form;generalize f.length=nf at hW0 HX c0 ⊢;generalize h.length=nh at hW0 HX c1 ⊢;generalize l.length=n at hW0 HX c2 ⊢;have HF:=hid (gO h0);have H0:=hid h0;have HB0:=hid hb0;clear hx hg hb0 h0;go_enter Tryz.func90,Tryz.ntmps90
 go_wp2_with fail
 refine (oR _ _ _ f h l _ HX.out HG.out).mono ?_;rintro r w1 ⟨err,rfl,hat,hb1⟩;obtain ⟨t,u,rfl⟩:=hat.iface H0.out;have HA:=hid hat;have HB1:=hid (HB0.out.trans (hb1.mono HB0.out.size));clear hat hb1 c0 c1 c2;go_wp2_with fail
 refine (jl t u _).mono ?_;rintro r w2 ⟨rfl,rfl⟩;refine Dp rfl ⟨HB1.out,.inr ⟨?_,?_,t,u,rfl,?_⟩⟩
 ·rw [HF.out];exact H0.out
 ·rw [HF.out]
 ·rw [HF.out];exact HA.out
theorem eu {pre rest L:List UInt8} (h:pre++rest=L) (hL:L.length≤40000):pre.length≤1000000:=by
 have:=congrArg List.length h;rw [Df] at this;omega
theorem Bv {T:List ByteArray} {k:Nat} {s:ByteArray} (h:T[k]? = some s) (pre:List UInt8):pre++bC (T.drop k)=(pre++cT s.data.toList)++bC (T.drop (k+1)):=by
 obtain ⟨hk,e⟩:=Do.1 h;rw [DA hk,e,nd,E3]
theorem r8 {h:List Ent} {T:List ByteArray} {l:List Wr} {N:List Nat} {k:Nat} {ahead:Int} {x:Wr} (hx:l[k]? = some x) (ho:dq h T ahead (l.drop k) (N.drop k)) :
 ∃ n,N[k]? = some n∧(wE x=0∧ahead≤x.time∧aW h x.rep<h.length∧T[n]? = some x.key)∧dq h T x.time (l.drop (k+1)) (N.drop (k+1))∧rowB h ahead (l.drop k) (N.drop k)=oneB h ahead x n++rowB h x.time (l.drop (k+1)) (N.drop (k+1)):=by
 obtain ⟨hk,e⟩:=Do.1 hx;rw [DA hk,e] at ho ⊢
 match hN:N.drop k with
 | []=>rw [hN] at ho;exact absurd ho id
 | n::M =>
  rw [hN] at ho;have hnk:k<N.length:=by
   rcases Eg k N.length with h' | h'
   ·exact h'
   ·rw [El h'] at hN;cases hN
  rw [DA hnk] at hN;injection hN with h1 h2
  subst h2;exact ⟨n,by rw [←h1];exact Di hnk,ho.1,ho.2,rfl⟩
theorem CS (vf vh vw:Value) (f h:List Ent) (l:List Wr) (w:World) (hx:aR w vf vh vw f h l) (hg:errT w) (hr:ff f h l) :
 Calls Tryz.prog 90 #[.agg #[vf,vh,vw]] w (gK w (aP f h l)):=by
 have h0:(batF f h l).1=0:=hr;have hb:=iG.1 hr;obtain ⟨⟨g1,g2,g3⟩,g4,g5,g6⟩:=hb;obtain ⟨t1,t2⟩:=rU hr;have hrow:=qZ hr;have hkk:∀ s∈ay l,s.size≤140737488351232:=fun s hs=>by
  obtain ⟨x,hx,rfl⟩:=List.mem_map.1 hs;have:=dg (g5 x hx).1;omega
 have HKK:=hid hkk;obtain ⟨T1,hT1⟩:∃ T1:ByteArray,aC f=T1.data.toList:=⟨⟨(aC f).toArray⟩,rfl⟩;obtain ⟨T2,hT2⟩:∃ T2:ByteArray,aC h=T2.data.toList:=⟨⟨(aC h).toArray⟩,rfl⟩;have s1:T1.size≤500:=by rw [ac,←hT1];exact (fT g1).1
 have s2:T2.size≤500:=by rw [ac,←hT2];exact (fT g2).1
 obtain ⟨T,hT⟩:∃ T,tabK [] (ay l)=T:=⟨_,rfl⟩;obtain ⟨N,hN⟩:∃ N,atK [] (ay l)=N:=⟨_,rfl⟩;obtain ⟨L,hL⟩:∃ L,cB f h l=L:=⟨_,rfl⟩;have HL:Hid (T1.data.toList++T2.data.toList++putL T.length++bC T++putL l.length++rowB h 0 l N=L):=hid (show _=_ by rw [←hL,←hT,←hN,←hT1,←hT2];rfl);rw [hT] at t1 t2;rw [hT,hN] at hrow;have hrl:=A7 (by have:=g2.1;omega) (by omega) l 0 N (Int.le_refl _) hrow;have htl:=Br t1;have hLL:L.length≤40000:=by
  rw [←HL.out];have:=aK (n:=T.length) (by omega);have:=aK (n:=l.length) (by omega);simp only [Df,←ac]
  omega
 have hLP:L≠[]:=by
  rw [←HL.out];have h1:=iB l.length;intro hh;have h2:=congrArg List.length hh;simp only [Df,List.length_nil] at h2
  omega
 have HTK:=hid hT;have HNK:=hid hN;have HLB:=hid hL;have HT1:=hid hT1;have HT2:=hid hT2;have HR:=hid hr;have HG1:=hid g1;have HG2:=hid g2;have HTS:=hid t1;have HROW:=hid hrow;have HLL:=hid hLL;have HLP:=hid hLP;have hbf:=oB h0;have HBF:=hid hbf;clear g1 g2 g3 g5 g6 t1 hrow hkk hT1 hT2 hT hN hL hrl htl hLL hLP hbf hr;obtain ⟨W0,hW0⟩:∃ W0,w.alloc (.cells #[vf,vh,vw] 25)=W0:=⟨_,rfl⟩;have hb0:Below w.heap.size w W0:=by rw [←hW0];exact (Below.refl _ _).alloc (Db _) _
 have hz0:w.heap.size<W0.heap.size:=by rw [←hW0];simp
 have HX:Hid (aR W0 vf vh vw f h l):=hid (by rw [←hW0];exact hx.alloc _);have HG:Hid (errT W0):=hid (by rw [←hW0];exact hg.alloc _);have hc:=cy w vf vh vw 25;rw [hW0] at hc;have HC:=hid hc;have HZ0:=hid hz0;obtain ⟨af,cf,rfl,_⟩:=hx.1.form;obtain ⟨ah,ch,rfl,_⟩:=hx.2.1.form;obtain ⟨aw,cw,rfl,_⟩:=hx.2.2.1.form;obtain ⟨n,hn⟩:∃ n,n=l.length:=⟨_,rfl⟩;obtain ⟨nf,hnf⟩:∃ n,n=f.length:=⟨_,rfl⟩;obtain ⟨nh,hnh⟩:∃ n,n=h.length:=⟨_,rfl⟩;rw [←hn,←hnf,←hnh] at hW0 HX HC ⊢;rw [←hn] at g4 HL;have HNL:=hid hn;have HNF:=hid hnf;have HNH:=hid hnh;have HB0:=hid hb0;clear hx hg hb0 h0 hc hz0 hn hnf hnh;obtain ⟨c0,c1,c2⟩:=HC.out;go_enter Tryz.func90,Tryz.ntmps90
 go_wp2_with fail
 refine (lL _ _ _ f h l 0 (-1) _ HX.out HG.out HBF.out).mono ?_;rintro r w1 ⟨err,rfl,hat,hb1⟩;obtain rfl:=hat.nil rfl;have HX1:=hid (HX.out.below hb1);have HB1:Hid (Below w.heap.size w w1):=HB0.out.trans (hb1.mono HB0.out.size);have HC1:=hid (HC.out.below hb1 HZ0.out);have HZ1:Hid (w.heap.size<w1.heap.size):=hid (Dv HZ0.out hb1.size);clear hat hb1 c0 c1 c2 hW0 HX HC HZ0 HB0 HG;go_wp2_with fail
 refine (oT _).mono ?_;rintro r w' ⟨rfl,rfl⟩;obtain ⟨wa,hwa⟩:∃ wa,w1.alloc (.cells #[.pointer none,.slice none 0 0] 187)=wa:=⟨_,rfl⟩;have HS0:Hid (WU w1 (.slice none 0 0) (.slice none 0 0) [] [] [] wa):=hid (by rw [←hwa];exact ⟨Cs w1 _ (Db _),(Below.refl _ _).alloc (Db _) _,bK _ _,dr _ _⟩);have HXW:Hid (∀ w',Below w1.heap.size w1 w'→aR w' (.slice af nf cf) (.slice ah nh ch) (.slice aw n cw) f h l):=hid (fun w' hb=>HX1.out.below hb);have HCW:Hid (∀ w',Below w1.heap.size w1 w'→eQ w' w.heap.size (.slice af nf cf) (.slice ah nh ch) (.slice aw n cw)):=hid (fun w' hb=>HC1.out.below hb HZ1.out);clear HC1;have HP0:Hid (T1.data.toList++(T2.data.toList++(putL T.length++(bC T++(putL n++rowB h 0 l N))))=L):=hid (by rw [←HL.out];simp);obtain ⟨c0,c1,c2⟩:=HCW.out _ HS0.out.2.1;go_wp2_with fail
 refine (oU _ f T1 wa (HXW.out _ HS0.out.2.1).1 (by have:=HNF.out;have:=HG1.out.1;omega) HG1.out HT1.out).mono ?_;rintro r w2 ⟨rfl,hb2⟩;have HS1:=hid (HS0.out.calls hb2);clear hb2 c0 c1 c2 HS0 hwa;go_wp2_with fail
 refine (ln w1.heap.size w1.heap.size [] T1 w2 HS1.out.1 (by simp) (by omega) (DG HS1.out.lt)).mono ?_;rintro r w3 ⟨rfl,hbl,hb3,hn3⟩;rw [E7] at hbl;have HS2:=hid (HS1.out.put hbl hb3 hn3);obtain ⟨c0,c1,c2⟩:=HCW.out _ HS2.out.2.1;clear hbl hb3 hn3 HS1;go_wp2_with fail
 refine (oU _ h T2 w3 (HXW.out _ HS2.out.2.1).2.1 (by have:=HNH.out;have:=HG2.out.1;omega) HG2.out HT2.out).mono ?_;rintro r w4 ⟨rfl,hb4⟩;have HS3:=hid (HS2.out.calls hb4);clear hb4 c0 c1 c2 HS2;go_wp2_with fail
 refine (ln w1.heap.size w1.heap.size T1.data.toList T2 w4 HS3.out.1 (eu HP0.out HLL.out) (by omega) (DG HS3.out.lt)).mono ?_;rintro r w5 ⟨rfl,hbl,hb5,hn5⟩;obtain ⟨p1,hp1⟩:∃ p,T1.data.toList++T2.data.toList=p:=⟨_,rfl⟩;rw [hp1] at hbl;have HP1:Hid (p1++(putL T.length++(bC T++(putL n++rowB h 0 l N)))=L):=hid (by rw [←HP0.out,←hp1];simp);have HS4:=hid (HS3.out.put hbl hb5 hn5);obtain ⟨c0,c1,c2⟩:=HCW.out _ HS4.out.2.1;clear hbl hb5 hn5 HS3 hp1;go_wp2_with fail
 refine (wW _ l w5 (HXW.out _ HS4.out.2.1).2.2.1 (by have:=HNL.out;omega)).mono ?_;rintro r w6 ⟨u,rfl,hou,hb6⟩;have HS5:=hid (HS4.out.calls hb6);have HU:=hid hou;clear hb6 hou c0 c1 c2 HS4;go_wp2_with fail
 refine (x9 u (ay l) w6 HU.out.isTexts (by have:=HNL.out;unfold ay;rw [E9];omega) HKK.out).mono ?_;rintro r w7 ⟨vt,vn,rfl,ho1,ho2,hb7⟩;rw [HTK.out] at ho1;rw [HNK.out] at ho2;have HS6:Hid (WU w1 vt vn T N p1 w7):=hid ⟨HS5.out.1.below hb7,HS5.out.2.1.trans (hb7.mono HS5.out.2.1.size),ho1.mono (by have:=HS5.out.lt;omega),ho2.mono (by have:=HS5.out.lt;omega)⟩;obtain ⟨m,hm⟩:∃ m,m=T.length:=⟨_,rfl⟩;obtain ⟨at_,ct,rfl,_,_⟩:=ho1.isTexts;obtain ⟨an,cn,rfl,_,_⟩:=ho2.isNums;have hNl:(N.map Int.ofNat).length=n:=by rw [E9,y7 _ _ _ HROW.out];exact HNL.out.symm
 rw [hNl] at HS6 ⊢;rw [←hm] at HS6 HP1 t2 ⊢;have HM:=hid hm;clear hb7 ho1 ho2 HS5 HU hm hNl;go_wp2_with fail
 refine (iY w1.heap.size w1.heap.size m p1 w7 HS6.out.1 (by omega) (eu HP1.out HLL.out) (DG HS6.out.lt)).mono ?_;rintro r w8 ⟨rfl,hbl,hb8,hn8⟩;obtain ⟨p2,hp2⟩:∃ p,p1++putL m=p:=⟨_,rfl⟩;rw [hp2] at hbl;have HP2:Hid (p2++(bC T++(putL n++rowB h 0 l N))=L):=hid (by rw [←HP1.out,←hp2];simp);have HS7:=hid (HS6.out.put hbl hb8 hn8);clear hbl hb8 hn8 HS6 hp2;go_wp2
 go_loopw [38] (fun i wr=>∃ (k:Nat) (pre:List UInt8),k≤m∧i=.int .i64 k∧pre++(bC (T.drop k)++(putL n++rowB h 0 l N))=L∧WU w1 (.slice at_ m ct) (.slice an n cn) T N pre wr) (fun i _=>m-(intOf i).toNat)
 case atStart=>exact ⟨0,p2,Ds _,rfl,by rw [E4];exact HP2.out,HS7.out⟩
 case round =>
  obtain ⟨k,pre,hk,rfl,hpre,hws⟩:=hrel;have HS:=hid hws;have HP:=hid hpre;clear hpre hws;by_cases hlt:k<m
  ·obtain ⟨s, hs⟩ : ∃ s, T[k]? = some s := ⟨T[k]'(by have := HM.out; omega), Di _⟩;obtain ⟨a',c',he,_,hce⟩:=HS.out.2.2.1.isTexts;obtain ⟨rfl,hmm,rfl⟩:=Ey he;clear hmm;obtain ⟨b1,o1,rfl,hb1,q0⟩:=hce k s hs;have hsz:=HTS.out s (DB hs);obtain ⟨S,hS⟩:∃ S,bT s=S:=⟨_,rfl⟩;have hSs:S.size≤60:=by rw [←hS,ru];have:=aK (n:=s.size) (by omega);omega
   have HPS:Hid (pre++(cT s.data.toList++(bC (T.drop (k+1))++(putL n++rowB h 0 l N)))=L):=hid (by rw [←HP.out];have:=Bv hs [];rw [E7,E7] at this;rw [this];simp);have HSD:Hid (cT s.data.toList=S.data.toList):=hid (by rw [←hS,kC]);have HSS:=hid hS;clear he hce hs hS;go_wp2_with fail
   refine (rx s wr (by omega)).mono ?_;rintro r w9 ⟨rfl,hb9⟩;rw [HSS.out];have HSa:=hid (HS.out.calls hb9);clear hb9 q0 HS;go_wp2_with fail
   refine (ln w1.heap.size w1.heap.size pre S w9 HSa.out.1 (eu HP.out HLL.out) (by omega) (DG HSa.out.lt)).mono ?_;rintro r w10 ⟨rfl,hbl,hb10,hn10⟩;obtain ⟨p3,hp3⟩:∃ p,pre++S.data.toList=p:=⟨_,rfl⟩;rw [hp3] at hbl;have HP3:Hid (p3++(bC (T.drop (k+1))++(putL n++rowB h 0 l N))=L):=hid (by rw [←HPS.out,←hp3,HSD.out];simp);have HSb:=hid (HSa.out.put hbl hb10 hn10);clear hbl hb10 hn10 HSa hp3;go_wp2;go_roundw
   case rel=>exact ⟨k+1,p3,by omega,by go_num,HP3.out,HSb.out⟩
   case measure=>simp [intOf];omega
  ·have HP4:Hid (pre++(putL n++rowB h 0 l N)=L):=hid (by rw [←HP.out,El (by have:=HM.out;omega)];simp [bC]);obtain ⟨c0,c1,c2⟩:=HCW.out _ HS.out.2.1;clear HP;go_wp2_with fail
   refine (iY w1.heap.size w1.heap.size n pre wr HS.out.1 (by omega) (eu HP4.out HLL.out) (DG HS.out.lt)).mono ?_;rintro r w9 ⟨rfl,hbl,hb9,hn9⟩;obtain ⟨p5,hp5⟩:∃ p,pre++putL n=p:=⟨_,rfl⟩;rw [hp5] at hbl;have HP5:Hid (p5++rowB h 0 l N=L):=hid (by rw [←HP4.out,←hp5];simp);have HSb:=hid (HS.out.put hbl hb9 hn9);obtain ⟨c0,c1,c2⟩:=HCW.out _ HSb.out.2.1;clear hbl hb9 hn9 HS hp5 HP4;have HLF:=hid (HX1.out.2.2.1.form);go_wp2
   go_loopw [8,55] (fun a i wr=>∃ (k:Nat) (A:Int) (pre:List UInt8),k≤n∧i=.int .i64 k∧a=.int .i64 A∧0≤A∧dq h T A (l.drop k) (N.drop k)∧pre++rowB h A (l.drop k) (N.drop k)=L∧WU w1 (.slice at_ m ct) (.slice an n cn) T N pre wr) (fun _ i _=>n-(intOf i).toNat)
   case atStart=>exact ⟨0,0,p5,Ds _,rfl,rfl,Int.le_refl _,by rw [E4,E4];exact HROW.out,by rw [E4,E4];exact HP5.out,HSb.out⟩
   case round =>
    obtain ⟨j,A,pre,hj,rfl,rfl,hA0,hro,hpre,hws⟩:=hrel;have HS:=hid hws;have HP:=hid hpre;have HRO:=hid hro;clear hpre hws hro;by_cases hlj:j<n
    ·obtain ⟨x, hx⟩ : ∃ x, l[j]? = some x := ⟨l[j]'(by have := HNL.out; omega), Di _⟩;obtain ⟨nn,hnn,⟨hw,hAx,hpl,hkey⟩,hro2,hrow2⟩:=r8 hx HRO.out;have hf:=dg hw;have hnnT:nn<T.length:=(Do.1 hkey).1;obtain ⟨a3,c3,he,hfo⟩:=HLF.out;obtain ⟨rfl,hmm,rfl⟩:=Ey he;clear hmm he;obtain ⟨b1,o1,rfl,hb1,p0,p1,p2,p3,p4,p5⟩:=hfo j x hx;have q0:=(HS.out.2.1.cell (p:=⟨b1,o1+j * 6,none⟩) hb1).trans p0;have q1:=(HS.out.2.1.cell (p:=⟨b1,o1+j * 6+1,none⟩) hb1).trans p1;have q2:=(HS.out.2.1.cell (p:=⟨b1,o1+j * 6+2,none⟩) hb1).trans p2;have q3:=(HS.out.2.1.cell (p:=⟨b1,o1+j * 6+3,none⟩) hb1).trans p3;have q4:=(HS.out.2.1.cell (p:=⟨b1,o1+j * 6+4,none⟩) hb1).trans p4;have q5:=(HS.out.2.1.cell (p:=⟨b1,o1+j * 6+5,none⟩) hb1).trans p5;obtain ⟨pp,hpp⟩:∃ pp,aW h x.rep=pp:=⟨_,rfl⟩;obtain ⟨d,hd⟩:∃ d,(x.time-A).toNat=d:=⟨_,rfl⟩;obtain ⟨TB,hTB⟩:∃ TB,b7 x.kind x.value x.n=TB:=⟨_,rfl⟩;obtain ⟨K,hK⟩:=DS (show 0≤x.kind by omega);obtain ⟨c,hc⟩:∃ c,UInt8.ofNat K=c:=⟨_,rfl⟩;have hct:c.toNat=K:=by rw [←hc];exact nm (by omega)
     have hTBs:TB.size≤320:=by rw [←hTB,ac];exact hf.2.2.2.2.2.2.2.2.1
     have HONE:Hid (pre++([c]++(putL d++(putL pp++(putL nn++(TB.data.toList++rowB h x.time (l.drop (j+1)) (N.drop (j+1)))))))=L):=hid (by
      rw [←HP.out,hrow2];unfold oneB dZ;rw [hpp,hd,hTB,hK];rw [show ((K:Int)).toNat=K from rfl,hc];simp)
     have HRO2:=hid hro2;have HW:=hid hw;have HPP:=hid hpp;have HTB:=hid hTB;have kw:IntKind.u8.wrap (K:Int)=(c.toNat:Int):=by rw [hct];exact IntWalk.u8_in _ (by omega)
     have kd:IntKind.i64.wrap (x.time-A)=(d:Int):=by rw [show (d:Int)=x.time-A by omega];exact Dh _ (by omega)
     have hd40:d≤1099511627776:=by omega
     have hpn:pp<nh:=by rw [HNH.out,←hpp];exact hpl
     have hnh16:nh≤16:=by rw [HNH.out];exact HG2.out.1
     have hnn60:nn≤60:=by have:=HM.out;omega
     have ht0:0≤x.time:=by omega
     have hVN:∃ g,an=some ⟨g,0,none⟩∧g<wr.heap.size∧wr.heap[g]? ≠ none∧∀ w',aG w' (w1.heap.size+1) (.slice an n cn) N→w'.cell? ⟨g,j,none⟩=some (.int .i64 (nn:Int)):=by
      rcases HS.out.2.2.2.forms with ⟨hv,hnil⟩ | ⟨g,cap,hv,hbg,hgl,hcells⟩
      ·rw [hnil] at hnn;simp at hnn
      ·obtain ⟨rfl,_,_⟩:=Ey hv;refine ⟨g,rfl,hgl,by rw [Array.getElem?_eq_getElem hgl];simp,fun w' ho=>?_⟩;rcases ho.forms with ⟨hv2,hnil⟩ | ⟨g2,cap2,hv2,_,_,hcells2⟩
       ·rw [hnil] at hnn;simp at hnn
       ·obtain ⟨hg2,_,_⟩:=Ey hv2;have hg3:g=g2:=by simpa using hg2
        subst hg3;rw [hcells2 j (Do.1 hnn).1,DN,hnn];rfl
     obtain ⟨g,rfl,_,_,hgc⟩:=hVN;have HGC:=hid hgc;have HTM:Hid (0≤x.time):=hid ht0;obtain ⟨Ti,R,Ki,key,val,Nn⟩:=x;dsimp only at q0 q1 q2 q3 q4 q5 HONE HRO2 HPP HTB kd hK HTM
     subst hK;obtain ⟨c0,c1,c2⟩:=HCW.out _ HS.out.2.1;have HQ0:Hid (WQ w1 (.slice at_ m ct) (.slice (some ⟨g,0,none⟩) n cn) T N wr.heap.size ⟨Ti,R,(K:Int),key,val,Nn⟩ pre (wr.alloc (.cells #[.int .i64 Ti,.int .i64 R,.int .i64 (K:Int),.string key,.string val,.int .i64 Nn] 78))):=hid ⟨HS.out.alloc _,Dg wr _,HS.out.lt⟩;clear p0 p1 p2 p3 p4 p5 hfo hx hnn hkey hro2 hrow2 hw hf hAx hpl hpp hd hTB hc hct hgc ht0 HRO hnnT;go_wp2_with fail
     refine (Cr w1.heap.size w1.heap.size pre c _ HQ0.out.1.1 (by have:=eu HONE.out HLL.out;omega) (DG HQ0.out.1.lt)).mono ?_;rintro r w11 ⟨rfl,hbl,hb,hn⟩;obtain ⟨s1_,hp⟩:∃ p,pre++[c]=p:=⟨_,rfl⟩;rw [hp] at hbl;have HE1:Hid (s1_++(putL d++(putL pp++(putL nn++(TB.data.toList++(rowB h Ti (l.drop (j+1)) (N.drop (j+1)))))))=L):=hid (by rw [←HONE.out,←hp];simp);have HQ1:=hid (HQ0.out.put hbl hb hn);obtain ⟨c0,c1,c2⟩:=HCW.out _ HQ1.out.1.2.1;obtain ⟨e0,e1,e2,e3,e4,e5⟩:=HQ1.out.cells;clear hbl hb hn hp HQ0 q0 q1 q2 q3 q4 q5;go_wp2_with fail
     refine (iY w1.heap.size w1.heap.size d s1_ w11 HQ1.out.1.1 (by omega) (eu HE1.out HLL.out) (DG HQ1.out.1.lt)).mono ?_;rintro r w12 ⟨rfl,hbl,hb,hn⟩;obtain ⟨s2_,hp⟩:∃ p,s1_++putL d=p:=⟨_,rfl⟩;rw [hp] at hbl;have HE2:Hid (s2_++(putL pp++(putL nn++(TB.data.toList++(rowB h Ti (l.drop (j+1)) (N.drop (j+1))))))=L):=hid (by rw [←HE1.out,←hp];simp);have HQ2:=hid (HQ1.out.put hbl hb hn);obtain ⟨c0,c1,c2⟩:=HCW.out _ HQ2.out.1.2.1;obtain ⟨e0,e1,e2,e3,e4,e5⟩:=HQ2.out.cells;clear hbl hb hn hp HQ1;go_wp2_with fail
     refine (uk _ h R pp w12 (HXW.out _ HQ2.out.1.2.1).2.1 (by have:=HNH.out;omega) HPP.out (by have:=HNH.out;omega)).mono ?_;rintro r w13 ⟨rfl,hb⟩;have HQ3:=hid (HQ2.out.calls hb);clear hb HQ2 c0 c1 c2 e0 e1 e2 e3 e4 e5;go_wp2_with fail
     refine (iY w1.heap.size w1.heap.size pp s2_ w13 HQ3.out.1.1 (by omega) (eu HE2.out HLL.out) (DG HQ3.out.1.lt)).mono ?_;rintro r w14 ⟨rfl,hbl,hb,hn⟩;obtain ⟨s4_,hp⟩:∃ p,s2_++putL pp=p:=⟨_,rfl⟩;rw [hp] at hbl;have HE4:Hid (s4_++(putL nn++(TB.data.toList++(rowB h Ti (l.drop (j+1)) (N.drop (j+1)))))=L):=hid (by rw [←HE2.out,←hp];simp);have HQ4:=hid (HQ3.out.put hbl hb hn);obtain ⟨c0,c1,c2⟩:=HCW.out _ HQ4.out.1.2.1;obtain ⟨e0,e1,e2,e3,e4,e5⟩:=HQ4.out.cells;clear hbl hb hn hp HQ3;have q6:=HGC.out _ HQ4.out.1.2.2.2;go_wp2_with fail
     refine (iY w1.heap.size w1.heap.size nn s4_ w14 HQ4.out.1.1 (by omega) (eu HE4.out HLL.out) (DG HQ4.out.1.lt)).mono ?_;rintro r w15 ⟨rfl,hbl,hb,hn⟩;obtain ⟨s5_,hp⟩:∃ p,s4_++putL nn=p:=⟨_,rfl⟩;rw [hp] at hbl;have HE5:Hid (s5_++(TB.data.toList++(rowB h Ti (l.drop (j+1)) (N.drop (j+1))))=L):=hid (by rw [←HE4.out,←hp];simp);have HQ5:=hid (HQ4.out.put hbl hb hn);obtain ⟨c0,c1,c2⟩:=HCW.out _ HQ5.out.1.2.1;obtain ⟨e0,e1,e2,e3,e4,e5⟩:=HQ5.out.cells;clear hbl hb hn hp HQ4;go_wp2_with fail
     refine (uq ⟨Ti,R,(K:Int),key,val,Nn⟩ TB w15 HW.out HTB.out).mono ?_;rintro r w16 ⟨rfl,hb⟩;have HQ6:=hid (HQ5.out.calls hb);clear hb HQ5 c0 c1 c2 e0 e1 e2 e3 e4 e5 q6;go_wp2_with fail
     refine (ln w1.heap.size w1.heap.size s5_ TB w16 HQ6.out.1.1 (eu HE5.out HLL.out) (by omega) (DG HQ6.out.1.lt)).mono ?_;rintro r w17 ⟨rfl,hbl,hb,hn⟩;obtain ⟨s7_,hp⟩:∃ p,s5_++TB.data.toList=p:=⟨_,rfl⟩;rw [hp] at hbl;have HE7:Hid (s7_++(rowB h Ti (l.drop (j+1)) (N.drop (j+1)))=L):=hid (by rw [←HE5.out,←hp];simp);have HQ7:=hid (HQ6.out.put hbl hb hn);obtain ⟨c0,c1,c2⟩:=HCW.out _ HQ7.out.1.2.1;obtain ⟨e0,e1,e2,e3,e4,e5⟩:=HQ7.out.cells;clear hbl hb hn hp HQ6;go_wp2;go_roundw
     case rel=>exact ⟨j+1,Ti,s7_,by omega,by go_num,rfl,HTM.out,HRO2.out,HE7.out,HQ7.out.1⟩
     case measure=>simp [intOf];omega
    ·have HPL:Hid (pre=L):=hid (by rw [←HP.out,El (by have:=HNL.out;omega)];simp [rowB]);rw [HPL.out] at HS;obtain ⟨z,hz⟩:∃ z,z=L.length:=⟨_,rfl⟩;have hz40:z≤40000:=by rw [hz];exact HLL.out
     have HZ:=hid hz;have HBF2:Hid (Below w.heap.size w wr):=hid (HB1.out.trans (HS.out.2.1.mono HB1.out.size));by_cases hbig:20000<z
     ·have HF:Hid (aP f h l=([],4,-1)):=hid (fZ (show (batF f h l).1=0 from HR.out) (by rw [HLB.out,←hz];exact hbig));have d1:(20000:Int)<(z:Int):=by omega
      clear hz;go_wp2_with fail
      refine (sE w1.heap.size w1.heap.size L wr HS.out.1).mono ?_;rintro r w' ⟨rfl,rfl⟩;rw [←HZ.out];go_wp2_with fail
      refine (jl _ _ _).mono ?_;rintro r w' ⟨rfl,rfl⟩;refine Dp rfl ⟨HBF2.out,.inr ⟨?_,?_,_,_,rfl,?_⟩⟩
      ·rw [HF.out];decide
      ·rw [HF.out]
      ·rw [HF.out];exact .inr ⟨by decide,rfl,rfl⟩
     ·have HF:Hid (aP f h l=(L,0,-1)):=hid (by rw [fq (show (batF f h l).1=0 from HR.out) (by rw [HLB.out,←hz];exact hbig),HLB.out]);have d1:(z:Int)≤20000:=by omega
      clear hz;go_wp2_with fail
      refine (sE w1.heap.size w1.heap.size L wr HS.out.1).mono ?_;rintro r w' ⟨rfl,rfl⟩;rw [←HZ.out];go_wp2_with fail
      refine (Ct w1.heap.size w1.heap.size L wr HS.out.1 HLP.out).mono ?_;rintro r w10 ⟨rfl,hb10⟩;have HB10:Hid (Below w.heap.size w w10):=hid (HBF2.out.trans (hb10.mono HB1.out.size));clear hb10;go_wp2;go_ret;refine ⟨HB10.out,.inl ⟨?_,?_⟩⟩
      ·rw [HF.out]
      ·rw [HF.out];rfl
end
section
open Go.RowKit
theorem qq {l:List Ent}:∀ {last:Int} {i j:Nat} {a b:Ent},okV last l→i<j→l[i]? = some a→l[j]? = some b→a.rep<b.rep:=by
 induction l with
 | nil=>intro last i j a b _ _ h _;simp at h
 | cons e r ih =>
  intro last i j a b ho hij hi hj;cases j with
  | zero=>omega
  | succ j =>
   rw [List.getElem?_cons_succ] at hj;cases i with
   | zero =>
    simp only [List.getElem?_cons_zero,E1] at hi
    subst hi;exact (gh ho.2 b (DB hj)).2.2.2.2
   | succ i =>
    rw [List.getElem?_cons_succ] at hi;exact ih ho.2 (by omega) hi hj
theorem yV {h:List Ent} {last r:Int} {k:Nat} {x:Ent} (ho:okV last h) (hp:aW h r<h.length) (hk:h[k]? = some x):decide (x.rep ≥ r)=decide (aW h r≤k):=by
 obtain ⟨e,he,hr⟩:=yX hp;rcases Nat.lt_trichotomy k (aW h r) with h1 | h1 | h1
 ·have:=qq ho h1 hk he;rw [Dx (by omega),Dx (by omega)]
 ·rw [h1] at hk;obtain rfl:=Dr (hk.symm.trans he);rw [DX (by omega),DX (by omega)]
 ·have:=qq ho h1 he hk;rw [DX (by omega),DX (by omega)]
def n5 (w:World) (B X:Nat) (v:Value) (r:Int):Prop:=w.cell? ⟨B,1,none⟩=some v∧w.cell? ⟨X,1,none⟩=some (.int .i64 r)
theorem ug (k B X:Nat) (a:Option Addr) (n c:Nat) (h:List Ent) (r:Int) (q:Bool) (x:Ent) (w:World) (hs:n5 w B X (.slice a n c) r) (hv:ae w (.slice a n c) h) (hn:n=h.length) (hk:h[k]? = some x) (hq:decide (x.rep ≥ r)=q) :
 Calls Tryz.prog 49 #[.int .i64 k,.pointer (some ⟨B,0,none⟩),.pointer (some ⟨X,0,none⟩)] w fun e w'=>e=.returned (.bool q)∧∃ m,w'=w.drewN m:=by
 obtain ⟨a1,c1,e1,f1⟩:=hv.form;injection e1 with e1 _ e3
 subst e1 e3;obtain ⟨b1,o1,rfl,hb1,p0,p1⟩:=f1 k x hk;obtain ⟨s0,s1⟩:=hs;have hk1:(k:Int)<(n:Int):=by have:=(Do.1 hk).1;omega
 have hk0:(0:Int)≤(k:Int):=by omega
 clear f1 hv hk hn;go_enter Tryz.func49,Tryz.ntmps49
 go_wp2
 go_quiet (fail)
 go_wp2;go_ret;exact ⟨by first | rfl | (rw [hq]),_,rfl⟩
theorem AG (B X:Nat) (a:Option Addr) (n c:Nat) (h:List Ent) (last r:Int) (p:Nat) (w:World) (hs:n5 w B X (.slice a n c) r) (hv:ae w (.slice a n c) h) (hn:n=h.length) (hl:n≤1000) (ho:okV last h) (hp:aW h r=p) (hpl:p<n) :
 Calls Tryz.prog 48 #[.int .i64 n,.func (.func 49) #[] #[.pointer (some ⟨B,0,none⟩),.pointer (some ⟨X,0,none⟩)]] w fun e w'=>e=.returned (.int .i64 p)∧∃ m,w'=w.drewN m:=by
 have HS:=hid hs;have HV:=hid hv;have HN:=hid hn;have HO:=hid ho;have HP:=hid hp;clear hs hv hn ho hp;go_enter Tryz.func48,Tryz.ntmps48
 go_wp2
 go_loopw [5,6] (fun i j wr=>∃ k e:Nat,i=.int .i64 k∧j=.int .i64 e∧k≤p∧p≤e∧e≤n∧∃ m,wr=w.drewN m) (fun i j _=>(intOf j-intOf i).toNat)
 case atStart=>exact ⟨0,n,rfl,rfl,by omega,by omega,by omega,0,rfl⟩
 case round =>
  obtain ⟨k,e,rfl,rfl,h1,h2,h3,m,rfl⟩:=hrel;by_cases hlt:k<e
  ·obtain ⟨d,hd⟩:∃ d,d=(k+e) / 2:=⟨_,rfl⟩;obtain ⟨x, hx⟩ : ∃ x, h[d]? = some x := ⟨h[d]'(by have := HN.out; omega), Di _⟩;have hc:decide (x.rep ≥ r)=decide (p≤d):=by
    rw [←HP.out];exact yV HO.out (by rw [HP.out,←HN.out];omega) hx
   have HX:=hid hx;have HC:=hid hc;clear hx hc;go_wp2_with fail
   rw [show ((k:Int)+(e:Int)) / 2=(d:Int) by omega];have HM:Hid (∀ q,decide (p≤d)=q→Calls Tryz.prog 49 #[.int .i64 d,.pointer (some ⟨B,0,none⟩),.pointer (some ⟨X,0,none⟩)] (w.drewN m) fun e w'=>e=.returned (.bool q)∧∃ m2,w'=(w.drewN m).drewN m2):=hid (fun q hq=>ug d B X a n c h r q x _ HS.out (HV.out.drewN m) HN.out HX.out (HC.out.trans hq));by_cases hle:p≤d
   ·refine (HM.out true (DX hle)).mono ?_;rintro rr w2 ⟨rfl,m2,rfl⟩;rw [World.drewN_drewN];go_wp2;go_roundw
    case rel=>exact ⟨k,d,rfl,by go_num,h1,hle,by omega,_,rfl⟩
    case measure=>simp [intOf];omega
   ·refine (HM.out false (Dx hle)).mono ?_;rintro rr w2 ⟨rfl,m2,rfl⟩;rw [World.drewN_drewN];go_wp2;go_roundw
    case rel=>exact ⟨d+1,e,by go_num,rfl,by omega,h2,h3,_,rfl⟩
    case measure=>simp [intOf];omega
  ·obtain rfl:k=p:=by omega
   go_wp2;go_ret;exact ⟨rfl,_,rfl⟩
end
