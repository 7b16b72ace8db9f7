import Derived.Test.YtdhognaoejiglaaGreatDoorKb27
namespace Go.Proofs.YtdhognaoejiglaaGreatDoor
open Lib (hid)
set_option maxRecDepth 100000
set_option maxHeartbeats 8000000
section
open Go.RowKit
def iw (w:World) (r:List UInt8×Nat×Int) (e:Ending) (w':World):Prop :=
 Below w.heap.size w w'∧((r.2=(0,-1)∧e=.returned (.string ⟨r.1.toArray⟩))∨(r.2.1≠0∧r.1=[]∧∃ t v,e=.panicked [{ v:=.iface t v,recovered:=false }]∧ax w' (.iface t v) r.2))
def WU (w1:World) (vt vn:Value) (T:List ByteArray) (N:List Nat) (pre:List UInt8) (wr:World):Prop :=
 bQ wr w1.heap.size w1.heap.size pre∧Below w1.heap.size w1 wr∧ai wr (w1.heap.size+1) vt T∧aU wr (w1.heap.size+1) vn N
theorem WU.lt {w1 wr:World} {vt vn:Value} {T:List ByteArray} {N:List Nat} {pre:List UInt8} (h:WU w1 vt vn T N pre wr):w1.heap.size<wr.heap.size:=h.1.lt.2
theorem WU.calls {w1 wr w':World} {vt vn:Value} {T:List ByteArray} {N:List Nat} {pre:List UInt8} (h:WU w1 vt vn T N pre wr) (hb:Below wr.heap.size wr w'):WU w1 vt vn T N pre w' :=
 ⟨h.1.below hb,h.2.1.trans (hb.mono h.2.1.size),h.2.2.1.below hb,h.2.2.2.below hb⟩
theorem WU.alloc {w1 wr:World} {vt vn:Value} {T:List ByteArray} {N:List Nat} {pre:List UInt8} (h:WU w1 vt vn T N pre wr) (o:Obj):WU w1 vt vn T N pre (wr.alloc o):=h.calls ((Below.refl _ _).alloc (Nat.le_refl _) o)
theorem WU.put {w1 wr w':World} {vt vn:Value} {T:List ByteArray} {N:List Nat} {pre pre':List UInt8} (h:WU w1 vt vn T N pre wr) (h1:bQ w' w1.heap.size w1.heap.size pre') (hb:Below w1.heap.size wr w') (hn:NonB w1.heap.size wr w'):WU w1 vt vn T N pre' w' :=
 ⟨h1,h.2.1.trans hb,NonB.row hn h.2.2.1 (by decide) (fun e=>by have:=(h.2.2.1.lt _ e).1;omega),NonB.row hn h.2.2.2 (by decide) (fun e=>by have:=(h.2.2.2.lt _ e).1;omega)⟩
def WQ (w1:World) (vt vn:Value) (T:List ByteArray) (N:List Nat) (Q:Nat) (x:Wr) (pre:List UInt8) (wr:World):Prop :=
 WU w1 vt vn T N pre wr∧cU wr Q x∧w1.heap.size<Q
theorem WQ.calls {w1 wr w':World} {vt vn:Value} {T:List ByteArray} {N:List Nat} {Q:Nat} {x:Wr} {pre:List UInt8} (h:WQ w1 vt vn T N Q x pre wr) (hb:Below wr.heap.size wr w'):WQ w1 vt vn T N Q x pre w' :=
 ⟨h.1.calls hb,(hb.block Q (Array.getElem?_eq_some_iff.1 h.2.1).1).trans h.2.1,h.2.2⟩
theorem WQ.put {w1 wr w':World} {vt vn:Value} {T:List ByteArray} {N:List Nat} {Q:Nat} {x:Wr} {pre pre':List UInt8} (h:WQ w1 vt vn T N Q x pre wr) (h1:bQ w' w1.heap.size w1.heap.size pre') (hb:Below w1.heap.size wr w') (hn:NonB w1.heap.size wr w'):WQ w1 vt vn T N Q x pre' w' :=
 ⟨h.1.put h1 hb hn,(hn Q (Array.getElem?_eq_some_iff.1 h.2.1).1 (by have:=h.2.2;omega) (fun cs fz hc=>by rw [h.2.1] at hc;injection hc with hc;injection hc with _ ht;exact absurd ht (by decide))).trans h.2.1,h.2.2⟩
theorem WQ.cells {w1 wr:World} {vt vn:Value} {T:List ByteArray} {N:List Nat} {Q:Nat} {x:Wr} {pre:List UInt8} (h:WQ w1 vt vn T N Q x pre wr):wrAt wr Q x.time x.rep x.kind x.key x.value x.n :=
 ⟨cell_of_row _ _ 0 _ _ _ h.2.1,cell_of_row _ _ 1 _ _ _ h.2.1,cell_of_row _ _ 2 _ _ _ h.2.1,cell_of_row _ _ 3 _ _ _ h.2.1,cell_of_row _ _ 4 _ _ _ h.2.1,cell_of_row _ _ 5 _ _ _ h.2.1⟩
theorem qs (v:Value) (l:List Ent) (T:ByteArray) (w:World) (hv:ae w v l) (hl:l.length≤9223372036854775807) (hr:aB l) (hT:aG l=T.data.toList) :
 Calls Tryz.prog 141 #[v] w fun e w'=>e=.returned (.tuple #[.string T,.nilIface])∧Below w.heap.size w w' :=
 (FT v l w hv hl).mono fun e w' ⟨err,h1,h2,h3⟩=>by
  have h0:=(bO l).2 hr;obtain rfl:=h2.nil h0;refine ⟨?_,h3⟩;rw [h1,show ed l=aG l by unfold ed;rw [if_pos h0],hT,bW]
theorem xM (x:Wr) (B:ByteArray) (w:World) (h:wE x=0) (hB:bc x.kind x.value x.n=B) :
 Calls Tryz.prog 118 #[.agg #[.int .i64 x.time,.int .i64 x.rep,.int .i64 x.kind,.string x.key,.string x.value,.int .i64 x.n]] w fun e w'=>e=.returned (.tuple #[.string B,.nilIface])∧Below w.heap.size w w':=by
 have hf:=cL h;refine (vZ x.time x.rep x.kind x.key x.value x.n w (by omega) (by omega)).mono ?_;rintro e w' ⟨rfl,hb⟩;refine ⟨?_,hb⟩;rw [oM h,hB];rfl
theorem iC (vf vh vw:Value) (f h:List Ent) (l:List Wr) (e:Nat) (pl:Int) (w:World) (hx:aC w vf vh vw f h l) (hg:errT w) (hb:batF f h l=(e,pl)) :
 Calls Tryz.prog 28 #[.agg #[vf,vh,vw]] w (iu w (e,pl)):=by
 rw [←hb];exact qq vf vh vw f h l w hx hg
theorem GE (vf vh vw:Value) (f h:List Ent) (l:List Wr) (w:World) (hx:aC w vf vh vw f h l) (hg:errT w) (h0:(batF f h l).1≠0) :
 Calls Tryz.prog 112 #[.agg #[vf,vh,vw]] w (iw w (aJ f h l)):=by
 obtain ⟨W0,hW0⟩:∃ W0,w.alloc (.cells #[vf,vh,vw] 47)=W0:=⟨_,rfl⟩;have hb0:Below w.heap.size w W0:=by rw [←hW0];exact (Below.refl _ _).alloc (Nat.le_refl _) _
 have HX:Hid (aC W0 vf vh vw f h l):=hid (by rw [←hW0];exact hx.alloc _);have HG:Hid (errT W0):=hid (by rw [←hW0];exact hg.alloc _);obtain ⟨c0,c1,c2⟩:=eV w vf vh vw 47;rw [hW0] at c0 c1 c2;obtain ⟨af,cf,rfl,_⟩:=hx.1.form;obtain ⟨ah,ch,rfl,_⟩:=hx.2.1.form;obtain ⟨aw,cw,rfl,_⟩:=hx.2.2.1.form;generalize f.length=nf at hW0 HX c0 ⊢;generalize h.length=nh at hW0 HX c1 ⊢;generalize l.length=n at hW0 HX c2 ⊢;have HF:=hid (mH h0);have H0:=hid h0;have HB0:=hid hb0;clear hx hg hb0 h0;go_enter Tryz.func112,Tryz.ntmps112
 go_wp2_with fail
 refine (qq _ _ _ f h l _ HX.out HG.out).mono ?_;rintro r w1 ⟨err,rfl,hat,hb1⟩;obtain ⟨t,u,rfl⟩:=hat.iface H0.out;have HA:=hid hat;have HB1:=hid (HB0.out.trans (hb1.mono HB0.out.size));clear hat hb1 c0 c1 c2;go_wp2_with fail
 refine (jY t u _).mono ?_;rintro r w2 ⟨rfl,rfl⟩;refine And.intro rfl ⟨HB1.out,.inr ⟨?_,?_,t,u,rfl,?_⟩⟩
 ·rw [HF.out];exact H0.out
 ·rw [HF.out]
 ·rw [HF.out];exact HA.out
theorem fe {pre rest L:List UInt8} (h:pre++rest=L) (hL:L.length≤40000):pre.length≤1000000:=by
 have:=congrArg List.length h;rw [List.length_append] at this;omega
theorem EN {T:List ByteArray} {k:Nat} {s:ByteArray} (h:T[k]? = some s) (pre:List UInt8):pre++bA (T.drop k)=(pre++bT s.data.toList)++bA (T.drop (k+1)):=by
 obtain ⟨hk,e⟩:=List.getElem?_eq_some_iff.1 h;rw [List.drop_eq_getElem_cons hk,e,ju,List.append_assoc]
theorem Dw {h:List Ent} {T:List ByteArray} {l:List Wr} {N:List Nat} {k:Nat} {ahead:Int} {x:Wr} (hx:l[k]? = some x) (ho:dI h T ahead (l.drop k) (N.drop k)) :
 ∃ n,N[k]? = some n∧(wE x=0∧ahead≤x.time∧bF h x.rep<h.length∧T[n]? = some x.key)∧dI h T x.time (l.drop (k+1)) (N.drop (k+1))∧rowB h ahead (l.drop k) (N.drop k)=oneB h ahead x n++rowB h x.time (l.drop (k+1)) (N.drop (k+1)):=by
 obtain ⟨hk,e⟩:=List.getElem?_eq_some_iff.1 hx;rw [List.drop_eq_getElem_cons hk,e] at ho ⊢
 match hN:N.drop k with
 | []=>rw [hN] at ho;exact absurd ho id
 | n::M =>
  rw [hN] at ho;have hnk:k<N.length:=by
   rcases Nat.lt_or_ge k N.length with h' | h'
   ·exact h'
   ·rw [List.drop_of_length_le h'] at hN;cases hN
  rw [List.drop_eq_getElem_cons hnk] at hN;injection hN with h1 h2
  subst h2;exact ⟨n,by rw [←h1];exact List.getElem?_eq_getElem hnk,ho.1,ho.2,rfl⟩
theorem GF (vf vh vw:Value) (f h:List Ent) (l:List Wr) (w:World) (hx:aC w vf vh vw f h l) (hg:errT w) (hr:aY f h l) :
 Calls Tryz.prog 112 #[.agg #[vf,vh,vw]] w (iw w (aJ f h l)):=by
 have h0:(batF f h l).1=0:=hr;have hb:=dX.1 hr;obtain ⟨⟨g1,g2,g3⟩,g4,g5,g6⟩:=hb;obtain ⟨t1,t2⟩:=uj hr;have hrow:=tv hr;have hkk:∀ s∈aN l,s.size≤140737488351232:=fun s hs=>by
  obtain ⟨x,hx,rfl⟩:=List.mem_map.1 hs;have:=cL (g5 x hx).1;omega
 have HKK:=hid hkk;obtain ⟨T1,hT1⟩:∃ T1:ByteArray,aG f=T1.data.toList:=⟨⟨(aG f).toArray⟩,rfl⟩;obtain ⟨T2,hT2⟩:∃ T2:ByteArray,aG h=T2.data.toList:=⟨⟨(aG h).toArray⟩,rfl⟩;have s1:T1.size≤500:=by rw [aj,←hT1];exact (pq g1).1
 have s2:T2.size≤500:=by rw [aj,←hT2];exact (pq g2).1
 obtain ⟨T,hT⟩:∃ T,tabK [] (aN l)=T:=⟨_,rfl⟩;obtain ⟨N,hN⟩:∃ N,atK [] (aN l)=N:=⟨_,rfl⟩;obtain ⟨L,hL⟩:∃ L,aK f h l=L:=⟨_,rfl⟩;have HL:Hid (T1.data.toList++T2.data.toList++putL T.length++bA T++putL l.length++rowB h 0 l N=L):=hid (show _=_ by rw [←hL,←hT,←hN,←hT1,←hT2];rfl);rw [hT] at t1 t2;rw [hT,hN] at hrow;have hrl:=Ds (by have:=g2.1;omega) (by omega) l 0 N (Int.le_refl _) hrow;have htl:=EL t1;have hLL:L.length≤40000:=by
  rw [←HL.out];have:=aI (n:=T.length) (by omega);have:=aI (n:=l.length) (by omega);simp only [List.length_append,←aj]
  omega
 have hLP:L≠[]:=by
  rw [←HL.out];have h1:=ia l.length;intro hh;have h2:=congrArg List.length hh;simp only [List.length_append,List.length_nil] at h2
  omega
 have HTK:=hid hT;have HNK:=hid hN;have HLB:=hid hL;have HT1:=hid hT1;have HT2:=hid hT2;have HR:=hid hr;have HG1:=hid g1;have HG2:=hid g2;have HTS:=hid t1;have HROW:=hid hrow;have HLL:=hid hLL;have HLP:=hid hLP;have hbf:=xw h0;have HBF:=hid hbf;clear g1 g2 g3 g5 g6 t1 hrow hkk hT1 hT2 hT hN hL hrl htl hLL hLP hbf hr;obtain ⟨W0,hW0⟩:∃ W0,w.alloc (.cells #[vf,vh,vw] 47)=W0:=⟨_,rfl⟩;have hb0:Below w.heap.size w W0:=by rw [←hW0];exact (Below.refl _ _).alloc (Nat.le_refl _) _
 have hz0:w.heap.size<W0.heap.size:=by rw [←hW0];simp
 have HX:Hid (aC W0 vf vh vw f h l):=hid (by rw [←hW0];exact hx.alloc _);have HG:Hid (errT W0):=hid (by rw [←hW0];exact hg.alloc _);have hc:=eV w vf vh vw 47;rw [hW0] at hc;have HC:=hid hc;have HZ0:=hid hz0;obtain ⟨af,cf,rfl,_⟩:=hx.1.form;obtain ⟨ah,ch,rfl,_⟩:=hx.2.1.form;obtain ⟨aw,cw,rfl,_⟩:=hx.2.2.1.form;obtain ⟨n,hn⟩:∃ n,n=l.length:=⟨_,rfl⟩;obtain ⟨nf,hnf⟩:∃ n,n=f.length:=⟨_,rfl⟩;obtain ⟨nh,hnh⟩:∃ n,n=h.length:=⟨_,rfl⟩;rw [←hn,←hnf,←hnh] at hW0 HX HC ⊢;rw [←hn] at g4 HL;have HNL:=hid hn;have HNF:=hid hnf;have HNH:=hid hnh;have HB0:=hid hb0;clear hx hg hb0 h0 hc hz0 hn hnf hnh;obtain ⟨c0,c1,c2⟩:=HC.out;go_enter Tryz.func112,Tryz.ntmps112
 go_wp2_with fail
 refine (iC _ _ _ f h l 0 (-1) _ HX.out HG.out HBF.out).mono ?_;rintro r w1 ⟨err,rfl,hat,hb1⟩;obtain rfl:=hat.nil rfl;have HX1:=hid (HX.out.below hb1);have HB1:Hid (Below w.heap.size w w1):=HB0.out.trans (hb1.mono HB0.out.size);have HC1:=hid (HC.out.below hb1 HZ0.out);have HZ1:Hid (w.heap.size<w1.heap.size):=hid (Nat.lt_of_lt_of_le HZ0.out hb1.size);clear hat hb1 c0 c1 c2 hW0 HX HC HZ0 HB0 HG;go_wp2_with fail
 refine (qr _).mono ?_;rintro r w' ⟨rfl,rfl⟩;obtain ⟨wa,hwa⟩:∃ wa,w1.alloc (.cells #[.pointer none,.slice none 0 0] 195)=wa:=⟨_,rfl⟩;have HS0:Hid (WU w1 (.slice none 0 0) (.slice none 0 0) [] [] [] wa):=hid (by rw [←hwa];exact ⟨FZ w1 _ (Nat.le_refl _),(Below.refl _ _).alloc (Nat.le_refl _) _,dv _ _,hZ _ _⟩);have HXW:Hid (∀ w',Below w1.heap.size w1 w'→aC w' (.slice af nf cf) (.slice ah nh ch) (.slice aw n cw) f h l):=hid (fun w' hb=>HX1.out.below hb);have HCW:Hid (∀ w',Below w1.heap.size w1 w'→fp w' w.heap.size (.slice af nf cf) (.slice ah nh ch) (.slice aw n cw)):=hid (fun w' hb=>HC1.out.below hb HZ1.out);clear HC1;have HP0:Hid (T1.data.toList++(T2.data.toList++(putL T.length++(bA T++(putL n++rowB h 0 l N))))=L):=hid (by rw [←HL.out];simp);obtain ⟨c0,c1,c2⟩:=HCW.out _ HS0.out.2.1;go_wp2_with fail
 refine (qs _ f T1 wa (HXW.out _ HS0.out.2.1).1 (by have:=HNF.out;have:=HG1.out.1;omega) HG1.out HT1.out).mono ?_;rintro r w2 ⟨rfl,hb2⟩;have HS1:=hid (HS0.out.calls hb2);clear hb2 c0 c1 c2 HS0 hwa;go_wp2_with fail
 refine (mm w1.heap.size w1.heap.size [] T1 w2 HS1.out.1 (by simp) (by omega) (Nat.le_of_lt HS1.out.lt)).mono ?_;rintro r w3 ⟨rfl,hbl,hb3,hn3⟩;rw [List.nil_append] at hbl;have HS2:=hid (HS1.out.put hbl hb3 hn3);obtain ⟨c0,c1,c2⟩:=HCW.out _ HS2.out.2.1;clear hbl hb3 hn3 HS1;go_wp2_with fail
 refine (qs _ h T2 w3 (HXW.out _ HS2.out.2.1).2.1 (by have:=HNH.out;have:=HG2.out.1;omega) HG2.out HT2.out).mono ?_;rintro r w4 ⟨rfl,hb4⟩;have HS3:=hid (HS2.out.calls hb4);clear hb4 c0 c1 c2 HS2;go_wp2_with fail
 refine (mm w1.heap.size w1.heap.size T1.data.toList T2 w4 HS3.out.1 (fe HP0.out HLL.out) (by omega) (Nat.le_of_lt HS3.out.lt)).mono ?_;rintro r w5 ⟨rfl,hbl,hb5,hn5⟩;obtain ⟨p1,hp1⟩:∃ p,T1.data.toList++T2.data.toList=p:=⟨_,rfl⟩;rw [hp1] at hbl;have HP1:Hid (p1++(putL T.length++(bA T++(putL n++rowB h 0 l N)))=L):=hid (by rw [←HP0.out,←hp1];simp);have HS4:=hid (HS3.out.put hbl hb5 hn5);obtain ⟨c0,c1,c2⟩:=HCW.out _ HS4.out.2.1;clear hbl hb5 hn5 HS3 hp1;go_wp2_with fail
 refine (Ao _ l w5 (HXW.out _ HS4.out.2.1).2.2.1 (by have:=HNL.out;omega)).mono ?_;rintro r w6 ⟨u,rfl,hou,hb6⟩;have HS5:=hid (HS4.out.calls hb6);have HU:=hid hou;clear hb6 hou c0 c1 c2 HS4;go_wp2_with fail
 refine (Az u (aN l) w6 HU.out.isTexts (by have:=HNL.out;unfold aN;rw [List.length_map];omega) HKK.out).mono ?_;rintro r w7 ⟨vt,vn,rfl,ho1,ho2,hb7⟩;rw [HTK.out] at ho1;rw [HNK.out] at ho2;have HS6:Hid (WU w1 vt vn T N p1 w7):=hid ⟨HS5.out.1.below hb7,HS5.out.2.1.trans (hb7.mono HS5.out.2.1.size),ho1.mono (by have:=HS5.out.lt;omega),ho2.mono (by have:=HS5.out.lt;omega)⟩;obtain ⟨m,hm⟩:∃ m,m=T.length:=⟨_,rfl⟩;obtain ⟨at_,ct,rfl,_,_⟩:=ho1.isTexts;obtain ⟨an,cn,rfl,_,_⟩:=ho2.isNums;have hNl:(N.map Int.ofNat).length=n:=by rw [List.length_map,BX _ _ _ HROW.out];exact HNL.out.symm
 rw [hNl] at HS6 ⊢;rw [←hm] at HS6 HP1 t2 ⊢;have HM:=hid hm;clear hb7 ho1 ho2 HS5 HU hm hNl;go_wp2_with fail
 refine (jC w1.heap.size w1.heap.size m p1 w7 HS6.out.1 (by omega) (fe HP1.out HLL.out) (Nat.le_of_lt HS6.out.lt)).mono ?_;rintro r w8 ⟨rfl,hbl,hb8,hn8⟩;obtain ⟨p2,hp2⟩:∃ p,p1++putL m=p:=⟨_,rfl⟩;rw [hp2] at hbl;have HP2:Hid (p2++(bA T++(putL n++rowB h 0 l N))=L):=hid (by rw [←HP1.out,←hp2];simp);have HS7:=hid (HS6.out.put hbl hb8 hn8);clear hbl hb8 hn8 HS6 hp2;go_wp2
 go_loopw [38] (fun i wr=>∃ (k:Nat) (pre:List UInt8),k≤m∧i=.int .i64 k∧pre++(bA (T.drop k)++(putL n++rowB h 0 l N))=L∧WU w1 (.slice at_ m ct) (.slice an n cn) T N pre wr) (fun i _=>m-(intOf i).toNat)
 case atStart=>exact ⟨0,p2,Nat.zero_le _,rfl,by rw [List.drop_zero];exact HP2.out,HS7.out⟩
 case round =>
  obtain ⟨k,pre,hk,rfl,hpre,hws⟩:=hrel;have HS:=hid hws;have HP:=hid hpre;clear hpre hws;by_cases hlt:k<m
  ·obtain ⟨s, hs⟩ : ∃ s, T[k]? = some s := ⟨T[k]'(by have := HM.out; omega), List.getElem?_eq_getElem _⟩;obtain ⟨a',c',he,_,hce⟩:=HS.out.2.2.1.isTexts;obtain ⟨rfl,hmm,rfl⟩:=Value.slice.inj he;clear hmm;obtain ⟨b1,o1,rfl,hb1,q0⟩:=hce k s hs;have hsz:=HTS.out s (List.mem_of_getElem? hs);obtain ⟨S,hS⟩:∃ S,dK s=S:=⟨_,rfl⟩;have hSs:S.size≤60:=by rw [←hS,lS];have:=aI (n:=s.size) (by omega);omega
   have HPS:Hid (pre++(bT s.data.toList++(bA (T.drop (k+1))++(putL n++rowB h 0 l N)))=L):=hid (by rw [←HP.out];have:=EN hs [];rw [List.nil_append,List.nil_append] at this;rw [this];simp);have HSD:Hid (bT s.data.toList=S.data.toList):=hid (by rw [←hS,lR]);have HSS:=hid hS;clear he hce hs hS;go_wp2_with fail
   refine (oI s wr (by omega)).mono ?_;rintro r w9 ⟨rfl,hb9⟩;rw [HSS.out];have HSa:=hid (HS.out.calls hb9);clear hb9 q0 HS;go_wp2_with fail
   refine (mm w1.heap.size w1.heap.size pre S w9 HSa.out.1 (fe HP.out HLL.out) (by omega) (Nat.le_of_lt HSa.out.lt)).mono ?_;rintro r w10 ⟨rfl,hbl,hb10,hn10⟩;obtain ⟨p3,hp3⟩:∃ p,pre++S.data.toList=p:=⟨_,rfl⟩;rw [hp3] at hbl;have HP3:Hid (p3++(bA (T.drop (k+1))++(putL n++rowB h 0 l N))=L):=hid (by rw [←HPS.out,←hp3,HSD.out];simp);have HSb:=hid (HSa.out.put hbl hb10 hn10);clear hbl hb10 hn10 HSa hp3;go_wp2;go_roundw
   case rel=>exact ⟨k+1,p3,by omega,by go_num,HP3.out,HSb.out⟩
   case measure=>simp [intOf];omega
  ·have HP4:Hid (pre++(putL n++rowB h 0 l N)=L):=hid (by rw [←HP.out,List.drop_of_length_le (by have:=HM.out;omega)];simp [bA]);obtain ⟨c0,c1,c2⟩:=HCW.out _ HS.out.2.1;clear HP;go_wp2_with fail
   refine (jC w1.heap.size w1.heap.size n pre wr HS.out.1 (by omega) (fe HP4.out HLL.out) (Nat.le_of_lt HS.out.lt)).mono ?_;rintro r w9 ⟨rfl,hbl,hb9,hn9⟩;obtain ⟨p5,hp5⟩:∃ p,pre++putL n=p:=⟨_,rfl⟩;rw [hp5] at hbl;have HP5:Hid (p5++rowB h 0 l N=L):=hid (by rw [←HP4.out,←hp5];simp);have HSb:=hid (HS.out.put hbl hb9 hn9);obtain ⟨c0,c1,c2⟩:=HCW.out _ HSb.out.2.1;clear hbl hb9 hn9 HS hp5 HP4;have HLF:=hid (HX1.out.2.2.1.form);go_wp2
   go_loopw [8,55] (fun a i wr=>∃ (k:Nat) (A:Int) (pre:List UInt8),k≤n∧i=.int .i64 k∧a=.int .i64 A∧0≤A∧dI h T A (l.drop k) (N.drop k)∧pre++rowB h A (l.drop k) (N.drop k)=L∧WU w1 (.slice at_ m ct) (.slice an n cn) T N pre wr) (fun _ i _=>n-(intOf i).toNat)
   case atStart=>exact ⟨0,0,p5,Nat.zero_le _,rfl,rfl,Int.le_refl _,by rw [List.drop_zero,List.drop_zero];exact HROW.out,by rw [List.drop_zero,List.drop_zero];exact HP5.out,HSb.out⟩
   case round =>
    obtain ⟨j,A,pre,hj,rfl,rfl,hA0,hro,hpre,hws⟩:=hrel;have HS:=hid hws;have HP:=hid hpre;have HRO:=hid hro;clear hpre hws hro;by_cases hlj:j<n
    ·obtain ⟨x, hx⟩ : ∃ x, l[j]? = some x := ⟨l[j]'(by have := HNL.out; omega), List.getElem?_eq_getElem _⟩;obtain ⟨nn,hnn,⟨hw,hAx,hpl,hkey⟩,hro2,hrow2⟩:=Dw hx HRO.out;have hf:=cL hw;have hnnT:nn<T.length:=(List.getElem?_eq_some_iff.1 hkey).1;obtain ⟨a3,c3,he,hfo⟩:=HLF.out;obtain ⟨rfl,hmm,rfl⟩:=Value.slice.inj he;clear hmm he;obtain ⟨b1,o1,rfl,hb1,p0,p1,p2,p3,p4,p5⟩:=hfo j x hx;have q0:=(HS.out.2.1.cell (p:=⟨b1,o1+j * 6,none⟩) hb1).trans p0;have q1:=(HS.out.2.1.cell (p:=⟨b1,o1+j * 6+1,none⟩) hb1).trans p1;have q2:=(HS.out.2.1.cell (p:=⟨b1,o1+j * 6+2,none⟩) hb1).trans p2;have q3:=(HS.out.2.1.cell (p:=⟨b1,o1+j * 6+3,none⟩) hb1).trans p3;have q4:=(HS.out.2.1.cell (p:=⟨b1,o1+j * 6+4,none⟩) hb1).trans p4;have q5:=(HS.out.2.1.cell (p:=⟨b1,o1+j * 6+5,none⟩) hb1).trans p5;obtain ⟨pp,hpp⟩:∃ pp,bF h x.rep=pp:=⟨_,rfl⟩;obtain ⟨d,hd⟩:∃ d,(x.time-A).toNat=d:=⟨_,rfl⟩;obtain ⟨TB,hTB⟩:∃ TB,bc x.kind x.value x.n=TB:=⟨_,rfl⟩;obtain ⟨K,hK⟩:=Int.eq_ofNat_of_zero_le (show 0≤x.kind by omega);obtain ⟨c,hc⟩:∃ c,UInt8.ofNat K=c:=⟨_,rfl⟩;have hct:c.toNat=K:=by rw [←hc];exact fh (by omega)
     have hTBs:TB.size≤320:=by rw [←hTB,aj];exact hf.2.2.2.2.2.2.2.2.1
     have HONE:Hid (pre++([c]++(putL d++(putL pp++(putL nn++(TB.data.toList++rowB h x.time (l.drop (j+1)) (N.drop (j+1)))))))=L):=hid (by
      rw [←HP.out,hrow2];unfold oneB dj;rw [hpp,hd,hTB,hK];rw [show ((K:Int)).toNat=K from rfl,hc];simp)
     have HRO2:=hid hro2;have HW:=hid hw;have HPP:=hid hpp;have HTB:=hid hTB;have kw:IntKind.u8.wrap (K:Int)=(c.toNat:Int):=by rw [hct];exact IntWalk.u8_in _ (by omega)
     have kd:IntKind.i64.wrap (x.time-A)=(d:Int):=by rw [show (d:Int)=x.time-A by omega];exact IntWalk.i64_in _ (by omega)
     have hd40:d≤1099511627776:=by omega
     have hpn:pp<nh:=by rw [HNH.out,←hpp];exact hpl
     have hnh16:nh≤16:=by rw [HNH.out];exact HG2.out.1
     have hnn60:nn≤60:=by have:=HM.out;omega
     have ht0:0≤x.time:=by omega
     have hVN:∃ g,an=some ⟨g,0,none⟩∧g<wr.heap.size∧wr.heap[g]? ≠ none∧∀ w',aU w' (w1.heap.size+1) (.slice an n cn) N→w'.cell? ⟨g,j,none⟩=some (.int .i64 (nn:Int)):=by
      rcases HS.out.2.2.2.forms with ⟨hv,hnil⟩ | ⟨g,cap,hv,hbg,hgl,hcells⟩
      ·rw [hnil] at hnn;simp at hnn
      ·obtain ⟨rfl,_,_⟩:=Value.slice.inj hv;refine ⟨g,rfl,hgl,by rw [Array.getElem?_eq_getElem hgl];simp,fun w' ho=>?_⟩;rcases ho.forms with ⟨hv2,hnil⟩ | ⟨g2,cap2,hv2,_,_,hcells2⟩
       ·rw [hnil] at hnn;simp at hnn
       ·obtain ⟨hg2,_,_⟩:=Value.slice.inj hv2;have hg3:g=g2:=by simpa using hg2
        subst hg3;rw [hcells2 j (List.getElem?_eq_some_iff.1 hnn).1,List.getD_eq_getElem?_getD,hnn];rfl
     obtain ⟨g,rfl,_,_,hgc⟩:=hVN;have HGC:=hid hgc;have HTM:Hid (0≤x.time):=hid ht0;obtain ⟨Ti,R,Ki,key,val,Nn⟩:=x;dsimp only at q0 q1 q2 q3 q4 q5 HONE HRO2 HPP HTB kd hK HTM
     subst hK;obtain ⟨c0,c1,c2⟩:=HCW.out _ HS.out.2.1;have HQ0:Hid (WQ w1 (.slice at_ m ct) (.slice (some ⟨g,0,none⟩) n cn) T N wr.heap.size ⟨Ti,R,(K:Int),key,val,Nn⟩ pre (wr.alloc (.cells #[.int .i64 Ti,.int .i64 R,.int .i64 (K:Int),.string key,.string val,.int .i64 Nn] 38))):=hid ⟨HS.out.alloc _,heap_alloc_new wr _,HS.out.lt⟩;clear p0 p1 p2 p3 p4 p5 hfo hx hnn hkey hro2 hrow2 hw hf hAx hpl hpp hd hTB hc hct hgc ht0 HRO hnnT;go_wp2_with fail
     refine (FY w1.heap.size w1.heap.size pre c _ HQ0.out.1.1 (by have:=fe HONE.out HLL.out;omega) (Nat.le_of_lt HQ0.out.1.lt)).mono ?_;rintro r w11 ⟨rfl,hbl,hb,hn⟩;obtain ⟨s1_,hp⟩:∃ p,pre++[c]=p:=⟨_,rfl⟩;rw [hp] at hbl;have HE1:Hid (s1_++(putL d++(putL pp++(putL nn++(TB.data.toList++(rowB h Ti (l.drop (j+1)) (N.drop (j+1)))))))=L):=hid (by rw [←HONE.out,←hp];simp);have HQ1:=hid (HQ0.out.put hbl hb hn);obtain ⟨c0,c1,c2⟩:=HCW.out _ HQ1.out.1.2.1;obtain ⟨e0,e1,e2,e3,e4,e5⟩:=HQ1.out.cells;clear hbl hb hn hp HQ0 q0 q1 q2 q3 q4 q5;go_wp2_with fail
     refine (jC w1.heap.size w1.heap.size d s1_ w11 HQ1.out.1.1 (by omega) (fe HE1.out HLL.out) (Nat.le_of_lt HQ1.out.1.lt)).mono ?_;rintro r w12 ⟨rfl,hbl,hb,hn⟩;obtain ⟨s2_,hp⟩:∃ p,s1_++putL d=p:=⟨_,rfl⟩;rw [hp] at hbl;have HE2:Hid (s2_++(putL pp++(putL nn++(TB.data.toList++(rowB h Ti (l.drop (j+1)) (N.drop (j+1))))))=L):=hid (by rw [←HE1.out,←hp];simp);have HQ2:=hid (HQ1.out.put hbl hb hn);obtain ⟨c0,c1,c2⟩:=HCW.out _ HQ2.out.1.2.1;obtain ⟨e0,e1,e2,e3,e4,e5⟩:=HQ2.out.cells;clear hbl hb hn hp HQ1;go_wp2_with fail
     refine (xK _ h R pp w12 (HXW.out _ HQ2.out.1.2.1).2.1 (by have:=HNH.out;omega) HPP.out (by have:=HNH.out;omega)).mono ?_;rintro r w13 ⟨rfl,hb⟩;have HQ3:=hid (HQ2.out.calls hb);clear hb HQ2 c0 c1 c2 e0 e1 e2 e3 e4 e5;go_wp2_with fail
     refine (jC w1.heap.size w1.heap.size pp s2_ w13 HQ3.out.1.1 (by omega) (fe HE2.out HLL.out) (Nat.le_of_lt HQ3.out.1.lt)).mono ?_;rintro r w14 ⟨rfl,hbl,hb,hn⟩;obtain ⟨s4_,hp⟩:∃ p,s2_++putL pp=p:=⟨_,rfl⟩;rw [hp] at hbl;have HE4:Hid (s4_++(putL nn++(TB.data.toList++(rowB h Ti (l.drop (j+1)) (N.drop (j+1)))))=L):=hid (by rw [←HE2.out,←hp];simp);have HQ4:=hid (HQ3.out.put hbl hb hn);obtain ⟨c0,c1,c2⟩:=HCW.out _ HQ4.out.1.2.1;obtain ⟨e0,e1,e2,e3,e4,e5⟩:=HQ4.out.cells;clear hbl hb hn hp HQ3;have q6:=HGC.out _ HQ4.out.1.2.2.2;go_wp2_with fail
     refine (jC w1.heap.size w1.heap.size nn s4_ w14 HQ4.out.1.1 (by omega) (fe HE4.out HLL.out) (Nat.le_of_lt HQ4.out.1.lt)).mono ?_;rintro r w15 ⟨rfl,hbl,hb,hn⟩;obtain ⟨s5_,hp⟩:∃ p,s4_++putL nn=p:=⟨_,rfl⟩;rw [hp] at hbl;have HE5:Hid (s5_++(TB.data.toList++(rowB h Ti (l.drop (j+1)) (N.drop (j+1))))=L):=hid (by rw [←HE4.out,←hp];simp);have HQ5:=hid (HQ4.out.put hbl hb hn);obtain ⟨c0,c1,c2⟩:=HCW.out _ HQ5.out.1.2.1;obtain ⟨e0,e1,e2,e3,e4,e5⟩:=HQ5.out.cells;clear hbl hb hn hp HQ4;go_wp2_with fail
     refine (xM ⟨Ti,R,(K:Int),key,val,Nn⟩ TB w15 HW.out HTB.out).mono ?_;rintro r w16 ⟨rfl,hb⟩;have HQ6:=hid (HQ5.out.calls hb);clear hb HQ5 c0 c1 c2 e0 e1 e2 e3 e4 e5 q6;go_wp2_with fail
     refine (mm w1.heap.size w1.heap.size s5_ TB w16 HQ6.out.1.1 (fe HE5.out HLL.out) (by omega) (Nat.le_of_lt HQ6.out.1.lt)).mono ?_;rintro r w17 ⟨rfl,hbl,hb,hn⟩;obtain ⟨s7_,hp⟩:∃ p,s5_++TB.data.toList=p:=⟨_,rfl⟩;rw [hp] at hbl;have HE7:Hid (s7_++(rowB h Ti (l.drop (j+1)) (N.drop (j+1)))=L):=hid (by rw [←HE5.out,←hp];simp);have HQ7:=hid (HQ6.out.put hbl hb hn);obtain ⟨c0,c1,c2⟩:=HCW.out _ HQ7.out.1.2.1;obtain ⟨e0,e1,e2,e3,e4,e5⟩:=HQ7.out.cells;clear hbl hb hn hp HQ6;go_wp2;go_roundw
     case rel=>exact ⟨j+1,Ti,s7_,by omega,by go_num,rfl,HTM.out,HRO2.out,HE7.out,HQ7.out.1⟩
     case measure=>simp [intOf];omega
    ·have HPL:Hid (pre=L):=hid (by rw [←HP.out,List.drop_of_length_le (by have:=HNL.out;omega)];simp [rowB]);rw [HPL.out] at HS;obtain ⟨z,hz⟩:∃ z,z=L.length:=⟨_,rfl⟩;have hz40:z≤40000:=by rw [hz];exact HLL.out
     have HZ:=hid hz;have HBF2:Hid (Below w.heap.size w wr):=hid (HB1.out.trans (HS.out.2.1.mono HB1.out.size));by_cases hbig:20000<z
     ·have HF:Hid (aJ f h l=([],4,-1)):=hid (jW (show (batF f h l).1=0 from HR.out) (by rw [HLB.out,←hz];exact hbig));have d1:(20000:Int)<(z:Int):=by omega
      clear hz;go_wp2_with fail
      refine (vH w1.heap.size w1.heap.size L wr HS.out.1).mono ?_;rintro r w' ⟨rfl,rfl⟩;rw [←HZ.out];go_wp2_with fail
      refine (jY _ _ _).mono ?_;rintro r w' ⟨rfl,rfl⟩;refine And.intro rfl ⟨HBF2.out,.inr ⟨?_,?_,_,_,rfl,?_⟩⟩
      ·rw [HF.out];decide
      ·rw [HF.out]
      ·rw [HF.out];exact .inr ⟨by decide,rfl,rfl⟩
     ·have HF:Hid (aJ f h l=(L,0,-1)):=hid (by rw [gI (show (batF f h l).1=0 from HR.out) (by rw [HLB.out,←hz];exact hbig),HLB.out]);have d1:(z:Int)≤20000:=by omega
      clear hz;go_wp2_with fail
      refine (vH w1.heap.size w1.heap.size L wr HS.out.1).mono ?_;rintro r w' ⟨rfl,rfl⟩;rw [←HZ.out];go_wp2_with fail
      refine (G0 w1.heap.size w1.heap.size L wr HS.out.1 HLP.out).mono ?_;rintro r w10 ⟨rfl,hb10⟩;have HB10:Hid (Below w.heap.size w w10):=hid (HBF2.out.trans (hb10.mono HB1.out.size));clear hb10;go_wp2;go_ret;refine ⟨HB10.out,.inl ⟨?_,?_⟩⟩
      ·rw [HF.out]
      ·rw [HF.out];rfl
end
section
open Go.RowKit
def db (b:List UInt8):List UInt8 :=
 if (sqL b).length<b.length then 1::(putL b.length++sqL b) else 0::(putL b.length++b)
def frmL (b:List UInt8):List UInt8:=bi (80::84::3::db b)
def unpF (i:List UInt8):List UInt8×Nat :=
 if 1<(i.getD 0 0).toNat then ([],3) else
 match intL (i.drop 1) 20000 with
 | (n,k,e)=>if e≠0 then ([],e) else
  if (i.getD 0 0).toNat=1 then
   if (aL ((i.drop 1).drop k)).1.1≠0 then ([],(aL ((i.drop 1).drop k)).1.1)
   else if (dg ((i.drop 1).drop k)).length≠n then ([],2) else (dg ((i.drop 1).drop k),0)
  else if ((i.drop 1).drop k).length≠n then ([],2) else ((i.drop 1).drop k,0)
section
variable {i:List UInt8} {n k e:Nat}
theorem Fu (h:1<(i.getD 0 0).toNat):unpF i=([],3):=by unfold unpF;rw [if_pos h]
theorem Fv (h:¬ 1<(i.getD 0 0).toNat) (h1:intL (i.drop 1) 20000=(n,k,e)) (he:e≠0):unpF i=([],e):=by
 unfold unpF;rw [if_neg h,h1];simp only;rw [if_pos he]
theorem FC (h:(i.getD 0 0).toNat=1) (h1:intL (i.drop 1) 20000=(n,k,0)) (h2:(aL ((i.drop 1).drop k)).1.1=e) (he:e≠0):unpF i=([],e):=by
 unfold unpF;rw [if_neg (by omega),h1];simp only;rw [if_neg (by simp),if_pos h,if_pos (by rw [h2];exact he),h2]
theorem Fy (h:(i.getD 0 0).toNat=1) (h1:intL (i.drop 1) 20000=(n,k,0)) (h2:(aL ((i.drop 1).drop k)).1.1=0) (h3:(dg ((i.drop 1).drop k)).length≠n):unpF i=([],2):=by
 unfold unpF;rw [if_neg (by omega),h1];simp only;rw [if_neg (by simp),if_pos h,if_neg (by rw [h2];simp),if_pos h3]
theorem vo (h:(i.getD 0 0).toNat=1) (h1:intL (i.drop 1) 20000=(n,k,0)) (h2:(aL ((i.drop 1).drop k)).1.1=0) (h3:(dg ((i.drop 1).drop k)).length=n):unpF i=(dg ((i.drop 1).drop k),0):=by
 unfold unpF;rw [if_neg (by omega),h1];simp only;rw [if_neg (by simp),if_pos h,if_neg (by rw [h2];simp),if_neg (by rw [h3];simp)]
theorem Fx (h:(i.getD 0 0).toNat=0) (h1:intL (i.drop 1) 20000=(n,k,0)) (h3:((i.drop 1).drop k).length≠n):unpF i=([],2):=by
 unfold unpF;rw [if_neg (by omega),h1];simp only;rw [if_neg (by simp),if_neg (by omega),if_pos h3]
theorem vm (h:(i.getD 0 0).toNat=0) (h1:intL (i.drop 1) 20000=(n,k,0)) (h3:((i.drop 1).drop k).length=n):unpF i=((i.drop 1).drop k,0):=by
 unfold unpF;rw [if_neg (by omega),h1];simp only;rw [if_neg (by simp),if_neg (by omega),if_neg (by rw [h3];simp)]
end
theorem Ft {i b:List UInt8} (h:unpF i=(b,0)):b.length≤20000:=by
 have hint:∀ n k,intL (i.drop 1) 20000=(n,k,0)→n≤20000:=by
  intro n k h1;unfold intL at h1;split at h1
  ·rename_i h2;injection h1 with _ h1;injection h1 with _ h1;exact absurd h1 h2
  ·split at h1
   ·injection h1 with _ h1;injection h1 with _ h1;cases h1
   ·rename_i h2;rw [h1] at h2;simp only at h2;omega
 unfold unpF at h;split at h
 ·injection h with _ h;cases h
 ·rcases hi:intL (i.drop 1) 20000 with ⟨n,k,e⟩
  rw [hi] at h;simp only at h
  split at h
  ·rename_i he;injection h with _ h;exact absurd h he
  ·rename_i he;have he0:e=0:=by simpa using he
   subst he0;have:=hint n k hi;split at h
   ·split at h
    ·rename_i h2;injection h with _ h;exact absurd h h2
    ·split at h
     ·injection h with _ h;cases h
     ·rename_i h3;injection h with h _;rw [←h];omega
   ·split at h
    ·injection h with _ h;cases h
    ·rename_i h3;injection h with h _;rw [←h];omega
theorem oc (b:List UInt8):(db b).length=1+(putL b.length).length+min (sqL b).length b.length:=by
 unfold db;by_cases h:(sqL b).length<b.length
 ·rw [if_pos h,List.length_cons,List.length_append];omega
 ·rw [if_neg h,List.length_cons,List.length_append];omega
theorem zx (b:List UInt8):(frmL b).length=8+(putL b.length).length+min (sqL b).length b.length:=by
 unfold frmL;rw [lJ,List.length_cons,List.length_cons,List.length_cons,oc];omega
theorem rT (b more:List UInt8) (h:b.length≤20000):intL (putL b.length++more) 20000=(b.length,(putL b.length).length,0) :=
 fE (fB b.length more (by omega)) (by omega)
theorem FD (b:List UInt8) (h:b.length≤20000):unpF (0::(putL b.length++b))=(b,0):=by
 have h1:=vm (i:=0::(putL b.length++b)) rfl (rT b b h) (by rw [List.drop_one,List.tail_cons,List.drop_left]);rw [h1,List.drop_one,List.tail_cons,List.drop_left]
theorem Fz (b:List UInt8) (h:b.length≤20000):unpF (1::(putL b.length++sqL b))=(b,0):=by
 obtain ⟨k1,k2⟩:=Em b h;have hd:((1::(putL b.length++sqL b)).drop 1).drop (putL b.length).length=sqL b:=by rw [List.drop_one,List.tail_cons,List.drop_left]
 have h1:=vo (i:=1::(putL b.length++sqL b)) rfl (rT b (sqL b) h) (by rw [hd,k2]) (by rw [hd,k1]);rw [h1,hd,k1]
theorem Fw (b:List UInt8) (h:b.length≤20000):unpF (db b)=(b,0):=by
 unfold db;by_cases hc:(sqL b).length<b.length
 ·rw [if_pos hc];exact Fz b h
 ·rw [if_neg hc];exact FD b h
theorem t6 (b:List UInt8):opnF (frmL b)=(3,db b,0):=by
 unfold frmL;rw [jg 3 (db b) (by rw [oc];omega),if_neg (by decide)];rfl
theorem ol {n:Nat} (h:n≤20000):(putL n).length=1+(if 128≤n then 1 else 0)+(if 16384≤n then 1 else 0):=by
 rw [D7];by_cases h1:n<128
 ·rw [lN h1,if_neg (by omega),if_neg (by omega)]
 ·rw [oB h1,if_pos (by omega)];by_cases h2:n<16384
  ·rw [lN (by omega),if_neg (by omega)]
  ·rw [oB (by omega),lN (by omega),if_pos (by omega)]
end
section
open Go.RowKit
def frmF (f h:List Ent) (l:List Wr):List UInt8×Nat×Int :=
 if (aJ f h l).2.1≠0 then ([],(aJ f h l).2) else (frmL (aJ f h l).1,0,-1)
def unfF (s:List UInt8):(Nat×Int) ⊕ (List Ent×List Ent×List Wr) :=
 match opnF s with
 | (v,i,e)=>if e≠0 then .inl (e,-1) else if v≠3 then .inl (6,-1) else
  match unpF i with
  | (b,e)=>if e≠0 then .inl (e,-1) else
   match unbF b with
   | .inl r=>.inl r
   | .inr (f,h,l)=>if frmL b≠s then .inl (13,-1) else .inr (f,h,l)
section
variable {s i b:List UInt8} {v e x:Nat} {pl:Int} {f h:List Ent} {l:List Wr}
theorem Fq (h0:opnF s=(v,i,e)) (he:e≠0):unfF s=.inl (e,-1):=by unfold unfF;rw [h0];simp only;rw [if_pos he]
theorem vj (h0:opnF s=(v,i,0)) (hv:v≠3):unfF s=.inl (6,-1):=by unfold unfF;rw [h0];simp only;rw [if_neg (by simp),if_pos hv]
theorem Fr (h0:opnF s=(3,i,0)) (h1:unpF i=(b,e)) (he:e≠0):unfF s=.inl (e,-1):=by
 unfold unfF;rw [h0];simp only;rw [if_neg (by simp),if_neg (by simp),h1];simp only;rw [if_pos he]
theorem Fm (h0:opnF s=(3,i,0)) (h1:unpF i=(b,0)) (h2:unbF b=.inl (x,pl)):unfF s=.inl (x,pl):=by
 unfold unfF;rw [h0];simp only;rw [if_neg (by simp),if_neg (by simp),h1];simp only;rw [if_neg (by simp),h2]
theorem Fo (h0:opnF s=(3,i,0)) (h1:unpF i=(b,0)) (h2:unbF b=.inr (f,h,l)) (h3:frmL b≠s):unfF s=.inl (13,-1):=by
 unfold unfF;rw [h0];simp only;rw [if_neg (by simp),if_neg (by simp),h1];simp only;rw [if_neg (by simp),h2];simp only;rw [if_pos h3]
theorem vi (h0:opnF s=(3,i,0)) (h1:unpF i=(b,0)) (h2:unbF b=.inr (f,h,l)) (h3:frmL b=s):unfF s=.inr (f,h,l):=by
 unfold unfF;rw [h0];simp only;rw [if_neg (by simp),if_neg (by simp),h1];simp only;rw [if_neg (by simp),h2];simp only;rw [if_neg (by simpa using h3)]
end
theorem zy {b:List UInt8} {f h:List Ent} {l:List Wr} (hu:unbF b=.inr (f,h,l)):frmF f h l=(frmL b,0,-1)∧aY f h l∧aK f h l=b∧b.length≤20000:=by
 obtain ⟨h1,h2,h3⟩:=Fl hu;have h4:aJ f h l=(b,0,-1):=by rw [gI h1 (by rw [h2];omega),h2]
 refine ⟨?_,h1,h2,h3⟩;unfold frmF;rw [h4];rw [if_neg (by simp)]
theorem Fp {f h:List Ent} {l:List Wr} (hr:aY f h l) (hl:(aK f h l).length≤20000):unfF (frmL (aK f h l))=.inr (f,h,l):=by
 have h1:=uT hr [] (by simpa using hl);rw [List.append_nil,if_pos rfl] at h1;exact vi (t6 _) (Fw _ hl) h1 rfl
theorem rj {f h:List Ent} {l:List Wr} {s:List UInt8} {e:Nat} {pl:Int} (h0:aJ f h l=(s,e,pl)) (he:e≠0):frmF f h l=([],e,pl):=by unfold frmF;rw [h0,if_pos he]
theorem rk {f h:List Ent} {l:List Wr} {s:List UInt8} {pl:Int} (h0:aJ f h l=(s,0,pl)):frmF f h l=(frmL s,0,-1):=by unfold frmF;rw [h0,if_neg (by simp)]
end
