import Derived.Test.YtagoidpkbloflaaGreatDoorKlq
import Derived.Test.YtagoidpkbloflaaGreatDoorKl33
import Derived.Test.YtagoidpkbloflaaGreatDoorKl25
namespace Go.Proofs.YtagoidpkbloflaaGreatDoor
open Lib (hid)
set_option maxRecDepth 100000
set_option maxHeartbeats 8000000
open Go.RowKit
theorem rk (v:Value) (l:List Ent) (U:ByteArray) (w:World) (hv:ae w v l) (hr:cG l) (hU:aC l=U.data.toList) :
 Calls Tryz.prog 46 #[v] w fun e w'=>e=.returned (.tuple #[.string U,.agg #[.int .i64 0,.int .i64 (-1)]])∧Below w.heap.size w w':=by
 refine (Av v l w hv (by have:=hr.1;omega) ((ec l).2 hr)).mono ?_;rintro e w' ⟨rfl,hb⟩;refine ⟨?_,hb⟩;rw [Cm hr];rw [(Cn hr).trans hU]
 rfl
theorem iZ {P:Program} {md:Region.Mode} {ops:Array Oper} {Q:Exit→Act→World→Prop} {S S':World→Prop} (hS:∀ w,S' w→S w) :
 ∀ (fuel:Nat) (listed:Array Bool) (a:Act) (w:World),wpAnyH P md ops Q S' fuel listed a w→wpAnyH P md ops Q S fuel listed a w
 | 0,_,_,_,h=>h
 | fuel+1,_,_,_,h=>⟨h.1,fun i hi=>wpOp_mono (fun _ _ h'=>⟨hS _ h'.1,iZ hS fuel _ _ _ h'.2⟩) (h.2 i hi)⟩
theorem jP (K:Int) (B:ByteArray) (hB:B=⟨#[UInt8.ofNat K.toNat]⟩) (hK:1≤K∧K≤4) (W:World) (b:Nat) (h:W.heap[b]? = some (.cells #[.int .u8 K] 5 (0,0))) :
 (convert 94 9 (.slice (some ⟨b,0,none⟩) 1 1)).run Tryz.prog W=.ok (.string B) W:=by
 subst hB;refine EW _ _ _ _ _ _ [UInt8.ofNat K.toNat] Tryz.underlying94 Tryz.underlying5 Tryz.underlying9 fun j hj=>?_
 obtain rfl:j=0:=by simp at hj;omega
 have hadd:(⟨b,0,none⟩:Addr).add 0=⟨b,0,none⟩:=rfl;rw [hadd,Dd _ _ _ _ _ _ h];simp
 omega
theorem zk (w:World) (vf vh vw:Value) (f h:List Ent) (l:List Wr) (hx:aR w vf vh vw f h l) (hr:ff f h l) :
 Calls Tryz.prog 18 #[.agg #[vf,vh,vw]] w fun r w'=>r=.returned (.tuple #[.string ⟨(aP f h l).1.toArray⟩,.agg #[.int .i64 ((aP f h l).2.1:Int),.int .i64 (-1)]])∧Below w.heap.size w w':=by
 have HX:=hid hx;obtain ⟨hf,hh,hv,_⟩:=hx;obtain ⟨af,cf,rfl,_⟩:=hf.form;obtain ⟨ah,ch,rfl,_⟩:=hh.form;obtain ⟨aw,cw,rfl,fw⟩:=hv.form;have HBF:Hid (batF f h l=(0,-1)):=hid (oB hr);have HR:=hid hr;have hz:((0:Int) == 0)=true:=rfl;have HFW:=hid fw;have HN60:Hid (l.length≤60):=hid (iG.1 hr).2.1;generalize hnf:f.length=nf at HX ⊢;generalize hnh:h.length=nh at HX ⊢;generalize hn:l.length=n at HX HN60 HFW ⊢;have HNF:=hid hnf;have HNH:=hid hnh;have HN:=hid hn;clear hf hh hv hr fw hnf hnh hn;go_enter Tryz.func18,Tryz.ntmps18
 go_wp2_with fail
 have HA:=hid ((cy w (.slice af nf cf) (.slice ah nh ch) (.slice aw n cw) 25).below ((Below.refl _ _).alloc (Db _) (.cells #[.int .i64 0,.int .i64 0] 28)) (by simp));have HF:Hid (rowF ((w.alloc (.cells #[.slice af nf cf,.slice ah nh ch,.slice aw n cw] 25)).alloc (.cells #[.int .i64 0,.int .i64 0] 28)) (w.heap.size+1) 0 0):=hid (Em w _ _);have HW:Hid (Below w.heap.size w ((w.alloc (.cells #[.slice af nf cf,.slice ah nh ch,.slice aw n cw] 25)).alloc (.cells #[.int .i64 0,.int .i64 0] 28))):=hid (((Below.refl _ _).alloc (Db _) _).alloc (by simp) _);have HZ:Hid (w.heap.size+1<((w.alloc (.cells #[.slice af nf cf,.slice ah nh ch,.slice aw n cw] 25)).alloc (.cells #[.int .i64 0,.int .i64 0] 28)).heap.size):=hid (by simp);have HBW:Hid (w.heap.size≤w.heap.size+1):=hid (Dq _);generalize (w.alloc (.cells #[.slice af nf cf,.slice ah nh ch,.slice aw n cw] 25)).alloc (.cells #[.int .i64 0,.int .i64 0] 28)=W at HA HF HW HZ ⊢;generalize w.heap.size+1=F at HF HZ HBW ⊢;refine (kc _ _ _ f h l 0 (-1) W (HX.out.below HW.out) HBF.out).mono ?_;rintro r w1 ⟨rfl,hb1⟩;have HB1:=hid hb1;clear hb1;have HF1:=hid (HF.out.below HB1.out HZ.out)
 have HW1:Hid (Below w.heap.size w w1):=HW.out.trans (HB1.out.mono HW.out.size);have HZ1:Hid (F<w1.heap.size):=hid (Dv HZ.out HB1.out.size);go_wp2_with fail
 refine (aH 0 (-1) _).mono ?_;rintro r w2 ⟨rfl,hb2⟩;have HB2:Hid (Below w1.heap.size w1 w2):=hid (((Below.refl _ _).alloc (Db _) _).trans (hb2.mono (by simp)));have HF2:=hid (HF1.out.below HB2.out HZ1.out);have HT2:Hid (rowF w2 w1.heap.size 0 (-1)):=hid (rowF.below (w:=w1.alloc (.cells #[.int .i64 0,.int .i64 (-1)] 28)) (Dg w1 _) hb2 (by simp));have HW2:Hid (Below w.heap.size w w2):=HW1.out.trans (HB2.out.mono HW1.out.size);clear hb2;have HA2:=hid (HA.out.below (HB1.out.trans (HB2.out.mono HB1.out.size)) (by have:=HBW.out;have:=HZ.out;omega));have HZ2:Hid (F<w2.heap.size∧w.heap.size<w2.heap.size):=hid (by have:=HBW.out;have:=HZ1.out;have:=HB2.out.size;omega);clear HA HF HW HZ HB1 HF1 HW1 HZ1 HB2 HT2;obtain ⟨d0,d1,d2⟩:=HA2.out;go_wp2;clear d0 d1 d2;have hn60:=HN60.out
 go_loopw [5,33] (fun x i wr=>∃ k:Nat,k≤n∧i=.int .i64 k∧ak wr w2.heap.size x ((ay l).take k)∧Below w2.heap.size w2 wr) (fun _ i _=>n-(intOf i).toNat)
 case atStart=>exact ⟨0,Ds _,rfl,bK _ _,Below.refl _ _⟩
 case round =>
  obtain ⟨k,hk,rfl,hos,hbel⟩:=hrel;have HO:=hid hos;have HB:=hid hbel;have HWR:Hid (Below w.heap.size w wr):=HW2.out.trans (hbel.mono HW2.out.size);obtain ⟨ad,cp,rfl,hcp,g1⟩:=hos.isTexts;have hkl:((ay l).take k).length=k:=by rw [DK];have:=HN.out;unfold ay;rw [E9];omega
  have HKL:=hid hkl;rw [hkl] at HO hcp;rw [hkl];clear hos hbel hkl g1 hcp;by_cases hlt:k<n
  ·obtain ⟨x, hx⟩ : ∃ x, l[k]? = some x := ⟨l[k]'(by have := HN.out; omega), Di _⟩;obtain ⟨b1,o1,rfl,hb1,p0,p1,p2,p3,p4,p5⟩:=HFW.out k x hx;have q0:=(HWR.out.cell (p:=⟨b1,o1+k * 6,none⟩) hb1).trans p0;have q1:=(HWR.out.cell (p:=⟨b1,o1+k * 6+1,none⟩) hb1).trans p1;have q2:=(HWR.out.cell (p:=⟨b1,o1+k * 6+2,none⟩) hb1).trans p2;have q3:=(HWR.out.cell (p:=⟨b1,o1+k * 6+3,none⟩) hb1).trans p3;have q4:=(HWR.out.cell (p:=⟨b1,o1+k * 6+4,none⟩) hb1).trans p4;have q5:=(HWR.out.cell (p:=⟨b1,o1+k * 6+5,none⟩) hb1).trans p5;have HTK:Hid ((ay l).take k++[x.key]=(ay l).take (k+1)):=hid (show _=_ by
    have h2:(ay l)[k]? = some x.key:=by unfold ay;rw [ER,hx];rfl
    obtain ⟨hk2,e⟩:=Do.1 h2;rw [←e,EC hk2])
   obtain ⟨T,R,K,key,val,N⟩:=x;dsimp only at q0 q1 q2 q3 q4 q5 HTK
   clear p0 p1 p2 p3 p4 p5 hx;obtain ⟨L,hL⟩:∃ L,(ay l).take k=L:=⟨_,rfl⟩;rw [hL] at HO HKL HTK;clear hL;go_wp2_with (at_builtin;refine fi rfl _ _ rfl w2.heap.size _ L rfl ((HO.out.alloc _).alloc _) ⟨wr.heap.size+1,0,none⟩ 1 rfl key (by simp [Addr.add]) (by have:=HKL.out;have:=HN60.out;omega) (by have:=HB.out.size;simp;omega) ?_)
   intro g cap w4 ho4 hg4;rw [HTK.out] at ho4;have HO4:=hid ho4;have HB4:Hid (Below w2.heap.size w2 w4):=hid (((HB.out.alloc HB.out.size _).alloc (by have:=HB.out.size;simp;omega) _).grown hg4 (by have:=HB.out.size;simp;omega) (fun g hg=>(HO.out.lt g hg).1));have HKL1:Hid (L.length+1=k+1):=hid (by rw [HKL.out]);rw [HKL1.out] at HO4 ⊢;clear ho4 hg4;go_wp2;go_roundw
   case rel=>exact ⟨k+1,by omega,by go_num,HO4.out,HB4.out⟩
   case measure=>simp [intOf];omega
  ·have HT:Hid ((ay l).take k=ay l):=hid (DL (by unfold ay;rw [E9];have:=HN.out;omega));rw [HT.out] at HO HKL;have HIT:Hid (ba wr (.slice ad k cp) (ay l)):=hid (by have e:=HO.out.isTexts;exact e);have HKN:Hid ((ay l).length≤1000000):=hid (by have:=HKL.out;have:=HN60.out;omega);go_wp2_with fail
   refine (Ae _ (ay l) wr HIT.out HKN.out).mono ?_;rintro r w5 ⟨v1,v2,rfl,hv1,hv2,hb5⟩;obtain ⟨a6,c6,rfl,_⟩:=hv1.isTexts;obtain ⟨a7,c7,rfl,_⟩:=hv2.isNums;have HV1:=hid hv1.isTexts;have HV2:=hid hv2.isNums;have HB5:Hid (Below w2.heap.size w2 w5):=HB.out.trans (hb5.mono HB.out.size);have HMS:Hid (w2.heap.size≤wr.heap.size):=hid HB.out.size;clear hv1 hv2 hb5 HO HIT HB HT;obtain ⟨U,hU⟩:∃ S:ByteArray,aC f=S.data.toList:=⟨⟨(aC f).toArray⟩,by simp⟩;obtain ⟨V,hV⟩:∃ S:ByteArray,aC h=S.data.toList:=⟨⟨(aC h).toArray⟩,by simp⟩;have HU:=hid hU;have HV:=hid hV;clear hU hV;obtain ⟨⟨rf,rh,_⟩,_⟩:=iG.1 HR.out;have HRF:=hid rf;have HRH:=hid rh;clear rf rh;have HW5:Hid (Below w.heap.size w w5):=HW2.out.trans (HB5.out.mono HW2.out.size);obtain ⟨d0,d1,d2⟩:=HA2.out.below HB5.out HZ2.out.2;go_wp2_with fail
   refine (rk _ f U _ (HX.out.below HW5.out).1 HRF.out HU.out).mono ?_;rintro r w6 ⟨rfl,hb6⟩;have HC6:Hid (Below w5.heap.size w5 (w6.alloc (.cells #[.int .i64 0,.int .i64 (-1)] 28))):=hid (hb6.alloc hb6.size _);have HE:Hid (∀ w',Below w5.heap.size w5 w'→Below w2.heap.size w2 w'):=hid (fun w' hx=>HB5.out.trans (hx.mono HB5.out.size));have HEW:Hid (∀ w',Below w5.heap.size w5 w'→Below w.heap.size w w'):=hid (fun w' hx=>HW5.out.trans (hx.mono HW5.out.size));clear hb6 d0 d1 d2;obtain ⟨d0,d1,d2⟩:=HA2.out.below (HE.out _ HC6.out) HZ2.out.2;go_wp2_with fail
   have HX6:=hid (HX.out.below (HEW.out _ HC6.out));refine (rk _ h V _ HX6.out.2.1 HRH.out HV.out).mono ?_;rintro r w7 ⟨rfl,hb7⟩;have HC7:Hid (Below w5.heap.size w5 (w7.alloc (.cells #[.int .i64 0,.int .i64 (-1)] 28))):=hid ((HC6.out.trans (hb7.mono HC6.out.size)).alloc (by have:=HC6.out.size;have:=hb7.size;omega) _);clear hb7 d0 d1 d2 HX6 HC6;obtain ⟨T,hT⟩:∃ T,T=tabK [] (ay l):=⟨_,rfl⟩;obtain ⟨A,hA⟩:∃ A,A=atK [] (ay l):=⟨_,rfl⟩;have hts:=rU HR.out;have hok:=qZ HR.out;rw [←hT] at HV1 hts hok ⊢;rw [←hA] at HV2 hok ⊢;have HTT:=hid hT;have HAA:=hid hA;have HTS:=hid hts.1;have HOK:=hid hok;have ht60:=hts.2;clear hT hA hts hok;obtain ⟨t,ht⟩:∃ t,t=T.length:=⟨_,rfl⟩;rw [←ht] at ht60 HV1 ⊢;have HTL:=hid ht;clear ht;have HUV:Hid (U.size≤4000∧V.size≤4000):=hid (by
    have h1:=(fT HRF.out).1;have h2:=(fT HRH.out).1;rw [HU.out,←ac] at h1;rw [HV.out,←ac] at h2;exact ⟨by omega,by omega⟩)
   go_wp2_with fail
   refine (eC t _ (by omega)).mono ?_;rintro r w8 ⟨rfl,hb8⟩;have HC8:Hid (Below w5.heap.size w5 w8):=HC7.out.trans (hb8.mono HC7.out.size);clear hb8;obtain ⟨C,hC⟩:∃ C:ByteArray,C=⟨(putL t).toArray⟩:=⟨_,rfl⟩;rw [←hC];have hc10:C.size≤10:=by rw [hC,ac];exact aK (by omega)
   have HCC:=hid hC;clear hC;have hu:=HUV.out.1;have hv:=HUV.out.2;have hadd1:((V.size:Int)+(C.size:Int))≤9223372036854775807:=by omega
   have hadd2:((U.size:Int)+((V++C).size:Int))≤9223372036854775807:=by rw [DH];omega
   go_wp2;obtain ⟨P0,hP0⟩:∃ P0,P0=U++(V++C):=⟨_,rfl⟩;rw [←hP0];have HP0:Hid (P0.data.toList=aC f++aC h++putL t):=hid (by rw [hP0,bE,bE,HU.out,HV.out,HCC.out,E3]);have hp0:P0.size≤8010:=by rw [hP0,DH,DH];omega
   clear hP0 hadd1 hadd2 hu hv hc10 HCC;have HP0S:=hid hp0;clear hp0
   go_loopw [10,70] (fun s i wr=>∃ (k:Nat) (X:ByteArray),s=.string X∧k≤t∧i=.int .i64 k∧X.data.toList=P0.data.toList++bC (T.take k)∧X.size≤8010+k * 50∧Below w5.heap.size w5 wr) (fun _ i _=>t-(intOf i).toNat)
   case atStart=>exact ⟨0,P0,rfl,Ds _,rfl,by simp [bC],by have:=HP0S.out;omega,HC8.out⟩
   case round =>
    obtain ⟨k2,X,rfl,hk2,rfl,hx,hxs,hb⟩:=hrel;have HXD:=hid hx;have HC9:=hid hb;clear hx hb;by_cases hlt2:k2<t
    ·obtain ⟨y, hy⟩ : ∃ y, T[k2]? = some y := ⟨T[k2]'(by have := HTL.out; omega), Di _⟩;obtain ⟨a9,c9,e9,_,f9⟩:=HV1.out;injection e9 with e91 e92 e93
     subst e91;clear e92 e93;obtain ⟨b9,o9,rfl,hb9,q9⟩:=f9 k2 y hy;have q8:=(HC9.out.cell (p:=⟨b9,o9+k2,none⟩) hb9).trans q9;have HY:Hid (bC (T.take (k2+1))=bC (T.take k2)++cT y.data.toList):=hid (by
      rw [List.take_add_one,hy];simp [bC])
     have hys:y.size≤40:=HTS.out y (DB hy);have hyb:(bT y).size≤50:=by
      rw [ac,kC];unfold cT;rw [Df,←ac];have:=aK (n:=y.size) (by omega);omega
     have hadd:((X.size:Int)+((bT y).size:Int))≤9223372036854775807:=by omega
     clear f9 q9 hy;go_wp2_with fail
     refine (rd y wr (by omega)).mono ?_;rintro r w9 ⟨rfl,hb9'⟩;have HC10:Hid (Below w5.heap.size w5 w9):=HC9.out.trans (hb9'.mono HC9.out.size);clear hb9' q8;obtain ⟨Y,hY⟩:∃ Y,Y=bT y:=⟨_,rfl⟩;rw [←hY] at hadd hyb ⊢;have HYD:Hid (Y.data.toList=cT y.data.toList):=hid (by rw [hY,kC]);clear hY;go_wp2;go_roundw
     case rel=>exact ⟨k2+1,X++Y,rfl,by omega,by go_num,by rw [bE,HXD.out,HY.out,HYD.out,E3],by rw [DH];omega,HC10.out⟩
     case measure=>simp [intOf];omega
    ·have HXE : Hid (X.data.toList = aC f ++ aC h ++ putL t ++ bC T) := hid (by
      rw [HXD.out,HP0.out,DL (by have:=HTL.out;omega)])
     have hxs2:X.size≤12000:=by omega
     obtain ⟨d0,d1,d2⟩:=HA2.out.below (HE.out _ HC9.out) HZ2.out.2;clear HXD hxs;go_wp2_with fail
     refine (eC n wr (by omega)).mono ?_;rintro r w9 ⟨rfl,hb9⟩;have HC10:Hid (Below w5.heap.size w5 w9):=HC9.out.trans (hb9.mono HC9.out.size);clear hb9 d0 d1 d2;obtain ⟨C2,hC2⟩:∃ C:ByteArray,C=⟨(putL n).toArray⟩:=⟨_,rfl⟩;rw [←hC2];have hc10:C2.size≤10:=by rw [hC2,ac];exact aK (by omega)
     have hadd:((X.size:Int)+(C2.size:Int))≤9223372036854775807:=by omega
     have HC2D:=hid hC2;clear hC2;obtain ⟨d0,d1,d2⟩:=HA2.out.below (HE.out _ HC10.out) HZ2.out.2;go_wp2;obtain ⟨P1,hP1⟩:∃ P1,P1=X++C2:=⟨_,rfl⟩;rw [←hP1];have HP1:Hid (P1.data.toList=aC f++aC h++putL t++bC T++putL n):=hid (by rw [hP1,bE,HXE.out,HC2D.out]);have hp1:P1.size≤12010:=by rw [hP1,DH];omega
     have HP1S:=hid hp1;clear hP1 hadd hc10 HC2D hp1 hxs2 d0 d1 d2 HXE
     go_loopw [10,18,93] (fun s z i wr=>∃ (k:Nat) (X:ByteArray) (ahead:Int),s=.string X∧z=.int .i64 ahead∧k≤n∧i=.int .i64 k∧0≤ahead∧ahead≤1099511627776∧dq h T ahead (l.drop k) (A.drop k)∧P1.data.toList++rowB h 0 l A=X.data.toList++rowB h ahead (l.drop k) (A.drop k)∧X.size≤12010+k * 351∧Below w5.heap.size w5 wr) (fun _ _ i _=>n-(intOf i).toNat)
     case atStart=>exact ⟨0,P1,0,rfl,rfl,Ds _,rfl,by omega,by omega,HOK.out,rfl,by have:=HP1S.out;omega,HC10.out⟩
     case round =>
      obtain ⟨k3,X3,ahead,rfl,rfl,hk3,rfl,ha0,ha1,hok3,hrow3,hx3,hb3⟩:=hrel;have HC11:=hid hb3;have HOK3:=hid hok3;have HROW3:=hid hrow3;clear hb3 hok3 hrow3;by_cases hlt3:k3<n
      ·obtain ⟨x, hx⟩ : ∃ x, l[k3]? = some x := ⟨l[k3]'(by have := HN.out; omega), Di _⟩;obtain ⟨j,hj,⟨hw0,haT,hpl,hTj⟩,hok4,hrow4⟩:=r8 hx HOK3.out;have hWR:=HEW.out _ HC11.out;obtain ⟨b1,o1,rfl,hb1,p0,p1,p2,p3,p4,p5⟩:=HFW.out k3 x hx;have q0:=(hWR.cell (p:=⟨b1,o1+k3 * 6,none⟩) hb1).trans p0;have q1:=(hWR.cell (p:=⟨b1,o1+k3 * 6+1,none⟩) hb1).trans p1;have q2:=(hWR.cell (p:=⟨b1,o1+k3 * 6+2,none⟩) hb1).trans p2;have q3:=(hWR.cell (p:=⟨b1,o1+k3 * 6+3,none⟩) hb1).trans p3;have q4:=(hWR.cell (p:=⟨b1,o1+k3 * 6+4,none⟩) hb1).trans p4;have q5:=(hWR.cell (p:=⟨b1,o1+k3 * 6+5,none⟩) hb1).trans p5;have hjT:j<T.length:=(Do.1 hTj).1;obtain ⟨p,hp⟩:∃ p,aW h x.rep=p:=⟨_,rfl⟩;rw [hp] at hpl;obtain ⟨F1,F2,F3,F4,F5,F6,F7,F8,F9,F10⟩:=dg hw0;have HW0:=hid hw0;have HJ:=hid hj;have HOK4:=hid hok4;have HROW4:=hid hrow4;have HPP:=hid hp;have HPL:=hid hpl;have HWOK:=hid F10;have HTB:=hid F9;obtain ⟨T',R,K,key,val,N⟩:=x;dsimp only at q0 q1 q2 q3 q4 q5 haT F1 F2 F3 F4 F5 F6 F7 F8 HPP HOK4
       have HFT:=hid (Dp F1 (Dp F2 (Dp F3 F4)));have HJT:=hid hjT;have HAT:=hid haT;clear p0 p1 p2 p3 p4 p5 hx hj hw0 hok4 hrow4 hp hpl hTj F1 F2 F3 F4 F5 F6 F7 F8 F9 F10 hjT haT hWR;have hmf:∀ (fn:Fn) (first cap:Array Value) (w:World),(Instr.makeFunc fn first cap).run Tryz.prog w=.ok (.func fn first cap) w:=fun _ _ _ _=>rfl
       have HC12:Hid (Below w5.heap.size w5 (wr.alloc (.cells #[.int .i64 T',.int .i64 R,.int .i64 K,.string key,.string val,.int .i64 N] 78))):=hid (HC11.out.alloc HC11.out.size _);have HXB:Hid (dx (wr.alloc (.cells #[.int .i64 T',.int .i64 R,.int .i64 K,.string key,.string val,.int .i64 N] 78)) wr.heap.size ⟨T',R,K,key,val,N⟩):=hid (Dg wr _);obtain ⟨d0,d1,d2⟩:=HA2.out.below (HE.out _ HC12.out) HZ2.out.2;go_wp2_with fail
       generalize wr.alloc (.cells #[.int .i64 T',.int .i64 R,.int .i64 K,.string key,.string val,.int .i64 N] 78)=w12 at HC12 HXB d0 d1 d2 ⊢;have HSR:Hid (n5 w12 w.heap.size wr.heap.size (.slice ah nh ch) R):=hid ⟨d1,by
        have e:=HXB.out;unfold dx at e;rw [Dd _ _ _ _ _ (0,0) e];rfl⟩
       refine (AG w.heap.size wr.heap.size ah nh ch h (-1) R p w12 HSR.out (HX.out.below (HEW.out _ HC12.out)).2.1 HNH.out.symm (by have:=HRH.out.1;have:=HNH.out;omega) HRH.out.2 HPP.out (by have:=HPL.out;have:=HNH.out;omega)).mono ?_;rintro r w13 ⟨rfl,m,rfl⟩;have HC13:Hid (Below w5.heap.size w5 (w12.drewN m)):=hid (tQ HC12.out m);have HXB13:Hid (dx (w12.drewN m) wr.heap.size ⟨T',R,K,key,val,N⟩):=hid HXB.out;have HZX:Hid (wr.heap.size<(w12.drewN m).heap.size):=hid (DF.1 (show (w12.drewN m).heap[wr.heap.size]? = _ from HXB.out)).1;clear d0 d1 d2 HC12 HXB HSR;generalize w12.drewN m=w13 at HC13 HXB13 HZX ⊢;have hx13:=HXB13.out;unfold dx at hx13;have c0:w13.cell? ⟨wr.heap.size,0,none⟩=some (.int .i64 T'):=by rw [Dd _ _ _ _ _ (0,0) hx13];rfl
       have c1:w13.cell? ⟨wr.heap.size,1,none⟩=some (.int .i64 R):=by rw [Dd _ _ _ _ _ (0,0) hx13];rfl
       have c2:w13.cell? ⟨wr.heap.size,2,none⟩=some (.int .i64 K):=by rw [Dd _ _ _ _ _ (0,0) hx13];rfl
       have c3:w13.cell? ⟨wr.heap.size,3,none⟩=some (.string key):=by rw [Dd _ _ _ _ _ (0,0) hx13];rfl
       have c4:w13.cell? ⟨wr.heap.size,4,none⟩=some (.string val):=by rw [Dd _ _ _ _ _ (0,0) hx13];rfl
       have c5:w13.cell? ⟨wr.heap.size,5,none⟩=some (.int .i64 N):=by rw [Dd _ _ _ _ _ (0,0) hx13];rfl
       clear hx13;have HTC:Hid (∀ w,Calls Tryz.prog 50 #[.agg #[.int .i64 T',.int .i64 R,.int .i64 K,.string key,.string val,.int .i64 N]] w fun e w'=>e=.returned (.tuple #[.string (b7 K val N),.int .i64 0])∧Below w.heap.size w w'):=hid (fun w=>(Af T' R K key val N w HWOK.out.2.2.1 HWOK.out.2.2.2 HWOK.out.1 HWOK.out.2.1).mono fun e w' ⟨h1,h2⟩=>⟨by
        have e1:wriE T' R K key val N=0:=HW0.out;rw [h1,kG e1];rfl,h2⟩)
       go_wp2_with fail
       refine (HTC.out _).mono ?_;rintro r w14 ⟨rfl,hb14⟩;have HC14:Hid (Below w5.heap.size w5 w14):=HC13.out.trans (hb14.mono HC13.out.size);have e0:=(Below.cell hb14 (p:=⟨wr.heap.size,0,none⟩) HZX.out).trans c0;have e2:=(Below.cell hb14 (p:=⟨wr.heap.size,2,none⟩) HZX.out).trans c2;have HZX14:Hid (wr.heap.size<w14.heap.size):=hid (Dv HZX.out hb14.size);clear hb14 c0 c1 c2 c3 c4 c5 HTC HXB13 HZX HC13;obtain ⟨Z,hZ⟩:∃ Z,Z=b7 K val N:=⟨_,rfl⟩;rw [←hZ];have hzs:Z.size≤320:=by
        have e:=HTB.out;unfold dZ at e;rw [←ac,←hZ] at e;exact e
       have HZD:=hid hZ;clear hZ;obtain ⟨a9,c9,e9,_,f9⟩:=HV2.out;injection e9 with e91 e92 e93
       subst e91;clear e92 e93;obtain ⟨b9,o9,rfl,hb9,q9⟩:=f9 k3 (j:Int) (by rw [ER,HJ.out];rfl);have q8:=(HC14.out.cell (p:=⟨b9,o9+k3,none⟩) hb9).trans q9;have hkA:(k3:Int)<(A.length:Int):=by have:=(Do.1 HJ.out).1;omega
       clear f9 q9;go_wp2;obtain ⟨D,hD⟩:∃ D:Nat,T'-ahead=(D:Int):=⟨(T'-ahead).toNat,by have:=HAT.out;omega⟩;have hDb:D≤1099511627776:=by have:=HFT.out;omega
       have hp16:p≤16:=by have:=HPL.out;have:=HRH.out.1;omega
       have hj60:j≤60:=by have:=HJT.out;have:=HTL.out;omega
       have hs1:IntKind.i64.wrap (T'-ahead)=(D:Int):=by rw [hD];exact Dh _ (by omega)
       have hs2:IntKind.u64.wrap (D:Int)=(D:Int):=DI _ (by omega);have hs6:IntKind.i64.wrap (D:Int)=(D:Int):=Dh _ (by omega);have hs3:IntKind.u64.wrap (p:Int)=(p:Int):=DI _ (by omega);have hs4:IntKind.u64.wrap (j:Int)=(j:Int):=DI _ (by omega);have hs5:IntKind.u8.wrap K=K:=IntWalk.u8_in _ (by have:=HFT.out;omega);obtain ⟨B1,hB1⟩:∃ B:ByteArray,B=⟨#[UInt8.ofNat K.toNat]⟩:=⟨_,rfl⟩;obtain ⟨C3,hC3⟩:∃ C:ByteArray,C=⟨(putL D).toArray⟩:=⟨_,rfl⟩;obtain ⟨C4,hC4⟩:∃ C:ByteArray,C=⟨(putL p).toArray⟩:=⟨_,rfl⟩;obtain ⟨C5,hC5⟩:∃ C:ByteArray,C=⟨(putL j).toArray⟩:=⟨_,rfl⟩;have HV1:Hid (∀ w,Calls Tryz.prog 20 #[.int .u64 (D:Int)] w fun e w'=>e=.returned (.string C3)∧Below w.heap.size w w'):=hid (fun w=>by rw [hC3];exact eC D w (by omega));have HV2:Hid (∀ w,Calls Tryz.prog 20 #[.int .u64 (p:Int)] w fun e w'=>e=.returned (.string C4)∧Below w.heap.size w w'):=hid (fun w=>by rw [hC4];exact eC p w (by omega));have HV3:Hid (∀ w,Calls Tryz.prog 20 #[.int .u64 (j:Int)] w fun e w'=>e=.returned (.string C5)∧Below w.heap.size w w'):=hid (fun w=>by rw [hC5];exact eC j w (by omega));have hb1s:B1.size=1:=by rw [hB1];rfl
       have hc3s:C3.size≤10:=by rw [hC3,ac];exact aK (by omega)
       have hc4s:C4.size≤10:=by rw [hC4,ac];exact aK (by omega)
       have hc5s:C5.size≤10:=by rw [hC5,ac];exact aK (by omega)
       have HXN:Hid ((X3++(B1++C3++C4++C5++Z)).data.toList=X3.data.toList++oneB h ahead ⟨T',R,K,key,val,N⟩ j):=hid (by
        have e1:aW h R=p:=HPP.out;have e2:(T'-ahead).toNat=D:=by omega
        unfold oneB dZ;dsimp only
        rw [e1,e2,HZD.out.symm];rw [bE,bE,bE,bE,bE,hB1,hC3,hC4,hC5])
       have HXS:Hid ((X3++(B1++C3++C4++C5++Z)).size≤12010+(k3+1) * 351):=hid (by
        simp only [DH];omega)
       have hk60:k3≤60:=by omega
       have hX3b:X3.size≤40000:=by omega
       have hA1:¬ (9223372036854775807<B1.size+C3.size):=by omega
       have hA2:¬ (9223372036854775807<(B1++C3).size+C4.size):=by rw [DH];omega
       have hA2':¬ (9223372036854775807<B1.size+C3.size+C4.size):=by omega
       have hA3:¬ (9223372036854775807<(B1++C3++C4).size+C5.size):=by rw [DH,DH];omega
       have hA3':¬ (9223372036854775807<B1.size+C3.size+C4.size+C5.size):=by omega
       have hA4:¬ (9223372036854775807<(B1++C3++C4++C5).size+Z.size):=by rw [DH,DH,DH];omega
       have hA4':¬ (9223372036854775807<B1.size+C3.size+C4.size+C5.size+Z.size):=by omega
       have hA5:¬ (9223372036854775807<X3.size+(B1++C3++C4++C5++Z).size):=by rw [DH,DH,DH,DH];omega
       have hA5':¬ (9223372036854775807<X3.size+(B1.size+C3.size+C4.size+C5.size+Z.size)):=by omega
       have HS14:Hid (∀ w',Below w14.heap.size w14 w'→w'.cell? ⟨wr.heap.size,0,none⟩=some (.int .i64 T')∧w'.cell? ⟨wr.heap.size,2,none⟩=some (.int .i64 K)∧w'.cell? ⟨b9,o9+k3,none⟩=some (.int .i64 (j:Int))):=hid (fun w' h=>⟨(h.cell (p:=⟨wr.heap.size,0,none⟩) HZX14.out).trans e0,(h.cell (p:=⟨wr.heap.size,2,none⟩) HZX14.out).trans e2,(h.cell (p:=⟨b9,o9+k3,none⟩) (bc q8)).trans q8⟩);have HBW0:Hid (Below w14.heap.size w14 w14.drew):=hid (Below.refl _ _).drew;have HB1:=hid hB1;have HK14:Hid (1≤K∧K≤4):=hid (by have:=HFT.out;omega);have HT14:Hid (0≤T'∧T'≤1099511627776):=hid (by have:=HFT.out;omega);have HRN:Hid (P1.data.toList++rowB h 0 l A=(X3++(B1++C3++C4++C5++Z)).data.toList++rowB h T' (l.drop (k3+1)) (A.drop (k3+1))):=hid (by
        rw [HXN.out,E3,HROW3.out];exact congrArg _ HROW4.out)
       clear hB1 hC3 hC4 hC5 e0 e2 q8 hb1s hc3s hc4s hc5s hzs hX3b;refine Ea (S:=fun w'=>w'.cell? ⟨wr.heap.size,0,none⟩=some (.int .i64 T')∧w'.cell? ⟨wr.heap.size,2,none⟩=some (.int .i64 K)∧w'.cell? ⟨b9,o9+k3,none⟩=some (.int .i64 (j:Int))) (by kernel_rfl) (HS14.out _ HBW0.out) (fun hHeld=>?_);generalize w14.drew=W0 at HBW0 hHeld ⊢;refine tkO 0 ?_;refine tkO 1 ?_;refine tkO 2 ?_;refine tkO 3 ?_;refine tkO 6 ?_;refine tkO 7 ?_;refine tkO 8 ?_;refine tkO 9 ?_;refine tkO 10 ?_;refine tkO 11 ?_;refine tkO 14 ?_;refine tkO 15 ?_;refine tkO 18 ?_;refine tkO 19 ?_;refine tkO 20 ?_;refine tkO 21 ?_;refine tkO 22 ?_;refine tkO 25 ?_;refine Dm (rs:=[4,12]) (by kernel_rfl) (by simp) ?_;refine Dk rfl (fun KK hKK=>?_) (Dk rfl (fun KK hKK=>?_) Dn)
       ·go_simp
        refine hKK.out _ _ (HS14.out _ (HBW0.out.alloc HBW0.out.size _)) (fun hHeldWA0=>sp ?_);clear hKK hHeld
        have HBWA0:Hid (Below w14.heap.size w14 (W0.alloc (.cells #[.int .u8 K] 5))):=hid (HBW0.out.alloc HBW0.out.size _);have hrowWA0:(W0.alloc (.cells #[.int .u8 K] 5)).heap[W0.heap.size]? = some (.cells #[.int .u8 K] 5 (0,0)):=Dg W0 _;have hltWA0:W0.heap.size<(W0.alloc (.cells #[.int .u8 K] 5)).heap.size:=by simp
        generalize W0.alloc (.cells #[.int .u8 K] 5)=WA0 at HBWA0 hrowWA0 hltWA0 hHeldWA0 ⊢;generalize W0.heap.size=bl at hrowWA0 hltWA0 ⊢;have HRWA0:Hid (∀ w',Below WA0.heap.size WA0 w'→(w'.cell? ⟨wr.heap.size,0,none⟩=some (.int .i64 T')∧w'.cell? ⟨wr.heap.size,2,none⟩=some (.int .i64 K)∧w'.cell? ⟨b9,o9+k3,none⟩=some (.int .i64 (j:Int)))∧w'.heap[bl]? = some (.cells #[.int .u8 K] 5 (0,0))):=hid (fun w' h=>⟨HS14.out _ (HBWA0.out.trans (h.mono HBWA0.out.size)),(h.block _ hltWA0).trans hrowWA0⟩);have HLWA0:Hid (Below WA0.heap.size WA0 WA0):=hid (Below.refl _ _);have hHeld2:=HRWA0.out _ HLWA0.out;clear hHeldWA0 hrowWA0 hltWA0;refine iZ (S':=fun w'=>(w'.cell? ⟨wr.heap.size,0,none⟩=some (.int .i64 T')∧w'.cell? ⟨wr.heap.size,2,none⟩=some (.int .i64 K)∧w'.cell? ⟨b9,o9+k3,none⟩=some (.int .i64 (j:Int)))∧w'.heap[bl]? = some (.cells #[.int .u8 K] 5 (0,0))) (fun _ h=>h.1) _ _ _ _ ?_;refine Ee (i:=5) (v:=?v5a0) rfl (by kernel_rfl) (by kernel_rfl) (by kernel_rfl) (fun _ _ _ h=>h) (Or.inl ⟨by rfl,?h5a0⟩) (by assumption) ?r5a0
        case h5a0=>(intro W hSw;have hcv:=jP K B1 HB1.out HK14.out W bl hSw.2;(try dsimp only at hSw);go_simp;all_goals (with_reducible rfl))
        try simp only [Act.put,List.getElem_toArray,EM,EN,EU,List.set_cons_zero,List.set_cons_succ]
        refine Dm (rs:=[12]) (by kernel_rfl) (by simp) ?_;refine Dk rfl (fun KK hKK=>?_) Dn
        go_simp
        refine (HV1.out _).mono ?_;rintro r WB00 ⟨rfl,hbWB00⟩;have HBWB00:Hid (Below w14.heap.size w14 WB00):=HBWA0.out.trans (hbWB00.mono HBWA0.out.size);have HLWB00:Hid (Below WA0.heap.size WA0 WB00):=HLWA0.out.trans (hbWB00.mono HLWA0.out.size);refine hKK.out _ _ (HRWA0.out _ HLWB00.out) (fun hHeldWB00=>sp ?_);clear hKK hHeld2 hbWB00
        refine tkO 13 ?_;refine Dm (rs:=[16]) (by kernel_rfl) (by simp) ?_;refine Dk rfl (fun KK hKK=>?_) Dn
        go_simp
        refine (HV2.out _).mono ?_;rintro r WB01 ⟨rfl,hbWB01⟩;have HBWB01:Hid (Below w14.heap.size w14 WB01):=HBWB00.out.trans (hbWB01.mono HBWB00.out.size);have HLWB01:Hid (Below WA0.heap.size WA0 WB01):=HLWB00.out.trans (hbWB01.mono HLWB00.out.size);refine hKK.out _ _ (HRWA0.out _ HLWB01.out) (fun hHeldWB01=>sp ?_);clear hKK hHeldWB00 hbWB01
        refine tkO 17 ?_;refine Dm (rs:=[23]) (by kernel_rfl) (by simp) ?_;refine Dk rfl (fun KK hKK=>?_) Dn
        go_simp
        refine (HV3.out _).mono ?_;rintro r WB02 ⟨rfl,hbWB02⟩;have HBWB02:Hid (Below w14.heap.size w14 WB02):=HBWB01.out.trans (hbWB02.mono HBWB01.out.size);have HLWB02:Hid (Below WA0.heap.size WA0 WB02):=HLWB01.out.trans (hbWB02.mono HLWB01.out.size);refine hKK.out _ _ (HRWA0.out _ HLWB02.out) (fun hHeldWB02=>sp ?_);clear hKK hHeldWB01 hbWB02
        refine tkO 24 ?_;refine tkO 26 ?_;refine tkO 27 ?_;refine tkO 28 ?_;refine DZ (by kernel_rfl) ?_ _;go_wp2;go_roundw
        case rel=>exact ⟨k3+1,_,T',rfl,rfl,by omega,by go_num,HT14.out.1,HT14.out.2,HOK4.out,HRN.out,HXS.out,HC14.out.trans (HBWB02.out.mono HC14.out.size)⟩
        case measure=>simp [intOf];omega
       ·go_simp
        refine (HV1.out _).mono ?_;rintro r WC0 ⟨rfl,hbWC0⟩;have HBWC0:Hid (Below w14.heap.size w14 WC0):=HBW0.out.trans (hbWC0.mono HBW0.out.size);refine hKK.out _ _ (HS14.out _ HBWC0.out) (fun hHeldWC0=>sp ?_);clear hKK hHeld hbWC0
        refine Dm (rs:=[4,16]) (by kernel_rfl) (by simp) ?_;refine Dk rfl (fun KK hKK=>?_) (Dk rfl (fun KK hKK=>?_) Dn)
        ·go_simp
         refine hKK.out _ _ (HS14.out _ (HBWC0.out.alloc HBWC0.out.size _)) (fun hHeldWA1=>sp ?_);clear hKK hHeldWC0
         have HBWA1:Hid (Below w14.heap.size w14 (WC0.alloc (.cells #[.int .u8 K] 5))):=hid (HBWC0.out.alloc HBWC0.out.size _);have hrowWA1:(WC0.alloc (.cells #[.int .u8 K] 5)).heap[WC0.heap.size]? = some (.cells #[.int .u8 K] 5 (0,0)):=Dg WC0 _;have hltWA1:WC0.heap.size<(WC0.alloc (.cells #[.int .u8 K] 5)).heap.size:=by simp
         generalize WC0.alloc (.cells #[.int .u8 K] 5)=WA1 at HBWA1 hrowWA1 hltWA1 hHeldWA1 ⊢;generalize WC0.heap.size=bl at hrowWA1 hltWA1 ⊢;have HRWA1:Hid (∀ w',Below WA1.heap.size WA1 w'→(w'.cell? ⟨wr.heap.size,0,none⟩=some (.int .i64 T')∧w'.cell? ⟨wr.heap.size,2,none⟩=some (.int .i64 K)∧w'.cell? ⟨b9,o9+k3,none⟩=some (.int .i64 (j:Int)))∧w'.heap[bl]? = some (.cells #[.int .u8 K] 5 (0,0))):=hid (fun w' h=>⟨HS14.out _ (HBWA1.out.trans (h.mono HBWA1.out.size)),(h.block _ hltWA1).trans hrowWA1⟩);have HLWA1:Hid (Below WA1.heap.size WA1 WA1):=hid (Below.refl _ _);have hHeld2:=HRWA1.out _ HLWA1.out;clear hHeldWA1 hrowWA1 hltWA1;refine iZ (S':=fun w'=>(w'.cell? ⟨wr.heap.size,0,none⟩=some (.int .i64 T')∧w'.cell? ⟨wr.heap.size,2,none⟩=some (.int .i64 K)∧w'.cell? ⟨b9,o9+k3,none⟩=some (.int .i64 (j:Int)))∧w'.heap[bl]? = some (.cells #[.int .u8 K] 5 (0,0))) (fun _ h=>h.1) _ _ _ _ ?_;refine Ee (i:=5) (v:=?v5a1) rfl (by kernel_rfl) (by kernel_rfl) (by kernel_rfl) (fun _ _ _ h=>h) (Or.inl ⟨by rfl,?h5a1⟩) (by assumption) ?r5a1
         case h5a1=>(intro W hSw;have hcv:=jP K B1 HB1.out HK14.out W bl hSw.2;(try dsimp only at hSw);go_simp;all_goals (with_reducible rfl))
         try simp only [Act.put,List.getElem_toArray,EM,EN,EU,List.set_cons_zero,List.set_cons_succ]
         refine tkO 13 ?_;refine Dm (rs:=[16]) (by kernel_rfl) (by simp) ?_;refine Dk rfl (fun KK hKK=>?_) Dn
         go_simp
         refine (HV2.out _).mono ?_;rintro r WB11 ⟨rfl,hbWB11⟩;have HBWB11:Hid (Below w14.heap.size w14 WB11):=HBWA1.out.trans (hbWB11.mono HBWA1.out.size);have HLWB11:Hid (Below WA1.heap.size WA1 WB11):=HLWA1.out.trans (hbWB11.mono HLWA1.out.size);refine hKK.out _ _ (HRWA1.out _ HLWB11.out) (fun hHeldWB11=>sp ?_);clear hKK hHeld2 hbWB11
         refine tkO 17 ?_;refine Dm (rs:=[23]) (by kernel_rfl) (by simp) ?_;refine Dk rfl (fun KK hKK=>?_) Dn
         go_simp
         refine (HV3.out _).mono ?_;rintro r WB12 ⟨rfl,hbWB12⟩;have HBWB12:Hid (Below w14.heap.size w14 WB12):=HBWB11.out.trans (hbWB12.mono HBWB11.out.size);have HLWB12:Hid (Below WA1.heap.size WA1 WB12):=HLWB11.out.trans (hbWB12.mono HLWB11.out.size);refine hKK.out _ _ (HRWA1.out _ HLWB12.out) (fun hHeldWB12=>sp ?_);clear hKK hHeldWB11 hbWB12
         refine tkO 24 ?_;refine tkO 26 ?_;refine tkO 27 ?_;refine tkO 28 ?_;refine DZ (by kernel_rfl) ?_ _;go_wp2;go_roundw
         case rel=>exact ⟨k3+1,_,T',rfl,rfl,by omega,by go_num,HT14.out.1,HT14.out.2,HOK4.out,HRN.out,HXS.out,HC14.out.trans (HBWB12.out.mono HC14.out.size)⟩
         case measure=>simp [intOf];omega
        ·go_simp
         refine (HV2.out _).mono ?_;rintro r WC1 ⟨rfl,hbWC1⟩;have HBWC1:Hid (Below w14.heap.size w14 WC1):=HBWC0.out.trans (hbWC1.mono HBWC0.out.size);refine hKK.out _ _ (HS14.out _ HBWC1.out) (fun hHeldWC1=>sp ?_);clear hKK hHeldWC0 hbWC1
         refine Dm (rs:=[4,23]) (by kernel_rfl) (by simp) ?_;refine Dk rfl (fun KK hKK=>?_) (Dk rfl (fun KK hKK=>?_) Dn)
         ·go_simp
          refine hKK.out _ _ (HS14.out _ (HBWC1.out.alloc HBWC1.out.size _)) (fun hHeldWA2=>sp ?_);clear hKK hHeldWC1
          have HBWA2:Hid (Below w14.heap.size w14 (WC1.alloc (.cells #[.int .u8 K] 5))):=hid (HBWC1.out.alloc HBWC1.out.size _);have hrowWA2:(WC1.alloc (.cells #[.int .u8 K] 5)).heap[WC1.heap.size]? = some (.cells #[.int .u8 K] 5 (0,0)):=Dg WC1 _;have hltWA2:WC1.heap.size<(WC1.alloc (.cells #[.int .u8 K] 5)).heap.size:=by simp
          generalize WC1.alloc (.cells #[.int .u8 K] 5)=WA2 at HBWA2 hrowWA2 hltWA2 hHeldWA2 ⊢;generalize WC1.heap.size=bl at hrowWA2 hltWA2 ⊢;have HRWA2:Hid (∀ w',Below WA2.heap.size WA2 w'→(w'.cell? ⟨wr.heap.size,0,none⟩=some (.int .i64 T')∧w'.cell? ⟨wr.heap.size,2,none⟩=some (.int .i64 K)∧w'.cell? ⟨b9,o9+k3,none⟩=some (.int .i64 (j:Int)))∧w'.heap[bl]? = some (.cells #[.int .u8 K] 5 (0,0))):=hid (fun w' h=>⟨HS14.out _ (HBWA2.out.trans (h.mono HBWA2.out.size)),(h.block _ hltWA2).trans hrowWA2⟩);have HLWA2:Hid (Below WA2.heap.size WA2 WA2):=hid (Below.refl _ _);have hHeld2:=HRWA2.out _ HLWA2.out;clear hHeldWA2 hrowWA2 hltWA2;refine iZ (S':=fun w'=>(w'.cell? ⟨wr.heap.size,0,none⟩=some (.int .i64 T')∧w'.cell? ⟨wr.heap.size,2,none⟩=some (.int .i64 K)∧w'.cell? ⟨b9,o9+k3,none⟩=some (.int .i64 (j:Int)))∧w'.heap[bl]? = some (.cells #[.int .u8 K] 5 (0,0))) (fun _ h=>h.1) _ _ _ _ ?_;refine Ee (i:=5) (v:=?v5a2) rfl (by kernel_rfl) (by kernel_rfl) (by kernel_rfl) (fun _ _ _ h=>h) (Or.inl ⟨by rfl,?h5a2⟩) (by assumption) ?r5a2
          case h5a2=>(intro W hSw;have hcv:=jP K B1 HB1.out HK14.out W bl hSw.2;(try dsimp only at hSw);go_simp;all_goals (with_reducible rfl))
          try simp only [Act.put,List.getElem_toArray,EM,EN,EU,List.set_cons_zero,List.set_cons_succ]
          refine tkO 13 ?_;refine tkO 17 ?_;refine Dm (rs:=[23]) (by kernel_rfl) (by simp) ?_;refine Dk rfl (fun KK hKK=>?_) Dn
          go_simp
          refine (HV3.out _).mono ?_;rintro r WB22 ⟨rfl,hbWB22⟩;have HBWB22:Hid (Below w14.heap.size w14 WB22):=HBWA2.out.trans (hbWB22.mono HBWA2.out.size);have HLWB22:Hid (Below WA2.heap.size WA2 WB22):=HLWA2.out.trans (hbWB22.mono HLWA2.out.size);refine hKK.out _ _ (HRWA2.out _ HLWB22.out) (fun hHeldWB22=>sp ?_);clear hKK hHeld2 hbWB22
          refine tkO 24 ?_;refine tkO 26 ?_;refine tkO 27 ?_;refine tkO 28 ?_;refine DZ (by kernel_rfl) ?_ _;go_wp2;go_roundw
          case rel=>exact ⟨k3+1,_,T',rfl,rfl,by omega,by go_num,HT14.out.1,HT14.out.2,HOK4.out,HRN.out,HXS.out,HC14.out.trans (HBWB22.out.mono HC14.out.size)⟩
          case measure=>simp [intOf];omega
         ·go_simp
          refine (HV3.out _).mono ?_;rintro r WC2 ⟨rfl,hbWC2⟩;have HBWC2:Hid (Below w14.heap.size w14 WC2):=HBWC1.out.trans (hbWC2.mono HBWC1.out.size);refine hKK.out _ _ (HS14.out _ HBWC2.out) (fun hHeldWC2=>sp ?_);clear hKK hHeldWC1 hbWC2
          refine Dm (rs:=[4]) (by kernel_rfl) (by simp) ?_;refine Dk rfl (fun KK hKK=>?_) Dn
          ·go_simp
           refine hKK.out _ _ (HS14.out _ (HBWC2.out.alloc HBWC2.out.size _)) (fun hHeldWA3=>sp ?_);clear hKK hHeldWC2
           have HBWA3:Hid (Below w14.heap.size w14 (WC2.alloc (.cells #[.int .u8 K] 5))):=hid (HBWC2.out.alloc HBWC2.out.size _);have hrowWA3:(WC2.alloc (.cells #[.int .u8 K] 5)).heap[WC2.heap.size]? = some (.cells #[.int .u8 K] 5 (0,0)):=Dg WC2 _;have hltWA3:WC2.heap.size<(WC2.alloc (.cells #[.int .u8 K] 5)).heap.size:=by simp
           generalize WC2.alloc (.cells #[.int .u8 K] 5)=WA3 at HBWA3 hrowWA3 hltWA3 hHeldWA3 ⊢;generalize WC2.heap.size=bl at hrowWA3 hltWA3 ⊢;have HRWA3:Hid (∀ w',Below WA3.heap.size WA3 w'→(w'.cell? ⟨wr.heap.size,0,none⟩=some (.int .i64 T')∧w'.cell? ⟨wr.heap.size,2,none⟩=some (.int .i64 K)∧w'.cell? ⟨b9,o9+k3,none⟩=some (.int .i64 (j:Int)))∧w'.heap[bl]? = some (.cells #[.int .u8 K] 5 (0,0))):=hid (fun w' h=>⟨HS14.out _ (HBWA3.out.trans (h.mono HBWA3.out.size)),(h.block _ hltWA3).trans hrowWA3⟩);have HLWA3:Hid (Below WA3.heap.size WA3 WA3):=hid (Below.refl _ _);have hHeld2:=HRWA3.out _ HLWA3.out;clear hHeldWA3 hrowWA3 hltWA3;refine iZ (S':=fun w'=>(w'.cell? ⟨wr.heap.size,0,none⟩=some (.int .i64 T')∧w'.cell? ⟨wr.heap.size,2,none⟩=some (.int .i64 K)∧w'.cell? ⟨b9,o9+k3,none⟩=some (.int .i64 (j:Int)))∧w'.heap[bl]? = some (.cells #[.int .u8 K] 5 (0,0))) (fun _ h=>h.1) _ _ _ _ ?_;refine Ee (i:=5) (v:=?v5a3) rfl (by kernel_rfl) (by kernel_rfl) (by kernel_rfl) (fun _ _ _ h=>h) (Or.inl ⟨by rfl,?h5a3⟩) (by assumption) ?r5a3
           case h5a3=>(intro W hSw;have hcv:=jP K B1 HB1.out HK14.out W bl hSw.2;(try dsimp only at hSw);go_simp;all_goals (with_reducible rfl))
           try simp only [Act.put,List.getElem_toArray,EM,EN,EU,List.set_cons_zero,List.set_cons_succ]
           refine tkO 13 ?_;refine tkO 17 ?_;refine tkO 24 ?_;refine tkO 26 ?_;refine tkO 27 ?_;refine tkO 28 ?_;refine DZ (by kernel_rfl) ?_ _;go_wp2;go_roundw
           case rel=>exact ⟨k3+1,_,T',rfl,rfl,by omega,by go_num,HT14.out.1,HT14.out.2,HOK4.out,HRN.out,HXS.out,HC14.out.trans (HBWA3.out.mono HC14.out.size)⟩
           case measure=>simp [intOf];omega
      ·have HBD : Hid (cB f h l = X3.data.toList) := hid (by
        have e:=HROW3.out;rw [El (show l.length≤k3 by have:=HN.out;omega)] at e;have hz0:rowB h ahead [] (A.drop k3)=[]:=by simp [rowB]
        rw [hz0,DV,HP1.out] at e;rw [←e];unfold cB;rw [←HTT.out,←HAA.out,←HTL.out,HN.out])
       have HRZ:Hid ((batF f h l).1=0):=hid HR.out;have HF3:=hid (HF2.out.below (HE.out _ HC11.out) HZ2.out.1);have HW3:=hid (HEW.out _ HC11.out);have HZF:Hid (F<wr.heap.size):=hid (Dv HZ2.out.1 (HE.out _ HC11.out).size);clear hx3 ha0 ha1 HOK3 HROW3;by_cases hbig:X3.size≤20000
       ·have hb1:(X3.size:Int)≤20000:=by omega
        have HBF2:Hid (aP f h l=(cB f h l,0,-1)):=hid (fq HRZ.out (by rw [HBD.out,←ac];omega));go_wp2_with fail
        refine (dF wr).mono ?_;rintro r w9' ⟨rfl,hb9'⟩;have HF4:=hid (HF3.out.below hb9' HZF.out);have HW4:Hid (Below w.heap.size w w9'):=HW3.out.trans (hb9'.mono HW3.out.size);clear hb9';obtain ⟨c0,c1⟩:=HF4.out.at;have g0:=HF4.out.frozen 0;have g1:=HF4.out.frozen 1;go_wp2;have HF5:Hid (rowF ((w9'.setCell ⟨F,0,none⟩ (.int .i64 0)).setCell ⟨F,1,none⟩ (.int .i64 (-1))) F 0 (-1)):=hid (HF4.out.put 0 (-1));have HW5':Hid (Below w.heap.size w ((w9'.setCell ⟨F,0,none⟩ (.int .i64 0)).setCell ⟨F,1,none⟩ (.int .i64 (-1)))):=hid (eR HW4.out HBW.out _ _);generalize (w9'.setCell ⟨F,0,none⟩ (.int .i64 0)).setCell ⟨F,1,none⟩ (.int .i64 (-1))=wz at HF5 HW5' ⊢;clear c0 c1 g0 g1;obtain ⟨c0,c1⟩:=HF5.out.at;refine Dc (v:=.tuple #[.string X3,.agg #[.int .i64 0,.int .i64 (-1)]]) (by simp [results,Tryz.results18,go_sem,c0,c1]) rfl ?_;exact ⟨by rw [HBF2.out,HBD.out];rfl,HW5'.out⟩
       ·have hb1:20000<(X3.size:Int):=by omega
        have HBF2:Hid (aP f h l=([],4,-1)):=hid (fZ HRZ.out (by rw [HBD.out,←ac];omega));go_wp2_with fail
        refine (bO 4 wr).mono ?_;rintro r w9' ⟨rfl,hb9'⟩;have HF4:=hid (HF3.out.below hb9' HZF.out);have HW4:Hid (Below w.heap.size w w9'):=HW3.out.trans (hb9'.mono HW3.out.size);clear hb9';obtain ⟨c0,c1⟩:=HF4.out.at;have g0:=HF4.out.frozen 0;have g1:=HF4.out.frozen 1;go_wp2;have HF5:Hid (rowF ((w9'.setCell ⟨F,0,none⟩ (.int .i64 4)).setCell ⟨F,1,none⟩ (.int .i64 (-1))) F 4 (-1)):=hid (HF4.out.put 4 (-1));have HW5':Hid (Below w.heap.size w ((w9'.setCell ⟨F,0,none⟩ (.int .i64 4)).setCell ⟨F,1,none⟩ (.int .i64 (-1)))):=hid (eR HW4.out HBW.out _ _);generalize (w9'.setCell ⟨F,0,none⟩ (.int .i64 4)).setCell ⟨F,1,none⟩ (.int .i64 (-1))=wz at HF5 HW5' ⊢;clear c0 c1 g0 g1;obtain ⟨c0,c1⟩:=HF5.out.at;refine Dc (v:=.tuple #[.string ⟨#[]⟩,.agg #[.int .i64 4,.int .i64 (-1)]]) (by simp [results,Tryz.results18,go_sem,c0,c1]) rfl ?_;exact ⟨by rw [HBF2.out];rfl,HW5'.out⟩
