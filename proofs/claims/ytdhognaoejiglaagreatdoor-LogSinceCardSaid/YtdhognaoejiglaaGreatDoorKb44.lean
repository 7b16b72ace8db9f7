import Derived.Test.YtdhognaoejiglaaGreatDoorKb43
namespace Go.Proofs.YtdhognaoejiglaaGreatDoor
open Lib (hid)
set_option maxRecDepth 100000
set_option maxHeartbeats 8000000
section
open Go.RowKit
def fQ (W w:World) (D:Nat→Prop) (v:Value) (L:List (Nat×LogS)) (U:List Wr) (e:Ending) (w':World):Prop :=
 e=.returned (.bool true)∧∃ L',PT W w' D v L'∧cW U (L'.map Prod.snd)∧L'.map Prod.fst=L.map Prod.fst∧(∀ k,D k→w'.heap[k]? = w.heap[k]?)∧w.heap.size≤w'.heap.size
theorem fQ.kept {W w w':World} {D:Nat→Prop} {v:Value} {L:List (Nat×LogS)} {U:List Wr} (h:PT W w D v L) (hp:cW U (L.map Prod.snd)) (hb:Below w.heap.size w w'):fQ W w D v L U (.returned (.bool true)) w' :=
 ⟨rfl,L,h.keep hb,hp,rfl,fun k hk=>hb.block k (h.logs.data k hk),hb.size⟩
theorem gu {L:List (Nat×LogS)} {i P:Nat} {s:LogS} (h:L[i]? = some (P,s)):(L.map Prod.snd)[i]? = some s:=by rw [List.getElem?_map,h];rfl
theorem DL {L:List (Nat×LogS)} {i j Pi Pj:Nat} {s t t':LogS} (hi:L[i]? = some (Pi,s)) (hj:L[j]? = some (Pj,t)):∃ s',(L.set j (Pj,t'))[i]? = some (Pi,s'):=by
 by_cases e:i=j
 ·subst e;rw [hi] at hj;obtain ⟨rfl,rfl⟩:=Prod.mk.inj (Option.some.inj hj);exact ⟨t',List.getElem?_set_self (List.getElem?_eq_some_iff.1 hi).1⟩
 ·exact ⟨s,by rw [List.getElem?_set_ne (fun h=>e h.symm)];exact hi⟩
theorem D5 {W w:World} {D:Nat→Prop} {v:Value} {L:List (Nat×LogS)} {U:List Wr} (hP:PT W w D v L) (hp:cW U (L.map Prod.snd)) (hU:U.length≤60) {i j Pi Pj:Nat} {s t:LogS} (hi:L[i]? = some (Pi,s)) (hj:L[j]? = some (Pj,t)) (a0:Int) (hg:errT W) :
 Calls Tryz.prog 38 #[.pointer (some ⟨Pi,0,none⟩),.pointer (some ⟨Pj,0,none⟩),.int .i64 a0] w (fQ W w D v L U):=by
 have HG:=hid hg;have HP:=hid hP;have HU:=hid hp;have HI:=hid hi;have HJ:=hid hj;obtain ⟨nt,hnt⟩:∃ nt,nt=t.hv.length:=⟨_,rfl⟩;have HNT:=hid hnt;have ht16:t.hv.length≤16:=(hP.logs.ok _ (List.mem_of_getElem? hj)).hv.1;obtain ⟨q,hq⟩:∃ q:Int,cK a0 3=q:=⟨_,rfl⟩;have hq3:0≤q∧q<3:=by rw [←hq];exact dW (by omega)
 have HQ:=hid hq;have HT16:=hid ht16;clear hq hnt ht16;by_cases he:bo s t.hv=0
 ·obtain ⟨f1,f2,f3,f4,f5⟩:=CX hp hU (gu hi) (gu hj) he;have hrw:=dX.1 f1;obtain ⟨sh,hsh⟩:∃ sh,aT s t.hv=sh:=⟨_,rfl⟩;obtain ⟨sb,hsb⟩:∃ sb,aD s t.hv=sb:=⟨_,rfl⟩;rw [hsh,hsb] at f1 f2 f3 f4 hrw;rw [hsb] at f5;obtain ⟨t',ht'⟩:∃ t',accS t sh sb=t':=⟨_,rfl⟩;rw [ht'] at f3 f4;obtain ⟨s',hs'⟩:=DL (t':=t') hi hj;have hcov:=f4 s' (by rw [←oA (P:=Pj)];exact gu hs');rw [←oA (P:=Pj)] at f3;have hj':(L.set j (Pj,t'))[j]? = some (Pj,t'):=List.getElem?_set_self (List.getElem?_eq_some_iff.1 hj).1;obtain ⟨nh,hnh⟩:∃ n,n=sh.length:=⟨_,rfl⟩;obtain ⟨nb,hnb⟩:∃ n,n=sb.length:=⟨_,rfl⟩;obtain ⟨m1,hm1⟩:∃ n,n=t'.hv.length:=⟨_,rfl⟩;obtain ⟨m2,hm2⟩:∃ n,n=s'.hv.length:=⟨_,rfl⟩;have ok1:=(f3.ok t' (List.mem_of_getElem? (gu hj'))).hv.1;have ok2:=(f3.ok s' (List.mem_of_getElem? (gu hs'))).hv.1;have HSH:=hid hsh;have HSB:=hid hsb;have HT':=hid ht';have HS':=hid hs';have HJ':=hid hj';have HCV:=hid hcov;have HF2:=hid f2;have HF3:=hid f3;have HNH:=hid hnh;have HNB:=hid hnb;have HM1:=hid hm1;have HM2:=hid hm2;have HE:=hid he;have HRW:=hid hrw;have HO1:=hid ok1;have HO2:=hid ok2;have HB60:=hid f5
  have hSame:ic t.hv sh sb t.hv sh sb=true:=DD _ _ _;have HSM:=hid hSame;clear hsh hsb ht' hs' hj' hcov f2 f3 f4 hnh hnb hm1 hm2 he hrw ok1 ok2 f5 hSame hP hp hg hi hj;obtain hq0 | hq1 | hq2:q=0∨q=1∨q=2:=by omega
  ·subst hq0;obtain ⟨T,hT,hok⟩ | hbig:=zu f1
   ·have HT:=hid hT;have HOK:=hid hok;clear hT hok f1;go_enter Tryz.func38,Tryz.ntmps38
    go_wp2
    go_loopw [14] (fun i wr=>i=.int .i64 0∧wr=w) (fun _ _=>1)
    case atStart=>exact ⟨rfl,rfl⟩
    case round =>
     obtain ⟨rfl,rfl⟩:=hrel;go_wp2_with (first
      | (go_at_call 17;(with_reducible refine (bH (i:=j) HP.out.logs HJ.out nt HNT.out.symm).mono ?_);rintro r w1 ⟨a1,c1,rfl,ho1,hb1⟩;have HP1:=hid (HP.out.keep hb1);have HO1':=hid ho1;have HB1:=hid hb1;clear hb1 ho1)
      | (go_at_call 22;(with_reducible refine (fm (i:=i) HP1.out.logs HI.out _ t.hv HO1'.out.is (by have:=HT16.out;omega) (HG.out.below HP1.out.logs.bel) HE.out nt nh nb sh sb HNT.out.symm HSH.out HSB.out HNH.out.symm HNB.out.symm).mono ?_);rintro r w2 ⟨a2,c2,a3,c3,a4,c4,rfl,o1,o2,o3,hb2⟩;have HP2:=hid (HP1.out.keep hb2);have HX2:Hid (aC w2 (.slice a2 nt c2) (.slice a3 nh c3) (.slice a4 nb c4) t.hv sh sb):=hid (fV o1 o2 o3 (by have:=HT16.out;omega) (by have:=HRW.out.1.2.1.1;omega) (by have:=HB60.out;omega) (fun x hx=>(HRW.out.2.2.1 x hx).1));have HX2A:=hid (HX2.out.alloc (.cells #[.slice a2 nt c2,.slice a3 nh c3,.slice a4 nb c4] 47));have HB2:=hid ((HB1.out.trans (hb2.mono HB1.out.size)).alloc (HB1.out.trans (hb2.mono HB1.out.size)).size (.cells #[.slice a2 nt c2,.slice a3 nh c3,.slice a4 nb c4] 47));have HP2A:=hid (HP2.out.keep ((Below.refl _ _).alloc (Nat.le_refl _) (.cells #[.slice a2 nt c2,.slice a3 nh c3,.slice a4 nb c4] 47)));have HR2:=hid (heap_alloc_new w2 (.cells #[.slice a2 nt c2,.slice a3 nh c3,.slice a4 nb c4] 47));clear hb2 o1 o2 o3)
      | (go_at_call 14;(with_reducible refine (eL a0 3 _ (by omega) (by omega)).mono ?_);rintro r w3 ⟨rfl,rfl⟩;rw [HQ.out])
      | (go_at_call 61;(with_reducible refine (HOK.out _ _ _ _ HX2A.out (HG.out.below HP2A.out.logs.bel)).mono ?_);rintro r w4 ⟨rfl,hb4⟩;have HP4:=hid (HP2A.out.keep hb4);have HX4:=hid (HX2A.out.below hb4);have HB4:=hid (HB2.out.trans (hb4.mono HB2.out.size));have HR4:=hid ((hb4.block _ (Array.getElem?_eq_some_iff.1 HR2.out).1).trans HR2.out);clear hb4)
      | (go_at_call 64;(with_reducible refine (ng T t.hv sh sb _ (HG.out.below HP4.out.logs.bel) HT.out nt nh nb HNT.out.symm HNH.out.symm HNB.out.symm).mono ?_);rintro r w5 ⟨a5,c5,a6,c6,a7,c7,rfl,hx5,hb5⟩;have HP5:=hid (HP4.out.keep (hb5.alloc hb5.size (.cells #[.slice a5 nt c5,.slice a6 nh c6,.slice a7 nb c7] 47)));have HX5:=hid ((HX4.out.below hb5).alloc (.cells #[.slice a5 nt c5,.slice a6 nh c6,.slice a7 nb c7] 47));have HY5:=hid (hx5.alloc (.cells #[.slice a5 nt c5,.slice a6 nh c6,.slice a7 nb c7] 47));have hr5:=(hb5.block _ (Array.getElem?_eq_some_iff.1 HR4.out).1).trans HR4.out;have hl5:w2.heap.size<w5.heap.size:=(Array.getElem?_eq_some_iff.1 hr5).1;have x0:=cell_of_row _ _ 0 _ _ _ hr5;have x1:=cell_of_row _ _ 1 _ _ _ hr5;have x2:=cell_of_row _ _ 2 _ _ _ hr5;simp only [List.getElem?_toArray,List.getElem?_cons_zero,List.getElem?_cons_succ] at x0 x1 x2;have HB5:=hid (HB4.out.trans ((hb5.alloc hb5.size (.cells #[.slice a5 nt c5,.slice a6 nh c6,.slice a7 nb c7] 47)).mono HB4.out.size));have HR5:=hid (heap_alloc_new w5 (.cells #[.slice a5 nt c5,.slice a6 nh c6,.slice a7 nb c7] 47));clear hb5 hx5 hr5)
      | (go_at_call 25;(with_reducible refine (iF _ _ _ _ _ _ t.hv sh sb t.hv sh sb true _ HX5.out HY5.out HSM.out).mono ?_);rintro r w6 ⟨rfl,hb6⟩;have HP6:=hid (HP5.out.keep hb6);have HB6:=hid (HB5.out.trans (hb6.mono HB5.out.size));have HY6:=hid (HY5.out.below hb6);have hr6:=(hb6.block _ (Array.getElem?_eq_some_iff.1 HR5.out).1).trans HR5.out;clear x0 x1 x2;have x0:=cell_of_row _ _ 0 _ _ _ hr6;have x1:=cell_of_row _ _ 1 _ _ _ hr6;have x2:=cell_of_row _ _ 2 _ _ _ hr6;simp only [List.getElem?_toArray,List.getElem?_cons_zero,List.getElem?_cons_succ] at x0 x1 x2;clear hb6 hr6)
      | (go_at_call 23;(with_reducible refine (jM (i:=j) HP6.out.logs HJ.out _ _ _ t.hv sh sb HY6.out (HG.out.below HP6.out.logs.bel) HF2.out _ t' rfl HT'.out).mono ?_);rintro r w7 ⟨rfl,h7,hd7,hs7⟩;have HP7:=hid (HP6.out.step HJ.out h7 hd7);have HD7:Hid ((∀ k,D k→w7.heap[k]? = wr.heap[k]?)∧wr.heap.size≤w7.heap.size):=hid ⟨fun k hk=>(hd7 k hk).trans (HB6.out.block k (HP.out.logs.data k hk)),Nat.le_trans HB6.out.size hs7⟩;clear h7 hd7 hs7)
      | (go_at_call 17;(with_reducible refine (bH (i:=j) HP7.out.logs HJ'.out m1 HM1.out.symm).mono ?_);rintro r w8 ⟨a8,c8,rfl,o8,hb8⟩;have HP8:=hid (HP7.out.keep hb8);have HB8:=hid hb8;have HO8:=hid o8;clear o8 hb8)
      | (go_at_call 17;(with_reducible refine (bH (i:=i) HP8.out.logs HS'.out m2 HM2.out.symm).mono ?_);rintro r w9 ⟨a9,c9,rfl,o9,hb9⟩;have HP9:=hid (HP8.out.keep hb9);have HB9:=hid (HB8.out.trans (hb9.mono HB8.out.size));have HO8B:=hid (HO8.out.below hb9);have HO9:=hid o9;clear o9 hb9)
      | (go_at_call 26;(with_reducible refine (dn _ _ t'.hv s'.hv true _ HO8B.out.is HO9.out.is (by have:=HO1.out;omega) (by have:=HO2.out;omega) HCV.out).mono ?_);rintro r w10 ⟨rfl,hb10⟩;have HP10:=hid (HP9.out.keep hb10);have HB10:=hid (HB9.out.trans (hb10.mono HB9.out.size));clear hb10)
      | fail)
     go_ret;refine ⟨rfl,_,HP10.out,HF3.out,lM HJ.out,fun k hk=>?_,?_⟩
     ·exact (HB10.out.block k (HP7.out.logs.data k hk)).trans (HD7.out.1 k hk)
     ·exact Nat.le_trans HD7.out.2 HB10.out.size
   ·have HBIG:=hid hbig;clear hbig f1;go_enter Tryz.func38,Tryz.ntmps38
    go_wp2
    go_loopw [14] (fun i wr=>i=.int .i64 0∧wr=w) (fun _ _=>1)
    case atStart=>exact ⟨rfl,rfl⟩
    case round =>
     obtain ⟨rfl,rfl⟩:=hrel;go_wp2_with (first
      | (go_at_call 17;(with_reducible refine (bH (i:=j) HP.out.logs HJ.out nt HNT.out.symm).mono ?_);rintro r w1 ⟨a1,c1,rfl,ho1,hb1⟩;have HP1:=hid (HP.out.keep hb1);have HO1':=hid ho1;have HB1:=hid hb1;clear hb1 ho1)
      | (go_at_call 22;(with_reducible refine (fm (i:=i) HP1.out.logs HI.out _ t.hv HO1'.out.is (by have:=HT16.out;omega) (HG.out.below HP1.out.logs.bel) HE.out nt nh nb sh sb HNT.out.symm HSH.out HSB.out HNH.out.symm HNB.out.symm).mono ?_);rintro r w2 ⟨a2,c2,a3,c3,a4,c4,rfl,o1,o2,o3,hb2⟩;have HP2:=hid (HP1.out.keep hb2);have HX2:Hid (aC w2 (.slice a2 nt c2) (.slice a3 nh c3) (.slice a4 nb c4) t.hv sh sb):=hid (fV o1 o2 o3 (by have:=HT16.out;omega) (by have:=HRW.out.1.2.1.1;omega) (by have:=HB60.out;omega) (fun x hx=>(HRW.out.2.2.1 x hx).1));have HX2A:=hid (HX2.out.alloc (.cells #[.slice a2 nt c2,.slice a3 nh c3,.slice a4 nb c4] 47));have HB2:=hid ((HB1.out.trans (hb2.mono HB1.out.size)).alloc (HB1.out.trans (hb2.mono HB1.out.size)).size (.cells #[.slice a2 nt c2,.slice a3 nh c3,.slice a4 nb c4] 47));have HP2A:=hid (HP2.out.keep ((Below.refl _ _).alloc (Nat.le_refl _) (.cells #[.slice a2 nt c2,.slice a3 nh c3,.slice a4 nb c4] 47)));have HR2:=hid (heap_alloc_new w2 (.cells #[.slice a2 nt c2,.slice a3 nh c3,.slice a4 nb c4] 47));clear hb2 o1 o2 o3)
      | (go_at_call 14;(with_reducible refine (eL a0 3 _ (by omega) (by omega)).mono ?_);rintro r w3 ⟨rfl,rfl⟩;rw [HQ.out])
      | (go_at_call 61;(with_reducible refine (HBIG.out _ _ _ _ HX2A.out (HG.out.below HP2A.out.logs.bel)).mono ?_);rintro r w4 ⟨et,eu,rfl,hi4,hb4⟩;have HI4:=hid hi4;have HP4:=hid (HP2A.out.keep hb4);have HB4:=hid (HB2.out.trans (hb4.mono HB2.out.size));clear hb4 hi4)
      | (go_at_call 35;(with_reducible refine (dM _ 4 _ (HG.out.below HP4.out.logs.bel) HI4.out).mono ?_);rintro r w5 ⟨rfl,hb5⟩;have HB5:=hid (HB4.out.trans (hb5.mono HB4.out.size));clear hb5)
      | fail)
     go_ret;exact fQ.kept HP.out HU.out HB5.out
  ·subst hq1;obtain ⟨T,hT,hok⟩ | hbig:=zr f1
   ·have HT:=hid hT;have HOK:=hid hok;clear hT hok f1;go_enter Tryz.func38,Tryz.ntmps38
    go_wp2
    go_loopw [14] (fun i wr=>i=.int .i64 0∧wr=w) (fun _ _=>1)
    case atStart=>exact ⟨rfl,rfl⟩
    case round =>
     obtain ⟨rfl,rfl⟩:=hrel;go_wp2_with (first
      | (go_at_call 17;(with_reducible refine (bH (i:=j) HP.out.logs HJ.out nt HNT.out.symm).mono ?_);rintro r w1 ⟨a1,c1,rfl,ho1,hb1⟩;have HP1:=hid (HP.out.keep hb1);have HO1':=hid ho1;have HB1:=hid hb1;clear hb1 ho1)
      | (go_at_call 22;(with_reducible refine (fm (i:=i) HP1.out.logs HI.out _ t.hv HO1'.out.is (by have:=HT16.out;omega) (HG.out.below HP1.out.logs.bel) HE.out nt nh nb sh sb HNT.out.symm HSH.out HSB.out HNH.out.symm HNB.out.symm).mono ?_);rintro r w2 ⟨a2,c2,a3,c3,a4,c4,rfl,o1,o2,o3,hb2⟩;have HP2:=hid (HP1.out.keep hb2);have HX2:Hid (aC w2 (.slice a2 nt c2) (.slice a3 nh c3) (.slice a4 nb c4) t.hv sh sb):=hid (fV o1 o2 o3 (by have:=HT16.out;omega) (by have:=HRW.out.1.2.1.1;omega) (by have:=HB60.out;omega) (fun x hx=>(HRW.out.2.2.1 x hx).1));have HX2A:=hid (HX2.out.alloc (.cells #[.slice a2 nt c2,.slice a3 nh c3,.slice a4 nb c4] 47));have HB2:=hid ((HB1.out.trans (hb2.mono HB1.out.size)).alloc (HB1.out.trans (hb2.mono HB1.out.size)).size (.cells #[.slice a2 nt c2,.slice a3 nh c3,.slice a4 nb c4] 47));have HP2A:=hid (HP2.out.keep ((Below.refl _ _).alloc (Nat.le_refl _) (.cells #[.slice a2 nt c2,.slice a3 nh c3,.slice a4 nb c4] 47)));have HR2:=hid (heap_alloc_new w2 (.cells #[.slice a2 nt c2,.slice a3 nh c3,.slice a4 nb c4] 47));clear hb2 o1 o2 o3)
      | (go_at_call 14;(with_reducible refine (eL a0 3 _ (by omega) (by omega)).mono ?_);rintro r w3 ⟨rfl,rfl⟩;rw [HQ.out])
      | (go_at_call 62;(with_reducible refine (HOK.out _ _ _ _ HX2A.out (HG.out.below HP2A.out.logs.bel)).mono ?_);rintro r w4 ⟨rfl,hb4⟩;have HP4:=hid (HP2A.out.keep hb4);have HX4:=hid (HX2A.out.below hb4);have HB4:=hid (HB2.out.trans (hb4.mono HB2.out.size));have HR4:=hid ((hb4.block _ (Array.getElem?_eq_some_iff.1 HR2.out).1).trans HR2.out);clear hb4)
      | (go_at_call 64;(with_reducible refine (ng T t.hv sh sb _ (HG.out.below HP4.out.logs.bel) HT.out nt nh nb HNT.out.symm HNH.out.symm HNB.out.symm).mono ?_);rintro r w5 ⟨a5,c5,a6,c6,a7,c7,rfl,hx5,hb5⟩;have HP5:=hid (HP4.out.keep (hb5.alloc hb5.size (.cells #[.slice a5 nt c5,.slice a6 nh c6,.slice a7 nb c7] 47)));have HX5:=hid ((HX4.out.below hb5).alloc (.cells #[.slice a5 nt c5,.slice a6 nh c6,.slice a7 nb c7] 47));have HY5:=hid (hx5.alloc (.cells #[.slice a5 nt c5,.slice a6 nh c6,.slice a7 nb c7] 47));have hr5:=(hb5.block _ (Array.getElem?_eq_some_iff.1 HR4.out).1).trans HR4.out;have hl5:w2.heap.size<w5.heap.size:=(Array.getElem?_eq_some_iff.1 hr5).1;have x0:=cell_of_row _ _ 0 _ _ _ hr5;have x1:=cell_of_row _ _ 1 _ _ _ hr5;have x2:=cell_of_row _ _ 2 _ _ _ hr5;simp only [List.getElem?_toArray,List.getElem?_cons_zero,List.getElem?_cons_succ] at x0 x1 x2;have HB5:=hid (HB4.out.trans ((hb5.alloc hb5.size (.cells #[.slice a5 nt c5,.slice a6 nh c6,.slice a7 nb c7] 47)).mono HB4.out.size));have HR5:=hid (heap_alloc_new w5 (.cells #[.slice a5 nt c5,.slice a6 nh c6,.slice a7 nb c7] 47));clear hb5 hx5 hr5)
      | (go_at_call 25;(with_reducible refine (iF _ _ _ _ _ _ t.hv sh sb t.hv sh sb true _ HX5.out HY5.out HSM.out).mono ?_);rintro r w6 ⟨rfl,hb6⟩;have HP6:=hid (HP5.out.keep hb6);have HB6:=hid (HB5.out.trans (hb6.mono HB5.out.size));have HY6:=hid (HY5.out.below hb6);have hr6:=(hb6.block _ (Array.getElem?_eq_some_iff.1 HR5.out).1).trans HR5.out;clear x0 x1 x2;have x0:=cell_of_row _ _ 0 _ _ _ hr6;have x1:=cell_of_row _ _ 1 _ _ _ hr6;have x2:=cell_of_row _ _ 2 _ _ _ hr6;simp only [List.getElem?_toArray,List.getElem?_cons_zero,List.getElem?_cons_succ] at x0 x1 x2;clear hb6 hr6)
      | (go_at_call 23;(with_reducible refine (jM (i:=j) HP6.out.logs HJ.out _ _ _ t.hv sh sb HY6.out (HG.out.below HP6.out.logs.bel) HF2.out _ t' rfl HT'.out).mono ?_);rintro r w7 ⟨rfl,h7,hd7,hs7⟩;have HP7:=hid (HP6.out.step HJ.out h7 hd7);have HD7:Hid ((∀ k,D k→w7.heap[k]? = wr.heap[k]?)∧wr.heap.size≤w7.heap.size):=hid ⟨fun k hk=>(hd7 k hk).trans (HB6.out.block k (HP.out.logs.data k hk)),Nat.le_trans HB6.out.size hs7⟩;clear h7 hd7 hs7)
      | (go_at_call 17;(with_reducible refine (bH (i:=j) HP7.out.logs HJ'.out m1 HM1.out.symm).mono ?_);rintro r w8 ⟨a8,c8,rfl,o8,hb8⟩;have HP8:=hid (HP7.out.keep hb8);have HB8:=hid hb8;have HO8:=hid o8;clear o8 hb8)
      | (go_at_call 17;(with_reducible refine (bH (i:=i) HP8.out.logs HS'.out m2 HM2.out.symm).mono ?_);rintro r w9 ⟨a9,c9,rfl,o9,hb9⟩;have HP9:=hid (HP8.out.keep hb9);have HB9:=hid (HB8.out.trans (hb9.mono HB8.out.size));have HO8B:=hid (HO8.out.below hb9);have HO9:=hid o9;clear o9 hb9)
      | (go_at_call 26;(with_reducible refine (dn _ _ t'.hv s'.hv true _ HO8B.out.is HO9.out.is (by have:=HO1.out;omega) (by have:=HO2.out;omega) HCV.out).mono ?_);rintro r w10 ⟨rfl,hb10⟩;have HP10:=hid (HP9.out.keep hb10);have HB10:=hid (HB9.out.trans (hb10.mono HB9.out.size));clear hb10)
      | fail)
     go_ret;refine ⟨rfl,_,HP10.out,HF3.out,lM HJ.out,fun k hk=>?_,?_⟩
     ·exact (HB10.out.block k (HP7.out.logs.data k hk)).trans (HD7.out.1 k hk)
     ·exact Nat.le_trans HD7.out.2 HB10.out.size
   ·have HBIG:=hid hbig;clear hbig f1;go_enter Tryz.func38,Tryz.ntmps38
    go_wp2
    go_loopw [14] (fun i wr=>i=.int .i64 0∧wr=w) (fun _ _=>1)
    case atStart=>exact ⟨rfl,rfl⟩
    case round =>
     obtain ⟨rfl,rfl⟩:=hrel;go_wp2_with (first
      | (go_at_call 17;(with_reducible refine (bH (i:=j) HP.out.logs HJ.out nt HNT.out.symm).mono ?_);rintro r w1 ⟨a1,c1,rfl,ho1,hb1⟩;have HP1:=hid (HP.out.keep hb1);have HO1':=hid ho1;have HB1:=hid hb1;clear hb1 ho1)
      | (go_at_call 22;(with_reducible refine (fm (i:=i) HP1.out.logs HI.out _ t.hv HO1'.out.is (by have:=HT16.out;omega) (HG.out.below HP1.out.logs.bel) HE.out nt nh nb sh sb HNT.out.symm HSH.out HSB.out HNH.out.symm HNB.out.symm).mono ?_);rintro r w2 ⟨a2,c2,a3,c3,a4,c4,rfl,o1,o2,o3,hb2⟩;have HP2:=hid (HP1.out.keep hb2);have HX2:Hid (aC w2 (.slice a2 nt c2) (.slice a3 nh c3) (.slice a4 nb c4) t.hv sh sb):=hid (fV o1 o2 o3 (by have:=HT16.out;omega) (by have:=HRW.out.1.2.1.1;omega) (by have:=HB60.out;omega) (fun x hx=>(HRW.out.2.2.1 x hx).1));have HX2A:=hid (HX2.out.alloc (.cells #[.slice a2 nt c2,.slice a3 nh c3,.slice a4 nb c4] 47));have HB2:=hid ((HB1.out.trans (hb2.mono HB1.out.size)).alloc (HB1.out.trans (hb2.mono HB1.out.size)).size (.cells #[.slice a2 nt c2,.slice a3 nh c3,.slice a4 nb c4] 47));have HP2A:=hid (HP2.out.keep ((Below.refl _ _).alloc (Nat.le_refl _) (.cells #[.slice a2 nt c2,.slice a3 nh c3,.slice a4 nb c4] 47)));have HR2:=hid (heap_alloc_new w2 (.cells #[.slice a2 nt c2,.slice a3 nh c3,.slice a4 nb c4] 47));clear hb2 o1 o2 o3)
      | (go_at_call 14;(with_reducible refine (eL a0 3 _ (by omega) (by omega)).mono ?_);rintro r w3 ⟨rfl,rfl⟩;rw [HQ.out])
      | (go_at_call 62;(with_reducible refine (HBIG.out _ _ _ _ HX2A.out (HG.out.below HP2A.out.logs.bel)).mono ?_);rintro r w4 ⟨et,eu,rfl,hi4,hb4⟩;have HI4:=hid hi4;have HP4:=hid (HP2A.out.keep hb4);have HB4:=hid (HB2.out.trans (hb4.mono HB2.out.size));clear hb4 hi4)
      | (go_at_call 35;(with_reducible refine (dM _ 4 _ (HG.out.below HP4.out.logs.bel) HI4.out).mono ?_);rintro r w5 ⟨rfl,hb5⟩;have HB5:=hid (HB4.out.trans (hb5.mono HB4.out.size));clear hb5)
      | fail)
     go_ret;exact fQ.kept HP.out HU.out HB5.out
  ·subst hq2;obtain ⟨T,hT,hok⟩ | hbig:=zt f1
   ·have HT:=hid hT;have HOK:=hid hok;clear hT hok f1;go_enter Tryz.func38,Tryz.ntmps38
    go_wp2
    go_loopw [14] (fun i wr=>i=.int .i64 0∧wr=w) (fun _ _=>1)
    case atStart=>exact ⟨rfl,rfl⟩
    case round =>
     obtain ⟨rfl,rfl⟩:=hrel;go_wp2_with (first
      | (go_at_call 17;(with_reducible refine (bH (i:=j) HP.out.logs HJ.out nt HNT.out.symm).mono ?_);rintro r w1 ⟨a1,c1,rfl,ho1,hb1⟩;have HP1:=hid (HP.out.keep hb1);have HO1':=hid ho1;have HB1:=hid hb1;clear hb1 ho1)
      | (go_at_call 22;(with_reducible refine (fm (i:=i) HP1.out.logs HI.out _ t.hv HO1'.out.is (by have:=HT16.out;omega) (HG.out.below HP1.out.logs.bel) HE.out nt nh nb sh sb HNT.out.symm HSH.out HSB.out HNH.out.symm HNB.out.symm).mono ?_);rintro r w2 ⟨a2,c2,a3,c3,a4,c4,rfl,o1,o2,o3,hb2⟩;have HP2:=hid (HP1.out.keep hb2);have HX2:Hid (aC w2 (.slice a2 nt c2) (.slice a3 nh c3) (.slice a4 nb c4) t.hv sh sb):=hid (fV o1 o2 o3 (by have:=HT16.out;omega) (by have:=HRW.out.1.2.1.1;omega) (by have:=HB60.out;omega) (fun x hx=>(HRW.out.2.2.1 x hx).1));have HX2A:=hid (HX2.out.alloc (.cells #[.slice a2 nt c2,.slice a3 nh c3,.slice a4 nb c4] 47));have HB2:=hid ((HB1.out.trans (hb2.mono HB1.out.size)).alloc (HB1.out.trans (hb2.mono HB1.out.size)).size (.cells #[.slice a2 nt c2,.slice a3 nh c3,.slice a4 nb c4] 47));have HP2A:=hid (HP2.out.keep ((Below.refl _ _).alloc (Nat.le_refl _) (.cells #[.slice a2 nt c2,.slice a3 nh c3,.slice a4 nb c4] 47)));have HR2:=hid (heap_alloc_new w2 (.cells #[.slice a2 nt c2,.slice a3 nh c3,.slice a4 nb c4] 47));clear hb2 o1 o2 o3)
      | (go_at_call 14;(with_reducible refine (eL a0 3 _ (by omega) (by omega)).mono ?_);rintro r w3 ⟨rfl,rfl⟩;rw [HQ.out])
      | (go_at_call 63;(with_reducible refine (HOK.out _ _ _ _ HX2A.out (HG.out.below HP2A.out.logs.bel)).mono ?_);rintro r w4 ⟨rfl,hb4⟩;have HP4:=hid (HP2A.out.keep hb4);have HX4:=hid (HX2A.out.below hb4);have HB4:=hid (HB2.out.trans (hb4.mono HB2.out.size));have HR4:=hid ((hb4.block _ (Array.getElem?_eq_some_iff.1 HR2.out).1).trans HR2.out);clear hb4)
      | (go_at_call 64;(with_reducible refine (ng T t.hv sh sb _ (HG.out.below HP4.out.logs.bel) HT.out nt nh nb HNT.out.symm HNH.out.symm HNB.out.symm).mono ?_);rintro r w5 ⟨a5,c5,a6,c6,a7,c7,rfl,hx5,hb5⟩;have HP5:=hid (HP4.out.keep (hb5.alloc hb5.size (.cells #[.slice a5 nt c5,.slice a6 nh c6,.slice a7 nb c7] 47)));have HX5:=hid ((HX4.out.below hb5).alloc (.cells #[.slice a5 nt c5,.slice a6 nh c6,.slice a7 nb c7] 47));have HY5:=hid (hx5.alloc (.cells #[.slice a5 nt c5,.slice a6 nh c6,.slice a7 nb c7] 47));have hr5:=(hb5.block _ (Array.getElem?_eq_some_iff.1 HR4.out).1).trans HR4.out;have hl5:w2.heap.size<w5.heap.size:=(Array.getElem?_eq_some_iff.1 hr5).1;have x0:=cell_of_row _ _ 0 _ _ _ hr5;have x1:=cell_of_row _ _ 1 _ _ _ hr5;have x2:=cell_of_row _ _ 2 _ _ _ hr5;simp only [List.getElem?_toArray,List.getElem?_cons_zero,List.getElem?_cons_succ] at x0 x1 x2;have HB5:=hid (HB4.out.trans ((hb5.alloc hb5.size (.cells #[.slice a5 nt c5,.slice a6 nh c6,.slice a7 nb c7] 47)).mono HB4.out.size));have HR5:=hid (heap_alloc_new w5 (.cells #[.slice a5 nt c5,.slice a6 nh c6,.slice a7 nb c7] 47));clear hb5 hx5 hr5)
      | (go_at_call 25;(with_reducible refine (iF _ _ _ _ _ _ t.hv sh sb t.hv sh sb true _ HX5.out HY5.out HSM.out).mono ?_);rintro r w6 ⟨rfl,hb6⟩;have HP6:=hid (HP5.out.keep hb6);have HB6:=hid (HB5.out.trans (hb6.mono HB5.out.size));have HY6:=hid (HY5.out.below hb6);have hr6:=(hb6.block _ (Array.getElem?_eq_some_iff.1 HR5.out).1).trans HR5.out;clear x0 x1 x2;have x0:=cell_of_row _ _ 0 _ _ _ hr6;have x1:=cell_of_row _ _ 1 _ _ _ hr6;have x2:=cell_of_row _ _ 2 _ _ _ hr6;simp only [List.getElem?_toArray,List.getElem?_cons_zero,List.getElem?_cons_succ] at x0 x1 x2;clear hb6 hr6)
      | (go_at_call 23;(with_reducible refine (jM (i:=j) HP6.out.logs HJ.out _ _ _ t.hv sh sb HY6.out (HG.out.below HP6.out.logs.bel) HF2.out _ t' rfl HT'.out).mono ?_);rintro r w7 ⟨rfl,h7,hd7,hs7⟩;have HP7:=hid (HP6.out.step HJ.out h7 hd7);have HD7:Hid ((∀ k,D k→w7.heap[k]? = wr.heap[k]?)∧wr.heap.size≤w7.heap.size):=hid ⟨fun k hk=>(hd7 k hk).trans (HB6.out.block k (HP.out.logs.data k hk)),Nat.le_trans HB6.out.size hs7⟩;clear h7 hd7 hs7)
      | (go_at_call 17;(with_reducible refine (bH (i:=j) HP7.out.logs HJ'.out m1 HM1.out.symm).mono ?_);rintro r w8 ⟨a8,c8,rfl,o8,hb8⟩;have HP8:=hid (HP7.out.keep hb8);have HB8:=hid hb8;have HO8:=hid o8;clear o8 hb8)
      | (go_at_call 17;(with_reducible refine (bH (i:=i) HP8.out.logs HS'.out m2 HM2.out.symm).mono ?_);rintro r w9 ⟨a9,c9,rfl,o9,hb9⟩;have HP9:=hid (HP8.out.keep hb9);have HB9:=hid (HB8.out.trans (hb9.mono HB8.out.size));have HO8B:=hid (HO8.out.below hb9);have HO9:=hid o9;clear o9 hb9)
      | (go_at_call 26;(with_reducible refine (dn _ _ t'.hv s'.hv true _ HO8B.out.is HO9.out.is (by have:=HO1.out;omega) (by have:=HO2.out;omega) HCV.out).mono ?_);rintro r w10 ⟨rfl,hb10⟩;have HP10:=hid (HP9.out.keep hb10);have HB10:=hid (HB9.out.trans (hb10.mono HB9.out.size));clear hb10)
      | fail)
     go_ret;refine ⟨rfl,_,HP10.out,HF3.out,lM HJ.out,fun k hk=>?_,?_⟩
     ·exact (HB10.out.block k (HP7.out.logs.data k hk)).trans (HD7.out.1 k hk)
     ·exact Nat.le_trans HD7.out.2 HB10.out.size
   ·have HBIG:=hid hbig;clear hbig f1;go_enter Tryz.func38,Tryz.ntmps38
    go_wp2
    go_loopw [14] (fun i wr=>i=.int .i64 0∧wr=w) (fun _ _=>1)
    case atStart=>exact ⟨rfl,rfl⟩
    case round =>
     obtain ⟨rfl,rfl⟩:=hrel;go_wp2_with (first
      | (go_at_call 17;(with_reducible refine (bH (i:=j) HP.out.logs HJ.out nt HNT.out.symm).mono ?_);rintro r w1 ⟨a1,c1,rfl,ho1,hb1⟩;have HP1:=hid (HP.out.keep hb1);have HO1':=hid ho1;have HB1:=hid hb1;clear hb1 ho1)
      | (go_at_call 22;(with_reducible refine (fm (i:=i) HP1.out.logs HI.out _ t.hv HO1'.out.is (by have:=HT16.out;omega) (HG.out.below HP1.out.logs.bel) HE.out nt nh nb sh sb HNT.out.symm HSH.out HSB.out HNH.out.symm HNB.out.symm).mono ?_);rintro r w2 ⟨a2,c2,a3,c3,a4,c4,rfl,o1,o2,o3,hb2⟩;have HP2:=hid (HP1.out.keep hb2);have HX2:Hid (aC w2 (.slice a2 nt c2) (.slice a3 nh c3) (.slice a4 nb c4) t.hv sh sb):=hid (fV o1 o2 o3 (by have:=HT16.out;omega) (by have:=HRW.out.1.2.1.1;omega) (by have:=HB60.out;omega) (fun x hx=>(HRW.out.2.2.1 x hx).1));have HX2A:=hid (HX2.out.alloc (.cells #[.slice a2 nt c2,.slice a3 nh c3,.slice a4 nb c4] 47));have HB2:=hid ((HB1.out.trans (hb2.mono HB1.out.size)).alloc (HB1.out.trans (hb2.mono HB1.out.size)).size (.cells #[.slice a2 nt c2,.slice a3 nh c3,.slice a4 nb c4] 47));have HP2A:=hid (HP2.out.keep ((Below.refl _ _).alloc (Nat.le_refl _) (.cells #[.slice a2 nt c2,.slice a3 nh c3,.slice a4 nb c4] 47)));have HR2:=hid (heap_alloc_new w2 (.cells #[.slice a2 nt c2,.slice a3 nh c3,.slice a4 nb c4] 47));clear hb2 o1 o2 o3)
      | (go_at_call 14;(with_reducible refine (eL a0 3 _ (by omega) (by omega)).mono ?_);rintro r w3 ⟨rfl,rfl⟩;rw [HQ.out])
      | (go_at_call 63;(with_reducible refine (HBIG.out _ _ _ _ HX2A.out (HG.out.below HP2A.out.logs.bel)).mono ?_);rintro r w4 ⟨et,eu,rfl,hi4,hb4⟩;have HI4:=hid hi4;have HP4:=hid (HP2A.out.keep hb4);have HB4:=hid (HB2.out.trans (hb4.mono HB2.out.size));clear hb4 hi4)
      | (go_at_call 35;(with_reducible refine (dM _ 4 _ (HG.out.below HP4.out.logs.bel) HI4.out).mono ?_);rintro r w5 ⟨rfl,hb5⟩;have HB5:=hid (HB4.out.trans (hb5.mono HB4.out.size));clear hb5)
      | fail)
     go_ret;exact fQ.kept HP.out HU.out HB5.out
 ·obtain ⟨x,hx⟩:∃ x,bo s t.hv=x:=⟨_,rfl⟩;have hx0:x≠0:=by rw [←hx];exact he
  have HX:=hid hx;clear hx he;go_enter Tryz.func38,Tryz.ntmps38
  go_wp2
  go_loopw [14] (fun i wr=>i=.int .i64 0∧wr=w) (fun _ _=>1)
  case atStart=>exact ⟨rfl,rfl⟩
  case round =>
   obtain ⟨rfl,rfl⟩:=hrel;go_wp2_with (first
    | (go_at_call 17;(with_reducible refine (bH (i:=j) HP.out.logs HJ.out nt HNT.out.symm).mono ?_);rintro r w1 ⟨a1,c1,rfl,ho1,hb1⟩;have HP1:=hid (HP.out.keep hb1);have HO1':=hid ho1;have HB1:=hid hb1;clear hb1 ho1)
    | (go_at_call 22;(with_reducible refine (mt (i:=i) HP1.out.logs HI.out _ t.hv HO1'.out.is (by have:=HT16.out;omega) (HG.out.below HP1.out.logs.bel) HX.out hx0).mono ?_);rintro r w2 ⟨rfl,hb2⟩;have HB2:=hid (HB1.out.trans (hb2.mono HB1.out.size));clear hb2)
    | fail)
   go_ret;exact fQ.kept HP.out HU.out (HB2.out.alloc HB2.out.size _)
end
section
open Go.RowKit
theorem i8 (a n:Int) (q:Int) (w:World) (m:Nat) (h0:0<n) (h1:n≤9223372036854775807) (hq:cK a n=q) :
 Calls Tryz.prog 14 #[.int .i64 a,.int .i64 n] (w.drewN m) fun e w'=>e=.returned (.int .i64 q)∧∃ m',w'=w.drewN m' :=
 (eL a n (w.drewN m) h0 h1).mono fun _ _ ⟨h2,h3⟩=>⟨by rw [h2,hq],m,h3.symm⟩
structure PS (W w:World) (n k g c:Nat) (L:List (Nat×LogS)) (U:List Wr):Prop where
 pt:PT W w (fun i=>g=i) (.slice (some ⟨g,0,none⟩) n c) L
 party:cW U (L.map Prod.snd)
 len:L.length=n
 few:U.length≤k
theorem PS.cell {W w:World} {n k g c:Nat} {L:List (Nat×LogS)} {U:List Wr} (h:PS W w n k g c L U) {q:Nat} (hq:q<n):∃ P s,L[q]? = some (P,s)∧g<w.heap.size∧w.cell? ⟨g,q,none⟩=some (.pointer (some ⟨P,0,none⟩)):=by
 have hl:q<L.length:=by rw [h.len];exact hq
 have hL:L[q]? = some (L[q].1,L[q].2):=List.getElem?_eq_getElem hl;obtain ⟨g',c',e,_,h2,h3⟩:=h.pt.ptrs.forms (fun e=>by have:=congrArg List.length e;rw [List.length_map,h.len,List.length_nil] at this;omega);simp only [Value.slice.injEq,Option.some.injEq,Addr.mk.injEq,and_true] at e
 obtain ⟨rfl,_,_⟩:=e;exact ⟨_,_,hL,h2,h3 q _ (by rw [List.getElem?_map,hL];rfl)⟩
theorem Bz (n:Nat) (hn:n≤201):cW [] (newL n):=CT n hn
theorem od (n:Nat) (hn:1≤n∧n≤5) (v:Value) (l:List Actn) (W:World) (h:cV W v l) (hs:dZ l=true) (hok:∀ x∈l,WrOk x.w) (hg:errT W) :
 Calls Tryz.prog 15 #[.int .i64 (n:Int),v] W fun e w'=>∃ g c L U,e=.returned (.tuple #[.slice (some ⟨g,0,none⟩) n c,.bool true])∧PS W w' n 60 g c L U:=by
 obtain ⟨hs1,hs2⟩:=tL.1 hs;obtain ⟨a,c0,rfl,hf⟩:=h.form;have HF:=hid hf;have HOK:=hid hok;have HG:=hid hg;have HSH:=hid hs1;obtain ⟨n0,hn0⟩:∃ n0,n0=l.length:=⟨_,rfl⟩;rw [←hn0] at hs2 ⊢;have HN:=hid hn0;obtain ⟨hn1,hn5⟩:=hn;clear h hf hok hn0 hg hs hs1;go_enter Tryz.func15,Tryz.ntmps15
 go_wp2_with (go_at_call 37;(with_reducible refine (Bg n ⟨hn1,by omega⟩ W).mono ?_);rintro r w1 ⟨g,c,L0,rfl,h1⟩;have HP1:Hid (PS W w1 n 0 g c L0 []):=hid ⟨⟨h1.pt.logs.call (Below.refl _ _) (fun k hk=>.inl (congrArg some hk)),h1.pt.ptrs,fun k hk=>Option.some.inj hk⟩,by rw [h1.snd];exact Bz n (by omega),h1.len,Nat.le_refl _⟩;have heq:∀ w:World,(binOp BinOp.eql 26 (.slice (some ⟨g,0,none⟩) n c) (.slice none 0 0)).run Tryz.prog w=.ok (.bool false) w:=fun w=>Go.Lib.run_eql_slice_nil w _ _ (some ⟨g,0,none⟩) n c 0 0 Tryz.underlying26;clear h1)
 go_loopw [17] (fun i wr=>∃ k:Nat,k≤n0∧i=.int .i64 k∧∃ L U,PS W wr n k g c L U) (fun i _=>n0-(intOf i).toNat)
 case atStart=>exact ⟨0,by omega,rfl,_,_,HP1.out⟩
 case round =>
  obtain ⟨k,hk,rfl,L,U,hp⟩:=hrel;have HP:=hid hp;clear hp HP1;by_cases hlt:k<n0
  ·have b1:decide ((k:Int)<(n0:Int))=true:=by simpa using hlt
   obtain ⟨x, hx⟩ : ∃ x, l[k]? = some x := ⟨l[k]'(by rw [← HN.out]; exact hlt), List.getElem?_eq_getElem _⟩;obtain ⟨b',off,rfl,hbl,c0,c1,c2,c3,c4,c5,c6,c7,c8⟩:=HF.out k x hx;have hxo:=HOK.out x (List.mem_of_getElem? hx);obtain ⟨who,to,sends,T,Re,K,key,val,N⟩:=x;simp only at c0 c1 c2 c3 c4 c5 c6 c7 c8
   have hbb:=HP.out.pt.logs.bel;have d:∀ j u,W.cell? ⟨b',j,none⟩=some u→wr.cell? ⟨b',j,none⟩=some u:=fun j u hu=>(hbb.cell (p:=⟨b',j,none⟩) hbl).trans hu
   have e0:=d _ _ c0;have e1:=d _ _ c1;have e2:=d _ _ c2;have e3:=d _ _ c3;have e4:=d _ _ c4;have e5:=d _ _ c5;have e6:=d _ _ c6;have e7:=d _ _ c7;have e8:=d _ _ c8;have hks:key.size≤140737488351232:=hxo.2.2.1;have hvs:val.size≤140737488351232:=hxo.2.2.2;obtain ⟨q1,hq1⟩:∃ q:Nat,cK who n=(q:Int):=⟨(cK who n).toNat,by have:=dW (a:=who) (n:=(n:Int)) (by omega);omega⟩;obtain ⟨q2,hq2⟩:∃ q:Nat,cK to n=(q:Int):=⟨(cK to n).toNat,by have:=dW (a:=to) (n:=(n:Int)) (by omega);omega⟩;have hq1n:q1<n:=by have:=dW (a:=who) (n:=(n:Int)) (by omega);omega
   have hq2n:q2<n:=by have:=dW (a:=to) (n:=(n:Int)) (by omega);omega
   obtain ⟨P1,s1,hL1,hg1,hc1⟩:=HP.out.cell hq1n;obtain ⟨P2,s2,hL2,_,hc2⟩:=HP.out.cell hq2n;have HQ1:=hid hq1;have HQ2:=hid hq2;have HL1:=hid hL1;have HL2:=hid hL2;clear hx c0 c1 c2 c3 c4 c5 c6 c7 c8 d hbl hxo hbb hq1 hq2 hL1 hL2;cases sends with
   | true =>
    go_wp2
    go_quiet (first | (go_at_call 14;with_reducible exact i8 who n q1 _ _ (by omega) (by omega) HQ1.out) | (go_at_call 14;with_reducible exact i8 to n q2 _ _ (by omega) (by omega) HQ2.out))
    have HPX:=hid (HP.out.pt.keep (fW ((Below.refl _ wr).alloc (Nat.le_refl _) (.cells #[.int .i64 who,.int .i64 to,.bool true,.int .i64 T,.int .i64 Re,.int .i64 K,.string key,.string val,.int .i64 N] 74)) nq));go_wp2_with (go_at_call 38;(with_reducible refine (D5 HPX.out HP.out.party (by have:=HP.out.few;omega) HL1.out HL2.out to HG.out).mono ?_);rintro r w3 ⟨rfl,L',h1,h2,h3,_,_⟩;have HP3:Hid (PS W w3 n (k+1) g c L' U):=hid ⟨h1,h2,by have:=congrArg List.length h3;rw [List.length_map,List.length_map] at this;rw [this];exact HP.out.len,Nat.le_succ_of_le HP.out.few⟩;clear h1 h2 h3)
    go_roundw
    ·exact ⟨k+1,by omega,by simp,L',U,HP3.out⟩
    ·simp [intOf];omega
   | false =>
    by_cases he:lcE s1 ⟨T,Re,K,key,val,N⟩=0
    ·have HE:=hid he;clear he;go_wp2
     go_quiet (first | (go_at_call 14;with_reducible exact i8 who n q1 _ _ (by omega) (by omega) HQ1.out) | (go_at_call 14;with_reducible exact i8 to n q2 _ _ (by omega) (by omega) HQ2.out))
     have HPX:=hid (HP.out.pt.keep (fW ((Below.refl _ wr).alloc (Nat.le_refl _) (.cells #[.int .i64 who,.int .i64 to,.bool false,.int .i64 T,.int .i64 Re,.int .i64 K,.string key,.string val,.int .i64 N] 74)) nq));go_wp2_with (go_at_call 30;(with_reducible refine (pH HPX.out.logs HL1.out T Re K key val N hks hvs (HG.out.below HPX.out.logs.bel) HE.out).mono ?_);rintro r w3 ⟨rfl,h1,h2,_⟩;have HP3:Hid (PS W w3 n (k+1) g c (L.set q1 (P1,lcS s1 ⟨T,Re,K,key,val,N⟩)) (lcW s1 ⟨T,Re,K,key,val,N⟩::U)):=hid ⟨HPX.out.step HL1.out h1 h2,by rw [oA];exact CS HP.out.party (gu HL1.out) HE.out,by rw [List.length_set];exact HP.out.len,by rw [List.length_cons];exact Nat.succ_le_succ HP.out.few⟩;clear h1 h2)
     go_roundw
     ·exact ⟨k+1,by omega,by simp,_,_,HP3.out⟩
     ·simp [intOf];omega
    ·obtain ⟨x,hx⟩:∃ x,lcE s1 ⟨T,Re,K,key,val,N⟩=x:=⟨_,rfl⟩;have hx0:x≠0:=by rw [←hx];exact he
     have HE:=hid hx;clear he hx;go_wp2
     go_quiet (first | (go_at_call 14;with_reducible exact i8 who n q1 _ _ (by omega) (by omega) HQ1.out) | (go_at_call 14;with_reducible exact i8 to n q2 _ _ (by omega) (by omega) HQ2.out))
     have HPX:=hid (HP.out.pt.keep (fW ((Below.refl _ wr).alloc (Nat.le_refl _) (.cells #[.int .i64 who,.int .i64 to,.bool false,.int .i64 T,.int .i64 Re,.int .i64 K,.string key,.string val,.int .i64 N] 74)) nq));go_wp2_with (go_at_call 30;(with_reducible refine (pI HPX.out.logs HL1.out T Re K key val N hks hvs (HG.out.below HPX.out.logs.bel) HE.out hx0).mono ?_);rintro r w3 ⟨rfl,_,hb3⟩;have HP3:Hid (PS W w3 n (k+1) g c L U):=hid ⟨HPX.out.keep hb3,HP.out.party,HP.out.len,Nat.le_succ_of_le HP.out.few⟩;clear hb3)
     go_roundw
     ·exact ⟨k+1,by omega,by simp,_,_,HP3.out⟩
     ·simp [intOf];omega
  ·have b1:decide ((k:Int)<(n0:Int))=false:=by simp;omega
   obtain rfl:k=n0:=by omega
   go_wp2;refine bodyPost_ret (v:=.tuple #[.slice (some ⟨g,0,none⟩) n c,.bool true]) (by simp [results,Tryz.results15,go_sem]) rfl ?_;exact ⟨g,c,L,U,rfl,HP.out.pt,HP.out.party,HP.out.len,Nat.le_trans HP.out.few hs2⟩
end
section
open Go.RowKit
theorem PS.keep {W w w':World} {n k g c:Nat} {L:List (Nat×LogS)} {U:List Wr} (h:PS W w n k g c L U) (hb:Below w.heap.size w w'):PS W w' n k g c L U :=
 ⟨h.pt.keep hb,h.party,h.len,h.few⟩
theorem iq {W w:World} {D:Nat→Prop} {L:List (Nat×LogS)} (h:Logs W w D L) {i P:Nat} {s:LogS} (hi:L[i]? = some (P,s)) (l:List Wr) (n:Nat) (hl:s.ws=l) (hn:l.length=n) :
 Calls Tryz.prog 16 #[.pointer (some ⟨P,0,none⟩)] w fun e w'=>∃ a c,e=.returned (.slice a n c)∧ak w' w.heap.size (.slice a n c) l∧Below w.heap.size w w':=by
 subst hl hn;exact wm h hi
end
