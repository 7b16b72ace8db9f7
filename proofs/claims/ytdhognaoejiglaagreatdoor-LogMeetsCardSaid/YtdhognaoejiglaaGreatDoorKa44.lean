import Derived.Test.YtdhognaoejiglaaGreatDoorKa43
namespace Go.Proofs.YtdhognaoejiglaaGreatDoor
open Lib (hid)
set_option maxRecDepth 100000
set_option maxHeartbeats 8000000
open Go.RowKit
theorem PT.lessM {W w:World} {D D2:Nat→Prop} {v:Value} {L:List (Nat×LogS)} (h:PT W w D2 v L) (hD:∀ k,D k→D2 k) (hi:∀ k,v.ownBlock=some k→D k):PT W w D v L :=
 ⟨h.logs.call (Below.refl _ _) (fun k hk=>.inl (hD k hk)),h.ptrs,hi⟩
theorem Cb {L:List (Nat×LogS)} {i j Pi Pj:Nat} {s t t' s':LogS} (hi:L[i]? = some (Pi,s)) (hj:L[j]? = some (Pj,t)) (ks:aH s) (kt:aH t') (hm:∀ r,ofF t'.hv r=max (ofF t.hv r) (ofF s.hv r)) (h:(L.set j (Pj,t'))[i]? = some (Pi,s')):covB s.hv s'.hv=true:=by
 by_cases e:i=j
 ·subst e;rw [hi] at hj;obtain ⟨_,rfl⟩:=Prod.mk.inj (Option.some.inj hj);rw [List.getElem?_set_self (List.getElem?_eq_some_iff.1 hi).1] at h;obtain ⟨_,rfl⟩:=Prod.mk.inj (Option.some.inj h);exact (dp ks.hv kt.hv).2 (fun r=>by rw [hm];omega)
 ·rw [List.getElem?_set_ne (fun h=>e h.symm),hi] at h;obtain ⟨_,rfl⟩:=Prod.mk.inj (Option.some.inj h);exact (dp ks.hv ks.hv).2 (fun _=>Int.le_refl _)
theorem oC {W w:World} {D:Nat→Prop} {v:Value} {L:List (Nat×LogS)} {U:List Wr} (hP:PT W w D v L) (hp:b7 U (L.map Prod.snd)) (hU:U.length≤60) (hL:L.length≤16) {i j Pi Pj:Nat} {s t:LogS} (hi:L[i]? = some (Pi,s)) (hj:L[j]? = some (Pj,t)) (hg:errT W) :
 Calls Tryz.prog 36 #[.pointer (some ⟨Pi,0,none⟩),.pointer (some ⟨Pj,0,none⟩)] w fun e w' =>
  e=.returned (.bool true)∧∃ t',PT W w' D v (L.set j (Pj,t'))∧b7 U ((L.map Prod.snd).set j t')∧∀ r,ofF t'.hv r=max (ofF t.hv r) (ofF s.hv r):=by
 obtain ⟨f1,f2,f3,f4,f5,f6⟩:=Cc hp hU (by rw [List.length_map];exact hL) (bQ hi) (bQ hj);have HG:=hid hg;have HP:=hid hP;have HI:=hid hi;have HJ:=hid hj;have ks:=hP.logs.ok _ (List.mem_of_getElem? hi);have kt:=hP.logs.ok _ (List.mem_of_getElem? hj);have hrw:=dx.1 f3;obtain ⟨sb,hsb⟩:∃ sb,ak s (minV s.hv t.hv)=sb:=⟨_,rfl⟩;rw [hsb] at f3 f4 f5 f6 hrw;obtain ⟨t',ht'⟩:∃ t',accS t s.hv sb=t':=⟨_,rfl⟩;rw [ht'] at f5 f6;obtain ⟨s',hs'⟩:=m8 (t':=t') hi hj;have hj':(L.set j (Pj,t'))[j]? = some (Pj,t'):=List.getElem?_set_self (List.getElem?_eq_some_iff.1 hj).1;have kt':aH t':=f5.ok t' (cV (by rw [←fc (P:=Pj)];exact bQ hj'));have ks':aH s':=f5.ok s' (cV (by rw [←fc (P:=Pj)];exact bQ hs'));have hcv:=Cb hi hj ks kt' f6 hs';obtain ⟨nt,hnt⟩:∃ n,n=t.hv.length:=⟨_,rfl⟩;obtain ⟨ns,hns⟩:∃ n,n=s.hv.length:=⟨_,rfl⟩;obtain ⟨nb,hnb⟩:∃ n,n=sb.length:=⟨_,rfl⟩;obtain ⟨m2,hm2⟩:∃ n,n=s'.hv.length:=⟨_,rfl⟩;obtain ⟨M,hM⟩:∃ M,minV s.hv t.hv=M:=⟨_,rfl⟩;rw [hM] at f1 f2 f3 f4 hsb hrw;obtain ⟨nf,hnf⟩:∃ n,n=M.length:=⟨_,rfl⟩;have HT16:=hid kt.hv.1;have HS16:=hid ks.hv.1;have HS2:=hid ks'.hv.1;have HKS:=hid ks.hv.2
 have HKT:=hid kt.hv.2;have HF1:=hid f1;have HF2:=hid f2;have HF4:=hid f4;have HF5:=hid f5;have HF6:=hid f6;have HSB:=hid hsb;have HT':=hid ht';have HS':=hid hs';have HCV:=hid hcv;have HNT:=hid hnt;have HNS:=hid hns;have HNB:=hid hnb;have HM2:=hid hm2;have HM:=hid hM;have HNF:=hid hnf;have HRW:=hid hrw;have hns16:ns≤16:=by rw [hns];exact ks.hv.1
 clear f1 f2 f3 f4 f5 f6 hsb ht' hs' hj' hcv hnt hns hnb hm2 hM hnf hrw ks kt ks' kt' hP hp hg hi hj;go_enter Tryz.func36,Tryz.ntmps36
 go_wp2_with (first
  | (go_at_call 17;(with_reducible refine (bH (i:=j) HP.out.logs HJ.out nt HNT.out.symm).mono ?_);rintro r w1 ⟨a1,c1,rfl,ho1,hb1⟩;have HP1:=hid (HP.out.keep hb1);have HO1:=hid ho1;clear hb1 ho1)
  | (go_at_call 17;(with_reducible refine (bH (i:=i) HP1.out.logs HI.out ns HNS.out.symm).mono ?_);rintro r w2 ⟨a2,c2,rfl,ho2,hb2⟩;have HP2:=hid (HP1.out.keep hb2);have HE1:=hid (HO1.out.below hb2).is;have HE2:=hid ho2.is;clear hb2 ho2)
  | fail)
 go_loopw [5,19] (fun u i wr=>∃ k:Nat,k≤ns∧i=.int .i64 k∧ae wr w2.heap.size u (minV (s.hv.take k) t.hv)∧Below w2.heap.size w2 wr) (fun _ i _=>ns-(intOf i).toNat)
 case atStart=>exact ⟨0,by omega,rfl,eY _ _,Below.refl _ _⟩
 case round =>
  obtain ⟨k,hk,rfl,ho,hb⟩:=hrel;have HO:=hid ho;have HB:=hid hb;clear ho hb;by_cases hlt:k<ns
  ·have b1:decide ((k:Int)<(ns:Int))=true:=by simpa using hlt
   have hkl:k<s.hv.length:=by rw [←HNS.out];exact hlt
   obtain ⟨x,hx⟩:∃ x,s.hv[k]? = some x:=⟨_,List.getElem?_eq_getElem hkl⟩;obtain ⟨a0,c0',he0,hf⟩:=HE2.out.form;simp only [Value.slice.injEq] at he0
   obtain ⟨rfl,he1,he2⟩:=he0;clear he1 he2;obtain ⟨b',off,rfl,hbl,cc0,cc1⟩:=hf k x hx;have e0:=(HB.out.cell (p:=⟨b',off+k * 2,none⟩) hbl).trans cc0;have e1:=(HB.out.cell (p:=⟨b',off+k * 2+1,none⟩) hbl).trans cc1;have hbx:=bc HKS.out x (List.mem_of_getElem? hx);have hsn:=Ch (b:=t.hv) hx;obtain ⟨er,et⟩:=x;simp only at e0 e1 hbx hsn
   obtain ⟨y,hy⟩:∃ y,ofF t.hv er=y:=⟨_,rfl⟩;have hyb:0≤y∧y≤1099511627776:=by rw [←hy];exact bR HKT.out er
   obtain ⟨mm,hmm⟩:∃ mm,min et y=mm:=⟨_,rfl⟩;rw [hy,hmm] at hsn;have hm2:(if et<y then et else y)=mm:=by rw [←hmm];omega
   have hm3:(if y<et then y else et)=mm:=by rw [←hmm];omega
   have hm4:(if et≤y then et else y)=mm:=by rw [←hmm];omega
   have hmb:mm≤1099511627776:=by omega
   have HSN:=hid hsn;have HY:=hid hy;have HHB:=hid (show 0≤er∧er≤200 from ⟨hbx.1,hbx.2.1⟩);have HE1A:Hid (ag ((wr.alloc (.cells #[.int .i64 er,.int .i64 et] 58)).drew) (.slice a1 nt c1) t.hv):=hid (((HE1.out.below HB.out).alloc _).drewN 1);clear hx hf cc0 cc1 hbl hbx hyb hsn hy hkl;go_wp2
   go_region_with (first
    | (go_at_call 19;((with_reducible refine (ir (.slice a1 nt c1) t.hv er y ((wr.alloc (.cells #[.int .i64 er,.int .i64 et] 58)).drew) HE1A.out (by have:=HT16.out;omega) HY.out).mono ?_);rintro r w5 ⟨rfl,hb5⟩;have hb5':=bY hb5;have z0:=(hb5'.cell (p:=⟨wr.heap.size,0,none⟩) (by simp)).trans (show (wr.alloc (.cells #[.int .i64 er,.int .i64 et] 58)).cell? ⟨wr.heap.size,0,none⟩=some (.int .i64 er) by simp);have z1:=(hb5'.cell (p:=⟨wr.heap.size,1,none⟩) (by simp)).trans (show (wr.alloc (.cells #[.int .i64 er,.int .i64 et] 58)).cell? ⟨wr.heap.size,1,none⟩=some (.int .i64 et) by simp);have HB5:Hid (Below wr.heap.size wr w5):=hid (((Below.refl _ _).alloc (Nat.le_refl _) (.cells #[.int .i64 er,.int .i64 et] 58)).trans (hb5'.mono (by simp)));clear hb5 hb5'))
    | fail)
   all_goals
    have HO5:=hid (HO.out.below (w':=w5) (by have:=HB5.out;exact this));have HB5W:=hid (HB.out.trans (HB5.out.mono HB.out.size));have hl5:wr.heap.size<w5.heap.size:=aK z0;by_cases hm0:0<mm
    ·have b2:decide ((0:Int)<mm)=true:=by simpa using hm0
     have HM0:=hid hm0;clear hm0;go_wp2_with (at_builtin;refine mN rfl _ _ rfl w2.heap.size _ (minV (s.hv.take k) t.hv) rfl (HO5.out.below ((Below.refl _ _).alloc (Nat.le_refl _) _)) w5.heap.size 1 rfl ⟨er,mm⟩ (heap_alloc_new _ _) ?c1 ?c2 ?_)
     case c1=>have:=oD (s.hv.take k) t.hv;rw [List.length_take] at this;have:=HS16.out;omega
     case c2=>have:=HB5W.out.size;simp;omega
     intro g cap w6 ho6 hg6;have HO6:=hid ho6;have HG6:=hid hg6;clear ho6 hg6;go_wp2;go_roundw
     ·refine ⟨k+1,by omega,by simp,?_,?_⟩
      ·have h1:=HSN.out;rw [if_pos HM0.out] at h1;rw [h1];exact HO6.out
      ·exact ng (HB5W.out.alloc HB5W.out.size _) HG6.out (by have:=HB5W.out.size;simp;omega) (fun g hg=>(HO5.out.lt g hg).1)
     ·simp [intOf];omega
    ·have b2:decide ((0:Int)<mm)=false:=by simpa using hm0
     have HM0:=hid hm0;clear hm0;go_wp2;go_roundw
     ·refine ⟨k+1,by omega,by simp,?_,HB5W.out⟩;have h1:=HSN.out;rw [if_neg (by have:=HM0.out;omega),List.append_nil] at h1;rw [h1];exact HO5.out
     ·simp [intOf];omega
  ·have b1:decide ((k:Int)<(ns:Int))=false:=by simp;omega
   obtain rfl:k=ns:=by omega
   have hof:=HO.out;rw [List.take_of_length_le (by have:=HNS.out;omega),HM.out] at hof;obtain ⟨au,cu,rfl,_⟩:=hof.is.form;rw [←HNF.out] at hof ⊢;have HOF:=hid hof.is;have HPR:=hid (HP2.out.keep HB.out);have HFL:Hid (M.length≤16):=hid (by rw [←HM.out];exact Nat.le_trans (oD _ _) HS16.out);clear hof;go_wp2
   go_loopw [5,40] (fun u i wx=>u=.slice au nf cu∧i=.int .i64 0∧wx=wr) (fun _ _ _=>1)
   case atStart=>exact ⟨rfl,rfl,rfl⟩
   case round =>
    obtain ⟨rfl,rfl,rfl⟩:=hrel;go_wp2_with (first
     | (go_at_call 22;(with_reducible refine (eE (i:=i) HPR.out.logs HI.out _ M HOF.out (by have:=HFL.out;omega) (HG.out.below HPR.out.logs.bel) HF1.out nf k nb s.hv sb HNF.out.symm HF2.out HSB.out HNS.out.symm HNB.out.symm).mono ?_);rintro r w6 ⟨a3,c3,a4,c4,a5,c5,rfl,o1,o2,o3,hb6⟩;have HPN:=hid (HPR.out.call (D':=fun q=>D q∨(wr.heap.size≤q∧q<(w6.alloc (.cells #[.slice a3 nf c3,.slice a4 k c4,.slice a5 nb c5] 47)).heap.size)) (hb6.alloc hb6.size (.cells #[.slice a3 nf c3,.slice a4 k c4,.slice a5 nb c5] 47)) (fun _ h=>h) (fun _ h=>.inl h));have HO2:=hid o2;have HR6:=hid (heap_alloc_new w6 (.cells #[.slice a3 nf c3,.slice a4 k c4,.slice a5 nb c5] 47));have HS6:=hid hb6.size;have HX6:=hid ((eJ o1 o2 o3 (by have:=HFL.out;omega) (by have:=HS16.out;omega) (by have:=HRW.out.2.1;omega) (fun x hx=>(HRW.out.2.2.1 x hx).1)).alloc (.cells #[.slice a3 nf c3,.slice a4 k c4,.slice a5 nb c5] 47));clear hb6 o1 o2 o3)
     | (go_at_call 23;(with_reducible refine (fZ (i:=j) HPN.out.logs HJ.out _ _ _ M s.hv sb HX6.out (HG.out.below HPN.out.logs.bel) HF4.out _ t' rfl HT'.out).mono ?_);rintro r w7 ⟨rfl,h7,hd7,hs7⟩;have HP7:=hid (HPN.out.step HJ.out h7 hd7);have HP7D:=hid (HP7.out.keep (Below.refl _ w7).drew);have hr7:=(hd7 w6.heap.size (.inr ⟨HS6.out,by simp⟩)).trans HR6.out;have x1:=cell_of_row _ _ 1 _ _ _ hr7;simp only [List.getElem?_toArray,List.getElem?_cons_zero,List.getElem?_cons_succ] at x1;have hl7:w6.heap.size<w7.heap.size:=aK x1;have HE7:Hid (ag w7 (.slice a4 k c4) s.hv):=hid (ag.at (HO2.out.is.alloc (.cells #[.slice a3 nf c3,.slice a4 k c4,.slice a5 nb c5] 47)) hs7 (fun q hq=>hd7 q (.inr ⟨(HO2.out.lt q hq).1,by have:=(HO2.out.lt q hq).2;simp;omega⟩)));have X1:=hid x1;clear h7 hd7 hs7 hr7)
     | fail)
    go_region_with (first
     | (go_at_call 17;((with_reducible refine (bH (i:=i) HP7D.out.logs HS'.out m2 HM2.out.symm).mono ?_);rintro r w8 ⟨a8,c8,rfl,o8,hb8⟩;have HP8:=hid (HP7D.out.keep hb8);have hb8':=bY hb8;have HO8:=hid o8.is;have HE8:=hid (HE7.out.below hb8');have x1:=(hb8'.cell (p:=⟨w6.heap.size,1,none⟩) (aK X1.out)).trans X1.out;clear hb8 hb8' o8))
     | (go_at_call 26;((with_reducible refine (eK _ _ s.hv s'.hv true _ HE8.out HO8.out (by have:=HS16.out;omega) (by have:=HS2.out;omega) HCV.out).mono ?_);rintro r w9 ⟨rfl,hb9⟩;have HP9:=hid (HP8.out.keep hb9);clear hb9))
     | fail)
    all_goals
     go_wp2;go_ret;exact ⟨rfl,t',HP9.out.lessM (fun _ h=>.inl h) HP.out.inD,HF5.out,HF6.out⟩
