import Derived.Test.YtdhognaoejiglaaGreatDoorKbq
import Derived.Test.YtdhognaoejiglaaGreatDoorKb36
namespace Go.Proofs.YtdhognaoejiglaaGreatDoor
open Lib (hid)
set_option maxRecDepth 100000
set_option maxHeartbeats 8000000
section
open Go.RowKit
theorem Dv {w:World} {B:Nat} {a0 a1 a2 a3 a4 a5:Value} {t:TypeId} {fr:Nat×Nat} (h:w.heap[B]? = some (.cells #[a0,a1,a2,a3,a4,a5] t fr)) (b0 b1 b2 b3 b4 b5:Value) :
 ((((((w.setCell ⟨B,0,none⟩ b0).setCell ⟨B,1,none⟩ b1).setCell ⟨B,2,none⟩ b2).setCell ⟨B,3,none⟩ b3).setCell ⟨B,4,none⟩ b4).setCell ⟨B,5,none⟩ b5).heap[B]? = some (.cells #[b0,b1,b2,b3,b4,b5] t fr):=by
 simp [World.setCell,Array.getElem?_modify,h]
theorem dd {w:World} {B R o:Nat} {cs:Array Value} {t:TypeId} {fr:Nat×Nat} (h:w.heap[B]? = some (.cells cs t fr)) (hne:B≠R) (v:Value):(w.setCell ⟨R,o,none⟩ v).heap[B]? = some (.cells cs t fr):=by
 rw [heap_setCell_other _ _ _ _ (fun e=>hne e)];exact h
theorem gP {w w1:World} {R B:Nat} (h:w.grownBy w1 (some R)) (hB:w.heap.size≤B) (cs:Array Value):w.grownBy (w1.setRow B cs) (some R) :=
 ⟨h.os,h.tape,h.output,by simpa [World.setRow] using h.size,fun k hk hne=>by
  simp only [World.setRow,Array.getElem?_modify]
  rw [if_neg (by omega)];exact h.block k hk hne⟩
theorem Rd.row {w:World} {R B:Nat} {s:ByteArray} {a:Nat} (h:Rd w R s a) (hne:B≠R) (cs:Array Value):Rd (w.setRow B cs) R s a:=by
 unfold Rd at h ⊢;simp only [World.setRow,Array.getElem?_modify]
 rw [if_neg hne];exact h
theorem zO (R Q:Nat) (s:ByteArray) (a:Nat) (T P K:Int) (key val:ByteArray) (N:Int) (V:ByteArray) (N':Int) (k:Nat) (w:World) (h:Rd w R s a) (hg:errT w) (hs:s.size≤1000000) (ha:a≤s.size)
 (hQ:wrAt w Q T P K key val N) (hk:key.size≤140737488351232) (h0:aH T P K key (s.data.toList.drop a)=0) (hV:cy K (s.data.toList.drop a)=V) (hN:(getN K (s.data.toList.drop a)).1=N') (hn:cH K (s.data.toList.drop a)=k) (hk2:k≤1000000) :
 Calls Tryz.prog 214 #[.pointer (some ⟨R,0,none⟩),.func (.func 215) #[] #[.pointer (some ⟨Q,0,none⟩)]] w fun e w'=>e=.returned (.agg #[.int .i64 T,.int .i64 P,.int .i64 K,.string key,.string V,.int .i64 N'])∧Rd w' R s (a+k)∧w.grownBy w' (some R):=by
 obtain ⟨W,hW⟩:∃ W,w.alloc (.cells #[.int .i64 0,.int .i64 0,.int .i64 0,.string ⟨#[]⟩,.string ⟨#[]⟩,.int .i64 0] 38)=W:=⟨_,rfl⟩;have hb0:Below w.heap.size w W:=by rw [←hW];exact (Below.refl _ _).alloc (Nat.le_refl _) _
 have hz0:w.heap.size<W.heap.size:=by rw [←hW];simp
 have hR0:R<w.heap.size:=h.cells.2.2.2;have hA4:W.heap[w.heap.size]? = some (.cells #[.int .i64 0,.int .i64 0,.int .i64 0,.string ⟨#[]⟩,.string ⟨#[]⟩,.int .i64 0] 38 (0,0)):=by rw [←hW];exact heap_alloc_new w _
 have H:=hid (h.below hb0);have HG0:=hid (hg.below hb0);have HQ:=hid (hQ.below hb0 (bg hQ.1));have HQL:Hid (Q<W.heap.size):=hid (Nat.lt_trans (bg hQ.1) hz0);have HA4:=hid hA4;have HB00:=hid hb0;have HZ0:=hid hz0;obtain ⟨c0,c1,z1,hR⟩:=H.out.cells;have HSZ:Hid ((s.extract a s.size).size≤140737488351232):=hid (by have:=eA (s:=s) (a:=a);omega);have HES:(s.extract a s.size).data.toList=s.data.toList.drop a:=cZ s a;rw [←HES] at h0 hV hN hn;have H0:=hid h0;have HV:=hid hV;have HN:=hid hN;have HK:=hid hn;have d3:(0:Int)≤(a:Int):=by omega
 have d4:(a:Int)≤(s.size:Int):=by omega
 obtain ⟨b,hb⟩:∃ b,b=a+k:=⟨_,rfl⟩;have kw:IntKind.i64.wrap ((a:Int)+(k:Int))=(b:Int):=by rw [hb,show ((a+k:Nat):Int)=(a:Int)+(k:Int) by simp];exact IntWalk.i64_in _ (by omega)
 rw [←hb];clear hb;have HB0:Hid (Below W.heap.size W W.drew):=hid (Below.refl _ _).drew;have HBA:Hid (Below W.heap.size W (W.alloc (.cells #[.int .i64 0,.int .i64 0,.int .i64 0,.string ⟨#[]⟩,.string ⟨#[]⟩,.int .i64 0] 38))):=hid ((Below.refl _ _).alloc (Nat.le_refl _) _);have HQA:Hid (wrAt (W.alloc (.cells #[.int .i64 0,.int .i64 0,.int .i64 0,.string ⟨#[]⟩,.string ⟨#[]⟩,.int .i64 0] 38)).drew Q T P K key val N):=hid (HQ.out.below HBA.out.drew HQL.out);obtain ⟨m0,m1,_,_⟩:=(H.out.below HBA.out).cells;clear h hg hQ HES h0 hV hN hn hb0 hz0 hA4 hR;go_enter Tryz.func214,Tryz.ntmps214
 go_wp2;refine wp_region_held_drew (S:=fun w'=>w'.cell? ⟨R,0,none⟩=some (.string s)∧w'.cell? ⟨R,1,none⟩=some (.int .i64 (a:Int))) (by kernel_rfl) ⟨c0,c1⟩ (fun hHeld=>?_);refine tkO 0 ?_
 refine tkO 1 ?_
 refine tkO 2 ?_
 refine tkO 3 ?_
 refine tkO 4 ?_
 refine tkO 5 ?_
 refine tkO 6 ?_
 refine tkO 7 ?_
 refine tkO 8 ?_
 refine tkO 9 ?_
 refine wpAnyH_ready (rs:=[10,15]) (by kernel_rfl) (by simp) ?_;refine AllReadyH.cons rfl (fun KK hKK=>?_) (AllReadyH.cons rfl (fun KK hKK=>?_) AllReadyH.nil)
 ·go_simp
  refine (sK T P K key val N (s.extract a s.size) V N' k Q W.drew (HQ.out.below HB0.out HQL.out) hk HSZ.out H0.out HV.out HN.out HK.out).mono ?_;rintro r w1 ⟨rfl,hb1⟩;have HB1:Hid (Below W.heap.size W w1):=hid (cd hb1);obtain ⟨k0,k1,_,_⟩:=(H.out.below HB1.out).cells;have HB2:=hid (HB1.out.alloc HB1.out.size (.cells #[.int .i64 0,.int .i64 0,.int .i64 0,.string ⟨#[]⟩,.string ⟨#[]⟩,.int .i64 0] 38));obtain ⟨l0,l1,_,_⟩:=(H.out.below HB2.out).cells;have HB3:=hid (HB1.out.alloc HB1.out.size (.cells #[.int .i64 T,.int .i64 P,.int .i64 K,.string key,.string V,.int .i64 N'] 38));obtain ⟨n0,n1,_,_⟩:=(H.out.below HB3.out).cells;clear hb1;refine hKK.out _ _ ⟨k0,k1⟩ (fun hHeldA=>sp ?_);clear hKK hHeld
  refine tkO 11 ?_
  refine tkO 12 ?_
  refine tkO 13 ?_
  refine tkO 14 ?_
  refine wpAnyH_ready (rs:=[15]) (by kernel_rfl) (by simp) ?_;refine AllReadyH.cons rfl (fun KK hKK=>?_) AllReadyH.nil
  go_simp
  refine hKK.out _ _ ⟨l0,l1⟩ (fun hHeldB=>sp ?_);clear hKK hHeldA
  refine wpAnyH_ready (rs:=[16]) (by kernel_rfl) (by simp) ?_;refine AllReadyH.cons rfl (fun KK hKK=>?_) AllReadyH.nil
  go_simp
  refine hKK.out _ _ ⟨n0,n1⟩ (fun hHeldC=>sp ?_);clear hKK hHeldB
  refine tkO 17 ?_
  refine tkO 18 ?_
  refine wpAnyH_done (by kernel_rfl) ?_ _;obtain ⟨w2,hw2⟩:∃ w2,w1.alloc (.cells #[.int .i64 T,.int .i64 P,.int .i64 K,.string key,.string V,.int .i64 N'] 38)=w2:=⟨_,rfl⟩;obtain ⟨B5,hB5⟩:∃ B5,w1.heap.size=B5:=⟨_,rfl⟩;have h5:w2.heap[B5]? = some (.cells #[.int .i64 T,.int .i64 P,.int .i64 K,.string key,.string V,.int .i64 N'] 38 (0,0)):=by rw [←hw2,←hB5];exact heap_alloc_new w1 _
  have hBW:Below W.heap.size W w2:=by rw [←hw2];exact HB1.out.alloc HB1.out.size _
  have hge:W.heap.size≤B5:=by rw [←hB5];exact HB1.out.size
  clear n0 n1 l0 l1 hHeldC HB2 HB3;have HBW:=hid hBW;have HR2:=hid (H.out.below hBW);have hne5:B5≠R:=by have:=HZ0.out;omega
  have hA4:w2.heap[w.heap.size]? = some (.cells #[.int .i64 0,.int .i64 0,.int .i64 0,.string ⟨#[]⟩,.string ⟨#[]⟩,.int .i64 0] 38 (0,0)):=(hBW.block _ HZ0.out).trans HA4.out;obtain ⟨_,k1',z1',_⟩:=HR2.out.cells;have h53:=dd (o:=1) h5 hne5 (.int .i64 (b:Int));obtain ⟨f0,f1,f2,f3,f4,f5⟩:=bZ h53;have hA43:=dd (o:=1) hA4 (show w.heap.size≠R by omega) (.int .i64 (b:Int));have HA43:=hid hA43;have HI:=hid (eR (.int .i64 T) (.int .i64 P) (.int .i64 K) (.string key) (.string V) (.int .i64 N'));have HONE:=hid (eQ T P K key V N');have HSAME:=hid (fj T P K key V N');have hres:=cA hA43 #[.int .i64 T,.int .i64 P,.int .i64 K,.string key,.string V,.int .i64 N'];have HRD:=hid ((HR2.out.moved (b:=b)).row (show w.heap.size≠R by omega) #[.int .i64 T,.int .i64 P,.int .i64 K,.string key,.string V,.int .i64 N']);have HGR:Hid (w.grownBy ((w2.setCell ⟨R,1,none⟩ (.int .i64 (b:Int))).setRow w.heap.size #[.int .i64 T,.int .i64 P,.int .i64 K,.string key,.string V,.int .i64 N']) (some R)):=hid (gP (grownR (HB00.out.trans (hBW.mono (by have:=HZ0.out;omega))) _) (Nat.le_refl _) _);have HRES:=hid hres;clear h5 hA4 h53 hA43 hres hBW k0 k1
  go_wp2_with fail
  refine (ft R w2).mono ?_;rintro r w' ⟨rfl,rfl⟩;go_wp2_with (with_reducible refine wpList_store_row rfl _ _ _ rfl _ _ rfl rfl _ _ HA43.out HI.out HSAME.out HONE.out ?_)
  obtain ⟨g0,g1,g2,g3,g4,g5⟩:=bZ HRES.out;refine bodyPost_ret (v:=.agg #[.int .i64 T,.int .i64 P,.int .i64 K,.string key,.string V,.int .i64 N']) (by simp [results,Tryz.results214,go_sem,g0,g1,g2,g3,g4,g5]) rfl ?_;exact ⟨rfl,HRD.out,HGR.out⟩
 ·go_simp
  refine hKK.out _ _ ⟨m0,m1⟩ (fun hHeldA=>sp ?_);clear hKK hHeld
  refine wpAnyH_ready (rs:=[10]) (by kernel_rfl) (by simp) ?_;refine AllReadyH.cons rfl (fun KK hKK=>?_) AllReadyH.nil
  go_simp
  refine (sK T P K key val N (s.extract a s.size) V N' k Q _ HQA.out hk HSZ.out H0.out HV.out HN.out HK.out).mono ?_;rintro r w1 ⟨rfl,hb1⟩;have HB1:Hid (Below W.heap.size W w1):=hid (HBA.out.trans ((cd hb1).mono (by simp)));have HA5:Hid (w1.heap[W.heap.size]? = some (.cells #[.int .i64 0,.int .i64 0,.int .i64 0,.string ⟨#[]⟩,.string ⟨#[]⟩,.int .i64 0] 38)):=hid (((cd hb1).block _ (by simp)).trans (heap_alloc_new W _));obtain ⟨e0,e1,e2,e3,e4,e5⟩:=bZ HA5.out;obtain ⟨y0,y1,y2,y3,y4,y5⟩:=gM HA5.out;obtain ⟨k0,k1,_,_⟩:=(H.out.below HB1.out).cells;have HB3:=hid (iB HB1.out (Nat.le_refl _) (.int .i64 T) (.int .i64 P) (.int .i64 K) (.string key) (.string V) (.int .i64 N'));obtain ⟨n0,n1,_,_⟩:=(H.out.below HB3.out).cells;clear hb1;refine hKK.out _ _ ⟨k0,k1⟩ (fun hHeldB=>sp ?_);clear hKK hHeldA
  refine tkO 11 ?_
  refine tkO 12 ?_
  refine tkO 13 ?_
  refine tkO 14 ?_
  refine wpAnyH_ready (rs:=[16]) (by kernel_rfl) (by simp) ?_;refine AllReadyH.cons rfl (fun KK hKK=>?_) AllReadyH.nil
  go_simp
  refine hKK.out _ _ ⟨n0,n1⟩ (fun hHeldC=>sp ?_);clear hKK hHeldB
  refine tkO 17 ?_
  refine tkO 18 ?_
  refine wpAnyH_done (by kernel_rfl) ?_ _;obtain ⟨B5,hB5⟩:∃ B5,W.heap.size=B5:=⟨_,rfl⟩;obtain ⟨w2,hw2⟩:∃ w2,(((((w1.setCell ⟨B5,0,none⟩ (.int .i64 T)).setCell ⟨B5,1,none⟩ (.int .i64 P)).setCell ⟨B5,2,none⟩ (.int .i64 K)).setCell ⟨B5,3,none⟩ (.string key)).setCell ⟨B5,4,none⟩ (.string V)).setCell ⟨B5,5,none⟩ (.int .i64 N')=w2:=⟨_,rfl⟩;have h5:w2.heap[B5]? = some (.cells #[.int .i64 T,.int .i64 P,.int .i64 K,.string key,.string V,.int .i64 N'] 38 (0,0)):=by rw [←hw2,←hB5];exact Dv HA5.out _ _ _ _ _ _
  have hBW:Below W.heap.size W w2:=by rw [←hw2];exact iB HB1.out (by omega) _ _ _ _ _ _
  have hge:W.heap.size≤B5:=by omega
  clear e0 e1 e2 e3 e4 e5 y0 y1 y2 y3 y4 y5 HA5 n0 n1 hHeldC HB3;have HBW:=hid hBW;have HR2:=hid (H.out.below hBW);have hne5:B5≠R:=by have:=HZ0.out;omega
  have hA4:w2.heap[w.heap.size]? = some (.cells #[.int .i64 0,.int .i64 0,.int .i64 0,.string ⟨#[]⟩,.string ⟨#[]⟩,.int .i64 0] 38 (0,0)):=(hBW.block _ HZ0.out).trans HA4.out;obtain ⟨_,k1',z1',_⟩:=HR2.out.cells;have h53:=dd (o:=1) h5 hne5 (.int .i64 (b:Int));obtain ⟨f0,f1,f2,f3,f4,f5⟩:=bZ h53;have hA43:=dd (o:=1) hA4 (show w.heap.size≠R by omega) (.int .i64 (b:Int));have HA43:=hid hA43;have HI:=hid (eR (.int .i64 T) (.int .i64 P) (.int .i64 K) (.string key) (.string V) (.int .i64 N'));have HONE:=hid (eQ T P K key V N');have HSAME:=hid (fj T P K key V N');have hres:=cA hA43 #[.int .i64 T,.int .i64 P,.int .i64 K,.string key,.string V,.int .i64 N'];have HRD:=hid ((HR2.out.moved (b:=b)).row (show w.heap.size≠R by omega) #[.int .i64 T,.int .i64 P,.int .i64 K,.string key,.string V,.int .i64 N']);have HGR:Hid (w.grownBy ((w2.setCell ⟨R,1,none⟩ (.int .i64 (b:Int))).setRow w.heap.size #[.int .i64 T,.int .i64 P,.int .i64 K,.string key,.string V,.int .i64 N']) (some R)):=hid (gP (grownR (HB00.out.trans (hBW.mono (by have:=HZ0.out;omega))) _) (Nat.le_refl _) _);have HRES:=hid hres;clear h5 hA4 h53 hA43 hres hBW k0 k1
  go_wp2_with fail
  refine (ft R w2).mono ?_;rintro r w' ⟨rfl,rfl⟩;go_wp2_with (with_reducible refine wpList_store_row rfl _ _ _ rfl _ _ rfl rfl _ _ HA43.out HI.out HSAME.out HONE.out ?_)
  obtain ⟨g0,g1,g2,g3,g4,g5⟩:=bZ HRES.out;refine bodyPost_ret (v:=.agg #[.int .i64 T,.int .i64 P,.int .i64 K,.string key,.string V,.int .i64 N']) (by simp [results,Tryz.results214,go_sem,g0,g1,g2,g3,g4,g5]) rfl ?_;exact ⟨rfl,HRD.out,HGR.out⟩
end
section
open Go.RowKit
theorem yi {w w':World} {row:Option Nat} (hg:w.grownBy w' row) {b o:Nat} (hb:b<w.heap.size) (hne:some b≠row):w'.cell? ⟨b,o,none⟩=w.cell? ⟨b,o,none⟩:=by
 simp only [World.cell?];rw [hg.block b hb hne]
theorem errT.grownR {w w':World} {R:Nat} {s:ByteArray} {a:Nat} (h:errT w) (hr:Rd w R s a) (hg:w.grownBy w' (some R)):errT w':=by
 unfold errT at h ⊢;rw [yi hg (bg h) (fun e=>by
  have e2:=Option.some.inj e;have h2:=hr.cells.1;rw [←e2,h] at h2;cases h2)]
 exact h
theorem Rd.grown {w w':World} {R:Nat} {s:ByteArray} {a:Nat} {row:Option Nat} (h:Rd w R s a) (hg:w.grownBy w' row) (hne:some R≠row):Rd w' R s a:=(hg.block R h.cells.2.2.2 hne).trans h
theorem td {w w':World} {B R:Nat} {v:Value} {l:List ByteArray} (h:ai w B v l) (hR:R<B) (hg:w.grownBy w' (some R)):ai w' B v l :=
 World.ownsRow.kept h hg (.inr (fun e=>by have:=(h.lt R e).1;omega))
def unTx (s:List UInt8) (a:Nat):(Nat×Nat) ⊕ (Nat×List ByteArray) :=
 if (intL (s.drop a) 60).2.2≠0 then .inl ((intL (s.drop a) 60).2.2,a) else unT s (intL (s.drop a) 60).1 (a+(intL (s.drop a) 60).2.1) []
theorem p6 {s:List UInt8} {a k j e:Nat} (h:intL (s.drop a) 60=(k,j,e)) (he:e≠0):unTx s a=.inl (e,a):=by unfold unTx;rw [h,if_pos he]
theorem p7 {s:List UInt8} {a k j:Nat} (h:intL (s.drop a) 60=(k,j,0)):unTx s a=unT s k (a+j) []:=by unfold unTx;rw [h,if_neg (by simp)]
def wF (w:World) (R:Nat) (s:ByteArray) (r:(Nat×Nat) ⊕ (Nat×List ByteArray)) (e:Ending) (w':World):Prop :=
 w.grownBy w' (some R)∧((∃ x p,r=.inl (x,p)∧eh (x,(p:Int)) e w')∨∃ b T v,r=.inr (b,T)∧e=.returned v∧ai w' w.heap.size v T∧Rd w' R s b)
theorem EM (R:Nat) (s:ByteArray) (a:Nat) (w:World) (h:Rd w R s a) (hg:errT w) (hs:s.size≤1000000) (ha:a≤s.size) :
 Calls Tryz.prog 188 #[.pointer (some ⟨R,0,none⟩)] w (wF w R s (unTx s.data.toList a)):=by
 have H:=hid h;have HG:=hid hg;have HSL:Hid (s.data.toList.length=s.size):=hid (aj s).symm;have hR:=h.cells.2.2.2;clear h hg;rcases ba (s.data.toList.drop a) 60 with ⟨e,h1,he,_⟩ | ⟨n,k,h1,hn,hk1,hk10,hkl,hp⟩
 ·have H1:=hid h1;have HR:=hid (p6 h1 he);clear h1;go_enter Tryz.func188,Tryz.ntmps188
  go_wp2_with fail
  refine (jb R s a e 60 _ H.out HG.out hs ha (by decide) (by decide) H1.out he).mono ?_;rintro r w1 ⟨⟨t,u,rfl,hne,ha⟩,hg1⟩;exact And.intro rfl ⟨hg1,.inl ⟨e,a,HR.out,t,u,rfl,hne,ha⟩⟩
 ·have H1:=hid h1;have hkl2:k≤s.size-a:=by rw [List.length_drop,HSL.out] at hkl;exact hkl
  have HR:=hid (p7 h1);clear h1 hkl hp;go_enter Tryz.func188,Tryz.ntmps188
  go_wp2_with fail
  refine (jc R s a n k 60 _ H.out HG.out hs ha (by decide) (by decide) H1.out (by omega)).mono ?_;rintro r w1 ⟨rfl,hr1,hg1⟩;have HR1:=hid hr1;have HG1:=hid hg1;clear hr1 hg1;go_wp2
  go_loopw [3,6] (fun v i wr=>∃ (j b:Nat) (T:List ByteArray),j≤n∧i=.int .i64 j∧b≤s.size∧T.length=j∧unTx s.data.toList a=unT s.data.toList (n-j) b T∧ai wr w.heap.size v T∧Rd wr R s b∧w.grownBy wr (some R)) (fun _ i _=>n-(intOf i).toNat)
  case atStart=>exact ⟨0,a+k,[],Nat.zero_le _,rfl,by omega,rfl,HR.out,dv _ _,HR1.out,HG1.out⟩
  case round =>
   obtain ⟨j,b,T,hj,rfl,hb,hTl,hres,hos,hrd,hgr⟩:=hrel;have HO:=hid hos;have HRD:=hid hrd;have HGR:=hid hgr;have HRES:=hid hres;have HTL:=hid hTl;have HEG:=hid (HG.out.grownR H.out hgr);obtain ⟨ad,cp,rfl,_,_⟩:=hos.isTexts;rw [hTl] at HO ⊢;clear hos hrd hgr hres hTl;by_cases hlt:j<n
   ·obtain ⟨m,hm⟩:∃ m,n-j=m+1:=⟨n-j-1,by omega⟩;rw [hm] at HRES;obtain ⟨t,c,e,hg⟩:∃ t c e,getS (s.data.toList.drop b)=(t,c,e):=⟨_,_,_,rfl⟩;by_cases he:e=0
    ·subst he;obtain ⟨w1',w2',w3',_⟩:=jJ hg;rw [List.length_drop,HSL.out] at w2';have HN:Hid (unTx s.data.toList a=unT s.data.toList (n-(j+1)) (b+c) (T++[⟨t.toArray⟩])):=hid (by rw [HRES.out,jx hg,show n-(j+1)=m by omega]);have HGS:=hid hg;obtain ⟨B,hB⟩:∃ B:ByteArray,(⟨t.toArray⟩:ByteArray)=B:=⟨_,rfl⟩;rw [hB] at HN;have HB:=hid hB;clear hg hB w3';go_wp2_with fail
     refine (zM R s b 0 c t _ HRD.out HEG.out hs hb HGS.out (by omega) rfl).mono ?_;rintro r w2 ⟨rfl,hr2,hg2⟩;rw [HB.out];have HR2:=hid hr2;have HO2:=hid (td HO.out hR hg2);have HG2:=hid (cJ HGR.out hg2 (fun k hk=>.inl (by injection hk with hk;exact hk.symm)));clear hr2 hg2;go_wp2_with (at_builtin;refine jD rfl _ _ rfl w.heap.size _ T rfl (HO2.out.alloc _) ⟨w2.heap.size,0,none⟩ 1 rfl B (by simp [Addr.add]) (by have:=HTL.out;omega) (by have:=HG2.out.size;simp;omega) ?_)
     intro g cap w4 ho4 hg4;have HTL2:Hid (T.length+1=j+1):=hid (by rw [HTL.out]);rw [HTL2.out] at ho4 ⊢;have HO4:=hid ho4;have hgA:w2.grownBy w4 (Value.slice ad j cp).ownBlock:=⟨hg4.os,hg4.tape,hg4.output,Nat.le_trans (by simp) hg4.size,fun k hk hne=>(hg4.block k (by simp;omega) hne).trans (Below.heap_alloc _ _ _ hk)⟩;have hneR:some R≠(Value.slice ad j cp).ownBlock:=fun e=>by have:=(HO2.out.lt R e.symm).1;omega
     have HR4:=hid (HR2.out.grown hgA hneR);have HG4:=hid (cJ HG2.out hgA (fun k hk=>.inr (HO2.out.lt k hk).1));clear ho4 hg4 hgA hneR;go_wp2;go_roundw
     case rel=>exact ⟨j+1,b+c,T++[B],by omega,by go_num,by omega,by rw [List.length_append,HTL.out];rfl,HN.out,HO4.out,HR4.out,HG4.out⟩
     case measure=>simp [intOf];omega
    ·have hz : t = [] ∧ c = 0 := by
      rcases dC (s.data.toList.drop b) with ⟨x,hx,hxe⟩ | ⟨x,y,hx,_⟩
      ·rw [iQ hx hxe] at hg;simp only [Prod.mk.injEq] at hg;exact ⟨hg.1.symm,hg.2.1.symm⟩
      ·by_cases h2:2000<x
       ·rw [iR hx h2] at hg;simp only [Prod.mk.injEq] at hg;exact ⟨hg.1.symm,hg.2.1.symm⟩
       ·by_cases h3:(s.data.toList.drop b).length<y+x
        ·rw [iS hx h2 h3] at hg;simp only [Prod.mk.injEq] at hg;exact ⟨hg.1.symm,hg.2.1.symm⟩
        ·rw [gN hx h2 h3] at hg;simp only [Prod.mk.injEq] at hg;exact absurd hg.2.2.symm he
     obtain ⟨rfl,rfl⟩:=hz;have HN:Hid (unTx s.data.toList a=.inl (e,b)):=hid (by rw [HRES.out,m7 hg he]);have HGS:=hid hg;clear hg;go_wp2_with fail
     refine (zL R s b e 0 [] _ HRD.out HEG.out hs hb HGS.out rfl he rfl).mono ?_;rintro r w2 ⟨⟨t,u,rfl,hne,ha⟩,hg2⟩;exact And.intro rfl ⟨cJ HGR.out hg2 (fun k hk=>.inl (by injection hk with hk;exact hk.symm)),.inl ⟨e,b,HN.out,t,u,rfl,hne,ha⟩⟩
   ·have HN:Hid (unTx s.data.toList a=.inr (b,T)):=hid (by rw [HRES.out,show n-j=0 by omega];rfl);go_wp2;go_ret;exact ⟨HGR.out,.inr ⟨b,T,_,HN.out,rfl,HO.out,HRD.out⟩⟩
end
