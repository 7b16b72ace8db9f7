import Derived.Test.YtagoidpkbloflaaGreatDoorKlq
import Derived.Test.YtagoidpkbloflaaGreatDoorKl35
namespace Go.Proofs.YtagoidpkbloflaaGreatDoor
open Lib (hid)
set_option maxRecDepth 100000
set_option maxHeartbeats 8000000
section
open Go.RowKit
theorem A9 {w:World} {B:Nat} {a0 a1 a2 a3 a4 a5:Value} {t:TypeId} {fr:Nat×Nat} (h:w.heap[B]? = some (.cells #[a0,a1,a2,a3,a4,a5] t fr)) (b0 b1 b2 b3 b4 b5:Value) :
 ((((((w.setCell ⟨B,0,none⟩ b0).setCell ⟨B,1,none⟩ b1).setCell ⟨B,2,none⟩ b2).setCell ⟨B,3,none⟩ b3).setCell ⟨B,4,none⟩ b4).setCell ⟨B,5,none⟩ b5).heap[B]? = some (.cells #[b0,b1,b2,b3,b4,b5] t fr):=by
 simp [World.setCell,Dw,h]
theorem bM {w:World} {B R o:Nat} {cs:Array Value} {t:TypeId} {fr:Nat×Nat} (h:w.heap[B]? = some (.cells cs t fr)) (hne:B≠R) (v:Value):(w.setCell ⟨R,o,none⟩ v).heap[B]? = some (.cells cs t fr):=by
 rw [Eh _ _ _ _ (fun e=>hne e)];exact h
theorem gd {w w1:World} {R B:Nat} (h:w.grownBy w1 (some R)) (hB:w.heap.size≤B) (cs:Array Value):w.grownBy (w1.setRow B cs) (some R) :=
 ⟨h.os,h.tape,h.output,by simpa [World.setRow] using h.size,fun k hk hne=>by
  simp only [World.setRow,Dw]
  rw [if_neg (by omega)];exact h.block k hk hne⟩
theorem Rd.row {w:World} {R B:Nat} {s:ByteArray} {a:Nat} (h:Rd w R s a) (hne:B≠R) (cs:Array Value):Rd (w.setRow B cs) R s a:=by
 unfold Rd at h ⊢;simp only [World.setRow,Dw]
 rw [if_neg hne];exact h
theorem wl (R Q:Nat) (s:ByteArray) (a:Nat) (T P K:Int) (key val:ByteArray) (N:Int) (V:ByteArray) (N':Int) (k:Nat) (w:World) (h:Rd w R s a) (hg:errT w) (hs:s.size≤1000000) (ha:a≤s.size)
 (hQ:wrAt w Q T P K key val N) (hk:key.size≤140737488351232) (h0:aB T P K key (s.data.toList.drop a)=0) (hV:bP K (s.data.toList.drop a)=V) (hN:(getN K (s.data.toList.drop a)).1=N') (hn:bZ K (s.data.toList.drop a)=k) (hk2:k≤1000000) :
 Calls Tryz.prog 159 #[.pointer (some ⟨R,0,none⟩),.func (.func 160) #[] #[.pointer (some ⟨Q,0,none⟩)]] w fun e w'=>e=.returned (.agg #[.int .i64 T,.int .i64 P,.int .i64 K,.string key,.string V,.int .i64 N'])∧Rd w' R s (a+k)∧w.grownBy w' (some R):=by
 obtain ⟨W,hW⟩:∃ W,w.alloc (.cells #[.int .i64 0,.int .i64 0,.int .i64 0,.string ⟨#[]⟩,.string ⟨#[]⟩,.int .i64 0] 78)=W:=⟨_,rfl⟩;have hb0:Below w.heap.size w W:=by rw [←hW];exact (Below.refl _ _).alloc (Db _) _
 have hz0:w.heap.size<W.heap.size:=by rw [←hW];simp
 have hR0:R<w.heap.size:=h.cells.2.2.2;have hA4:W.heap[w.heap.size]? = some (.cells #[.int .i64 0,.int .i64 0,.int .i64 0,.string ⟨#[]⟩,.string ⟨#[]⟩,.int .i64 0] 78 (0,0)):=by rw [←hW];exact Dg w _
 have H:=hid (h.below hb0);have HG0:=hid (hg.below hb0);have HQ:=hid (hQ.below hb0 (bc hQ.1));have HQL:Hid (Q<W.heap.size):=hid (Nat.lt_trans (bc hQ.1) hz0);have HA4:=hid hA4;have HB00:=hid hb0;have HZ0:=hid hz0;obtain ⟨c0,c1,z1,hR⟩:=H.out.cells;have HSZ:Hid ((s.extract a s.size).size≤140737488351232):=hid (by have:=bS (s:=s) (a:=a);omega);have HES:(s.extract a s.size).data.toList=s.data.toList.drop a:=aS s a;rw [←HES] at h0 hV hN hn;have H0:=hid h0;have HV:=hid hV;have HN:=hid hN;have HK:=hid hn;have d3:(0:Int)≤(a:Int):=by omega
 have d4:(a:Int)≤(s.size:Int):=by omega
 obtain ⟨b,hb⟩:∃ b,b=a+k:=⟨_,rfl⟩;have kw:IntKind.i64.wrap ((a:Int)+(k:Int))=(b:Int):=by rw [hb,show ((a+k:Nat):Int)=(a:Int)+(k:Int) by simp];exact Dh _ (by omega)
 rw [←hb];clear hb;have HB0:Hid (Below W.heap.size W W.drew):=hid (Below.refl _ _).drew;have HBA:Hid (Below W.heap.size W (W.alloc (.cells #[.int .i64 0,.int .i64 0,.int .i64 0,.string ⟨#[]⟩,.string ⟨#[]⟩,.int .i64 0] 78))):=hid ((Below.refl _ _).alloc (Db _) _);have HQA:Hid (wrAt (W.alloc (.cells #[.int .i64 0,.int .i64 0,.int .i64 0,.string ⟨#[]⟩,.string ⟨#[]⟩,.int .i64 0] 78)).drew Q T P K key val N):=hid (HQ.out.below HBA.out.drew HQL.out);obtain ⟨m0,m1,_,_⟩:=(H.out.below HBA.out).cells;clear h hg hQ HES h0 hV hN hn hb0 hz0 hA4 hR;go_enter Tryz.func159,Tryz.ntmps159
 go_wp2;refine Ea (S:=fun w'=>w'.cell? ⟨R,0,none⟩=some (.string s)∧w'.cell? ⟨R,1,none⟩=some (.int .i64 (a:Int))) (by kernel_rfl) ⟨c0,c1⟩ (fun hHeld=>?_);refine tkO 0 ?_
 refine tkO 1 ?_
 refine tkO 2 ?_
 refine tkO 3 ?_
 refine tkO 4 ?_
 refine tkO 5 ?_
 refine tkO 6 ?_
 refine tkO 7 ?_
 refine tkO 8 ?_
 refine tkO 9 ?_
 refine Dm (rs:=[10,15]) (by kernel_rfl) (by simp) ?_;refine Dk rfl (fun KK hKK=>?_) (Dk rfl (fun KK hKK=>?_) Dn)
 ·go_simp
  refine (qj T P K key val N (s.extract a s.size) V N' k Q W.drew (HQ.out.below HB0.out HQL.out) hk HSZ.out H0.out HV.out HN.out HK.out).mono ?_;rintro r w1 ⟨rfl,hb1⟩;have HB1:Hid (Below W.heap.size W w1):=hid (bQ hb1);obtain ⟨k0,k1,_,_⟩:=(H.out.below HB1.out).cells;have HB2:=hid (HB1.out.alloc HB1.out.size (.cells #[.int .i64 0,.int .i64 0,.int .i64 0,.string ⟨#[]⟩,.string ⟨#[]⟩,.int .i64 0] 78));obtain ⟨l0,l1,_,_⟩:=(H.out.below HB2.out).cells;have HB3:=hid (HB1.out.alloc HB1.out.size (.cells #[.int .i64 T,.int .i64 P,.int .i64 K,.string key,.string V,.int .i64 N'] 78));obtain ⟨n0,n1,_,_⟩:=(H.out.below HB3.out).cells;clear hb1;refine hKK.out _ _ ⟨k0,k1⟩ (fun hHeldA=>sp ?_);clear hKK hHeld
  refine tkO 11 ?_
  refine tkO 12 ?_
  refine tkO 13 ?_
  refine tkO 14 ?_
  refine Dm (rs:=[15]) (by kernel_rfl) (by simp) ?_;refine Dk rfl (fun KK hKK=>?_) Dn
  go_simp
  refine hKK.out _ _ ⟨l0,l1⟩ (fun hHeldB=>sp ?_);clear hKK hHeldA
  refine Dm (rs:=[16]) (by kernel_rfl) (by simp) ?_;refine Dk rfl (fun KK hKK=>?_) Dn
  go_simp
  refine hKK.out _ _ ⟨n0,n1⟩ (fun hHeldC=>sp ?_);clear hKK hHeldB
  refine tkO 17 ?_
  refine tkO 18 ?_
  refine DZ (by kernel_rfl) ?_ _;obtain ⟨w2,hw2⟩:∃ w2,w1.alloc (.cells #[.int .i64 T,.int .i64 P,.int .i64 K,.string key,.string V,.int .i64 N'] 78)=w2:=⟨_,rfl⟩;obtain ⟨B5,hB5⟩:∃ B5,w1.heap.size=B5:=⟨_,rfl⟩;have h5:w2.heap[B5]? = some (.cells #[.int .i64 T,.int .i64 P,.int .i64 K,.string key,.string V,.int .i64 N'] 78 (0,0)):=by rw [←hw2,←hB5];exact Dg w1 _
  have hBW:Below W.heap.size W w2:=by rw [←hw2];exact HB1.out.alloc HB1.out.size _
  have hge:W.heap.size≤B5:=by rw [←hB5];exact HB1.out.size
  clear n0 n1 l0 l1 hHeldC HB2 HB3;have HBW:=hid hBW;have HR2:=hid (H.out.below hBW);have hne5:B5≠R:=by have:=HZ0.out;omega
  have hA4:w2.heap[w.heap.size]? = some (.cells #[.int .i64 0,.int .i64 0,.int .i64 0,.string ⟨#[]⟩,.string ⟨#[]⟩,.int .i64 0] 78 (0,0)):=(hBW.block _ HZ0.out).trans HA4.out;obtain ⟨_,k1',z1',_⟩:=HR2.out.cells;have h53:=bM (o:=1) h5 hne5 (.int .i64 (b:Int));obtain ⟨f0,f1,f2,f3,f4,f5⟩:=aI h53;have hA43:=bM (o:=1) hA4 (show w.heap.size≠R by omega) (.int .i64 (b:Int));have HA43:=hid hA43;have HI:=hid (cW (.int .i64 T) (.int .i64 P) (.int .i64 K) (.string key) (.string V) (.int .i64 N'));have HONE:=hid (cV T P K key V N');have HSAME:=hid (di T P K key V N');have hres:=bL hA43 #[.int .i64 T,.int .i64 P,.int .i64 K,.string key,.string V,.int .i64 N'];have HRD:=hid ((HR2.out.moved (b:=b)).row (show w.heap.size≠R by omega) #[.int .i64 T,.int .i64 P,.int .i64 K,.string key,.string V,.int .i64 N']);have HGR:Hid (w.grownBy ((w2.setCell ⟨R,1,none⟩ (.int .i64 (b:Int))).setRow w.heap.size #[.int .i64 T,.int .i64 P,.int .i64 K,.string key,.string V,.int .i64 N']) (some R)):=hid (gd (grownR (HB00.out.trans (hBW.mono (by have:=HZ0.out;omega))) _) (Db _) _);have HRES:=hid hres;clear h5 hA4 h53 hA43 hres hBW k0 k1
  go_wp2_with fail
  refine (eU R w2).mono ?_;rintro r w' ⟨rfl,rfl⟩;go_wp2_with (with_reducible refine DO rfl _ _ _ rfl _ _ rfl rfl _ _ HA43.out HI.out HSAME.out HONE.out ?_)
  obtain ⟨g0,g1,g2,g3,g4,g5⟩:=aI HRES.out;refine Dc (v:=.agg #[.int .i64 T,.int .i64 P,.int .i64 K,.string key,.string V,.int .i64 N']) (by simp [results,Tryz.results159,go_sem,g0,g1,g2,g3,g4,g5]) rfl ?_;exact ⟨rfl,HRD.out,HGR.out⟩
 ·go_simp
  refine hKK.out _ _ ⟨m0,m1⟩ (fun hHeldA=>sp ?_);clear hKK hHeld
  refine Dm (rs:=[10]) (by kernel_rfl) (by simp) ?_;refine Dk rfl (fun KK hKK=>?_) Dn
  go_simp
  refine (qj T P K key val N (s.extract a s.size) V N' k Q _ HQA.out hk HSZ.out H0.out HV.out HN.out HK.out).mono ?_;rintro r w1 ⟨rfl,hb1⟩;have HB1:Hid (Below W.heap.size W w1):=hid (HBA.out.trans ((bQ hb1).mono (by simp)));have HA5:Hid (w1.heap[W.heap.size]? = some (.cells #[.int .i64 0,.int .i64 0,.int .i64 0,.string ⟨#[]⟩,.string ⟨#[]⟩,.int .i64 0] 78)):=hid (((bQ hb1).block _ (by simp)).trans (Dg W _));obtain ⟨e0,e1,e2,e3,e4,e5⟩:=aI HA5.out;obtain ⟨y0,y1,y2,y3,y4,y5⟩:=cd HA5.out;obtain ⟨k0,k1,_,_⟩:=(H.out.below HB1.out).cells;have HB3:=hid (ed HB1.out (Db _) (.int .i64 T) (.int .i64 P) (.int .i64 K) (.string key) (.string V) (.int .i64 N'));obtain ⟨n0,n1,_,_⟩:=(H.out.below HB3.out).cells;clear hb1;refine hKK.out _ _ ⟨k0,k1⟩ (fun hHeldB=>sp ?_);clear hKK hHeldA
  refine tkO 11 ?_
  refine tkO 12 ?_
  refine tkO 13 ?_
  refine tkO 14 ?_
  refine Dm (rs:=[16]) (by kernel_rfl) (by simp) ?_;refine Dk rfl (fun KK hKK=>?_) Dn
  go_simp
  refine hKK.out _ _ ⟨n0,n1⟩ (fun hHeldC=>sp ?_);clear hKK hHeldB
  refine tkO 17 ?_
  refine tkO 18 ?_
  refine DZ (by kernel_rfl) ?_ _;obtain ⟨B5,hB5⟩:∃ B5,W.heap.size=B5:=⟨_,rfl⟩;obtain ⟨w2,hw2⟩:∃ w2,(((((w1.setCell ⟨B5,0,none⟩ (.int .i64 T)).setCell ⟨B5,1,none⟩ (.int .i64 P)).setCell ⟨B5,2,none⟩ (.int .i64 K)).setCell ⟨B5,3,none⟩ (.string key)).setCell ⟨B5,4,none⟩ (.string V)).setCell ⟨B5,5,none⟩ (.int .i64 N')=w2:=⟨_,rfl⟩;have h5:w2.heap[B5]? = some (.cells #[.int .i64 T,.int .i64 P,.int .i64 K,.string key,.string V,.int .i64 N'] 78 (0,0)):=by rw [←hw2,←hB5];exact A9 HA5.out _ _ _ _ _ _
  have hBW:Below W.heap.size W w2:=by rw [←hw2];exact ed HB1.out (by omega) _ _ _ _ _ _
  have hge:W.heap.size≤B5:=by omega
  clear e0 e1 e2 e3 e4 e5 y0 y1 y2 y3 y4 y5 HA5 n0 n1 hHeldC HB3;have HBW:=hid hBW;have HR2:=hid (H.out.below hBW);have hne5:B5≠R:=by have:=HZ0.out;omega
  have hA4:w2.heap[w.heap.size]? = some (.cells #[.int .i64 0,.int .i64 0,.int .i64 0,.string ⟨#[]⟩,.string ⟨#[]⟩,.int .i64 0] 78 (0,0)):=(hBW.block _ HZ0.out).trans HA4.out;obtain ⟨_,k1',z1',_⟩:=HR2.out.cells;have h53:=bM (o:=1) h5 hne5 (.int .i64 (b:Int));obtain ⟨f0,f1,f2,f3,f4,f5⟩:=aI h53;have hA43:=bM (o:=1) hA4 (show w.heap.size≠R by omega) (.int .i64 (b:Int));have HA43:=hid hA43;have HI:=hid (cW (.int .i64 T) (.int .i64 P) (.int .i64 K) (.string key) (.string V) (.int .i64 N'));have HONE:=hid (cV T P K key V N');have HSAME:=hid (di T P K key V N');have hres:=bL hA43 #[.int .i64 T,.int .i64 P,.int .i64 K,.string key,.string V,.int .i64 N'];have HRD:=hid ((HR2.out.moved (b:=b)).row (show w.heap.size≠R by omega) #[.int .i64 T,.int .i64 P,.int .i64 K,.string key,.string V,.int .i64 N']);have HGR:Hid (w.grownBy ((w2.setCell ⟨R,1,none⟩ (.int .i64 (b:Int))).setRow w.heap.size #[.int .i64 T,.int .i64 P,.int .i64 K,.string key,.string V,.int .i64 N']) (some R)):=hid (gd (grownR (HB00.out.trans (hBW.mono (by have:=HZ0.out;omega))) _) (Db _) _);have HRES:=hid hres;clear h5 hA4 h53 hA43 hres hBW k0 k1
  go_wp2_with fail
  refine (eU R w2).mono ?_;rintro r w' ⟨rfl,rfl⟩;go_wp2_with (with_reducible refine DO rfl _ _ _ rfl _ _ rfl rfl _ _ HA43.out HI.out HSAME.out HONE.out ?_)
  obtain ⟨g0,g1,g2,g3,g4,g5⟩:=aI HRES.out;refine Dc (v:=.agg #[.int .i64 T,.int .i64 P,.int .i64 K,.string key,.string V,.int .i64 N']) (by simp [results,Tryz.results159,go_sem,g0,g1,g2,g3,g4,g5]) rfl ?_;exact ⟨rfl,HRD.out,HGR.out⟩
end
section
open Go.RowKit
theorem wk (R Q:Nat) (s:ByteArray) (a:Nat) (T P K:Int) (key val:ByteArray) (N:Int) (x:Nat) (w:World) (h:Rd w R s a) (hg:errT w) (hs:s.size≤1000000) (ha:a≤s.size)
 (hQ:wrAt w Q T P K key val N) (hk:key.size≤140737488351232) (h0:aB T P K key (s.data.toList.drop a)=x) (hx:x≠0) :
 Calls Tryz.prog 159 #[.pointer (some ⟨R,0,none⟩),.func (.func 160) #[] #[.pointer (some ⟨Q,0,none⟩)]] w fun e w'=>dL (x,(a:Int)) e w'∧w.grownBy w' (some R):=by
 obtain ⟨W,hW⟩:∃ W,w.alloc (.cells #[.int .i64 0,.int .i64 0,.int .i64 0,.string ⟨#[]⟩,.string ⟨#[]⟩,.int .i64 0] 78)=W:=⟨_,rfl⟩;have hb0:Below w.heap.size w W:=by rw [←hW];exact (Below.refl _ _).alloc (Db _) _
 have hz0:w.heap.size<W.heap.size:=by rw [←hW];simp
 have H:=hid (h.below hb0);have HG0:=hid (hg.below hb0);have HQ:=hid (hQ.below hb0 (bc hQ.1));have HQL:Hid (Q<W.heap.size):=hid (Nat.lt_trans (bc hQ.1) hz0);have HB00:=hid hb0;obtain ⟨c0,c1,z1,hR⟩:=H.out.cells;have HSZ:Hid ((s.extract a s.size).size≤140737488351232):=hid (by have:=bS (s:=s) (a:=a);omega);have HES:(s.extract a s.size).data.toList=s.data.toList.drop a:=aS s a;rw [←HES] at h0;have H0:=hid h0;have d3:(0:Int)≤(a:Int):=by omega
 have d4:(a:Int)≤(s.size:Int):=by omega
 have HB0:Hid (Below W.heap.size W W.drew):=hid (Below.refl _ _).drew;have HBA:Hid (Below W.heap.size W (W.alloc (.cells #[.int .i64 0,.int .i64 0,.int .i64 0,.string ⟨#[]⟩,.string ⟨#[]⟩,.int .i64 0] 78))):=hid ((Below.refl _ _).alloc (Db _) _);have HQA:Hid (wrAt (W.alloc (.cells #[.int .i64 0,.int .i64 0,.int .i64 0,.string ⟨#[]⟩,.string ⟨#[]⟩,.int .i64 0] 78)).drew Q T P K key val N):=hid (HQ.out.below HBA.out.drew HQL.out);obtain ⟨m0,m1,_,_⟩:=(H.out.below HBA.out).cells;clear h hg hQ HES h0 hb0 hz0 hR;go_enter Tryz.func159,Tryz.ntmps159
 go_wp2
 go_region_with (first
  | (go_at_call 160;((with_reducible refine (qi T P K key val N (s.extract a s.size) x Q W.drew (HQ.out.below HB0.out HQL.out) hk HSZ.out H0.out hx).mono ?_);rintro r w1 ⟨rfl,hb1⟩;have HB1:Hid (Below W.heap.size W w1):=hid (bQ hb1);obtain ⟨k0,k1,_,_⟩:=(H.out.below HB1.out).cells;clear hb1))
  | (go_at_call 160;((with_reducible refine (qi T P K key val N (s.extract a s.size) x Q (W.alloc (.cells #[.int .i64 0,.int .i64 0,.int .i64 0,.string ⟨#[]⟩,.string ⟨#[]⟩,.int .i64 0] 78)).drew HQA.out hk HSZ.out H0.out hx).mono ?_);rintro r w1 ⟨rfl,hb1⟩;have HB1:Hid (Below W.heap.size W w1):=hid (HBA.out.trans ((bQ hb1).mono (by simp)));have HA5:Hid (w1.heap[W.heap.size]? = some (.cells #[.int .i64 0,.int .i64 0,.int .i64 0,.string ⟨#[]⟩,.string ⟨#[]⟩,.int .i64 0] 78)):=hid (((bQ hb1).block _ (by simp)).trans (Dg W _));obtain ⟨e0,e1,e2,e3,e4,e5⟩:=aI HA5.out;obtain ⟨y0,y1,y2,y3,y4,y5⟩:=cd HA5.out;obtain ⟨k0,k1,_,_⟩:=(H.out.below HB1.out).cells;clear hb1)))
 all_goals
  (first
   | (obtain ⟨w2, hw2⟩ : ∃ w2, (((((w1.setCell ⟨W.heap.size, 0, none⟩ (.int .i64 0)).setCell ⟨W.heap.size, 1, none⟩ (.int .i64 0)).setCell ⟨W.heap.size, 2, none⟩ (.int .i64 0)).setCell ⟨W.heap.size, 3, none⟩ (.string ⟨#[]⟩)).setCell ⟨W.heap.size, 4, none⟩ (.string ⟨#[]⟩)).setCell ⟨W.heap.size, 5, none⟩ (.int .i64 0) = w2 := ⟨_, rfl⟩
      have hBW:Below W.heap.size W w2:=by rw [←hw2];exact ed HB1.out (Db _) _ _ _ _ _ _
      clear e0 e1 e2 e3 e4 e5 y0 y1 y2 y3 y4 y5 HA5)
   | (obtain ⟨w2, hw2⟩ : ∃ w2, w1.alloc (.cells #[.int .i64 0, .int .i64 0, .int .i64 0, .string ⟨#[]⟩, .string ⟨#[]⟩, .int .i64 0] 78) = w2 := ⟨_, rfl⟩
      have hBW:Below W.heap.size W w2:=by rw [←hw2];exact HB1.out.alloc HB1.out.size _))
  have HBW:=hid hBW;have HR2:=hid (H.out.below hBW);clear hBW k0 k1;go_wp2_with fail
  refine (eT R s a _ x w2 HR2.out (HG0.out.below HBW.out) (.inl rfl) hx).mono ?_;rintro r w3 ⟨⟨t,u,rfl,hne,ha⟩,hb3⟩;exact Dp rfl ⟨⟨t,u,rfl,hne,ha⟩,eY (HB00.out.trans ((HBW.out.trans (hb3.mono HBW.out.size)).mono HB00.out.size))⟩
end
