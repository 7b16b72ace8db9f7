import Derived.Test.YtjkbmfpomgcblaaGreatDoorKr26
import Derived.Deep.RegionWith
namespace Go.Proofs.YtjkbmfpomgcblaaGreatDoor
open Go.RowKit
theorem row_six {w:World} {B:Nat} {a0 a1 a2 a3 a4 a5:Value} {t:TypeId} {fr:Nat×Nat} (h:w.heap[B]? = some (.cells #[a0,a1,a2,a3,a4,a5] t fr)) (b0 b1 b2 b3 b4 b5:Value) :
   ((((((w.setCell ⟨B,0,none⟩ b0).setCell ⟨B,1,none⟩ b1).setCell ⟨B,2,none⟩ b2).setCell ⟨B,3,none⟩ b3).setCell ⟨B,4,none⟩ b4).setCell ⟨B,5,none⟩ b5).heap[B]? = some (.cells #[b0,b1,b2,b3,b4,b5] t fr):=by
 simp [World.setCell,Array.getElem?_modify,h]
theorem row_setCell {w:World} {B R o:Nat} {cs:Array Value} {t:TypeId} {fr:Nat×Nat} (h:w.heap[B]? = some (.cells cs t fr)) (hne:B≠R) (v:Value):(w.setCell ⟨R,o,none⟩ v).heap[B]? = some (.cells cs t fr):=by
 rw [heap_setCell_other _ _ _ _ (fun e=>hne e)];exact h
theorem grown_row {w w1:World} {R B:Nat} (h:w.grownBy w1 (some R)) (hB:w.heap.size≤B) (cs:Array Value):w.grownBy (w1.setRow B cs) (some R) :=
 ⟨h.os,h.tape,h.output,by simpa [World.setRow] using h.size,fun k hk hne=>by
   simp only [World.setRow,Array.getElem?_modify]
   rw [if_neg (by omega)]
   exact h.block k hk hne⟩
theorem Rd.row {w:World} {R B:Nat} {s:ByteArray} {a:Nat} (h:Rd w R s a) (hne:B≠R) (cs:Array Value):Rd (w.setRow B cs) R s a:=by
 unfold Rd at h ⊢
 simp only [World.setRow,Array.getElem?_modify]
 rw [if_neg hne];exact h
set_option maxRecDepth 100000 in
set_option maxHeartbeats 4000000 in
theorem getw_ok (R Q:Nat) (s:ByteArray) (a:Nat) (T P K:Int) (key val:ByteArray) (N:Int) (V:ByteArray) (N':Int) (k:Nat) (w:World) (h:Rd w R s a) (hg:errT w) (hs:s.size≤1000000) (ha:a≤s.size)
   (hQ:wrAt w Q T P K key val N) (hk:key.size≤140737488351232) (h0:fillE T P K key (s.data.toList.drop a)=0) (hV:fillV K (s.data.toList.drop a)=V) (hN:(getN K (s.data.toList.drop a)).1=N') (hn:fillN K (s.data.toList.drop a)=k) (hk2:k≤1000000) :
   Calls Tryz.prog 212 #[.pointer (some ⟨R,0,none⟩),.func (.func 213) #[] #[.pointer (some ⟨Q,0,none⟩)]] w fun e w'=>e=.returned (.agg #[.int .i64 T,.int .i64 P,.int .i64 K,.string key,.string V,.int .i64 N'])∧Rd w' R s (a + k)∧w.grownBy w' (some R):=by
 obtain ⟨W,hW⟩:∃ W,w.alloc (.cells #[.int .i64 0,.int .i64 0,.int .i64 0,.string ⟨#[]⟩,.string ⟨#[]⟩,.int .i64 0] 59)=W:=⟨_,rfl⟩
 have hb0:Below w.heap.size w W:=by rw [←hW];exact (Below.refl _ _).alloc (Nat.le_refl _) _
 have hz0:w.heap.size < W.heap.size:=by rw [←hW];simp
 have hR0:R < w.heap.size:=h.cells.2.2.2
 have hA4:W.heap[w.heap.size]? = some (.cells #[.int .i64 0,.int .i64 0,.int .i64 0,.string ⟨#[]⟩,.string ⟨#[]⟩,.int .i64 0] 59 (0,0)):=by rw [←hW];exact heap_alloc_new w _
 have H:=Lib.hid (h.below hb0)
 have HG0:=Lib.hid (hg.below hb0)
 have HQ:=Lib.hid (hQ.below hb0 (lt_of_cell hQ.1))
 have HQL:Hid (Q < W.heap.size):=Lib.hid (Nat.lt_trans (lt_of_cell hQ.1) hz0)
 have HA4:=Lib.hid hA4
 have HB00:=Lib.hid hb0
 have HZ0:=Lib.hid hz0
 obtain ⟨c0,c1,z1,hR⟩:=H.out.cells
 have HSZ:Hid ((s.extract a s.size).size≤140737488351232):=Lib.hid (by have:=ext_le (s:=s) (a:=a);omega)
 have HES:(s.extract a s.size).data.toList=s.data.toList.drop a:=ext_dropV s a
 rw [←HES] at h0 hV hN hn
 have H0:=Lib.hid h0
 have HV:=Lib.hid hV
 have HN:=Lib.hid hN
 have HK:=Lib.hid hn
 have d3:(0:Int)≤(a:Int):=by omega
 have d4:(a:Int)≤(s.size:Int):=by omega
 obtain ⟨b,hb⟩:∃ b,b=a + k:=⟨_,rfl⟩
 have kw:IntKind.i64.wrap ((a:Int) + (k:Int))=(b:Int):=by rw [hb,show ((a + k:Nat):Int)=(a:Int) + (k:Int) by simp];exact IntWalk.i64_in _ (by omega)
 rw [←hb]
 clear hb
 have HB0:Hid (Below W.heap.size W W.drew):=Lib.hid (Below.refl _ _).drew
 have HBA:Hid (Below W.heap.size W (W.alloc (.cells #[.int .i64 0,.int .i64 0,.int .i64 0,.string ⟨#[]⟩,.string ⟨#[]⟩,.int .i64 0] 59))):=Lib.hid ((Below.refl _ _).alloc (Nat.le_refl _) _)
 have HQA:Hid (wrAt (W.alloc (.cells #[.int .i64 0,.int .i64 0,.int .i64 0,.string ⟨#[]⟩,.string ⟨#[]⟩,.int .i64 0] 59)).drew Q T P K key val N):=Lib.hid (HQ.out.below HBA.out.drew HQL.out)
 obtain ⟨m0,m1,_,_⟩:=(H.out.below HBA.out).cells
 clear h hg hQ HES h0 hV hN hn hb0 hz0 hA4 hR
 go_enter Tryz.func212,Tryz.ntmps212
 go_wp2
 refine wp_region_held_drew (S:=fun w'=>w'.cell? ⟨R,0,none⟩=some (.string s)∧w'.cell? ⟨R,1,none⟩=some (.int .i64 (a:Int))) (by kernel_rfl) ⟨c0,c1⟩ (fun hHeld=>?_)
 refine wpAnyH_take (i:=0) (v:=?v0) rfl (by kernel_rfl) (by kernel_rfl) (by kernel_rfl) (fun _ _ _ h=>h) (Or.inl ⟨by rfl,?h0⟩) (by assumption) ?r0
 case h0=>(intro W hSw;(try dsimp only at hSw);go_simp;all_goals (with_reducible rfl))
 try simp only [Act.put,List.getElem_toArray,List.getElem_cons_zero,List.setIfInBounds_toArray,List.set_cons_zero,List.set_cons_succ]
 refine wpAnyH_take (i:=1) (v:=?v1) rfl (by kernel_rfl) (by kernel_rfl) (by kernel_rfl) (fun _ _ _ h=>h) (Or.inl ⟨by rfl,?h1⟩) (by assumption) ?r1
 case h1=>(intro W hSw;(try dsimp only at hSw);go_simp;all_goals (with_reducible rfl))
 try simp only [Act.put,List.getElem_toArray,List.getElem_cons_zero,List.getElem_cons_succ,List.setIfInBounds_toArray,List.set_cons_zero,List.set_cons_succ]
 refine wpAnyH_take (i:=2) (v:=?v2) rfl (by kernel_rfl) (by kernel_rfl) (by kernel_rfl) (fun _ _ _ h=>h) (Or.inl ⟨by rfl,?h2⟩) (by assumption) ?r2
 case h2=>(intro W hSw;(try dsimp only at hSw);go_simp;all_goals (with_reducible rfl))
 try simp only [Act.put,List.getElem_toArray,List.getElem_cons_zero,List.getElem_cons_succ,List.setIfInBounds_toArray,List.set_cons_zero,List.set_cons_succ]
 refine wpAnyH_take (i:=3) (v:=?v3) rfl (by kernel_rfl) (by kernel_rfl) (by kernel_rfl) (fun _ _ _ h=>h) (Or.inl ⟨by rfl,?h3⟩) (by assumption) ?r3
 case h3=>(intro W hSw;(try dsimp only at hSw);go_simp;all_goals (with_reducible rfl))
 try simp only [Act.put,List.getElem_toArray,List.getElem_cons_zero,List.getElem_cons_succ,List.setIfInBounds_toArray,List.set_cons_zero,List.set_cons_succ]
 refine wpAnyH_take (i:=4) (v:=?v4) rfl (by kernel_rfl) (by kernel_rfl) (by kernel_rfl) (fun _ _ _ h=>h) (Or.inl ⟨by rfl,?h4⟩) (by assumption) ?r4
 case h4=>(intro W hSw;(try dsimp only at hSw);go_simp;all_goals (with_reducible rfl))
 try simp only [Act.put,List.getElem_toArray,List.getElem_cons_zero,List.getElem_cons_succ,List.setIfInBounds_toArray,List.set_cons_zero,List.set_cons_succ]
 refine wpAnyH_take (i:=5) (v:=?v5) rfl (by kernel_rfl) (by kernel_rfl) (by kernel_rfl) (fun _ _ _ h=>h) (Or.inl ⟨by rfl,?h5⟩) (by assumption) ?r5
 case h5=>(intro W hSw;(try dsimp only at hSw);go_simp;all_goals (with_reducible rfl))
 try simp only [Act.put,List.getElem_toArray,List.getElem_cons_zero,List.getElem_cons_succ,List.setIfInBounds_toArray,List.set_cons_zero,List.set_cons_succ]
 refine wpAnyH_take (i:=6) (v:=?v6) rfl (by kernel_rfl) (by kernel_rfl) (by kernel_rfl) (fun _ _ _ h=>h) (Or.inl ⟨by rfl,?h6⟩) (by assumption) ?r6
 case h6=>(intro W hSw;(try dsimp only at hSw);go_simp;all_goals (with_reducible rfl))
 try simp only [Act.put,List.getElem_toArray,List.getElem_cons_zero,List.getElem_cons_succ,List.setIfInBounds_toArray,List.set_cons_zero,List.set_cons_succ]
 refine wpAnyH_take (i:=7) (v:=?v7) rfl (by kernel_rfl) (by kernel_rfl) (by kernel_rfl) (fun _ _ _ h=>h) (Or.inl ⟨by rfl,?h7⟩) (by assumption) ?r7
 case h7=>(intro W hSw;(try dsimp only at hSw);go_simp;all_goals (with_reducible rfl))
 try simp only [Act.put,List.getElem_toArray,List.getElem_cons_zero,List.getElem_cons_succ,List.setIfInBounds_toArray,List.set_cons_zero,List.set_cons_succ]
 refine wpAnyH_take (i:=8) (v:=?v8) rfl (by kernel_rfl) (by kernel_rfl) (by kernel_rfl) (fun _ _ _ h=>h) (Or.inl ⟨by rfl,?h8⟩) (by assumption) ?r8
 case h8=>(intro W hSw;(try dsimp only at hSw);go_simp;all_goals (with_reducible rfl))
 try simp only [Act.put,List.getElem_toArray,List.getElem_cons_zero,List.getElem_cons_succ,List.setIfInBounds_toArray,List.set_cons_zero,List.set_cons_succ]
 refine wpAnyH_take (i:=9) (v:=?v9) rfl (by kernel_rfl) (by kernel_rfl) (by kernel_rfl) (fun _ _ _ h=>h) (Or.inl ⟨by rfl,?h9⟩) (by assumption) ?r9
 case h9=>(intro W hSw;(try dsimp only at hSw);go_simp;all_goals (with_reducible rfl))
 try simp only [Act.put,List.getElem_toArray,List.getElem_cons_zero,List.getElem_cons_succ,List.setIfInBounds_toArray,List.set_cons_zero,List.set_cons_succ]
 refine wpAnyH_ready (rs:=[10,15]) (by kernel_rfl) (by simp) ?_
 refine AllReadyH.cons rfl (fun KK hKK=>?_) (AllReadyH.cons rfl (fun KK hKK=>?_) AllReadyH.nil)
 · go_simp
   refine (nx1_ok T P K key val N (s.extract a s.size) V N' k Q W.drew (HQ.out.below HB0.out HQL.out) hk HSZ.out H0.out HV.out HN.out HK.out).mono ?_
   rintro r w1 ⟨rfl,hb1⟩
   have HB1:Hid (Below W.heap.size W w1):=Lib.hid (undrew3 hb1)
   obtain ⟨k0,k1,_,_⟩:=(H.out.below HB1.out).cells
   have HB2:=Lib.hid (HB1.out.alloc HB1.out.size (.cells #[.int .i64 0,.int .i64 0,.int .i64 0,.string ⟨#[]⟩,.string ⟨#[]⟩,.int .i64 0] 59))
   obtain ⟨l0,l1,_,_⟩:=(H.out.below HB2.out).cells
   have HB3:=Lib.hid (HB1.out.alloc HB1.out.size (.cells #[.int .i64 T,.int .i64 P,.int .i64 K,.string key,.string V,.int .i64 N'] 59))
   obtain ⟨n0,n1,_,_⟩:=(H.out.below HB3.out).cells
   clear hb1
   refine hKK.out _ _ ⟨k0,k1⟩ (fun hHeldA=>?_)
   clear hKK hHeld
   try simp only [Act.put,List.getElem_toArray,List.getElem_cons_zero,List.getElem_cons_succ,List.setIfInBounds_toArray,List.set_cons_zero,List.set_cons_succ]
   refine wpAnyH_take (i:=11) (v:=?v11a) rfl (by kernel_rfl) (by kernel_rfl) (by kernel_rfl) (fun _ _ _ h=>h) (Or.inl ⟨by rfl,?h11a⟩) (by assumption) ?r11a
   case h11a=>(intro W hSw;(try dsimp only at hSw);go_simp;all_goals (with_reducible rfl))
   try simp only [Act.put,List.getElem_toArray,List.getElem_cons_zero,List.getElem_cons_succ,List.setIfInBounds_toArray,List.set_cons_zero,List.set_cons_succ]
   refine wpAnyH_take (i:=12) (v:=?v12a) rfl (by kernel_rfl) (by kernel_rfl) (by kernel_rfl) (fun _ _ _ h=>h) (Or.inl ⟨by rfl,?h12a⟩) (by assumption) ?r12a
   case h12a=>(intro W hSw;(try dsimp only at hSw);go_simp;all_goals (with_reducible rfl))
   try simp only [Act.put,List.getElem_toArray,List.getElem_cons_zero,List.getElem_cons_succ,List.setIfInBounds_toArray,List.set_cons_zero,List.set_cons_succ]
   refine wpAnyH_take (i:=13) (v:=?v13a) rfl (by kernel_rfl) (by kernel_rfl) (by kernel_rfl) (fun _ _ _ h=>h) (Or.inl ⟨by rfl,?h13a⟩) (by assumption) ?r13a
   case h13a=>(intro W hSw;(try dsimp only at hSw);go_simp;all_goals (with_reducible rfl))
   try simp only [Act.put,List.getElem_toArray,List.getElem_cons_zero,List.getElem_cons_succ,List.setIfInBounds_toArray,List.set_cons_zero,List.set_cons_succ]
   refine wpAnyH_take (i:=14) (v:=?v14a) rfl (by kernel_rfl) (by kernel_rfl) (by kernel_rfl) (fun _ _ _ h=>h) (Or.inl ⟨by rfl,?h14a⟩) (by assumption) ?r14a
   case h14a=>(intro W hSw;(try dsimp only at hSw);go_simp;all_goals (with_reducible rfl))
   try simp only [Act.put,List.getElem_toArray,List.getElem_cons_zero,List.getElem_cons_succ,List.setIfInBounds_toArray,List.set_cons_zero,List.set_cons_succ]
   refine wpAnyH_ready (rs:=[15]) (by kernel_rfl) (by simp) ?_
   refine AllReadyH.cons rfl (fun KK hKK=>?_) AllReadyH.nil
   go_simp
   refine hKK.out _ _ ⟨l0,l1⟩ (fun hHeldB=>?_)
   clear hKK hHeldA
   try simp only [Act.put,List.getElem_toArray,List.getElem_cons_zero,List.getElem_cons_succ,List.setIfInBounds_toArray,List.set_cons_zero,List.set_cons_succ]
   refine wpAnyH_ready (rs:=[16]) (by kernel_rfl) (by simp) ?_
   refine AllReadyH.cons rfl (fun KK hKK=>?_) AllReadyH.nil
   go_simp
   refine hKK.out _ _ ⟨n0,n1⟩ (fun hHeldC=>?_)
   clear hKK hHeldB
   try simp only [Act.put,List.getElem_toArray,List.getElem_cons_zero,List.getElem_cons_succ,List.setIfInBounds_toArray,List.set_cons_zero,List.set_cons_succ]
   refine wpAnyH_take (i:=17) (v:=?v17a) rfl (by kernel_rfl) (by kernel_rfl) (by kernel_rfl) (fun _ _ _ h=>h) (Or.inl ⟨by rfl,?h17a⟩) (by assumption) ?r17a
   case h17a=>(intro W hSw;(try dsimp only at hSw);go_simp;all_goals (with_reducible rfl))
   try simp only [Act.put,List.getElem_toArray,List.getElem_cons_zero,List.getElem_cons_succ,List.setIfInBounds_toArray,List.set_cons_zero,List.set_cons_succ]
   refine wpAnyH_take (i:=18) (v:=?v18a) rfl (by kernel_rfl) (by kernel_rfl) (by kernel_rfl) (fun _ _ _ h=>h) (Or.inl ⟨by rfl,?h18a⟩) (by assumption) ?r18a
   case h18a=>(intro W hSw;(try dsimp only at hSw);go_simp;all_goals (with_reducible rfl))
   try simp only [Act.put,List.getElem_toArray,List.getElem_cons_zero,List.getElem_cons_succ,List.setIfInBounds_toArray,List.set_cons_zero,List.set_cons_succ]
   refine wpAnyH_done (by kernel_rfl) ?_ _
   obtain ⟨w2,hw2⟩:∃ w2,w1.alloc (.cells #[.int .i64 T,.int .i64 P,.int .i64 K,.string key,.string V,.int .i64 N'] 59)=w2:=⟨_,rfl⟩
   obtain ⟨B5,hB5⟩:∃ B5,w1.heap.size=B5:=⟨_,rfl⟩
   have h5:w2.heap[B5]? = some (.cells #[.int .i64 T,.int .i64 P,.int .i64 K,.string key,.string V,.int .i64 N'] 59 (0,0)):=by rw [←hw2,←hB5];exact heap_alloc_new w1 _
   have hBW:Below W.heap.size W w2:=by rw [←hw2];exact HB1.out.alloc HB1.out.size _
   have hge:W.heap.size≤B5:=by rw [←hB5];exact HB1.out.size
   clear n0 n1 l0 l1 hHeldC HB2 HB3
   have HBW:=Lib.hid hBW
   have HR2:=Lib.hid (H.out.below hBW)
   have hne5:B5≠R:=by have:=HZ0.out;omega
   have hA4:w2.heap[w.heap.size]? = some (.cells #[.int .i64 0,.int .i64 0,.int .i64 0,.string ⟨#[]⟩,.string ⟨#[]⟩,.int .i64 0] 59 (0,0)):=(hBW.block _ HZ0.out).trans HA4.out
   obtain ⟨_,k1',z1',_⟩:=HR2.out.cells
   have h53:=row_setCell (o:=1) h5 hne5 (.int .i64 (b:Int))
   obtain ⟨f0,f1,f2,f3,f4,f5⟩:=row_at h53
   have hA43:=row_setCell (o:=1) hA4 (show w.heap.size≠R by omega) (.int .i64 (b:Int))
   have HA43:=Lib.hid hA43
   have HI:=Lib.hid (wr_sized (.int .i64 T) (.int .i64 P) (.int .i64 K) (.string key) (.string V) (.int .i64 N'))
   have HONE:=Lib.hid (wr_ones T P K key V N')
   have HSAME:=Lib.hid (wr_same T P K key V N')
   have hres:=row_set hA43 #[.int .i64 T,.int .i64 P,.int .i64 K,.string key,.string V,.int .i64 N']
   have HRD:=Lib.hid ((HR2.out.moved (b:=b)).row (show w.heap.size≠R by omega) #[.int .i64 T,.int .i64 P,.int .i64 K,.string key,.string V,.int .i64 N'])
   have HGR:Hid (w.grownBy ((w2.setCell ⟨R,1,none⟩ (.int .i64 (b:Int))).setRow w.heap.size #[.int .i64 T,.int .i64 P,.int .i64 K,.string key,.string V,.int .i64 N']) (some R)):=Lib.hid (grown_row (grownR (HB00.out.trans (hBW.mono (by have:=HZ0.out;omega))) _) (Nat.le_refl _) _)
   have HRES:=Lib.hid hres
   clear h5 hA4 h53 hA43 hres hBW k0 k1
   go_wp2_with fail
   refine (check_nil R w2).mono ?_
   rintro r w' ⟨rfl,rfl⟩
   go_wp2_with (with_reducible refine wpList_store_row rfl _ _ _ rfl _ _ rfl rfl _ _ HA43.out HI.out HSAME.out HONE.out ?_)
   obtain ⟨g0,g1,g2,g3,g4,g5⟩:=row_at HRES.out
   refine bodyPost_ret (v:=.agg #[.int .i64 T,.int .i64 P,.int .i64 K,.string key,.string V,.int .i64 N']) (by simp [results,Tryz.results212,go_sem,g0,g1,g2,g3,g4,g5]) rfl ?_
   exact ⟨rfl,HRD.out,HGR.out⟩
 · go_simp
   refine hKK.out _ _ ⟨m0,m1⟩ (fun hHeldA=>?_)
   clear hKK hHeld
   try simp only [Act.put,List.getElem_toArray,List.getElem_cons_zero,List.getElem_cons_succ,List.setIfInBounds_toArray,List.set_cons_zero,List.set_cons_succ]
   refine wpAnyH_ready (rs:=[10]) (by kernel_rfl) (by simp) ?_
   refine AllReadyH.cons rfl (fun KK hKK=>?_) AllReadyH.nil
   go_simp
   refine (nx1_ok T P K key val N (s.extract a s.size) V N' k Q _ HQA.out hk HSZ.out H0.out HV.out HN.out HK.out).mono ?_
   rintro r w1 ⟨rfl,hb1⟩
   have HB1:Hid (Below W.heap.size W w1):=Lib.hid (HBA.out.trans ((undrew3 hb1).mono (by simp)))
   have HA5:Hid (w1.heap[W.heap.size]? = some (.cells #[.int .i64 0,.int .i64 0,.int .i64 0,.string ⟨#[]⟩,.string ⟨#[]⟩,.int .i64 0] 59)):=Lib.hid (((undrew3 hb1).block _ (by simp)).trans (heap_alloc_new W _))
   obtain ⟨e0,e1,e2,e3,e4,e5⟩:=row_at HA5.out
   obtain ⟨y0,y1,y2,y3,y4,y5⟩:=free_row HA5.out
   obtain ⟨k0,k1,_,_⟩:=(H.out.below HB1.out).cells
   have HB3:=Lib.hid (below_six HB1.out (Nat.le_refl _) (.int .i64 T) (.int .i64 P) (.int .i64 K) (.string key) (.string V) (.int .i64 N'))
   obtain ⟨n0,n1,_,_⟩:=(H.out.below HB3.out).cells
   clear hb1
   refine hKK.out _ _ ⟨k0,k1⟩ (fun hHeldB=>?_)
   clear hKK hHeldA
   try simp only [Act.put,List.getElem_toArray,List.getElem_cons_zero,List.getElem_cons_succ,List.setIfInBounds_toArray,List.set_cons_zero,List.set_cons_succ]
   refine wpAnyH_take (i:=11) (v:=?v11b) rfl (by kernel_rfl) (by kernel_rfl) (by kernel_rfl) (fun _ _ _ h=>h) (Or.inl ⟨by rfl,?h11b⟩) (by assumption) ?r11b
   case h11b=>(intro W hSw;(try dsimp only at hSw);go_simp;all_goals (with_reducible rfl))
   try simp only [Act.put,List.getElem_toArray,List.getElem_cons_zero,List.getElem_cons_succ,List.setIfInBounds_toArray,List.set_cons_zero,List.set_cons_succ]
   refine wpAnyH_take (i:=12) (v:=?v12b) rfl (by kernel_rfl) (by kernel_rfl) (by kernel_rfl) (fun _ _ _ h=>h) (Or.inl ⟨by rfl,?h12b⟩) (by assumption) ?r12b
   case h12b=>(intro W hSw;(try dsimp only at hSw);go_simp;all_goals (with_reducible rfl))
   try simp only [Act.put,List.getElem_toArray,List.getElem_cons_zero,List.getElem_cons_succ,List.setIfInBounds_toArray,List.set_cons_zero,List.set_cons_succ]
   refine wpAnyH_take (i:=13) (v:=?v13b) rfl (by kernel_rfl) (by kernel_rfl) (by kernel_rfl) (fun _ _ _ h=>h) (Or.inl ⟨by rfl,?h13b⟩) (by assumption) ?r13b
   case h13b=>(intro W hSw;(try dsimp only at hSw);go_simp;all_goals (with_reducible rfl))
   try simp only [Act.put,List.getElem_toArray,List.getElem_cons_zero,List.getElem_cons_succ,List.setIfInBounds_toArray,List.set_cons_zero,List.set_cons_succ]
   refine wpAnyH_take (i:=14) (v:=?v14b) rfl (by kernel_rfl) (by kernel_rfl) (by kernel_rfl) (fun _ _ _ h=>h) (Or.inl ⟨by rfl,?h14b⟩) (by assumption) ?r14b
   case h14b=>(intro W hSw;(try dsimp only at hSw);go_simp;all_goals (with_reducible rfl))
   try simp only [Act.put,List.getElem_toArray,List.getElem_cons_zero,List.getElem_cons_succ,List.setIfInBounds_toArray,List.set_cons_zero,List.set_cons_succ]
   refine wpAnyH_ready (rs:=[16]) (by kernel_rfl) (by simp) ?_
   refine AllReadyH.cons rfl (fun KK hKK=>?_) AllReadyH.nil
   go_simp
   refine hKK.out _ _ ⟨n0,n1⟩ (fun hHeldC=>?_)
   clear hKK hHeldB
   try simp only [Act.put,List.getElem_toArray,List.getElem_cons_zero,List.getElem_cons_succ,List.setIfInBounds_toArray,List.set_cons_zero,List.set_cons_succ]
   refine wpAnyH_take (i:=17) (v:=?v17b) rfl (by kernel_rfl) (by kernel_rfl) (by kernel_rfl) (fun _ _ _ h=>h) (Or.inl ⟨by rfl,?h17b⟩) (by assumption) ?r17b
   case h17b=>(intro W hSw;(try dsimp only at hSw);go_simp;all_goals (with_reducible rfl))
   try simp only [Act.put,List.getElem_toArray,List.getElem_cons_zero,List.getElem_cons_succ,List.setIfInBounds_toArray,List.set_cons_zero,List.set_cons_succ]
   refine wpAnyH_take (i:=18) (v:=?v18b) rfl (by kernel_rfl) (by kernel_rfl) (by kernel_rfl) (fun _ _ _ h=>h) (Or.inl ⟨by rfl,?h18b⟩) (by assumption) ?r18b
   case h18b=>(intro W hSw;(try dsimp only at hSw);go_simp;all_goals (with_reducible rfl))
   try simp only [Act.put,List.getElem_toArray,List.getElem_cons_zero,List.getElem_cons_succ,List.setIfInBounds_toArray,List.set_cons_zero,List.set_cons_succ]
   refine wpAnyH_done (by kernel_rfl) ?_ _
   obtain ⟨B5,hB5⟩:∃ B5,W.heap.size=B5:=⟨_,rfl⟩
   obtain ⟨w2,hw2⟩:∃ w2,(((((w1.setCell ⟨B5,0,none⟩ (.int .i64 T)).setCell ⟨B5,1,none⟩ (.int .i64 P)).setCell ⟨B5,2,none⟩ (.int .i64 K)).setCell ⟨B5,3,none⟩ (.string key)).setCell ⟨B5,4,none⟩ (.string V)).setCell ⟨B5,5,none⟩ (.int .i64 N')=w2:=⟨_,rfl⟩
   have h5:w2.heap[B5]? = some (.cells #[.int .i64 T,.int .i64 P,.int .i64 K,.string key,.string V,.int .i64 N'] 59 (0,0)):=by rw [←hw2,←hB5];exact row_six HA5.out _ _ _ _ _ _
   have hBW:Below W.heap.size W w2:=by rw [←hw2];exact below_six HB1.out (by omega) _ _ _ _ _ _
   have hge:W.heap.size≤B5:=by omega
   clear e0 e1 e2 e3 e4 e5 y0 y1 y2 y3 y4 y5 HA5 n0 n1 hHeldC HB3
   have HBW:=Lib.hid hBW
   have HR2:=Lib.hid (H.out.below hBW)
   have hne5:B5≠R:=by have:=HZ0.out;omega
   have hA4:w2.heap[w.heap.size]? = some (.cells #[.int .i64 0,.int .i64 0,.int .i64 0,.string ⟨#[]⟩,.string ⟨#[]⟩,.int .i64 0] 59 (0,0)):=(hBW.block _ HZ0.out).trans HA4.out
   obtain ⟨_,k1',z1',_⟩:=HR2.out.cells
   have h53:=row_setCell (o:=1) h5 hne5 (.int .i64 (b:Int))
   obtain ⟨f0,f1,f2,f3,f4,f5⟩:=row_at h53
   have hA43:=row_setCell (o:=1) hA4 (show w.heap.size≠R by omega) (.int .i64 (b:Int))
   have HA43:=Lib.hid hA43
   have HI:=Lib.hid (wr_sized (.int .i64 T) (.int .i64 P) (.int .i64 K) (.string key) (.string V) (.int .i64 N'))
   have HONE:=Lib.hid (wr_ones T P K key V N')
   have HSAME:=Lib.hid (wr_same T P K key V N')
   have hres:=row_set hA43 #[.int .i64 T,.int .i64 P,.int .i64 K,.string key,.string V,.int .i64 N']
   have HRD:=Lib.hid ((HR2.out.moved (b:=b)).row (show w.heap.size≠R by omega) #[.int .i64 T,.int .i64 P,.int .i64 K,.string key,.string V,.int .i64 N'])
   have HGR:Hid (w.grownBy ((w2.setCell ⟨R,1,none⟩ (.int .i64 (b:Int))).setRow w.heap.size #[.int .i64 T,.int .i64 P,.int .i64 K,.string key,.string V,.int .i64 N']) (some R)):=Lib.hid (grown_row (grownR (HB00.out.trans (hBW.mono (by have:=HZ0.out;omega))) _) (Nat.le_refl _) _)
   have HRES:=Lib.hid hres
   clear h5 hA4 h53 hA43 hres hBW k0 k1
   go_wp2_with fail
   refine (check_nil R w2).mono ?_
   rintro r w' ⟨rfl,rfl⟩
   go_wp2_with (with_reducible refine wpList_store_row rfl _ _ _ rfl _ _ rfl rfl _ _ HA43.out HI.out HSAME.out HONE.out ?_)
   obtain ⟨g0,g1,g2,g3,g4,g5⟩:=row_at HRES.out
   refine bodyPost_ret (v:=.agg #[.int .i64 T,.int .i64 P,.int .i64 K,.string key,.string V,.int .i64 N']) (by simp [results,Tryz.results212,go_sem,g0,g1,g2,g3,g4,g5]) rfl ?_
   exact ⟨rfl,HRD.out,HGR.out⟩
end Go.Proofs.YtjkbmfpomgcblaaGreatDoor
