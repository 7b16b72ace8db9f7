import Derived.Test.YtdhognaoejiglaaGreatDoorKb36
namespace Go.Proofs.YtdhognaoejiglaaGreatDoor
open Lib (hid)
set_option maxRecDepth 100000
set_option maxHeartbeats 8000000
open Go.RowKit
theorem zN (R Q:Nat) (s:ByteArray) (a:Nat) (T P K:Int) (key val:ByteArray) (N:Int) (x:Nat) (w:World) (h:Rd w R s a) (hg:errT w) (hs:s.size≤1000000) (ha:a≤s.size)
 (hQ:wrAt w Q T P K key val N) (hk:key.size≤140737488351232) (h0:aH T P K key (s.data.toList.drop a)=x) (hx:x≠0) :
 Calls Tryz.prog 214 #[.pointer (some ⟨R,0,none⟩),.func (.func 215) #[] #[.pointer (some ⟨Q,0,none⟩)]] w fun e w'=>eh (x,(a:Int)) e w'∧w.grownBy w' (some R):=by
 obtain ⟨W,hW⟩:∃ W,w.alloc (.cells #[.int .i64 0,.int .i64 0,.int .i64 0,.string ⟨#[]⟩,.string ⟨#[]⟩,.int .i64 0] 38)=W:=⟨_,rfl⟩;have hb0:Below w.heap.size w W:=by rw [←hW];exact (Below.refl _ _).alloc (Nat.le_refl _) _
 have hz0:w.heap.size<W.heap.size:=by rw [←hW];simp
 have H:=hid (h.below hb0);have HG0:=hid (hg.below hb0);have HQ:=hid (hQ.below hb0 (bg hQ.1));have HQL:Hid (Q<W.heap.size):=hid (Nat.lt_trans (bg hQ.1) hz0);have HB00:=hid hb0;obtain ⟨c0,c1,z1,hR⟩:=H.out.cells;have HSZ:Hid ((s.extract a s.size).size≤140737488351232):=hid (by have:=eA (s:=s) (a:=a);omega);have HES:(s.extract a s.size).data.toList=s.data.toList.drop a:=cZ s a;rw [←HES] at h0;have H0:=hid h0;have d3:(0:Int)≤(a:Int):=by omega
 have d4:(a:Int)≤(s.size:Int):=by omega
 have HB0:Hid (Below W.heap.size W W.drew):=hid (Below.refl _ _).drew;have HBA:Hid (Below W.heap.size W (W.alloc (.cells #[.int .i64 0,.int .i64 0,.int .i64 0,.string ⟨#[]⟩,.string ⟨#[]⟩,.int .i64 0] 38))):=hid ((Below.refl _ _).alloc (Nat.le_refl _) _);have HQA:Hid (wrAt (W.alloc (.cells #[.int .i64 0,.int .i64 0,.int .i64 0,.string ⟨#[]⟩,.string ⟨#[]⟩,.int .i64 0] 38)).drew Q T P K key val N):=hid (HQ.out.below HBA.out.drew HQL.out);obtain ⟨m0,m1,_,_⟩:=(H.out.below HBA.out).cells;clear h hg hQ HES h0 hb0 hz0 hR;go_enter Tryz.func214,Tryz.ntmps214
 go_wp2
 go_region_with (first
  | (go_at_call 215;((with_reducible refine (sJ T P K key val N (s.extract a s.size) x Q W.drew (HQ.out.below HB0.out HQL.out) hk HSZ.out H0.out hx).mono ?_);rintro r w1 ⟨rfl,hb1⟩;have HB1:Hid (Below W.heap.size W w1):=hid (cd hb1);obtain ⟨k0,k1,_,_⟩:=(H.out.below HB1.out).cells;clear hb1))
  | (go_at_call 215;((with_reducible refine (sJ T P K key val N (s.extract a s.size) x Q (W.alloc (.cells #[.int .i64 0,.int .i64 0,.int .i64 0,.string ⟨#[]⟩,.string ⟨#[]⟩,.int .i64 0] 38)).drew HQA.out hk HSZ.out H0.out hx).mono ?_);rintro r w1 ⟨rfl,hb1⟩;have HB1:Hid (Below W.heap.size W w1):=hid (HBA.out.trans ((cd hb1).mono (by simp)));have HA5:Hid (w1.heap[W.heap.size]? = some (.cells #[.int .i64 0,.int .i64 0,.int .i64 0,.string ⟨#[]⟩,.string ⟨#[]⟩,.int .i64 0] 38)):=hid (((cd hb1).block _ (by simp)).trans (heap_alloc_new W _));obtain ⟨e0,e1,e2,e3,e4,e5⟩:=bZ HA5.out;obtain ⟨y0,y1,y2,y3,y4,y5⟩:=gM HA5.out;obtain ⟨k0,k1,_,_⟩:=(H.out.below HB1.out).cells;clear hb1)))
 all_goals
  (first
   | (obtain ⟨w2, hw2⟩ : ∃ w2, (((((w1.setCell ⟨W.heap.size, 0, none⟩ (.int .i64 0)).setCell ⟨W.heap.size, 1, none⟩ (.int .i64 0)).setCell ⟨W.heap.size, 2, none⟩ (.int .i64 0)).setCell ⟨W.heap.size, 3, none⟩ (.string ⟨#[]⟩)).setCell ⟨W.heap.size, 4, none⟩ (.string ⟨#[]⟩)).setCell ⟨W.heap.size, 5, none⟩ (.int .i64 0) = w2 := ⟨_, rfl⟩
      have hBW:Below W.heap.size W w2:=by rw [←hw2];exact iB HB1.out (Nat.le_refl _) _ _ _ _ _ _
      clear e0 e1 e2 e3 e4 e5 y0 y1 y2 y3 y4 y5 HA5)
   | (obtain ⟨w2, hw2⟩ : ∃ w2, w1.alloc (.cells #[.int .i64 0, .int .i64 0, .int .i64 0, .string ⟨#[]⟩, .string ⟨#[]⟩, .int .i64 0] 38) = w2 := ⟨_, rfl⟩
      have hBW:Below W.heap.size W w2:=by rw [←hw2];exact HB1.out.alloc HB1.out.size _))
  have HBW:=hid hBW;have HR2:=hid (H.out.below hBW);clear hBW k0 k1;go_wp2_with fail
  refine (fs R s a _ x w2 HR2.out (HG0.out.below HBW.out) (.inl rfl) hx).mono ?_;rintro r w3 ⟨⟨t,u,rfl,hne,ha⟩,hb3⟩;exact And.intro rfl ⟨⟨t,u,rfl,hne,ha⟩,fC (HB00.out.trans ((HBW.out.trans (hb3.mono HBW.out.size)).mono HB00.out.size))⟩
