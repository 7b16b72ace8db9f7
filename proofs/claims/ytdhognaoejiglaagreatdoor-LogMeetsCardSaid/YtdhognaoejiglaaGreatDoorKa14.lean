import Derived.Test.YtdhognaoejiglaaGreatDoorKa12
import Derived.Sort.KeysCollected
namespace Go.Proofs.YtdhognaoejiglaaGreatDoor
open Lib (hid)
set_option maxRecDepth 100000
set_option maxHeartbeats 8000000
section
open Go.RowKit
theorem xH (v:Value) (l:List ByteArray) (w:World) (h:bg w v l) (hl:l.length≤1000000) :
 Calls Tryz.prog 103 #[v] w fun e w'=>∃ u,e=.returned u∧ai w' w.heap.size u l∧Below w.heap.size w w':=by
 obtain ⟨a,c,rfl⟩:=h.form;rcases h.row.2 with rfl | ⟨b,off,rfl,_,hc⟩
 ·cases a with
  | none=>exact (Tryz.slices_Clone_string_nil _ _ w).mono fun e w' ⟨h1,h2⟩=>⟨_,h1,dJ _ _,by rw [h2];exact Below.refl _ _⟩
  | some a=>exact (Tryz.slices_Clone_string_zero a c w).mono fun e w' ⟨u,h1,h2,_,h4⟩=>⟨u,h1,h2,h4⟩
 ·refine (Tryz.slices_Clone_string b off l.length c l w (Nat.le_refl _) (by omega) hc).mono fun e w' ⟨u,h1,h2,_,h4⟩=>⟨u,h1,?_,h4⟩
  rw [List.take_length] at h2;exact h2
theorem ai.again {w:World} {base g n c j:Nat} {l:List ByteArray} {x:ByteArray} (h:ai w base (.slice (some ⟨g,0,none⟩) n c) l) (hj:l[j]? = some x) :
 ai (w.setCell ⟨g,j,none⟩ (.string x)) base (.slice (some ⟨g,0,none⟩) n c) l∧w.cell? ⟨g,j,none⟩=some (.string x)∧w.frozen? ⟨g,j,none⟩=false∧base≤g:=by
 obtain ⟨h0,h1⟩:=h;rcases h1 with ⟨e,_⟩ | ⟨g',cap,cur,e,hb,hh,hc,hm,hs,ht⟩
 ·cases e
 ·obtain ⟨e1,e2,e3⟩:=Value.slice.inj e;simp only [Option.some.injEq,Addr.mk.injEq,and_true] at e1
  subst e1;have hjl:j<l.length:=(List.getElem?_eq_some_iff.1 hj).1;have hcur:cur[j]? = some (.string x):=by
   have h2:(cur.toList.take (l.length * 1))[j]? = (l.map Value.string)[j]? := by rw [ht]
   rw [List.getElem?_take_of_lt (by omega),List.getElem?_map,hj,Array.getElem?_toList] at h2;exact h2
  refine ⟨⟨h0,.inr ⟨g,cap,_,e,hb,heap_setCell_same _ _ _ _ _ _ hh,hc,hm,by simpa using hs,?_⟩⟩,?_,?_,hb⟩
  ·rw [←ht]
   congr 1
   apply List.ext_getElem?
   intro i;rw [Array.getElem?_toList,Array.getElem?_toList,Array.getElem?_setIfInBounds];split
   ·rename_i e4;subst e4;split
    ·rw [hcur]
    ·rename_i hn;exact absurd (Array.getElem?_eq_some_iff.1 hcur).1 hn
   ·rfl
  ·rw [cell_of_row _ _ j _ _ (0,0) hh];exact hcur
  ·simp [World.frozen?,hh]
structure ApW (w W:World) (k t:ByteArray) (h:Bool) (s:Int) (l:Value):Prop where
 rowc:W.heap[w.heap.size]? = some (.cells #[.string k,.bool h,.string t,.int .i64 s,l] 100 (0,0))
 rowr:W.heap[w.heap.size+1]? = some (.cells #[.string ⟨#[]⟩,.bool false,.string ⟨#[]⟩,.int .i64 0,.slice none 0 0] 100 (0,0))
 gr:w.grownBy W none
 sz:w.heap.size+2≤W.heap.size
theorem ApW.grown {w W W':World} {k t:ByteArray} {h:Bool} {s:Int} {l:Value} {o:Option Nat} (hi:ApW w W k t h s l) (hg:W.grownBy W' o) (ho:∀ g,o=some g→w.heap.size+2≤g):ApW w W' k t h s l:=by
 have sz:=hi.sz;have hb:∀ B,B<w.heap.size+2→W'.heap[B]? = W.heap[B]? := fun B h1=>hg.block B (by omega) (fun e=>by have:=ho B e.symm;omega)
 refine ⟨(hb _ (by omega)).trans hi.rowc,(hb _ (by omega)).trans hi.rowr,⟨hg.os.trans hi.gr.os,hg.tape.trans hi.gr.tape,hg.output.trans hi.gr.output,Nat.le_trans hi.gr.size hg.size,fun k hk _=>(hb k (by omega)).trans (hi.gr.block k hk (by simp))⟩,Nat.le_trans sz hg.size⟩
theorem apW0 (w:World) (k t:ByteArray) (h:Bool) (s:Int) (l:Value) :
 ApW w ((w.alloc (.cells #[.string k,.bool h,.string t,.int .i64 s,l] 100)).alloc (.cells #[.string ⟨#[]⟩,.bool false,.string ⟨#[]⟩,.int .i64 0,.slice none 0 0] 100)) k t h s l:=by
 have old:∀ (W:World) (o:Obj) (k:Nat),k<W.heap.size→(W.alloc o).heap[k]? = W.heap[k]? := fun W o k hk=>(MapKept.heap_alloc W o).2 k hk
 have new:∀ (W:World) (o:Obj),(W.alloc o).heap[W.heap.size]? = some o:=fun W o=>(MapKept.heap_alloc W o).1
 have s1:(w.alloc (.cells #[.string k,.bool h,.string t,.int .i64 s,l] 100)).heap.size=w.heap.size+1:=by simp
 refine ⟨?_,?_,bB (bB (aV w none) _) _,by simp⟩
 ·rw [old _ _ _ (by omega)];exact new _ _
 ·have:=new (w.alloc (.cells #[.string k,.bool h,.string t,.int .i64 s,l] 100)) (.cells #[.string ⟨#[]⟩,.bool false,.string ⟨#[]⟩,.int .i64 0,.slice none 0 0] 100)
  rwa [s1] at this
theorem ApW.put {w W:World} {k t k' t':ByteArray} {h h':Bool} {s s':Int} {l l':Value} {j:Nat} {z:Value} (hi:ApW w W k t h s l) (hz:(#[.string k,.bool h,.string t,.int .i64 s,l]:Array Value).setIfInBounds j z=#[.string k',.bool h',.string t',.int .i64 s',l']) :
 ApW w (W.setCell ⟨w.heap.size,j,none⟩ z) k' t' h' s' l' :=
 ⟨by rw [←hz];exact heap_setCell_same _ _ j _ _ z hi.rowc,(heap_setCell_other _ _ _ _ (by show _≠w.heap.size;omega)).trans hi.rowr,cy hi.gr _ (Nat.le_refl _),by rw [show (W.setCell ⟨w.heap.size,j,none⟩ z).heap.size=W.heap.size from by simp];exact hi.sz⟩
theorem xZ {w W:World} {k t:ByteArray} {h:Bool} {s:Int} {l:Value} {g j:Nat} {z:Value} (hi:ApW w W k t h s l) (hg:w.heap.size+2≤g):ApW w (W.setCell ⟨g,j,none⟩ z) k t h s l :=
 hi.grown (o:=some g) (fP [z] j W (aV _ _)) (fun b e=>by cases e;exact hg)
theorem iI {w W:World} {k t:ByteArray} {h:Bool} {s:Int} {l:Value} (hi:ApW w W k t h s l) (i:Nat):W.frozen? ⟨w.heap.size,i,none⟩=false:=by simp [World.frozen?,hi.rowc]
theorem xY {w wr:World} {k t:ByteArray} {h:Bool} {s:Int} {v:Value} {l:List ByteArray} {a:Act} (hi:ApW w wr k t h s v) (ho:ai wr w.heap.size v l) (hn:∀ B,v.ownBlock=some B→w.heap.size+2≤B)
 (ha:a.tmps.getD 2 undef=.pointer (some ⟨w.heap.size+1,0,none⟩)) (hd:a.defers=[]) :
 ∀ W,W=((((wr.setCell ⟨w.heap.size+1,0,none⟩ (.string k)).setCell ⟨w.heap.size+1,1,none⟩ (.bool h)).setCell ⟨w.heap.size+1,2,none⟩ (.string t)).setCell ⟨w.heap.size+1,3,none⟩ (.int .i64 s)).setCell ⟨w.heap.size+1,4,none⟩ v →
 bodyPost Tryz.prog Tryz.f77 (fun e w'=>∃ u,e=.returned (.agg #[.string k,.bool h,.string t,.int .i64 s,u])∧ai w' w.heap.size u l∧Below w.heap.size w w') .ret a W:=by
 have hne:v.ownBlock≠some (w.heap.size+1):=fun e=>by have:=hn _ e;omega
 have hR:=lX hi.rowr (.string k) (.bool h) (.string t) (.int .i64 s) v;intro W hW;have hgW:w.grownBy W none:=by rw [hW];exact cy (cy (cy (cy (cy hi.gr _ (by omega)) _ (by omega)) _ (by omega)) _ (by omega)) _ (by omega)
 have hoW:ai W w.heap.size v l:=by
  rw [hW];exact ((((ho.setC _ hne).setC _ hne).setC _ hne).setC _ hne).setC _ hne
 rw [←hW] at hR;refine bodyPost_ret (v:=.agg #[.string k,.bool h,.string t,.int .i64 s,v]) (results_cell_row Tryz.results77 _ _ (w.heap.size+1) 100 _ _ _ ha hR Tryz.underlying100 rfl (iS _ _ _ _ _)) hd ?_;exact ⟨v,rfl,hoW,qt hgW⟩
theorem qh (k t:ByteArray) (h:Bool) (s:Int) (la:Option Addr) (n c:Nat) (l:List ByteArray) (w:World) (hk:k.size≤140737488351232) (ht:t.size≤140737488351232) (hl:bg w (.slice la n c) l) (hm:l.length≤1000000) (hs:∀ x∈l,x.size≤140737488351232) :
 Calls Tryz.prog 77 #[.agg #[.string k,.bool h,.string t,.int .i64 s,.slice la n c]] w fun e w'=>∃ u,e=.returned (.agg #[.string k,.bool h,.string t,.int .i64 s,u])∧ai w' w.heap.size u l∧Below w.heap.size w w':=by
 have hne:¬ w.heap.size+1=w.heap.size:=by omega
 have hne2:¬ w.heap.size=w.heap.size+1:=by omega
 have HL:=hid hl;have HM:=hid hm;have HS:=hid hs;have HW0:=hid (apW0 w k t h s (.slice la n c));clear hl hm hs;go_enter Tryz.func77,Tryz.ntmps77
 go_wp2;obtain ⟨u,hu⟩:∃ u,u=((w.alloc (.cells #[.string k,.bool h,.string t,.int .i64 s,.slice la n c] 100)).alloc (.cells #[.string ⟨#[]⟩,.bool false,.string ⟨#[]⟩,.int .i64 0,.slice none 0 0] 100)):=⟨_,rfl⟩;rw [←hu] at HW0 ⊢;have HW:Hid (ApW w u.drew k t h s (.slice la n c)):=hid (HW0.out.grown (dQ (aV _ none)) (fun g e=>by cases e));have k0:u.drew.cell? ⟨w.heap.size,0,none⟩=some (.string k)∧u.drew.cell? ⟨w.heap.size,2,none⟩=some (.string t):=⟨cell_of_row _ _ 0 _ _ _ HW.out.rowc,cell_of_row _ _ 2 _ _ _ HW.out.rowc⟩;clear hu HW0;go_region_held3 (fun w'=>w'.cell? ⟨w.heap.size,0,none⟩=some (.string k)∧w'.cell? ⟨w.heap.size,2,none⟩=some (.string t)) (first | exact k0 | exact k1 | exact k2 | exact k3 | exact k4 | fail) (first
  | (go_at_call 74;((with_reducible refine (ce k u.drew hk).mono ?_);rintro r w1 ⟨rfl,hb1⟩;have HW1:Hid (ApW w w1 k t h s (.slice la n c)):=hid (HW.out.grown (bU hb1) (fun g e=>by cases e));have k1:w1.cell? ⟨w.heap.size,0,none⟩=some (.string k)∧w1.cell? ⟨w.heap.size,2,none⟩=some (.string t):=⟨cell_of_row _ _ 0 _ _ _ HW1.out.rowc,cell_of_row _ _ 2 _ _ _ HW1.out.rowc⟩;clear hb1))
  | (go_at_call 74;((with_reducible refine (ce t u.drew ht).mono ?_);rintro r w1 ⟨rfl,hb1⟩;have HW1:Hid (ApW w w1 k t h s (.slice la n c)):=hid (HW.out.grown (bU hb1) (fun g e=>by cases e));have k1:w1.cell? ⟨w.heap.size,0,none⟩=some (.string k)∧w1.cell? ⟨w.heap.size,2,none⟩=some (.string t):=⟨cell_of_row _ _ 0 _ _ _ HW1.out.rowc,cell_of_row _ _ 2 _ _ _ HW1.out.rowc⟩;clear hb1))
  | (go_at_call 74;((with_reducible refine (ce k w1 hk).mono ?_);rintro r w2 ⟨rfl,hb2⟩;have HW2:Hid (ApW w w2 k t h s (.slice la n c)):=hid (HW1.out.grown (bU hb2) (fun g e=>by cases e));have k2:w2.cell? ⟨w.heap.size,0,none⟩=some (.string k)∧w2.cell? ⟨w.heap.size,2,none⟩=some (.string t):=⟨cell_of_row _ _ 0 _ _ _ HW2.out.rowc,cell_of_row _ _ 2 _ _ _ HW2.out.rowc⟩;have z0:=iI HW2.out 0;have z2:=iI HW2.out 2;have HW3:Hid (ApW w (w2.setCell ⟨w.heap.size,0,none⟩ (.string k)) k t h s (.slice la n c)):=hid (HW2.out.put rfl);have HW4:Hid (ApW w ((w2.setCell ⟨w.heap.size,0,none⟩ (.string k)).setCell ⟨w.heap.size,2,none⟩ (.string t)) k t h s (.slice la n c)):=hid (HW3.out.put rfl);have k3:(w2.setCell ⟨w.heap.size,0,none⟩ (.string k)).cell? ⟨w.heap.size,0,none⟩=some (.string k)∧(w2.setCell ⟨w.heap.size,0,none⟩ (.string k)).cell? ⟨w.heap.size,2,none⟩=some (.string t):=⟨cell_of_row _ _ 0 _ _ _ HW3.out.rowc,cell_of_row _ _ 2 _ _ _ HW3.out.rowc⟩;have k4:((w2.setCell ⟨w.heap.size,0,none⟩ (.string k)).setCell ⟨w.heap.size,2,none⟩ (.string t)).cell? ⟨w.heap.size,0,none⟩=some (.string k)∧((w2.setCell ⟨w.heap.size,0,none⟩ (.string k)).setCell ⟨w.heap.size,2,none⟩ (.string t)).cell? ⟨w.heap.size,2,none⟩=some (.string t):=⟨cell_of_row _ _ 0 _ _ _ HW4.out.rowc,cell_of_row _ _ 2 _ _ _ HW4.out.rowc⟩;clear hb2))
  | (go_at_call 74;((with_reducible refine (ce t w1 ht).mono ?_);rintro r w2 ⟨rfl,hb2⟩;have HW2:Hid (ApW w w2 k t h s (.slice la n c)):=hid (HW1.out.grown (bU hb2) (fun g e=>by cases e));have k2:w2.cell? ⟨w.heap.size,0,none⟩=some (.string k)∧w2.cell? ⟨w.heap.size,2,none⟩=some (.string t):=⟨cell_of_row _ _ 0 _ _ _ HW2.out.rowc,cell_of_row _ _ 2 _ _ _ HW2.out.rowc⟩;have z0:=iI HW2.out 0;have z2:=iI HW2.out 2;have HW3:Hid (ApW w (w2.setCell ⟨w.heap.size,0,none⟩ (.string k)) k t h s (.slice la n c)):=hid (HW2.out.put rfl);have HW4:Hid (ApW w ((w2.setCell ⟨w.heap.size,0,none⟩ (.string k)).setCell ⟨w.heap.size,2,none⟩ (.string t)) k t h s (.slice la n c)):=hid (HW3.out.put rfl);have k3:(w2.setCell ⟨w.heap.size,0,none⟩ (.string k)).cell? ⟨w.heap.size,0,none⟩=some (.string k)∧(w2.setCell ⟨w.heap.size,0,none⟩ (.string k)).cell? ⟨w.heap.size,2,none⟩=some (.string t):=⟨cell_of_row _ _ 0 _ _ _ HW3.out.rowc,cell_of_row _ _ 2 _ _ _ HW3.out.rowc⟩;have k4:((w2.setCell ⟨w.heap.size,0,none⟩ (.string k)).setCell ⟨w.heap.size,2,none⟩ (.string t)).cell? ⟨w.heap.size,0,none⟩=some (.string k)∧((w2.setCell ⟨w.heap.size,0,none⟩ (.string k)).setCell ⟨w.heap.size,2,none⟩ (.string t)).cell? ⟨w.heap.size,2,none⟩=some (.string t):=⟨cell_of_row _ _ 0 _ _ _ HW4.out.rowc,cell_of_row _ _ 2 _ _ _ HW4.out.rowc⟩;clear hb2)))
 all_goals
  obtain ⟨W,hW⟩:∃ W,W=(w2.setCell ⟨w.heap.size,0,none⟩ (.string k)).setCell ⟨w.heap.size,2,none⟩ (.string t):=⟨_,rfl⟩;rw [←hW] at HW4 ⊢;have d4:W.cell? ⟨w.heap.size,4,none⟩=some (.slice la n c):=cell_of_row _ _ 4 _ _ _ HW4.out.rowc;clear hW k0 k1 k2 k3 k4 z0 z2 HW3 HW2 HW1 HW;go_wp2_with (go_at_call 103;refine (xH (.slice la n c) l W (HL.out.below (qt HW4.out.gr)) HM.out).mono ?_;rintro r w5 ⟨u5,rfl,ho5,hb5⟩;obtain ⟨a5,c5,rfl⟩:=ho5.slice;have HW5:Hid (ApW w w5 k t h s (.slice la n c)):=hid (HW4.out.grown (bU hb5) (fun g e=>by cases e));have z4:=iI HW5.out 4;have d5:w5.cell? ⟨w.heap.size,4,none⟩=some (.slice la n c):=cell_of_row _ _ 4 _ _ _ HW5.out.rowc;have HO5:=hid (ai.mono ho5 HW4.out.sz);clear ho5 hb5)
  have HW6:Hid (ApW w (w5.setCell ⟨w.heap.size,4,none⟩ (.slice a5 l.length c5)) k t h s (.slice a5 l.length c5)):=hid (HW5.out.put rfl);have HO6:Hid (ai (w5.setCell ⟨w.heap.size,4,none⟩ (.slice a5 l.length c5)) (w.heap.size+2) (.slice a5 l.length c5) l):=hid (HO5.out.setC _ (fun e=>by have:=(HO5.out.lt _ e).1;omega));obtain ⟨w6,hw6⟩:∃ w6,w6=w5.setCell ⟨w.heap.size,4,none⟩ (.slice a5 l.length c5):=⟨_,rfl⟩;rw [←hw6] at HW6 HO6 ⊢;clear hw6 HW5 HO5 z4 d5 HW4 d4;obtain ⟨q,hq⟩:∃ q,q=l.length:=⟨_,rfl⟩;have hq2:q≤1000000:=by rw [hq];exact HM.out
  rw [←hq] at HW6 HO6 ⊢;have HQ:=hid hq;clear hq
  go_loopw [20] (fun i wr=>∃ j:Nat,j≤q∧i=.int .i64 j∧ApW w wr k t h s (.slice a5 q c5)∧ai wr (w.heap.size+2) (.slice a5 q c5) l) (fun i _=>q-(intOf i).toNat)
  case atStart=>exact ⟨0,by omega,rfl,HW6.out,HO6.out⟩
  case round =>
   obtain ⟨j,hj,rfl,hwr,hor⟩:=hrel;have HWR:Hid (ApW w wr.drew k t h s (.slice a5 q c5)):=hid (hwr.grown (dQ (aV _ none)) (fun g e=>by cases e));have HWE:=hid hwr;have HOR:=hid hor;clear hwr hor;by_cases hlt:j<q
   ·have b1:decide ((j:Int)<(q:Int))=true:=by simpa using hlt
    obtain ⟨x, hx⟩ : ∃ x, l[j]? = some x := ⟨l[j]'(by rw [← HQ.out]; exact hlt), List.getElem?_eq_getElem _⟩;obtain ⟨g,rfl,hg⟩:=HOR.out.at (by rw [←HQ.out];omega);obtain ⟨_,e1,_,_⟩:=HOR.out.again hx;have HX:=hid hx;have hxs:x.size≤140737488351232:=HS.out x (List.mem_of_getElem? hx);have k5:wr.drew.cell? ⟨w.heap.size,4,none⟩=some (.slice (some ⟨g,0,none⟩) q c5):=cell_of_row _ _ 4 _ _ _ HWR.out.rowc;clear hx;have HK:Hid (ApW w wr.drew k t h s (.slice (some ⟨g,0,none⟩) q c5)∧ai wr.drew (w.heap.size+2) (.slice (some ⟨g,0,none⟩) q c5) l):=hid ⟨HWR.out,HOR.out.drew⟩;clear HWR;go_wp2;go_region_held3 (fun w'=>w'.cell? ⟨w.heap.size,4,none⟩=some (.slice (some ⟨g,0,none⟩) q c5)) (first | exact k5 | exact k6 | exact k7 | fail) (first
     | (go_at_call 74;((with_reducible refine (ce x wr.drew hxs).mono ?_);rintro r w7 ⟨rfl,hb7⟩;have HW7:Hid (ApW w w7 k t h s (.slice (some ⟨g,0,none⟩) q c5)):=hid (HK.out.1.grown (bU hb7) (fun g e=>by cases e));have k6:w7.cell? ⟨w.heap.size,4,none⟩=some (.slice (some ⟨g,0,none⟩) q c5):=cell_of_row _ _ 4 _ _ _ HW7.out.rowc;obtain ⟨ho7,e7,f7,hg7⟩:=(HK.out.2.below hb7).again HX.out;have HO7:=hid ho7;have HW8:Hid (ApW w (w7.setCell ⟨g,j,none⟩ (.string x)) k t h s (.slice (some ⟨g,0,none⟩) q c5)):=hid (xZ HW7.out hg7);have k7:(w7.setCell ⟨g,j,none⟩ (.string x)).cell? ⟨w.heap.size,4,none⟩=some (.slice (some ⟨g,0,none⟩) q c5):=cell_of_row _ _ 4 _ _ _ HW8.out.rowc;clear hb7 ho7)))
    go_wp2;go_roundw
    ·exact ⟨j+1,by omega,by simp,HW8.out,HO7.out⟩
    ·simp [intOf];omega
   ·have b1:decide ((j:Int)<(q:Int))=false:=by simp;omega
    obtain rfl:j=q:=by omega
    obtain ⟨p0,p1,p2,p3,p4,_⟩:=row5 HWE.out.rowc;obtain ⟨q0,q1,q2,q3,q4,g0,g1,g2,g3,g4⟩:=row5 HWE.out.rowr;clear HWR;go_wp2;exact xY HWE.out (ai.mono HOR.out (by omega)) (fun B e=>(HOR.out.lt B e).1) rfl rfl _ rfl
end
section
def minV (a b:List Ent):List Ent:=a.filterMap fun e=>if 0<min e.time (ofF b e.rep) then some ⟨e.rep,min e.time (ofF b e.rep)⟩ else none
theorem Ch {a b:List Ent} {k:Nat} {e:Ent} (h:a[k]? = some e):minV (a.take (k+1)) b=minV (a.take k) b++(if 0<min e.time (ofF b e.rep) then [⟨e.rep,min e.time (ofF b e.rep)⟩] else []):=by
 have h1:a.take (k+1)=a.take k++[e]:=by
  obtain ⟨hl,he⟩:=List.getElem?_eq_some_iff.1 h;rw [List.take_add_one,h];rfl
 unfold minV;rw [h1,List.filterMap_append]
 congr 1
 rw [List.filterMap_cons,List.filterMap_nil];split <;> split <;> simp_all
theorem Cf {a b:List Ent}:∀ {last:Int},okV last a→okV last (minV a b):=by
 induction a with
 | nil=>intro last _;exact trivial
 | cons e r ih =>
  intro last h;have h0:=bc h e (by simp);have hr:okV e.rep (minV r b):=ih h.2;unfold minV at hr ⊢;rw [List.filterMap_cons];split
  ·exact CN hr (by omega)
  ·rename_i d hd;split at hd
   ·rename_i hm;obtain rfl:=Option.some.inj hd;refine ⟨?_,hr⟩;unfold wrE;have:min e.time (ofF b e.rep)≤e.time:=by omega
    dsimp only
    rw [if_neg (by omega),if_neg (by omega)]
   ·cases hd
theorem oD (a b:List Ent):(minV a b).length≤a.length:=List.length_filterMap_le _ _
theorem Ce {a b:List Ent} {z:Int} (hb:okV z b):∀ {last:Int},okV last a→∀ r,ofF (minV a b) r=min (ofF a r) (ofF b r):=by
 induction a with
 | nil=>intro last _ r;have:=(bR hb r).1;show (0:Int)=min 0 (ofF b r);omega
 | cons e r ih =>
  intro last h x;have h0:=bc h e (by simp);have hb0:=(bR hb e.rep).1;have hr:=ih h.2 x;unfold minV at hr ⊢;rw [List.filterMap_cons];by_cases hx:e.rep=x
  ·subst hx;rw [cW rfl];split
   ·rename_i hd;rw [hr,ia h.2 (Int.le_refl _)];split at hd
    ·cases hd
    ·have:=(bR hb e.rep).1;omega
   ·rename_i d hd;split at hd
    ·obtain rfl:=Option.some.inj hd;rw [cW rfl]
    ·cases hd
  ·rw [dr hx];split
   ·exact hr
   ·rename_i d hd;split at hd
    ·obtain rfl:=Option.some.inj hd;exact (dr (e:=⟨e.rep,min e.time (ofF b e.rep)⟩) hx).trans hr
    ·cases hd
theorem Cg {s t:LogS} (hs:aH s):az (minV s.hv t.hv):=⟨Nat.le_trans (oD _ _) hs.hv.1,Cf hs.hv.2⟩
theorem Cc {U:List Wr} {L:List LogS} (h:b7 U L) (hU:U.length≤60) (hL:L.length≤16) {i j:Nat} {s t:LogS} (hi:L[i]? = some s) (hj:L[j]? = some t) :
 bj s (minV s.hv t.hv)=0∧ay s (minV s.hv t.hv)=s.hv∧aZ (minV s.hv t.hv) s.hv (ak s (minV s.hv t.hv))∧(accE t (minV s.hv t.hv) s.hv (ak s (minV s.hv t.hv))).1=0 ∧
  b7 U (L.set j (accS t s.hv (ak s (minV s.hv t.hv))))∧(∀ r,ofF (accS t s.hv (ak s (minV s.hv t.hv))).hv r=max (ofF t.hv r) (ofF s.hv r)):=by
 have hs:=cV hi;have ht:=cV hj;have ks:=h.ok s hs;have kt:=h.ok t ht;have hf:=Cg (t:=t) ks;have ho:=fun r=>Ce (b:=t.hv) kt.hv.2 ks.hv.2 r
 have hcs:covB s.hv (minV s.hv t.hv)=true:=(dp ks.hv hf).2 (fun r=>by rw [ho];omega);have hct:covB t.hv (minV s.hv t.hv)=true:=(dp kt.hv hf).2 (fun r=>by rw [ho];omega);have hE:bj s (minV s.hv t.hv)=0:=by
  unfold bj;rw [if_neg (by rw [(br _).2 hf];simp),if_neg (by rw [hcs];simp)]
 have hH:=(uD (minV s.hv t.hv) (Nat.le_trans (ug h hs) hU)).2;have hso:=jP ks hf hcs;rw [hH] at hso;have hb:=uE h hs hf hso;have hjn:(aQ t.hv s.hv).1=0:=by
  have hnd:∀ {l:List Ent} {a:Int},okV a l→(l.map (·.rep)).Nodup:=by
   intro l
   induction l with
   | nil=>intro a _;exact List.nodup_nil
   | cons e r ih =>
    intro a h;rw [List.map_cons,List.nodup_cons];refine ⟨fun hm=>?_,ih h.2⟩;obtain ⟨d,hd,he⟩:=List.mem_map.1 hm;have:=bc h.2 d hd;omega
  have hok:=jk kt.hv.2 ks.hv.2;have hlen:(cL t.hv s.hv).length≤L.length:=by
   have h5:=(hnd hok).length_le_of_subset (l₂:=(List.range L.length).map fun i:Nat=>(i:Int)) (fun r hr=>by
    obtain ⟨e,he,rfl⟩:=List.mem_map.1 hr;have h1:=jA hok he;have h2:=bc hok e he;rw [jj kt.hv.2 ks.hv.2] at h1;have h3:¬ (e.rep<0∨(L.length:Int)≤e.rep):=fun hn=>by
     have g1:=h.out s hs e.rep hn;have g2:=h.out t ht e.rep hn;omega
    exact List.mem_map.2 ⟨e.rep.toNat,List.mem_range.2 (by omega),by omega⟩)
   simpa using h5
  rw [gZ ((br _).2 kt.hv) ((br _).2 ks.hv) (by omega)]
 have hfr:t.ws.length+(aP t.ws (ak s (minV s.hv t.hv))).length≤U.length:=by
  have hn:(t.ws++aP t.ws (ak s (minV s.hv t.hv))).Nodup:=by
   rw [List.nodup_append];refine ⟨kt.srt.imp (fun {a b} h (e:a=b)=>db h (by rw [e])),(hso.srt.filter _).imp (fun {a b} h (e:a=b)=>db h (by rw [e])),?_⟩;intro x hx y hy e;subst e;exact (eQ.1 hy).2 x hx rfl
  have:=hn.length_le_of_subset (l₂:=U) (fun x hx=>by
   rcases List.mem_append.1 hx with hx | hx
   ·exact ((h.ws t ht x).1 hx).1
   ·exact ((hb.mem x).1 (eQ.1 hx).1).1)
  rwa [List.length_append] at this
 have ha:(accE t (minV s.hv t.hv) s.hv (ak s (minV s.hv t.hv))).1=0:=by rw [Ft h ht hb hct hjn,if_neg (by omega)]
 obtain ⟨g1,g2⟩:=DK h hs hj hb (fun _=>Int.le_refl _) (fun r=>by rw [ho];omega) ha;exact ⟨hE,hH,hb.right,ha,g1,g2⟩
end
section
structure Ring (U:List Wr) (L:List LogS) (T:Nat→Int):Prop where
 p:b7 U L
 own:∀ (i:Nat) s,L[i]? = some s→ofF s.hv i=T i
theorem Ei {U:List Wr} {L:List LogS} (h:b7 U L):∃ T,Ring U L T :=
 ⟨fun i=>match L[i]? with | some s=>ofF s.hv i | none=>0,h,fun i s hi=>by simp only [hi]⟩
theorem Ring.le {U:List Wr} {L:List LogS} {T:Nat→Int} (h:Ring U L T) {s:LogS} (hs:s∈L) {k:Nat} (hk:k<L.length):ofF s.hv k≤T k:=by
 rw [←h.own k L[k] (List.getElem?_eq_getElem hk)];exact h.p.cov k L[k] (List.getElem?_eq_getElem hk) s hs
theorem Ring.step {U:List Wr} {L:List LogS} {T:Nat→Int} (h:Ring U L T) {j:Nat} {s t t':LogS} (hs:s∈L) (hj:L[j]? = some t) (hp:b7 U (L.set j t')) (hm:∀ r,ofF t'.hv r=max (ofF t.hv r) (ofF s.hv r)):Ring U (L.set j t') T:=by
 refine ⟨hp,fun i u hu=>?_⟩;rcases cX hu with ⟨rfl,rfl⟩ | ⟨_,hu⟩
 ·rw [hm,h.own i t hj];have:=h.le hs (List.getElem?_eq_some_iff.1 hj).1;omega
 ·exact h.own i u hu
def full (n:Nat) (T:Nat→Int) (s:LogS):Prop:=∀ k,k<n→ofF s.hv k=T k
theorem Ab {U:List Wr} {L:List LogS} {T:Nat→Int} (h:Ring U L T) {s t:LogS} (hs:s∈L) (ht:t∈L) (fs:full L.length T s) (ft:full L.length T t):s.hv=t.hv∧s.ws=t.ws:=by
 have e:s.hv=t.hv:=sA (h.p.ok s hs) (h.p.ok t ht) (fun r=>by
  by_cases hr:r<0∨(L.length:Int)≤r
  ·rw [h.p.out s hs r hr,h.p.out t ht r hr]
  ·have h1:=fs r.toNat (by omega);have h2:=ft r.toNat (by omega);rw [show ((r.toNat:Nat):Int)=r by omega] at h1 h2;rw [h1,h2])
 exact ⟨e,ui h.p hs ht e⟩
def LapA (L:List LogS) (T:Nat→Int) (i:Nat):Prop:=∀ s,L[i % L.length]? = some s→∀ k,k<L.length→k≤i→ofF s.hv k=T k
def LapB (L:List LogS) (T:Nat→Int) (i:Nat):Prop:=∀ j,j≤i→∀ s,L[j]? = some s→full L.length T s
theorem Bj {U:List Wr} {L:List LogS} {T:Nat→Int} (h:Ring U L T):LapA L T 0:=fun s hs k _ hk=>by
 obtain rfl:k=0:=by omega
 rw [Nat.zero_mod] at hs;exact h.own 0 s hs
theorem Bk {U:List Wr} {L:List LogS} {T:Nat→Int} (h:Ring U L T) {i:Nat} (hi:i<L.length) (hA:LapA L T i) {s t t':LogS} (hs:L[i]? = some s) (hj:L[(i+1) % L.length]? = some t) (hm:∀ r,ofF t'.hv r=max (ofF t.hv r) (ofF s.hv r)) :
 LapA (L.set ((i+1) % L.length) t') T (i+1):=by
 intro u hu k hk hki;rw [List.length_set] at hu hk;have hjl:=(List.getElem?_eq_some_iff.1 hj).1;rw [List.getElem?_set_self hjl] at hu;obtain rfl:=Option.some.inj hu;have h1:=h.le (cV hj) hk;have h2:=h.le (cV hs) hk;by_cases e:k=i+1
 ·subst e;rw [Nat.mod_eq_of_lt hk] at hj;have:=h.own (i+1) t hj;rw [hm];omega
 ·have:=hA s (by rw [Nat.mod_eq_of_lt hi];exact hs) k hk (by omega);rw [hm];omega
theorem Bl {L:List LogS} {T:Nat→Int} (hA:LapA L T L.length):LapB L T 0:=fun j hj s hs k hk=>by
 obtain rfl:j=0:=by omega
 exact hA s (by rw [Nat.mod_self];exact hs) k hk (by omega)
theorem Bm {U:List Wr} {L:List LogS} {T:Nat→Int} (h:Ring U L T) {i:Nat} (hB:LapB L T i) {s t t':LogS} (hs:L[i]? = some s) (hj:L[(i+1) % L.length]? = some t) (hm:∀ r,ofF t'.hv r=max (ofF t.hv r) (ofF s.hv r)) :
 LapB (L.set ((i+1) % L.length) t') T (i+1):=by
 intro j hji u hu k hk;rw [List.length_set] at hk;have h1:=h.le (cV hj) hk;have hfs:=hB i (Nat.le_refl _) s hs k hk;rcases cX hu with ⟨_,rfl⟩ | ⟨hne,hu⟩
 ·rw [hm];omega
 ·by_cases e:j=i+1
  ·subst e;have:=(List.getElem?_eq_some_iff.1 hu).1;rw [Nat.mod_eq_of_lt this] at hne;exact absurd rfl hne
  ·exact hB j (by omega) u hu k hk
end
section
open Go.RowKit Go.Maps
theorem sR:∀ key kl,keyOf Tryz.prog 9 key=some kl→∃ x:ByteArray,key=.string x:=fun key kl h=>by
 obtain ⟨x,hx,_⟩:=Maps.keyOf_str Tryz.underlying9 h;exact ⟨⟨x.toArray⟩,hx⟩
theorem qT:∀ v y,cE v=some y→∃ c:CV,v=cvV c:=fun v y h=>by obtain ⟨c,h1,_⟩:=iR h;exact ⟨c,h1⟩
theorem sS {x:ByteArray} {kl:Lit} (h:keyOf Tryz.prog 9 (.string x)=some kl):x.size≤maxLen∧kl=keyL x:=by
 obtain ⟨y,hy,hk,hs⟩:=Maps.keyOf_str Tryz.underlying9 h;have e:x=⟨y.toArray⟩:=Value.string.inj hy;subst e;exact ⟨by simpa [ByteArray.size] using hs,by rw [hk];simp [keyL]⟩
structure kv (w wr:World) (R P M m:Nat) (D:DataW Value) (G:ByteArray→Cel) (L:ByteArray→Value) (left:Lit→Bool) (cnt:Nat) (ks:List ByteArray) (zs:List CV) (v:Value):Prop where
 rng:wr.ranges Tryz.prog 9 cE M w.heap.size m D left cnt
 nodup:ks.Nodup
 mem:∀ k,k∈ks↔live (G k)=true∧left (keyL k)=false
 lsub:∀ k,left (keyL k)=true→live (G k)=true
 own:bI wr (w.heap.size+1) v zs
 rows:bZ wr (w.heap.size+1) G ks zs
 bel:Below w.heap.size w wr
 cnt:ks.length+cnt≤m
 sz:w.heap.size+1≤wr.heap.size
theorem fG {B:Nat} {a w w':World} (h:Below B a w) {o:Option Nat} (hg:w.grownBy w' o) (hB:B+1≤w.heap.size) (ho:∀ g,o=some g→B≤g):Below B a w' :=
 ⟨hg.os.trans h.os,hg.tape.trans h.tape,hg.output.trans h.output,Nat.le_trans h.size hg.size,fun k hk=>(hg.block k (by omega) (fun e=>by have:=ho k e.symm;omega)).trans (h.block k hk)⟩
theorem bI.shape {w:World} {base:Nat} {v:Value} {l:List CV} (h:bI w base v l):(v=.slice none 0 0∧l=[])∨∃ g cap,v=.slice (some ⟨g,0,none⟩) l.length cap∧base≤g:=by
 rcases h.2 with ⟨e,h0⟩ | ⟨g,cap,_,e,hb,_⟩
 ·exact .inl ⟨e,List.length_eq_zero_iff.1 h0⟩
 ·exact .inr ⟨g,cap,e,hb⟩
theorem lQ {wr:World} {base:Nat} {v:Value} {l:List CV} (h:bI wr base v l) {b:Nat} (hb:b<base):some b≠v.ownBlock:=fun e=>by have:=(h.lt b e.symm).1;omega
theorem bZ.off {w w':World} {base b:Nat} {G:ByteArray→Cel} {ks:List ByteArray} {zs:List CV} (h:bZ w base G ks zs) (hg:w.grownBy w' (some b)) (hb:b<base):bZ w' base G ks zs :=
 ⟨h.1,fun c hc=>by
  obtain ⟨h1,h2,h3,h4⟩:=h.2 c hc;exact ⟨h1,h2,h3,World.ownsRow.kept h4 hg (by
   cases e:c.list.ownBlock with
   | none=>exact .inl rfl
   | some g=>exact .inr (fun e2=>by have:=(h4.lt g e).1;have e3:g=b:=Option.some.inj e2;omega))⟩⟩
theorem kU {w wr w1 w3:World} {v:Value} {zs:List CV} {o:Obj} {o2:Obj} (h:bI wr (w.heap.size+1) v zs) (hg:wr.grownBy w1 (some w.heap.size)) (hb:Below (w1.alloc o).heap.size (w1.alloc o) w3):bI (w3.alloc o2) (w.heap.size+1) v zs :=
 (bI.below (w:=w1.alloc o) (bI.alloc (World.ownsRow.kept h hg (by
  cases e:v.ownBlock with
  | none=>exact .inl rfl
  | some g=>exact .inr (fun e2=>by have:=(h.lt g e).1;have e3:g=w.heap.size:=Option.some.inj e2;omega))) o) hb).alloc o2
theorem za (w:World) (R P M m:Nat) (D:DataW Value) (G:ByteArray→Cel) (L:ByteArray→Value) (h:cd w R P M m D G L) (hm:m≤100000) (hkb:∀ k,live (G k)=true→k.size≤140737488351232) :
 Calls Tryz.prog 57 #[.pointer (some ⟨P,0,none⟩)] w fun e w'=>∃ v z,e=.returned v∧fi G z∧bS w' v z∧Below w.heap.size w w':=by
 have HW:=hid h;have HM:=hid hm;have HKB:=hid hkb;have p0:w.cell? ⟨P,0,none⟩=some (.map (some M)):=cell_of_row _ _ 0 _ _ _ h.row;clear h hm hkb;go_enter Tryz.func57,Tryz.ntmps57
 go_wp2_with (first | (at_range;refine wpList_range_own _ rfl _ 121 rfl 9 100 eU Tryz.underlying121 cE M m D rfl HW.out.map ?_;intro w0 hrg0 hg0 hs0) | go_in)
 go_frame
 have HC0:Hid (kv w w0 R P M m D G L (Maps.has D) (Maps.size D) [] [] (.slice none 0 0)):=hid ⟨hrg0,List.nodup_nil,fun k=>by
  rw [HW.out.sto.has k];simp,fun k hk=>by rw [HW.out.sto.has k] at hk;exact hk,uc _ _,⟨rfl,fun c hc=>by cases hc⟩,⟨hg0.os,hg0.tape,hg0.output,hg0.size,fun k hk=>hg0.block k hk (by simp)⟩,by
  have:=HW.out.map.size_le;simpa using this,by omega⟩
 clear hrg0 hg0 hs0 p0
 go_loopw [3] (fun v wr=>∃ left cnt ks zs,kv w wr R P M m D G L left cnt ks zs v) (fun _ wr=>wr.rangeLeft M w.heap.size)
 case atStart=>exact ⟨_,_,_,_,HC0.out⟩
 case round =>
  obtain ⟨left,cnt,ks,zs,hc⟩:=hrel;have HC:=hid hc;clear hc HC0;go_wp2_with (first | (at_next;refine wpList_next_ranges _ rfl _ rfl 9 eU cE Value.string cvV sR qT M w.heap.size m D left cnt rfl HC.out.rng ?_ ?_) | go_in)
  ·intro hc0 hl0;have hmem:∀ k,k∈ks↔live (G k)=true:=fun k=>by rw [HC.out.mem k];simp [hl0]
   have HMEM:=hid hmem;clear hc0 hl0 hmem;rcases HC.out.own.shape with ⟨rfl,hz⟩ | ⟨g,cap,rfl,hgb⟩
   ·have hk:ks=[]:=by rw [←HC.out.rows.1,hz];rfl
    have HK:=hid hk;clear hz hk;go_wp2_with (go_at_call 78;refine (uL _ _).mono ?_;rintro e w1 ⟨rfl,rfl⟩)
    go_ret;obtain ⟨z,h1,h2⟩:=bZ.cells (ks':=ks) (v:=.slice none 0 0) HC.out.rows HC.out.nodup (List.Perm.refl _) (by rw [HK.out];exact List.Pairwise.nil) HMEM.out (by rw [HK.out];exact dj.nil _);exact ⟨_,z,rfl,h1,h2,HC.out.bel⟩
   ·have hkl:zs.length=ks.length:=by rw [←HC.out.rows.1,List.length_map]
    have hkz:ks.map (cQ zs)=zs:=by rw [←HC.out.rows.1];exact qP (by rw [HC.out.rows.1];exact HC.out.nodup)
    have HKZ:Hid (bI wr (w.heap.size+1) (.slice (some ⟨g,0,none⟩) ks.length cap) (ks.map (cQ zs))):=hid (by rw [hkz,←hkl];exact HC.out.own);have HKN:Hid (ks.length≤1000000):=hid (by have:=HC.out.cnt;have:=HM.out;omega);have HOW:=hid HC.out.own;have HROW:=hid HC.out.rows;have HND:=hid HC.out.nodup;have HBE:=hid HC.out.bel;have HSZ:=hid HC.out.sz;have HGB:=hid hgb;rw [hkl] at HOW ⊢;clear hkl hkz HC hgb;go_wp2_with (go_at_call 78;refine (uK 79 qX qY (cQ zs) (qQ zs) (qS HROW.out) ks g cap (w.heap.size+1) _ HKZ.out HKN.out).mono ?_;rintro e w1 ⟨rfl,ks',hp,hs,hv,hg1⟩;have HX:Hid (ks'.Perm ks∧ks'.Pairwise (fun a b=>leB a b=true)∧dj w1 (.slice (some ⟨g,0,none⟩) ks.length cap) (ks'.map (cQ zs))∧wr.grownBy w1 (some g)):=hid ⟨hp,hs,hv,hg1⟩;clear hp hs hv hg1)
    go_ret;obtain ⟨hp,hs,hv,hg1⟩:=HX.out;obtain ⟨z,h1,h2⟩:=bZ.cells (HROW.out.kept HOW.out hg1) HND.out hp hs HMEM.out hv;exact ⟨_,z,rfl,h1,h2,fG HBE.out hg1 HSZ.out (fun b e=>by cases e;have:=HGB.out;omega)⟩
  ·intro x c kl yd yp w1 cnt1 hkey hlk hv hat hrg1 hlt hg1 hs1 hen;obtain ⟨hxs,rfl⟩:=sS hkey;obtain ⟨c',e,hy⟩:=iR hv;obtain rfl:=iV e;simp only [Prod.mk.injEq] at hy
   obtain ⟨rfl,rfl⟩:=hy;obtain ⟨hl,rfl⟩:=HW.out.sto.entry hat;obtain ⟨a,cc,hLx⟩:=(HW.out.own x hl).slice;rw [hLx] at hen;have hb1:Below w.heap.size w w1:=fG HC.out.bel hg1 HC.out.sz (fun b e=>by cases e;exact Nat.le_refl _);have hen2:(Instr.entry (.pointer (some ⟨w.heap.size,0,none⟩))).run Tryz.prog w1=.ok (.tuple #[.string x,.agg #[.string x,.bool (G x).has,.string (G x).text,.int .i64 (G x).sum,.slice a (G x).list.length cc]]) w1:=hen;have HLX:Hid (bg w (.slice a (G x).list.length cc) (G x).list):=hid (by rw [←hLx];exact (HW.out.own x hl).isTexts);obtain ⟨t,ht⟩:∃ t,t=(G x).text:=⟨_,rfl⟩;obtain ⟨hh,hhh⟩:∃ hh,hh=(G x).has:=⟨_,rfl⟩;obtain ⟨sm,hsm⟩:∃ sm,sm=(G x).sum:=⟨_,rfl⟩;obtain ⟨ll,hll⟩:∃ ll,ll=(G x).list:=⟨_,rfl⟩;obtain ⟨n,hn⟩:∃ n,n=(G x).list.length:=⟨_,rfl⟩;have htx:t.size≤140737488351232:=by rw [ht];exact (HW.out.text x).1
   have htl:∀ q∈ll,q.size≤140737488351232:=by rw [hll];exact (HW.out.text x).2
   have hlm:ll.length≤1000000:=by rw [hll];have:=HW.out.len x;have:=HM.out;omega
   have HEQ:Hid (t=(G x).text∧hh=(G x).has∧sm=(G x).sum∧ll=(G x).list):=hid ⟨ht,hhh,hsm,hll⟩;rw [←ht,←hhh,←hsm,←hn] at hen2;rw [←hn,←hll] at HLX;have HTL:=hid htl;have HB1:=hid hb1;have HG1:=hid hg1;have HRG1:=hid hrg1;have HLT:=hid hlt;have HLK:=hid hlk;have HL:=hid hl;have HS1:=hid hs1;have hxs2:x.size≤140737488351232:=HKB.out x HL.out;clear htl hb1 hg1 hrg1 hlt hlk hl hs1 hen hat hv hkey e hLx ht hhh hsm hll hn;go_wp2_with fail
   refine (qh x t hh sm a n cc ll _ hxs2 htx (HLX.out.below (HB1.out.alloc HB1.out.size _)) hlm HTL.out).mono ?_;rintro r w3 ⟨u,rfl,ho3,hb3⟩;obtain ⟨au,cu,rfl⟩:=ho3.slice;have HO3:=hid ho3;have HB3:=hid hb3;clear ho3 hb3;go_wp2_with (first
    | (at_builtin;refine wW rfl _ _ rfl (w.heap.size+1) u3 zs rfl (kU HC.out.own HG1.out HB3.out) w3.heap.size 1 rfl ⟨x,hh,t,sm,.slice au ll.length cu⟩ rfl (MapKept.heap_alloc w3 _).1 (by have:=HC.out.cnt;have:=HC.out.rows.1;have:=HM.out;have h9:=congrArg List.length HC.out.rows.1;rw [List.length_map] at h9;omega) (by have:=HB3.out.size;simp at this ⊢;have:=HS1.out;have:=HC.out.sz;omega) ?_;intro g cap w5 ho5 hg5;have HO5:=hid ho5;have HG5:=hid hg5;clear ho5 hg5))
   obtain ⟨rfl,rfl,rfl,rfl⟩:=HEQ.out;have gA:w1.grownBy (w3.alloc (.cells #[.string x,.bool (G x).has,.string (G x).text,.int .i64 (G x).sum,.slice au (G x).list.length cu] 100)) none:=bB (cz (bB (aV _ none) _) (bU HB3.out)) _;have hco:=kU (o2:=.cells #[.string x,.bool (G x).has,.string (G x).text,.int .i64 (G x).sum,.slice au (G x).list.length cu] 100) HC.out.own HG1.out HB3.out;have hMw:M<w.heap.size:=Nat.lt_of_lt_of_le HW.out.mr HW.out.rw';have hr5:=(HRG1.out.kept gA (by simp) (by simp)).kept HG5.out (lQ HC.out.own (by omega)) (lQ HC.out.own (by omega));refine ⟨⟨_,cnt1,ks++[x],_,⟨hr5,?_,fun k=>?_,fun k hk=>?_,HO5.out,?_,?_,?_,?_⟩⟩,?_⟩
   ·rw [List.nodup_append];refine ⟨HC.out.nodup,by simp,fun a ha b hb=>?_⟩;obtain rfl:=List.mem_singleton.1 hb;rintro rfl;have:=((HC.out.mem a).1 ha).2;rw [HLK.out] at this;cases this
   ·rw [List.mem_append,HC.out.mem k,List.mem_singleton];by_cases e:k=x
    ·subst e;have hsk:(keyL k).sameKey (keyL k)=true:=by simp [keyL,Lit.sameKey]
     simp [hsk,HL.out]
    ·have hsk:(keyL k).sameKey (keyL x)=false:=Maps.sameKey_ne (fun e2=>e (eo e2));simp [hsk,e]
   ·simp only [Bool.and_eq_true] at hk
    exact HC.out.lsub k hk.1
   ·refine (((HC.out.rows.off HG1.out (Nat.lt_succ_self _)).grown gA).add (ai.mono (HO3.out.alloc _) ?_)).kept hco HG5.out;have:=HB1.out.size;simp;omega
   ·refine fG (fG HB1.out gA (by have:=HS1.out;have:=HC.out.sz;omega) (fun g e=>by cases e)) HG5.out ?_ (fun g e=>by have:=(HC.out.own.lt g e).1;omega);have:=gA.size;have:=HS1.out;have:=HC.out.sz;omega
   ·have:=HC.out.cnt;have:=HLT.out;rw [List.length_append];simp;omega
   ·have:=gA.size;have:=HG5.out.size;have:=HS1.out;have:=HC.out.sz;omega
   ·rw [hr5.left_eq,HC.out.rng.left_eq];exact HLT.out
end
section
open Go.RowKit Go.Extern.Stop Go.Stop Go.Extern
theorem yc (e:Int) (b off:Nat) (t:Addr) (old:Value) (w:World) (hg:errT w) (ht0:w.cell? t=some old) (hf0:w.frozen? t=false) (hp:w.cell? ⟨b,off,none⟩=some (.int .i64 e)) :
 Calls Tryz.prog 60 #[.iface 84 (.pointer (some ⟨b,off,none⟩)),.iface 107 (.pointer (some t))] w fun ev w'=>ev=.returned (.bool true)∧((eI w t).alloc (.cells #[.int .i64 e] 68)).setCell t (.int .i64 e)=w':=by
 unfold eI;unfold errT at hg;have h6:=@run_callFunc_extern Tryz.prog 81 _ (fun args=>ReflectliteValue.unpack (args.getD 0 (.tuple #[]))) Tryz.func81 (by kernel_rfl) (by kernel_rfl) (by kernel_rfl) (by kernel_rfl)
 have h7 := @run_callFunc_extern Tryz.prog 82 _ (ReflectliteValue.methodAny (ReflectliteValue.valueError "reflectlite.Value.Type" 0) (fun t _ _ _ => ReflectliteType.toType t)) Tryz.func82 (by kernel_rfl) (by kernel_rfl) (by kernel_rfl) (by kernel_rfl)
 have h8 := @run_callFunc_extern Tryz.prog 83 _ (ReflectliteValue.method (ReflectliteValue.valueError "reflectlite.Value.IsNil" 0) ReflectliteValue.isNil) Tryz.func83 (by kernel_rfl) (by kernel_rfl) (by kernel_rfl) (by kernel_rfl)
 have h27:=@run_callFunc_extern Tryz.prog 237 _ (ReflectliteType.abiMethod fun t=>do pure (.int .u8 (←Rtype.kind t))) Tryz.func237 (by kernel_rfl) (by kernel_rfl) (by kernel_rfl) (by kernel_rfl);have h37:=@run_callFunc_extern Tryz.prog 250 _ (ReflectliteType.method ReflectliteType.elem) Tryz.func250 (by kernel_rfl) (by kernel_rfl) (by kernel_rfl) (by kernel_rfl)
 have h38 := @run_callFunc_extern Tryz.prog 251 _ (ReflectliteType.relation "Implements" ReflectliteType.implements_) Tryz.func251 (by kernel_rfl) (by kernel_rfl) (by kernel_rfl) (by kernel_rfl)
 have h10:=@run_callFunc_extern Tryz.prog 107 _ ReflectliteType.typeOf Tryz.func107 (by kernel_rfl) (by kernel_rfl) (by kernel_rfl) (by kernel_rfl)
 have h35 := @run_callFunc_extern Tryz.prog 248 _ (ReflectliteType.relation "AssignableTo" ReflectliteType.assignableTo) Tryz.func248 (by kernel_rfl) (by kernel_rfl) (by kernel_rfl) (by kernel_rfl)
 have h11 := @run_callFunc_extern Tryz.prog 108 _ (ReflectliteValue.method (ReflectliteValue.valueError "reflectlite.Value.Elem" 0) ReflectliteValue.elem) Tryz.func108 (by kernel_rfl) (by kernel_rfl) (by kernel_rfl) (by kernel_rfl)
 have h12:=@run_callFunc_extern Tryz.prog 109 _ ReflectliteValue.set Tryz.func109 (by kernel_rfl) (by kernel_rfl) (by kernel_rfl) (by kernel_rfl);have tO:=As.typeOfE;have mA:=As.methodAssignableTo;have aE:=As.assignableE;have vE:=As.valueOfE;have f6:=As.valueOfP;have f7:=As.typeP;have mK:=As.methodKind;have mE:=As.methodElem;have mI:=As.methodImplements;have kP:=As.kindP;have kE:=As.kindE;have eP:=As.elemP;have iE:=As.implementsE;have tA:=As.typeOfA;have nA:=As.noAsA;have uA:=As.unwrapA;have aA:=As.assignableA;have hbl:b<w.heap.size:=aK hp;have hp3:(((w.alloc (.cells #[.pointer (some t)] 107)).alloc (.cells #[.pointer (some ⟨2,107,none⟩),.pointer (some ⟨w.heap.size,0,none⟩),.int .u64 150] 133)).alloc (.cells #[.pointer (some ⟨2,107,none⟩),.pointer (some ⟨w.heap.size,0,none⟩),.int .u64 150] 133)).cell? ⟨b,off,none⟩=some (.int .i64 e):=by
  rw [World.cell?_alloc_lt _ _ ⟨b,off,none⟩ (by simp;omega),World.cell?_alloc_lt _ _ ⟨b,off,none⟩ (by simp;omega),World.cell?_alloc_lt _ _ ⟨b,off,none⟩ hbl];exact hp
 have htl:=aK ht0;have hlt:0<w.heap.size:=aK hg;have n8:=As.isNilP ⟨w.heap.size,0,none⟩ t ((w.alloc (.cells #[.pointer (some t)] 107)).alloc (.cells #[.pointer (some ⟨2,107,none⟩),.pointer (some ⟨w.heap.size,0,none⟩),.int .u64 150] 133)) (by simp);have hg2:((w.alloc (.cells #[.pointer (some t)] 107)).alloc (.cells #[.pointer (some ⟨2,107,none⟩),.pointer (some ⟨w.heap.size,0,none⟩),.int .u64 150] 133)).cell? ⟨0,0,none⟩=some (.iface 160 (.agg #[.pointer (some ⟨2,41,none⟩)])):=by
  rw [World.cell?_alloc_lt _ _ ⟨0,0,none⟩ (by simp only [World.size_alloc];omega),World.cell?_alloc_lt _ _ ⟨0,0,none⟩ hlt];exact hg
 have el:=As.elemVP ⟨w.heap.size,0,none⟩ t (((w.alloc (.cells #[.pointer (some t)] 107)).alloc (.cells #[.pointer (some ⟨2,107,none⟩),.pointer (some ⟨w.heap.size,0,none⟩),.int .u64 150] 133)).alloc (.cells #[.pointer (some ⟨2,107,none⟩),.pointer (some ⟨w.heap.size,0,none⟩),.int .u64 150] 133)) (by rw [World.cell?_alloc_lt _ _ ⟨w.heap.size,0,none⟩ (by simp;omega)];simp)
 have st:=As.setE t ⟨w.heap.size+1+1+1,0,none⟩ e old ((((w.alloc (.cells #[.pointer (some t)] 107)).alloc (.cells #[.pointer (some ⟨2,107,none⟩),.pointer (some ⟨w.heap.size,0,none⟩),.int .u64 150] 133)).alloc (.cells #[.pointer (some ⟨2,107,none⟩),.pointer (some ⟨w.heap.size,0,none⟩),.int .u64 150] 133)).alloc (.cells #[.int .i64 e] 68))
  (by rw [World.cell?_alloc_at _ _ _ _ (by simp)];rfl)
  (by rw [World.cell?_alloc_lt _ _ t (by simp;omega),World.cell?_alloc_lt _ _ t (by simp;omega),World.cell?_alloc_lt _ _ t (by simp;omega),World.cell?_alloc_lt _ _ t htl];exact ht0)
  (by rw [World.frozen?_alloc_old _ _ t (by simp;omega),World.frozen?_alloc_old _ _ t (by simp;omega),World.frozen?_alloc_old _ _ t (by simp;omega),World.frozen?_alloc_old _ _ t (Nat.ne_of_lt htl)];exact hf0)
 go_enter Tryz.func60,Tryz.ntmps60
 go_wp2;refine wp_loop_rounds 2 ?_;rw [rounds_succ];go_wp2;rw [rounds_succ];go_wp2;go_ret;exact ⟨rfl,rfl⟩
end
