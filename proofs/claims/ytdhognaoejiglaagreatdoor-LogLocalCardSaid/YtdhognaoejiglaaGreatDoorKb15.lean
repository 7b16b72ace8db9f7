import Derived.Test.YtdhognaoejiglaaGreatDoorKb12
import Derived.Sort.KeysCollected
import Derived.ChangeVars
import Derived.JoinedOf
import Derived.RowKit
import Derived.LaidLaws
import Derived.LaidHandle
import Derived.Stop.Joined
namespace Go.Proofs.YtdhognaoejiglaaGreatDoor
open Lib (hid)
set_option maxRecDepth 100000
set_option maxHeartbeats 8000000
section
open Go.RowKit
theorem wS (v:Value) (l:List ByteArray) (w:World) (h:cD w v l) (hl:l.length≤1000000) :
 Calls Tryz.prog 103 #[v] w fun e w'=>∃ u,e=.returned u∧ai w' w.heap.size u l∧Below w.heap.size w w':=by
 obtain ⟨a,c,rfl⟩:=h.form;rcases h.row.2 with rfl | ⟨b,off,rfl,_,hc⟩
 ·cases a with
  | none=>exact (Tryz.slices_Clone_string_nil _ _ w).mono fun e w' ⟨h1,h2⟩=>⟨_,h1,dv _ _,by rw [h2];exact Below.refl _ _⟩
  | some a=>exact (Tryz.slices_Clone_string_zero a c w).mono fun e w' ⟨u,h1,h2,_,h4⟩=>⟨u,h1,h2,h4⟩
 ·refine (Tryz.slices_Clone_string b off l.length c l w (Nat.le_refl _) (by omega) hc).mono fun e w' ⟨u,h1,h2,_,h4⟩=>⟨u,h1,?_,h4⟩
  rw [List.take_length] at h2;exact h2
theorem ai.again {w:World} {base g n c j:Nat} {l:List ByteArray} {x:ByteArray} (h:ai w base (.slice (some ⟨g,0,none⟩) n c) l) (hj:l[j]? = some x) :
 ai (w.setCell ⟨g,j,none⟩ (.string x)) base (.slice (some ⟨g,0,none⟩) n c) l∧w.cell? ⟨g,j,none⟩=some (.string x)∧w.frozen? ⟨g,j,none⟩=false∧base≤g:=by
 obtain ⟨h0,h1⟩:=h;rcases h1 with ⟨e,_⟩ | ⟨g',cap,cur,e,hb,hh,hc,hm,hs,ht⟩
 ·cases e
 ·obtain ⟨e1,e2,e3⟩:=Value.slice.inj e;simp only [Option.some.injEq,Addr.mk.injEq,and_true] at e1
  subst e1;have hjl:j<l.length:=(List.getElem?_eq_some_iff.1 hj).1;have hcur:cur[j]? = some (.string x):=by
   have h2:(cur.toList.take (l.length * 1))[j]? = (l.map Value.string)[j]? := by rw [ht]
   rw [List.getElem?_take_of_lt (by omega),List.getElem?_map,hj,Array.getElem?_toList] at h2;exact h2
  refine ⟨⟨h0,.inr ⟨g,cap,_,e,hb,heap_setCell_same _ _ _ _ _ _ hh,hc,hm,by simpa using hs,?_⟩⟩,?_,?_,hb⟩
  ·rw [←ht]
   congr 1
   apply List.ext_getElem?
   intro i;rw [Array.getElem?_toList,Array.getElem?_toList,Array.getElem?_setIfInBounds];split
   ·rename_i e4;subst e4;split
    ·rw [hcur]
    ·rename_i hn;exact absurd (Array.getElem?_eq_some_iff.1 hcur).1 hn
   ·rfl
  ·rw [cell_of_row _ _ j _ _ (0,0) hh];exact hcur
  ·simp [World.frozen?,hh]
structure ApW (w W:World) (k t:ByteArray) (h:Bool) (s:Int) (l:Value):Prop where
 rowc:W.heap[w.heap.size]? = some (.cells #[.string k,.bool h,.string t,.int .i64 s,l] 100 (0,0))
 rowr:W.heap[w.heap.size+1]? = some (.cells #[.string ⟨#[]⟩,.bool false,.string ⟨#[]⟩,.int .i64 0,.slice none 0 0] 100 (0,0))
 gr:w.grownBy W none
 sz:w.heap.size+2≤W.heap.size
theorem ApW.grown {w W W':World} {k t:ByteArray} {h:Bool} {s:Int} {l:Value} {o:Option Nat} (hi:ApW w W k t h s l) (hg:W.grownBy W' o) (ho:∀ g,o=some g→w.heap.size+2≤g):ApW w W' k t h s l:=by
 have sz:=hi.sz;have hb:∀ B,B<w.heap.size+2→W'.heap[B]? = W.heap[B]? := fun B h1=>hg.block B (by omega) (fun e=>by have:=ho B e.symm;omega)
 refine ⟨(hb _ (by omega)).trans hi.rowc,(hb _ (by omega)).trans hi.rowr,⟨hg.os.trans hi.gr.os,hg.tape.trans hi.gr.tape,hg.output.trans hi.gr.output,Nat.le_trans hi.gr.size hg.size,fun k hk _=>(hb k (by omega)).trans (hi.gr.block k hk (by simp))⟩,Nat.le_trans sz hg.size⟩
theorem apW0 (w:World) (k t:ByteArray) (h:Bool) (s:Int) (l:Value) :
 ApW w ((w.alloc (.cells #[.string k,.bool h,.string t,.int .i64 s,l] 100)).alloc (.cells #[.string ⟨#[]⟩,.bool false,.string ⟨#[]⟩,.int .i64 0,.slice none 0 0] 100)) k t h s l:=by
 have old:∀ (W:World) (o:Obj) (k:Nat),k<W.heap.size→(W.alloc o).heap[k]? = W.heap[k]? := fun W o k hk=>(MapKept.heap_alloc W o).2 k hk
 have new:∀ (W:World) (o:Obj),(W.alloc o).heap[W.heap.size]? = some o:=fun W o=>(MapKept.heap_alloc W o).1
 have s1:(w.alloc (.cells #[.string k,.bool h,.string t,.int .i64 s,l] 100)).heap.size=w.heap.size+1:=by simp
 refine ⟨?_,?_,bI (bI (aW w none) _) _,by simp⟩
 ·rw [old _ _ _ (by omega)];exact new _ _
 ·have:=new (w.alloc (.cells #[.string k,.bool h,.string t,.int .i64 s,l] 100)) (.cells #[.string ⟨#[]⟩,.bool false,.string ⟨#[]⟩,.int .i64 0,.slice none 0 0] 100)
  rwa [s1] at this
theorem ApW.put {w W:World} {k t k' t':ByteArray} {h h':Bool} {s s':Int} {l l':Value} {j:Nat} {z:Value} (hi:ApW w W k t h s l) (hz:(#[.string k,.bool h,.string t,.int .i64 s,l]:Array Value).setIfInBounds j z=#[.string k',.bool h',.string t',.int .i64 s',l']) :
 ApW w (W.setCell ⟨w.heap.size,j,none⟩ z) k' t' h' s' l' :=
 ⟨by rw [←hz];exact heap_setCell_same _ _ j _ _ z hi.rowc,(heap_setCell_other _ _ _ _ (by show _≠w.heap.size;omega)).trans hi.rowr,bX hi.gr _ (Nat.le_refl _),by rw [show (W.setCell ⟨w.heap.size,j,none⟩ z).heap.size=W.heap.size from by simp];exact hi.sz⟩
theorem xe {w W:World} {k t:ByteArray} {h:Bool} {s:Int} {l:Value} {g j:Nat} {z:Value} (hi:ApW w W k t h s l) (hg:w.heap.size+2≤g):ApW w (W.setCell ⟨g,j,none⟩ z) k t h s l :=
 hi.grown (o:=some g) (fD [z] j W (aW _ _)) (fun b e=>by cases e;exact hg)
theorem ix {w W:World} {k t:ByteArray} {h:Bool} {s:Int} {l:Value} (hi:ApW w W k t h s l) (i:Nat):W.frozen? ⟨w.heap.size,i,none⟩=false:=by simp [World.frozen?,hi.rowc]
theorem xd {w wr:World} {k t:ByteArray} {h:Bool} {s:Int} {v:Value} {l:List ByteArray} {a:Act} (hi:ApW w wr k t h s v) (ho:ai wr w.heap.size v l) (hn:∀ B,v.ownBlock=some B→w.heap.size+2≤B)
 (ha:a.tmps.getD 2 undef=.pointer (some ⟨w.heap.size+1,0,none⟩)) (hd:a.defers=[]) :
 ∀ W,W=((((wr.setCell ⟨w.heap.size+1,0,none⟩ (.string k)).setCell ⟨w.heap.size+1,1,none⟩ (.bool h)).setCell ⟨w.heap.size+1,2,none⟩ (.string t)).setCell ⟨w.heap.size+1,3,none⟩ (.int .i64 s)).setCell ⟨w.heap.size+1,4,none⟩ v →
 bodyPost Tryz.prog Tryz.f77 (fun e w'=>∃ u,e=.returned (.agg #[.string k,.bool h,.string t,.int .i64 s,u])∧ai w' w.heap.size u l∧Below w.heap.size w w') .ret a W:=by
 have hne:v.ownBlock≠some (w.heap.size+1):=fun e=>by have:=hn _ e;omega
 have hR:=lD hi.rowr (.string k) (.bool h) (.string t) (.int .i64 s) v;intro W hW;have hgW:w.grownBy W none:=by rw [hW];exact bX (bX (bX (bX (bX hi.gr _ (by omega)) _ (by omega)) _ (by omega)) _ (by omega)) _ (by omega)
 have hoW:ai W w.heap.size v l:=by
  rw [hW];exact ((((ho.setC _ hne).setC _ hne).setC _ hne).setC _ hne).setC _ hne
 rw [←hW] at hR;refine bodyPost_ret (v:=.agg #[.string k,.bool h,.string t,.int .i64 s,v]) (results_cell_row Tryz.results77 _ _ (w.heap.size+1) 100 _ _ _ ha hR Tryz.underlying100 rfl (iH _ _ _ _ _)) hd ?_;exact ⟨v,rfl,hoW,q8 hgW⟩
theorem xf (k t:ByteArray) (h:Bool) (s:Int) (la:Option Addr) (n c:Nat) (l:List ByteArray) (w:World) (hk:k.size≤140737488351232) (ht:t.size≤140737488351232) (hl:cD w (.slice la n c) l) (hm:l.length≤1000000) (hs:∀ x∈l,x.size≤140737488351232) :
 Calls Tryz.prog 77 #[.agg #[.string k,.bool h,.string t,.int .i64 s,.slice la n c]] w fun e w'=>∃ u,e=.returned (.agg #[.string k,.bool h,.string t,.int .i64 s,u])∧ai w' w.heap.size u l∧Below w.heap.size w w':=by
 have hne:¬ w.heap.size+1=w.heap.size:=by omega
 have hne2:¬ w.heap.size=w.heap.size+1:=by omega
 have HL:=hid hl;have HM:=hid hm;have HS:=hid hs;have HW0:=hid (apW0 w k t h s (.slice la n c));clear hl hm hs;go_enter Tryz.func77,Tryz.ntmps77
 go_wp2;obtain ⟨u,hu⟩:∃ u,u=((w.alloc (.cells #[.string k,.bool h,.string t,.int .i64 s,.slice la n c] 100)).alloc (.cells #[.string ⟨#[]⟩,.bool false,.string ⟨#[]⟩,.int .i64 0,.slice none 0 0] 100)):=⟨_,rfl⟩;rw [←hu] at HW0 ⊢;have HW:Hid (ApW w u.drew k t h s (.slice la n c)):=hid (HW0.out.grown (dE (aW _ none)) (fun g e=>by cases e));have k0:u.drew.cell? ⟨w.heap.size,0,none⟩=some (.string k)∧u.drew.cell? ⟨w.heap.size,2,none⟩=some (.string t):=⟨cell_of_row _ _ 0 _ _ _ HW.out.rowc,cell_of_row _ _ 2 _ _ _ HW.out.rowc⟩;clear hu HW0;go_region_held3 (fun w'=>w'.cell? ⟨w.heap.size,0,none⟩=some (.string k)∧w'.cell? ⟨w.heap.size,2,none⟩=some (.string t)) (first | exact k0 | exact k1 | exact k2 | exact k3 | exact k4 | fail) (first
  | (go_at_call 74;((with_reducible refine (bP k u.drew hk).mono ?_);rintro r w1 ⟨rfl,hb1⟩;have HW1:Hid (ApW w w1 k t h s (.slice la n c)):=hid (HW.out.grown (bM hb1) (fun g e=>by cases e));have k1:w1.cell? ⟨w.heap.size,0,none⟩=some (.string k)∧w1.cell? ⟨w.heap.size,2,none⟩=some (.string t):=⟨cell_of_row _ _ 0 _ _ _ HW1.out.rowc,cell_of_row _ _ 2 _ _ _ HW1.out.rowc⟩;clear hb1))
  | (go_at_call 74;((with_reducible refine (bP t u.drew ht).mono ?_);rintro r w1 ⟨rfl,hb1⟩;have HW1:Hid (ApW w w1 k t h s (.slice la n c)):=hid (HW.out.grown (bM hb1) (fun g e=>by cases e));have k1:w1.cell? ⟨w.heap.size,0,none⟩=some (.string k)∧w1.cell? ⟨w.heap.size,2,none⟩=some (.string t):=⟨cell_of_row _ _ 0 _ _ _ HW1.out.rowc,cell_of_row _ _ 2 _ _ _ HW1.out.rowc⟩;clear hb1))
  | (go_at_call 74;((with_reducible refine (bP k w1 hk).mono ?_);rintro r w2 ⟨rfl,hb2⟩;have HW2:Hid (ApW w w2 k t h s (.slice la n c)):=hid (HW1.out.grown (bM hb2) (fun g e=>by cases e));have k2:w2.cell? ⟨w.heap.size,0,none⟩=some (.string k)∧w2.cell? ⟨w.heap.size,2,none⟩=some (.string t):=⟨cell_of_row _ _ 0 _ _ _ HW2.out.rowc,cell_of_row _ _ 2 _ _ _ HW2.out.rowc⟩;have z0:=ix HW2.out 0;have z2:=ix HW2.out 2;have HW3:Hid (ApW w (w2.setCell ⟨w.heap.size,0,none⟩ (.string k)) k t h s (.slice la n c)):=hid (HW2.out.put rfl);have HW4:Hid (ApW w ((w2.setCell ⟨w.heap.size,0,none⟩ (.string k)).setCell ⟨w.heap.size,2,none⟩ (.string t)) k t h s (.slice la n c)):=hid (HW3.out.put rfl);have k3:(w2.setCell ⟨w.heap.size,0,none⟩ (.string k)).cell? ⟨w.heap.size,0,none⟩=some (.string k)∧(w2.setCell ⟨w.heap.size,0,none⟩ (.string k)).cell? ⟨w.heap.size,2,none⟩=some (.string t):=⟨cell_of_row _ _ 0 _ _ _ HW3.out.rowc,cell_of_row _ _ 2 _ _ _ HW3.out.rowc⟩;have k4:((w2.setCell ⟨w.heap.size,0,none⟩ (.string k)).setCell ⟨w.heap.size,2,none⟩ (.string t)).cell? ⟨w.heap.size,0,none⟩=some (.string k)∧((w2.setCell ⟨w.heap.size,0,none⟩ (.string k)).setCell ⟨w.heap.size,2,none⟩ (.string t)).cell? ⟨w.heap.size,2,none⟩=some (.string t):=⟨cell_of_row _ _ 0 _ _ _ HW4.out.rowc,cell_of_row _ _ 2 _ _ _ HW4.out.rowc⟩;clear hb2))
  | (go_at_call 74;((with_reducible refine (bP t w1 ht).mono ?_);rintro r w2 ⟨rfl,hb2⟩;have HW2:Hid (ApW w w2 k t h s (.slice la n c)):=hid (HW1.out.grown (bM hb2) (fun g e=>by cases e));have k2:w2.cell? ⟨w.heap.size,0,none⟩=some (.string k)∧w2.cell? ⟨w.heap.size,2,none⟩=some (.string t):=⟨cell_of_row _ _ 0 _ _ _ HW2.out.rowc,cell_of_row _ _ 2 _ _ _ HW2.out.rowc⟩;have z0:=ix HW2.out 0;have z2:=ix HW2.out 2;have HW3:Hid (ApW w (w2.setCell ⟨w.heap.size,0,none⟩ (.string k)) k t h s (.slice la n c)):=hid (HW2.out.put rfl);have HW4:Hid (ApW w ((w2.setCell ⟨w.heap.size,0,none⟩ (.string k)).setCell ⟨w.heap.size,2,none⟩ (.string t)) k t h s (.slice la n c)):=hid (HW3.out.put rfl);have k3:(w2.setCell ⟨w.heap.size,0,none⟩ (.string k)).cell? ⟨w.heap.size,0,none⟩=some (.string k)∧(w2.setCell ⟨w.heap.size,0,none⟩ (.string k)).cell? ⟨w.heap.size,2,none⟩=some (.string t):=⟨cell_of_row _ _ 0 _ _ _ HW3.out.rowc,cell_of_row _ _ 2 _ _ _ HW3.out.rowc⟩;have k4:((w2.setCell ⟨w.heap.size,0,none⟩ (.string k)).setCell ⟨w.heap.size,2,none⟩ (.string t)).cell? ⟨w.heap.size,0,none⟩=some (.string k)∧((w2.setCell ⟨w.heap.size,0,none⟩ (.string k)).setCell ⟨w.heap.size,2,none⟩ (.string t)).cell? ⟨w.heap.size,2,none⟩=some (.string t):=⟨cell_of_row _ _ 0 _ _ _ HW4.out.rowc,cell_of_row _ _ 2 _ _ _ HW4.out.rowc⟩;clear hb2)))
 all_goals
  obtain ⟨W,hW⟩:∃ W,W=(w2.setCell ⟨w.heap.size,0,none⟩ (.string k)).setCell ⟨w.heap.size,2,none⟩ (.string t):=⟨_,rfl⟩;rw [←hW] at HW4 ⊢;have d4:W.cell? ⟨w.heap.size,4,none⟩=some (.slice la n c):=cell_of_row _ _ 4 _ _ _ HW4.out.rowc;clear hW k0 k1 k2 k3 k4 z0 z2 HW3 HW2 HW1 HW;go_wp2_with (go_at_call 103;refine (wS (.slice la n c) l W (HL.out.below (q8 HW4.out.gr)) HM.out).mono ?_;rintro r w5 ⟨u5,rfl,ho5,hb5⟩;obtain ⟨a5,c5,rfl⟩:=ho5.slice;have HW5:Hid (ApW w w5 k t h s (.slice la n c)):=hid (HW4.out.grown (bM hb5) (fun g e=>by cases e));have z4:=ix HW5.out 4;have d5:w5.cell? ⟨w.heap.size,4,none⟩=some (.slice la n c):=cell_of_row _ _ 4 _ _ _ HW5.out.rowc;have HO5:=hid (ai.mono ho5 HW4.out.sz);clear ho5 hb5)
  have HW6:Hid (ApW w (w5.setCell ⟨w.heap.size,4,none⟩ (.slice a5 l.length c5)) k t h s (.slice a5 l.length c5)):=hid (HW5.out.put rfl);have HO6:Hid (ai (w5.setCell ⟨w.heap.size,4,none⟩ (.slice a5 l.length c5)) (w.heap.size+2) (.slice a5 l.length c5) l):=hid (HO5.out.setC _ (fun e=>by have:=(HO5.out.lt _ e).1;omega));obtain ⟨w6,hw6⟩:∃ w6,w6=w5.setCell ⟨w.heap.size,4,none⟩ (.slice a5 l.length c5):=⟨_,rfl⟩;rw [←hw6] at HW6 HO6 ⊢;clear hw6 HW5 HO5 z4 d5 HW4 d4;obtain ⟨q,hq⟩:∃ q,q=l.length:=⟨_,rfl⟩;have hq2:q≤1000000:=by rw [hq];exact HM.out
  rw [←hq] at HW6 HO6 ⊢;have HQ:=hid hq;clear hq
  go_loopw [20] (fun i wr=>∃ j:Nat,j≤q∧i=.int .i64 j∧ApW w wr k t h s (.slice a5 q c5)∧ai wr (w.heap.size+2) (.slice a5 q c5) l) (fun i _=>q-(intOf i).toNat)
  case atStart=>exact ⟨0,by omega,rfl,HW6.out,HO6.out⟩
  case round =>
   obtain ⟨j,hj,rfl,hwr,hor⟩:=hrel;have HWR:Hid (ApW w wr.drew k t h s (.slice a5 q c5)):=hid (hwr.grown (dE (aW _ none)) (fun g e=>by cases e));have HWE:=hid hwr;have HOR:=hid hor;clear hwr hor;by_cases hlt:j<q
   ·have b1:decide ((j:Int)<(q:Int))=true:=by simpa using hlt
    obtain ⟨x, hx⟩ : ∃ x, l[j]? = some x := ⟨l[j]'(by rw [← HQ.out]; exact hlt), List.getElem?_eq_getElem _⟩;obtain ⟨g,rfl,hg⟩:=HOR.out.at (by rw [←HQ.out];omega);obtain ⟨_,e1,_,_⟩:=HOR.out.again hx;have HX:=hid hx;have hxs:x.size≤140737488351232:=HS.out x (List.mem_of_getElem? hx);have k5:wr.drew.cell? ⟨w.heap.size,4,none⟩=some (.slice (some ⟨g,0,none⟩) q c5):=cell_of_row _ _ 4 _ _ _ HWR.out.rowc;clear hx;have HK:Hid (ApW w wr.drew k t h s (.slice (some ⟨g,0,none⟩) q c5)∧ai wr.drew (w.heap.size+2) (.slice (some ⟨g,0,none⟩) q c5) l):=hid ⟨HWR.out,HOR.out.drew⟩;clear HWR;go_wp2;go_region_held3 (fun w'=>w'.cell? ⟨w.heap.size,4,none⟩=some (.slice (some ⟨g,0,none⟩) q c5)) (first | exact k5 | exact k6 | exact k7 | fail) (first
     | (go_at_call 74;((with_reducible refine (bP x wr.drew hxs).mono ?_);rintro r w7 ⟨rfl,hb7⟩;have HW7:Hid (ApW w w7 k t h s (.slice (some ⟨g,0,none⟩) q c5)):=hid (HK.out.1.grown (bM hb7) (fun g e=>by cases e));have k6:w7.cell? ⟨w.heap.size,4,none⟩=some (.slice (some ⟨g,0,none⟩) q c5):=cell_of_row _ _ 4 _ _ _ HW7.out.rowc;obtain ⟨ho7,e7,f7,hg7⟩:=(HK.out.2.below hb7).again HX.out;have HO7:=hid ho7;have HW8:Hid (ApW w (w7.setCell ⟨g,j,none⟩ (.string x)) k t h s (.slice (some ⟨g,0,none⟩) q c5)):=hid (xe HW7.out hg7);have k7:(w7.setCell ⟨g,j,none⟩ (.string x)).cell? ⟨w.heap.size,4,none⟩=some (.slice (some ⟨g,0,none⟩) q c5):=cell_of_row _ _ 4 _ _ _ HW8.out.rowc;clear hb7 ho7)))
    go_wp2;go_roundw
    ·exact ⟨j+1,by omega,by simp,HW8.out,HO7.out⟩
    ·simp [intOf];omega
   ·have b1:decide ((j:Int)<(q:Int))=false:=by simp;omega
    obtain rfl:j=q:=by omega
    obtain ⟨p0,p1,p2,p3,p4,_⟩:=row5 HWE.out.rowc;obtain ⟨q0,q1,q2,q3,q4,g0,g1,g2,g3,g4⟩:=row5 HWE.out.rowr;clear HWR;go_wp2;exact xd HWE.out (ai.mono HOR.out (by omega)) (fun B e=>(HOR.out.lt B e).1) rfl rfl _ rfl
end
section
open Go.RowKit Go.Maps
theorem Am:∀ key kl,keyOf Tryz.prog 9 key=some kl→∃ x:ByteArray,key=.string x:=fun key kl h=>by
 obtain ⟨x,hx,_⟩:=Maps.keyOf_str Tryz.underlying9 h;exact ⟨⟨x.toArray⟩,hx⟩
theorem yf:∀ v y,cF v=some y→∃ c:CV,v=cvV c:=fun v y h=>by obtain ⟨c,h1,_⟩:=kf h;exact ⟨c,h1⟩
theorem An {x:ByteArray} {kl:Lit} (h:keyOf Tryz.prog 9 (.string x)=some kl):x.size≤maxLen∧kl=keyL x:=by
 obtain ⟨y,hy,hk,hs⟩:=Maps.keyOf_str Tryz.underlying9 h;have e:x=⟨y.toArray⟩:=Value.string.inj hy;subst e;exact ⟨by simpa [ByteArray.size] using hs,by rw [hk];simp [keyL]⟩
structure pE (w wr:World) (R P M m:Nat) (D:DataW Value) (G:ByteArray→Cel) (L:ByteArray→Value) (left:Lit→Bool) (cnt:Nat) (ks:List ByteArray) (zs:List CV) (v:Value):Prop where
 rng:wr.ranges Tryz.prog 9 cF M w.heap.size m D left cnt
 nodup:ks.Nodup
 mem:∀ k,k∈ks↔live (G k)=true∧left (keyL k)=false
 lsub:∀ k,left (keyL k)=true→live (G k)=true
 own:bE wr (w.heap.size+1) v zs
 rows:ce wr (w.heap.size+1) G ks zs
 bel:Below w.heap.size w wr
 cnt:ks.length+cnt≤m
 sz:w.heap.size+1≤wr.heap.size
theorem jU {B:Nat} {a w w':World} (h:Below B a w) {o:Option Nat} (hg:w.grownBy w' o) (hB:B+1≤w.heap.size) (ho:∀ g,o=some g→B≤g):Below B a w' :=
 ⟨hg.os.trans h.os,hg.tape.trans h.tape,hg.output.trans h.output,Nat.le_trans h.size hg.size,fun k hk=>(hg.block k (by omega) (fun e=>by have:=ho k e.symm;omega)).trans (h.block k hk)⟩
theorem bE.shape {w:World} {base:Nat} {v:Value} {l:List CV} (h:bE w base v l):(v=.slice none 0 0∧l=[])∨∃ g cap,v=.slice (some ⟨g,0,none⟩) l.length cap∧base≤g:=by
 rcases h.2 with ⟨e,h0⟩ | ⟨g,cap,_,e,hb,_⟩
 ·exact .inl ⟨e,List.length_eq_zero_iff.1 h0⟩
 ·exact .inr ⟨g,cap,e,hb⟩
theorem ts {wr:World} {base:Nat} {v:Value} {l:List CV} (h:bE wr base v l) {b:Nat} (hb:b<base):some b≠v.ownBlock:=fun e=>by have:=(h.lt b e.symm).1;omega
theorem ce.off {w w':World} {base b:Nat} {G:ByteArray→Cel} {ks:List ByteArray} {zs:List CV} (h:ce w base G ks zs) (hg:w.grownBy w' (some b)) (hb:b<base):ce w' base G ks zs :=
 ⟨h.1,fun c hc=>by
  obtain ⟨h1,h2,h3,h4⟩:=h.2 c hc;exact ⟨h1,h2,h3,World.ownsRow.kept h4 hg (by
   cases e:c.list.ownBlock with
   | none=>exact .inl rfl
   | some g=>exact .inr (fun e2=>by have:=(h4.lt g e).1;have e3:g=b:=Option.some.inj e2;omega))⟩⟩
theorem qy {w wr w1 w3:World} {v:Value} {zs:List CV} {o:Obj} {o2:Obj} (h:bE wr (w.heap.size+1) v zs) (hg:wr.grownBy w1 (some w.heap.size)) (hb:Below (w1.alloc o).heap.size (w1.alloc o) w3):bE (w3.alloc o2) (w.heap.size+1) v zs :=
 (bE.below (w:=w1.alloc o) (bE.alloc (World.ownsRow.kept h hg (by
  cases e:v.ownBlock with
  | none=>exact .inl rfl
  | some g=>exact .inr (fun e2=>by have:=(h.lt g e).1;have e3:g=w.heap.size:=Option.some.inj e2;omega))) o) hb).alloc o2
end
section
open Go.RowKit Go.Extern.Stop Go.Stop Go.Extern
theorem xm (e:Int) (b off:Nat) (t:Addr) (old:Value) (w:World) (hg:errT w) (ht0:w.cell? t=some old) (hf0:w.frozen? t=false) (hp:w.cell? ⟨b,off,none⟩=some (.int .i64 e)) :
 Calls Tryz.prog 60 #[.iface 84 (.pointer (some ⟨b,off,none⟩)),.iface 107 (.pointer (some t))] w fun ev w'=>ev=.returned (.bool true)∧((eo w t).alloc (.cells #[.int .i64 e] 68)).setCell t (.int .i64 e)=w':=by
 unfold eo;unfold errT at hg;have h6:=@run_callFunc_extern Tryz.prog 81 _ (fun args=>ReflectliteValue.unpack (args.getD 0 (.tuple #[]))) Tryz.func81 (by kernel_rfl) (by kernel_rfl) (by kernel_rfl) (by kernel_rfl)
 have h7 := @run_callFunc_extern Tryz.prog 82 _ (ReflectliteValue.methodAny (ReflectliteValue.valueError "reflectlite.Value.Type" 0) (fun t _ _ _ => ReflectliteType.toType t)) Tryz.func82 (by kernel_rfl) (by kernel_rfl) (by kernel_rfl) (by kernel_rfl)
 have h8 := @run_callFunc_extern Tryz.prog 83 _ (ReflectliteValue.method (ReflectliteValue.valueError "reflectlite.Value.IsNil" 0) ReflectliteValue.isNil) Tryz.func83 (by kernel_rfl) (by kernel_rfl) (by kernel_rfl) (by kernel_rfl)
 have h27:=@run_callFunc_extern Tryz.prog 237 _ (ReflectliteType.abiMethod fun t=>do pure (.int .u8 (←Rtype.kind t))) Tryz.func237 (by kernel_rfl) (by kernel_rfl) (by kernel_rfl) (by kernel_rfl);have h37:=@run_callFunc_extern Tryz.prog 250 _ (ReflectliteType.method ReflectliteType.elem) Tryz.func250 (by kernel_rfl) (by kernel_rfl) (by kernel_rfl) (by kernel_rfl)
 have h38 := @run_callFunc_extern Tryz.prog 251 _ (ReflectliteType.relation "Implements" ReflectliteType.implements_) Tryz.func251 (by kernel_rfl) (by kernel_rfl) (by kernel_rfl) (by kernel_rfl)
 have h10:=@run_callFunc_extern Tryz.prog 107 _ ReflectliteType.typeOf Tryz.func107 (by kernel_rfl) (by kernel_rfl) (by kernel_rfl) (by kernel_rfl)
 have h35 := @run_callFunc_extern Tryz.prog 248 _ (ReflectliteType.relation "AssignableTo" ReflectliteType.assignableTo) Tryz.func248 (by kernel_rfl) (by kernel_rfl) (by kernel_rfl) (by kernel_rfl)
 have h11 := @run_callFunc_extern Tryz.prog 108 _ (ReflectliteValue.method (ReflectliteValue.valueError "reflectlite.Value.Elem" 0) ReflectliteValue.elem) Tryz.func108 (by kernel_rfl) (by kernel_rfl) (by kernel_rfl) (by kernel_rfl)
 have h12:=@run_callFunc_extern Tryz.prog 109 _ ReflectliteValue.set Tryz.func109 (by kernel_rfl) (by kernel_rfl) (by kernel_rfl) (by kernel_rfl);have tO:=As.typeOfE;have mA:=As.methodAssignableTo;have aE:=As.assignableE;have vE:=As.valueOfE;have f6:=As.valueOfP;have f7:=As.typeP;have mK:=As.methodKind;have mE:=As.methodElem;have mI:=As.methodImplements;have kP:=As.kindP;have kE:=As.kindE;have eP:=As.elemP;have iE:=As.implementsE;have tA:=As.typeOfA;have nA:=As.noAsA;have uA:=As.unwrapA;have aA:=As.assignableA;have hbl:b<w.heap.size:=bg hp;have hp3:(((w.alloc (.cells #[.pointer (some t)] 107)).alloc (.cells #[.pointer (some ⟨2,107,none⟩),.pointer (some ⟨w.heap.size,0,none⟩),.int .u64 150] 133)).alloc (.cells #[.pointer (some ⟨2,107,none⟩),.pointer (some ⟨w.heap.size,0,none⟩),.int .u64 150] 133)).cell? ⟨b,off,none⟩=some (.int .i64 e):=by
  rw [World.cell?_alloc_lt _ _ ⟨b,off,none⟩ (by simp;omega),World.cell?_alloc_lt _ _ ⟨b,off,none⟩ (by simp;omega),World.cell?_alloc_lt _ _ ⟨b,off,none⟩ hbl];exact hp
 have htl:=bg ht0;have hlt:0<w.heap.size:=bg hg;have n8:=As.isNilP ⟨w.heap.size,0,none⟩ t ((w.alloc (.cells #[.pointer (some t)] 107)).alloc (.cells #[.pointer (some ⟨2,107,none⟩),.pointer (some ⟨w.heap.size,0,none⟩),.int .u64 150] 133)) (by simp);have hg2:((w.alloc (.cells #[.pointer (some t)] 107)).alloc (.cells #[.pointer (some ⟨2,107,none⟩),.pointer (some ⟨w.heap.size,0,none⟩),.int .u64 150] 133)).cell? ⟨0,0,none⟩=some (.iface 160 (.agg #[.pointer (some ⟨2,41,none⟩)])):=by
  rw [World.cell?_alloc_lt _ _ ⟨0,0,none⟩ (by simp only [World.size_alloc];omega),World.cell?_alloc_lt _ _ ⟨0,0,none⟩ hlt];exact hg
 have el:=As.elemVP ⟨w.heap.size,0,none⟩ t (((w.alloc (.cells #[.pointer (some t)] 107)).alloc (.cells #[.pointer (some ⟨2,107,none⟩),.pointer (some ⟨w.heap.size,0,none⟩),.int .u64 150] 133)).alloc (.cells #[.pointer (some ⟨2,107,none⟩),.pointer (some ⟨w.heap.size,0,none⟩),.int .u64 150] 133)) (by rw [World.cell?_alloc_lt _ _ ⟨w.heap.size,0,none⟩ (by simp;omega)];simp)
 have st:=As.setE t ⟨w.heap.size+1+1+1,0,none⟩ e old ((((w.alloc (.cells #[.pointer (some t)] 107)).alloc (.cells #[.pointer (some ⟨2,107,none⟩),.pointer (some ⟨w.heap.size,0,none⟩),.int .u64 150] 133)).alloc (.cells #[.pointer (some ⟨2,107,none⟩),.pointer (some ⟨w.heap.size,0,none⟩),.int .u64 150] 133)).alloc (.cells #[.int .i64 e] 68))
  (by rw [World.cell?_alloc_at _ _ _ _ (by simp)];rfl)
  (by rw [World.cell?_alloc_lt _ _ t (by simp;omega),World.cell?_alloc_lt _ _ t (by simp;omega),World.cell?_alloc_lt _ _ t (by simp;omega),World.cell?_alloc_lt _ _ t htl];exact ht0)
  (by rw [World.frozen?_alloc_old _ _ t (by simp;omega),World.frozen?_alloc_old _ _ t (by simp;omega),World.frozen?_alloc_old _ _ t (by simp;omega),World.frozen?_alloc_old _ _ t (Nat.ne_of_lt htl)];exact hf0)
 go_enter Tryz.func60,Tryz.ntmps60
 go_wp2;refine wp_loop_rounds 2 ?_;rw [rounds_succ];go_wp2;rw [rounds_succ];go_wp2;go_ret;exact ⟨rfl,rfl⟩
end
section
open Go.RowKit
def eM (l:List Tok) (b:List Nat):Nat×Int:=if (am l 0 0).1=0 then (0,-1) else ((am l 0 0).1,((b.getD (am l 0 0).2.toNat 0:Nat):Int))
theorem Dq {l:List Tok} {i a:Nat} (h:(am l i a).1≠0):∃ j,(am l i a).2=((i+j:Nat):Int)∧j<l.length:=by
 induction l generalizing i a with
 | nil=>exact absurd rfl h
 | cons t r ih =>
  by_cases hw:aF t a=0
  ·rw [gm hw] at h ⊢;obtain ⟨j,h1,h2⟩:=ih h;exact ⟨j+1,by rw [h1];congr 1;omega,by simp;omega⟩
  ·rw [ov hw];exact ⟨0,by simp,by simp⟩
theorem Bm (v bv:Value) (l:List Tok) (b:List Nat) (base:Nat) (w:World) (hv:fP w v l) (hl:l.length≤9223372036854775807) (hz:∀ t∈l,t.own.size≤140737488351232) (hb:aU w base bv b) (hbl:b.length=l.length) :
 Calls Tryz.prog 208 #[v,bv] w (jO w (eM l b)):=by
 have iA:=As.isAtA;have nA:∀ (xT:TypeId) (w:World),(Instr.typeAssert .nilIface xT 84 true).run Tryz.prog w=.ok (.tuple #[.pointer none,.bool false]) w:=fun xT w=>by kernel_rfl
 by_cases hr:(am l 0 0).1=0
 ·have HRB:Hid (eM l b=(0,-1)):=hid (show eM l b=(0,-1) by unfold eM;rw [if_pos hr]);have HR0:=hid hr;have HV:=hid hv;have HZ:=hid hz;clear hr hv hz hb hbl;rw [HRB.out];go_enter Tryz.func208,Tryz.ntmps208
  go_wp2_with fail
  refine (ib _ l _ HV.out hl HZ.out).mono ?_;rintro r w0 ⟨err,rfl,hat,hb0⟩;obtain rfl:err=.nilIface:=by
   rcases hat with ⟨_,h⟩ | ⟨h,_⟩
   ·exact h
   ·exact absurd HR0.out h
  have HB0:=hid hb0;clear hat hb0;go_wp2;go_ret;exact ⟨_,rfl,.inl ⟨rfl,rfl⟩,HB0.out⟩
 ·obtain ⟨j,hj,hjl⟩:=Dq hr;rw [Nat.zero_add] at hj;obtain ⟨e,he⟩:∃ e,(am l 0 0).1=e:=⟨_,rfl⟩;have hre:am l 0 0=(e,(j:Int)):=Prod.ext he hj;have hne:e≠0:=by rw [←he];exact hr
  obtain ⟨q,hq⟩:∃ q,b.getD j 0=q:=⟨_,rfl⟩;have HRB:Hid (eM l b=(e,(q:Int))):=hid (show eM l b=(e,(q:Int)) by unfold eM;rw [if_neg hr,hre];simp only [Int.toNat_natCast];rw [hq]);have HRE:=hid hre;have HNE:=hid hne;have HV:=hid hv;have HZ:=hid hz;have HBO:=hid hb;rcases hb.forms with ⟨_,hnil⟩ | ⟨g,cap,rfl,hbg,hgl,hcells⟩
  ·rw [hnil] at hbl;simp at hbl;omega
  ·have hcj:=hcells j (by omega);rw [hq] at hcj;have hjb:(j:Int)<(b.length:Int):=by omega
   have hj0:(0:Int)≤(j:Int):=by omega
   obtain ⟨n,hn⟩:∃ n,n=b.length:=⟨_,rfl⟩;rw [←hn] at hjb ⊢;clear hr hj he hre hne hv hz hb hbl hcells hjl hq hn;rw [HRB.out];go_enter Tryz.func208,Tryz.ntmps208
   go_wp2_with fail
   refine (ib _ l _ HV.out hl HZ.out).mono ?_;rintro r w0 ⟨err,rfl,hat,hb0⟩;rw [HRE.out] at hat;rcases hat with ⟨h,_⟩ | ⟨_,a,rfl,ha,c0,c1⟩
   ·exact absurd (congrArg Prod.fst h) HNE.out
   ·simp only at c0 c1
    have c2:w0.cell? ⟨g,j,none⟩=some (.int .i64 (q:Int)):=(hb0.cell hgl).trans hcj;have HB0:=hid hb0;have hsz:=hb0.size;clear hb0 hcj;go_wp2;go_region
    go_wp2;go_ret;exact ⟨_,rfl,atIs.new w0 e (q:Int) HNE.out,(HB0.out.alloc hsz _).drew⟩
end
section
open Go.ChangeShapes Go.WideShapes Go.RowKit
def dO : List (String × DataW Unit) := [("errors.errorType", Rows.laid_errors_errorType)]
theorem own:ownKnob Tryz.prog.godebug=none:=by kernel_rfl
theorem AE : Tryz.prog.globalNamed "errors.errorType" = some 0 := by kernel_rfl
theorem AG : (Tryz.prog.cutTypes.find? (·.1 == "internal/reflectlite.rtype")).map (·.2) = some 160 := by kernel_rfl
theorem AH:Tryz.prog.types.size=316:=by kernel_rfl
theorem AF:((List.range 316).filter fun t=>Tryz.prog.rowNamed t [101,114,114,111,114])=[41]:=by kernel_rfl
theorem mZ {W:World} (h:laidMetH Tryz.prog dO W):errT W:=by
 have h':laidMet Tryz.prog [] W∧handlesMet Tryz.prog dO W:=h;obtain ⟨name,u,ty,e1,e2,e3,e4,e5⟩:=h'.2 _ (List.mem_singleton.2 rfl);have en:name=[101,114,114,111,114]:=(Option.some.inj e1).symm;subst en;obtain rfl:=Option.some.inj (AG.symm.trans e2);have hm:ty∈(List.range 316).filter fun t=>Tryz.prog.rowNamed t [101,114,114,111,114]:=List.mem_filter.2 ⟨List.mem_range.2 (by rw [←AH];exact e3),e4⟩
 rw [AF] at hm;obtain rfl:=List.mem_singleton.1 hm;have hh:typeHandle Tryz.prog 41=.pointer (some ⟨2,41,none⟩):=by kernel_rfl
 rw [hh] at e5;unfold errT
 simpa using World.var?_cell AE e5 0
noncomputable def kS (os:Os):World :=
 let w0:=World.holding Tryz.prog os ⟨#[],#[],[]⟩
 { w0 with heap := w0.heap.modify 0 fun
     | .cells _ t frozen=>.cells #[.iface 160 (.agg #[.pointer (some ⟨2,41,none⟩)])] t frozen
     | o=>o }
theorem nL (os:Os) (args:Array Value):laidMetH Tryz.prog dO ((kS os).forCall (fun _ _=>0) ⟨#[],args,[]⟩).memory :=
 laidMetH_of_parts (laidMet_nil _ _) (by kernel_rfl)
end
section
open Go.RowKit Go.Maps
theorem yq (w:World) (R P M m:Nat) (D:DataW Value) (G:ByteArray→Cel) (L:ByteArray→Value) (h:bV w R P M m D G L) (hm:m≤100000) (hkb:∀ k,live (G k)=true→k.size≤140737488351232) :
 Calls Tryz.prog 57 #[.pointer (some ⟨P,0,none⟩)] w fun e w'=>∃ v z,e=.returned v∧fk G z∧fN w' v z∧Below w.heap.size w w'∧∀ k,v.ownBlock=some k→w.heap.size≤k:=by
 have HW:=hid h;have HM:=hid hm;have HKB:=hid hkb;have p0:w.cell? ⟨P,0,none⟩=some (.map (some M)):=cell_of_row _ _ 0 _ _ _ h.row;clear h hm hkb;go_enter Tryz.func57,Tryz.ntmps57
 go_wp2_with (first | (at_range;refine wpList_range_own _ rfl _ 121 rfl 9 100 fF Tryz.underlying121 cF M m D rfl HW.out.map ?_;intro w0 hrg0 hg0 hs0) | go_in)
 go_frame
 have HC0:Hid (pE w w0 R P M m D G L (Maps.has D) (Maps.size D) [] [] (.slice none 0 0)):=hid ⟨hrg0,List.nodup_nil,fun k=>by
  rw [HW.out.sto.has k];simp,fun k hk=>by rw [HW.out.sto.has k] at hk;exact hk,CH _ _,⟨rfl,fun c hc=>by cases hc⟩,⟨hg0.os,hg0.tape,hg0.output,hg0.size,fun k hk=>hg0.block k hk (by simp)⟩,by
  have:=HW.out.map.size_le;simpa using this,by omega⟩
 clear hrg0 hg0 hs0 p0
 go_loopw [3] (fun v wr=>∃ left cnt ks zs,pE w wr R P M m D G L left cnt ks zs v) (fun _ wr=>wr.rangeLeft M w.heap.size)
 case atStart=>exact ⟨_,_,_,_,HC0.out⟩
 case round =>
  obtain ⟨left,cnt,ks,zs,hc⟩:=hrel;have HC:=hid hc;clear hc HC0;go_wp2_with (first | (at_next;refine wpList_next_ranges _ rfl _ rfl 9 fF cF Value.string cvV Am yf M w.heap.size m D left cnt rfl HC.out.rng ?_ ?_) | go_in)
  ·intro hc0 hl0;have hmem:∀ k,k∈ks↔live (G k)=true:=fun k=>by rw [HC.out.mem k];simp [hl0]
   have HMEM:=hid hmem;clear hc0 hl0 hmem;rcases HC.out.own.shape with ⟨rfl,hz⟩ | ⟨g,cap,rfl,hgb⟩
   ·have hk:ks=[]:=by rw [←HC.out.rows.1,hz];rfl
    have HK:=hid hk;clear hz hk;go_wp2_with (go_at_call 78;refine (E5 _ _).mono ?_;rintro e w1 ⟨rfl,rfl⟩)
    go_ret;obtain ⟨z,h1,h2⟩:=ce.cells (ks':=ks) (v:=.slice none 0 0) HC.out.rows HC.out.nodup (List.Perm.refl _) (by rw [HK.out];exact List.Pairwise.nil) HMEM.out (by rw [HK.out];exact eT.nil _);exact ⟨_,z,rfl,h1,h2,HC.out.bel,fun k e=>by cases e⟩
   ·have hkl:zs.length=ks.length:=by rw [←HC.out.rows.1,List.length_map]
    have hkz:ks.map (dz zs)=zs:=by rw [←HC.out.rows.1];exact yb (by rw [HC.out.rows.1];exact HC.out.nodup)
    have HKZ:Hid (bE wr (w.heap.size+1) (.slice (some ⟨g,0,none⟩) ks.length cap) (ks.map (dz zs))):=hid (by rw [hkz,←hkl];exact HC.out.own);have HKN:Hid (ks.length≤1000000):=hid (by have:=HC.out.cnt;have:=HM.out;omega);have HOW:=hid HC.out.own;have HROW:=hid HC.out.rows;have HND:=hid HC.out.nodup;have HBE:=hid HC.out.bel;have HSZ:=hid HC.out.sz;have HGB:=hid hgb;rw [hkl] at HOW ⊢;clear hkl hkz HC hgb;go_wp2_with (go_at_call 78;refine (E3 79 yn yo (dz zs) (yc zs) (ye HROW.out) ks g cap (w.heap.size+1) _ HKZ.out HKN.out).mono ?_;rintro e w1 ⟨rfl,ks',hp,hs,hv,hg1⟩;have HX:Hid (ks'.Perm ks∧ks'.Pairwise (fun a b=>leB a b=true)∧eT w1 (.slice (some ⟨g,0,none⟩) ks.length cap) (ks'.map (dz zs))∧wr.grownBy w1 (some g)):=hid ⟨hp,hs,hv,hg1⟩;clear hp hs hv hg1)
    go_ret;obtain ⟨hp,hs,hv,hg1⟩:=HX.out;obtain ⟨z,h1,h2⟩:=ce.cells (HROW.out.kept HOW.out hg1) HND.out hp hs HMEM.out hv;exact ⟨_,z,rfl,h1,h2,jU HBE.out hg1 HSZ.out (fun b e=>by cases e;have:=HGB.out;omega),fun b e=>by have e2:g=b:=Option.some.inj e;have:=HGB.out;omega⟩
  ·intro x c kl yd yp w1 cnt1 hkey hlk hv hat hrg1 hlt hg1 hs1 hen;obtain ⟨hxs,rfl⟩:=An hkey;obtain ⟨c',e,hy⟩:=kf hv;obtain rfl:=kj e;simp only [Prod.mk.injEq] at hy
   obtain ⟨rfl,rfl⟩:=hy;obtain ⟨hl,rfl⟩:=HW.out.sto.entry hat;obtain ⟨a,cc,hLx⟩:=(HW.out.own x hl).slice;rw [hLx] at hen;have hb1:Below w.heap.size w w1:=jU HC.out.bel hg1 HC.out.sz (fun b e=>by cases e;exact Nat.le_refl _);have hen2:(Instr.entry (.pointer (some ⟨w.heap.size,0,none⟩))).run Tryz.prog w1=.ok (.tuple #[.string x,.agg #[.string x,.bool (G x).has,.string (G x).text,.int .i64 (G x).sum,.slice a (G x).list.length cc]]) w1:=hen;have HLX:Hid (cD w (.slice a (G x).list.length cc) (G x).list):=hid (by rw [←hLx];exact (HW.out.own x hl).isTexts);obtain ⟨t,ht⟩:∃ t,t=(G x).text:=⟨_,rfl⟩;obtain ⟨hh,hhh⟩:∃ hh,hh=(G x).has:=⟨_,rfl⟩;obtain ⟨sm,hsm⟩:∃ sm,sm=(G x).sum:=⟨_,rfl⟩;obtain ⟨ll,hll⟩:∃ ll,ll=(G x).list:=⟨_,rfl⟩;obtain ⟨n,hn⟩:∃ n,n=(G x).list.length:=⟨_,rfl⟩;have htx:t.size≤140737488351232:=by rw [ht];exact (HW.out.text x).1
   have htl:∀ q∈ll,q.size≤140737488351232:=by rw [hll];exact (HW.out.text x).2
   have hlm:ll.length≤1000000:=by rw [hll];have:=HW.out.len x;have:=HM.out;omega
   have HEQ:Hid (t=(G x).text∧hh=(G x).has∧sm=(G x).sum∧ll=(G x).list):=hid ⟨ht,hhh,hsm,hll⟩;rw [←ht,←hhh,←hsm,←hn] at hen2;rw [←hn,←hll] at HLX;have HTL:=hid htl;have HB1:=hid hb1;have HG1:=hid hg1;have HRG1:=hid hrg1;have HLT:=hid hlt;have HLK:=hid hlk;have HL:=hid hl;have HS1:=hid hs1;have hxs2:x.size≤140737488351232:=HKB.out x HL.out;clear htl hb1 hg1 hrg1 hlt hlk hl hs1 hen hat hv hkey e hLx ht hhh hsm hll hn;go_wp2_with fail
   refine (xf x t hh sm a n cc ll _ hxs2 htx (HLX.out.below (HB1.out.alloc HB1.out.size _)) hlm HTL.out).mono ?_;rintro r w3 ⟨u,rfl,ho3,hb3⟩;obtain ⟨au,cu,rfl⟩:=ho3.slice;have HO3:=hid ho3;have HB3:=hid hb3;clear ho3 hb3;go_wp2_with (first
    | (at_builtin;refine Gc rfl _ _ rfl (w.heap.size+1) u3 zs rfl (qy HC.out.own HG1.out HB3.out) w3.heap.size 1 rfl ⟨x,hh,t,sm,.slice au ll.length cu⟩ rfl (MapKept.heap_alloc w3 _).1 (by have:=HC.out.cnt;have:=HC.out.rows.1;have:=HM.out;have h9:=congrArg List.length HC.out.rows.1;rw [List.length_map] at h9;omega) (by have:=HB3.out.size;simp at this ⊢;have:=HS1.out;have:=HC.out.sz;omega) ?_;intro g cap w5 ho5 hg5;have HO5:=hid ho5;have HG5:=hid hg5;clear ho5 hg5))
   obtain ⟨rfl,rfl,rfl,rfl⟩:=HEQ.out;have gA:w1.grownBy (w3.alloc (.cells #[.string x,.bool (G x).has,.string (G x).text,.int .i64 (G x).sum,.slice au (G x).list.length cu] 100)) none:=bI (cj (bI (aW _ none) _) (bM HB3.out)) _;have hco:=qy (o2:=.cells #[.string x,.bool (G x).has,.string (G x).text,.int .i64 (G x).sum,.slice au (G x).list.length cu] 100) HC.out.own HG1.out HB3.out;have hMw:M<w.heap.size:=Nat.lt_of_lt_of_le HW.out.mr HW.out.rw';have hr5:=(HRG1.out.kept gA (by simp) (by simp)).kept HG5.out (ts HC.out.own (by omega)) (ts HC.out.own (by omega));refine ⟨⟨_,cnt1,ks++[x],_,⟨hr5,?_,fun k=>?_,fun k hk=>?_,HO5.out,?_,?_,?_,?_⟩⟩,?_⟩
   ·rw [List.nodup_append];refine ⟨HC.out.nodup,by simp,fun a ha b hb=>?_⟩;obtain rfl:=List.mem_singleton.1 hb;rintro rfl;have:=((HC.out.mem a).1 ha).2;rw [HLK.out] at this;cases this
   ·rw [List.mem_append,HC.out.mem k,List.mem_singleton];by_cases e:k=x
    ·subst e;have hsk:(keyL k).sameKey (keyL k)=true:=by simp [keyL,Lit.sameKey]
     simp [hsk,HL.out]
    ·have hsk:(keyL k).sameKey (keyL x)=false:=Maps.sameKey_ne (fun e2=>e (eF e2));simp [hsk,e]
   ·simp only [Bool.and_eq_true] at hk
    exact HC.out.lsub k hk.1
   ·refine (((HC.out.rows.off HG1.out (Nat.lt_succ_self _)).grown gA).add (ai.mono (HO3.out.alloc _) ?_)).kept hco HG5.out;have:=HB1.out.size;simp;omega
   ·refine jU (jU HB1.out gA (by have:=HS1.out;have:=HC.out.sz;omega) (fun g e=>by cases e)) HG5.out ?_ (fun g e=>by have:=(HC.out.own.lt g e).1;omega);have:=gA.size;have:=HS1.out;have:=HC.out.sz;omega
   ·have:=HC.out.cnt;have:=HLT.out;rw [List.length_append];simp;omega
   ·have:=gA.size;have:=HG5.out.size;have:=HS1.out;have:=HC.out.sz;omega
   ·rw [hr5.left_eq,HC.out.rng.left_eq];exact HLT.out
end
section
open Go.RowKit
theorem errT.alloc {w:World} (h:errT w) (o:Obj):errT (w.alloc o):=by
 unfold errT at h ⊢;rw [World.cell?_alloc_lt _ _ _ (bg h)];exact h
theorem errT.below {w w':World} (h:errT w) (hb:Below w.heap.size w w'):errT w':=by
 unfold errT at h ⊢;rw [hb.cell (bg h)];exact h
theorem pT {w w':World} {B:Nat} {e:Int} {old:Value} (hB:B<w.heap.size) (ht0:w.cell? ⟨B,0,none⟩=some old)
 (h:((eo w ⟨B,0,none⟩).alloc (.cells #[.int .i64 e] 68)).setCell ⟨B,0,none⟩ (.int .i64 e)=w'):w'.cell? ⟨B,0,none⟩=some (.int .i64 e)∧Below B w w':=by
 subst h;have hs:(eo w ⟨B,0,none⟩).heap.size=w.heap.size+1+1+1:=by simp [eo]
 have hc:((eo w ⟨B,0,none⟩).alloc (.cells #[.int .i64 e] 68)).cell? ⟨B,0,none⟩=some old:=by
  rw [World.cell?_alloc_lt _ _ _ (by rw [hs];show B<_;omega)];unfold eo;rw [World.cell?_alloc_lt _ _ _ (by simp;omega),World.cell?_alloc_lt _ _ _ (by simp;omega),World.cell?_alloc_lt _ _ _ hB];exact ht0
 refine ⟨World.cell?_setCell_same _ _ _ hc,?_⟩;refine Below.setCell ?_ (show B≤B from Nat.le_refl _) _;refine Below.alloc ?_ (by rw [hs];omega) _;unfold eo;exact (((Below.refl _ _).alloc (by omega) _).alloc (by simp;omega) _).alloc (by simp;omega) _
def isErr (w:World) (v:Value) (e:Int):Prop :=
 v=.iface 68 (.int .i64 e)∨∃ b off pl,v=.iface 84 (.pointer (some ⟨b,off,none⟩))∧w.cell? ⟨b,off,none⟩=some (.int .i64 e)∧w.cell? ⟨b,off+1,none⟩=some (.int .i64 pl)
theorem xn (v:Value) (e:Int) (B:Nat) (old:Value) (w:World) (hg:errT w) (hB:B<w.heap.size) (ht0:w.cell? ⟨B,0,none⟩=some old) (hf0:w.frozen? ⟨B,0,none⟩=false) (hv:isErr w v e) :
 Calls Tryz.prog 60 #[v,.iface 107 (.pointer (some ⟨B,0,none⟩))] w fun ev w'=>ev=.returned (.bool true)∧w'.cell? ⟨B,0,none⟩=some (.int .i64 e)∧Below B w w':=by
 rcases hv with rfl | ⟨b,off,pl,rfl,hp,_⟩
 ·exact (xo e _ old w hg ht0 hf0).mono fun _ _ ⟨h1,h2⟩=>⟨h1,pT hB ht0 h2⟩
 ·exact (xm e b off _ old w hg ht0 hf0 hp).mono fun _ _ ⟨h1,h2⟩=>⟨h1,pT hB ht0 h2⟩
theorem isErr.alloc {w:World} {v:Value} {e:Int} (h:isErr w v e) (o:Obj):isErr (w.alloc o) v e:=by
 rcases h with h | ⟨b,off,pl,h1,h2,h3⟩
 ·exact .inl h
 ·exact .inr ⟨b,off,pl,h1,by rw [World.cell?_alloc_lt _ _ _ (bg h2)];exact h2,by rw [World.cell?_alloc_lt _ _ _ (bg h3)];exact h3⟩
theorem isErr.below {w w':World} {v:Value} {e:Int} (h:isErr w v e) (hb:Below w.heap.size w w'):isErr w' v e:=by
 rcases h with h | ⟨b,off,pl,h1,h2,h3⟩
 ·exact .inl h
 ·exact .inr ⟨b,off,pl,h1,by rw [hb.cell (bg h2)];exact h2,by rw [hb.cell (bg h3)];exact h3⟩
theorem isErr.iface {w:World} {v:Value} {e:Int} (h:isErr w v e):∃ t u,v=.iface t u:=by
 rcases h with h | ⟨b,off,pl,h1,h2,h3⟩
 ·exact ⟨_,_,h⟩
 ·exact ⟨_,_,h1⟩
theorem dM (v:Value) (e:Int) (w:World) (hg:errT w) (hv:isErr w v e):Calls Tryz.prog 35 #[v] w fun r w'=>r=.returned (.int .i64 e)∧Below w.heap.size w w':=by
 have HG:=hid (hg.alloc (.cells #[.int .i64 0] 68));have HV:=hid (hv.alloc (.cells #[.int .i64 0] 68));obtain ⟨t,u,rfl⟩:=hv.iface;clear hg hv;go_enter Tryz.func35,Tryz.ntmps35
 go_wp2_with (go_at_call 60;refine (xn _ e w.heap.size (.int .i64 0) _ HG.out (by simp) (by simp) (by simp) HV.out).mono ?_;rintro ev w' ⟨rfl,hc,hb⟩;clear HG HV)
 go_ret;exact ⟨rfl,((Below.refl _ _).alloc (Nat.le_refl _) _).trans (by assumption)⟩
end
