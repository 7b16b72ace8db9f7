import Derived.Test.YtddbpnplbcjpgaaGreatDoorLp09
namespace Go.Proofs.YtddbpnplbcjpgaaGreatDoor
open Go.RowKit
theorem aclone_any (v:Value) (l:List ByteArray) (w:World) (h:IsTexts w v l) (hl:l.length≤1000000) :
   Calls Tryz.prog 126 #[v] w fun e w'=>∃ u,e=.returned u∧ownsS w' w.heap.size u l∧Below w.heap.size w w':=by
 obtain ⟨a,c,rfl⟩:=h.form
 rcases h.row.2 with rfl | ⟨b,off,rfl,_,hc⟩
 · cases a with
   | none=>exact (Tryz.slices_Clone_string_nil _ _ w).mono fun e w' ⟨h1,h2⟩=>⟨_,h1,ownsS_nil _ _,by rw [h2];exact Below.refl _ _⟩
   | some a=>exact (Tryz.slices_Clone_string_zero a c w).mono fun e w' ⟨u,h1,h2,_,h4⟩=>⟨u,h1,h2,h4⟩
 · refine (Tryz.slices_Clone_string b off l.length c l w (Nat.le_refl _) (by omega) hc).mono fun e w' ⟨u,h1,h2,_,h4⟩=>⟨u,h1,?_,h4⟩
   rw [List.take_length] at h2
   exact h2
theorem ownsS.again {w:World} {base g n c j:Nat} {l:List ByteArray} {x:ByteArray} (h:ownsS w base (.slice (some ⟨g,0,none⟩) n c) l) (hj:l[j]? = some x) :
   ownsS (w.setCell ⟨g,j,none⟩ (.string x)) base (.slice (some ⟨g,0,none⟩) n c) l∧w.cell? ⟨g,j,none⟩=some (.string x)∧w.frozen? ⟨g,j,none⟩=false∧base≤g:=by
 obtain ⟨h0,h1⟩:=h
 rcases h1 with ⟨e,_⟩ | ⟨g',cap,cur,e,hb,hh,hc,hm,hs,ht⟩
 · cases e
 · obtain ⟨e1,e2,e3⟩:=Value.slice.inj e
   simp only [Option.some.injEq,Addr.mk.injEq,and_true] at e1
   subst e1
   have hjl:j < l.length:=(List.getElem?_eq_some_iff.1 hj).1
   have hcur:cur[j]? = some (.string x):=by
     have h2:(cur.toList.take (l.length * 1))[j]? = (l.map Value.string)[j]? := by rw [ht]
     rw [List.getElem?_take_of_lt (by omega),List.getElem?_map,hj,Array.getElem?_toList] at h2
     exact h2
   refine ⟨⟨h0,.inr ⟨g,cap,_,e,hb,heap_setCell_same _ _ _ _ _ _ hh,hc,hm,by simpa using hs,?_⟩⟩,?_,?_,hb⟩
   · rw [←ht]
     congr 1
     apply List.ext_getElem?
     intro i
     rw [Array.getElem?_toList,Array.getElem?_toList,Array.getElem?_setIfInBounds]
     split
     · rename_i e4
       subst e4
       split
       · rw [hcur]
       · rename_i hn;exact absurd (Array.getElem?_eq_some_iff.1 hcur).1 hn
     · rfl
   · rw [cell_of_row _ _ j _ _ (0,0) hh];exact hcur
   · simp [World.frozen?,hh]
structure ApW (w W:World) (k t:ByteArray) (h:Bool) (s:Int) (l:Value):Prop where
 rowc:W.heap[w.heap.size]? = some (.cells #[.string k,.bool h,.string t,.int .i64 s,l] 105 (0,0))
 rowr:W.heap[w.heap.size + 1]? = some (.cells #[.string ⟨#[]⟩,.bool false,.string ⟨#[]⟩,.int .i64 0,.slice none 0 0] 105 (0,0))
 gr:w.grownBy W none
 sz:w.heap.size + 2≤W.heap.size
theorem ApW.grown {w W W':World} {k t:ByteArray} {h:Bool} {s:Int} {l:Value} {o:Option Nat} (hi:ApW w W k t h s l) (hg:W.grownBy W' o) (ho:∀ g,o=some g→w.heap.size + 2≤g):ApW w W' k t h s l:=by
 have sz:=hi.sz
 have hb:∀ B,B < w.heap.size + 2→W'.heap[B]? = W.heap[B]? := fun B h1=>hg.block B (by omega) (fun e=>by have:=ho B e.symm;omega)
 refine ⟨(hb _ (by omega)).trans hi.rowc,(hb _ (by omega)).trans hi.rowr,⟨hg.os.trans hi.gr.os,hg.tape.trans hi.gr.tape,hg.output.trans hi.gr.output,Nat.le_trans hi.gr.size hg.size,fun k hk _=>(hb k (by omega)).trans (hi.gr.block k hk (by simp))⟩,Nat.le_trans sz hg.size⟩
theorem apW0 (w:World) (k t:ByteArray) (h:Bool) (s:Int) (l:Value) :
   ApW w ((w.alloc (.cells #[.string k,.bool h,.string t,.int .i64 s,l] 105)).alloc (.cells #[.string ⟨#[]⟩,.bool false,.string ⟨#[]⟩,.int .i64 0,.slice none 0 0] 105)) k t h s l:=by
 have old:∀ (W:World) (o:Obj) (k:Nat),k < W.heap.size→(W.alloc o).heap[k]? = W.heap[k]? := fun W o k hk=>(MapKept.heap_alloc W o).2 k hk
 have new:∀ (W:World) (o:Obj),(W.alloc o).heap[W.heap.size]? = some o:=fun W o=>(MapKept.heap_alloc W o).1
 have s1:(w.alloc (.cells #[.string k,.bool h,.string t,.int .i64 s,l] 105)).heap.size=w.heap.size + 1:=by simp
 refine ⟨?_,?_,grown_alloc (grown_alloc (grown_refl w none) _) _,by simp⟩
 · rw [old _ _ _ (by omega)];exact new _ _
 · have:=new (w.alloc (.cells #[.string k,.bool h,.string t,.int .i64 s,l] 105)) (.cells #[.string ⟨#[]⟩,.bool false,.string ⟨#[]⟩,.int .i64 0,.slice none 0 0] 105)
   rwa [s1] at this
theorem ApW.put {w W:World} {k t k' t':ByteArray} {h h':Bool} {s s':Int} {l l':Value} {j:Nat} {z:Value} (hi:ApW w W k t h s l) (hz:(#[.string k,.bool h,.string t,.int .i64 s,l]:Array Value).setIfInBounds j z=#[.string k',.bool h',.string t',.int .i64 s',l']) :
   ApW w (W.setCell ⟨w.heap.size,j,none⟩ z) k' t' h' s' l' :=
 ⟨by rw [←hz];exact heap_setCell_same _ _ j _ _ z hi.rowc,(heap_setCell_other _ _ _ _ (by show _≠w.heap.size;omega)).trans hi.rowr,grown_set hi.gr _ (Nat.le_refl _),by rw [show (W.setCell ⟨w.heap.size,j,none⟩ z).heap.size=W.heap.size from by simp];exact hi.sz⟩
theorem ap_far {w W:World} {k t:ByteArray} {h:Bool} {s:Int} {l:Value} {g j:Nat} {z:Value} (hi:ApW w W k t h s l) (hg:w.heap.size + 2≤g):ApW w (W.setCell ⟨g,j,none⟩ z) k t h s l :=
 hi.grown (o:=some g) (grown_setCells [z] j W (grown_refl _ _)) (fun b e=>by cases e;exact hg)
theorem ap_free {w W:World} {k t:ByteArray} {h:Bool} {s:Int} {l:Value} (hi:ApW w W k t h s l) (i:Nat):W.frozen? ⟨w.heap.size,i,none⟩=false:=by simp [World.frozen?,hi.rowc]
theorem ap_end {w wr:World} {k t:ByteArray} {h:Bool} {s:Int} {v:Value} {l:List ByteArray} {a:Act} (hi:ApW w wr k t h s v) (ho:ownsS wr w.heap.size v l) (hn:∀ B,v.ownBlock=some B→w.heap.size + 2≤B)
   (ha:a.tmps.getD 2 undef=.pointer (some ⟨w.heap.size + 1,0,none⟩)) (hd:a.defers=[]) :
   ∀ W,W=((((wr.setCell ⟨w.heap.size + 1,0,none⟩ (.string k)).setCell ⟨w.heap.size + 1,1,none⟩ (.bool h)).setCell ⟨w.heap.size + 1,2,none⟩ (.string t)).setCell ⟨w.heap.size + 1,3,none⟩ (.int .i64 s)).setCell ⟨w.heap.size + 1,4,none⟩ v →
   bodyPost Tryz.prog Tryz.f110 (fun e w'=>∃ u,e=.returned (.agg #[.string k,.bool h,.string t,.int .i64 s,u])∧ownsS w' w.heap.size u l∧Below w.heap.size w w') .ret a W:=by
 have hne:v.ownBlock≠some (w.heap.size + 1):=fun e=>by have:=hn _ e;omega
 have hR:=row_set5 hi.rowr (.string k) (.bool h) (.string t) (.int .i64 s) v
 intro W hW
 have hgW:w.grownBy W none:=by rw [hW];exact grown_set (grown_set (grown_set (grown_set (grown_set hi.gr _ (by omega)) _ (by omega)) _ (by omega)) _ (by omega)) _ (by omega)
 have hoW:ownsS W w.heap.size v l:=by
   rw [hW];exact ((((ho.setC _ hne).setC _ hne).setC _ hne).setC _ hne).setC _ hne
 rw [←hW] at hR
 refine bodyPost_ret (v:=.agg #[.string k,.bool h,.string t,.int .i64 s,v]) (results_cell_row Tryz.results110 _ _ (w.heap.size + 1) 105 _ _ _ ha hR Tryz.underlying105 rfl (cell_sized _ _ _ _ _)) hd ?_
 exact ⟨v,rfl,hoW,below_gr hgW⟩
set_option maxRecDepth 100000 in
set_option maxHeartbeats 8000000 in
theorem apart_any (k t:ByteArray) (h:Bool) (s:Int) (la:Option Addr) (n c:Nat) (l:List ByteArray) (w:World) (hk:k.size≤140737488351232) (ht:t.size≤140737488351232) (hl:IsTexts w (.slice la n c) l) (hm:l.length≤1000000) (hs:∀ x∈l,x.size≤140737488351232) :
   Calls Tryz.prog 110 #[.agg #[.string k,.bool h,.string t,.int .i64 s,.slice la n c]] w fun e w'=>∃ u,e=.returned (.agg #[.string k,.bool h,.string t,.int .i64 s,u])∧ownsS w' w.heap.size u l∧Below w.heap.size w w':=by
 have hne:¬ w.heap.size + 1=w.heap.size:=by omega
 have hne2:¬ w.heap.size=w.heap.size + 1:=by omega
 have HL:=Lib.hid hl
 have HM:=Lib.hid hm
 have HS:=Lib.hid hs
 have HW0:=Lib.hid (apW0 w k t h s (.slice la n c))
 clear hl hm hs
 go_enter Tryz.func110,Tryz.ntmps110
 go_wp2
 obtain ⟨u,hu⟩:∃ u,u=((w.alloc (.cells #[.string k,.bool h,.string t,.int .i64 s,.slice la n c] 105)).alloc (.cells #[.string ⟨#[]⟩,.bool false,.string ⟨#[]⟩,.int .i64 0,.slice none 0 0] 105)):=⟨_,rfl⟩
 rw [←hu] at HW0 ⊢
 have HW:Hid (ApW w u.drew k t h s (.slice la n c)):=Lib.hid (HW0.out.grown (grown_drew (grown_refl _ none)) (fun g e=>by cases e))
 have k0:u.drew.cell? ⟨w.heap.size,0,none⟩=some (.string k)∧u.drew.cell? ⟨w.heap.size,2,none⟩=some (.string t):=⟨cell_of_row _ _ 0 _ _ _ HW.out.rowc,cell_of_row _ _ 2 _ _ _ HW.out.rowc⟩
 clear hu HW0
 go_region_held3 (fun w'=>w'.cell? ⟨w.heap.size,0,none⟩=some (.string k)∧w'.cell? ⟨w.heap.size,2,none⟩=some (.string t)) (first | exact k0 | exact k1 | exact k2 | exact k3 | exact k4 | fail) (first
   | (go_at_call 66;((with_reducible refine (clone_s k u.drew hk).mono ?_);rintro r w1 ⟨rfl,hb1⟩;have HW1:Hid (ApW w w1 k t h s (.slice la n c)):=Lib.hid (HW.out.grown (grown_of_below hb1) (fun g e=>by cases e));have k1:w1.cell? ⟨w.heap.size,0,none⟩=some (.string k)∧w1.cell? ⟨w.heap.size,2,none⟩=some (.string t):=⟨cell_of_row _ _ 0 _ _ _ HW1.out.rowc,cell_of_row _ _ 2 _ _ _ HW1.out.rowc⟩;clear hb1))
   | (go_at_call 66;((with_reducible refine (clone_s t u.drew ht).mono ?_);rintro r w1 ⟨rfl,hb1⟩;have HW1:Hid (ApW w w1 k t h s (.slice la n c)):=Lib.hid (HW.out.grown (grown_of_below hb1) (fun g e=>by cases e));have k1:w1.cell? ⟨w.heap.size,0,none⟩=some (.string k)∧w1.cell? ⟨w.heap.size,2,none⟩=some (.string t):=⟨cell_of_row _ _ 0 _ _ _ HW1.out.rowc,cell_of_row _ _ 2 _ _ _ HW1.out.rowc⟩;clear hb1))
   | (go_at_call 66;((with_reducible refine (clone_s k w1 hk).mono ?_);rintro r w2 ⟨rfl,hb2⟩;have HW2:Hid (ApW w w2 k t h s (.slice la n c)):=Lib.hid (HW1.out.grown (grown_of_below hb2) (fun g e=>by cases e));have k2:w2.cell? ⟨w.heap.size,0,none⟩=some (.string k)∧w2.cell? ⟨w.heap.size,2,none⟩=some (.string t):=⟨cell_of_row _ _ 0 _ _ _ HW2.out.rowc,cell_of_row _ _ 2 _ _ _ HW2.out.rowc⟩;have z0:=ap_free HW2.out 0;have z2:=ap_free HW2.out 2;have HW3:Hid (ApW w (w2.setCell ⟨w.heap.size,0,none⟩ (.string k)) k t h s (.slice la n c)):=Lib.hid (HW2.out.put rfl);have HW4:Hid (ApW w ((w2.setCell ⟨w.heap.size,0,none⟩ (.string k)).setCell ⟨w.heap.size,2,none⟩ (.string t)) k t h s (.slice la n c)):=Lib.hid (HW3.out.put rfl);have k3:(w2.setCell ⟨w.heap.size,0,none⟩ (.string k)).cell? ⟨w.heap.size,0,none⟩=some (.string k)∧(w2.setCell ⟨w.heap.size,0,none⟩ (.string k)).cell? ⟨w.heap.size,2,none⟩=some (.string t):=⟨cell_of_row _ _ 0 _ _ _ HW3.out.rowc,cell_of_row _ _ 2 _ _ _ HW3.out.rowc⟩;have k4:((w2.setCell ⟨w.heap.size,0,none⟩ (.string k)).setCell ⟨w.heap.size,2,none⟩ (.string t)).cell? ⟨w.heap.size,0,none⟩=some (.string k)∧((w2.setCell ⟨w.heap.size,0,none⟩ (.string k)).setCell ⟨w.heap.size,2,none⟩ (.string t)).cell? ⟨w.heap.size,2,none⟩=some (.string t):=⟨cell_of_row _ _ 0 _ _ _ HW4.out.rowc,cell_of_row _ _ 2 _ _ _ HW4.out.rowc⟩;clear hb2))
   | (go_at_call 66;((with_reducible refine (clone_s t w1 ht).mono ?_);rintro r w2 ⟨rfl,hb2⟩;have HW2:Hid (ApW w w2 k t h s (.slice la n c)):=Lib.hid (HW1.out.grown (grown_of_below hb2) (fun g e=>by cases e));have k2:w2.cell? ⟨w.heap.size,0,none⟩=some (.string k)∧w2.cell? ⟨w.heap.size,2,none⟩=some (.string t):=⟨cell_of_row _ _ 0 _ _ _ HW2.out.rowc,cell_of_row _ _ 2 _ _ _ HW2.out.rowc⟩;have z0:=ap_free HW2.out 0;have z2:=ap_free HW2.out 2;have HW3:Hid (ApW w (w2.setCell ⟨w.heap.size,0,none⟩ (.string k)) k t h s (.slice la n c)):=Lib.hid (HW2.out.put rfl);have HW4:Hid (ApW w ((w2.setCell ⟨w.heap.size,0,none⟩ (.string k)).setCell ⟨w.heap.size,2,none⟩ (.string t)) k t h s (.slice la n c)):=Lib.hid (HW3.out.put rfl);have k3:(w2.setCell ⟨w.heap.size,0,none⟩ (.string k)).cell? ⟨w.heap.size,0,none⟩=some (.string k)∧(w2.setCell ⟨w.heap.size,0,none⟩ (.string k)).cell? ⟨w.heap.size,2,none⟩=some (.string t):=⟨cell_of_row _ _ 0 _ _ _ HW3.out.rowc,cell_of_row _ _ 2 _ _ _ HW3.out.rowc⟩;have k4:((w2.setCell ⟨w.heap.size,0,none⟩ (.string k)).setCell ⟨w.heap.size,2,none⟩ (.string t)).cell? ⟨w.heap.size,0,none⟩=some (.string k)∧((w2.setCell ⟨w.heap.size,0,none⟩ (.string k)).setCell ⟨w.heap.size,2,none⟩ (.string t)).cell? ⟨w.heap.size,2,none⟩=some (.string t):=⟨cell_of_row _ _ 0 _ _ _ HW4.out.rowc,cell_of_row _ _ 2 _ _ _ HW4.out.rowc⟩;clear hb2)))
 all_goals
   obtain ⟨W,hW⟩:∃ W,W=(w2.setCell ⟨w.heap.size,0,none⟩ (.string k)).setCell ⟨w.heap.size,2,none⟩ (.string t):=⟨_,rfl⟩
   rw [←hW] at HW4 ⊢
   have d4:W.cell? ⟨w.heap.size,4,none⟩=some (.slice la n c):=cell_of_row _ _ 4 _ _ _ HW4.out.rowc
   clear hW k0 k1 k2 k3 k4 z0 z2 HW3 HW2 HW1 HW
   go_wp2_with (go_at_call 126;refine (aclone_any (.slice la n c) l W (HL.out.below (below_gr HW4.out.gr)) HM.out).mono ?_;rintro r w5 ⟨u5,rfl,ho5,hb5⟩;obtain ⟨a5,c5,rfl⟩:=ho5.slice;have HW5:Hid (ApW w w5 k t h s (.slice la n c)):=Lib.hid (HW4.out.grown (grown_of_below hb5) (fun g e=>by cases e));have z4:=ap_free HW5.out 4;have d5:w5.cell? ⟨w.heap.size,4,none⟩=some (.slice la n c):=cell_of_row _ _ 4 _ _ _ HW5.out.rowc;have HO5:=Lib.hid (ownsS.mono ho5 HW4.out.sz);clear ho5 hb5)
   have HW6:Hid (ApW w (w5.setCell ⟨w.heap.size,4,none⟩ (.slice a5 l.length c5)) k t h s (.slice a5 l.length c5)):=Lib.hid (HW5.out.put rfl)
   have HO6:Hid (ownsS (w5.setCell ⟨w.heap.size,4,none⟩ (.slice a5 l.length c5)) (w.heap.size + 2) (.slice a5 l.length c5) l):=Lib.hid (HO5.out.setC _ (fun e=>by have:=(HO5.out.lt _ e).1;omega))
   obtain ⟨w6,hw6⟩:∃ w6,w6=w5.setCell ⟨w.heap.size,4,none⟩ (.slice a5 l.length c5):=⟨_,rfl⟩
   rw [←hw6] at HW6 HO6 ⊢
   clear hw6 HW5 HO5 z4 d5 HW4 d4
   obtain ⟨q,hq⟩:∃ q,q=l.length:=⟨_,rfl⟩
   have hq2:q≤1000000:=by rw [hq];exact HM.out
   rw [←hq] at HW6 HO6 ⊢
   have HQ:=Lib.hid hq
   clear hq
   go_loopw [20] (fun i wr=>∃ j:Nat,j≤q∧i=.int .i64 j∧ApW w wr k t h s (.slice a5 q c5)∧ownsS wr (w.heap.size + 2) (.slice a5 q c5) l) (fun i _=>q - (intOf i).toNat)
   case atStart=>exact ⟨0,by omega,rfl,HW6.out,HO6.out⟩
   case round =>
     obtain ⟨j,hj,rfl,hwr,hor⟩:=hrel
     have HWR:Hid (ApW w wr.drew k t h s (.slice a5 q c5)):=Lib.hid (hwr.grown (grown_drew (grown_refl _ none)) (fun g e=>by cases e))
     have HWE:=Lib.hid hwr
     have HOR:=Lib.hid hor
     clear hwr hor
     by_cases hlt:j < q
     · have b1:decide ((j:Int) < (q:Int))=true:=by simpa using hlt
       obtain ⟨x, hx⟩ : ∃ x, l[j]? = some x := ⟨l[j]'(by rw [← HQ.out]; exact hlt), List.getElem?_eq_getElem _⟩
       obtain ⟨g,rfl,hg⟩:=HOR.out.at (by rw [←HQ.out];omega)
       obtain ⟨_,e1,_,_⟩:=HOR.out.again hx
       have HX:=Lib.hid hx
       have hxs:x.size≤140737488351232:=HS.out x (List.mem_of_getElem? hx)
       have k5:wr.drew.cell? ⟨w.heap.size,4,none⟩=some (.slice (some ⟨g,0,none⟩) q c5):=cell_of_row _ _ 4 _ _ _ HWR.out.rowc
       clear hx
       have HK:Hid (ApW w wr.drew k t h s (.slice (some ⟨g,0,none⟩) q c5)∧ownsS wr.drew (w.heap.size + 2) (.slice (some ⟨g,0,none⟩) q c5) l):=Lib.hid ⟨HWR.out,HOR.out.drew⟩
       clear HWR
       go_wp2
       go_region_held3 (fun w'=>w'.cell? ⟨w.heap.size,4,none⟩=some (.slice (some ⟨g,0,none⟩) q c5)) (first | exact k5 | exact k6 | exact k7 | fail) (first
         | (go_at_call 66;((with_reducible refine (clone_s x wr.drew hxs).mono ?_);rintro r w7 ⟨rfl,hb7⟩;have HW7:Hid (ApW w w7 k t h s (.slice (some ⟨g,0,none⟩) q c5)):=Lib.hid (HK.out.1.grown (grown_of_below hb7) (fun g e=>by cases e));have k6:w7.cell? ⟨w.heap.size,4,none⟩=some (.slice (some ⟨g,0,none⟩) q c5):=cell_of_row _ _ 4 _ _ _ HW7.out.rowc;obtain ⟨ho7,e7,f7,hg7⟩:=(HK.out.2.below hb7).again HX.out;have HO7:=Lib.hid ho7;have HW8:Hid (ApW w (w7.setCell ⟨g,j,none⟩ (.string x)) k t h s (.slice (some ⟨g,0,none⟩) q c5)):=Lib.hid (ap_far HW7.out hg7);have k7:(w7.setCell ⟨g,j,none⟩ (.string x)).cell? ⟨w.heap.size,4,none⟩=some (.slice (some ⟨g,0,none⟩) q c5):=cell_of_row _ _ 4 _ _ _ HW8.out.rowc;clear hb7 ho7)))
       go_wp2
       go_roundw
       · exact ⟨j + 1,by omega,by simp,HW8.out,HO7.out⟩
       · simp [intOf];omega
     · have b1:decide ((j:Int) < (q:Int))=false:=by simp;omega
       obtain rfl:j=q:=by omega
       obtain ⟨p0,p1,p2,p3,p4,_⟩:=row5 HWE.out.rowc
       obtain ⟨q0,q1,q2,q3,q4,g0,g1,g2,g3,g4⟩:=row5 HWE.out.rowr
       clear HWR
       go_wp2
       exact ap_end HWE.out (ownsS.mono HOR.out (by omega)) (fun B e=>(HOR.out.lt B e).1) rfl rfl _ rfl
end Go.Proofs.YtddbpnplbcjpgaaGreatDoor
namespace Go.Proofs.YtddbpnplbcjpgaaGreatDoor
open Go.RowKit
set_option maxRecDepth 100000 in
set_option maxHeartbeats 4000000 in
theorem rbsame_as (vf vh vw uf uh uw:Value) (f h:List Ent) (l:List Wr) (f2 h2:List Ent) (l2:List Wr) (c:Bool) (w:World) (hx:BatIs w vf vh vw f h l) (hy:BatIs w uf uh uw f2 h2 l2) (hc:sameV f h l f2 h2 l2=c) :
   Calls Tryz.prog 14 #[.agg #[vf,vh,vw],.agg #[uf,uh,uw]] w fun e w'=>e=.returned (.bool c)∧Below w.heap.size w w':=by
 subst hc
 have HX:=Lib.hid hx
 have HY:=Lib.hid hy
 obtain ⟨hf,hh,hv,_⟩:=hx
 obtain ⟨af,cf,rfl,_⟩:=hf.form
 obtain ⟨ah,ch,rfl,_⟩:=hh.form
 obtain ⟨aw,cw,rfl,_⟩:=hv.form
 obtain ⟨hf2,hh2,hv2,_⟩:=hy
 obtain ⟨bf,df,rfl,_⟩:=hf2.form
 obtain ⟨bh,dh,rfl,_⟩:=hh2.form
 obtain ⟨bw,dw,rfl,_⟩:=hv2.form
 clear hf hh hv hf2 hh2 hv2
 obtain ⟨nf,hn1⟩:∃ n,n=f.length:=⟨_,rfl⟩
 obtain ⟨nh,hn2⟩:∃ n,n=h.length:=⟨_,rfl⟩
 obtain ⟨n,hn3⟩:∃ n,n=l.length:=⟨_,rfl⟩
 obtain ⟨mf,hn4⟩:∃ n,n=f2.length:=⟨_,rfl⟩
 obtain ⟨mh,hn5⟩:∃ n,n=h2.length:=⟨_,rfl⟩
 obtain ⟨m,hn6⟩:∃ n,n=l2.length:=⟨_,rfl⟩
 rw [←hn1,←hn2,←hn3] at HX ⊢
 rw [←hn4,←hn5,←hn6] at HY ⊢
 obtain ⟨c1,e1⟩:∃ c,decide (f=f2)=c:=⟨_,rfl⟩
 obtain ⟨c2,e2⟩:∃ c,decide (h=h2)=c:=⟨_,rfl⟩
 obtain ⟨c3,e3⟩:∃ c,decide (l=l2)=c:=⟨_,rfl⟩
 have HR:Hid (sameV f h l f2 h2 l2=(c1 && c2 && c3)):=Lib.hid (by unfold sameV;rw [e1,e2,e3])
 have H1:=Lib.hid e1
 have H2:=Lib.hid e2
 have H3:=Lib.hid e3
 have HW0:Hid (Below w.heap.size w ((w.alloc (.cells #[.slice af nf cf,.slice ah nh ch,.slice aw n cw] 30)).alloc (.cells #[.slice bf mf df,.slice bh mh dh,.slice bw m dw] 30))):=Lib.hid (((Below.refl _ _).alloc (Nat.le_refl _) _).alloc (by simp) _)
 have HA:Hid (bat2 ((w.alloc (.cells #[.slice af nf cf,.slice ah nh ch,.slice aw n cw] 30)).alloc (.cells #[.slice bf mf df,.slice bh mh dh,.slice bw m dw] 30)) w.heap.size (.slice af nf cf) (.slice ah nh ch) (.slice aw n cw) (.slice bf mf df) (.slice bh mh dh) (.slice bw m dw)):=Lib.hid (bat2_new _ _ _ _ _ _ _ _ _)
 clear hn1 hn2 hn3 hn4 hn5 hn6 e1 e2 e3
 rw [HR.out]
 go_enter Tryz.func14,Tryz.ntmps14
 go_wp2_with fail
 generalize (w.alloc (.cells #[.slice af nf cf,.slice ah nh ch,.slice aw n cw] 30)).alloc (.cells #[.slice bf mf df,.slice bh mh dh,.slice bw m dw] 30)=W at HA HW0 ⊢
 have HX0:=Lib.hid (HX.out.below HW0.out)
 have HY0:=Lib.hid (HY.out.below HW0.out)
 refine (requale_as _ _ f f2 c1 _ HX0.out.1 HY0.out.1 HX0.out.2.2.2.1 HY0.out.2.2.2.1 H1.out).mono ?_
 rintro r w1 ⟨rfl,q1,rfl⟩
 cases c1 with
 | false =>
   go_wp2
   go_ret
   exact ⟨rfl,below_drewN HW0.out _⟩
 | true =>
   obtain ⟨d0,d1,d2,d3,d4,d5⟩:=HA.out.drewN q1
   go_wp2_with fail
   refine (requale_as _ _ h h2 c2 _ (HX0.out.2.1.drewN q1) (HY0.out.2.1.drewN q1) HX0.out.2.2.2.2.1 HY0.out.2.2.2.2.1 H2.out).mono ?_
   rintro r w2 ⟨rfl,q2,rfl⟩
   rw [World.drewN_drewN]
   clear d0 d1 d2 d3 d4 d5
   cases c2 with
   | false =>
     go_wp2
     go_ret
     exact ⟨rfl,below_drewN HW0.out _⟩
   | true =>
     obtain ⟨d0,d1,d2,d3,d4,d5⟩:=HA.out.drewN (q1 + q2)
     go_wp2_with fail
     refine (requalw_as _ _ l l2 c3 _ (HX0.out.2.2.1.drewN (q1 + q2)) (HY0.out.2.2.1.drewN (q1 + q2)) HX0.out.2.2.2.2.2.1 HY0.out.2.2.2.2.2.1 H3.out).mono ?_
     rintro r w3 ⟨rfl,q3,rfl⟩
     rw [World.drewN_drewN]
     clear d0 d1 d2 d3 d4 d5
     go_wp2
     go_ret
     exact ⟨by first | rfl | simp,below_drewN HW0.out _⟩
end Go.Proofs.YtddbpnplbcjpgaaGreatDoor
namespace Go.Proofs.YtddbpnplbcjpgaaGreatDoor
open Go.Shelf Go.RowKit Go.Lib Go.Sort Go.Proofs
variable {P:Program} {ρ:Ren} {α:Type} [Inhabited α]
set_option maxHeartbeats 16000000 in
set_option maxRecDepth 1000000 in
theorem symC_lo (L:LaysGt.n30 P ρ) (enc:α→List Value) (k:Nat) (g:Nat) (lb:Array Value) (sf:Nat) (sb:Array Value) (lt:α→α→Bool) (hS:SWO lt) (eg:∀ args w,(callFunc g args).run P w=.ok (.enter g args) w) (blk off a m b N:Nat) (d:Array α) (w:World) (K:Kit P ρ enc k w blk off g lb sf sb lt d N) (hH:HoldsK enc k w blk off d)
   (hA:m≠a + 1) (hB:b≠m + 1) (ham:a < m) (hmb:m < b) (hb:b≤d.size) (hsz:d.size < 4611686018427387904) (hN:b - a≤N + 1) (h1:SortedIn lt a m d) (h2:SortedIn lt m b d) (hbr:m≤(a + b) / 2) :
   Calls P (ρ.f 30) #[.agg #[.func (.func g) #[] lb,.func (.func sf) #[] sb],.int .i64 a,.int .i64 m,.int .i64 b] w fun e w'=>e=.returned (.tuple #[])∧∃ d',PermIn a b d d'∧SortedIn lt a b d'∧SWK enc k w blk off d' w':=by
 have mixed:=L.mixed;have t0:=L.t0;have a0:=L.a0;have z0:=L.z0;have v0:=L.v0;have t3:=L.t3;have a3:=L.a3;have z3:=L.z3;have v3:=L.v3;have t4:=L.t4;have a4:=L.a4;have z4:=L.z4;have v4:=L.v4;have t26:=L.t26;have a26:=L.a26;have z26:=L.z26;have v26:=L.v26;have t38:=L.t38;have a38:=L.a38;have z38:=L.z38;have v38:=L.v38;have t42:=L.t42;have a42:=L.a42;have z42:=L.z42;have v42:=L.v42;have t47:=L.t47;have a47:=L.a47;have z47:=L.z47;have v47:=L.v47
 have u42:=run_underlying L.t42
 have u47:=run_underlying L.t47
 have u3:=run_underlying L.t3
 have e42:∀ args w,(callFunc (ρ.f 42) args).run P w=.ok (.enter (ρ.f 42) args) w:=enters_of L.f42 (by kernel_rfl) rfl
 have e30:∀ args w,(callFunc (ρ.f 30) args).run P w=.ok (.enter (ρ.f 30) args) w:=enters_of L.f30 (by kernel_rfl) rfl
 have HK:=Lib.hid K
 have H1:=Lib.hid h1
 have H2:=Lib.hid h2
 have hm1:((m:Int) - (a:Int) == 1)=false:=by simp;omega
 have hm2:((b:Int) - (m:Int) == 1)=false:=by simp;omega
 obtain ⟨mid,hmid⟩:∃ mid,mid=(a + b) / 2:=⟨_,rfl⟩
 have hq0:((a:Int) + (b:Int)) / 2=(mid:Int):=by omega
 obtain ⟨n,hn⟩:∃ n,n=mid + m:=⟨_,rfl⟩
 have hn1:(mid:Int) + (m:Int)=(n:Int):=by omega
 obtain ⟨p,hp⟩:∃ p,p=n - 1:=⟨_,rfl⟩
 have hp1:(n:Int) - 1=(p:Int):=by omega
 obtain ⟨lo,hlo⟩:∃ lo,lo=a:=⟨_,rfl⟩
 have bM:decide (mid < m)=false:=by simp;omega
 have HF:Hid (a=lo∧lo≤m∧m≤mid∧n=mid + m∧n≤b + a∧p=n - 1∧mid < b):=Lib.hid (by omega)
 clear hmid hn hp hbr hlo
 have SS:=SWC.start (g:=g) (lb:=lb) (sf:=sf) (sb:=sb) hH (ρ.t 42)
 have S0:Aside (SWC enc k w blk off g lb sf sb d d (w.alloc (.cells #[.func (.func g) #[] lb,.func (.func sf) #[] sb] (ρ.t 42)))):=SS
 have HA:=Lib.hid hA
 have HB:=Lib.hid hB
 clear K h1 h2 hH SS hA hB
 go_enter L.f30,BodyGt.n30_ntmps ρ
 go_wp2
 go_loopw [18,19] (fun vs vr wr=>∃ s r:Nat,vs=.int .i64 s∧vr=.int .i64 r∧lo≤s∧s≤r∧r≤m∧Hid (s=lo∨lt d[n - s]! d[s - 1]! = false)∧Hid (r=m∨lt d[n - 1 - r]! d[r]! = true)∧Aside (SWC enc k w blk off g lb sf sb d d wr)) (fun vs vr _=>(intOf vr).toNat - (intOf vs).toNat)
 case atStart=>exact ⟨a,m,rfl,rfl,by have:=HF.out;omega,by have:=HF.out;omega,Nat.le_refl _,.inl HF.out.1,.inl rfl,S0⟩
 case round =>
   obtain ⟨s,r,rfl,rfl,hls,hsr,hrh,F1,F2,S⟩:=hrel
   have hf:=HF.out
   have c0:=S.out.c0
   have c1:=S.out.c1
   by_cases hlt:s < r
   · have b1:decide ((s:Int) < (r:Int))=true:=by simpa using hlt
     obtain ⟨c,hc⟩:∃ c,c=(s + r) / 2:=⟨_,rfl⟩
     have hq:((s:Int) + (r:Int)) / 2=(c:Int):=by omega
     have hsc:s≤c:=by omega
     have hcr:c < r:=by omega
     obtain ⟨t,ht⟩:∃ t,t=n - 1 - c:=⟨_,rfl⟩
     have ht1:(p:Int) - (c:Int)=(t:Int):=by omega
     have hl:=HK.out.less d wr t c S.out (by omega) (by omega)
     have HT:=Lib.hid ht
     clear hc ht hf
     cases hlv:lt d[t]! d[c]! with
     | false =>
       rw [hlv] at hl
       have HN:Hid (c + 1=lo∨lt d[n - (c + 1)]! d[c + 1 - 1]! = false):=Lib.hid (.inr (by rw [show n - (c + 1)=t by have:=HT.out;omega,show c + 1 - 1=c by omega];exact hlv))
       clear hlv
       go_wp2_with (go_at_fn g;refine hl.mono ?_;rintro e w1 ⟨rfl,hs1⟩;have S1:Aside (SWC enc k w blk off g lb sf sb d d w1):=hs1;clear hs1)
       go_roundw
       · exact ⟨c + 1,r,by go_num,rfl,by omega,by omega,hrh,HN,F2,S1⟩
       · simp [intOf];omega
     | true =>
       rw [hlv] at hl
       have HN:Hid (c=m∨lt d[n - 1 - c]! d[c]! = true):=Lib.hid (.inr (by rw [←HT.out];exact hlv))
       clear hlv
       go_wp2_with (go_at_fn g;refine hl.mono ?_;rintro e w1 ⟨rfl,hs1⟩;have S1:Aside (SWC enc k w blk off g lb sf sb d d w1):=hs1;clear hs1)
       go_roundw
       · exact ⟨s,c,rfl,by go_num,hls,hsc,by omega,F1,HN,S1⟩
       · simp [intOf];omega
   · have b1:decide ((s:Int) < (r:Int))=false:=by simp;omega
     obtain rfl:s=r:=by omega
     obtain ⟨e,he⟩:∃ e,e=n - s:=⟨_,rfl⟩
     have he1:(n:Int) - (s:Int)=(e:Int):=by omega
     have hx:=sym_cross (lo:=lo) (hi:=m) (n:=n) (s:=s) hS H1.out H2.out (by omega) hls hrh (by omega) (by omega) (by omega) (by omega) (by omega) F1.out F2.out
     rw [←he] at hx
     have HX:=Lib.hid hx
     have has:a≤s:=by omega
     have hsm:s≤m:=by omega
     have hme:m≤e:=by omega
     have heb:e≤b:=by omega
     have HMID:Hid (mid=s + (e - m)):=Lib.hid (by omega)
     have heS:e≤d.size:=by omega
     have hmS:mid≤d.size:=by omega
     have hbS:b≤d.size:=hb
     have hNl:mid - a≤N:=by omega
     have hNr:b - mid≤N:=by omega
     have hmde:mid≤e:=by omega
     have hmse:mid + m=s + e:=by omega
     have hmd2:mid < b:=by omega
     have hls0:=hls
     clear hx hlt F1 F2 hls hsr hrh
     have hfk:m≤mid:=by omega
     have HE0:=Lib.hid he
     have HLS:=Lib.hid hls0
     clear hf he hls0
     by_cases hsm1:s < m
     · have hme1:m < e:=by omega
       have cS:decide (s < m)=true:=by simp;omega
       have cE:decide (m < e)=true:=by simp;omega
       have hlm:s < mid:=by omega
       have hmr:mid < e:=by omega
       have lB:decide (s < mid)=true:=by simp;omega
       have rA:decide (mid < e)=true:=by simp;omega
       have HQ:Hid (s≤m):=Lib.hid (by omega)
       by_cases hal:a < s
       ·
         have lA:decide (a < s)=true:=by simp;omega
         by_cases hrb:e < b
         ·
           have rB:decide (e < b)=true:=by simp;omega
           go_wp2_with (first
             | (go_at_fn (ρ.f 42);(with_reducible refine (HK.out.rot d wr s m e S.out hsm1 hme1 heS).mono ?_);rintro r w1 ⟨rfl,d1,hr1,hs1⟩;have R1:=Lib.hid hr1;have S1:Aside (SWC enc k w blk off g lb sf sb d d1 w1):=hs1;have z0:=hs1.c0;have z1:=hs1.c1;have HP:=Lib.hid (sym_parts R1.out has hsm hme heb HMID.out H1.out H2.out HX.out.1 HX.out.2);clear hr1 hs1)
             | (go_at_fn (ρ.f 30);(with_reducible refine (HK.out.sym d1 w1 a s mid S1.out hNl hal hlm hmS HP.out.1 HP.out.2.1).mono ?_);rintro r w2 ⟨rfl,d2,p2,q2,hs2⟩;have P2:=Lib.hid p2;have Q2:=Lib.hid q2;have S2:Aside (SWC enc k w blk off g lb sf sb d d2 w2):=hs2;have z2:=hs2.c0;have z3:=hs2.c1;have HR:=Lib.hid (sym_right hmde HP.out.2.2.1 HP.out.2.2.2.1 p2);clear p2 q2 hs2)
             | (go_at_fn (ρ.f 30);(with_reducible refine (HK.out.sym d2 w2 mid e b S2.out hNr hmr hrb hbS HR.out.1 HR.out.2).mono ?_);rintro r w3 ⟨rfl,d3,p3,q3,hs3⟩;have P3:=Lib.hid p3;have Q3:=Lib.hid q3;have S3:Aside (SWC enc k w blk off g lb sf sb d d3 w3):=hs3;clear p3 q3 hs3)
             | fail)
           go_end0
           have HE:=sym_end R1.out has hsm hme heb HMID.out hb H1.out H2.out HX.out.1 HX.out.2 (.inr ⟨P2.out,Q2.out⟩) (.inr ⟨P3.out,Q3.out⟩)
           exact ⟨rfl,d3,HE.1,HE.2,S3.out.sw⟩
         · have h1:=HF.out;have h2:=HE0.out;have h3:=HLS.out;omega
       ·
         have lA:decide (a < s)=false:=by simp;omega
         by_cases hrb:e < b
         ·
           have rB:decide (e < b)=true:=by simp;omega
           go_wp2_with (first
             | (go_at_fn (ρ.f 42);(with_reducible refine (HK.out.rot d wr s m e S.out hsm1 hme1 heS).mono ?_);rintro r w1 ⟨rfl,d1,hr1,hs1⟩;have R1:=Lib.hid hr1;have S1:Aside (SWC enc k w blk off g lb sf sb d d1 w1):=hs1;have z0:=hs1.c0;have z1:=hs1.c1;have HP:=Lib.hid (sym_parts R1.out has hsm hme heb HMID.out H1.out H2.out HX.out.1 HX.out.2);have HR:=Lib.hid (And.intro HP.out.2.2.1 HP.out.2.2.2.1);have S2:Aside (SWC enc k w blk off g lb sf sb d d1 w1):=S1;clear hr1 hs1)
             | (go_at_fn (ρ.f 30);(with_reducible refine (HK.out.sym d1 w1 mid e b S2.out hNr hmr hrb hbS HR.out.1 HR.out.2).mono ?_);rintro r w3 ⟨rfl,d3,p3,q3,hs3⟩;have P3:=Lib.hid p3;have Q3:=Lib.hid q3;have S3:Aside (SWC enc k w blk off g lb sf sb d d3 w3):=hs3;clear p3 q3 hs3)
             | fail)
           go_end0
           have HE:=sym_end R1.out has hsm hme heb HMID.out hb H1.out H2.out HX.out.1 HX.out.2 (.inl ⟨rfl,by have:=HQ.out;omega⟩) (.inr ⟨P3.out,Q3.out⟩)
           exact ⟨rfl,d3,HE.1,HE.2,S3.out.sw⟩
         ·
           have rB:decide (e < b)=false:=by simp;omega
           go_wp2_with (first
             | (go_at_fn (ρ.f 42);(with_reducible refine (HK.out.rot d wr s m e S.out hsm1 hme1 heS).mono ?_);rintro r w1 ⟨rfl,d1,hr1,hs1⟩;have R1:=Lib.hid hr1;have S1:Aside (SWC enc k w blk off g lb sf sb d d1 w1):=hs1;have z0:=hs1.c0;have z1:=hs1.c1;have HP:=Lib.hid (sym_parts R1.out has hsm hme heb HMID.out H1.out H2.out HX.out.1 HX.out.2);clear hr1 hs1)
             | fail)
           go_end0
           have HE:=sym_end R1.out has hsm hme heb HMID.out hb H1.out H2.out HX.out.1 HX.out.2 (.inl ⟨rfl,by have:=HQ.out;omega⟩) (.inl ⟨rfl,by have:=HQ.out;omega⟩)
           exact ⟨rfl,d1,HE.1,HE.2,S1.out.sw⟩
     · have HQ:Hid (s=m∧e=mid):=Lib.hid (by omega)
       have cS:decide (s < m)=false:=by simp;omega
       have lA:decide (a < s)=true:=by simp;omega
       have rA:decide (mid < e)=false:=by simp;omega
       by_cases hlm:s < mid
       · have hal:a < s:=by omega
         have lB:decide (s < mid)=true:=by simp;omega
         have R1:Hid (RotI s e m (m - s) (e - m) d d):=Lib.hid (rot_none _ _ _ _ _ _ (Nat.sub_le _ _) (by have:=HQ.out;omega))
         have HP:=Lib.hid (sym_parts R1.out has hsm hme heb HMID.out H1.out H2.out HX.out.1 HX.out.2)
         have S1:Aside (SWC enc k w blk off g lb sf sb d d wr):=S
         go_wp2_with (first
           | (go_at_fn (ρ.f 30);(with_reducible refine (HK.out.sym d wr a s mid S1.out hNl hal hlm hmS HP.out.1 HP.out.2.1).mono ?_);rintro r w2 ⟨rfl,d2,p2,q2,hs2⟩;have P2:=Lib.hid p2;have Q2:=Lib.hid q2;have S2:Aside (SWC enc k w blk off g lb sf sb d d2 w2):=hs2;have z2:=hs2.c0;have z3:=hs2.c1;have HR:=Lib.hid (sym_right hmde HP.out.2.2.1 HP.out.2.2.2.1 p2);clear p2 q2 hs2)
           | fail)
         go_end0
         have HE:=sym_end R1.out has hsm hme heb HMID.out hb H1.out H2.out HX.out.1 HX.out.2 (.inr ⟨P2.out,Q2.out⟩) (.inl ⟨rfl,by have:=HQ.out;omega⟩)
         exact ⟨rfl,d2,HE.1,HE.2,S2.out.sw⟩
       ·
         have lB:decide (s < mid)=false:=by simp;omega
         have R1:Hid (RotI s e m (m - s) (e - m) d d):=Lib.hid (rot_none _ _ _ _ _ _ (Nat.sub_le _ _) (by have:=HQ.out;omega))
         have HP:=Lib.hid (sym_parts R1.out has hsm hme heb HMID.out H1.out H2.out HX.out.1 HX.out.2)
         have S1:Aside (SWC enc k w blk off g lb sf sb d d wr):=S
         go_wp2_with fail
         go_end0
         have HE:=sym_end R1.out has hsm hme heb HMID.out hb H1.out H2.out HX.out.1 HX.out.2 (.inl ⟨rfl,by have:=HQ.out;omega⟩) (.inl ⟨rfl,by have:=HQ.out;omega⟩)
         exact ⟨rfl,d,HE.1,HE.2,S1.out.sw⟩
set_option maxHeartbeats 16000000 in
set_option maxRecDepth 1000000 in
theorem symC_hi (L:LaysGt.n30 P ρ) (enc:α→List Value) (k:Nat) (g:Nat) (lb:Array Value) (sf:Nat) (sb:Array Value) (lt:α→α→Bool) (hS:SWO lt) (eg:∀ args w,(callFunc g args).run P w=.ok (.enter g args) w) (blk off a m b N:Nat) (d:Array α) (w:World) (K:Kit P ρ enc k w blk off g lb sf sb lt d N) (hH:HoldsK enc k w blk off d)
   (hA:m≠a + 1) (hB:b≠m + 1) (ham:a < m) (hmb:m < b) (hb:b≤d.size) (hsz:d.size < 4611686018427387904) (hN:b - a≤N + 1) (h1:SortedIn lt a m d) (h2:SortedIn lt m b d) (hbr:(a + b) / 2 < m) :
   Calls P (ρ.f 30) #[.agg #[.func (.func g) #[] lb,.func (.func sf) #[] sb],.int .i64 a,.int .i64 m,.int .i64 b] w fun e w'=>e=.returned (.tuple #[])∧∃ d',PermIn a b d d'∧SortedIn lt a b d'∧SWK enc k w blk off d' w':=by
 have mixed:=L.mixed;have t0:=L.t0;have a0:=L.a0;have z0:=L.z0;have v0:=L.v0;have t3:=L.t3;have a3:=L.a3;have z3:=L.z3;have v3:=L.v3;have t4:=L.t4;have a4:=L.a4;have z4:=L.z4;have v4:=L.v4;have t26:=L.t26;have a26:=L.a26;have z26:=L.z26;have v26:=L.v26;have t38:=L.t38;have a38:=L.a38;have z38:=L.z38;have v38:=L.v38;have t42:=L.t42;have a42:=L.a42;have z42:=L.z42;have v42:=L.v42;have t47:=L.t47;have a47:=L.a47;have z47:=L.z47;have v47:=L.v47
 have u42:=run_underlying L.t42
 have u47:=run_underlying L.t47
 have u3:=run_underlying L.t3
 have e42:∀ args w,(callFunc (ρ.f 42) args).run P w=.ok (.enter (ρ.f 42) args) w:=enters_of L.f42 (by kernel_rfl) rfl
 have e30:∀ args w,(callFunc (ρ.f 30) args).run P w=.ok (.enter (ρ.f 30) args) w:=enters_of L.f30 (by kernel_rfl) rfl
 have HK:=Lib.hid K
 have H1:=Lib.hid h1
 have H2:=Lib.hid h2
 have hm1:((m:Int) - (a:Int) == 1)=false:=by simp;omega
 have hm2:((b:Int) - (m:Int) == 1)=false:=by simp;omega
 obtain ⟨mid,hmid⟩:∃ mid,mid=(a + b) / 2:=⟨_,rfl⟩
 have hq0:((a:Int) + (b:Int)) / 2=(mid:Int):=by omega
 obtain ⟨n,hn⟩:∃ n,n=mid + m:=⟨_,rfl⟩
 have hn1:(mid:Int) + (m:Int)=(n:Int):=by omega
 obtain ⟨p,hp⟩:∃ p,p=n - 1:=⟨_,rfl⟩
 have hp1:(n:Int) - 1=(p:Int):=by omega
 obtain ⟨lo,hlo⟩:∃ lo,lo=n - b:=⟨_,rfl⟩
 have hlo1:(n:Int) - (b:Int)=(lo:Int):=by omega
 have bM:decide (mid < m)=true:=by simp;omega
 have HF:Hid (a≤lo∧lo≤mid∧mid≤m∧n=mid + m∧n=b + lo∧p=n - 1∧mid < m∧mid < b∧a < mid):=Lib.hid (by omega)
 clear hmid hn hp hlo hbr
 have SS:=SWC.start (g:=g) (lb:=lb) (sf:=sf) (sb:=sb) hH (ρ.t 42)
 have S0:Aside (SWC enc k w blk off g lb sf sb d d (w.alloc (.cells #[.func (.func g) #[] lb,.func (.func sf) #[] sb] (ρ.t 42)))):=SS
 have HA:=Lib.hid hA
 have HB:=Lib.hid hB
 clear K h1 h2 hH SS hA hB
 go_enter L.f30,BodyGt.n30_ntmps ρ
 go_wp2
 go_loopw [18,19] (fun vs vr wr=>∃ s r:Nat,vs=.int .i64 s∧vr=.int .i64 r∧lo≤s∧s≤r∧r≤mid∧Hid (s=lo∨lt d[n - s]! d[s - 1]! = false)∧Hid (r=mid∨lt d[n - 1 - r]! d[r]! = true)∧Aside (SWC enc k w blk off g lb sf sb d d wr)) (fun vs vr _=>(intOf vr).toNat - (intOf vs).toNat)
 case atStart=>exact ⟨lo,mid,rfl,rfl,by have:=HF.out;omega,by have:=HF.out;omega,Nat.le_refl _,.inl rfl,.inl rfl,S0⟩
 case round =>
   obtain ⟨s,r,rfl,rfl,hls,hsr,hrh,F1,F2,S⟩:=hrel
   have hf:=HF.out
   have c0:=S.out.c0
   have c1:=S.out.c1
   by_cases hlt:s < r
   · have b1:decide ((s:Int) < (r:Int))=true:=by simpa using hlt
     obtain ⟨c,hc⟩:∃ c,c=(s + r) / 2:=⟨_,rfl⟩
     have hq:((s:Int) + (r:Int)) / 2=(c:Int):=by omega
     have hsc:s≤c:=by omega
     have hcr:c < r:=by omega
     obtain ⟨t,ht⟩:∃ t,t=n - 1 - c:=⟨_,rfl⟩
     have ht1:(p:Int) - (c:Int)=(t:Int):=by omega
     have hl:=HK.out.less d wr t c S.out (by omega) (by omega)
     have HT:=Lib.hid ht
     clear hc ht hf
     cases hlv:lt d[t]! d[c]! with
     | false =>
       rw [hlv] at hl
       have HN:Hid (c + 1=lo∨lt d[n - (c + 1)]! d[c + 1 - 1]! = false):=Lib.hid (.inr (by rw [show n - (c + 1)=t by have:=HT.out;omega,show c + 1 - 1=c by omega];exact hlv))
       clear hlv
       go_wp2_with (go_at_fn g;refine hl.mono ?_;rintro e w1 ⟨rfl,hs1⟩;have S1:Aside (SWC enc k w blk off g lb sf sb d d w1):=hs1;clear hs1)
       go_roundw
       · exact ⟨c + 1,r,by go_num,rfl,by omega,by omega,hrh,HN,F2,S1⟩
       · simp [intOf];omega
     | true =>
       rw [hlv] at hl
       have HN:Hid (c=mid∨lt d[n - 1 - c]! d[c]! = true):=Lib.hid (.inr (by rw [←HT.out];exact hlv))
       clear hlv
       go_wp2_with (go_at_fn g;refine hl.mono ?_;rintro e w1 ⟨rfl,hs1⟩;have S1:Aside (SWC enc k w blk off g lb sf sb d d w1):=hs1;clear hs1)
       go_roundw
       · exact ⟨s,c,rfl,by go_num,hls,hsc,by omega,F1,HN,S1⟩
       · simp [intOf];omega
   · have b1:decide ((s:Int) < (r:Int))=false:=by simp;omega
     obtain rfl:s=r:=by omega
     obtain ⟨e,he⟩:∃ e,e=n - s:=⟨_,rfl⟩
     have he1:(n:Int) - (s:Int)=(e:Int):=by omega
     have hx:=sym_cross (lo:=lo) (hi:=mid) (n:=n) (s:=s) hS H1.out H2.out (by omega) hls hrh (by omega) (by omega) (by omega) (by omega) (by omega) F1.out F2.out
     rw [←he] at hx
     have HX:=Lib.hid hx
     have has:a≤s:=by omega
     have hsm:s≤m:=by omega
     have hme:m≤e:=by omega
     have heb:e≤b:=by omega
     have HMID:Hid (mid=s + (e - m)):=Lib.hid (by omega)
     have heS:e≤d.size:=by omega
     have hmS:mid≤d.size:=by omega
     have hbS:b≤d.size:=hb
     have hNl:mid - a≤N:=by omega
     have hNr:b - mid≤N:=by omega
     have hmde:mid≤e:=by omega
     have hmse:mid + m=s + e:=by omega
     have hmd2:mid < b:=by omega
     have hls0:=hls
     clear hx hlt F1 F2 hls hsr hrh
     have hfk:mid < m∧a < mid:=by omega
     have HE0:=Lib.hid he
     have HLS:=Lib.hid hls0
     clear hf he hls0
     have hsm1:s < m:=by omega
     by_cases hme1:m < e
     · have hme2:s < mid:=by omega
       have cS:decide (s < m)=true:=by simp;omega
       have cE:decide (m < e)=true:=by simp;omega
       have hlm:s < mid:=by omega
       have hmr:mid < e:=by omega
       have lB:decide (s < mid)=true:=by simp;omega
       have rA:decide (mid < e)=true:=by simp;omega
       have HQ:Hid (s≤m):=Lib.hid (by omega)
       by_cases hal:a < s
       ·
         have lA:decide (a < s)=true:=by simp;omega
         by_cases hrb:e < b
         ·
           have rB:decide (e < b)=true:=by simp;omega
           go_wp2_with (first
             | (go_at_fn (ρ.f 42);(with_reducible refine (HK.out.rot d wr s m e S.out hsm1 hme1 heS).mono ?_);rintro r w1 ⟨rfl,d1,hr1,hs1⟩;have R1:=Lib.hid hr1;have S1:Aside (SWC enc k w blk off g lb sf sb d d1 w1):=hs1;have z0:=hs1.c0;have z1:=hs1.c1;have HP:=Lib.hid (sym_parts R1.out has hsm hme heb HMID.out H1.out H2.out HX.out.1 HX.out.2);clear hr1 hs1)
             | (go_at_fn (ρ.f 30);(with_reducible refine (HK.out.sym d1 w1 a s mid S1.out hNl hal hlm hmS HP.out.1 HP.out.2.1).mono ?_);rintro r w2 ⟨rfl,d2,p2,q2,hs2⟩;have P2:=Lib.hid p2;have Q2:=Lib.hid q2;have S2:Aside (SWC enc k w blk off g lb sf sb d d2 w2):=hs2;have z2:=hs2.c0;have z3:=hs2.c1;have HR:=Lib.hid (sym_right hmde HP.out.2.2.1 HP.out.2.2.2.1 p2);clear p2 q2 hs2)
             | (go_at_fn (ρ.f 30);(with_reducible refine (HK.out.sym d2 w2 mid e b S2.out hNr hmr hrb hbS HR.out.1 HR.out.2).mono ?_);rintro r w3 ⟨rfl,d3,p3,q3,hs3⟩;have P3:=Lib.hid p3;have Q3:=Lib.hid q3;have S3:Aside (SWC enc k w blk off g lb sf sb d d3 w3):=hs3;clear p3 q3 hs3)
             | fail)
           go_end0
           have HE:=sym_end R1.out has hsm hme heb HMID.out hb H1.out H2.out HX.out.1 HX.out.2 (.inr ⟨P2.out,Q2.out⟩) (.inr ⟨P3.out,Q3.out⟩)
           exact ⟨rfl,d3,HE.1,HE.2,S3.out.sw⟩
         ·
           have rB:decide (e < b)=false:=by simp;omega
           go_wp2_with (first
             | (go_at_fn (ρ.f 42);(with_reducible refine (HK.out.rot d wr s m e S.out hsm1 hme1 heS).mono ?_);rintro r w1 ⟨rfl,d1,hr1,hs1⟩;have R1:=Lib.hid hr1;have S1:Aside (SWC enc k w blk off g lb sf sb d d1 w1):=hs1;have z0:=hs1.c0;have z1:=hs1.c1;have HP:=Lib.hid (sym_parts R1.out has hsm hme heb HMID.out H1.out H2.out HX.out.1 HX.out.2);clear hr1 hs1)
             | (go_at_fn (ρ.f 30);(with_reducible refine (HK.out.sym d1 w1 a s mid S1.out hNl hal hlm hmS HP.out.1 HP.out.2.1).mono ?_);rintro r w2 ⟨rfl,d2,p2,q2,hs2⟩;have P2:=Lib.hid p2;have Q2:=Lib.hid q2;have S2:Aside (SWC enc k w blk off g lb sf sb d d2 w2):=hs2;have z2:=hs2.c0;have z3:=hs2.c1;have HR:=Lib.hid (sym_right hmde HP.out.2.2.1 HP.out.2.2.2.1 p2);clear p2 q2 hs2)
             | fail)
           go_end0
           have HE:=sym_end R1.out has hsm hme heb HMID.out hb H1.out H2.out HX.out.1 HX.out.2 (.inr ⟨P2.out,Q2.out⟩) (.inl ⟨rfl,by have:=HQ.out;omega⟩)
           exact ⟨rfl,d2,HE.1,HE.2,S2.out.sw⟩
       ·
         have lA:decide (a < s)=false:=by simp;omega
         by_cases hrb:e < b
         · have h1:=HF.out;have h2:=HE0.out;have h3:=HLS.out;omega
         ·
           have rB:decide (e < b)=false:=by simp;omega
           go_wp2_with (first
             | (go_at_fn (ρ.f 42);(with_reducible refine (HK.out.rot d wr s m e S.out hsm1 hme1 heS).mono ?_);rintro r w1 ⟨rfl,d1,hr1,hs1⟩;have R1:=Lib.hid hr1;have S1:Aside (SWC enc k w blk off g lb sf sb d d1 w1):=hs1;have z0:=hs1.c0;have z1:=hs1.c1;have HP:=Lib.hid (sym_parts R1.out has hsm hme heb HMID.out H1.out H2.out HX.out.1 HX.out.2);clear hr1 hs1)
             | fail)
           go_end0
           have HE:=sym_end R1.out has hsm hme heb HMID.out hb H1.out H2.out HX.out.1 HX.out.2 (.inl ⟨rfl,by have:=HQ.out;omega⟩) (.inl ⟨rfl,by have:=HQ.out;omega⟩)
           exact ⟨rfl,d1,HE.1,HE.2,S1.out.sw⟩
     · have HQ:Hid (e=m∧s=mid):=Lib.hid (by omega)
       have hmr:mid < e:=by omega
       have hrb:e < b:=by omega
       have cS:decide (s < m)=true:=by simp;omega
       have cE:decide (m < e)=false:=by simp;omega
       have lB:decide (s < mid)=false:=by simp;omega
       have rA:decide (mid < e)=true:=by simp;omega
       have rB:decide (e < b)=true:=by simp;omega
       by_cases hal:a < s
       ·
         have lA:decide (a < s)=true:=by simp;omega
         have R1:Hid (RotI s e m (m - s) (e - m) d d):=Lib.hid (rot_none _ _ _ _ _ _ (Nat.sub_le _ _) (by have:=HQ.out;omega))
         have HP:=Lib.hid (sym_parts R1.out has hsm hme heb HMID.out H1.out H2.out HX.out.1 HX.out.2)
         have S1:Aside (SWC enc k w blk off g lb sf sb d d wr):=S
         have HR:=Lib.hid (And.intro HP.out.2.2.1 HP.out.2.2.2.1)
         have S2:Aside (SWC enc k w blk off g lb sf sb d d wr):=S1
         go_wp2_with (first
           | (go_at_fn (ρ.f 30);(with_reducible refine (HK.out.sym d wr mid e b S2.out hNr hmr hrb hbS HR.out.1 HR.out.2).mono ?_);rintro r w3 ⟨rfl,d3,p3,q3,hs3⟩;have P3:=Lib.hid p3;have Q3:=Lib.hid q3;have S3:Aside (SWC enc k w blk off g lb sf sb d d3 w3):=hs3;clear p3 q3 hs3)
           | fail)
         go_end0
         have HE:=sym_end R1.out has hsm hme heb HMID.out hb H1.out H2.out HX.out.1 HX.out.2 (.inl ⟨rfl,by have:=HQ.out;omega⟩) (.inr ⟨P3.out,Q3.out⟩)
         exact ⟨rfl,d3,HE.1,HE.2,S3.out.sw⟩
       · have h1:=HF.out;omega
end Go.Proofs.YtddbpnplbcjpgaaGreatDoor
