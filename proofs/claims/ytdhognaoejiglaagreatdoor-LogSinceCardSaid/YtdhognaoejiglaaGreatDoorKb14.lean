import Derived.Test.YtdhognaoejiglaaGreatDoorKbq
import Derived.Test.YtdhognaoejiglaaGreatDoorKb12
namespace Go.Proofs.YtdhognaoejiglaaGreatDoor
open Lib (hid)
set_option maxRecDepth 100000
set_option maxHeartbeats 8000000
open Go.RowKit
theorem Bu {N:Int} {n i:Nat} (h0:0≤N) (hi:i=min N.toNat n):min N (n:Int)=(i:Int):=by
 rw [hi];simp only [Nat.min_def,Int.min_def];split <;> split <;> omega
theorem Bs {N:Int} {n i:Nat} (h0:0≤N) (hi:i=min N.toNat n):(if N≤(n:Int) then N else (n:Int))=(i:Int):=by
 rw [hi];simp only [Nat.min_def];split <;> split <;> omega
theorem ai.grown {w w':World} {base:Nat} {v:Value} {l:List ByteArray} (h:ai w base v l) (hg:w.grownBy w' none):ai w' base v l :=
 World.ownsRow.kept h hg (by cases e:v.ownBlock with
  | none=>exact .inl rfl
  | some g=>exact .inr (by simp))
theorem ai.set {w:World} {base B i:Nat} {v:Value} {l:List ByteArray} (h:ai w base v l) (z:Value) (hne:v.ownBlock≠some B):ai (w.setCell ⟨B,i,none⟩ z) base v l :=
 World.ownsRow.kept h (row:=some B) ⟨rfl,rfl,rfl,by rw [show (w.setCell ⟨B,i,none⟩ z).heap.size=w.heap.size from by simp];exact Nat.le_refl _,fun k _ hk=>heap_setCell_other _ _ _ _ (fun e=>hk (by rw [e]))⟩ (.inr hne)
structure InsW (w W:World) (k t:ByteArray) (h:Bool) (s:Int) (l:Value) (val:ByteArray) (N:Int):Prop where
 rowc:W.heap[w.heap.size]? = some (.cells #[.string k,.bool h,.string t,.int .i64 s,l] 100 (0,0))
 wv:W.cell? ⟨w.heap.size+1,4,none⟩=some (.string val)∧W.cell? ⟨w.heap.size+1,5,none⟩=some (.int .i64 N)
 rowr:W.heap[w.heap.size+1+1]? = some (.cells #[.string ⟨#[]⟩,.bool false,.string ⟨#[]⟩,.int .i64 0,.slice none 0 0] 100 (0,0))
 gr:w.grownBy W none
 sz:w.heap.size+3≤W.heap.size
theorem InsW.on {w W W':World} {k t:ByteArray} {h:Bool} {s:Int} {l:Value} {val:ByteArray} {N:Int} {o:Option Nat} (hi:InsW w W k t h s l val N) (hg:W.grownBy W' o) (ho:∀ g,o=some g→g<w.heap.size) :
 W'.heap[w.heap.size]? = some (.cells #[.string k,.bool h,.string t,.int .i64 s,l] 100 (0,0))∧(W'.cell? ⟨w.heap.size+1,4,none⟩=some (.string val)∧W'.cell? ⟨w.heap.size+1,5,none⟩=some (.int .i64 N)) ∧
 W'.heap[w.heap.size+1+1]? = some (.cells #[.string ⟨#[]⟩,.bool false,.string ⟨#[]⟩,.int .i64 0,.slice none 0 0] 100 (0,0)):=by
 have sz:=hi.sz;have hb:∀ B,w.heap.size≤B→B<W.heap.size→W'.heap[B]? = W.heap[B]? := fun B h1 h2=>hg.block B h2 (fun e=>by have:=ho B e.symm;omega)
 have hc:∀ i,W'.cell? ⟨w.heap.size+1,i,none⟩=W.cell? ⟨w.heap.size+1,i,none⟩:=fun i=>by unfold World.cell?;rw [hb (w.heap.size+1) (by omega) (by omega)]
 exact ⟨(hb _ (by omega) (by omega)).trans hi.rowc,⟨(hc 4).trans hi.wv.1,(hc 5).trans hi.wv.2⟩,(hb _ (by omega) (by omega)).trans hi.rowr⟩
theorem InsW.grown {w W W':World} {k t:ByteArray} {h:Bool} {s:Int} {l:Value} {val:ByteArray} {N:Int} (hi:InsW w W k t h s l val N) (hg:W.grownBy W' none):InsW w W' k t h s l val N:=by
 obtain ⟨h1,h2,h3⟩:=hi.on hg (fun g e=>by cases e);exact ⟨h1,h2,h3,cj hi.gr hg,Nat.le_trans hi.sz hg.size⟩
theorem A6 (w:World) (k t:ByteArray) (h:Bool) (s:Int) (l:Value) (T R K:Int) (key val:ByteArray) (N:Int) :
 InsW w (((w.alloc (.cells #[.string k,.bool h,.string t,.int .i64 s,l] 100)).alloc (.cells #[.int .i64 T,.int .i64 R,.int .i64 K,.string key,.string val,.int .i64 N] 38)).alloc (.cells #[.string ⟨#[]⟩,.bool false,.string ⟨#[]⟩,.int .i64 0,.slice none 0 0] 100)) k t h s l val N:=by
 obtain ⟨h0,h1,h2⟩:=kM w (.cells #[.string k,.bool h,.string t,.int .i64 s,l] 100) (.cells #[.int .i64 T,.int .i64 R,.int .i64 K,.string key,.string val,.int .i64 N] 38) (.cells #[.string ⟨#[]⟩,.bool false,.string ⟨#[]⟩,.int .i64 0,.slice none 0 0] 100);exact ⟨h0,⟨cell_of_row _ _ 4 _ _ _ h1,cell_of_row _ _ 5 _ _ _ h1⟩,h2,kH w _ _ _,by simp⟩
theorem InsW.d {w W:World} {k t:ByteArray} {h:Bool} {s:Int} {l:Value} {val:ByteArray} {N:Int} (hi:InsW w W k t h s l val N):W.cell? ⟨w.heap.size,4,none⟩=some l:=cell_of_row _ _ 4 _ _ _ hi.rowc
theorem InsW.blk {w W:World} {k t:ByteArray} {h:Bool} {s:Int} {l:Value} {val:ByteArray} {N:Int} (_:InsW w W k t h s l val N):ff (W.alloc (.cells #[.string val] 9)) W.heap.size val:=(MapKept.heap_alloc W _).1
theorem InsW.aft {w W W':World} {k t:ByteArray} {h:Bool} {s:Int} {l:Value} {val:ByteArray} {N:Int} {o:Option Nat} (hi:InsW w W k t h s l val N) (hg:W.grownBy W' o) (ho:∀ g,o=some g→g<w.heap.size):Aft w W' k t h s l undef∧(W'.cell? ⟨w.heap.size+1,4,none⟩=some (.string val)∧W'.cell? ⟨w.heap.size+1,5,none⟩=some (.int .i64 N)):=by
 obtain ⟨e0,h2,e2⟩:=hi.on hg ho;obtain ⟨p0,p1,p2,p3,p4,_⟩:=row5 e0;obtain ⟨q0,q1,q2,q3,q4,_⟩:=row5 e2;exact ⟨⟨p0,p1,p2,p3,p4,q0,q1,q2,q3,q4,e2,fun i=>by simp [World.frozen?,e0],fun i=>by simp [World.frozen?,e2]⟩,h2⟩
theorem bG {W:World} {B C i j:Nat} {v:Value} (h:W.cell? ⟨B,i,none⟩=some v) {z:Value} (hne:C≠B):(W.setCell ⟨C,j,none⟩ z).cell? ⟨B,i,none⟩=some v:=by
 rw [World.cell?_setCell_other _ _ _ _ (by intro e;exact hne (by simpa using congrArg Addr.block e))];exact h
theorem dF {w w4:World} {base g cap ln i:Nat} {k t:ByteArray} {h:Bool} {s:Int} {v:Value} {val:ByteArray} {l:List ByteArray} {a:Act}
 (hgr:w.grownBy w4 v.ownBlock) (hown:ai w4 base (.slice (some ⟨g,0,none⟩) (ln+1) cap) (l.take i++val::l.drop i)) (hlo:v.ownBlock=some g∨w.heap.size≤g) (hg1:g≠w.heap.size∧g≠w.heap.size+1+1)
 (hr:w4.heap[w.heap.size+1+1]? = some (.cells #[.string ⟨#[]⟩,.bool false,.string ⟨#[]⟩,.int .i64 0,.slice none 0 0] 100 (0,0)))
 (ha:a.tmps.getD 4 undef=.pointer (some ⟨w.heap.size+1+1,0,none⟩)) (hd:a.defers=[]) (U:World) (hU:U=w4.setCell ⟨w.heap.size,4,none⟩ (.slice (some ⟨g,0,none⟩) (ln+1) cap)) :
 ∀ W,W=((((U.setCell ⟨w.heap.size+1+1,0,none⟩ (.string k)).setCell ⟨w.heap.size+1+1,1,none⟩ (.bool h)).setCell ⟨w.heap.size+1+1,2,none⟩ (.string t)).setCell ⟨w.heap.size+1+1,3,none⟩ (.int .i64 s)).setCell ⟨w.heap.size+1+1,4,none⟩ (.slice (some ⟨g,0,none⟩) (ln+1) cap) →
 bodyPost Tryz.prog Tryz.f75 (fun e w' => ∃ g cap, e = .returned (.agg #[.string k, .bool h, .string t, .int .i64 s, .slice (some ⟨g, 0, none⟩) (ln + 1) cap]) ∧ ai w' base (.slice (some ⟨g, 0, none⟩) (ln + 1) cap) (l.take i ++ val :: l.drop i) ∧
     w.grownBy w' v.ownBlock∧(v.ownBlock=some g∨w.heap.size≤g)) .ret a W:=by
 have hrow:U.heap[w.heap.size+1+1]? = some (.cells #[.string ⟨#[]⟩,.bool false,.string ⟨#[]⟩,.int .i64 0,.slice none 0 0] 100 (0,0)):=by
  rw [hU,heap_setCell_other _ _ _ _ (by show _≠w.heap.size;omega)];exact hr
 have hgU:w.grownBy U v.ownBlock:=by rw [hU];exact bX hgr _ (by omega)
 have hoU:ai U base (.slice (some ⟨g,0,none⟩) (ln+1) cap) (l.take i++val::l.drop i):=by
  rw [hU];exact hown.set _ (by intro e;exact hg1.1 (by simpa [Value.ownBlock] using e))
 have hR:=lD hrow (.string k) (.bool h) (.string t) (.int .i64 s) (.slice (some ⟨g,0,none⟩) (ln+1) cap);have hne:∀ n c,(Value.slice (some ⟨g,0,none⟩) n c).ownBlock≠some (w.heap.size+1+1):=fun n c e=>hg1.2 (by simpa [Value.ownBlock] using e)
 intro W hW;have hgW:w.grownBy W v.ownBlock:=by rw [hW];exact bX (bX (bX (bX (bX hgU _ (by omega)) _ (by omega)) _ (by omega)) _ (by omega)) _ (by omega)
 have hoW:ai W base (.slice (some ⟨g,0,none⟩) (ln+1) cap) (l.take i++val::l.drop i):=by
  rw [hW];exact ((((hoU.set _ (hne _ _)).set _ (hne _ _)).set _ (hne _ _)).set _ (hne _ _)).set _ (hne _ _)
 rw [←hW] at hR;refine bodyPost_ret (v:=.agg #[.string k,.bool h,.string t,.int .i64 s,.slice (some ⟨g,0,none⟩) (ln+1) cap]) (results_cell_row Tryz.results75 _ _ (w.heap.size+1+1) 100 _ _ _ ha hR Tryz.underlying100 rfl (iH _ _ _ _ _)) hd ?_;exact ⟨g,cap,rfl,hoW,hgW,hlo⟩
theorem x8 (k t:ByteArray) (h:Bool) (s:Int) (la:Option Addr) (ln lc:Nat) (l:List ByteArray) (T R:Int) (key val:ByteArray) (N:Int) (i:Nat) (w:World) (base:Nat) (hv:val.size≤140737488351232)
 (ho:ai w base (.slice la ln lc) l) (hn:ln=l.length) (hm:ln≤1000000) (h0:0≤N) (hi:i=min N.toNat ln) (hbs:base≤w.heap.size) :
 Calls Tryz.prog 75 #[.agg #[.string k,.bool h,.string t,.int .i64 s,.slice la ln lc],.agg #[.int .i64 T,.int .i64 R,.int .i64 4,.string key,.string val,.int .i64 N]] w fun e w' =>
  ∃ g cap,e=.returned (.agg #[.string k,.bool h,.string t,.int .i64 s,.slice (some ⟨g,0,none⟩) (ln+1) cap])∧ai w' base (.slice (some ⟨g,0,none⟩) (ln+1) cap) (l.take i++val::l.drop i) ∧
   w.grownBy w' (Value.slice la ln lc).ownBlock∧((Value.slice la ln lc).ownBlock=some g∨w.heap.size≤g):=by
 have hlt:∀ g,(Value.slice la ln lc).ownBlock=some g→g<w.heap.size:=fun g e=>(ho.lt g e).2
 have hne:¬ w.heap.size+1+1=w.heap.size:=by omega
 have hne2:¬ w.heap.size=w.heap.size+1+1:=by omega
 have hne3:¬ w.heap.size+1=w.heap.size:=by omega
 have hne4:¬ w.heap.size=w.heap.size+1:=by omega
 have hmin:=Bu h0 hi;have hmif:=Bs h0 hi;have hln:(ln:Int)≤9223372036854775807:=by omega
 have HO:=hid ho;have HN:=hid hn;have HM:=hid hm;have HI:Hid (i≤ln):=hid (by omega);have HBS:=hid hbs;have HLT:=hid hlt;obtain ⟨S0,hS0⟩:∃ S0,S0=s:=⟨_,rfl⟩;have HW0:=hid (A6 w k t h s (.slice la ln lc) T R 4 key val N);clear ho hn hm hi hbs h0 hlt hS0;go_enter Tryz.func75,Tryz.ntmps75
 go_wp2;obtain ⟨u,hu⟩:∃ u,u=(((w.alloc (.cells #[.string k,.bool h,.string t,.int .i64 s,.slice la ln lc] 100)).alloc (.cells #[.int .i64 T,.int .i64 R,.int .i64 4,.string key,.string val,.int .i64 N] 38)).alloc (.cells #[.string ⟨#[]⟩,.bool false,.string ⟨#[]⟩,.int .i64 0,.slice none 0 0] 100)):=⟨_,rfl⟩;rw [←hu] at HW0 ⊢;have HB:Hid (InsW w u.drew k t h s (.slice la ln lc) val N):=hid (HW0.out.grown (dE (aW _ _)));have k0:=HB.out.wv;have d0:=HB.out.d;clear hu HW0;refine wp_region_held_drew (S:=fun w'=>w'.cell? ⟨w.heap.size+1,4,none⟩=some (.string val)∧w'.cell? ⟨w.heap.size+1,5,none⟩=some (.int .i64 N)) (by kernel_rfl) k0 (fun _=>?_)
 try simp only [Act.put,List.getElem_toArray,List.getElem_cons_zero,List.getElem_cons_succ,List.setIfInBounds_toArray,List.set_cons_zero,List.set_cons_succ]
 -- ORDERS
 refine tkO 0 ?_
 refine tkO 2 ?_
 refine tkO 3 ?_
 refine tkO 4 ?_
 refine tkO 8 ?_
 refine tkO 9 ?_
 refine wpAnyH_ready (rs:=[1,5,10]) (by kernel_rfl) (by simp) ?_;refine AllReadyH.cons rfl (fun K hK=>?_) (AllReadyH.cons rfl (fun K hK=>?_) (AllReadyH.cons rfl (fun K hK=>?_) (AllReadyH.nil)))
 ·go_simp
  refine hK.out _ _ k0 (fun _=>sp ?_);clear hK
  refine wpAnyH_ready (rs:=[5,10]) (by kernel_rfl) (by simp) ?_;refine AllReadyH.cons rfl (fun K hK=>?_) (AllReadyH.cons rfl (fun K hK=>?_) (AllReadyH.nil))
  ·go_simp
   refine hK.out _ _ k0 (fun _=>sp ?_);clear hK
   refine tkO 6 ?_
   refine tkO 7 ?_
   refine wpAnyH_ready (rs:=[10]) (by kernel_rfl) (by simp) ?_;refine AllReadyH.cons rfl (fun K hK=>?_) (AllReadyH.nil)
   ·go_simp
    refine (bP val _ hv).mono ?_;rintro r w1 ⟨rfl,hb1⟩;have HB1:Hid (InsW w w1 k t h s (.slice la ln lc) val N):=hid (HB.out.grown (bM hb1));have k1:=HB1.out.wv;have d1:=HB1.out.d;clear hb1;refine hK.out _ _ k1 (fun _=>sp ?_);clear hK
    refine wpAnyH_ready (rs:=[11]) (by kernel_rfl) (by simp) ?_;refine AllReadyH.cons rfl (fun K hK=>?_) (AllReadyH.nil)
    ·go_simp
     have HB2:Hid (InsW w (w1.alloc (.cells #[.string val] 9)) k t h s (.slice la ln lc) val N):=hid (HB1.out.grown (bI (aW _ _) _));have k2:=HB2.out.wv;have d2:=HB2.out.d;refine hK.out _ _ k2 (fun _=>sp ?_);clear hK
     refine wpAnyH_ready (rs:=[12]) (by kernel_rfl) (by simp) ?_;refine AllReadyH.cons rfl (fun K hK=>?_) AllReadyH.nil
     go_simp
     refine (dJ (.slice la ln lc) i ln w1.heap.size l val _ base (HO.out.grown HB2.out.gr) HN.out HI.out HM.out HB1.out.blk (fun e=>by have:=HLT.out _ e;have:=HB1.out.sz;omega) (Nat.le_trans HBS.out HB2.out.gr.size)).mono ?_;rintro r w4 ⟨g,cap,hr,hown,hgr,hloc,_⟩;obtain ⟨⟨p0,p1,p2,p3,p4,q0,q1,q2,q3,q4,r2,pf,qf⟩,k4⟩:=HB2.out.aft hgr HLT.out;rw [←HN.out] at hr hown;subst hr;have HOW:=hid hown;have HGR:=hid (cj HB2.out.gr hgr);have HLO:Hid ((Value.slice la ln lc).ownBlock=some g∨w.heap.size≤g):=hid (hloc.imp id (fun h5=>Nat.le_trans HB2.out.gr.size h5));have HG1:Hid (g≠w.heap.size∧g≠w.heap.size+1+1):=hid (by have h3:=HB2.out.sz;have h6:=HLT.out g;rcases hloc with h5 | h5;(have:=h6 h5;omega);omega);have R2:=hid r2;have f4:=pf 4;have g0:=qf 0;have g1:=qf 1;have g2:=qf 2;have g3:=qf 3;have g4:=qf 4;clear hown hgr hloc r2 pf qf k0 k1 k2 d0 d1 d2 HB HB1 HB2;refine hK.out _ _ k4 (fun _=>sp ?_);clear hK
     refine tkO 13 ?_
     refine wpAnyH_ready (rs:=[14]) (by kernel_rfl) (by simp) ?_;refine AllReadyH.cons rfl (fun K hK=>?_) AllReadyH.nil
     go_simp
     refine hK.out _ _ ⟨bG k4.1 (by omega),bG k4.2 (by omega)⟩ (fun _=>sp ?_);clear hK
     refine wpAnyH_done (by kernel_rfl) ?_ _;go_wp2;obtain ⟨U,hU⟩:∃ U,U=w4.setCell ⟨w.heap.size,4,none⟩ (.slice (some ⟨g,0,none⟩) (ln+1) cap):=⟨_,rfl⟩;exact dF HGR.out HOW.out HLO.out HG1.out R2.out rfl rfl U hU _ (by rw [hU])
  ·go_simp
   refine (bP val _ hv).mono ?_;rintro r w1 ⟨rfl,hb1⟩;have HB1:Hid (InsW w w1 k t h s (.slice la ln lc) val N):=hid (HB.out.grown (bM hb1));have k1:=HB1.out.wv;have d1:=HB1.out.d;clear hb1;refine hK.out _ _ k1 (fun _=>sp ?_);clear hK
   refine wpAnyH_ready (rs:=[5,11]) (by kernel_rfl) (by simp) ?_;refine AllReadyH.cons rfl (fun K hK=>?_) (AllReadyH.cons rfl (fun K hK=>?_) (AllReadyH.nil))
   ·go_simp
    refine hK.out _ _ k1 (fun _=>sp ?_);clear hK
    refine tkO 6 ?_
    refine tkO 7 ?_
    refine wpAnyH_ready (rs:=[11]) (by kernel_rfl) (by simp) ?_;refine AllReadyH.cons rfl (fun K hK=>?_) (AllReadyH.nil)
    ·go_simp
     have HB2:Hid (InsW w (w1.alloc (.cells #[.string val] 9)) k t h s (.slice la ln lc) val N):=hid (HB1.out.grown (bI (aW _ _) _));have k2:=HB2.out.wv;have d2:=HB2.out.d;refine hK.out _ _ k2 (fun _=>sp ?_);clear hK
     refine wpAnyH_ready (rs:=[12]) (by kernel_rfl) (by simp) ?_;refine AllReadyH.cons rfl (fun K hK=>?_) AllReadyH.nil
     go_simp
     refine (dJ (.slice la ln lc) i ln w1.heap.size l val _ base (HO.out.grown HB2.out.gr) HN.out HI.out HM.out HB1.out.blk (fun e=>by have:=HLT.out _ e;have:=HB1.out.sz;omega) (Nat.le_trans HBS.out HB2.out.gr.size)).mono ?_;rintro r w4 ⟨g,cap,hr,hown,hgr,hloc,_⟩;obtain ⟨⟨p0,p1,p2,p3,p4,q0,q1,q2,q3,q4,r2,pf,qf⟩,k4⟩:=HB2.out.aft hgr HLT.out;rw [←HN.out] at hr hown;subst hr;have HOW:=hid hown;have HGR:=hid (cj HB2.out.gr hgr);have HLO:Hid ((Value.slice la ln lc).ownBlock=some g∨w.heap.size≤g):=hid (hloc.imp id (fun h5=>Nat.le_trans HB2.out.gr.size h5));have HG1:Hid (g≠w.heap.size∧g≠w.heap.size+1+1):=hid (by have h3:=HB2.out.sz;have h6:=HLT.out g;rcases hloc with h5 | h5;(have:=h6 h5;omega);omega);have R2:=hid r2;have f4:=pf 4;have g0:=qf 0;have g1:=qf 1;have g2:=qf 2;have g3:=qf 3;have g4:=qf 4;clear hown hgr hloc r2 pf qf k0 k1 k2 d0 d1 d2 HB HB1 HB2;refine hK.out _ _ k4 (fun _=>sp ?_);clear hK
     refine tkO 13 ?_
     refine wpAnyH_ready (rs:=[14]) (by kernel_rfl) (by simp) ?_;refine AllReadyH.cons rfl (fun K hK=>?_) AllReadyH.nil
     go_simp
     refine hK.out _ _ ⟨bG k4.1 (by omega),bG k4.2 (by omega)⟩ (fun _=>sp ?_);clear hK
     refine wpAnyH_done (by kernel_rfl) ?_ _;go_wp2;obtain ⟨U,hU⟩:∃ U,U=w4.setCell ⟨w.heap.size,4,none⟩ (.slice (some ⟨g,0,none⟩) (ln+1) cap):=⟨_,rfl⟩;exact dF HGR.out HOW.out HLO.out HG1.out R2.out rfl rfl U hU _ (by rw [hU])
   ·go_simp
    have HB2:Hid (InsW w (w1.alloc (.cells #[.string val] 9)) k t h s (.slice la ln lc) val N):=hid (HB1.out.grown (bI (aW _ _) _));have k2:=HB2.out.wv;have d2:=HB2.out.d;refine hK.out _ _ k2 (fun _=>sp ?_);clear hK
    refine wpAnyH_ready (rs:=[5]) (by kernel_rfl) (by simp) ?_;refine AllReadyH.cons rfl (fun K hK=>?_) (AllReadyH.nil)
    ·go_simp
     refine hK.out _ _ k2 (fun _=>sp ?_);clear hK
     refine tkO 6 ?_
     refine tkO 7 ?_
     refine wpAnyH_ready (rs:=[12]) (by kernel_rfl) (by simp) ?_;refine AllReadyH.cons rfl (fun K hK=>?_) AllReadyH.nil
     go_simp
     refine (dJ (.slice la ln lc) i ln w1.heap.size l val _ base (HO.out.grown HB2.out.gr) HN.out HI.out HM.out HB1.out.blk (fun e=>by have:=HLT.out _ e;have:=HB1.out.sz;omega) (Nat.le_trans HBS.out HB2.out.gr.size)).mono ?_;rintro r w4 ⟨g,cap,hr,hown,hgr,hloc,_⟩;obtain ⟨⟨p0,p1,p2,p3,p4,q0,q1,q2,q3,q4,r2,pf,qf⟩,k4⟩:=HB2.out.aft hgr HLT.out;rw [←HN.out] at hr hown;subst hr;have HOW:=hid hown;have HGR:=hid (cj HB2.out.gr hgr);have HLO:Hid ((Value.slice la ln lc).ownBlock=some g∨w.heap.size≤g):=hid (hloc.imp id (fun h5=>Nat.le_trans HB2.out.gr.size h5));have HG1:Hid (g≠w.heap.size∧g≠w.heap.size+1+1):=hid (by have h3:=HB2.out.sz;have h6:=HLT.out g;rcases hloc with h5 | h5;(have:=h6 h5;omega);omega);have R2:=hid r2;have f4:=pf 4;have g0:=qf 0;have g1:=qf 1;have g2:=qf 2;have g3:=qf 3;have g4:=qf 4;clear hown hgr hloc r2 pf qf k0 k1 k2 d0 d1 d2 HB HB1 HB2;refine hK.out _ _ k4 (fun _=>sp ?_);clear hK
     refine tkO 13 ?_
     refine wpAnyH_ready (rs:=[14]) (by kernel_rfl) (by simp) ?_;refine AllReadyH.cons rfl (fun K hK=>?_) AllReadyH.nil
     go_simp
     refine hK.out _ _ ⟨bG k4.1 (by omega),bG k4.2 (by omega)⟩ (fun _=>sp ?_);clear hK
     refine wpAnyH_done (by kernel_rfl) ?_ _;go_wp2;obtain ⟨U,hU⟩:∃ U,U=w4.setCell ⟨w.heap.size,4,none⟩ (.slice (some ⟨g,0,none⟩) (ln+1) cap):=⟨_,rfl⟩;exact dF HGR.out HOW.out HLO.out HG1.out R2.out rfl rfl U hU _ (by rw [hU])
 ·go_simp
  refine hK.out _ _ k0 (fun _=>sp ?_);clear hK
  refine tkO 6 ?_
  refine tkO 7 ?_
  refine wpAnyH_ready (rs:=[1,10]) (by kernel_rfl) (by simp) ?_;refine AllReadyH.cons rfl (fun K hK=>?_) (AllReadyH.cons rfl (fun K hK=>?_) (AllReadyH.nil))
  ·go_simp
   refine hK.out _ _ k0 (fun _=>sp ?_);clear hK
   refine wpAnyH_ready (rs:=[10]) (by kernel_rfl) (by simp) ?_;refine AllReadyH.cons rfl (fun K hK=>?_) (AllReadyH.nil)
   ·go_simp
    refine (bP val _ hv).mono ?_;rintro r w1 ⟨rfl,hb1⟩;have HB1:Hid (InsW w w1 k t h s (.slice la ln lc) val N):=hid (HB.out.grown (bM hb1));have k1:=HB1.out.wv;have d1:=HB1.out.d;clear hb1;refine hK.out _ _ k1 (fun _=>sp ?_);clear hK
    refine wpAnyH_ready (rs:=[11]) (by kernel_rfl) (by simp) ?_;refine AllReadyH.cons rfl (fun K hK=>?_) (AllReadyH.nil)
    ·go_simp
     have HB2:Hid (InsW w (w1.alloc (.cells #[.string val] 9)) k t h s (.slice la ln lc) val N):=hid (HB1.out.grown (bI (aW _ _) _));have k2:=HB2.out.wv;have d2:=HB2.out.d;refine hK.out _ _ k2 (fun _=>sp ?_);clear hK
     refine wpAnyH_ready (rs:=[12]) (by kernel_rfl) (by simp) ?_;refine AllReadyH.cons rfl (fun K hK=>?_) AllReadyH.nil
     go_simp
     refine (dJ (.slice la ln lc) i ln w1.heap.size l val _ base (HO.out.grown HB2.out.gr) HN.out HI.out HM.out HB1.out.blk (fun e=>by have:=HLT.out _ e;have:=HB1.out.sz;omega) (Nat.le_trans HBS.out HB2.out.gr.size)).mono ?_;rintro r w4 ⟨g,cap,hr,hown,hgr,hloc,_⟩;obtain ⟨⟨p0,p1,p2,p3,p4,q0,q1,q2,q3,q4,r2,pf,qf⟩,k4⟩:=HB2.out.aft hgr HLT.out;rw [←HN.out] at hr hown;subst hr;have HOW:=hid hown;have HGR:=hid (cj HB2.out.gr hgr);have HLO:Hid ((Value.slice la ln lc).ownBlock=some g∨w.heap.size≤g):=hid (hloc.imp id (fun h5=>Nat.le_trans HB2.out.gr.size h5));have HG1:Hid (g≠w.heap.size∧g≠w.heap.size+1+1):=hid (by have h3:=HB2.out.sz;have h6:=HLT.out g;rcases hloc with h5 | h5;(have:=h6 h5;omega);omega);have R2:=hid r2;have f4:=pf 4;have g0:=qf 0;have g1:=qf 1;have g2:=qf 2;have g3:=qf 3;have g4:=qf 4;clear hown hgr hloc r2 pf qf k0 k1 k2 d0 d1 d2 HB HB1 HB2;refine hK.out _ _ k4 (fun _=>sp ?_);clear hK
     refine tkO 13 ?_
     refine wpAnyH_ready (rs:=[14]) (by kernel_rfl) (by simp) ?_;refine AllReadyH.cons rfl (fun K hK=>?_) AllReadyH.nil
     go_simp
     refine hK.out _ _ ⟨bG k4.1 (by omega),bG k4.2 (by omega)⟩ (fun _=>sp ?_);clear hK
     refine wpAnyH_done (by kernel_rfl) ?_ _;go_wp2;obtain ⟨U,hU⟩:∃ U,U=w4.setCell ⟨w.heap.size,4,none⟩ (.slice (some ⟨g,0,none⟩) (ln+1) cap):=⟨_,rfl⟩;exact dF HGR.out HOW.out HLO.out HG1.out R2.out rfl rfl U hU _ (by rw [hU])
  ·go_simp
   refine (bP val _ hv).mono ?_;rintro r w1 ⟨rfl,hb1⟩;have HB1:Hid (InsW w w1 k t h s (.slice la ln lc) val N):=hid (HB.out.grown (bM hb1));have k1:=HB1.out.wv;have d1:=HB1.out.d;clear hb1;refine hK.out _ _ k1 (fun _=>sp ?_);clear hK
   refine wpAnyH_ready (rs:=[1,11]) (by kernel_rfl) (by simp) ?_;refine AllReadyH.cons rfl (fun K hK=>?_) (AllReadyH.cons rfl (fun K hK=>?_) (AllReadyH.nil))
   ·go_simp
    refine hK.out _ _ k1 (fun _=>sp ?_);clear hK
    refine wpAnyH_ready (rs:=[11]) (by kernel_rfl) (by simp) ?_;refine AllReadyH.cons rfl (fun K hK=>?_) (AllReadyH.nil)
    ·go_simp
     have HB2:Hid (InsW w (w1.alloc (.cells #[.string val] 9)) k t h s (.slice la ln lc) val N):=hid (HB1.out.grown (bI (aW _ _) _));have k2:=HB2.out.wv;have d2:=HB2.out.d;refine hK.out _ _ k2 (fun _=>sp ?_);clear hK
     refine wpAnyH_ready (rs:=[12]) (by kernel_rfl) (by simp) ?_;refine AllReadyH.cons rfl (fun K hK=>?_) AllReadyH.nil
     go_simp
     refine (dJ (.slice la ln lc) i ln w1.heap.size l val _ base (HO.out.grown HB2.out.gr) HN.out HI.out HM.out HB1.out.blk (fun e=>by have:=HLT.out _ e;have:=HB1.out.sz;omega) (Nat.le_trans HBS.out HB2.out.gr.size)).mono ?_;rintro r w4 ⟨g,cap,hr,hown,hgr,hloc,_⟩;obtain ⟨⟨p0,p1,p2,p3,p4,q0,q1,q2,q3,q4,r2,pf,qf⟩,k4⟩:=HB2.out.aft hgr HLT.out;rw [←HN.out] at hr hown;subst hr;have HOW:=hid hown;have HGR:=hid (cj HB2.out.gr hgr);have HLO:Hid ((Value.slice la ln lc).ownBlock=some g∨w.heap.size≤g):=hid (hloc.imp id (fun h5=>Nat.le_trans HB2.out.gr.size h5));have HG1:Hid (g≠w.heap.size∧g≠w.heap.size+1+1):=hid (by have h3:=HB2.out.sz;have h6:=HLT.out g;rcases hloc with h5 | h5;(have:=h6 h5;omega);omega);have R2:=hid r2;have f4:=pf 4;have g0:=qf 0;have g1:=qf 1;have g2:=qf 2;have g3:=qf 3;have g4:=qf 4;clear hown hgr hloc r2 pf qf k0 k1 k2 d0 d1 d2 HB HB1 HB2;refine hK.out _ _ k4 (fun _=>sp ?_);clear hK
     refine tkO 13 ?_
     refine wpAnyH_ready (rs:=[14]) (by kernel_rfl) (by simp) ?_;refine AllReadyH.cons rfl (fun K hK=>?_) AllReadyH.nil
     go_simp
     refine hK.out _ _ ⟨bG k4.1 (by omega),bG k4.2 (by omega)⟩ (fun _=>sp ?_);clear hK
     refine wpAnyH_done (by kernel_rfl) ?_ _;go_wp2;obtain ⟨U,hU⟩:∃ U,U=w4.setCell ⟨w.heap.size,4,none⟩ (.slice (some ⟨g,0,none⟩) (ln+1) cap):=⟨_,rfl⟩;exact dF HGR.out HOW.out HLO.out HG1.out R2.out rfl rfl U hU _ (by rw [hU])
   ·go_simp
    have HB2:Hid (InsW w (w1.alloc (.cells #[.string val] 9)) k t h s (.slice la ln lc) val N):=hid (HB1.out.grown (bI (aW _ _) _));have k2:=HB2.out.wv;have d2:=HB2.out.d;refine hK.out _ _ k2 (fun _=>sp ?_);clear hK
    refine wpAnyH_ready (rs:=[1]) (by kernel_rfl) (by simp) ?_;refine AllReadyH.cons rfl (fun K hK=>?_) (AllReadyH.nil)
    ·go_simp
     refine hK.out _ _ k2 (fun _=>sp ?_);clear hK
     refine wpAnyH_ready (rs:=[12]) (by kernel_rfl) (by simp) ?_;refine AllReadyH.cons rfl (fun K hK=>?_) AllReadyH.nil
     go_simp
     refine (dJ (.slice la ln lc) i ln w1.heap.size l val _ base (HO.out.grown HB2.out.gr) HN.out HI.out HM.out HB1.out.blk (fun e=>by have:=HLT.out _ e;have:=HB1.out.sz;omega) (Nat.le_trans HBS.out HB2.out.gr.size)).mono ?_;rintro r w4 ⟨g,cap,hr,hown,hgr,hloc,_⟩;obtain ⟨⟨p0,p1,p2,p3,p4,q0,q1,q2,q3,q4,r2,pf,qf⟩,k4⟩:=HB2.out.aft hgr HLT.out;rw [←HN.out] at hr hown;subst hr;have HOW:=hid hown;have HGR:=hid (cj HB2.out.gr hgr);have HLO:Hid ((Value.slice la ln lc).ownBlock=some g∨w.heap.size≤g):=hid (hloc.imp id (fun h5=>Nat.le_trans HB2.out.gr.size h5));have HG1:Hid (g≠w.heap.size∧g≠w.heap.size+1+1):=hid (by have h3:=HB2.out.sz;have h6:=HLT.out g;rcases hloc with h5 | h5;(have:=h6 h5;omega);omega);have R2:=hid r2;have f4:=pf 4;have g0:=qf 0;have g1:=qf 1;have g2:=qf 2;have g3:=qf 3;have g4:=qf 4;clear hown hgr hloc r2 pf qf k0 k1 k2 d0 d1 d2 HB HB1 HB2;refine hK.out _ _ k4 (fun _=>sp ?_);clear hK
     refine tkO 13 ?_
     refine wpAnyH_ready (rs:=[14]) (by kernel_rfl) (by simp) ?_;refine AllReadyH.cons rfl (fun K hK=>?_) AllReadyH.nil
     go_simp
     refine hK.out _ _ ⟨bG k4.1 (by omega),bG k4.2 (by omega)⟩ (fun _=>sp ?_);clear hK
     refine wpAnyH_done (by kernel_rfl) ?_ _;go_wp2;obtain ⟨U,hU⟩:∃ U,U=w4.setCell ⟨w.heap.size,4,none⟩ (.slice (some ⟨g,0,none⟩) (ln+1) cap):=⟨_,rfl⟩;exact dF HGR.out HOW.out HLO.out HG1.out R2.out rfl rfl U hU _ (by rw [hU])
 ·go_simp
  refine (bP val _ hv).mono ?_;rintro r w1 ⟨rfl,hb1⟩;have HB1:Hid (InsW w w1 k t h s (.slice la ln lc) val N):=hid (HB.out.grown (bM hb1));have k1:=HB1.out.wv;have d1:=HB1.out.d;clear hb1;refine hK.out _ _ k1 (fun _=>sp ?_);clear hK
  refine wpAnyH_ready (rs:=[1,5,11]) (by kernel_rfl) (by simp) ?_;refine AllReadyH.cons rfl (fun K hK=>?_) (AllReadyH.cons rfl (fun K hK=>?_) (AllReadyH.cons rfl (fun K hK=>?_) (AllReadyH.nil)))
  ·go_simp
   refine hK.out _ _ k1 (fun _=>sp ?_);clear hK
   refine wpAnyH_ready (rs:=[5,11]) (by kernel_rfl) (by simp) ?_;refine AllReadyH.cons rfl (fun K hK=>?_) (AllReadyH.cons rfl (fun K hK=>?_) (AllReadyH.nil))
   ·go_simp
    refine hK.out _ _ k1 (fun _=>sp ?_);clear hK
    refine tkO 6 ?_
    refine tkO 7 ?_
    refine wpAnyH_ready (rs:=[11]) (by kernel_rfl) (by simp) ?_;refine AllReadyH.cons rfl (fun K hK=>?_) (AllReadyH.nil)
    ·go_simp
     have HB2:Hid (InsW w (w1.alloc (.cells #[.string val] 9)) k t h s (.slice la ln lc) val N):=hid (HB1.out.grown (bI (aW _ _) _));have k2:=HB2.out.wv;have d2:=HB2.out.d;refine hK.out _ _ k2 (fun _=>sp ?_);clear hK
     refine wpAnyH_ready (rs:=[12]) (by kernel_rfl) (by simp) ?_;refine AllReadyH.cons rfl (fun K hK=>?_) AllReadyH.nil
     go_simp
     refine (dJ (.slice la ln lc) i ln w1.heap.size l val _ base (HO.out.grown HB2.out.gr) HN.out HI.out HM.out HB1.out.blk (fun e=>by have:=HLT.out _ e;have:=HB1.out.sz;omega) (Nat.le_trans HBS.out HB2.out.gr.size)).mono ?_;rintro r w4 ⟨g,cap,hr,hown,hgr,hloc,_⟩;obtain ⟨⟨p0,p1,p2,p3,p4,q0,q1,q2,q3,q4,r2,pf,qf⟩,k4⟩:=HB2.out.aft hgr HLT.out;rw [←HN.out] at hr hown;subst hr;have HOW:=hid hown;have HGR:=hid (cj HB2.out.gr hgr);have HLO:Hid ((Value.slice la ln lc).ownBlock=some g∨w.heap.size≤g):=hid (hloc.imp id (fun h5=>Nat.le_trans HB2.out.gr.size h5));have HG1:Hid (g≠w.heap.size∧g≠w.heap.size+1+1):=hid (by have h3:=HB2.out.sz;have h6:=HLT.out g;rcases hloc with h5 | h5;(have:=h6 h5;omega);omega);have R2:=hid r2;have f4:=pf 4;have g0:=qf 0;have g1:=qf 1;have g2:=qf 2;have g3:=qf 3;have g4:=qf 4;clear hown hgr hloc r2 pf qf k0 k1 k2 d0 d1 d2 HB HB1 HB2;refine hK.out _ _ k4 (fun _=>sp ?_);clear hK
     refine tkO 13 ?_
     refine wpAnyH_ready (rs:=[14]) (by kernel_rfl) (by simp) ?_;refine AllReadyH.cons rfl (fun K hK=>?_) AllReadyH.nil
     go_simp
     refine hK.out _ _ ⟨bG k4.1 (by omega),bG k4.2 (by omega)⟩ (fun _=>sp ?_);clear hK
     refine wpAnyH_done (by kernel_rfl) ?_ _;go_wp2;obtain ⟨U,hU⟩:∃ U,U=w4.setCell ⟨w.heap.size,4,none⟩ (.slice (some ⟨g,0,none⟩) (ln+1) cap):=⟨_,rfl⟩;exact dF HGR.out HOW.out HLO.out HG1.out R2.out rfl rfl U hU _ (by rw [hU])
   ·go_simp
    have HB2:Hid (InsW w (w1.alloc (.cells #[.string val] 9)) k t h s (.slice la ln lc) val N):=hid (HB1.out.grown (bI (aW _ _) _));have k2:=HB2.out.wv;have d2:=HB2.out.d;refine hK.out _ _ k2 (fun _=>sp ?_);clear hK
    refine wpAnyH_ready (rs:=[5]) (by kernel_rfl) (by simp) ?_;refine AllReadyH.cons rfl (fun K hK=>?_) (AllReadyH.nil)
    ·go_simp
     refine hK.out _ _ k2 (fun _=>sp ?_);clear hK
     refine tkO 6 ?_
     refine tkO 7 ?_
     refine wpAnyH_ready (rs:=[12]) (by kernel_rfl) (by simp) ?_;refine AllReadyH.cons rfl (fun K hK=>?_) AllReadyH.nil
     go_simp
     refine (dJ (.slice la ln lc) i ln w1.heap.size l val _ base (HO.out.grown HB2.out.gr) HN.out HI.out HM.out HB1.out.blk (fun e=>by have:=HLT.out _ e;have:=HB1.out.sz;omega) (Nat.le_trans HBS.out HB2.out.gr.size)).mono ?_;rintro r w4 ⟨g,cap,hr,hown,hgr,hloc,_⟩;obtain ⟨⟨p0,p1,p2,p3,p4,q0,q1,q2,q3,q4,r2,pf,qf⟩,k4⟩:=HB2.out.aft hgr HLT.out;rw [←HN.out] at hr hown;subst hr;have HOW:=hid hown;have HGR:=hid (cj HB2.out.gr hgr);have HLO:Hid ((Value.slice la ln lc).ownBlock=some g∨w.heap.size≤g):=hid (hloc.imp id (fun h5=>Nat.le_trans HB2.out.gr.size h5));have HG1:Hid (g≠w.heap.size∧g≠w.heap.size+1+1):=hid (by have h3:=HB2.out.sz;have h6:=HLT.out g;rcases hloc with h5 | h5;(have:=h6 h5;omega);omega);have R2:=hid r2;have f4:=pf 4;have g0:=qf 0;have g1:=qf 1;have g2:=qf 2;have g3:=qf 3;have g4:=qf 4;clear hown hgr hloc r2 pf qf k0 k1 k2 d0 d1 d2 HB HB1 HB2;refine hK.out _ _ k4 (fun _=>sp ?_);clear hK
     refine tkO 13 ?_
     refine wpAnyH_ready (rs:=[14]) (by kernel_rfl) (by simp) ?_;refine AllReadyH.cons rfl (fun K hK=>?_) AllReadyH.nil
     go_simp
     refine hK.out _ _ ⟨bG k4.1 (by omega),bG k4.2 (by omega)⟩ (fun _=>sp ?_);clear hK
     refine wpAnyH_done (by kernel_rfl) ?_ _;go_wp2;obtain ⟨U,hU⟩:∃ U,U=w4.setCell ⟨w.heap.size,4,none⟩ (.slice (some ⟨g,0,none⟩) (ln+1) cap):=⟨_,rfl⟩;exact dF HGR.out HOW.out HLO.out HG1.out R2.out rfl rfl U hU _ (by rw [hU])
  ·go_simp
   refine hK.out _ _ k1 (fun _=>sp ?_);clear hK
   refine tkO 6 ?_
   refine tkO 7 ?_
   refine wpAnyH_ready (rs:=[1,11]) (by kernel_rfl) (by simp) ?_;refine AllReadyH.cons rfl (fun K hK=>?_) (AllReadyH.cons rfl (fun K hK=>?_) (AllReadyH.nil))
   ·go_simp
    refine hK.out _ _ k1 (fun _=>sp ?_);clear hK
    refine wpAnyH_ready (rs:=[11]) (by kernel_rfl) (by simp) ?_;refine AllReadyH.cons rfl (fun K hK=>?_) (AllReadyH.nil)
    ·go_simp
     have HB2:Hid (InsW w (w1.alloc (.cells #[.string val] 9)) k t h s (.slice la ln lc) val N):=hid (HB1.out.grown (bI (aW _ _) _));have k2:=HB2.out.wv;have d2:=HB2.out.d;refine hK.out _ _ k2 (fun _=>sp ?_);clear hK
     refine wpAnyH_ready (rs:=[12]) (by kernel_rfl) (by simp) ?_;refine AllReadyH.cons rfl (fun K hK=>?_) AllReadyH.nil
     go_simp
     refine (dJ (.slice la ln lc) i ln w1.heap.size l val _ base (HO.out.grown HB2.out.gr) HN.out HI.out HM.out HB1.out.blk (fun e=>by have:=HLT.out _ e;have:=HB1.out.sz;omega) (Nat.le_trans HBS.out HB2.out.gr.size)).mono ?_;rintro r w4 ⟨g,cap,hr,hown,hgr,hloc,_⟩;obtain ⟨⟨p0,p1,p2,p3,p4,q0,q1,q2,q3,q4,r2,pf,qf⟩,k4⟩:=HB2.out.aft hgr HLT.out;rw [←HN.out] at hr hown;subst hr;have HOW:=hid hown;have HGR:=hid (cj HB2.out.gr hgr);have HLO:Hid ((Value.slice la ln lc).ownBlock=some g∨w.heap.size≤g):=hid (hloc.imp id (fun h5=>Nat.le_trans HB2.out.gr.size h5));have HG1:Hid (g≠w.heap.size∧g≠w.heap.size+1+1):=hid (by have h3:=HB2.out.sz;have h6:=HLT.out g;rcases hloc with h5 | h5;(have:=h6 h5;omega);omega);have R2:=hid r2;have f4:=pf 4;have g0:=qf 0;have g1:=qf 1;have g2:=qf 2;have g3:=qf 3;have g4:=qf 4;clear hown hgr hloc r2 pf qf k0 k1 k2 d0 d1 d2 HB HB1 HB2;refine hK.out _ _ k4 (fun _=>sp ?_);clear hK
     refine tkO 13 ?_
     refine wpAnyH_ready (rs:=[14]) (by kernel_rfl) (by simp) ?_;refine AllReadyH.cons rfl (fun K hK=>?_) AllReadyH.nil
     go_simp
     refine hK.out _ _ ⟨bG k4.1 (by omega),bG k4.2 (by omega)⟩ (fun _=>sp ?_);clear hK
     refine wpAnyH_done (by kernel_rfl) ?_ _;go_wp2;obtain ⟨U,hU⟩:∃ U,U=w4.setCell ⟨w.heap.size,4,none⟩ (.slice (some ⟨g,0,none⟩) (ln+1) cap):=⟨_,rfl⟩;exact dF HGR.out HOW.out HLO.out HG1.out R2.out rfl rfl U hU _ (by rw [hU])
   ·go_simp
    have HB2:Hid (InsW w (w1.alloc (.cells #[.string val] 9)) k t h s (.slice la ln lc) val N):=hid (HB1.out.grown (bI (aW _ _) _));have k2:=HB2.out.wv;have d2:=HB2.out.d;refine hK.out _ _ k2 (fun _=>sp ?_);clear hK
    refine wpAnyH_ready (rs:=[1]) (by kernel_rfl) (by simp) ?_;refine AllReadyH.cons rfl (fun K hK=>?_) (AllReadyH.nil)
    ·go_simp
     refine hK.out _ _ k2 (fun _=>sp ?_);clear hK
     refine wpAnyH_ready (rs:=[12]) (by kernel_rfl) (by simp) ?_;refine AllReadyH.cons rfl (fun K hK=>?_) AllReadyH.nil
     go_simp
     refine (dJ (.slice la ln lc) i ln w1.heap.size l val _ base (HO.out.grown HB2.out.gr) HN.out HI.out HM.out HB1.out.blk (fun e=>by have:=HLT.out _ e;have:=HB1.out.sz;omega) (Nat.le_trans HBS.out HB2.out.gr.size)).mono ?_;rintro r w4 ⟨g,cap,hr,hown,hgr,hloc,_⟩;obtain ⟨⟨p0,p1,p2,p3,p4,q0,q1,q2,q3,q4,r2,pf,qf⟩,k4⟩:=HB2.out.aft hgr HLT.out;rw [←HN.out] at hr hown;subst hr;have HOW:=hid hown;have HGR:=hid (cj HB2.out.gr hgr);have HLO:Hid ((Value.slice la ln lc).ownBlock=some g∨w.heap.size≤g):=hid (hloc.imp id (fun h5=>Nat.le_trans HB2.out.gr.size h5));have HG1:Hid (g≠w.heap.size∧g≠w.heap.size+1+1):=hid (by have h3:=HB2.out.sz;have h6:=HLT.out g;rcases hloc with h5 | h5;(have:=h6 h5;omega);omega);have R2:=hid r2;have f4:=pf 4;have g0:=qf 0;have g1:=qf 1;have g2:=qf 2;have g3:=qf 3;have g4:=qf 4;clear hown hgr hloc r2 pf qf k0 k1 k2 d0 d1 d2 HB HB1 HB2;refine hK.out _ _ k4 (fun _=>sp ?_);clear hK
     refine tkO 13 ?_
     refine wpAnyH_ready (rs:=[14]) (by kernel_rfl) (by simp) ?_;refine AllReadyH.cons rfl (fun K hK=>?_) AllReadyH.nil
     go_simp
     refine hK.out _ _ ⟨bG k4.1 (by omega),bG k4.2 (by omega)⟩ (fun _=>sp ?_);clear hK
     refine wpAnyH_done (by kernel_rfl) ?_ _;go_wp2;obtain ⟨U,hU⟩:∃ U,U=w4.setCell ⟨w.heap.size,4,none⟩ (.slice (some ⟨g,0,none⟩) (ln+1) cap):=⟨_,rfl⟩;exact dF HGR.out HOW.out HLO.out HG1.out R2.out rfl rfl U hU _ (by rw [hU])
  ·go_simp
   have HB2:Hid (InsW w (w1.alloc (.cells #[.string val] 9)) k t h s (.slice la ln lc) val N):=hid (HB1.out.grown (bI (aW _ _) _));have k2:=HB2.out.wv;have d2:=HB2.out.d;refine hK.out _ _ k2 (fun _=>sp ?_);clear hK
   refine wpAnyH_ready (rs:=[1,5]) (by kernel_rfl) (by simp) ?_;refine AllReadyH.cons rfl (fun K hK=>?_) (AllReadyH.cons rfl (fun K hK=>?_) (AllReadyH.nil))
   ·go_simp
    refine hK.out _ _ k2 (fun _=>sp ?_);clear hK
    refine wpAnyH_ready (rs:=[5]) (by kernel_rfl) (by simp) ?_;refine AllReadyH.cons rfl (fun K hK=>?_) (AllReadyH.nil)
    ·go_simp
     refine hK.out _ _ k2 (fun _=>sp ?_);clear hK
     refine tkO 6 ?_
     refine tkO 7 ?_
     refine wpAnyH_ready (rs:=[12]) (by kernel_rfl) (by simp) ?_;refine AllReadyH.cons rfl (fun K hK=>?_) AllReadyH.nil
     go_simp
     refine (dJ (.slice la ln lc) i ln w1.heap.size l val _ base (HO.out.grown HB2.out.gr) HN.out HI.out HM.out HB1.out.blk (fun e=>by have:=HLT.out _ e;have:=HB1.out.sz;omega) (Nat.le_trans HBS.out HB2.out.gr.size)).mono ?_;rintro r w4 ⟨g,cap,hr,hown,hgr,hloc,_⟩;obtain ⟨⟨p0,p1,p2,p3,p4,q0,q1,q2,q3,q4,r2,pf,qf⟩,k4⟩:=HB2.out.aft hgr HLT.out;rw [←HN.out] at hr hown;subst hr;have HOW:=hid hown;have HGR:=hid (cj HB2.out.gr hgr);have HLO:Hid ((Value.slice la ln lc).ownBlock=some g∨w.heap.size≤g):=hid (hloc.imp id (fun h5=>Nat.le_trans HB2.out.gr.size h5));have HG1:Hid (g≠w.heap.size∧g≠w.heap.size+1+1):=hid (by have h3:=HB2.out.sz;have h6:=HLT.out g;rcases hloc with h5 | h5;(have:=h6 h5;omega);omega);have R2:=hid r2;have f4:=pf 4;have g0:=qf 0;have g1:=qf 1;have g2:=qf 2;have g3:=qf 3;have g4:=qf 4;clear hown hgr hloc r2 pf qf k0 k1 k2 d0 d1 d2 HB HB1 HB2;refine hK.out _ _ k4 (fun _=>sp ?_);clear hK
     refine tkO 13 ?_
     refine wpAnyH_ready (rs:=[14]) (by kernel_rfl) (by simp) ?_;refine AllReadyH.cons rfl (fun K hK=>?_) AllReadyH.nil
     go_simp
     refine hK.out _ _ ⟨bG k4.1 (by omega),bG k4.2 (by omega)⟩ (fun _=>sp ?_);clear hK
     refine wpAnyH_done (by kernel_rfl) ?_ _;go_wp2;obtain ⟨U,hU⟩:∃ U,U=w4.setCell ⟨w.heap.size,4,none⟩ (.slice (some ⟨g,0,none⟩) (ln+1) cap):=⟨_,rfl⟩;exact dF HGR.out HOW.out HLO.out HG1.out R2.out rfl rfl U hU _ (by rw [hU])
   ·go_simp
    refine hK.out _ _ k2 (fun _=>sp ?_);clear hK
    refine tkO 6 ?_
    refine tkO 7 ?_
    refine wpAnyH_ready (rs:=[1]) (by kernel_rfl) (by simp) ?_;refine AllReadyH.cons rfl (fun K hK=>?_) (AllReadyH.nil)
    ·go_simp
     refine hK.out _ _ k2 (fun _=>sp ?_);clear hK
     refine wpAnyH_ready (rs:=[12]) (by kernel_rfl) (by simp) ?_;refine AllReadyH.cons rfl (fun K hK=>?_) AllReadyH.nil
     go_simp
     refine (dJ (.slice la ln lc) i ln w1.heap.size l val _ base (HO.out.grown HB2.out.gr) HN.out HI.out HM.out HB1.out.blk (fun e=>by have:=HLT.out _ e;have:=HB1.out.sz;omega) (Nat.le_trans HBS.out HB2.out.gr.size)).mono ?_;rintro r w4 ⟨g,cap,hr,hown,hgr,hloc,_⟩;obtain ⟨⟨p0,p1,p2,p3,p4,q0,q1,q2,q3,q4,r2,pf,qf⟩,k4⟩:=HB2.out.aft hgr HLT.out;rw [←HN.out] at hr hown;subst hr;have HOW:=hid hown;have HGR:=hid (cj HB2.out.gr hgr);have HLO:Hid ((Value.slice la ln lc).ownBlock=some g∨w.heap.size≤g):=hid (hloc.imp id (fun h5=>Nat.le_trans HB2.out.gr.size h5));have HG1:Hid (g≠w.heap.size∧g≠w.heap.size+1+1):=hid (by have h3:=HB2.out.sz;have h6:=HLT.out g;rcases hloc with h5 | h5;(have:=h6 h5;omega);omega);have R2:=hid r2;have f4:=pf 4;have g0:=qf 0;have g1:=qf 1;have g2:=qf 2;have g3:=qf 3;have g4:=qf 4;clear hown hgr hloc r2 pf qf k0 k1 k2 d0 d1 d2 HB HB1 HB2;refine hK.out _ _ k4 (fun _=>sp ?_);clear hK
     refine tkO 13 ?_
     refine wpAnyH_ready (rs:=[14]) (by kernel_rfl) (by simp) ?_;refine AllReadyH.cons rfl (fun K hK=>?_) AllReadyH.nil
     go_simp
     refine hK.out _ _ ⟨bG k4.1 (by omega),bG k4.2 (by omega)⟩ (fun _=>sp ?_);clear hK
     refine wpAnyH_done (by kernel_rfl) ?_ _;go_wp2;obtain ⟨U,hU⟩:∃ U,U=w4.setCell ⟨w.heap.size,4,none⟩ (.slice (some ⟨g,0,none⟩) (ln+1) cap):=⟨_,rfl⟩;exact dF HGR.out HOW.out HLO.out HG1.out R2.out rfl rfl U hU _ (by rw [hU])
 -- LEAF
