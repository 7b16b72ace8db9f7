import Derived.Test.YtddbpnplbcjpgaaGreatDoorLp09
namespace Go.Proofs.YtddbpnplbcjpgaaGreatDoor
open Go.RowKit
theorem min_is {N:Int} {n i:Nat} (h0:0≤N) (hi:i=min N.toNat n):min N (n:Int)=(i:Int):=by
 rw [hi];simp only [Nat.min_def,Int.min_def];split <;> split <;> omega
theorem min_if {N:Int} {n i:Nat} (h0:0≤N) (hi:i=min N.toNat n):(if N≤(n:Int) then N else (n:Int))=(i:Int):=by
 rw [hi];simp only [Nat.min_def];split <;> split <;> omega
theorem ownsS.grown {w w':World} {base:Nat} {v:Value} {l:List ByteArray} (h:ownsS w base v l) (hg:w.grownBy w' none):ownsS w' base v l :=
 World.ownsRow.kept h hg (by cases e:v.ownBlock with
   | none=>exact .inl rfl
   | some g=>exact .inr (by simp))
theorem ownsS.set {w:World} {base B i:Nat} {v:Value} {l:List ByteArray} (h:ownsS w base v l) (z:Value) (hne:v.ownBlock≠some B):ownsS (w.setCell ⟨B,i,none⟩ z) base v l :=
 World.ownsRow.kept h (row:=some B) ⟨rfl,rfl,rfl,by rw [show (w.setCell ⟨B,i,none⟩ z).heap.size=w.heap.size from by simp];exact Nat.le_refl _,fun k _ hk=>heap_setCell_other _ _ _ _ (fun e=>hk (by rw [e]))⟩ (.inr hne)
structure InsW (w W:World) (k t:ByteArray) (h:Bool) (s:Int) (l:Value) (val:ByteArray) (N:Int):Prop where
 rowc:W.heap[w.heap.size]? = some (.cells #[.string k,.bool h,.string t,.int .i64 s,l] 105 (0,0))
 wv:W.cell? ⟨w.heap.size + 1,4,none⟩=some (.string val)∧W.cell? ⟨w.heap.size + 1,5,none⟩=some (.int .i64 N)
 rowr:W.heap[w.heap.size + 1 + 1]? = some (.cells #[.string ⟨#[]⟩,.bool false,.string ⟨#[]⟩,.int .i64 0,.slice none 0 0] 105 (0,0))
 gr:w.grownBy W none
 sz:w.heap.size + 3≤W.heap.size
theorem InsW.on {w W W':World} {k t:ByteArray} {h:Bool} {s:Int} {l:Value} {val:ByteArray} {N:Int} {o:Option Nat} (hi:InsW w W k t h s l val N) (hg:W.grownBy W' o) (ho:∀ g,o=some g→g < w.heap.size) :
   W'.heap[w.heap.size]? = some (.cells #[.string k,.bool h,.string t,.int .i64 s,l] 105 (0,0))∧(W'.cell? ⟨w.heap.size + 1,4,none⟩=some (.string val)∧W'.cell? ⟨w.heap.size + 1,5,none⟩=some (.int .i64 N)) ∧
   W'.heap[w.heap.size + 1 + 1]? = some (.cells #[.string ⟨#[]⟩,.bool false,.string ⟨#[]⟩,.int .i64 0,.slice none 0 0] 105 (0,0)):=by
 have sz:=hi.sz
 have hb:∀ B,w.heap.size≤B→B < W.heap.size→W'.heap[B]? = W.heap[B]? := fun B h1 h2=>hg.block B h2 (fun e=>by have:=ho B e.symm;omega)
 have hc:∀ i,W'.cell? ⟨w.heap.size + 1,i,none⟩=W.cell? ⟨w.heap.size + 1,i,none⟩:=fun i=>by unfold World.cell?;rw [hb (w.heap.size + 1) (by omega) (by omega)]
 exact ⟨(hb _ (by omega) (by omega)).trans hi.rowc,⟨(hc 4).trans hi.wv.1,(hc 5).trans hi.wv.2⟩,(hb _ (by omega) (by omega)).trans hi.rowr⟩
theorem InsW.grown {w W W':World} {k t:ByteArray} {h:Bool} {s:Int} {l:Value} {val:ByteArray} {N:Int} (hi:InsW w W k t h s l val N) (hg:W.grownBy W' none):InsW w W' k t h s l val N:=by
 obtain ⟨h1,h2,h3⟩:=hi.on hg (fun g e=>by cases e)
 exact ⟨h1,h2,h3,grown_then hi.gr hg,Nat.le_trans hi.sz hg.size⟩
theorem insW0 (w:World) (k t:ByteArray) (h:Bool) (s:Int) (l:Value) (T R K:Int) (key val:ByteArray) (N:Int) :
   InsW w (((w.alloc (.cells #[.string k,.bool h,.string t,.int .i64 s,l] 105)).alloc (.cells #[.int .i64 T,.int .i64 R,.int .i64 K,.string key,.string val,.int .i64 N] 26)).alloc (.cells #[.string ⟨#[]⟩,.bool false,.string ⟨#[]⟩,.int .i64 0,.slice none 0 0] 105)) k t h s l val N:=by
 obtain ⟨h0,h1,h2⟩:=heap3 w (.cells #[.string k,.bool h,.string t,.int .i64 s,l] 105) (.cells #[.int .i64 T,.int .i64 R,.int .i64 K,.string key,.string val,.int .i64 N] 26) (.cells #[.string ⟨#[]⟩,.bool false,.string ⟨#[]⟩,.int .i64 0,.slice none 0 0] 105)
 exact ⟨h0,⟨cell_of_row _ _ 4 _ _ _ h1,cell_of_row _ _ 5 _ _ _ h1⟩,h2,grown3 w _ _ _,by simp⟩
theorem InsW.d {w W:World} {k t:ByteArray} {h:Bool} {s:Int} {l:Value} {val:ByteArray} {N:Int} (hi:InsW w W k t h s l val N):W.cell? ⟨w.heap.size,4,none⟩=some l:=cell_of_row _ _ 4 _ _ _ hi.rowc
theorem InsW.blk {w W:World} {k t:ByteArray} {h:Bool} {s:Int} {l:Value} {val:ByteArray} {N:Int} (_:InsW w W k t h s l val N):strBlk (W.alloc (.cells #[.string val] 9)) W.heap.size val:=(MapKept.heap_alloc W _).1
theorem InsW.aft {w W W':World} {k t:ByteArray} {h:Bool} {s:Int} {l:Value} {val:ByteArray} {N:Int} {o:Option Nat} (hi:InsW w W k t h s l val N) (hg:W.grownBy W' o) (ho:∀ g,o=some g→g < w.heap.size):Aft w W' k t h s l undef∧(W'.cell? ⟨w.heap.size + 1,4,none⟩=some (.string val)∧W'.cell? ⟨w.heap.size + 1,5,none⟩=some (.int .i64 N)):=by
 obtain ⟨e0,h2,e2⟩:=hi.on hg ho
 obtain ⟨p0,p1,p2,p3,p4,_⟩:=row5 e0
 obtain ⟨q0,q1,q2,q3,q4,_⟩:=row5 e2
 exact ⟨⟨p0,p1,p2,p3,p4,q0,q1,q2,q3,q4,e2,fun i=>by simp [World.frozen?,e0],fun i=>by simp [World.frozen?,e2]⟩,h2⟩
theorem set_other {W:World} {B C i j:Nat} {v:Value} (h:W.cell? ⟨B,i,none⟩=some v) {z:Value} (hne:C≠B):(W.setCell ⟨C,j,none⟩ z).cell? ⟨B,i,none⟩=some v:=by
 rw [World.cell?_setCell_other _ _ _ _ (by intro e;exact hne (by simpa using congrArg Addr.block e))];exact h
theorem ins_end {w w4:World} {base g cap ln i:Nat} {k t:ByteArray} {h:Bool} {s:Int} {v:Value} {val:ByteArray} {l:List ByteArray} {a:Act}
   (hgr:w.grownBy w4 v.ownBlock) (hown:ownsS w4 base (.slice (some ⟨g,0,none⟩) (ln + 1) cap) (l.take i ++ val :: l.drop i)) (hlo:v.ownBlock=some g∨w.heap.size≤g) (hg1:g≠w.heap.size∧g≠w.heap.size + 1 + 1)
   (hr:w4.heap[w.heap.size + 1 + 1]? = some (.cells #[.string ⟨#[]⟩,.bool false,.string ⟨#[]⟩,.int .i64 0,.slice none 0 0] 105 (0,0)))
   (ha:a.tmps.getD 4 undef=.pointer (some ⟨w.heap.size + 1 + 1,0,none⟩)) (hd:a.defers=[]) (U:World) (hU:U=w4.setCell ⟨w.heap.size,4,none⟩ (.slice (some ⟨g,0,none⟩) (ln + 1) cap)) :
   ∀ W,W=((((U.setCell ⟨w.heap.size + 1 + 1,0,none⟩ (.string k)).setCell ⟨w.heap.size + 1 + 1,1,none⟩ (.bool h)).setCell ⟨w.heap.size + 1 + 1,2,none⟩ (.string t)).setCell ⟨w.heap.size + 1 + 1,3,none⟩ (.int .i64 s)).setCell ⟨w.heap.size + 1 + 1,4,none⟩ (.slice (some ⟨g,0,none⟩) (ln + 1) cap) →
   bodyPost Tryz.prog Tryz.f108 (fun e w' => ∃ g cap, e = .returned (.agg #[.string k, .bool h, .string t, .int .i64 s, .slice (some ⟨g, 0, none⟩) (ln + 1) cap]) ∧ ownsS w' base (.slice (some ⟨g, 0, none⟩) (ln + 1) cap) (l.take i ++ val :: l.drop i) ∧
       w.grownBy w' v.ownBlock∧(v.ownBlock=some g∨w.heap.size≤g)) .ret a W:=by
 have hrow:U.heap[w.heap.size + 1 + 1]? = some (.cells #[.string ⟨#[]⟩,.bool false,.string ⟨#[]⟩,.int .i64 0,.slice none 0 0] 105 (0,0)):=by
   rw [hU,heap_setCell_other _ _ _ _ (by show _≠w.heap.size;omega)];exact hr
 have hgU:w.grownBy U v.ownBlock:=by rw [hU];exact grown_set hgr _ (by omega)
 have hoU:ownsS U base (.slice (some ⟨g,0,none⟩) (ln + 1) cap) (l.take i ++ val :: l.drop i):=by
   rw [hU];exact hown.set _ (by intro e;exact hg1.1 (by simpa [Value.ownBlock] using e))
 have hR:=row_set5 hrow (.string k) (.bool h) (.string t) (.int .i64 s) (.slice (some ⟨g,0,none⟩) (ln + 1) cap)
 have hne:∀ n c,(Value.slice (some ⟨g,0,none⟩) n c).ownBlock≠some (w.heap.size + 1 + 1):=fun n c e=>hg1.2 (by simpa [Value.ownBlock] using e)
 intro W hW
 have hgW:w.grownBy W v.ownBlock:=by rw [hW];exact grown_set (grown_set (grown_set (grown_set (grown_set hgU _ (by omega)) _ (by omega)) _ (by omega)) _ (by omega)) _ (by omega)
 have hoW:ownsS W base (.slice (some ⟨g,0,none⟩) (ln + 1) cap) (l.take i ++ val :: l.drop i):=by
   rw [hW];exact ((((hoU.set _ (hne _ _)).set _ (hne _ _)).set _ (hne _ _)).set _ (hne _ _)).set _ (hne _ _)
 rw [←hW] at hR
 refine bodyPost_ret (v:=.agg #[.string k,.bool h,.string t,.int .i64 s,.slice (some ⟨g,0,none⟩) (ln + 1) cap]) (results_cell_row Tryz.results108 _ _ (w.heap.size + 1 + 1) 105 _ _ _ ha hR Tryz.underlying105 rfl (cell_sized _ _ _ _ _)) hd ?_
 exact ⟨g,cap,rfl,hoW,hgW,hlo⟩
set_option maxRecDepth 100000 in
set_option maxHeartbeats 16000000 in
theorem after_ins (k t:ByteArray) (h:Bool) (s:Int) (la:Option Addr) (ln lc:Nat) (l:List ByteArray) (T R:Int) (key val:ByteArray) (N:Int) (i:Nat) (w:World) (base:Nat) (hv:val.size≤140737488351232)
   (ho:ownsS w base (.slice la ln lc) l) (hn:ln=l.length) (hm:ln≤1000000) (h0:0≤N) (hi:i=min N.toNat ln) (hbs:base≤w.heap.size) :
   Calls Tryz.prog 108 #[.agg #[.string k,.bool h,.string t,.int .i64 s,.slice la ln lc],.agg #[.int .i64 T,.int .i64 R,.int .i64 4,.string key,.string val,.int .i64 N]] w fun e w' =>
     ∃ g cap,e=.returned (.agg #[.string k,.bool h,.string t,.int .i64 s,.slice (some ⟨g,0,none⟩) (ln + 1) cap])∧ownsS w' base (.slice (some ⟨g,0,none⟩) (ln + 1) cap) (l.take i ++ val :: l.drop i) ∧
       w.grownBy w' (Value.slice la ln lc).ownBlock∧((Value.slice la ln lc).ownBlock=some g∨w.heap.size≤g):=by
 have hlt:∀ g,(Value.slice la ln lc).ownBlock=some g→g < w.heap.size:=fun g e=>(ho.lt g e).2
 have hne:¬ w.heap.size + 1 + 1=w.heap.size:=by omega
 have hne2:¬ w.heap.size=w.heap.size + 1 + 1:=by omega
 have hne3:¬ w.heap.size + 1=w.heap.size:=by omega
 have hne4:¬ w.heap.size=w.heap.size + 1:=by omega
 have hmin:=min_is h0 hi
 have hmif:=min_if h0 hi
 have hln:(ln:Int)≤9223372036854775807:=by omega
 have HO:=Lib.hid ho
 have HN:=Lib.hid hn
 have HM:=Lib.hid hm
 have HI:Hid (i≤ln):=Lib.hid (by omega)
 have HBS:=Lib.hid hbs
 have HLT:=Lib.hid hlt
 obtain ⟨S0,hS0⟩:∃ S0,S0=s:=⟨_,rfl⟩
 have HW0:=Lib.hid (insW0 w k t h s (.slice la ln lc) T R 4 key val N)
 clear ho hn hm hi hbs h0 hlt hS0
 go_enter Tryz.func108,Tryz.ntmps108
 go_wp2
 obtain ⟨u,hu⟩:∃ u,u=(((w.alloc (.cells #[.string k,.bool h,.string t,.int .i64 s,.slice la ln lc] 105)).alloc (.cells #[.int .i64 T,.int .i64 R,.int .i64 4,.string key,.string val,.int .i64 N] 26)).alloc (.cells #[.string ⟨#[]⟩,.bool false,.string ⟨#[]⟩,.int .i64 0,.slice none 0 0] 105)):=⟨_,rfl⟩
 rw [←hu] at HW0 ⊢
 have HB:Hid (InsW w u.drew k t h s (.slice la ln lc) val N):=Lib.hid (HW0.out.grown (grown_drew (grown_refl _ _)))
 have k0:=HB.out.wv
 have d0:=HB.out.d
 clear hu HW0
 refine wp_region_held_drew (S:=fun w'=>w'.cell? ⟨w.heap.size + 1,4,none⟩=some (.string val)∧w'.cell? ⟨w.heap.size + 1,5,none⟩=some (.int .i64 N)) (by kernel_rfl) k0 (fun _=>?_)
 try simp only [Act.put,List.getElem_toArray,List.getElem_cons_zero,List.getElem_cons_succ,List.setIfInBounds_toArray,List.set_cons_zero,List.set_cons_succ]
 -- ORDERS
 refine wpAnyH_take (i:=0) (v:=?v1) rfl (by kernel_rfl) (by kernel_rfl) (by kernel_rfl) (fun _ _ _ h=>h) (Or.inl ⟨by rfl,?h1⟩) (by assumption) ?r1
 case h1=>(intro W hSw;(try dsimp only at hSw);go_simp;all_goals (with_reducible rfl))
 try simp only [Act.put,List.getElem_toArray,List.getElem_cons_zero,List.setIfInBounds_toArray,List.set_cons_zero,List.set_cons_succ]
 refine wpAnyH_take (i:=2) (v:=?v2) rfl (by kernel_rfl) (by kernel_rfl) (by kernel_rfl) (fun _ _ _ h=>h) (Or.inl ⟨by rfl,?h2⟩) (by assumption) ?r2
 case h2=>(intro W hSw;(try dsimp only at hSw);go_simp;all_goals (with_reducible rfl))
 try simp only [Act.put,List.getElem_toArray,List.getElem_cons_zero,List.getElem_cons_succ,List.setIfInBounds_toArray,List.set_cons_zero,List.set_cons_succ]
 refine wpAnyH_take (i:=3) (v:=?v3) rfl (by kernel_rfl) (by kernel_rfl) (by kernel_rfl) (fun _ _ _ h=>h) (Or.inl ⟨by rfl,?h3⟩) (by assumption) ?r3
 case h3=>(intro W hSw;(try dsimp only at hSw);go_simp;all_goals (with_reducible rfl))
 try simp only [Act.put,List.getElem_toArray,List.getElem_cons_zero,List.getElem_cons_succ,List.setIfInBounds_toArray,List.set_cons_zero,List.set_cons_succ]
 refine wpAnyH_take (i:=4) (v:=?v4) rfl (by kernel_rfl) (by kernel_rfl) (by kernel_rfl) (fun _ _ _ h=>h) (Or.inl ⟨by rfl,?h4⟩) (by assumption) ?r4
 case h4=>(intro W hSw;(try dsimp only at hSw);go_simp;all_goals (with_reducible rfl))
 try simp only [Act.put,List.getElem_toArray,List.getElem_cons_zero,List.getElem_cons_succ,List.setIfInBounds_toArray,List.set_cons_zero,List.set_cons_succ]
 refine wpAnyH_take (i:=8) (v:=?v5) rfl (by kernel_rfl) (by kernel_rfl) (by kernel_rfl) (fun _ _ _ h=>h) (Or.inl ⟨by rfl,?h5⟩) (by assumption) ?r5
 case h5=>(intro W hSw;(try dsimp only at hSw);go_simp;all_goals (with_reducible rfl))
 try simp only [Act.put,List.getElem_toArray,List.getElem_cons_zero,List.getElem_cons_succ,List.setIfInBounds_toArray,List.set_cons_zero,List.set_cons_succ]
 refine wpAnyH_take (i:=9) (v:=?v6) rfl (by kernel_rfl) (by kernel_rfl) (by kernel_rfl) (fun _ _ _ h=>h) (Or.inl ⟨by rfl,?h6⟩) (by assumption) ?r6
 case h6=>(intro W hSw;(try dsimp only at hSw);go_simp;all_goals (with_reducible rfl))
 try simp only [Act.put,List.getElem_toArray,List.getElem_cons_zero,List.getElem_cons_succ,List.setIfInBounds_toArray,List.set_cons_zero,List.set_cons_succ]
 refine wpAnyH_ready (rs:=[1,5,10]) (by kernel_rfl) (by simp) ?_
 refine AllReadyH.cons rfl (fun K hK=>?_) (AllReadyH.cons rfl (fun K hK=>?_) (AllReadyH.cons rfl (fun K hK=>?_) (AllReadyH.nil)))
 · go_simp
   refine hK.out _ _ k0 (fun _=>?_)
   clear hK
   try simp only [Act.put,List.getElem_toArray,List.getElem_cons_zero,List.getElem_cons_succ,List.setIfInBounds_toArray,List.set_cons_zero,List.set_cons_succ]
   refine wpAnyH_ready (rs:=[5,10]) (by kernel_rfl) (by simp) ?_
   refine AllReadyH.cons rfl (fun K hK=>?_) (AllReadyH.cons rfl (fun K hK=>?_) (AllReadyH.nil))
   · go_simp
     refine hK.out _ _ k0 (fun _=>?_)
     clear hK
     try simp only [Act.put,List.getElem_toArray,List.getElem_cons_zero,List.getElem_cons_succ,List.setIfInBounds_toArray,List.set_cons_zero,List.set_cons_succ]
     refine wpAnyH_take (i:=6) (v:=?v7) rfl (by kernel_rfl) (by kernel_rfl) (by kernel_rfl) (fun _ _ _ h=>h) (Or.inl ⟨by rfl,?h7⟩) (by assumption) ?r7
     case h7=>(intro W hSw;(try dsimp only at hSw);go_simp;all_goals (with_reducible rfl))
     try simp only [Act.put,List.getElem_toArray,List.getElem_cons_zero,List.getElem_cons_succ,List.setIfInBounds_toArray,List.set_cons_zero,List.set_cons_succ]
     refine wpAnyH_take (i:=7) (v:=?v8) rfl (by kernel_rfl) (by kernel_rfl) (by kernel_rfl) (fun _ _ _ h=>h) (Or.inl ⟨by rfl,?h8⟩) (by assumption) ?r8
     case h8=>(intro W hSw;(try dsimp only at hSw);go_simp;all_goals (with_reducible rfl))
     try simp only [Act.put,List.getElem_toArray,List.getElem_cons_zero,List.getElem_cons_succ,List.setIfInBounds_toArray,List.set_cons_zero,List.set_cons_succ]
     refine wpAnyH_ready (rs:=[10]) (by kernel_rfl) (by simp) ?_
     refine AllReadyH.cons rfl (fun K hK=>?_) (AllReadyH.nil)
     · go_simp
       refine (clone_s val _ hv).mono ?_
       rintro r w1 ⟨rfl,hb1⟩
       have HB1:Hid (InsW w w1 k t h s (.slice la ln lc) val N):=Lib.hid (HB.out.grown (grown_of_below hb1))
       have k1:=HB1.out.wv
       have d1:=HB1.out.d
       clear hb1
       refine hK.out _ _ k1 (fun _=>?_)
       clear hK
       try simp only [Act.put,List.getElem_toArray,List.getElem_cons_zero,List.getElem_cons_succ,List.setIfInBounds_toArray,List.set_cons_zero,List.set_cons_succ]
       refine wpAnyH_ready (rs:=[11]) (by kernel_rfl) (by simp) ?_
       refine AllReadyH.cons rfl (fun K hK=>?_) (AllReadyH.nil)
       · go_simp
         have HB2:Hid (InsW w (w1.alloc (.cells #[.string val] 9)) k t h s (.slice la ln lc) val N):=Lib.hid (HB1.out.grown (grown_alloc (grown_refl _ _) _))
         have k2:=HB2.out.wv
         have d2:=HB2.out.d
         refine hK.out _ _ k2 (fun _=>?_)
         clear hK
         try simp only [Act.put,List.getElem_toArray,List.getElem_cons_zero,List.getElem_cons_succ,List.setIfInBounds_toArray,List.set_cons_zero,List.set_cons_succ]
         refine wpAnyH_ready (rs:=[12]) (by kernel_rfl) (by simp) ?_
         refine AllReadyH.cons rfl (fun K hK=>?_) AllReadyH.nil
         go_simp
         refine (sins_any (.slice la ln lc) i ln w1.heap.size l val _ base (HO.out.grown HB2.out.gr) HN.out HI.out HM.out HB1.out.blk (fun e=>by have:=HLT.out _ e;have:=HB1.out.sz;omega) (Nat.le_trans HBS.out HB2.out.gr.size)).mono ?_
         rintro r w4 ⟨g,cap,hr,hown,hgr,hloc,_⟩
         obtain ⟨⟨p0,p1,p2,p3,p4,q0,q1,q2,q3,q4,r2,pf,qf⟩,k4⟩:=HB2.out.aft hgr HLT.out
         rw [←HN.out] at hr hown
         subst hr
         have HOW:=Lib.hid hown
         have HGR:=Lib.hid (grown_then HB2.out.gr hgr)
         have HLO:Hid ((Value.slice la ln lc).ownBlock=some g∨w.heap.size≤g):=Lib.hid (hloc.imp id (fun h5=>Nat.le_trans HB2.out.gr.size h5))
         have HG1:Hid (g≠w.heap.size∧g≠w.heap.size + 1 + 1):=Lib.hid (by have h3:=HB2.out.sz;have h6:=HLT.out g;rcases hloc with h5 | h5;(have:=h6 h5;omega);omega)
         have R2:=Lib.hid r2
         have f4:=pf 4
         have g0:=qf 0
         have g1:=qf 1
         have g2:=qf 2
         have g3:=qf 3
         have g4:=qf 4
         clear hown hgr hloc r2 pf qf k0 k1 k2 d0 d1 d2 HB HB1 HB2
         refine hK.out _ _ k4 (fun _=>?_)
         clear hK
         try simp only [Act.put,List.getElem_toArray,List.getElem_cons_zero,List.getElem_cons_succ,List.setIfInBounds_toArray,List.set_cons_zero,List.set_cons_succ]
         refine wpAnyH_take (i:=13) (v:=?v9) rfl (by kernel_rfl) (by kernel_rfl) (by kernel_rfl) (fun _ _ _ h=>h) (Or.inl ⟨by rfl,?h9⟩) (by assumption) ?r9
         case h9=>(intro W hSw;(try dsimp only at hSw);go_simp;all_goals (with_reducible rfl))
         try simp only [Act.put,List.getElem_toArray,List.getElem_cons_zero,List.getElem_cons_succ,List.setIfInBounds_toArray,List.set_cons_zero,List.set_cons_succ]
         refine wpAnyH_ready (rs:=[14]) (by kernel_rfl) (by simp) ?_
         refine AllReadyH.cons rfl (fun K hK=>?_) AllReadyH.nil
         go_simp
         refine hK.out _ _ ⟨set_other k4.1 (by omega),set_other k4.2 (by omega)⟩ (fun _=>?_)
         clear hK
         try simp only [Act.put,List.getElem_toArray,List.getElem_cons_zero,List.getElem_cons_succ,List.setIfInBounds_toArray,List.set_cons_zero,List.set_cons_succ]
         refine wpAnyH_done (by kernel_rfl) ?_ _
         go_wp2
         obtain ⟨U,hU⟩:∃ U,U=w4.setCell ⟨w.heap.size,4,none⟩ (.slice (some ⟨g,0,none⟩) (ln + 1) cap):=⟨_,rfl⟩
         exact ins_end HGR.out HOW.out HLO.out HG1.out R2.out rfl rfl U hU _ (by rw [hU])
   · go_simp
     refine (clone_s val _ hv).mono ?_
     rintro r w1 ⟨rfl,hb1⟩
     have HB1:Hid (InsW w w1 k t h s (.slice la ln lc) val N):=Lib.hid (HB.out.grown (grown_of_below hb1))
     have k1:=HB1.out.wv
     have d1:=HB1.out.d
     clear hb1
     refine hK.out _ _ k1 (fun _=>?_)
     clear hK
     try simp only [Act.put,List.getElem_toArray,List.getElem_cons_zero,List.getElem_cons_succ,List.setIfInBounds_toArray,List.set_cons_zero,List.set_cons_succ]
     refine wpAnyH_ready (rs:=[5,11]) (by kernel_rfl) (by simp) ?_
     refine AllReadyH.cons rfl (fun K hK=>?_) (AllReadyH.cons rfl (fun K hK=>?_) (AllReadyH.nil))
     · go_simp
       refine hK.out _ _ k1 (fun _=>?_)
       clear hK
       try simp only [Act.put,List.getElem_toArray,List.getElem_cons_zero,List.getElem_cons_succ,List.setIfInBounds_toArray,List.set_cons_zero,List.set_cons_succ]
       refine wpAnyH_take (i:=6) (v:=?v10) rfl (by kernel_rfl) (by kernel_rfl) (by kernel_rfl) (fun _ _ _ h=>h) (Or.inl ⟨by rfl,?h10⟩) (by assumption) ?r10
       case h10=>(intro W hSw;(try dsimp only at hSw);go_simp;all_goals (with_reducible rfl))
       try simp only [Act.put,List.getElem_toArray,List.getElem_cons_zero,List.getElem_cons_succ,List.setIfInBounds_toArray,List.set_cons_zero,List.set_cons_succ]
       refine wpAnyH_take (i:=7) (v:=?v11) rfl (by kernel_rfl) (by kernel_rfl) (by kernel_rfl) (fun _ _ _ h=>h) (Or.inl ⟨by rfl,?h11⟩) (by assumption) ?r11
       case h11=>(intro W hSw;(try dsimp only at hSw);go_simp;all_goals (with_reducible rfl))
       try simp only [Act.put,List.getElem_toArray,List.getElem_cons_zero,List.getElem_cons_succ,List.setIfInBounds_toArray,List.set_cons_zero,List.set_cons_succ]
       refine wpAnyH_ready (rs:=[11]) (by kernel_rfl) (by simp) ?_
       refine AllReadyH.cons rfl (fun K hK=>?_) (AllReadyH.nil)
       · go_simp
         have HB2:Hid (InsW w (w1.alloc (.cells #[.string val] 9)) k t h s (.slice la ln lc) val N):=Lib.hid (HB1.out.grown (grown_alloc (grown_refl _ _) _))
         have k2:=HB2.out.wv
         have d2:=HB2.out.d
         refine hK.out _ _ k2 (fun _=>?_)
         clear hK
         try simp only [Act.put,List.getElem_toArray,List.getElem_cons_zero,List.getElem_cons_succ,List.setIfInBounds_toArray,List.set_cons_zero,List.set_cons_succ]
         refine wpAnyH_ready (rs:=[12]) (by kernel_rfl) (by simp) ?_
         refine AllReadyH.cons rfl (fun K hK=>?_) AllReadyH.nil
         go_simp
         refine (sins_any (.slice la ln lc) i ln w1.heap.size l val _ base (HO.out.grown HB2.out.gr) HN.out HI.out HM.out HB1.out.blk (fun e=>by have:=HLT.out _ e;have:=HB1.out.sz;omega) (Nat.le_trans HBS.out HB2.out.gr.size)).mono ?_
         rintro r w4 ⟨g,cap,hr,hown,hgr,hloc,_⟩
         obtain ⟨⟨p0,p1,p2,p3,p4,q0,q1,q2,q3,q4,r2,pf,qf⟩,k4⟩:=HB2.out.aft hgr HLT.out
         rw [←HN.out] at hr hown
         subst hr
         have HOW:=Lib.hid hown
         have HGR:=Lib.hid (grown_then HB2.out.gr hgr)
         have HLO:Hid ((Value.slice la ln lc).ownBlock=some g∨w.heap.size≤g):=Lib.hid (hloc.imp id (fun h5=>Nat.le_trans HB2.out.gr.size h5))
         have HG1:Hid (g≠w.heap.size∧g≠w.heap.size + 1 + 1):=Lib.hid (by have h3:=HB2.out.sz;have h6:=HLT.out g;rcases hloc with h5 | h5;(have:=h6 h5;omega);omega)
         have R2:=Lib.hid r2
         have f4:=pf 4
         have g0:=qf 0
         have g1:=qf 1
         have g2:=qf 2
         have g3:=qf 3
         have g4:=qf 4
         clear hown hgr hloc r2 pf qf k0 k1 k2 d0 d1 d2 HB HB1 HB2
         refine hK.out _ _ k4 (fun _=>?_)
         clear hK
         try simp only [Act.put,List.getElem_toArray,List.getElem_cons_zero,List.getElem_cons_succ,List.setIfInBounds_toArray,List.set_cons_zero,List.set_cons_succ]
         refine wpAnyH_take (i:=13) (v:=?v12) rfl (by kernel_rfl) (by kernel_rfl) (by kernel_rfl) (fun _ _ _ h=>h) (Or.inl ⟨by rfl,?h12⟩) (by assumption) ?r12
         case h12=>(intro W hSw;(try dsimp only at hSw);go_simp;all_goals (with_reducible rfl))
         try simp only [Act.put,List.getElem_toArray,List.getElem_cons_zero,List.getElem_cons_succ,List.setIfInBounds_toArray,List.set_cons_zero,List.set_cons_succ]
         refine wpAnyH_ready (rs:=[14]) (by kernel_rfl) (by simp) ?_
         refine AllReadyH.cons rfl (fun K hK=>?_) AllReadyH.nil
         go_simp
         refine hK.out _ _ ⟨set_other k4.1 (by omega),set_other k4.2 (by omega)⟩ (fun _=>?_)
         clear hK
         try simp only [Act.put,List.getElem_toArray,List.getElem_cons_zero,List.getElem_cons_succ,List.setIfInBounds_toArray,List.set_cons_zero,List.set_cons_succ]
         refine wpAnyH_done (by kernel_rfl) ?_ _
         go_wp2
         obtain ⟨U,hU⟩:∃ U,U=w4.setCell ⟨w.heap.size,4,none⟩ (.slice (some ⟨g,0,none⟩) (ln + 1) cap):=⟨_,rfl⟩
         exact ins_end HGR.out HOW.out HLO.out HG1.out R2.out rfl rfl U hU _ (by rw [hU])
     · go_simp
       have HB2:Hid (InsW w (w1.alloc (.cells #[.string val] 9)) k t h s (.slice la ln lc) val N):=Lib.hid (HB1.out.grown (grown_alloc (grown_refl _ _) _))
       have k2:=HB2.out.wv
       have d2:=HB2.out.d
       refine hK.out _ _ k2 (fun _=>?_)
       clear hK
       try simp only [Act.put,List.getElem_toArray,List.getElem_cons_zero,List.getElem_cons_succ,List.setIfInBounds_toArray,List.set_cons_zero,List.set_cons_succ]
       refine wpAnyH_ready (rs:=[5]) (by kernel_rfl) (by simp) ?_
       refine AllReadyH.cons rfl (fun K hK=>?_) (AllReadyH.nil)
       · go_simp
         refine hK.out _ _ k2 (fun _=>?_)
         clear hK
         try simp only [Act.put,List.getElem_toArray,List.getElem_cons_zero,List.getElem_cons_succ,List.setIfInBounds_toArray,List.set_cons_zero,List.set_cons_succ]
         refine wpAnyH_take (i:=6) (v:=?v13) rfl (by kernel_rfl) (by kernel_rfl) (by kernel_rfl) (fun _ _ _ h=>h) (Or.inl ⟨by rfl,?h13⟩) (by assumption) ?r13
         case h13=>(intro W hSw;(try dsimp only at hSw);go_simp;all_goals (with_reducible rfl))
         try simp only [Act.put,List.getElem_toArray,List.getElem_cons_zero,List.getElem_cons_succ,List.setIfInBounds_toArray,List.set_cons_zero,List.set_cons_succ]
         refine wpAnyH_take (i:=7) (v:=?v14) rfl (by kernel_rfl) (by kernel_rfl) (by kernel_rfl) (fun _ _ _ h=>h) (Or.inl ⟨by rfl,?h14⟩) (by assumption) ?r14
         case h14=>(intro W hSw;(try dsimp only at hSw);go_simp;all_goals (with_reducible rfl))
         try simp only [Act.put,List.getElem_toArray,List.getElem_cons_zero,List.getElem_cons_succ,List.setIfInBounds_toArray,List.set_cons_zero,List.set_cons_succ]
         refine wpAnyH_ready (rs:=[12]) (by kernel_rfl) (by simp) ?_
         refine AllReadyH.cons rfl (fun K hK=>?_) AllReadyH.nil
         go_simp
         refine (sins_any (.slice la ln lc) i ln w1.heap.size l val _ base (HO.out.grown HB2.out.gr) HN.out HI.out HM.out HB1.out.blk (fun e=>by have:=HLT.out _ e;have:=HB1.out.sz;omega) (Nat.le_trans HBS.out HB2.out.gr.size)).mono ?_
         rintro r w4 ⟨g,cap,hr,hown,hgr,hloc,_⟩
         obtain ⟨⟨p0,p1,p2,p3,p4,q0,q1,q2,q3,q4,r2,pf,qf⟩,k4⟩:=HB2.out.aft hgr HLT.out
         rw [←HN.out] at hr hown
         subst hr
         have HOW:=Lib.hid hown
         have HGR:=Lib.hid (grown_then HB2.out.gr hgr)
         have HLO:Hid ((Value.slice la ln lc).ownBlock=some g∨w.heap.size≤g):=Lib.hid (hloc.imp id (fun h5=>Nat.le_trans HB2.out.gr.size h5))
         have HG1:Hid (g≠w.heap.size∧g≠w.heap.size + 1 + 1):=Lib.hid (by have h3:=HB2.out.sz;have h6:=HLT.out g;rcases hloc with h5 | h5;(have:=h6 h5;omega);omega)
         have R2:=Lib.hid r2
         have f4:=pf 4
         have g0:=qf 0
         have g1:=qf 1
         have g2:=qf 2
         have g3:=qf 3
         have g4:=qf 4
         clear hown hgr hloc r2 pf qf k0 k1 k2 d0 d1 d2 HB HB1 HB2
         refine hK.out _ _ k4 (fun _=>?_)
         clear hK
         try simp only [Act.put,List.getElem_toArray,List.getElem_cons_zero,List.getElem_cons_succ,List.setIfInBounds_toArray,List.set_cons_zero,List.set_cons_succ]
         refine wpAnyH_take (i:=13) (v:=?v15) rfl (by kernel_rfl) (by kernel_rfl) (by kernel_rfl) (fun _ _ _ h=>h) (Or.inl ⟨by rfl,?h15⟩) (by assumption) ?r15
         case h15=>(intro W hSw;(try dsimp only at hSw);go_simp;all_goals (with_reducible rfl))
         try simp only [Act.put,List.getElem_toArray,List.getElem_cons_zero,List.getElem_cons_succ,List.setIfInBounds_toArray,List.set_cons_zero,List.set_cons_succ]
         refine wpAnyH_ready (rs:=[14]) (by kernel_rfl) (by simp) ?_
         refine AllReadyH.cons rfl (fun K hK=>?_) AllReadyH.nil
         go_simp
         refine hK.out _ _ ⟨set_other k4.1 (by omega),set_other k4.2 (by omega)⟩ (fun _=>?_)
         clear hK
         try simp only [Act.put,List.getElem_toArray,List.getElem_cons_zero,List.getElem_cons_succ,List.setIfInBounds_toArray,List.set_cons_zero,List.set_cons_succ]
         refine wpAnyH_done (by kernel_rfl) ?_ _
         go_wp2
         obtain ⟨U,hU⟩:∃ U,U=w4.setCell ⟨w.heap.size,4,none⟩ (.slice (some ⟨g,0,none⟩) (ln + 1) cap):=⟨_,rfl⟩
         exact ins_end HGR.out HOW.out HLO.out HG1.out R2.out rfl rfl U hU _ (by rw [hU])
 · go_simp
   refine hK.out _ _ k0 (fun _=>?_)
   clear hK
   try simp only [Act.put,List.getElem_toArray,List.getElem_cons_zero,List.getElem_cons_succ,List.setIfInBounds_toArray,List.set_cons_zero,List.set_cons_succ]
   refine wpAnyH_take (i:=6) (v:=?v16) rfl (by kernel_rfl) (by kernel_rfl) (by kernel_rfl) (fun _ _ _ h=>h) (Or.inl ⟨by rfl,?h16⟩) (by assumption) ?r16
   case h16=>(intro W hSw;(try dsimp only at hSw);go_simp;all_goals (with_reducible rfl))
   try simp only [Act.put,List.getElem_toArray,List.getElem_cons_zero,List.getElem_cons_succ,List.setIfInBounds_toArray,List.set_cons_zero,List.set_cons_succ]
   refine wpAnyH_take (i:=7) (v:=?v17) rfl (by kernel_rfl) (by kernel_rfl) (by kernel_rfl) (fun _ _ _ h=>h) (Or.inl ⟨by rfl,?h17⟩) (by assumption) ?r17
   case h17=>(intro W hSw;(try dsimp only at hSw);go_simp;all_goals (with_reducible rfl))
   try simp only [Act.put,List.getElem_toArray,List.getElem_cons_zero,List.getElem_cons_succ,List.setIfInBounds_toArray,List.set_cons_zero,List.set_cons_succ]
   refine wpAnyH_ready (rs:=[1,10]) (by kernel_rfl) (by simp) ?_
   refine AllReadyH.cons rfl (fun K hK=>?_) (AllReadyH.cons rfl (fun K hK=>?_) (AllReadyH.nil))
   · go_simp
     refine hK.out _ _ k0 (fun _=>?_)
     clear hK
     try simp only [Act.put,List.getElem_toArray,List.getElem_cons_zero,List.getElem_cons_succ,List.setIfInBounds_toArray,List.set_cons_zero,List.set_cons_succ]
     refine wpAnyH_ready (rs:=[10]) (by kernel_rfl) (by simp) ?_
     refine AllReadyH.cons rfl (fun K hK=>?_) (AllReadyH.nil)
     · go_simp
       refine (clone_s val _ hv).mono ?_
       rintro r w1 ⟨rfl,hb1⟩
       have HB1:Hid (InsW w w1 k t h s (.slice la ln lc) val N):=Lib.hid (HB.out.grown (grown_of_below hb1))
       have k1:=HB1.out.wv
       have d1:=HB1.out.d
       clear hb1
       refine hK.out _ _ k1 (fun _=>?_)
       clear hK
       try simp only [Act.put,List.getElem_toArray,List.getElem_cons_zero,List.getElem_cons_succ,List.setIfInBounds_toArray,List.set_cons_zero,List.set_cons_succ]
       refine wpAnyH_ready (rs:=[11]) (by kernel_rfl) (by simp) ?_
       refine AllReadyH.cons rfl (fun K hK=>?_) (AllReadyH.nil)
       · go_simp
         have HB2:Hid (InsW w (w1.alloc (.cells #[.string val] 9)) k t h s (.slice la ln lc) val N):=Lib.hid (HB1.out.grown (grown_alloc (grown_refl _ _) _))
         have k2:=HB2.out.wv
         have d2:=HB2.out.d
         refine hK.out _ _ k2 (fun _=>?_)
         clear hK
         try simp only [Act.put,List.getElem_toArray,List.getElem_cons_zero,List.getElem_cons_succ,List.setIfInBounds_toArray,List.set_cons_zero,List.set_cons_succ]
         refine wpAnyH_ready (rs:=[12]) (by kernel_rfl) (by simp) ?_
         refine AllReadyH.cons rfl (fun K hK=>?_) AllReadyH.nil
         go_simp
         refine (sins_any (.slice la ln lc) i ln w1.heap.size l val _ base (HO.out.grown HB2.out.gr) HN.out HI.out HM.out HB1.out.blk (fun e=>by have:=HLT.out _ e;have:=HB1.out.sz;omega) (Nat.le_trans HBS.out HB2.out.gr.size)).mono ?_
         rintro r w4 ⟨g,cap,hr,hown,hgr,hloc,_⟩
         obtain ⟨⟨p0,p1,p2,p3,p4,q0,q1,q2,q3,q4,r2,pf,qf⟩,k4⟩:=HB2.out.aft hgr HLT.out
         rw [←HN.out] at hr hown
         subst hr
         have HOW:=Lib.hid hown
         have HGR:=Lib.hid (grown_then HB2.out.gr hgr)
         have HLO:Hid ((Value.slice la ln lc).ownBlock=some g∨w.heap.size≤g):=Lib.hid (hloc.imp id (fun h5=>Nat.le_trans HB2.out.gr.size h5))
         have HG1:Hid (g≠w.heap.size∧g≠w.heap.size + 1 + 1):=Lib.hid (by have h3:=HB2.out.sz;have h6:=HLT.out g;rcases hloc with h5 | h5;(have:=h6 h5;omega);omega)
         have R2:=Lib.hid r2
         have f4:=pf 4
         have g0:=qf 0
         have g1:=qf 1
         have g2:=qf 2
         have g3:=qf 3
         have g4:=qf 4
         clear hown hgr hloc r2 pf qf k0 k1 k2 d0 d1 d2 HB HB1 HB2
         refine hK.out _ _ k4 (fun _=>?_)
         clear hK
         try simp only [Act.put,List.getElem_toArray,List.getElem_cons_zero,List.getElem_cons_succ,List.setIfInBounds_toArray,List.set_cons_zero,List.set_cons_succ]
         refine wpAnyH_take (i:=13) (v:=?v18) rfl (by kernel_rfl) (by kernel_rfl) (by kernel_rfl) (fun _ _ _ h=>h) (Or.inl ⟨by rfl,?h18⟩) (by assumption) ?r18
         case h18=>(intro W hSw;(try dsimp only at hSw);go_simp;all_goals (with_reducible rfl))
         try simp only [Act.put,List.getElem_toArray,List.getElem_cons_zero,List.getElem_cons_succ,List.setIfInBounds_toArray,List.set_cons_zero,List.set_cons_succ]
         refine wpAnyH_ready (rs:=[14]) (by kernel_rfl) (by simp) ?_
         refine AllReadyH.cons rfl (fun K hK=>?_) AllReadyH.nil
         go_simp
         refine hK.out _ _ ⟨set_other k4.1 (by omega),set_other k4.2 (by omega)⟩ (fun _=>?_)
         clear hK
         try simp only [Act.put,List.getElem_toArray,List.getElem_cons_zero,List.getElem_cons_succ,List.setIfInBounds_toArray,List.set_cons_zero,List.set_cons_succ]
         refine wpAnyH_done (by kernel_rfl) ?_ _
         go_wp2
         obtain ⟨U,hU⟩:∃ U,U=w4.setCell ⟨w.heap.size,4,none⟩ (.slice (some ⟨g,0,none⟩) (ln + 1) cap):=⟨_,rfl⟩
         exact ins_end HGR.out HOW.out HLO.out HG1.out R2.out rfl rfl U hU _ (by rw [hU])
   · go_simp
     refine (clone_s val _ hv).mono ?_
     rintro r w1 ⟨rfl,hb1⟩
     have HB1:Hid (InsW w w1 k t h s (.slice la ln lc) val N):=Lib.hid (HB.out.grown (grown_of_below hb1))
     have k1:=HB1.out.wv
     have d1:=HB1.out.d
     clear hb1
     refine hK.out _ _ k1 (fun _=>?_)
     clear hK
     try simp only [Act.put,List.getElem_toArray,List.getElem_cons_zero,List.getElem_cons_succ,List.setIfInBounds_toArray,List.set_cons_zero,List.set_cons_succ]
     refine wpAnyH_ready (rs:=[1,11]) (by kernel_rfl) (by simp) ?_
     refine AllReadyH.cons rfl (fun K hK=>?_) (AllReadyH.cons rfl (fun K hK=>?_) (AllReadyH.nil))
     · go_simp
       refine hK.out _ _ k1 (fun _=>?_)
       clear hK
       try simp only [Act.put,List.getElem_toArray,List.getElem_cons_zero,List.getElem_cons_succ,List.setIfInBounds_toArray,List.set_cons_zero,List.set_cons_succ]
       refine wpAnyH_ready (rs:=[11]) (by kernel_rfl) (by simp) ?_
       refine AllReadyH.cons rfl (fun K hK=>?_) (AllReadyH.nil)
       · go_simp
         have HB2:Hid (InsW w (w1.alloc (.cells #[.string val] 9)) k t h s (.slice la ln lc) val N):=Lib.hid (HB1.out.grown (grown_alloc (grown_refl _ _) _))
         have k2:=HB2.out.wv
         have d2:=HB2.out.d
         refine hK.out _ _ k2 (fun _=>?_)
         clear hK
         try simp only [Act.put,List.getElem_toArray,List.getElem_cons_zero,List.getElem_cons_succ,List.setIfInBounds_toArray,List.set_cons_zero,List.set_cons_succ]
         refine wpAnyH_ready (rs:=[12]) (by kernel_rfl) (by simp) ?_
         refine AllReadyH.cons rfl (fun K hK=>?_) AllReadyH.nil
         go_simp
         refine (sins_any (.slice la ln lc) i ln w1.heap.size l val _ base (HO.out.grown HB2.out.gr) HN.out HI.out HM.out HB1.out.blk (fun e=>by have:=HLT.out _ e;have:=HB1.out.sz;omega) (Nat.le_trans HBS.out HB2.out.gr.size)).mono ?_
         rintro r w4 ⟨g,cap,hr,hown,hgr,hloc,_⟩
         obtain ⟨⟨p0,p1,p2,p3,p4,q0,q1,q2,q3,q4,r2,pf,qf⟩,k4⟩:=HB2.out.aft hgr HLT.out
         rw [←HN.out] at hr hown
         subst hr
         have HOW:=Lib.hid hown
         have HGR:=Lib.hid (grown_then HB2.out.gr hgr)
         have HLO:Hid ((Value.slice la ln lc).ownBlock=some g∨w.heap.size≤g):=Lib.hid (hloc.imp id (fun h5=>Nat.le_trans HB2.out.gr.size h5))
         have HG1:Hid (g≠w.heap.size∧g≠w.heap.size + 1 + 1):=Lib.hid (by have h3:=HB2.out.sz;have h6:=HLT.out g;rcases hloc with h5 | h5;(have:=h6 h5;omega);omega)
         have R2:=Lib.hid r2
         have f4:=pf 4
         have g0:=qf 0
         have g1:=qf 1
         have g2:=qf 2
         have g3:=qf 3
         have g4:=qf 4
         clear hown hgr hloc r2 pf qf k0 k1 k2 d0 d1 d2 HB HB1 HB2
         refine hK.out _ _ k4 (fun _=>?_)
         clear hK
         try simp only [Act.put,List.getElem_toArray,List.getElem_cons_zero,List.getElem_cons_succ,List.setIfInBounds_toArray,List.set_cons_zero,List.set_cons_succ]
         refine wpAnyH_take (i:=13) (v:=?v19) rfl (by kernel_rfl) (by kernel_rfl) (by kernel_rfl) (fun _ _ _ h=>h) (Or.inl ⟨by rfl,?h19⟩) (by assumption) ?r19
         case h19=>(intro W hSw;(try dsimp only at hSw);go_simp;all_goals (with_reducible rfl))
         try simp only [Act.put,List.getElem_toArray,List.getElem_cons_zero,List.getElem_cons_succ,List.setIfInBounds_toArray,List.set_cons_zero,List.set_cons_succ]
         refine wpAnyH_ready (rs:=[14]) (by kernel_rfl) (by simp) ?_
         refine AllReadyH.cons rfl (fun K hK=>?_) AllReadyH.nil
         go_simp
         refine hK.out _ _ ⟨set_other k4.1 (by omega),set_other k4.2 (by omega)⟩ (fun _=>?_)
         clear hK
         try simp only [Act.put,List.getElem_toArray,List.getElem_cons_zero,List.getElem_cons_succ,List.setIfInBounds_toArray,List.set_cons_zero,List.set_cons_succ]
         refine wpAnyH_done (by kernel_rfl) ?_ _
         go_wp2
         obtain ⟨U,hU⟩:∃ U,U=w4.setCell ⟨w.heap.size,4,none⟩ (.slice (some ⟨g,0,none⟩) (ln + 1) cap):=⟨_,rfl⟩
         exact ins_end HGR.out HOW.out HLO.out HG1.out R2.out rfl rfl U hU _ (by rw [hU])
     · go_simp
       have HB2:Hid (InsW w (w1.alloc (.cells #[.string val] 9)) k t h s (.slice la ln lc) val N):=Lib.hid (HB1.out.grown (grown_alloc (grown_refl _ _) _))
       have k2:=HB2.out.wv
       have d2:=HB2.out.d
       refine hK.out _ _ k2 (fun _=>?_)
       clear hK
       try simp only [Act.put,List.getElem_toArray,List.getElem_cons_zero,List.getElem_cons_succ,List.setIfInBounds_toArray,List.set_cons_zero,List.set_cons_succ]
       refine wpAnyH_ready (rs:=[1]) (by kernel_rfl) (by simp) ?_
       refine AllReadyH.cons rfl (fun K hK=>?_) (AllReadyH.nil)
       · go_simp
         refine hK.out _ _ k2 (fun _=>?_)
         clear hK
         try simp only [Act.put,List.getElem_toArray,List.getElem_cons_zero,List.getElem_cons_succ,List.setIfInBounds_toArray,List.set_cons_zero,List.set_cons_succ]
         refine wpAnyH_ready (rs:=[12]) (by kernel_rfl) (by simp) ?_
         refine AllReadyH.cons rfl (fun K hK=>?_) AllReadyH.nil
         go_simp
         refine (sins_any (.slice la ln lc) i ln w1.heap.size l val _ base (HO.out.grown HB2.out.gr) HN.out HI.out HM.out HB1.out.blk (fun e=>by have:=HLT.out _ e;have:=HB1.out.sz;omega) (Nat.le_trans HBS.out HB2.out.gr.size)).mono ?_
         rintro r w4 ⟨g,cap,hr,hown,hgr,hloc,_⟩
         obtain ⟨⟨p0,p1,p2,p3,p4,q0,q1,q2,q3,q4,r2,pf,qf⟩,k4⟩:=HB2.out.aft hgr HLT.out
         rw [←HN.out] at hr hown
         subst hr
         have HOW:=Lib.hid hown
         have HGR:=Lib.hid (grown_then HB2.out.gr hgr)
         have HLO:Hid ((Value.slice la ln lc).ownBlock=some g∨w.heap.size≤g):=Lib.hid (hloc.imp id (fun h5=>Nat.le_trans HB2.out.gr.size h5))
         have HG1:Hid (g≠w.heap.size∧g≠w.heap.size + 1 + 1):=Lib.hid (by have h3:=HB2.out.sz;have h6:=HLT.out g;rcases hloc with h5 | h5;(have:=h6 h5;omega);omega)
         have R2:=Lib.hid r2
         have f4:=pf 4
         have g0:=qf 0
         have g1:=qf 1
         have g2:=qf 2
         have g3:=qf 3
         have g4:=qf 4
         clear hown hgr hloc r2 pf qf k0 k1 k2 d0 d1 d2 HB HB1 HB2
         refine hK.out _ _ k4 (fun _=>?_)
         clear hK
         try simp only [Act.put,List.getElem_toArray,List.getElem_cons_zero,List.getElem_cons_succ,List.setIfInBounds_toArray,List.set_cons_zero,List.set_cons_succ]
         refine wpAnyH_take (i:=13) (v:=?v20) rfl (by kernel_rfl) (by kernel_rfl) (by kernel_rfl) (fun _ _ _ h=>h) (Or.inl ⟨by rfl,?h20⟩) (by assumption) ?r20
         case h20=>(intro W hSw;(try dsimp only at hSw);go_simp;all_goals (with_reducible rfl))
         try simp only [Act.put,List.getElem_toArray,List.getElem_cons_zero,List.getElem_cons_succ,List.setIfInBounds_toArray,List.set_cons_zero,List.set_cons_succ]
         refine wpAnyH_ready (rs:=[14]) (by kernel_rfl) (by simp) ?_
         refine AllReadyH.cons rfl (fun K hK=>?_) AllReadyH.nil
         go_simp
         refine hK.out _ _ ⟨set_other k4.1 (by omega),set_other k4.2 (by omega)⟩ (fun _=>?_)
         clear hK
         try simp only [Act.put,List.getElem_toArray,List.getElem_cons_zero,List.getElem_cons_succ,List.setIfInBounds_toArray,List.set_cons_zero,List.set_cons_succ]
         refine wpAnyH_done (by kernel_rfl) ?_ _
         go_wp2
         obtain ⟨U,hU⟩:∃ U,U=w4.setCell ⟨w.heap.size,4,none⟩ (.slice (some ⟨g,0,none⟩) (ln + 1) cap):=⟨_,rfl⟩
         exact ins_end HGR.out HOW.out HLO.out HG1.out R2.out rfl rfl U hU _ (by rw [hU])
 · go_simp
   refine (clone_s val _ hv).mono ?_
   rintro r w1 ⟨rfl,hb1⟩
   have HB1:Hid (InsW w w1 k t h s (.slice la ln lc) val N):=Lib.hid (HB.out.grown (grown_of_below hb1))
   have k1:=HB1.out.wv
   have d1:=HB1.out.d
   clear hb1
   refine hK.out _ _ k1 (fun _=>?_)
   clear hK
   try simp only [Act.put,List.getElem_toArray,List.getElem_cons_zero,List.getElem_cons_succ,List.setIfInBounds_toArray,List.set_cons_zero,List.set_cons_succ]
   refine wpAnyH_ready (rs:=[1,5,11]) (by kernel_rfl) (by simp) ?_
   refine AllReadyH.cons rfl (fun K hK=>?_) (AllReadyH.cons rfl (fun K hK=>?_) (AllReadyH.cons rfl (fun K hK=>?_) (AllReadyH.nil)))
   · go_simp
     refine hK.out _ _ k1 (fun _=>?_)
     clear hK
     try simp only [Act.put,List.getElem_toArray,List.getElem_cons_zero,List.getElem_cons_succ,List.setIfInBounds_toArray,List.set_cons_zero,List.set_cons_succ]
     refine wpAnyH_ready (rs:=[5,11]) (by kernel_rfl) (by simp) ?_
     refine AllReadyH.cons rfl (fun K hK=>?_) (AllReadyH.cons rfl (fun K hK=>?_) (AllReadyH.nil))
     · go_simp
       refine hK.out _ _ k1 (fun _=>?_)
       clear hK
       try simp only [Act.put,List.getElem_toArray,List.getElem_cons_zero,List.getElem_cons_succ,List.setIfInBounds_toArray,List.set_cons_zero,List.set_cons_succ]
       refine wpAnyH_take (i:=6) (v:=?v21) rfl (by kernel_rfl) (by kernel_rfl) (by kernel_rfl) (fun _ _ _ h=>h) (Or.inl ⟨by rfl,?h21⟩) (by assumption) ?r21
       case h21=>(intro W hSw;(try dsimp only at hSw);go_simp;all_goals (with_reducible rfl))
       try simp only [Act.put,List.getElem_toArray,List.getElem_cons_zero,List.getElem_cons_succ,List.setIfInBounds_toArray,List.set_cons_zero,List.set_cons_succ]
       refine wpAnyH_take (i:=7) (v:=?v22) rfl (by kernel_rfl) (by kernel_rfl) (by kernel_rfl) (fun _ _ _ h=>h) (Or.inl ⟨by rfl,?h22⟩) (by assumption) ?r22
       case h22=>(intro W hSw;(try dsimp only at hSw);go_simp;all_goals (with_reducible rfl))
       try simp only [Act.put,List.getElem_toArray,List.getElem_cons_zero,List.getElem_cons_succ,List.setIfInBounds_toArray,List.set_cons_zero,List.set_cons_succ]
       refine wpAnyH_ready (rs:=[11]) (by kernel_rfl) (by simp) ?_
       refine AllReadyH.cons rfl (fun K hK=>?_) (AllReadyH.nil)
       · go_simp
         have HB2:Hid (InsW w (w1.alloc (.cells #[.string val] 9)) k t h s (.slice la ln lc) val N):=Lib.hid (HB1.out.grown (grown_alloc (grown_refl _ _) _))
         have k2:=HB2.out.wv
         have d2:=HB2.out.d
         refine hK.out _ _ k2 (fun _=>?_)
         clear hK
         try simp only [Act.put,List.getElem_toArray,List.getElem_cons_zero,List.getElem_cons_succ,List.setIfInBounds_toArray,List.set_cons_zero,List.set_cons_succ]
         refine wpAnyH_ready (rs:=[12]) (by kernel_rfl) (by simp) ?_
         refine AllReadyH.cons rfl (fun K hK=>?_) AllReadyH.nil
         go_simp
         refine (sins_any (.slice la ln lc) i ln w1.heap.size l val _ base (HO.out.grown HB2.out.gr) HN.out HI.out HM.out HB1.out.blk (fun e=>by have:=HLT.out _ e;have:=HB1.out.sz;omega) (Nat.le_trans HBS.out HB2.out.gr.size)).mono ?_
         rintro r w4 ⟨g,cap,hr,hown,hgr,hloc,_⟩
         obtain ⟨⟨p0,p1,p2,p3,p4,q0,q1,q2,q3,q4,r2,pf,qf⟩,k4⟩:=HB2.out.aft hgr HLT.out
         rw [←HN.out] at hr hown
         subst hr
         have HOW:=Lib.hid hown
         have HGR:=Lib.hid (grown_then HB2.out.gr hgr)
         have HLO:Hid ((Value.slice la ln lc).ownBlock=some g∨w.heap.size≤g):=Lib.hid (hloc.imp id (fun h5=>Nat.le_trans HB2.out.gr.size h5))
         have HG1:Hid (g≠w.heap.size∧g≠w.heap.size + 1 + 1):=Lib.hid (by have h3:=HB2.out.sz;have h6:=HLT.out g;rcases hloc with h5 | h5;(have:=h6 h5;omega);omega)
         have R2:=Lib.hid r2
         have f4:=pf 4
         have g0:=qf 0
         have g1:=qf 1
         have g2:=qf 2
         have g3:=qf 3
         have g4:=qf 4
         clear hown hgr hloc r2 pf qf k0 k1 k2 d0 d1 d2 HB HB1 HB2
         refine hK.out _ _ k4 (fun _=>?_)
         clear hK
         try simp only [Act.put,List.getElem_toArray,List.getElem_cons_zero,List.getElem_cons_succ,List.setIfInBounds_toArray,List.set_cons_zero,List.set_cons_succ]
         refine wpAnyH_take (i:=13) (v:=?v23) rfl (by kernel_rfl) (by kernel_rfl) (by kernel_rfl) (fun _ _ _ h=>h) (Or.inl ⟨by rfl,?h23⟩) (by assumption) ?r23
         case h23=>(intro W hSw;(try dsimp only at hSw);go_simp;all_goals (with_reducible rfl))
         try simp only [Act.put,List.getElem_toArray,List.getElem_cons_zero,List.getElem_cons_succ,List.setIfInBounds_toArray,List.set_cons_zero,List.set_cons_succ]
         refine wpAnyH_ready (rs:=[14]) (by kernel_rfl) (by simp) ?_
         refine AllReadyH.cons rfl (fun K hK=>?_) AllReadyH.nil
         go_simp
         refine hK.out _ _ ⟨set_other k4.1 (by omega),set_other k4.2 (by omega)⟩ (fun _=>?_)
         clear hK
         try simp only [Act.put,List.getElem_toArray,List.getElem_cons_zero,List.getElem_cons_succ,List.setIfInBounds_toArray,List.set_cons_zero,List.set_cons_succ]
         refine wpAnyH_done (by kernel_rfl) ?_ _
         go_wp2
         obtain ⟨U,hU⟩:∃ U,U=w4.setCell ⟨w.heap.size,4,none⟩ (.slice (some ⟨g,0,none⟩) (ln + 1) cap):=⟨_,rfl⟩
         exact ins_end HGR.out HOW.out HLO.out HG1.out R2.out rfl rfl U hU _ (by rw [hU])
     · go_simp
       have HB2:Hid (InsW w (w1.alloc (.cells #[.string val] 9)) k t h s (.slice la ln lc) val N):=Lib.hid (HB1.out.grown (grown_alloc (grown_refl _ _) _))
       have k2:=HB2.out.wv
       have d2:=HB2.out.d
       refine hK.out _ _ k2 (fun _=>?_)
       clear hK
       try simp only [Act.put,List.getElem_toArray,List.getElem_cons_zero,List.getElem_cons_succ,List.setIfInBounds_toArray,List.set_cons_zero,List.set_cons_succ]
       refine wpAnyH_ready (rs:=[5]) (by kernel_rfl) (by simp) ?_
       refine AllReadyH.cons rfl (fun K hK=>?_) (AllReadyH.nil)
       · go_simp
         refine hK.out _ _ k2 (fun _=>?_)
         clear hK
         try simp only [Act.put,List.getElem_toArray,List.getElem_cons_zero,List.getElem_cons_succ,List.setIfInBounds_toArray,List.set_cons_zero,List.set_cons_succ]
         refine wpAnyH_take (i:=6) (v:=?v24) rfl (by kernel_rfl) (by kernel_rfl) (by kernel_rfl) (fun _ _ _ h=>h) (Or.inl ⟨by rfl,?h24⟩) (by assumption) ?r24
         case h24=>(intro W hSw;(try dsimp only at hSw);go_simp;all_goals (with_reducible rfl))
         try simp only [Act.put,List.getElem_toArray,List.getElem_cons_zero,List.getElem_cons_succ,List.setIfInBounds_toArray,List.set_cons_zero,List.set_cons_succ]
         refine wpAnyH_take (i:=7) (v:=?v25) rfl (by kernel_rfl) (by kernel_rfl) (by kernel_rfl) (fun _ _ _ h=>h) (Or.inl ⟨by rfl,?h25⟩) (by assumption) ?r25
         case h25=>(intro W hSw;(try dsimp only at hSw);go_simp;all_goals (with_reducible rfl))
         try simp only [Act.put,List.getElem_toArray,List.getElem_cons_zero,List.getElem_cons_succ,List.setIfInBounds_toArray,List.set_cons_zero,List.set_cons_succ]
         refine wpAnyH_ready (rs:=[12]) (by kernel_rfl) (by simp) ?_
         refine AllReadyH.cons rfl (fun K hK=>?_) AllReadyH.nil
         go_simp
         refine (sins_any (.slice la ln lc) i ln w1.heap.size l val _ base (HO.out.grown HB2.out.gr) HN.out HI.out HM.out HB1.out.blk (fun e=>by have:=HLT.out _ e;have:=HB1.out.sz;omega) (Nat.le_trans HBS.out HB2.out.gr.size)).mono ?_
         rintro r w4 ⟨g,cap,hr,hown,hgr,hloc,_⟩
         obtain ⟨⟨p0,p1,p2,p3,p4,q0,q1,q2,q3,q4,r2,pf,qf⟩,k4⟩:=HB2.out.aft hgr HLT.out
         rw [←HN.out] at hr hown
         subst hr
         have HOW:=Lib.hid hown
         have HGR:=Lib.hid (grown_then HB2.out.gr hgr)
         have HLO:Hid ((Value.slice la ln lc).ownBlock=some g∨w.heap.size≤g):=Lib.hid (hloc.imp id (fun h5=>Nat.le_trans HB2.out.gr.size h5))
         have HG1:Hid (g≠w.heap.size∧g≠w.heap.size + 1 + 1):=Lib.hid (by have h3:=HB2.out.sz;have h6:=HLT.out g;rcases hloc with h5 | h5;(have:=h6 h5;omega);omega)
         have R2:=Lib.hid r2
         have f4:=pf 4
         have g0:=qf 0
         have g1:=qf 1
         have g2:=qf 2
         have g3:=qf 3
         have g4:=qf 4
         clear hown hgr hloc r2 pf qf k0 k1 k2 d0 d1 d2 HB HB1 HB2
         refine hK.out _ _ k4 (fun _=>?_)
         clear hK
         try simp only [Act.put,List.getElem_toArray,List.getElem_cons_zero,List.getElem_cons_succ,List.setIfInBounds_toArray,List.set_cons_zero,List.set_cons_succ]
         refine wpAnyH_take (i:=13) (v:=?v26) rfl (by kernel_rfl) (by kernel_rfl) (by kernel_rfl) (fun _ _ _ h=>h) (Or.inl ⟨by rfl,?h26⟩) (by assumption) ?r26
         case h26=>(intro W hSw;(try dsimp only at hSw);go_simp;all_goals (with_reducible rfl))
         try simp only [Act.put,List.getElem_toArray,List.getElem_cons_zero,List.getElem_cons_succ,List.setIfInBounds_toArray,List.set_cons_zero,List.set_cons_succ]
         refine wpAnyH_ready (rs:=[14]) (by kernel_rfl) (by simp) ?_
         refine AllReadyH.cons rfl (fun K hK=>?_) AllReadyH.nil
         go_simp
         refine hK.out _ _ ⟨set_other k4.1 (by omega),set_other k4.2 (by omega)⟩ (fun _=>?_)
         clear hK
         try simp only [Act.put,List.getElem_toArray,List.getElem_cons_zero,List.getElem_cons_succ,List.setIfInBounds_toArray,List.set_cons_zero,List.set_cons_succ]
         refine wpAnyH_done (by kernel_rfl) ?_ _
         go_wp2
         obtain ⟨U,hU⟩:∃ U,U=w4.setCell ⟨w.heap.size,4,none⟩ (.slice (some ⟨g,0,none⟩) (ln + 1) cap):=⟨_,rfl⟩
         exact ins_end HGR.out HOW.out HLO.out HG1.out R2.out rfl rfl U hU _ (by rw [hU])
   · go_simp
     refine hK.out _ _ k1 (fun _=>?_)
     clear hK
     try simp only [Act.put,List.getElem_toArray,List.getElem_cons_zero,List.getElem_cons_succ,List.setIfInBounds_toArray,List.set_cons_zero,List.set_cons_succ]
     refine wpAnyH_take (i:=6) (v:=?v27) rfl (by kernel_rfl) (by kernel_rfl) (by kernel_rfl) (fun _ _ _ h=>h) (Or.inl ⟨by rfl,?h27⟩) (by assumption) ?r27
     case h27=>(intro W hSw;(try dsimp only at hSw);go_simp;all_goals (with_reducible rfl))
     try simp only [Act.put,List.getElem_toArray,List.getElem_cons_zero,List.getElem_cons_succ,List.setIfInBounds_toArray,List.set_cons_zero,List.set_cons_succ]
     refine wpAnyH_take (i:=7) (v:=?v28) rfl (by kernel_rfl) (by kernel_rfl) (by kernel_rfl) (fun _ _ _ h=>h) (Or.inl ⟨by rfl,?h28⟩) (by assumption) ?r28
     case h28=>(intro W hSw;(try dsimp only at hSw);go_simp;all_goals (with_reducible rfl))
     try simp only [Act.put,List.getElem_toArray,List.getElem_cons_zero,List.getElem_cons_succ,List.setIfInBounds_toArray,List.set_cons_zero,List.set_cons_succ]
     refine wpAnyH_ready (rs:=[1,11]) (by kernel_rfl) (by simp) ?_
     refine AllReadyH.cons rfl (fun K hK=>?_) (AllReadyH.cons rfl (fun K hK=>?_) (AllReadyH.nil))
     · go_simp
       refine hK.out _ _ k1 (fun _=>?_)
       clear hK
       try simp only [Act.put,List.getElem_toArray,List.getElem_cons_zero,List.getElem_cons_succ,List.setIfInBounds_toArray,List.set_cons_zero,List.set_cons_succ]
       refine wpAnyH_ready (rs:=[11]) (by kernel_rfl) (by simp) ?_
       refine AllReadyH.cons rfl (fun K hK=>?_) (AllReadyH.nil)
       · go_simp
         have HB2:Hid (InsW w (w1.alloc (.cells #[.string val] 9)) k t h s (.slice la ln lc) val N):=Lib.hid (HB1.out.grown (grown_alloc (grown_refl _ _) _))
         have k2:=HB2.out.wv
         have d2:=HB2.out.d
         refine hK.out _ _ k2 (fun _=>?_)
         clear hK
         try simp only [Act.put,List.getElem_toArray,List.getElem_cons_zero,List.getElem_cons_succ,List.setIfInBounds_toArray,List.set_cons_zero,List.set_cons_succ]
         refine wpAnyH_ready (rs:=[12]) (by kernel_rfl) (by simp) ?_
         refine AllReadyH.cons rfl (fun K hK=>?_) AllReadyH.nil
         go_simp
         refine (sins_any (.slice la ln lc) i ln w1.heap.size l val _ base (HO.out.grown HB2.out.gr) HN.out HI.out HM.out HB1.out.blk (fun e=>by have:=HLT.out _ e;have:=HB1.out.sz;omega) (Nat.le_trans HBS.out HB2.out.gr.size)).mono ?_
         rintro r w4 ⟨g,cap,hr,hown,hgr,hloc,_⟩
         obtain ⟨⟨p0,p1,p2,p3,p4,q0,q1,q2,q3,q4,r2,pf,qf⟩,k4⟩:=HB2.out.aft hgr HLT.out
         rw [←HN.out] at hr hown
         subst hr
         have HOW:=Lib.hid hown
         have HGR:=Lib.hid (grown_then HB2.out.gr hgr)
         have HLO:Hid ((Value.slice la ln lc).ownBlock=some g∨w.heap.size≤g):=Lib.hid (hloc.imp id (fun h5=>Nat.le_trans HB2.out.gr.size h5))
         have HG1:Hid (g≠w.heap.size∧g≠w.heap.size + 1 + 1):=Lib.hid (by have h3:=HB2.out.sz;have h6:=HLT.out g;rcases hloc with h5 | h5;(have:=h6 h5;omega);omega)
         have R2:=Lib.hid r2
         have f4:=pf 4
         have g0:=qf 0
         have g1:=qf 1
         have g2:=qf 2
         have g3:=qf 3
         have g4:=qf 4
         clear hown hgr hloc r2 pf qf k0 k1 k2 d0 d1 d2 HB HB1 HB2
         refine hK.out _ _ k4 (fun _=>?_)
         clear hK
         try simp only [Act.put,List.getElem_toArray,List.getElem_cons_zero,List.getElem_cons_succ,List.setIfInBounds_toArray,List.set_cons_zero,List.set_cons_succ]
         refine wpAnyH_take (i:=13) (v:=?v29) rfl (by kernel_rfl) (by kernel_rfl) (by kernel_rfl) (fun _ _ _ h=>h) (Or.inl ⟨by rfl,?h29⟩) (by assumption) ?r29
         case h29=>(intro W hSw;(try dsimp only at hSw);go_simp;all_goals (with_reducible rfl))
         try simp only [Act.put,List.getElem_toArray,List.getElem_cons_zero,List.getElem_cons_succ,List.setIfInBounds_toArray,List.set_cons_zero,List.set_cons_succ]
         refine wpAnyH_ready (rs:=[14]) (by kernel_rfl) (by simp) ?_
         refine AllReadyH.cons rfl (fun K hK=>?_) AllReadyH.nil
         go_simp
         refine hK.out _ _ ⟨set_other k4.1 (by omega),set_other k4.2 (by omega)⟩ (fun _=>?_)
         clear hK
         try simp only [Act.put,List.getElem_toArray,List.getElem_cons_zero,List.getElem_cons_succ,List.setIfInBounds_toArray,List.set_cons_zero,List.set_cons_succ]
         refine wpAnyH_done (by kernel_rfl) ?_ _
         go_wp2
         obtain ⟨U,hU⟩:∃ U,U=w4.setCell ⟨w.heap.size,4,none⟩ (.slice (some ⟨g,0,none⟩) (ln + 1) cap):=⟨_,rfl⟩
         exact ins_end HGR.out HOW.out HLO.out HG1.out R2.out rfl rfl U hU _ (by rw [hU])
     · go_simp
       have HB2:Hid (InsW w (w1.alloc (.cells #[.string val] 9)) k t h s (.slice la ln lc) val N):=Lib.hid (HB1.out.grown (grown_alloc (grown_refl _ _) _))
       have k2:=HB2.out.wv
       have d2:=HB2.out.d
       refine hK.out _ _ k2 (fun _=>?_)
       clear hK
       try simp only [Act.put,List.getElem_toArray,List.getElem_cons_zero,List.getElem_cons_succ,List.setIfInBounds_toArray,List.set_cons_zero,List.set_cons_succ]
       refine wpAnyH_ready (rs:=[1]) (by kernel_rfl) (by simp) ?_
       refine AllReadyH.cons rfl (fun K hK=>?_) (AllReadyH.nil)
       · go_simp
         refine hK.out _ _ k2 (fun _=>?_)
         clear hK
         try simp only [Act.put,List.getElem_toArray,List.getElem_cons_zero,List.getElem_cons_succ,List.setIfInBounds_toArray,List.set_cons_zero,List.set_cons_succ]
         refine wpAnyH_ready (rs:=[12]) (by kernel_rfl) (by simp) ?_
         refine AllReadyH.cons rfl (fun K hK=>?_) AllReadyH.nil
         go_simp
         refine (sins_any (.slice la ln lc) i ln w1.heap.size l val _ base (HO.out.grown HB2.out.gr) HN.out HI.out HM.out HB1.out.blk (fun e=>by have:=HLT.out _ e;have:=HB1.out.sz;omega) (Nat.le_trans HBS.out HB2.out.gr.size)).mono ?_
         rintro r w4 ⟨g,cap,hr,hown,hgr,hloc,_⟩
         obtain ⟨⟨p0,p1,p2,p3,p4,q0,q1,q2,q3,q4,r2,pf,qf⟩,k4⟩:=HB2.out.aft hgr HLT.out
         rw [←HN.out] at hr hown
         subst hr
         have HOW:=Lib.hid hown
         have HGR:=Lib.hid (grown_then HB2.out.gr hgr)
         have HLO:Hid ((Value.slice la ln lc).ownBlock=some g∨w.heap.size≤g):=Lib.hid (hloc.imp id (fun h5=>Nat.le_trans HB2.out.gr.size h5))
         have HG1:Hid (g≠w.heap.size∧g≠w.heap.size + 1 + 1):=Lib.hid (by have h3:=HB2.out.sz;have h6:=HLT.out g;rcases hloc with h5 | h5;(have:=h6 h5;omega);omega)
         have R2:=Lib.hid r2
         have f4:=pf 4
         have g0:=qf 0
         have g1:=qf 1
         have g2:=qf 2
         have g3:=qf 3
         have g4:=qf 4
         clear hown hgr hloc r2 pf qf k0 k1 k2 d0 d1 d2 HB HB1 HB2
         refine hK.out _ _ k4 (fun _=>?_)
         clear hK
         try simp only [Act.put,List.getElem_toArray,List.getElem_cons_zero,List.getElem_cons_succ,List.setIfInBounds_toArray,List.set_cons_zero,List.set_cons_succ]
         refine wpAnyH_take (i:=13) (v:=?v30) rfl (by kernel_rfl) (by kernel_rfl) (by kernel_rfl) (fun _ _ _ h=>h) (Or.inl ⟨by rfl,?h30⟩) (by assumption) ?r30
         case h30=>(intro W hSw;(try dsimp only at hSw);go_simp;all_goals (with_reducible rfl))
         try simp only [Act.put,List.getElem_toArray,List.getElem_cons_zero,List.getElem_cons_succ,List.setIfInBounds_toArray,List.set_cons_zero,List.set_cons_succ]
         refine wpAnyH_ready (rs:=[14]) (by kernel_rfl) (by simp) ?_
         refine AllReadyH.cons rfl (fun K hK=>?_) AllReadyH.nil
         go_simp
         refine hK.out _ _ ⟨set_other k4.1 (by omega),set_other k4.2 (by omega)⟩ (fun _=>?_)
         clear hK
         try simp only [Act.put,List.getElem_toArray,List.getElem_cons_zero,List.getElem_cons_succ,List.setIfInBounds_toArray,List.set_cons_zero,List.set_cons_succ]
         refine wpAnyH_done (by kernel_rfl) ?_ _
         go_wp2
         obtain ⟨U,hU⟩:∃ U,U=w4.setCell ⟨w.heap.size,4,none⟩ (.slice (some ⟨g,0,none⟩) (ln + 1) cap):=⟨_,rfl⟩
         exact ins_end HGR.out HOW.out HLO.out HG1.out R2.out rfl rfl U hU _ (by rw [hU])
   · go_simp
     have HB2:Hid (InsW w (w1.alloc (.cells #[.string val] 9)) k t h s (.slice la ln lc) val N):=Lib.hid (HB1.out.grown (grown_alloc (grown_refl _ _) _))
     have k2:=HB2.out.wv
     have d2:=HB2.out.d
     refine hK.out _ _ k2 (fun _=>?_)
     clear hK
     try simp only [Act.put,List.getElem_toArray,List.getElem_cons_zero,List.getElem_cons_succ,List.setIfInBounds_toArray,List.set_cons_zero,List.set_cons_succ]
     refine wpAnyH_ready (rs:=[1,5]) (by kernel_rfl) (by simp) ?_
     refine AllReadyH.cons rfl (fun K hK=>?_) (AllReadyH.cons rfl (fun K hK=>?_) (AllReadyH.nil))
     · go_simp
       refine hK.out _ _ k2 (fun _=>?_)
       clear hK
       try simp only [Act.put,List.getElem_toArray,List.getElem_cons_zero,List.getElem_cons_succ,List.setIfInBounds_toArray,List.set_cons_zero,List.set_cons_succ]
       refine wpAnyH_ready (rs:=[5]) (by kernel_rfl) (by simp) ?_
       refine AllReadyH.cons rfl (fun K hK=>?_) (AllReadyH.nil)
       · go_simp
         refine hK.out _ _ k2 (fun _=>?_)
         clear hK
         try simp only [Act.put,List.getElem_toArray,List.getElem_cons_zero,List.getElem_cons_succ,List.setIfInBounds_toArray,List.set_cons_zero,List.set_cons_succ]
         refine wpAnyH_take (i:=6) (v:=?v31) rfl (by kernel_rfl) (by kernel_rfl) (by kernel_rfl) (fun _ _ _ h=>h) (Or.inl ⟨by rfl,?h31⟩) (by assumption) ?r31
         case h31=>(intro W hSw;(try dsimp only at hSw);go_simp;all_goals (with_reducible rfl))
         try simp only [Act.put,List.getElem_toArray,List.getElem_cons_zero,List.getElem_cons_succ,List.setIfInBounds_toArray,List.set_cons_zero,List.set_cons_succ]
         refine wpAnyH_take (i:=7) (v:=?v32) rfl (by kernel_rfl) (by kernel_rfl) (by kernel_rfl) (fun _ _ _ h=>h) (Or.inl ⟨by rfl,?h32⟩) (by assumption) ?r32
         case h32=>(intro W hSw;(try dsimp only at hSw);go_simp;all_goals (with_reducible rfl))
         try simp only [Act.put,List.getElem_toArray,List.getElem_cons_zero,List.getElem_cons_succ,List.setIfInBounds_toArray,List.set_cons_zero,List.set_cons_succ]
         refine wpAnyH_ready (rs:=[12]) (by kernel_rfl) (by simp) ?_
         refine AllReadyH.cons rfl (fun K hK=>?_) AllReadyH.nil
         go_simp
         refine (sins_any (.slice la ln lc) i ln w1.heap.size l val _ base (HO.out.grown HB2.out.gr) HN.out HI.out HM.out HB1.out.blk (fun e=>by have:=HLT.out _ e;have:=HB1.out.sz;omega) (Nat.le_trans HBS.out HB2.out.gr.size)).mono ?_
         rintro r w4 ⟨g,cap,hr,hown,hgr,hloc,_⟩
         obtain ⟨⟨p0,p1,p2,p3,p4,q0,q1,q2,q3,q4,r2,pf,qf⟩,k4⟩:=HB2.out.aft hgr HLT.out
         rw [←HN.out] at hr hown
         subst hr
         have HOW:=Lib.hid hown
         have HGR:=Lib.hid (grown_then HB2.out.gr hgr)
         have HLO:Hid ((Value.slice la ln lc).ownBlock=some g∨w.heap.size≤g):=Lib.hid (hloc.imp id (fun h5=>Nat.le_trans HB2.out.gr.size h5))
         have HG1:Hid (g≠w.heap.size∧g≠w.heap.size + 1 + 1):=Lib.hid (by have h3:=HB2.out.sz;have h6:=HLT.out g;rcases hloc with h5 | h5;(have:=h6 h5;omega);omega)
         have R2:=Lib.hid r2
         have f4:=pf 4
         have g0:=qf 0
         have g1:=qf 1
         have g2:=qf 2
         have g3:=qf 3
         have g4:=qf 4
         clear hown hgr hloc r2 pf qf k0 k1 k2 d0 d1 d2 HB HB1 HB2
         refine hK.out _ _ k4 (fun _=>?_)
         clear hK
         try simp only [Act.put,List.getElem_toArray,List.getElem_cons_zero,List.getElem_cons_succ,List.setIfInBounds_toArray,List.set_cons_zero,List.set_cons_succ]
         refine wpAnyH_take (i:=13) (v:=?v33) rfl (by kernel_rfl) (by kernel_rfl) (by kernel_rfl) (fun _ _ _ h=>h) (Or.inl ⟨by rfl,?h33⟩) (by assumption) ?r33
         case h33=>(intro W hSw;(try dsimp only at hSw);go_simp;all_goals (with_reducible rfl))
         try simp only [Act.put,List.getElem_toArray,List.getElem_cons_zero,List.getElem_cons_succ,List.setIfInBounds_toArray,List.set_cons_zero,List.set_cons_succ]
         refine wpAnyH_ready (rs:=[14]) (by kernel_rfl) (by simp) ?_
         refine AllReadyH.cons rfl (fun K hK=>?_) AllReadyH.nil
         go_simp
         refine hK.out _ _ ⟨set_other k4.1 (by omega),set_other k4.2 (by omega)⟩ (fun _=>?_)
         clear hK
         try simp only [Act.put,List.getElem_toArray,List.getElem_cons_zero,List.getElem_cons_succ,List.setIfInBounds_toArray,List.set_cons_zero,List.set_cons_succ]
         refine wpAnyH_done (by kernel_rfl) ?_ _
         go_wp2
         obtain ⟨U,hU⟩:∃ U,U=w4.setCell ⟨w.heap.size,4,none⟩ (.slice (some ⟨g,0,none⟩) (ln + 1) cap):=⟨_,rfl⟩
         exact ins_end HGR.out HOW.out HLO.out HG1.out R2.out rfl rfl U hU _ (by rw [hU])
     · go_simp
       refine hK.out _ _ k2 (fun _=>?_)
       clear hK
       try simp only [Act.put,List.getElem_toArray,List.getElem_cons_zero,List.getElem_cons_succ,List.setIfInBounds_toArray,List.set_cons_zero,List.set_cons_succ]
       refine wpAnyH_take (i:=6) (v:=?v34) rfl (by kernel_rfl) (by kernel_rfl) (by kernel_rfl) (fun _ _ _ h=>h) (Or.inl ⟨by rfl,?h34⟩) (by assumption) ?r34
       case h34=>(intro W hSw;(try dsimp only at hSw);go_simp;all_goals (with_reducible rfl))
       try simp only [Act.put,List.getElem_toArray,List.getElem_cons_zero,List.getElem_cons_succ,List.setIfInBounds_toArray,List.set_cons_zero,List.set_cons_succ]
       refine wpAnyH_take (i:=7) (v:=?v35) rfl (by kernel_rfl) (by kernel_rfl) (by kernel_rfl) (fun _ _ _ h=>h) (Or.inl ⟨by rfl,?h35⟩) (by assumption) ?r35
       case h35=>(intro W hSw;(try dsimp only at hSw);go_simp;all_goals (with_reducible rfl))
       try simp only [Act.put,List.getElem_toArray,List.getElem_cons_zero,List.getElem_cons_succ,List.setIfInBounds_toArray,List.set_cons_zero,List.set_cons_succ]
       refine wpAnyH_ready (rs:=[1]) (by kernel_rfl) (by simp) ?_
       refine AllReadyH.cons rfl (fun K hK=>?_) (AllReadyH.nil)
       · go_simp
         refine hK.out _ _ k2 (fun _=>?_)
         clear hK
         try simp only [Act.put,List.getElem_toArray,List.getElem_cons_zero,List.getElem_cons_succ,List.setIfInBounds_toArray,List.set_cons_zero,List.set_cons_succ]
         refine wpAnyH_ready (rs:=[12]) (by kernel_rfl) (by simp) ?_
         refine AllReadyH.cons rfl (fun K hK=>?_) AllReadyH.nil
         go_simp
         refine (sins_any (.slice la ln lc) i ln w1.heap.size l val _ base (HO.out.grown HB2.out.gr) HN.out HI.out HM.out HB1.out.blk (fun e=>by have:=HLT.out _ e;have:=HB1.out.sz;omega) (Nat.le_trans HBS.out HB2.out.gr.size)).mono ?_
         rintro r w4 ⟨g,cap,hr,hown,hgr,hloc,_⟩
         obtain ⟨⟨p0,p1,p2,p3,p4,q0,q1,q2,q3,q4,r2,pf,qf⟩,k4⟩:=HB2.out.aft hgr HLT.out
         rw [←HN.out] at hr hown
         subst hr
         have HOW:=Lib.hid hown
         have HGR:=Lib.hid (grown_then HB2.out.gr hgr)
         have HLO:Hid ((Value.slice la ln lc).ownBlock=some g∨w.heap.size≤g):=Lib.hid (hloc.imp id (fun h5=>Nat.le_trans HB2.out.gr.size h5))
         have HG1:Hid (g≠w.heap.size∧g≠w.heap.size + 1 + 1):=Lib.hid (by have h3:=HB2.out.sz;have h6:=HLT.out g;rcases hloc with h5 | h5;(have:=h6 h5;omega);omega)
         have R2:=Lib.hid r2
         have f4:=pf 4
         have g0:=qf 0
         have g1:=qf 1
         have g2:=qf 2
         have g3:=qf 3
         have g4:=qf 4
         clear hown hgr hloc r2 pf qf k0 k1 k2 d0 d1 d2 HB HB1 HB2
         refine hK.out _ _ k4 (fun _=>?_)
         clear hK
         try simp only [Act.put,List.getElem_toArray,List.getElem_cons_zero,List.getElem_cons_succ,List.setIfInBounds_toArray,List.set_cons_zero,List.set_cons_succ]
         refine wpAnyH_take (i:=13) (v:=?v36) rfl (by kernel_rfl) (by kernel_rfl) (by kernel_rfl) (fun _ _ _ h=>h) (Or.inl ⟨by rfl,?h36⟩) (by assumption) ?r36
         case h36=>(intro W hSw;(try dsimp only at hSw);go_simp;all_goals (with_reducible rfl))
         try simp only [Act.put,List.getElem_toArray,List.getElem_cons_zero,List.getElem_cons_succ,List.setIfInBounds_toArray,List.set_cons_zero,List.set_cons_succ]
         refine wpAnyH_ready (rs:=[14]) (by kernel_rfl) (by simp) ?_
         refine AllReadyH.cons rfl (fun K hK=>?_) AllReadyH.nil
         go_simp
         refine hK.out _ _ ⟨set_other k4.1 (by omega),set_other k4.2 (by omega)⟩ (fun _=>?_)
         clear hK
         try simp only [Act.put,List.getElem_toArray,List.getElem_cons_zero,List.getElem_cons_succ,List.setIfInBounds_toArray,List.set_cons_zero,List.set_cons_succ]
         refine wpAnyH_done (by kernel_rfl) ?_ _
         go_wp2
         obtain ⟨U,hU⟩:∃ U,U=w4.setCell ⟨w.heap.size,4,none⟩ (.slice (some ⟨g,0,none⟩) (ln + 1) cap):=⟨_,rfl⟩
         exact ins_end HGR.out HOW.out HLO.out HG1.out R2.out rfl rfl U hU _ (by rw [hU])
 -- LEAF
end Go.Proofs.YtddbpnplbcjpgaaGreatDoor
