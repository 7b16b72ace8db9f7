import Derived.Test.YtddbpnplbcjpgaaGreatDoorLp16
namespace Go.Proofs.YtddbpnplbcjpgaaGreatDoor
open Go.RowKit
structure ApL (w W:World) (T R K:Int) (key val:ByteArray) (N:Int):Prop where
 rowc:W.heap[w.heap.size]? = some (.cells #[.int .i64 T,.int .i64 R,.int .i64 K,.string key,.string val,.int .i64 N] 26 (0,0))
 rowr:W.heap[w.heap.size + 1]? = some (.cells #[.int .i64 0,.int .i64 0,.int .i64 0,.string ⟨#[]⟩,.string ⟨#[]⟩,.int .i64 0] 26 (0,0))
 bel:Below w.heap.size w W
 sz:w.heap.size + 2≤W.heap.size
theorem ApL.below {w W W':World} {T R K N:Int} {key val:ByteArray} {B:Nat} (h:ApL w W T R K key val N) (hb:Below B W W') (hB:w.heap.size + 2≤B):ApL w W' T R K key val N :=
 ⟨(hb.block _ (by omega)).trans h.rowc,(hb.block _ (by omega)).trans h.rowr,h.bel.trans (hb.mono (by omega)),Nat.le_trans h.sz hb.size⟩
theorem ApL.call {w W W':World} {T R K N:Int} {key val:ByteArray} (h:ApL w W T R K key val N) (hb:Below W.heap.size W W'):ApL w W' T R K key val N:=h.below hb h.sz
theorem apL0 (w:World) (T R K:Int) (key val:ByteArray) (N:Int) :
   ApL w ((w.alloc (.cells #[.int .i64 T,.int .i64 R,.int .i64 K,.string key,.string val,.int .i64 N] 26)).alloc (.cells #[.int .i64 0,.int .i64 0,.int .i64 0,.string ⟨#[]⟩,.string ⟨#[]⟩,.int .i64 0] 26)) T R K key val N:=by
 have s1:(w.alloc (.cells #[.int .i64 T,.int .i64 R,.int .i64 K,.string key,.string val,.int .i64 N] 26)).heap.size=w.heap.size + 1:=by simp
 refine ⟨?_,?_,((Below.refl _ _).alloc (Nat.le_refl _) _).alloc (by simp) _,by simp⟩
 · rw [Below.heap_alloc _ _ _ (by omega)];exact heap_alloc_new _ _
 · have:=heap_alloc_new (w.alloc (.cells #[.int .i64 T,.int .i64 R,.int .i64 K,.string key,.string val,.int .i64 N] 26)) (.cells #[.int .i64 0,.int .i64 0,.int .i64 0,.string ⟨#[]⟩,.string ⟨#[]⟩,.int .i64 0] 26)
   rwa [s1] at this
theorem ApL.put {w W:World} {T R K N:Int} {key val:ByteArray} {j:Nat} {z:Value} (h:ApL w W T R K key val N) (hz:(#[.int .i64 T,.int .i64 R,.int .i64 K,.string key,.string val,.int .i64 N]:Array Value).setIfInBounds j z=#[.int .i64 T,.int .i64 R,.int .i64 K,.string key,.string val,.int .i64 N]) :
   ApL w (W.setCell ⟨w.heap.size,j,none⟩ z) T R K key val N :=
 ⟨by rw [←hz];exact heap_setCell_same _ _ j _ _ z h.rowc,(heap_setCell_other _ _ _ _ (by show _≠w.heap.size;omega)).trans h.rowr,h.bel.setCell (Nat.le_refl _) _,by rw [show (W.setCell ⟨w.heap.size,j,none⟩ z).heap.size=W.heap.size from by simp];exact h.sz⟩
theorem apL_free {w W:World} {T R K N:Int} {key val:ByteArray} (h:ApL w W T R K key val N) (i:Nat):W.frozen? ⟨w.heap.size,i,none⟩=false:=by simp [World.frozen?,h.rowc]
theorem apL_freeR {w W:World} {T R K N:Int} {key val:ByteArray} (h:ApL w W T R K key val N) (i:Nat):W.frozen? ⟨w.heap.size + 1,i,none⟩=false:=by simp [World.frozen?,h.rowr]
theorem apL_k {w W:World} {T R K N:Int} {key val:ByteArray} (h:ApL w W T R K key val N):W.cell? ⟨w.heap.size,3,none⟩=some (.string key)∧W.cell? ⟨w.heap.size,4,none⟩=some (.string val):=⟨cell_of_row _ _ 3 _ _ _ h.rowc,cell_of_row _ _ 4 _ _ _ h.rowc⟩
theorem lrow_set6 {U:World} {B:Nat} {z0 z1 z2 z3 z4 z5:Value} {T:TypeId} (h:U.heap[B]? = some (.cells #[z0,z1,z2,z3,z4,z5] T (0,0))) (a0 a1 a2 a3 a4 a5:Value) :
   ((((((U.setCell ⟨B,0,none⟩ a0).setCell ⟨B,1,none⟩ a1).setCell ⟨B,2,none⟩ a2).setCell ⟨B,3,none⟩ a3).setCell ⟨B,4,none⟩ a4).setCell ⟨B,5,none⟩ a5).heap[B]? = some (.cells #[a0,a1,a2,a3,a4,a5] T (0,0)) :=
 heap_setCell_same _ _ 5 _ _ a5 (heap_setCell_same _ _ 4 _ _ a4 (heap_setCell_same _ _ 3 _ _ a3 (heap_setCell_same _ _ 2 _ _ a2 (heap_setCell_same _ _ 1 _ _ a1 (heap_setCell_same _ _ 0 _ _ a0 h)))))
theorem lwr_sized (a0 a1 a2 a3 a4 a5:Value):(Tryz.prog.info? 26).map (·.size)=some (#[a0,a1,a2,a3,a4,a5]:Array Value).size:=by kernel_rfl
set_option maxRecDepth 100000 in
set_option maxHeartbeats 8000000 in
theorem lapart_any (T R K:Int) (key val:ByteArray) (N:Int) (w:World) (hk:key.size≤140737488351232) (hv:val.size≤140737488351232) :
   Calls Tryz.prog 29 #[.agg #[.int .i64 T,.int .i64 R,.int .i64 K,.string key,.string val,.int .i64 N]] w fun e w'=>e=.returned (.agg #[.int .i64 T,.int .i64 R,.int .i64 K,.string key,.string val,.int .i64 N])∧Below w.heap.size w w':=by
 have hne:¬ w.heap.size + 1=w.heap.size:=by omega
 have hne2:¬ w.heap.size=w.heap.size + 1:=by omega
 have HW0:=Lib.hid (apL0 w T R K key val N)
 go_enter Tryz.func29,Tryz.ntmps29
 go_wp2
 obtain ⟨u,hu⟩:∃ u,u=((w.alloc (.cells #[.int .i64 T,.int .i64 R,.int .i64 K,.string key,.string val,.int .i64 N] 26)).alloc (.cells #[.int .i64 0,.int .i64 0,.int .i64 0,.string ⟨#[]⟩,.string ⟨#[]⟩,.int .i64 0] 26)):=⟨_,rfl⟩
 rw [←hu] at HW0 ⊢
 have HW:Hid (ApL w u.drew T R K key val N):=Lib.hid (HW0.out.below (B:=u.heap.size) (Below.refl _ _).drew HW0.out.sz)
 have k0:=apL_k HW.out
 clear hu HW0
 go_region_held3 (fun w'=>w'.cell? ⟨w.heap.size,3,none⟩=some (.string key)∧w'.cell? ⟨w.heap.size,4,none⟩=some (.string val)) (first | exact k0 | exact k1 | exact k2 | exact k3 | exact k4 | fail) (first
   | (go_at_call 66;((with_reducible refine (clone_s key u.drew hk).mono ?_);rintro r w1 ⟨rfl,hb1⟩;have HW1:Hid (ApL w w1 T R K key val N):=Lib.hid (HW.out.call hb1);have k1:=apL_k HW1.out;clear hb1))
   | (go_at_call 66;((with_reducible refine (clone_s val u.drew hv).mono ?_);rintro r w1 ⟨rfl,hb1⟩;have HW1:Hid (ApL w w1 T R K key val N):=Lib.hid (HW.out.call hb1);have k1:=apL_k HW1.out;clear hb1))
   | (go_at_call 66;((with_reducible refine (clone_s key w1 hk).mono ?_);rintro r w2 ⟨rfl,hb2⟩;have HW2:Hid (ApL w w2 T R K key val N):=Lib.hid (HW1.out.call hb2);have k2:=apL_k HW2.out;have z3:=apL_free HW2.out 3;have z4:=apL_free HW2.out 4;have HW3:Hid (ApL w (w2.setCell ⟨w.heap.size,3,none⟩ (.string key)) T R K key val N):=Lib.hid (HW2.out.put rfl);have HW4:Hid (ApL w ((w2.setCell ⟨w.heap.size,3,none⟩ (.string key)).setCell ⟨w.heap.size,4,none⟩ (.string val)) T R K key val N):=Lib.hid (HW3.out.put rfl);have k3:=apL_k HW3.out;have k4:=apL_k HW4.out;clear hb2))
   | (go_at_call 66;((with_reducible refine (clone_s val w1 hv).mono ?_);rintro r w2 ⟨rfl,hb2⟩;have HW2:Hid (ApL w w2 T R K key val N):=Lib.hid (HW1.out.call hb2);have k2:=apL_k HW2.out;have z3:=apL_free HW2.out 3;have z4:=apL_free HW2.out 4;have HW3:Hid (ApL w (w2.setCell ⟨w.heap.size,3,none⟩ (.string key)) T R K key val N):=Lib.hid (HW2.out.put rfl);have HW4:Hid (ApL w ((w2.setCell ⟨w.heap.size,3,none⟩ (.string key)).setCell ⟨w.heap.size,4,none⟩ (.string val)) T R K key val N):=Lib.hid (HW3.out.put rfl);have k3:=apL_k HW3.out;have k4:=apL_k HW4.out;clear hb2))
   | fail)
 all_goals
   obtain ⟨W,hW⟩:∃ W,W=(w2.setCell ⟨w.heap.size,3,none⟩ (.string key)).setCell ⟨w.heap.size,4,none⟩ (.string val):=⟨_,rfl⟩
   rw [←hW] at HW4 ⊢
   have c0:W.cell? ⟨w.heap.size,0,none⟩=some (.int .i64 T):=cell_of_row _ _ 0 _ _ _ HW4.out.rowc
   have c1:W.cell? ⟨w.heap.size,1,none⟩=some (.int .i64 R):=cell_of_row _ _ 1 _ _ _ HW4.out.rowc
   have c2:W.cell? ⟨w.heap.size,2,none⟩=some (.int .i64 K):=cell_of_row _ _ 2 _ _ _ HW4.out.rowc
   have c3:W.cell? ⟨w.heap.size,3,none⟩=some (.string key):=cell_of_row _ _ 3 _ _ _ HW4.out.rowc
   have c4:W.cell? ⟨w.heap.size,4,none⟩=some (.string val):=cell_of_row _ _ 4 _ _ _ HW4.out.rowc
   have c5:W.cell? ⟨w.heap.size,5,none⟩=some (.int .i64 N):=cell_of_row _ _ 5 _ _ _ HW4.out.rowc
   have d0:W.cell? ⟨w.heap.size + 1,0,none⟩=some (.int .i64 0):=cell_of_row _ _ 0 _ _ _ HW4.out.rowr
   have d1:W.cell? ⟨w.heap.size + 1,1,none⟩=some (.int .i64 0):=cell_of_row _ _ 1 _ _ _ HW4.out.rowr
   have d2:W.cell? ⟨w.heap.size + 1,2,none⟩=some (.int .i64 0):=cell_of_row _ _ 2 _ _ _ HW4.out.rowr
   have d3:W.cell? ⟨w.heap.size + 1,3,none⟩=some (.string ⟨#[]⟩):=cell_of_row _ _ 3 _ _ _ HW4.out.rowr
   have d4:W.cell? ⟨w.heap.size + 1,4,none⟩=some (.string ⟨#[]⟩):=cell_of_row _ _ 4 _ _ _ HW4.out.rowr
   have d5:W.cell? ⟨w.heap.size + 1,5,none⟩=some (.int .i64 0):=cell_of_row _ _ 5 _ _ _ HW4.out.rowr
   have z0:=apL_freeR HW4.out 0
   have z1:=apL_freeR HW4.out 1
   have z2:=apL_freeR HW4.out 2
   have z3:=apL_freeR HW4.out 3
   have z4:=apL_freeR HW4.out 4
   have z5:=apL_freeR HW4.out 5
   clear hW k0 k1 k2 k3 k4 HW3 HW2 HW1 HW
   go_wp2
   have hR:=lrow_set6 HW4.out.rowr (.int .i64 T) (.int .i64 R) (.int .i64 K) (.string key) (.string val) (.int .i64 N)
   obtain ⟨V,hV⟩:∃ V,V=((((((W.setCell ⟨w.heap.size + 1,0,none⟩ (.int .i64 T)).setCell ⟨w.heap.size + 1,1,none⟩ (.int .i64 R)).setCell ⟨w.heap.size + 1,2,none⟩ (.int .i64 K)).setCell ⟨w.heap.size + 1,3,none⟩ (.string key)).setCell ⟨w.heap.size + 1,4,none⟩ (.string val)).setCell ⟨w.heap.size + 1,5,none⟩ (.int .i64 N)):=⟨_,rfl⟩
   have hbV:Below w.heap.size w V:=by rw [hV];exact (((((HW4.out.bel.setCell (by simp) _).setCell (by simp) _).setCell (by simp) _).setCell (by simp) _).setCell (by simp) _).setCell (by simp) _
   rw [←hV] at hR ⊢
   clear hV
   refine bodyPost_ret (v:=.agg #[.int .i64 T,.int .i64 R,.int .i64 K,.string key,.string val,.int .i64 N]) (results_cell_row Tryz.results29 _ _ (w.heap.size + 1) 26 _ _ _ rfl hR Tryz.underlying26 rfl (lwr_sized _ _ _ _ _ _)) rfl ?_
   exact ⟨rfl,hbV⟩
set_option maxRecDepth 100000 in
set_option maxHeartbeats 4000000 in
theorem allapart_any (v:Value) (l:List Wr) (w:World) (hv:IsWrs w v l) (hl:l.length≤100000) (hok:∀ x∈l,x.key.size≤140737488351232∧x.value.size≤140737488351232) :
   Calls Tryz.prog 46 #[v] w fun e w'=>∃ u,e=.returned u∧ownsW w' w.heap.size u l∧Below w.heap.size w w'∧(l=[]→u=.slice none 0 0):=by
 obtain ⟨a,c,rfl,hf⟩:=hv.form
 have HF:=Lib.hid hf
 have HOK:=Lib.hid hok
 obtain ⟨n,hn⟩:∃ n,n=l.length:=⟨_,rfl⟩
 rw [←hn] at hl ⊢
 have HN:=Lib.hid hn
 clear hv hf hok hn
 go_enter Tryz.func46,Tryz.ntmps46
 go_wp2
 go_loopw [3,8] (fun lv i wr=>∃ k:Nat,k≤n∧i=.int .i64 k∧ownsW wr w.heap.size lv (l.take k)∧Below w.heap.size w wr∧(k=0→lv=.slice none 0 0)) (fun _ i _=>n - (intOf i).toNat)
 case atStart=>exact ⟨0,by omega,rfl,ownsW_nil _ _,Below.refl _ _,fun _=>rfl⟩
 case round =>
   obtain ⟨k,hk,rfl,ho,hb,hz⟩:=hrel
   have HO:=Lib.hid ho
   have HB:=Lib.hid hb
   have HSR:=Lib.hid hb.size
   have HZ:=Lib.hid hz
   clear ho hb hz
   by_cases hlt:k < n
   · have b1:decide ((k:Int) < (n:Int))=true:=by simpa using hlt
     obtain ⟨x, hx⟩ : ∃ x, l[k]? = some x := ⟨l[k]'(by rw [← HN.out]; exact hlt), List.getElem?_eq_getElem _⟩
     obtain ⟨b,off,rfl,hbl,c0,c1,c2,c3,c4,c5⟩:=HF.out k x hx
     have hsz:=HOK.out x (List.mem_of_getElem? hx)
     have HTS:Hid (l.take (k + 1)=l.take k ++ [x]):=Lib.hid (by rw [List.take_add_one,hx];rfl)
     have hkl:(l.take k).length=k:=by rw [List.length_take,←HN.out];omega
     obtain ⟨T,Re,K,key,val,N⟩:=x
     simp only at c0 c1 c2 c3 c4 c5 hsz
     obtain ⟨hks,hvs⟩:=hsz
     have d:∀ j u,w.cell? ⟨b,j,none⟩=some u→wr.cell? ⟨b,j,none⟩=some u:=fun j u hu=>(HB.out.cell (p:=⟨b,j,none⟩) hbl).trans hu
     have e0:=d _ _ c0
     have e1:=d _ _ c1
     have e2:=d _ _ c2
     have e3:=d _ _ c3
     have e4:=d _ _ c4
     have e5:=d _ _ c5
     obtain ⟨L,hL⟩:∃ L,L=l.take k:=⟨_,rfl⟩
     rw [←hL] at HO HTS hkl
     have HKL:=Lib.hid hkl
     clear hx c0 c1 c2 c3 c4 c5 d hbl hL hkl
     go_wp2_with (first
       | (go_at_call 29;refine (lapart_any T Re K key val N _ hks hvs).mono ?_;rintro r w3 ⟨rfl,hb3⟩;have HB3:Hid (Below wr.heap.size wr w3):=Lib.hid (((Below.refl _ _).alloc (Nat.le_refl _) _).trans (hb3.mono (by simp)));clear hb3)
       | (at_builtin;refine wpList_append_wr rfl _ _ rfl w.heap.size _ L rfl ((HO.out.below HB3.out).alloc _) w3.heap.size 1 rfl ⟨T,Re,K,key,val,N⟩ (heap_alloc_new _ _) (by have:=HKL.out;omega) (by have:=HSR.out;have:=HB3.out.size;simp;omega) ?_;intro g cap w4 ho4 hg4;have HO4:=Lib.hid ho4;have HG4:=Lib.hid hg4;clear ho4 hg4))
     go_roundw
     · refine ⟨k + 1,by omega,by simp,?_,?_,fun h=>by omega⟩
       · rw [HTS.out]
         exact HO4.out
       · exact ((HB.out.trans (HB3.out.mono HSR.out)).alloc (Nat.le_trans HSR.out HB3.out.size) _).grown HG4.out (by have:=HSR.out;have:=HB3.out.size;simp;omega) (fun g hg=>(HO.out.lt g hg).1)
     · simp [intOf];omega
   · have b1:decide ((k:Int) < (n:Int))=false:=by simp;omega
     obtain rfl:k=n:=by omega
     have HT:Hid (ownsW wr w.heap.size u3 l):=Lib.hid (by have:=HO.out;rwa [List.take_of_length_le (by rw [HN.out];exact Nat.le_refl _)] at this)
     go_wp2
     go_ret
     exact ⟨_,rfl,HT.out,HB.out,fun h=>HZ.out (by rw [HN.out,h];rfl)⟩
end Go.Proofs.YtddbpnplbcjpgaaGreatDoor
namespace Go.Proofs.YtddbpnplbcjpgaaGreatDoor
open Go.RowKit
def cAt (l:List Wr) (x:Int×Int) (k:Nat):Int:=(l[k]?.map fun y=>cI x (wid y)).getD 0
theorem cAt_is {l:List Wr} {x:Int×Int} {k:Nat} {y:Wr} (h:l[k]? = some y):cAt l x k=cI x (wid y):=by unfold cAt;rw [h];rfl
theorem keep5 {w w':World} {a b c d e:Addr} {x y z u v:Value} (hb:Below w.heap.size w w') (h:w.cell? a=some x∧w.cell? b=some y∧w.cell? c=some z∧w.cell? d=some u∧w.cell? e=some v) :
   w'.cell? a=some x∧w'.cell? b=some y∧w'.cell? c=some z∧w'.cell? d=some u∧w'.cell? e=some v :=
 ⟨(hb.cell (lt_of_cell h.1)).trans h.1,(hb.cell (lt_of_cell h.2.1)).trans h.2.1,(hb.cell (lt_of_cell h.2.2.1)).trans h.2.2.1,(hb.cell (lt_of_cell h.2.2.2.1)).trans h.2.2.2.1,(hb.cell (lt_of_cell h.2.2.2.2)).trans h.2.2.2.2⟩
set_option maxRecDepth 100000 in
set_option maxHeartbeats 4000000 in
theorem place1_any (v:Value) (l:List Wr) (x1 x2:Int) (i:Nat) (B2 B3:Nat) (w:World) (hv:IsWrs w v l) (hi:i < l.length) (h2:w.heap[B2]? = some (.cells #[v] 28 (0,0))) (h3:w.heap[B3]? = some (.cells #[.int .i64 x1,.int .i64 x2] 24 (0,0))) :
   Calls Tryz.prog 91 #[.int .i64 (i:Int),.pointer (some ⟨B3,0,none⟩),.pointer (some ⟨B2,0,none⟩)] w fun e w'=>e=.returned (.int .i64 (cAt l (x1,x2) i))∧Below w.heap.size w w':=by
 obtain ⟨a,c,rfl,hf⟩:=hv.form
 obtain ⟨y,hy⟩:∃ y,l[i]? = some y:=⟨l[i],List.getElem?_eq_getElem _⟩
 obtain ⟨b,off,rfl,hbl,c0,c1,_⟩:=hf i y hy
 have HC:Hid (cI (x1,x2) (y.time,y.rep)=cAt l (x1,x2) i):=Lib.hid (cAt_is hy).symm
 obtain ⟨z,hz⟩:∃ z,z=cAt l (x1,x2) i:=⟨_,rfl⟩
 rw [←hz] at HC ⊢
 obtain ⟨n,hn⟩:∃ n,n=l.length:=⟨_,rfl⟩
 rw [←hn] at hi h2
 have p2:w.cell? ⟨B2,0,none⟩=some (.slice (some ⟨b,off,none⟩) n c):=cell_of_row _ _ 0 _ _ _ h2
 have p3:w.cell? ⟨B3,0,none⟩=some (.int .i64 x1):=cell_of_row _ _ 0 _ _ _ h3
 have p4:w.cell? ⟨B3,1,none⟩=some (.int .i64 x2):=cell_of_row _ _ 1 _ _ _ h3
 have hii:(i:Int) < (n:Int):=by omega
 have k0:w.drew.cell? ⟨B2,0,none⟩=some (.slice (some ⟨b,off,none⟩) n c)∧w.drew.cell? ⟨B3,0,none⟩=some (.int .i64 x1)∧w.drew.cell? ⟨B3,1,none⟩=some (.int .i64 x2)∧w.drew.cell? ⟨b,off + i * 6,none⟩=some (.int .i64 y.time)∧w.drew.cell? ⟨b,off + i * 6 + 1,none⟩=some (.int .i64 y.rep):=⟨p2,p3,p4,c0,c1⟩
 obtain ⟨T,R,_,_,_,_⟩:=y
 simp only at c0 c1 k0 HC
 clear hv hf hz hn h2 h3 hy
 go_enter Tryz.func91,Tryz.ntmps91
 go_wp2
 go_region_held3 (fun w'=>w'.cell? ⟨B2,0,none⟩=some (.slice (some ⟨b,off,none⟩) n c)∧w'.cell? ⟨B3,0,none⟩=some (.int .i64 x1)∧w'.cell? ⟨B3,1,none⟩=some (.int .i64 x2)∧w'.cell? ⟨b,off + i * 6,none⟩=some (.int .i64 T)∧w'.cell? ⟨b,off + i * 6 + 1,none⟩=some (.int .i64 R)) (first | exact k0 | exact k1 | fail) (first
   | (go_at_call 88;((with_reducible refine (idcmp_as x1 x2 T R z w.drew HC.out).mono ?_);rintro r w1 ⟨rfl,hb1⟩;have HB1:=Lib.hid (undrew3 hb1);have k1:=keep5 hb1 k0;clear hb1))
   | fail)
 all_goals
   go_wp2
   go_ret
   exact ⟨rfl,HB1.out⟩
set_option maxRecDepth 100000 in
set_option maxHeartbeats 4000000 in
theorem find_any (v:Value) (l:List Wr) (x1 x2:Int) (n:Nat) (B2 B3:Nat) (w:World) (hv:IsWrs w v l) (hn:n=l.length) (hl:n≤1000000) (h2:w.heap[B2]? = some (.cells #[v] 28 (0,0))) (h3:w.heap[B3]? = some (.cells #[.int .i64 x1,.int .i64 x2] 24 (0,0)))
   (hm:∀ i j,i≤j→j < n→0 < cAt l (x1,x2) j→0 < cAt l (x1,x2) i) :
   Calls Tryz.prog 90 #[.int .i64 (n:Int),.func (.func 91) #[] #[.pointer (some ⟨B3,0,none⟩),.pointer (some ⟨B2,0,none⟩)]] w fun e w' =>
     ∃ p:Nat,p≤n∧(∀ k,k < p→0 < cAt l (x1,x2) k)∧(∀ k,p≤k→k < n→cAt l (x1,x2) k≤0)∧e=.returned (.tuple #[.int .i64 (p:Int),.bool (decide (p < n∧cAt l (x1,x2) p=0))])∧Below w.heap.size w w':=by
 obtain ⟨G,hG⟩:∃ G,G=cAt l (x1,x2):=⟨_,rfl⟩
 have HP:Hid (∀ i w',i < n→Below w.heap.size w w'→Calls Tryz.prog 91 #[.int .i64 (i:Int),.pointer (some ⟨B3,0,none⟩),.pointer (some ⟨B2,0,none⟩)] w' fun e w''=>e=.returned (.int .i64 (G i))∧Below w'.heap.size w' w''):=Lib.hid (fun i w' hi hb=>by
   rw [hG]
   exact place1_any v l x1 x2 i B2 B3 w' (hv.below hb) (by omega) ((hb.block B2 (Array.getElem?_eq_some_iff.1 h2).1).trans h2) ((hb.block B3 (Array.getElem?_eq_some_iff.1 h3).1).trans h3))
 rw [←hG] at hm ⊢
 have HM:=Lib.hid hm
 clear hG hm hv hn h2 h3
 go_enter Tryz.func90,Tryz.ntmps90
 go_wp2
 go_loopw [4,6] (fun i j wr=>∃ a b:Nat,a≤b∧b≤n∧i=.int .i64 a∧j=.int .i64 b∧(∀ k,k < a→0 < G k)∧(∀ k,b≤k→k < n→G k≤0)∧Below w.heap.size w wr) (fun i j _=>(intOf j).toNat - (intOf i).toNat)
 case atStart=>exact ⟨0,n,by omega,by omega,rfl,rfl,fun k hk=>(by omega),fun k h1 h2=>(by omega),Below.refl _ _⟩
 case round =>
   obtain ⟨a,b,hab,hbn,rfl,rfl,hlo,hhi,hb⟩:=hrel
   have HLO:=Lib.hid hlo
   have HHI:=Lib.hid hhi
   have HB:=Lib.hid hb
   clear hlo hhi hb
   by_cases hlt:a < b
   · have b1:decide ((a:Int) < (b:Int))=true:=by simpa using hlt
     obtain ⟨h,hh⟩:∃ h:Nat,h=(a + b) / 2:=⟨_,rfl⟩
     have hh2:Hid (a≤h∧h < b):=Lib.hid (by omega)
     have HH:Hid (((a:Int) + (b:Int)) / 2=(h:Int)):=Lib.hid (by omega)
     have hhn:h≤1000000:=by omega
     clear hh
     go_wp2_with fail
     rw [HH.out]
     refine (HP.out h wr (by have:=hh2.out;omega) HB.out).mono ?_
     rintro r w1 ⟨rfl,hb1⟩
     have HB1:Hid (Below w.heap.size w w1):=Lib.hid (HB.out.trans (hb1.mono HB.out.size))
     clear hb1
     by_cases hp:0 < G h
     · have b2:decide (0 < G h)=true:=by simpa using hp
       have HPP:=Lib.hid hp
       obtain ⟨z,hz⟩:∃ z,z=G h:=⟨_,rfl⟩
       rw [←hz] at b2 ⊢
       clear hp hz
       go_wp2
       go_roundw
       · exact ⟨h + 1,b,by have:=hh2.out;omega,by omega,by simp,rfl,fun k hk=>HM.out k h (by omega) (by have:=hh2.out;omega) HPP.out,HHI.out,HB1.out⟩
       · have:=hh2.out;simp [intOf];omega
     · have b2:decide (0 < G h)=false:=by simpa using hp
       have HPP:=Lib.hid hp
       obtain ⟨z,hz⟩:∃ z,z=G h:=⟨_,rfl⟩
       rw [←hz] at b2 ⊢
       clear hp hz
       go_wp2
       go_roundw
       · refine ⟨a,h,by have:=hh2.out;omega,by have:=hh2.out;omega,rfl,rfl,HLO.out,fun k h1 h2=>?_,HB1.out⟩
         exact Int.not_lt.1 (fun e=>by have:=HM.out h k h1 h2 e;have:=HPP.out;omega)
       · have:=hh2.out;simp [intOf];omega
   · have b1:decide ((a:Int) < (b:Int))=false:=by simp;omega
     obtain rfl:a=b:=by omega
     by_cases hlt2:a < n
     · have b2:decide ((a:Int) < (n:Int))=true:=by simpa using hlt2
       have HL2:=Lib.hid hlt2
       go_wp2_with fail
       refine (HP.out a wr HL2.out HB.out).mono ?_
       rintro r w1 ⟨rfl,hb1⟩
       have HB1:Hid (Below w.heap.size w w1):=Lib.hid (HB.out.trans (hb1.mono HB.out.size))
       clear hb1
       obtain ⟨z,hz⟩:∃ z,z=G a:=⟨_,rfl⟩
       rw [←hz]
       have HZ:=Lib.hid hz
       clear hz
       go_wp2
       go_ret2
       refine ⟨a,hbn,HLO.out,HHI.out,?_,HB1.out⟩
       have e:decide (a < n∧G a=0)=(z == 0):=by rw [←HZ.out];simp [HL2.out];rfl
       rw [e]
       rfl
     · have b2:decide ((a:Int) < (n:Int))=false:=by simp;omega
       have HL2:=Lib.hid hlt2
       go_wp2
       go_ret2
       refine ⟨a,hbn,HLO.out,HHI.out,?_,HB.out⟩
       have e:decide (a < n∧G a=0)=false:=by simp;intro h;exact absurd h HL2.out
       rw [e]
       rfl
theorem cAt_mono {l:List Wr} (h:l.Pairwise late) (x:Int×Int):∀ i j,i≤j→j < l.length→0 < cAt l x j→0 < cAt l x i:=by
 intro i j hij hj h0
 obtain ⟨a,ha⟩:∃ a,l[i]? = some a:=⟨l[i],List.getElem?_eq_getElem _⟩
 obtain ⟨b,hb⟩:∃ b,l[j]? = some b:=⟨l[j],List.getElem?_eq_getElem _⟩
 rw [cAt_is hb] at h0
 rw [cAt_is ha]
 by_cases e:i=j
 · subst e
   rw [ha] at hb
   rw [Option.some.inj hb];exact h0
 have hl:late a b:=by
   have:=List.pairwise_iff_getElem.1 h i j (by omega) hj (by omega)
   rwa [(List.getElem?_eq_some_iff.1 ha).2,(List.getElem?_eq_some_iff.1 hb).2] at this
 obtain ⟨x1,x2⟩:=x
 rw [late_lt] at hl
 unfold wid at h0 ⊢
 rw [cI_val] at h0 ⊢
 split at h0
 · omega
 · split at h0
   · omega
   · rename_i h1 h2
     rw [if_neg (by omega),if_neg (by omega)]
     omega
theorem cAt_yes {l:List Wr} {x y:Wr} {k:Nat} (h:l[k]? = some y):0 < cAt l (wid x) k↔late y x:=by
 rw [cAt_is h,late_lt]
 unfold wid
 rw [cI_val]
 split
 · omega
 · split <;> omega
theorem cAt_eq {l:List Wr} {x y:Wr} {k:Nat} (h:l[k]? = some y):cAt l (wid x) k=0↔wid y=wid x:=by
 rw [cAt_is h]
 unfold wid
 rw [cI_val]
 split
 · simp;omega
 · split
   · simp;omega
   · simp;omega
set_option maxRecDepth 100000 in
theorem lplace_any (v:Value) (l:List Wr) (x1 x2:Int) (w:World) (hv:IsWrs w v l) (hl:l.length≤1000000) (hs:l.Pairwise late) :
   Calls Tryz.prog 73 #[v,.agg #[.int .i64 x1,.int .i64 x2]] w fun e w' =>
     ∃ p:Nat,p≤l.length∧(∀ k,k < p→0 < cAt l (x1,x2) k)∧(∀ k,p≤k→k < l.length→cAt l (x1,x2) k≤0)∧e=.returned (.tuple #[.int .i64 (p:Int),.bool (decide (p < l.length∧cAt l (x1,x2) p=0))])∧Below w.heap.size w w':=by
 have HM:=Lib.hid (cAt_mono hs (x1,x2))
 obtain ⟨a,c,rfl,_⟩:=hv.form
 have HV:=Lib.hid hv
 obtain ⟨n,hn⟩:∃ n,n=l.length:=⟨_,rfl⟩
 rw [←hn] at hl HM HV ⊢
 have HN:=Lib.hid hn
 have HL:=Lib.hid hl
 clear hv hn hs hl
 go_enter Tryz.func73,Tryz.ntmps73
 go_wp2_with fail
 refine (find_any _ l x1 x2 n w.heap.size (w.heap.size + 1) _ ((HV.out.alloc _).alloc _) HN.out HL.out ?q1 ?q2 HM.out).mono ?_
 case q1=>rw [Below.heap_alloc _ _ _ (by simp)];exact heap_alloc_new _ _
 case q2=>have:=heap_alloc_new (w.alloc (.cells #[.slice a n c] 28)) (.cells #[.int .i64 x1,.int .i64 x2] 24);rwa [World.size_alloc] at this
 rintro r w1 ⟨p,hp,h1,h2,rfl,hb⟩
 have HX:Hid (p≤n∧(∀ k,k < p→0 < cAt l (x1,x2) k)∧(∀ k,p≤k→k < n→cAt l (x1,x2) k≤0)):=Lib.hid ⟨hp,h1,h2⟩
 have HB:Hid (Below w.heap.size w w1):=Lib.hid ((((Below.refl _ _).alloc (Nat.le_refl _) _).alloc (by simp) _).trans (hb.mono (by simp;omega)))
 obtain ⟨d,hd⟩:∃ d,d=decide (p < n∧cAt l (x1,x2) p=0):=⟨_,rfl⟩
 rw [←hd]
 have HD:=Lib.hid hd
 clear hp h1 h2 hb hd
 go_wp2
 go_ret2
 exact ⟨p,HX.out.1,HX.out.2.1,HX.out.2.2,by rw [←HD.out];rfl,HB.out⟩
end Go.Proofs.YtddbpnplbcjpgaaGreatDoor
namespace Go.Proofs.YtddbpnplbcjpgaaGreatDoor
open Go.RowKit Go.Shelf Go.Lib Go.Sort
theorem lt_of_cellS {w:World} {a:Addr} {v:Value} (h:w.cell? a=some v):a.block < w.heap.size:=by
 unfold World.cell? at h
 cases hb:w.heap[a.block]? with
 | none=>rw [hb] at h;cases h
 | some o=>exact (Array.getElem?_eq_some_iff.1 hb).1
instance : Inhabited Wr := ⟨⟨0, 0, 0, ⟨#[]⟩, ⟨#[]⟩, 0⟩⟩
def ltW (a b:Wr):Bool:=decide (cI (a.time,a.rep) (b.time,b.rep) < 0)
theorem ltW_iff (a b:Wr):ltW a b=true↔a.time < b.time∨a.time=b.time∧a.rep < b.rep:=by
 unfold ltW
 rw [cI_is,decide_eq_true_eq]
 constructor
 · intro h
   split at h
   · assumption
   · split at h <;> omega
 · intro h;rw [if_pos h];omega
theorem ltW_no (a b:Wr):ltW a b=false↔b.time < a.time∨b.time=a.time∧b.rep≤a.rep:=by
 rw [←Bool.not_eq_true,ltW_iff];omega
theorem swoW:SWO ltW where
 irrefl x:=by rw [ltW_no];omega
 trans x y z h1 h2:=by rw [ltW_iff] at *;omega
 ntrans x y z h1 h2:=by rw [ltW_no] at *;omega
theorem leW_of (x y:Wr) (h:ltW y x=false):leW x y=true:=by
 rw [ltW_no] at h
 unfold leW
 exact decide_eq_true h
theorem rcmp_grow (x1 x2 y1 y2:Int) (w:World):Calls Tryz.prog 51 #[.agg #[.int .i64 x1,.int .i64 x2],.agg #[.int .i64 y1,.int .i64 y2]] w fun e w'=>e=.returned (.int .i64 (cI (x1,x2) (y1,y2)))∧∃ os,w'=Sort.grow w os:=by
 have hc:=cI_is x1 x2 y1 y2
 by_cases h1:x1 < y1
 · have HW:Hid (cI (x1,x2) (y1,y2)=-1):=Lib.hid (by rw [hc,if_pos (.inl h1)])
   clear hc
   go_enter Tryz.func51,Tryz.ntmps51
   go_wp2
   go_ret
   exact ⟨by rw [HW.out];rfl,_,by rw [alloc_eq_grow,alloc_eq_grow,grow_grow]⟩
 · by_cases h2:x1=y1
   · subst h2
     by_cases h3:x2 < y2
     · have HW:Hid (cI (x1,x2) (x1,y2)=-1):=Lib.hid (by rw [hc,if_pos (.inr ⟨rfl,h3⟩)])
       clear hc h1
       go_enter Tryz.func51,Tryz.ntmps51
       go_wp2
       go_ret
       exact ⟨by rw [HW.out];rfl,_,by rw [alloc_eq_grow,alloc_eq_grow,grow_grow]⟩
     · by_cases h4:x2=y2
       · subst h4
         have HW:Hid (cI (x1,x2) (x1,x2)=0):=Lib.hid (by rw [hc,if_neg (by omega),if_pos ⟨rfl,rfl⟩])
         clear hc h1 h3
         go_enter Tryz.func51,Tryz.ntmps51
         go_wp2
         go_ret
         exact ⟨by rw [HW.out];rfl,_,by rw [alloc_eq_grow,alloc_eq_grow,grow_grow]⟩
       · have HW:Hid (cI (x1,x2) (x1,y2)=1):=Lib.hid (by rw [hc,if_neg (by omega),if_neg (by omega)])
         have b1:(x2 == y2)=false:=by simpa using h4
         have d3:y2 < x2:=by omega
         have d4:decide (x2 < y2)=false:=decide_eq_false h3
         clear hc h1 h3
         go_enter Tryz.func51,Tryz.ntmps51
         go_wp2
         go_ret
         exact ⟨by rw [HW.out];rfl,_,by rw [alloc_eq_grow,alloc_eq_grow,grow_grow]⟩
   · have HW:Hid (cI (x1,x2) (y1,y2)=1):=Lib.hid (by rw [hc,if_neg (by omega),if_neg (by omega)])
     have b1:(x1 == y1)=false:=by simpa using h2
     have d4:decide (x1 < y1)=false:=decide_eq_false h1
     clear hc
     go_enter Tryz.func51,Tryz.ntmps51
     go_wp2
     go_ret
     exact ⟨by rw [HW.out];rfl,_,by rw [alloc_eq_grow,alloc_eq_grow,grow_grow]⟩
set_option maxRecDepth 100000 in
set_option maxHeartbeats 4000000 in
theorem wless_any (x y:Wr) (B blk off c n i j:Nat) (w:World) (hB:w.cell? ⟨B,0,none⟩=some (.slice (some ⟨blk,off,none⟩) n c)) (hi:i < n) (hj:j < n) (_hn:n≤1000000)
   (x0:w.cell? ⟨blk,off + i * 6,none⟩=some (.int .i64 x.time)) (x1:w.cell? ⟨blk,off + i * 6 + 1,none⟩=some (.int .i64 x.rep)) (y0:w.cell? ⟨blk,off + j * 6,none⟩=some (.int .i64 y.time)) (y1:w.cell? ⟨blk,off + j * 6 + 1,none⟩=some (.int .i64 y.rep)) :
   Calls Tryz.prog 50 #[.int .i64 i,.int .i64 j,.pointer (some ⟨B,0,none⟩)] w fun e w'=>e=.returned (.bool (ltW x y))∧∃ q os,w'=Sort.grow (w.drewN q) os:=by
 obtain ⟨z,hz⟩:∃ z,cI (x.time,x.rep) (y.time,y.rep)=z:=⟨_,rfl⟩
 have HZ:=Lib.hid hz
 have hzz:ltW x y=decide (z < 0):=by unfold ltW;rw [hz]
 rw [hzz]
 have k0:w.drew.cell? ⟨B,0,none⟩=some (.slice (some ⟨blk,off,none⟩) n c)∧w.drew.cell? ⟨blk,off + i * 6,none⟩=some (.int .i64 x.time)∧w.drew.cell? ⟨blk,off + i * 6 + 1,none⟩=some (.int .i64 x.rep)∧w.drew.cell? ⟨blk,off + j * 6,none⟩=some (.int .i64 y.time)∧w.drew.cell? ⟨blk,off + j * 6 + 1,none⟩=some (.int .i64 y.rep):=⟨hB,x0,x1,y0,y1⟩
 have HK:Hid (∀ os,(Sort.grow w.drew os).cell? ⟨B,0,none⟩=some (.slice (some ⟨blk,off,none⟩) n c)∧(Sort.grow w.drew os).cell? ⟨blk,off + i * 6,none⟩=some (.int .i64 x.time)∧(Sort.grow w.drew os).cell? ⟨blk,off + i * 6 + 1,none⟩=some (.int .i64 x.rep)∧(Sort.grow w.drew os).cell? ⟨blk,off + j * 6,none⟩=some (.int .i64 y.time)∧(Sort.grow w.drew os).cell? ⟨blk,off + j * 6 + 1,none⟩=some (.int .i64 y.rep)):=Lib.hid (fun os =>
   ⟨(cell?_grow _ _ _ (lt_of_cellS hB)).trans k0.1,(cell?_grow _ _ _ (lt_of_cellS x0)).trans k0.2.1,(cell?_grow _ _ _ (lt_of_cellS x1)).trans k0.2.2.1,(cell?_grow _ _ _ (lt_of_cellS y0)).trans k0.2.2.2.1,(cell?_grow _ _ _ (lt_of_cellS y1)).trans k0.2.2.2.2⟩)
 obtain ⟨xt,xr,_,_,_,_⟩:=x
 obtain ⟨yt,yr,_,_,_,_⟩:=y
 simp only at HZ k0 HK x0 x1 y0 y1
 clear hz hzz hB x0 x1 y0 y1
 go_enter Tryz.func50,Tryz.ntmps50
 go_wp2
 go_region_held3 (fun w'=>w'.cell? ⟨B,0,none⟩=some (.slice (some ⟨blk,off,none⟩) n c)∧w'.cell? ⟨blk,off + i * 6,none⟩=some (.int .i64 xt)∧w'.cell? ⟨blk,off + i * 6 + 1,none⟩=some (.int .i64 xr)∧w'.cell? ⟨blk,off + j * 6,none⟩=some (.int .i64 yt)∧w'.cell? ⟨blk,off + j * 6 + 1,none⟩=some (.int .i64 yr)) (first | exact k0 | exact k1 | fail) (first
   | (go_at_call 51;((with_reducible refine (rcmp_grow xt xr yt yr w.drew).mono ?_);rintro r' u1 ⟨rfl,os1,hu1⟩;rw [HZ.out];have HU:=Lib.hid hu1;have k1:=HK.out os1;rw [←hu1] at k1;clear hu1))
   | fail)
 go_wp2
 go_ret
 exact ⟨rfl,1,os1,HU.out⟩
theorem wless_k (B blk off c:Nat) (d:Array Wr) (w:World) (hB:w.cell? ⟨B,0,none⟩=some (.slice (some ⟨blk,off,none⟩) d.size c)) (hne:B≠blk) (hH:HoldsK wrC 6 w blk off d) (hblk:blk < w.heap.size) (hsz:d.size≤1000000) :
   LessK Tryz.prog 50 #[.pointer (some ⟨B,0,none⟩)] wrC 6 ltW blk off d.size w:=by
 intro m os dk hdk i j hi hj
 have S:SWK wrC 6 w blk off dk (sortWorldK wrC 6 w blk off m dk os):=⟨m,os,rfl⟩
 have hH2:=S.holds hblk hH hdk
 have hBs:=(cell_swk S ⟨B,0,none⟩ hne (lt_of_cellS hB)).trans hB
 have ci:=fun (q:Nat) (hq:q < 6)=>(hH2.cell (i:=i) (c:=q) (by omega) hq).1
 have cj:=fun (q:Nat) (hq:q < 6)=>(hH2.cell (i:=j) (c:=q) (by omega) hq).1
 exact wless_any dk[i]! dk[j]! B blk off c d.size i j _ hBs hi hj hsz (ci 0 (by omega)) (ci 1 (by omega)) (cj 0 (by omega)) (cj 1 (by omega))
noncomputable def wsI:TypeInfo:=(Tryz.prog.info? 28).get (by kernel_rfl)
noncomputable def wsE:TypeInfo:=(Tryz.prog.info? 26).get (by kernel_rfl)
theorem wsK (n:Nat) (h2:2≤n):Lib.swapperK n wsE 25=9:=by
 have a:wsE.hasPointers=true:=by kernel_rfl
 have b:wsE.bytes=64:=by kernel_rfl
 have c:(n == 0)=false:=by simp;omega
 have d:(n == 1)=false:=by simp;omega
 simp [Lib.swapperK,a,b,c,d]
theorem wrsC_get (l:List Wr) (j:Nat) (hj:j < l.length * 6):(wrsC l)[j]? = some ((wrC l[j / 6]!)[j % 6]!):=by
 have h1:j / 6 < l.length:=by omega
 have h2:=wrsC_at l (j / 6) (j % 6) l[j / 6]! (by rw [List.getElem!_eq_getElem?_getD,List.getElem?_eq_getElem h1];rfl) (by omega)
 rw [show j / 6 * 6 + j % 6=j by omega] at h2
 rw [h2]
 have h3:j % 6 < (wrC l[j / 6]!).length:=by show _ < 6;omega
 generalize l[j / 6]! = c at h3 ⊢
 rw [getElem!_pos (wrC c) (j % 6) h3]
 exact List.getElem?_eq_getElem h3
theorem rsort_any (blk cap base B:Nat) (l:List Wr) (w:World) (ho:ownsW w base (.slice (some ⟨blk,0,none⟩) l.length cap) l) (hB:w.cell? ⟨B,0,none⟩=some (.slice (some ⟨blk,0,none⟩) l.length cap)) (hne:B≠blk) (hn:l.length≤1000000) :
   Calls Tryz.prog 49 #[.iface 28 (.slice (some ⟨blk,0,none⟩) l.length cap),.func (.func 50) #[] #[.pointer (some ⟨B,0,none⟩)]] w fun e w' =>
     e=.returned (.tuple #[])∧∃ l':List Wr,l'.Perm l∧l'.Pairwise (fun a b=>leW a b=true)∧IsWrs w' (.slice (some ⟨blk,0,none⟩) l.length cap) l'∧w.grownBy w' (some blk):=by
 have hblk:blk < w.heap.size:=(ho.lt blk rfl).2
 have hcap:l.length≤cap:=by
   rcases ho.2 with ⟨e,_⟩ | ⟨_,_,_,e,_,_,h1,_⟩
   · simp at e
   · obtain ⟨_,_,rfl⟩:=Value.slice.inj e;simpa using h1
 have hfz:∀ j,w.frozen? ⟨blk,j,none⟩=false:=by
   rcases ho.2 with ⟨e,_⟩ | ⟨g',_,cur,e,_,hh,_⟩
   · simp at e
   · obtain ⟨e1,_⟩:=Value.slice.inj e
     simp only [Option.some.injEq,Addr.mk.injEq,and_true] at e1
     subst e1
     intro j;simp [World.frozen?,hh]
 have ho2:w.ownsRow base 26 6 (.slice (some ⟨blk,0,none⟩) l.length cap) l.length (wrsC l):=ho
 have hlen:∀ x,(wrC x).length=6:=fun _=>rfl
 have hone:∀ x,∀ v∈wrC x,v.oneCell'=true:=fun x=>wrC_cell x
 have hH:HoldsK wrC 6 w blk 0 l.toArray:=by
   intro j hj
   rw [size_flatK] at hj
   simp only [List.size_toArray] at hj
   refine ⟨?_,by rw [Nat.zero_add];exact hfz j⟩
   rw [get_flatK _ _ _ _ (by simpa using hj),Nat.zero_add]
   have h1:w.cell? ⟨blk,j,none⟩=(wrsC l)[j]? := World.ownsRow.cellAt ho2 j (by simpa using hj)
   rw [h1,wrsC_get _ _ hj]
   have h2:j / 6 < l.length:=by omega
   congr 2
   simp [h2]
 have eg:∀ args w,(callFunc 50 args).run Tryz.prog w=.ok (.enter 50 args) w:=enters_of Tryz.func50 (by kernel_rfl) rfl
 by_cases h2:2≤l.length
 · have hless:=wless_k B blk 0 cap l.toArray w (by simpa using hB) hne hH hblk (by simpa using hn)
   have hcon:=sliceStable_cells Tryz.stabC 28 26 wsI wsE (by kernel_rfl) (by kernel_rfl) (by kernel_rfl) (by kernel_rfl) 25 (fun _=>by kernel_rfl) wrC 6 hlen (by kernel_rfl) (fun _=>by kernel_rfl) hone ltW swoW _ _ eg blk 0 cap l.toArray (by simpa using h2) (by simp;omega)
     105 (by rw [wsK _ (by simpa using h2)];kernel_rfl) false
     (fun args W=>run_callFunc_extern Tryz.func105 (by kernel_rfl) (by kernel_rfl) (by kernel_rfl) (e:=Extern.ReflectliteSwapper.swap false) (by kernel_rfl) args W) w hless hH hblk
   change Calls Tryz.prog 49 _ _ _ at hcon
   rw [List.size_toArray] at hcon
   refine hcon.mono ?_
   rintro e w' ⟨rfl,d',hp,hs,n,os,rfl⟩
   obtain ⟨hsz,_,hperm⟩:=hp
   have hsz:d'.size=l.length:=by simpa using hsz
   have e1:d'.extract 0 l.length=d':=by rw [←hsz];exact Array.extract_size
   have e2:l.toArray.extract 0 l.length=l.toArray:=by rw [show l.length=l.toArray.size by simp];exact Array.extract_size
   rw [e1,e2] at hperm
   have hsz2:d'.toList.length=l.length:=by simpa using hsz
   have hH2:=holdsK_sortWorldK wrC 6 w blk 0 n l.toArray d' os hblk hH (by simpa using hsz)
   refine ⟨rfl,d'.toList,by simpa using hperm,?_,?_,?_⟩
   · rw [List.pairwise_iff_getElem]
     intro i j hi hj hij
     have h:=hs i j (Nat.zero_le _) hij (by rw [←hsz2];exact hj)
     rw [getElem!_pos d' i (by simpa using hi),getElem!_pos d' j (by simpa using hj)] at h
     simpa using leW_of _ _ h
   · refine .inr ⟨blk,0,cap,by rw [hsz2],⟨by omega,by rw [hsz2];exact hcap⟩,?_,fun j u hj=>?_⟩
     · show blk < (grow _ os).heap.size
       rw [size_grow]
       unfold putRowK
       rw [size_putRow]
       have:(Sort.ahead w n).heap.size=w.heap.size:=rfl
       omega
     · have hjl:j < d'.toList.length * 6:=by rw [←wrsC_len];exact (List.getElem?_eq_some_iff.1 hj).1
       have h3:=(hH2 j (by rw [size_flatK];simpa using hjl)).1
       rw [get_flatK _ _ _ _ (by simpa using hjl)] at h3
       rw [h3,←hj,wrsC_get _ _ hjl]
       have h4:j / 6 < d'.size:=by simp at hjl;omega
       congr 2
       simp [List.getElem!_eq_getElem?_getD,h4]
   · refine ⟨rfl,rfl,rfl,?_,fun k hk hne=>?_⟩
     · show w.heap.size≤(grow _ os).heap.size
       rw [size_grow]
       unfold putRowK
       rw [size_putRow]
       have:(Sort.ahead w n).heap.size=w.heap.size:=rfl
       omega
     · show (grow _ os).heap[k]? = _
       unfold putRowK
       rw [heap_grow_old _ _ (by rw [size_putRow];exact hk)]
       have h5:blk≠k:=fun e=>hne (by rw [e])
       simp [putRow,mapBlock,Sort.ahead,Array.getElem?_modify,h5]
 · have hf : ∃ f, Tryz.prog.funcs.findIdx? (·.name == "internal/reflectlite" ++ ".Swapper$" ++ toString (Lib.swapperK l.length wsE 25)) = some f := by
     have h3:l.length=0∨l.length=1:=by omega
     rcases h3 with h3 | h3
     · rw [h3];exact ⟨97,by kernel_rfl⟩
     · rw [h3];exact ⟨98,by kernel_rfl⟩
   obtain ⟨f,hf⟩:=hf
   have hcon:=Any.sort_SliceStable_tiny Tryz.stabC 28 26 wsI wsE (by kernel_rfl) (by kernel_rfl) (by kernel_rfl) (by kernel_rfl) 25 (fun _=>by kernel_rfl) (some ⟨blk,0,none⟩) l.length cap (by omega) f hf (.func 50) #[] #[.pointer (some ⟨B,0,none⟩)] w
   change Calls Tryz.prog 49 _ _ _ at hcon
   refine hcon.mono ?_
   rintro e w' ⟨rfl,os,rfl⟩
   have hb:Below w.heap.size w (Sort.grow w os):=⟨rfl,rfl,rfl,by rw [size_grow];omega,fun k hk=>heap_grow_old _ _ hk⟩
   refine ⟨rfl,l,List.Perm.refl _,?_,ho.is.below hb,⟨rfl,rfl,rfl,hb.size,fun k hk _=>hb.block k hk⟩⟩
   match l,h2 with
   | [],_=>exact List.Pairwise.nil
   | [_],_=>exact List.pairwise_singleton _ _
   | _ :: _ :: _,h=>simp at h
end Go.Proofs.YtddbpnplbcjpgaaGreatDoor
