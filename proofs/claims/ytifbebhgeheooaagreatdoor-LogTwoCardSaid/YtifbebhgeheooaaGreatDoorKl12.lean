import Derived.Test.YtifbebhgeheooaaGreatDoorKl11
namespace Go.Proofs.YtifbebhgeheooaaGreatDoor
open Go.RowKit
structure LogIn (w:World) (P:Nat) (F:Nat→Prop) (s:LogS) (vh vw:Value):Prop where
 row:w.heap[P]? = some (.cells #[.int .i64 s.rep,vh,vw] 88 (0,0))
 ents:ownsE w 0 vh s.hv
 ows:ownsW w 0 vw s.ws
 inP:F P
 inE:∀ k,vh.ownBlock=some k→F k
 inW:∀ k,vw.ownBlock=some k→F k
 lt:∀ k,F k→k < w.heap.size
 nil:s.ws=[]→vw=.slice none 0 0
def LogAt (w:World) (P:Nat) (F:Nat→Prop) (s:LogS):Prop:=∃ vh vw,LogIn w P F s vh vw
theorem LogIn.but {w w':World} {P:Nat} {F G:Nat→Prop} {s:LogS} {vh vw:Value} (h:LogIn w P F s vh vw) (hb:But G w w') (hd:∀ k,F k→¬ G k):LogIn w' P F s vh vw :=
 ⟨(hb.block P (h.lt P h.inP) (hd P h.inP)).trans h.row,ownsRow_but h.ents hb (fun k e=>hd k (h.inE k e)),ownsRow_but h.ows hb (fun k e=>hd k (h.inW k e)),h.inP,h.inE,h.inW,fun k hk=>Nat.lt_of_lt_of_le (h.lt k hk) hb.size,h.nil⟩
theorem LogIn.below {w w':World} {P:Nat} {F:Nat→Prop} {s:LogS} {vh vw:Value} (h:LogIn w P F s vh vw) (hb:Below w.heap.size w w'):LogIn w' P F s vh vw :=
 h.but (G:=fun _=>False) (But.of_below hb) (fun _ _ h=>h)
theorem LogAt.but {w w':World} {P:Nat} {F G:Nat→Prop} {s:LogS} (h:LogAt w P F s) (hb:But G w w') (hd:∀ k,F k→¬ G k):LogAt w' P F s:=by
 obtain ⟨vh,vw,h⟩:=h
 exact ⟨vh,vw,h.but hb hd⟩
theorem LogAt.below {w w':World} {P:Nat} {F:Nat→Prop} {s:LogS} (h:LogAt w P F s) (hb:Below w.heap.size w w'):LogAt w' P F s:=by
 obtain ⟨vh,vw,h⟩:=h
 exact ⟨vh,vw,h.below hb⟩
theorem LogAt.alloc {w:World} {P:Nat} {F:Nat→Prop} {s:LogS} (h:LogAt w P F s) (o:Obj):LogAt (w.alloc o) P F s:=h.below ((Below.refl _ _).alloc (Nat.le_refl _) o)
theorem LogAt.drew {w:World} {P:Nat} {F:Nat→Prop} {s:LogS} (h:LogAt w P F s):LogAt w.drew P F s:=h.below (Below.refl _ _).drew
theorem LogAt.drewN {w:World} {P:Nat} {F:Nat→Prop} {s:LogS} (h:LogAt w P F s) (n:Nat):LogAt (w.drewN n) P F s:=h.below (below_drewq (Below.refl _ _) n)
theorem LogAt.lt {w:World} {P:Nat} {F:Nat→Prop} {s:LogS} (h:LogAt w P F s):∀ k,F k→k < w.heap.size:=by
 obtain ⟨vh,vw,h⟩:=h
 exact h.lt
theorem LogAt.inP {w:World} {P:Nat} {F:Nat→Prop} {s:LogS} (h:LogAt w P F s):F P:=by
 obtain ⟨vh,vw,h⟩:=h
 exact h.inP
theorem LogIn.plt' {w:World} {P:Nat} {F:Nat→Prop} {s:LogS} {vh vw:Value} (h:LogIn w P F s vh vw):P < w.heap.size:=h.lt P h.inP
theorem LogIn.c0 {w:World} {P:Nat} {F:Nat→Prop} {s:LogS} {vh vw:Value} (h:LogIn w P F s vh vw):w.cell? ⟨P,0,none⟩=some (.int .i64 s.rep):=cell_of_row _ _ 0 _ _ _ h.row
theorem LogIn.c1 {w:World} {P:Nat} {F:Nat→Prop} {s:LogS} {vh vw:Value} (h:LogIn w P F s vh vw):w.cell? ⟨P,1,none⟩=some vh:=cell_of_row _ _ 1 _ _ _ h.row
theorem LogIn.c2 {w:World} {P:Nat} {F:Nat→Prop} {s:LogS} {vh vw:Value} (h:LogIn w P F s vh vw):w.cell? ⟨P,2,none⟩=some vw:=cell_of_row _ _ 2 _ _ _ h.row
def Sep (F G:Nat→Prop):Prop:=∀ k,F k→¬ G k
theorem Sep.symm {F G:Nat→Prop} (h:Sep F G):Sep G F:=fun k g f=>h k f g
theorem Sep.grow {w:World} {F F' G:Nat→Prop} (h:Sep F G) (hF:∀ k,F' k→F k∨w.heap.size≤k) (hG:∀ k,G k→k < w.heap.size):Sep F' G:=fun k f g=>by
 rcases hF k f with f | f
 · exact h k f g
 · have:=hG k g;omega
end Go.Proofs.YtifbebhgeheooaaGreatDoor
namespace Go.Proofs.YtifbebhgeheooaaGreatDoor
open Go.RowKit
structure ApL (w W:World) (T R K:Int) (key val:ByteArray) (N:Int):Prop where
 rowc:W.heap[w.heap.size]? = some (.cells #[.int .i64 T,.int .i64 R,.int .i64 K,.string key,.string val,.int .i64 N] 25 (0,0))
 rowr:W.heap[w.heap.size + 1]? = some (.cells #[.int .i64 0,.int .i64 0,.int .i64 0,.string ⟨#[]⟩,.string ⟨#[]⟩,.int .i64 0] 25 (0,0))
 bel:Below w.heap.size w W
 sz:w.heap.size + 2≤W.heap.size
theorem ApL.below {w W W':World} {T R K N:Int} {key val:ByteArray} {B:Nat} (h:ApL w W T R K key val N) (hb:Below B W W') (hB:w.heap.size + 2≤B):ApL w W' T R K key val N :=
 ⟨(hb.block _ (by omega)).trans h.rowc,(hb.block _ (by omega)).trans h.rowr,h.bel.trans (hb.mono (by omega)),Nat.le_trans h.sz hb.size⟩
theorem ApL.call {w W W':World} {T R K N:Int} {key val:ByteArray} (h:ApL w W T R K key val N) (hb:Below W.heap.size W W'):ApL w W' T R K key val N:=h.below hb h.sz
theorem apL0 (w:World) (T R K:Int) (key val:ByteArray) (N:Int) :
   ApL w ((w.alloc (.cells #[.int .i64 T,.int .i64 R,.int .i64 K,.string key,.string val,.int .i64 N] 25)).alloc (.cells #[.int .i64 0,.int .i64 0,.int .i64 0,.string ⟨#[]⟩,.string ⟨#[]⟩,.int .i64 0] 25)) T R K key val N:=by
 have s1:(w.alloc (.cells #[.int .i64 T,.int .i64 R,.int .i64 K,.string key,.string val,.int .i64 N] 25)).heap.size=w.heap.size + 1:=by simp
 refine ⟨?_,?_,((Below.refl _ _).alloc (Nat.le_refl _) _).alloc (by simp) _,by simp⟩
 · rw [Below.heap_alloc _ _ _ (by omega)];exact heap_alloc_new _ _
 · have:=heap_alloc_new (w.alloc (.cells #[.int .i64 T,.int .i64 R,.int .i64 K,.string key,.string val,.int .i64 N] 25)) (.cells #[.int .i64 0,.int .i64 0,.int .i64 0,.string ⟨#[]⟩,.string ⟨#[]⟩,.int .i64 0] 25)
   rwa [s1] at this
theorem ApL.put {w W:World} {T R K N:Int} {key val:ByteArray} {j:Nat} {z:Value} (h:ApL w W T R K key val N) (hz:(#[.int .i64 T,.int .i64 R,.int .i64 K,.string key,.string val,.int .i64 N]:Array Value).setIfInBounds j z=#[.int .i64 T,.int .i64 R,.int .i64 K,.string key,.string val,.int .i64 N]) :
   ApL w (W.setCell ⟨w.heap.size,j,none⟩ z) T R K key val N :=
 ⟨by rw [←hz];exact heap_setCell_same _ _ j _ _ z h.rowc,(heap_setCell_other _ _ _ _ (by show _≠w.heap.size;omega)).trans h.rowr,h.bel.setCell (Nat.le_refl _) _,by rw [show (W.setCell ⟨w.heap.size,j,none⟩ z).heap.size=W.heap.size from by simp];exact h.sz⟩
theorem apL_free {w W:World} {T R K N:Int} {key val:ByteArray} (h:ApL w W T R K key val N) (i:Nat):W.frozen? ⟨w.heap.size,i,none⟩=false:=by simp [World.frozen?,h.rowc]
theorem apL_freeR {w W:World} {T R K N:Int} {key val:ByteArray} (h:ApL w W T R K key val N) (i:Nat):W.frozen? ⟨w.heap.size + 1,i,none⟩=false:=by simp [World.frozen?,h.rowr]
theorem apL_k {w W:World} {T R K N:Int} {key val:ByteArray} (h:ApL w W T R K key val N):W.cell? ⟨w.heap.size,3,none⟩=some (.string key)∧W.cell? ⟨w.heap.size,4,none⟩=some (.string val):=⟨cell_of_row _ _ 3 _ _ _ h.rowc,cell_of_row _ _ 4 _ _ _ h.rowc⟩
theorem lrow_set6 {U:World} {B:Nat} {z0 z1 z2 z3 z4 z5:Value} {T:TypeId} (h:U.heap[B]? = some (.cells #[z0,z1,z2,z3,z4,z5] T (0,0))) (a0 a1 a2 a3 a4 a5:Value) :
   ((((((U.setCell ⟨B,0,none⟩ a0).setCell ⟨B,1,none⟩ a1).setCell ⟨B,2,none⟩ a2).setCell ⟨B,3,none⟩ a3).setCell ⟨B,4,none⟩ a4).setCell ⟨B,5,none⟩ a5).heap[B]? = some (.cells #[a0,a1,a2,a3,a4,a5] T (0,0)) :=
 heap_setCell_same _ _ 5 _ _ a5 (heap_setCell_same _ _ 4 _ _ a4 (heap_setCell_same _ _ 3 _ _ a3 (heap_setCell_same _ _ 2 _ _ a2 (heap_setCell_same _ _ 1 _ _ a1 (heap_setCell_same _ _ 0 _ _ a0 h)))))
theorem lwr_sized (a0 a1 a2 a3 a4 a5:Value):(Tryz.prog.info? 25).map (·.size)=some (#[a0,a1,a2,a3,a4,a5]:Array Value).size:=by kernel_rfl
set_option maxRecDepth 100000 in
set_option maxHeartbeats 8000000 in
theorem lapart_any (T R K:Int) (key val:ByteArray) (N:Int) (w:World) (hk:key.size≤140737488351232) (hv:val.size≤140737488351232) :
   Calls Tryz.prog 50 #[.agg #[.int .i64 T,.int .i64 R,.int .i64 K,.string key,.string val,.int .i64 N]] w fun e w'=>e=.returned (.agg #[.int .i64 T,.int .i64 R,.int .i64 K,.string key,.string val,.int .i64 N])∧Below w.heap.size w w':=by
 have hne:¬ w.heap.size + 1=w.heap.size:=by omega
 have hne2:¬ w.heap.size=w.heap.size + 1:=by omega
 have HW0:=Lib.hid (apL0 w T R K key val N)
 go_enter Tryz.func50,Tryz.ntmps50
 go_wp2
 obtain ⟨u,hu⟩:∃ u,u=((w.alloc (.cells #[.int .i64 T,.int .i64 R,.int .i64 K,.string key,.string val,.int .i64 N] 25)).alloc (.cells #[.int .i64 0,.int .i64 0,.int .i64 0,.string ⟨#[]⟩,.string ⟨#[]⟩,.int .i64 0] 25)):=⟨_,rfl⟩
 rw [←hu] at HW0 ⊢
 have HW:Hid (ApL w u.drew T R K key val N):=Lib.hid (HW0.out.below (B:=u.heap.size) (Below.refl _ _).drew HW0.out.sz)
 have k0:=apL_k HW.out
 clear hu HW0
 go_region_held3 (fun w'=>w'.cell? ⟨w.heap.size,3,none⟩=some (.string key)∧w'.cell? ⟨w.heap.size,4,none⟩=some (.string val)) (first | exact k0 | exact k1 | exact k2 | exact k3 | exact k4 | fail) (first
   | (go_at_call 91;((with_reducible refine (clone_s key u.drew hk).mono ?_);rintro r w1 ⟨rfl,hb1⟩;have HW1:Hid (ApL w w1 T R K key val N):=Lib.hid (HW.out.call hb1);have k1:=apL_k HW1.out;clear hb1))
   | (go_at_call 91;((with_reducible refine (clone_s val u.drew hv).mono ?_);rintro r w1 ⟨rfl,hb1⟩;have HW1:Hid (ApL w w1 T R K key val N):=Lib.hid (HW.out.call hb1);have k1:=apL_k HW1.out;clear hb1))
   | (go_at_call 91;((with_reducible refine (clone_s key w1 hk).mono ?_);rintro r w2 ⟨rfl,hb2⟩;have HW2:Hid (ApL w w2 T R K key val N):=Lib.hid (HW1.out.call hb2);have k2:=apL_k HW2.out;have z3:=apL_free HW2.out 3;have z4:=apL_free HW2.out 4;have HW3:Hid (ApL w (w2.setCell ⟨w.heap.size,3,none⟩ (.string key)) T R K key val N):=Lib.hid (HW2.out.put rfl);have HW4:Hid (ApL w ((w2.setCell ⟨w.heap.size,3,none⟩ (.string key)).setCell ⟨w.heap.size,4,none⟩ (.string val)) T R K key val N):=Lib.hid (HW3.out.put rfl);have k3:=apL_k HW3.out;have k4:=apL_k HW4.out;clear hb2))
   | (go_at_call 91;((with_reducible refine (clone_s val w1 hv).mono ?_);rintro r w2 ⟨rfl,hb2⟩;have HW2:Hid (ApL w w2 T R K key val N):=Lib.hid (HW1.out.call hb2);have k2:=apL_k HW2.out;have z3:=apL_free HW2.out 3;have z4:=apL_free HW2.out 4;have HW3:Hid (ApL w (w2.setCell ⟨w.heap.size,3,none⟩ (.string key)) T R K key val N):=Lib.hid (HW2.out.put rfl);have HW4:Hid (ApL w ((w2.setCell ⟨w.heap.size,3,none⟩ (.string key)).setCell ⟨w.heap.size,4,none⟩ (.string val)) T R K key val N):=Lib.hid (HW3.out.put rfl);have k3:=apL_k HW3.out;have k4:=apL_k HW4.out;clear hb2))
   | fail)
 all_goals
   obtain ⟨W,hW⟩:∃ W,W=(w2.setCell ⟨w.heap.size,3,none⟩ (.string key)).setCell ⟨w.heap.size,4,none⟩ (.string val):=⟨_,rfl⟩
   rw [←hW] at HW4 ⊢
   have c0:W.cell? ⟨w.heap.size,0,none⟩=some (.int .i64 T):=cell_of_row _ _ 0 _ _ _ HW4.out.rowc
   have c1:W.cell? ⟨w.heap.size,1,none⟩=some (.int .i64 R):=cell_of_row _ _ 1 _ _ _ HW4.out.rowc
   have c2:W.cell? ⟨w.heap.size,2,none⟩=some (.int .i64 K):=cell_of_row _ _ 2 _ _ _ HW4.out.rowc
   have c3:W.cell? ⟨w.heap.size,3,none⟩=some (.string key):=cell_of_row _ _ 3 _ _ _ HW4.out.rowc
   have c4:W.cell? ⟨w.heap.size,4,none⟩=some (.string val):=cell_of_row _ _ 4 _ _ _ HW4.out.rowc
   have c5:W.cell? ⟨w.heap.size,5,none⟩=some (.int .i64 N):=cell_of_row _ _ 5 _ _ _ HW4.out.rowc
   have d0:W.cell? ⟨w.heap.size + 1,0,none⟩=some (.int .i64 0):=cell_of_row _ _ 0 _ _ _ HW4.out.rowr
   have d1:W.cell? ⟨w.heap.size + 1,1,none⟩=some (.int .i64 0):=cell_of_row _ _ 1 _ _ _ HW4.out.rowr
   have d2:W.cell? ⟨w.heap.size + 1,2,none⟩=some (.int .i64 0):=cell_of_row _ _ 2 _ _ _ HW4.out.rowr
   have d3:W.cell? ⟨w.heap.size + 1,3,none⟩=some (.string ⟨#[]⟩):=cell_of_row _ _ 3 _ _ _ HW4.out.rowr
   have d4:W.cell? ⟨w.heap.size + 1,4,none⟩=some (.string ⟨#[]⟩):=cell_of_row _ _ 4 _ _ _ HW4.out.rowr
   have d5:W.cell? ⟨w.heap.size + 1,5,none⟩=some (.int .i64 0):=cell_of_row _ _ 5 _ _ _ HW4.out.rowr
   have z0:=apL_freeR HW4.out 0
   have z1:=apL_freeR HW4.out 1
   have z2:=apL_freeR HW4.out 2
   have z3:=apL_freeR HW4.out 3
   have z4:=apL_freeR HW4.out 4
   have z5:=apL_freeR HW4.out 5
   clear hW k0 k1 k2 k3 k4 HW3 HW2 HW1 HW
   go_wp2
   have hR:=lrow_set6 HW4.out.rowr (.int .i64 T) (.int .i64 R) (.int .i64 K) (.string key) (.string val) (.int .i64 N)
   obtain ⟨V,hV⟩:∃ V,V=((((((W.setCell ⟨w.heap.size + 1,0,none⟩ (.int .i64 T)).setCell ⟨w.heap.size + 1,1,none⟩ (.int .i64 R)).setCell ⟨w.heap.size + 1,2,none⟩ (.int .i64 K)).setCell ⟨w.heap.size + 1,3,none⟩ (.string key)).setCell ⟨w.heap.size + 1,4,none⟩ (.string val)).setCell ⟨w.heap.size + 1,5,none⟩ (.int .i64 N)):=⟨_,rfl⟩
   have hbV:Below w.heap.size w V:=by rw [hV];exact (((((HW4.out.bel.setCell (by simp) _).setCell (by simp) _).setCell (by simp) _).setCell (by simp) _).setCell (by simp) _).setCell (by simp) _
   rw [←hV] at hR ⊢
   clear hV
   refine bodyPost_ret (v:=.agg #[.int .i64 T,.int .i64 R,.int .i64 K,.string key,.string val,.int .i64 N]) (results_cell_row Tryz.results50 _ _ (w.heap.size + 1) 25 _ _ _ rfl hR Tryz.underlying25 rfl (lwr_sized _ _ _ _ _ _)) rfl ?_
   exact ⟨rfl,hbV⟩
set_option maxRecDepth 100000 in
set_option maxHeartbeats 4000000 in
theorem allapart_any (v:Value) (l:List Wr) (w:World) (hv:IsWrs w v l) (hl:l.length≤100000) (hok:∀ x∈l,x.key.size≤140737488351232∧x.value.size≤140737488351232) :
   Calls Tryz.prog 47 #[v] w fun e w'=>∃ u,e=.returned u∧ownsW w' w.heap.size u l∧Below w.heap.size w w'∧(l=[]→u=.slice none 0 0):=by
 obtain ⟨a,c,rfl,hf⟩:=hv.form
 have HF:=Lib.hid hf
 have HOK:=Lib.hid hok
 obtain ⟨n,hn⟩:∃ n,n=l.length:=⟨_,rfl⟩
 rw [←hn] at hl ⊢
 have HN:=Lib.hid hn
 clear hv hf hok hn
 go_enter Tryz.func47,Tryz.ntmps47
 go_wp2
 go_loopw [3,8] (fun lv i wr=>∃ k:Nat,k≤n∧i=.int .i64 k∧ownsW wr w.heap.size lv (l.take k)∧Below w.heap.size w wr∧(k=0→lv=.slice none 0 0)) (fun _ i _=>n - (intOf i).toNat)
 case atStart=>exact ⟨0,by omega,rfl,ownsW_nil _ _,Below.refl _ _,fun _=>rfl⟩
 case round =>
   obtain ⟨k,hk,rfl,ho,hb,hz⟩:=hrel
   have HO:=Lib.hid ho
   have HB:=Lib.hid hb
   have HSR:=Lib.hid hb.size
   have HZ:=Lib.hid hz
   clear ho hb hz
   by_cases hlt:k < n
   · have b1:decide ((k:Int) < (n:Int))=true:=by simpa using hlt
     obtain ⟨x, hx⟩ : ∃ x, l[k]? = some x := ⟨l[k]'(by rw [← HN.out]; exact hlt), List.getElem?_eq_getElem _⟩
     obtain ⟨b,off,rfl,hbl,c0,c1,c2,c3,c4,c5⟩:=HF.out k x hx
     have hsz:=HOK.out x (List.mem_of_getElem? hx)
     have HTS:Hid (l.take (k + 1)=l.take k ++ [x]):=Lib.hid (by rw [List.take_add_one,hx];rfl)
     have hkl:(l.take k).length=k:=by rw [List.length_take,←HN.out];omega
     obtain ⟨T,Re,K,key,val,N⟩:=x
     simp only at c0 c1 c2 c3 c4 c5 hsz
     obtain ⟨hks,hvs⟩:=hsz
     have d:∀ j u,w.cell? ⟨b,j,none⟩=some u→wr.cell? ⟨b,j,none⟩=some u:=fun j u hu=>(HB.out.cell (p:=⟨b,j,none⟩) hbl).trans hu
     have e0:=d _ _ c0
     have e1:=d _ _ c1
     have e2:=d _ _ c2
     have e3:=d _ _ c3
     have e4:=d _ _ c4
     have e5:=d _ _ c5
     obtain ⟨L,hL⟩:∃ L,L=l.take k:=⟨_,rfl⟩
     rw [←hL] at HO HTS hkl
     have HKL:=Lib.hid hkl
     clear hx c0 c1 c2 c3 c4 c5 d hbl hL hkl
     go_wp2_with (first
       | (go_at_call 50;refine (lapart_any T Re K key val N _ hks hvs).mono ?_;rintro r w3 ⟨rfl,hb3⟩;have HB3:Hid (Below wr.heap.size wr w3):=Lib.hid (((Below.refl _ _).alloc (Nat.le_refl _) _).trans (hb3.mono (by simp)));clear hb3)
       | (at_builtin;refine wpList_append_wr rfl _ _ rfl w.heap.size _ L rfl ((HO.out.below HB3.out).alloc _) w3.heap.size 1 rfl ⟨T,Re,K,key,val,N⟩ (heap_alloc_new _ _) (by have:=HKL.out;omega) (by have:=HSR.out;have:=HB3.out.size;simp;omega) ?_;intro g cap w4 ho4 hg4;have HO4:=Lib.hid ho4;have HG4:=Lib.hid hg4;clear ho4 hg4))
     go_roundw
     · refine ⟨k + 1,by omega,by simp,?_,?_,fun h=>by omega⟩
       · rw [HTS.out]
         exact HO4.out
       · exact ((HB.out.trans (HB3.out.mono HSR.out)).alloc (Nat.le_trans HSR.out HB3.out.size) _).grown HG4.out (by have:=HSR.out;have:=HB3.out.size;simp;omega) (fun g hg=>(HO.out.lt g hg).1)
     · simp [intOf];omega
   · have b1:decide ((k:Int) < (n:Int))=false:=by simp;omega
     obtain rfl:k=n:=by omega
     have HT:Hid (ownsW wr w.heap.size u3 l):=Lib.hid (by have:=HO.out;rwa [List.take_of_length_le (by rw [HN.out];exact Nat.le_refl _)] at this)
     go_wp2
     go_ret
     exact ⟨_,rfl,HT.out,HB.out,fun h=>HZ.out (by rw [HN.out,h];rfl)⟩
end Go.Proofs.YtifbebhgeheooaaGreatDoor
namespace Go.Proofs.YtifbebhgeheooaaGreatDoor
open Go.RowKit
set_option maxRecDepth 100000 in
set_option maxHeartbeats 2000000 in
theorem vwrong_any (v:Value) (l:List Ent) (k:Nat) (e:Ent) (last:Int) (w:World) (hv:IsEnts w v l) (hl:l.length≤1000000) (he:l[k]? = some e) (h0:(k=0∧last=-1)∨∃ j d,k=j + 1∧l[j]? = some d∧last=d.rep) :
   Calls Tryz.prog 92 #[v,.int .i64 (k:Int)] w fun r w'=>r=.returned (.int .i64 (wrE e last:Nat))∧Below w.heap.size w w':=by
 obtain ⟨a1,c1,rfl,f1⟩:=hv.form
 obtain ⟨n,hn⟩:∃ n,n=l.length:=⟨_,rfl⟩
 have hkl:k < n:=by rw [hn];exact (List.getElem?_eq_some_iff.1 he).1
 rw [←hn] at hl ⊢
 obtain ⟨b1,o1,rfl,hb1,p0,p1⟩:=f1 k e he
 obtain ⟨rep,time⟩:=e
 simp only at p0 p1
 by_cases hr:rep < 0∨200 < rep∨time < 1∨1099511627776 < time
 · have HW:Hid (wrE ⟨rep,time⟩ last=2):=Lib.hid (wrE_range hr)
   have HR:=Lib.hid hr
   clear hv f1 hn he h0 hr
   rw [HW.out]
   by_cases h1:rep < 0
   · go_enter Tryz.func92,Tryz.ntmps92
     go_wp2
     go_ret
     exact ⟨rfl,(Below.refl _ _).alloc (Nat.le_refl _) _⟩
   · by_cases h2:200 < rep
     · go_enter Tryz.func92,Tryz.ntmps92
       go_wp2
       go_ret
       exact ⟨rfl,(Below.refl _ _).alloc (Nat.le_refl _) _⟩
     · by_cases h3:time < 1
       · go_enter Tryz.func92,Tryz.ntmps92
         go_wp2
         go_ret
         exact ⟨rfl,(Below.refl _ _).alloc (Nat.le_refl _) _⟩
       · have h4:1099511627776 < time:=by have:=HR.out;omega
         go_enter Tryz.func92,Tryz.ntmps92
         go_wp2
         go_ret
         exact ⟨rfl,(Below.refl _ _).alloc (Nat.le_refl _) _⟩
 · have g1:0≤rep:=by omega
   have g2:rep≤200:=by omega
   have g3:1≤time:=by omega
   have g4:time≤1099511627776:=by omega
   rcases h0 with ⟨hk0,rfl⟩ | ⟨j,d,rfl,hd,rfl⟩
   · have HW:Hid (wrE ⟨rep,time⟩ (-1)=0):=Lib.hid (wrE_fine hr (by simp only;omega))
     have z1:¬ 0 < k:=by omega
     have z2:decide (0 < k)=false:=by simp;omega
     have z3:decide ((0:Int) < (k:Int))=false:=by simp;omega
     clear hv f1 hn he hr hk0
     rw [HW.out]
     go_enter Tryz.func92,Tryz.ntmps92
     go_wp2
     go_quiet (fail)
     go_wp2
     go_ret
     exact ⟨rfl,below_drewN ((Below.refl _ _).alloc (Nat.le_refl _) _) _⟩
   · obtain ⟨b2,o2,hbo,_,q0,_⟩:=f1 j d hd
     simp only [Option.some.injEq,Addr.mk.injEq,and_true] at hbo
     obtain ⟨rfl,rfl⟩:=hbo
     obtain ⟨last,dt⟩:=d
     simp only at q0
     obtain ⟨k,hk⟩:∃ k,k=j + 1:=⟨_,rfl⟩
     rw [←hk] at he hkl p0 p1 ⊢
     have hj1:(k:Int) - 1=(j:Int):=by omega
     have hj2:IntKind.i64.wrap ((k:Int) - 1)=(j:Int):=by rw [hj1];exact IntWalk.i64_in _ (by omega)
     have hk0:(0:Int) < (k:Int):=by omega
     have z1:0 < k:=by omega
     have z2:decide (0 < k)=true:=by simp;omega
     have z3:decide ((0:Int) < (k:Int))=true:=by simp;omega
     have hjn:(j:Int) < (n:Int):=by omega
     have hjn':j < n:=by omega
     have hj0:(0:Int)≤(j:Int):=by omega
     have q0':=(World.cell?_alloc_lt w (.cells #[.int .i64 rep,.int .i64 time] 34) (⟨b1,o1 + j * 2,none⟩:Addr) hb1).trans q0
     by_cases h5:rep≤last
     · have HW:Hid (wrE ⟨rep,time⟩ (Ent.mk last dt).rep=10):=Lib.hid (wrE_order hr h5)
       clear hv f1 hn he hr hd hk
       rw [HW.out]
       go_enter Tryz.func92,Tryz.ntmps92
       go_wp2
       go_quiet (fail)
       go_wp2
       go_ret
       exact ⟨rfl,below_drewN ((Below.refl _ _).alloc (Nat.le_refl _) _) _⟩
     · have HW:Hid (wrE ⟨rep,time⟩ (Ent.mk last dt).rep=0):=Lib.hid (wrE_fine hr h5)
       clear hv f1 hn he hr hd hk
       rw [HW.out]
       go_enter Tryz.func92,Tryz.ntmps92
       go_wp2
       go_quiet (fail)
       go_wp2
       go_ret
       exact ⟨rfl,below_drewN ((Below.refl _ _).alloc (Nat.le_refl _) _) _⟩
set_option maxRecDepth 100000 in
set_option maxHeartbeats 2000000 in
theorem vright_few (v:Value) (l:List Ent) (w:World) (hv:IsEnts w v l) (hl:l.length≤16) :
   Calls Tryz.prog 51 #[v] w (RightIs w (vr l 0 (-1))):=by
 have HV:=Lib.hid hv
 obtain ⟨a1,c1,rfl,f1⟩:=hv.form
 obtain ⟨n,hn⟩:∃ n,n=l.length:=⟨_,rfl⟩
 rw [←hn] at hl HV ⊢
 have HN:=Lib.hid hn
 clear hv f1 hn
 go_enter Tryz.func51,Tryz.ntmps51
 go_wp2
 go_loopw [11] (fun i wr=>∃ (k:Nat) (last:Int),k≤n∧i=.int .i64 k∧((k=0∧last=-1)∨∃ j d,k=j + 1∧l[j]? = some d∧last=d.rep)∧vr l 0 (-1)=vr (l.drop k) k last∧Below w.heap.size w wr) (fun i _=>n - (intOf i).toNat)
 case atStart=>exact ⟨0,-1,by omega,rfl,.inl ⟨rfl,rfl⟩,rfl,Below.refl _ _⟩
 case round =>
   obtain ⟨k,last,hk,rfl,hla,heq,hbel⟩:=hrel
   have HEQ:=Lib.hid heq
   have HLA:=Lib.hid hla
   have HB:=Lib.hid hbel
   have hzr:=hbel.size
   clear heq hbel hla
   by_cases hlt:k < n
   · have hkl:k < l.length:=by have:=HN.out;omega
     obtain ⟨t,ht⟩:∃ t,l[k]? = some t:=⟨l[k],List.getElem?_eq_getElem hkl⟩
     have hd:l.drop k=t :: l.drop (k + 1):=by
       rw [List.drop_eq_getElem_cons hkl];congr 1
       rw [List.getElem?_eq_getElem hkl] at ht;exact Option.some.inj ht
     have HD:=Lib.hid hd
     have HT:=Lib.hid ht
     obtain ⟨e,he⟩:∃ e,wrE t last=e:=⟨_,rfl⟩
     have HE:=Lib.hid he
     clear ht hkl hd he
     go_wp2_with fail
     refine (vwrong_any _ l k t last _ (HV.out.below (HB.out.mono (Nat.le_refl _))) (by have:=HN.out;omega) HT.out HLA.out).mono ?_
     rintro r w1 ⟨rfl,hb1⟩
     rw [HE.out]
     have HB1:Hid (Below w.heap.size w w1):=HB.out.trans (hb1.mono hzr)
     have hz1:=HB1.out.size
     clear hb1
     by_cases h0:e=0
     · subst h0
       have HN2:Hid (vr l 0 (-1)=vr (l.drop (k + 1)) (k + 1) t.rep):=Lib.hid (show vr l 0 (-1)=vr (l.drop (k + 1)) (k + 1) t.rep by rw [HEQ.out,HD.out,vr_good HE.out])
       go_wp2
       go_roundw
       case rel=>exact ⟨k + 1,t.rep,by omega,by go_num,.inr ⟨k,t,rfl,HT.out,rfl⟩,HN2.out,HB1.out⟩
       case measure=>simp [intOf];omega
     · have HN2:Hid (vr l 0 (-1)=(e,(k:Int))):=Lib.hid (show vr l 0 (-1)=(e,(k:Int)) by rw [HEQ.out,HD.out,vr_bad (by rw [HE.out];exact h0),HE.out])
       have hne:((e:Int) != 0)=true:=by simp;omega
       have H0:=Lib.hid h0
       clear h0
       go_wp2
       go_ret
       rw [HN2.out]
       exact ⟨_,rfl,atIs.new w1 e k H0.out,HB1.out.alloc hz1 _⟩
   · have HN2:Hid (vr l 0 (-1)=(0,-1)):=Lib.hid (show vr l 0 (-1)=(0,-1) by rw [HEQ.out,List.drop_eq_nil_of_le (by have:=HN.out;omega)];rfl)
     go_wp2
     go_ret
     exact ⟨_,rfl,.inl ⟨HN2.out,rfl⟩,HB.out⟩
theorem vright_any (v:Value) (l:List Ent) (w:World) (hv:IsEnts w v l) (hl:l.length≤9223372036854775807) :
   Calls Tryz.prog 51 #[v] w (VRightIs w (vrightF l)):=by
 by_cases h:16 < l.length
 · have HW:Hid (vrightF l=(4,-1)):=Lib.hid (show vrightF l=(4,-1) by unfold vrightF;rw [if_pos h])
   obtain ⟨a1,c1,rfl,_⟩:=hv.form
   obtain ⟨n,hn⟩:∃ n,n=l.length:=⟨_,rfl⟩
   rw [←hn] at h hl ⊢
   clear hv hn
   rw [HW.out]
   have h2:16 < (n:Int):=by omega
   go_enter Tryz.func51,Tryz.ntmps51
   go_wp2
   go_ret
   exact ⟨_,rfl,.inr ⟨by decide,rfl,rfl⟩,Below.refl _ _⟩
 · refine (vright_few v l w hv (by omega)).mono ?_
   rintro e w' ⟨x,h1,h2,h3⟩
   refine ⟨x,h1,.inl ?_,h3⟩
   unfold vrightF;rw [if_neg h];exact h2
end Go.Proofs.YtifbebhgeheooaaGreatDoor
namespace Go.Proofs.YtifbebhgeheooaaGreatDoor
open Go.RowKit
set_option maxRecDepth 100000 in
theorem behind_any (v:Value) (l:List Ent) (w:World) (hv:IsEnts w v l) (h0:l≠[]) (hl:l.length≤1000000) (hr:∀ e∈l,0≤e.rep∧e.rep≤1000000) :
   Calls Tryz.prog 100 #[v] w fun r w'=>r=.returned (.int .i64 ((l.getLastD ⟨0,0⟩).rep + 2))∧w=w':=by
 have hlen:0 < l.length:=List.length_pos_iff.2 h0
 obtain ⟨a1,c1,rfl,f1⟩:=hv.form
 have ht:l[l.length - 1]? = some (l.getLastD ⟨0,0⟩):=by
   rw [←List.getLast?_eq_getElem?]
   cases l with
   | nil=>exact absurd rfl h0
   | cons e t=>simp [List.getLast?_cons]
 obtain ⟨b1,o1,rfl,_,p0,_⟩:=f1 _ _ ht
 have hm:=hr _ (List.mem_of_getElem? ht)
 generalize l.getLastD ⟨0,0⟩=e at *
 obtain ⟨rep,time⟩:=e
 simp only at p0 hm ⊢
 obtain ⟨n,hn⟩:∃ n,n=l.length:=⟨_,rfl⟩
 rw [←hn] at hl hlen p0 ⊢
 obtain ⟨j,hj⟩:∃ j,j=n - 1:=⟨_,rfl⟩
 rw [←hj] at p0
 have hj1:(n:Int) - 1=(j:Int):=by omega
 have hj2:j < n:=by omega
 clear hv f1 hn ht hr h0 hj
 go_enter Tryz.func100,Tryz.ntmps100
 go_wp2
 go_ret
 exact ⟨rfl,rfl⟩
def CutIs (w:World) (u:Value) (l:List Ent) (rs:List (List Ent)) (e:Ending) (w':World):Prop :=
 ∃ v vs,e=.returned v∧ownsR w' w.heap.size v vs∧(∀ W,IsEnts W u l→areE W vs rs)∧vs.length=rs.length∧Below w.heap.size w w'
set_option maxRecDepth 100000 in
set_option maxHeartbeats 4000000 in
theorem cut_any (v:Value) (l:List Ent) (w:World) (hv:IsEnts w v l) (hl:l.length≤100000) (hr:∀ e∈l,0≤e.rep∧e.rep≤1000000) :
   Calls Tryz.prog 99 #[v] w (CutIs w v l (runsL l)):=by
 by_cases hz:l.length=0
 · obtain rfl:=List.length_eq_zero_iff.1 hz
   obtain ⟨a1,c1,rfl,_⟩:=hv.form
   have HR:Hid (runsL ([]:List Ent)=[]):=rfl
   rw [HR.out]
   clear hv hl hr hz
   go_enter Tryz.func99,Tryz.ntmps99
   go_wp2
   refine wp_loop_rounds 1 ?_
   rw [rounds_succ]
   go_wp2
   go_ret
   exact ⟨_,[],rfl,ownsR_nil _ _,fun _ _=>trivial,rfl,Below.refl _ _⟩
 · obtain ⟨b,off,c,rfl,hlc,hb,hcells⟩:=hv.lies (by omega)
   have HC:=Lib.hid hcells
   obtain ⟨a1,c1,hav,f1⟩:=hv.form
   simp only [Value.slice.injEq,true_and] at hav
   obtain ⟨rfl,rfl⟩:=hav
   have F1:=Lib.hid f1
   have HR:=Lib.hid hr
   obtain ⟨n,hn⟩:∃ n,n=l.length:=⟨_,rfl⟩
   rw [←hn] at hl hlc hz ⊢ hv
   have HV:=Lib.hid hv
   have HN:=Lib.hid hn
   have HLC:=Lib.hid hlc
   clear hv f1 hn hcells hr
   go_enter Tryz.func99,Tryz.ntmps99
   go_wp2
   go_loopw [3,4,8] (fun rv fv i wr=>∃ (k fr:Nat) (vs:List Value) (R:List (List Ent)),k≤n∧i=.int .i64 k∧fv=.int .i64 fr∧fr≤k∧vs.length≤k∧R ++ cutA ((l.take k).drop fr) (l.drop k)=runsL l∧ownsR wr w.heap.size rv vs∧(∀ W,IsEnts W (.slice (some ⟨b,off,none⟩) n c) l→areE W vs R)∧Below w.heap.size w wr) (fun _ _ i _=>n - (intOf i).toNat)
   case atStart=>exact ⟨0,0,[],[],by omega,rfl,rfl,by omega,Nat.le_refl _,rfl,ownsR_nil _ _,(fun _ _=>trivial),Below.refl _ _⟩
   case round =>
     obtain ⟨k,fr,vs,R,hk,rfl,rfl,hfr,hvs,heq,hown,hare,hbel⟩:=hrel
     have HEQ:=Lib.hid heq
     have HO:=Lib.hid hown
     have HA:=Lib.hid hare
     have HB:=Lib.hid hbel
     have hzr:=hbel.size
     clear heq hown hare hbel
     by_cases hlt:k < n
     · have hkl:k < l.length:=by have:=HN.out;omega
       obtain ⟨t,ht⟩:∃ t,l[k]? = some t:=⟨l[k],List.getElem?_eq_getElem hkl⟩
       have hd:l.drop k=t :: l.drop (k + 1):=by
         rw [List.drop_eq_getElem_cons hkl];congr 1
         rw [List.getElem?_eq_getElem hkl] at ht;exact Option.some.inj ht
       have htk:l.take (k + 1)=l.take k ++ [t]:=by
         rw [List.take_succ_eq_append_getElem hkl];congr 2
         rw [List.getElem?_eq_getElem hkl] at ht;exact Option.some.inj ht
       have hcur:(l.take (k + 1)).drop fr=(l.take k).drop fr ++ [t]:=by
         rw [htk,List.drop_append_of_le_length (by rw [List.length_take];omega)]
       obtain ⟨b1,o1,hbo,_,p0,_⟩:=F1.out k t ht
       simp only [Option.some.injEq,Addr.mk.injEq,and_true] at hbo
       obtain ⟨rfl,rfl⟩:=hbo
       have hm:=HR.out t (List.mem_of_getElem? ht)
       have q0:=(HB.out.cell (p:=⟨b,off + k * 2,none⟩) hb).trans p0
       obtain ⟨k1,hk1⟩:∃ k1,k1=k + 1:=⟨_,rfl⟩
       rw [←hk1] at hd htk hcur
       have hfk:fr < k1:=by omega
       have hfk':(fr:Int)≤(k1:Int):=by omega
       have hkc:k1≤c:=by have:=HLC.out;omega
       have hkc':(k1:Int)≤(c:Int):=by omega
       have HP:Hid (∀ W,IsEnts W (.slice (some ⟨b,off,none⟩) n c) l→IsEnts W (.slice (some ⟨b,off + fr * 2,none⟩) (k1 - fr) (c - fr)) ((l.take k1).drop fr)):=Lib.hid (show ∀ W,IsEnts W (.slice (some ⟨b,off,none⟩) n c) l→IsEnts W (.slice (some ⟨b,off + fr * 2,none⟩) (k1 - fr) (c - fr)) ((l.take k1).drop fr) from fun W hW=>by
         obtain ⟨b',off',c',hv',hc',hb',hcs'⟩:=hW.lies (by omega)
         simp only [Value.slice.injEq,Option.some.injEq,Addr.mk.injEq,and_true] at hv'
         obtain ⟨⟨rfl,rfl⟩,_,rfl⟩:=hv'
         exact IsEnts.part hcs' hb' fr k1 (by have:=HN.out;omega) hfk rfl (by omega))
       by_cases hlast:k1=n
       · subst hlast
         have hdn:l.drop k1=[]:=List.drop_eq_nil_of_le (by have:=HN.out;omega)
         have hcl:cutA ((l.take k).drop fr) (l.drop k)=[(l.take k1).drop fr]:=by
           rw [hd,hdn,cutA_one,hcur]
         have HS:Hid ((R ++ [(l.take k1).drop fr]) ++ cutA ((l.take k1).drop k1) (l.drop k1)=runsL l):=Lib.hid (show (R ++ [(l.take k1).drop fr]) ++ cutA ((l.take k1).drop k1) (l.drop k1)=runsL l by
           rw [←HEQ.out,hcl,hdn]
           have:∀ cur,cutA cur []=[]:=fun _=>rfl
           rw [this,List.append_nil])
         have hw1:(k:Int) + 1=(k1:Int):=by omega
         have hw2:IntKind.i64.wrap ((k:Int) + 1)=(k1:Int):=by rw [hw1];exact IntWalk.i64_in _ (by omega)
         have hw3:IntKind.i64.wrap (t.rep + 1)=t.rep + 1:=IntWalk.i64_in _ (by omega)
         have HK1:=Lib.hid hk1
         clear hcl hcur htk hd ht p0 hm hk1 hdn
         go_wp2
         go_quiet (fail)
         clear hw2 hw3
         go_wp2_with (at_builtin;refine wpList_append_run rfl _ _ rfl w.heap.size _ vs rfl ((HO.out.drewN _).alloc _) ⟨wr.heap.size,0,none⟩ 1 rfl (.slice (some ⟨b,off + fr * 2,none⟩) (k1 - fr) (c - fr)) ⟨_,_,_,rfl⟩ ?c1 ?c2 ?c3 ?_)
         case c1=>simp [Addr.add];exact cell_of_row _ _ 0 _ _ (0,0) (heap_alloc_new (World.drewN wr _) _)
         case c2=>omega
         case c3=>simp;omega
         · intro g cap w2 ho2 hg2
           have HB2:Hid (Below w.heap.size w w2):=(((below_drewN HB.out _).alloc (by simp;omega) _).grown hg2 (by simp;omega) (fun g hg=>(HO.out.lt g hg).1))
           have HO2:=Lib.hid ho2
           have HA2:Hid (∀ W,IsEnts W (.slice (some ⟨b,off,none⟩) k1 c) l→areE W (vs ++ [(.slice (some ⟨b,off + fr * 2,none⟩) (k1 - fr) (c - fr):Value)]) (R ++ [(l.take k1).drop fr])):=Lib.hid (fun W hW=>areE_snoc (HP.out W hW) (HA.out W hW))
           obtain ⟨vs2,hvs2⟩:∃ vs2,vs ++ [(.slice (some ⟨b,off + fr * 2,none⟩) (k1 - fr) (c - fr):Value)]=vs2:=⟨_,rfl⟩
           have hvl:vs2.length=vs.length + 1:=by rw [←hvs2];simp
           rw [hvs2] at HO2 HA2
           rw [←hvl] at HO2 ⊢
           clear ho2 hg2 hvs2
           go_wp2
           go_roundw
           case rel=>exact ⟨k1,k1,vs2,_,by omega,by first | rfl | go_num,by first | rfl | go_num,Nat.le_refl _,by have:=HK1.out;omega,HS.out,HO2.out,HA2.out,HB2.out⟩
           case measure=>have:=HK1.out;simp [intOf];omega
       · have hk1l:k1 < l.length:=by have:=HN.out;omega
         obtain ⟨d,hdd⟩:∃ d,l[k1]? = some d:=⟨l[k1],List.getElem?_eq_getElem hk1l⟩
         have hd1:l.drop k1=d :: l.drop (k1 + 1):=by
           rw [List.drop_eq_getElem_cons hk1l];congr 1
           rw [List.getElem?_eq_getElem hk1l] at hdd;exact Option.some.inj hdd
         obtain ⟨b1,o1,hbo,_,p1,_⟩:=F1.out k1 d hdd
         simp only [Option.some.injEq,Addr.mk.injEq,and_true] at hbo
         obtain ⟨rfl,rfl⟩:=hbo
         have q1:=(HB.out.cell (p:=⟨b,off + k1 * 2,none⟩) hb).trans p1
         have hk1n:k1 < n:=by omega
         have hk1n':(k1:Int) < (n:Int):=by omega
         have hn1:((k1:Int) == (n:Int))=false:=by simp;omega
         by_cases hgp:t.rep + 1 < d.rep
         · have hcl : cutA ((l.take k).drop fr) (l.drop k) = (l.take k1).drop fr :: cutA [] (l.drop k1) := by
             rw [hd,hd1,cutA_cut hgp,hcur]
           have HS:Hid ((R ++ [(l.take k1).drop fr]) ++ cutA ((l.take k1).drop k1) (l.drop k1)=runsL l):=Lib.hid (show (R ++ [(l.take k1).drop fr]) ++ cutA ((l.take k1).drop k1) (l.drop k1)=runsL l by
             rw [←HEQ.out,hcl,List.drop_eq_nil_of_le (show (l.take k1).length≤k1 by rw [List.length_take];omega)]
             simp)
           have hw1:(k:Int) + 1=(k1:Int):=by omega
           have hw2:IntKind.i64.wrap ((k:Int) + 1)=(k1:Int):=by rw [hw1];exact IntWalk.i64_in _ (by omega)
           have hw3:IntKind.i64.wrap (t.rep + 1)=t.rep + 1:=IntWalk.i64_in _ (by omega)
           have HK1:=Lib.hid hk1
           clear hcl hcur htk hd ht p0 hm hk1 p1 hdd hd1
           go_wp2
           go_quiet (fail)
           clear hw2 hw3
           go_wp2_with (at_builtin;refine wpList_append_run rfl _ _ rfl w.heap.size _ vs rfl ((HO.out.drewN _).alloc _) ⟨wr.heap.size,0,none⟩ 1 rfl (.slice (some ⟨b,off + fr * 2,none⟩) (k1 - fr) (c - fr)) ⟨_,_,_,rfl⟩ ?c1 ?c2 ?c3 ?_)
           case c1=>simp [Addr.add];exact cell_of_row _ _ 0 _ _ (0,0) (heap_alloc_new (World.drewN wr _) _)
           case c2=>omega
           case c3=>simp;omega
           · intro g cap w2 ho2 hg2
             have HB2:Hid (Below w.heap.size w w2):=(((below_drewN HB.out _).alloc (by simp;omega) _).grown hg2 (by simp;omega) (fun g hg=>(HO.out.lt g hg).1))
             have HO2:=Lib.hid ho2
             have HA2:Hid (∀ W,IsEnts W (.slice (some ⟨b,off,none⟩) n c) l→areE W (vs ++ [(.slice (some ⟨b,off + fr * 2,none⟩) (k1 - fr) (c - fr):Value)]) (R ++ [(l.take k1).drop fr])):=Lib.hid (fun W hW=>areE_snoc (HP.out W hW) (HA.out W hW))
             obtain ⟨vs2,hvs2⟩:∃ vs2,vs ++ [(.slice (some ⟨b,off + fr * 2,none⟩) (k1 - fr) (c - fr):Value)]=vs2:=⟨_,rfl⟩
             have hvl:vs2.length=vs.length + 1:=by rw [←hvs2];simp
             rw [hvs2] at HO2 HA2
             rw [←hvl] at HO2 ⊢
             clear ho2 hg2 hvs2
             go_wp2
             go_roundw
             case rel=>exact ⟨k1,k1,vs2,_,by omega,by first | rfl | go_num,by first | rfl | go_num,Nat.le_refl _,by have:=HK1.out;omega,HS.out,HO2.out,HA2.out,HB2.out⟩
             case measure=>have:=HK1.out;simp [intOf];omega
         · have hcl : cutA ((l.take k).drop fr) (l.drop k) = cutA ((l.take k1).drop fr) (l.drop k1) := by
             rw [hd,hd1,cutA_on hgp,hcur]
           have HS:Hid (R ++ cutA ((l.take k1).drop fr) (l.drop k1)=runsL l):=Lib.hid (show R ++ cutA ((l.take k1).drop fr) (l.drop k1)=runsL l by
             rw [←HEQ.out,hcl])
           have hgp':d.rep≤t.rep + 1:=by omega
           have hw1:(k:Int) + 1=(k1:Int):=by omega
           have hw2:IntKind.i64.wrap ((k:Int) + 1)=(k1:Int):=by rw [hw1];exact IntWalk.i64_in _ (by omega)
           have hw3:IntKind.i64.wrap (t.rep + 1)=t.rep + 1:=IntWalk.i64_in _ (by omega)
           have HK1:=Lib.hid hk1
           clear hcl hcur htk hd ht p0 hm hk1 p1 hdd hd1
           go_wp2
           go_quiet (fail)
           clear hw2 hw3
           go_wp2
           go_roundw
           case rel=>exact ⟨k1,fr,vs,R,by omega,by first | rfl | go_num,rfl,by have:=HK1.out;omega,by have:=HK1.out;omega,HS.out,HO.out.drewN _,HA.out,below_drewN HB.out _⟩
           case measure=>have:=HK1.out;simp [intOf];omega
     · have hkn:k=n:=by omega
       have HRE:Hid (R=runsL l):=Lib.hid (show R=runsL l by
         rw [←HEQ.out,List.drop_eq_nil_of_le (show l.length≤k by have:=HN.out;omega)]
         have:∀ cur,cutA cur []=[]:=fun _=>rfl
         rw [this,List.append_nil])
       obtain rfl:=HRE.out
       go_wp2
       go_ret
       exact ⟨_,vs,rfl,HO.out,HA.out,areE_len (HA.out w HV.out),HB.out⟩
end Go.Proofs.YtifbebhgeheooaaGreatDoor
namespace Go.Proofs.YtifbebhgeheooaaGreatDoor
open Go.RowKit
def NonB (b:Nat) (w w':World):Prop:=∀ k,k < w.heap.size→k≠b→(∀ cs fz,w.heap[k]? ≠ some (.cells cs 5 fz))→w'.heap[k]? = w.heap[k]?
theorem NonB.of {b:Nat} {w w':World} (h:Below w.heap.size w w'):NonB b w w':=fun k hk _ _=>h.block k hk
theorem NonB.trans {b:Nat} {w w1 w2:World} (h:NonB b w w1) (k:NonB b w1 w2) (hs:w.heap.size≤w1.heap.size):NonB b w w2:=fun i hi hb hu=>by
 have e:=h i hi hb hu
 exact (k i (by omega) hb (fun cs fz=>by rw [e];exact hu cs fz)).trans e
theorem NonB.row {b:Nat} {w w':World} {base size n:Nat} {e:TypeId} {v:Value} {xs:List Value} (h:NonB b w w') (ho:w.ownsRow base e size v n xs) (he:e≠5) (hb:v.ownBlock≠some b):w'.ownsRow base e size v n xs:=by
 have hlt:=World.ownsRow.lt ho
 refine ⟨ho.1,?_⟩
 rcases ho.2 with h1 | ⟨g,cap,cur,hv,hbg,hh,r⟩
 · exact .inl h1
 · subst hv
   refine .inr ⟨g,cap,cur,rfl,hbg,?_,r⟩
   rw [h g (hlt g rfl).2 (fun hc=>hb (by rw [hc];rfl)) (fun cs fz hc=>by rw [hh] at hc;injection hc with hc;injection hc with _ ht;exact he ht)]
   exact hh
theorem copy_any2 (B b:Nat) (l:List UInt8) (w:World) (h:isBld w B b l) :
   Calls Tryz.prog 127 #[.pointer (some ⟨b,0,none⟩)] w fun e w'=>e=.returned (.tuple #[])∧Lib.BuilderAt 157 5 B b (.pointer (some ⟨b,0,none⟩)) (Lib.byteCells l) w'∧Below B w w'∧NonB b w w'∧w'.heap.size=w.heap.size:=by
 rcases h with h | h
 · refine (copy_fresh b w h.cell0 h.shape h.frozen0).mono ?_
   rintro e w' ⟨rfl,rfl⟩
   exact ⟨rfl,h.used _,(Below.refl B w).setCell (p:=⟨b,0,none⟩) h.1 _,fun k _ hk _=>heap_setCell_other _ _ _ _ (fun e=>hk e),by simp⟩
 · refine (copy_used b w h.cell0).mono ?_
   rintro e w' ⟨rfl,rfl⟩
   exact ⟨rfl,h,Below.refl B _,fun k _ _ _=>rfl,rfl⟩
set_option maxRecDepth 100000 in
set_option maxHeartbeats 2000000 in
theorem bld_write2 (B b:Nat) (l:List UInt8) (s:ByteArray) (w:World) (h:isBld w B b l) (hlen:l.length + s.size≤140737488355328) (hBw:B≤w.heap.size) :
   Calls Tryz.prog 97 #[.pointer (some ⟨b,0,none⟩),.string s] w fun e w'=>e=.returned (.tuple #[.int .i64 s.size,.nilIface])∧isBld w' B b (l ++ s.data.toList)∧Below B w w'∧NonB b w w':=by
 obtain ⟨i0,hi,hz0,hz1,hz2⟩:=info_parts info_u8
 have hbl:(Lib.byteCells l).length=l.length:=by simp [Lib.byteCells]
 go_enter Tryz.func97,Tryz.ntmps97
 go_wp2_with fail
 refine (copy_any2 B b l _ h).mono ?_
 rintro e w1 ⟨rfl,h1,hb1,hn1,hs1⟩
 have HN1:=Lib.hid hn1
 have HS1:=Lib.hid hs1
 obtain ⟨hB,v,hbk,hown,hne⟩:=h1
 have c0:w1.cell? ⟨b,0,none⟩=some (.pointer (some ⟨b,0,none⟩)):=by rw [Lib.cell_of_heap hbk];rfl
 have c1:w1.cell? ⟨b,1,none⟩=some v:=by rw [Lib.cell_of_heap hbk];rfl
 clear hn1 hs1
 go_wp2_with (at_builtin;refine Lib.wpList_append_own_string _ rfl _ _ 155 9 rfl B 5 i0 Tryz.underlying155 Tryz.underlying9 hi hz0 hz1 hz2 _ _ _ rfl hown s rfl ?c3 ?c4 ?c5 ?_)
 case c3=>rw [hbl];unfold maxLen;omega
 case c4=>rw [hbl];omega
 case c5=>have:=hb1.size;omega
 intro v' w2 hown' hgrow _
 have hlt:b < w1.heap.size:=by
   rcases Nat.lt_or_ge b w1.heap.size with h' | h'
   · exact h'
   · simp [Array.getElem?_eq_none h'] at hbk
 have hb2:w2.heap[b]? = some (.cells #[.pointer (some ⟨b,0,none⟩),v] 157 (0,0)):=by
   rw [hgrow.block b hlt (fun e=>hne e.symm)]
   exact hbk
 have d0:w2.cell? ⟨b,0,none⟩=some (.pointer (some ⟨b,0,none⟩)):=by rw [Lib.cell_of_heap hb2];rfl
 have d1:w2.cell? ⟨b,1,none⟩=some v:=by rw [Lib.cell_of_heap hb2];rfl
 have f1:w2.frozen? ⟨b,1,none⟩=false:=Lib.frozen_of_heap hb2 1
 obtain ⟨ao,n',cap,rfl⟩:∃ ao n' cap,v'=.slice ao n' cap:=by
   rcases hown'.2 with ⟨hv,_⟩ | ⟨g,cap,cur,hv,_⟩
   · exact ⟨_,_,_,hv⟩
   · exact ⟨_,_,_,hv⟩
 have HO:Hid (w2.ownsRow B 5 1 (.slice ao n' cap) (Lib.byteCells (l ++ s.data.toList)).length (Lib.byteCells (l ++ s.data.toList))):=by
   have h:w2.ownsRow B 5 1 (.slice ao n' cap) (Lib.byteCells (l ++ s.data.toList)).length (Lib.byteCells (l ++ s.data.toList)):=by
     have e:Lib.byteCells (l ++ s.data.toList)=Lib.byteCells l ++ Lib.strCells s:=by simp [Lib.byteCells,Lib.strCells]
     rw [e,List.length_append,Lib.strCells_length,hbl]
     exact hown'
   exact h
 have HNB:Hid (NonB b w1 w2):=Lib.hid (show NonB b w1 w2 from fun k hk hkb hu=>hgrow.block k hk (fun e=>by
   rcases hown.2 with ⟨hv,_⟩ | ⟨g,cap',cur,hv,_,hh,_⟩
   · rw [hv] at e;cases e
   · rw [hv] at e
     have:k=g:=by simpa [Value.ownBlock] using e
     subst this
     exact hu _ _ hh))
 have HSZ:Hid (w1.heap.size≤w2.heap.size):=Lib.hid hgrow.size
 clear hown'
 go_wp2
 go_ret2
 refine ⟨rfl,.inr ?_,?_,?_⟩
 · exact Lib.BuilderAt.put (T:=157) (e:=5) hB hb2 HO.out (by decide)
 · exact (hb1.grown hgrow (by have:=hb1.size;omega) (fun k hk=>(hown.lt k hk).1)).setCell (p:=⟨b,1,none⟩) hB _
 · refine ((HN1.out.trans HNB.out (by rw [HS1.out];exact Nat.le_refl _)).trans (fun k _ hk _=>heap_setCell_other _ _ _ _ (fun e=>hk e)) ?_)
   rw [←HS1.out];exact HSZ.out
end Go.Proofs.YtifbebhgeheooaaGreatDoor
