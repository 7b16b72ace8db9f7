import Derived.Test.YtdhognaoejiglaaGreatDoorKb15
namespace Go.Proofs.YtdhognaoejiglaaGreatDoor
open Lib (hid)
set_option maxRecDepth 100000
set_option maxHeartbeats 8000000
section
open Go.RowKit
theorem atIs.isErr {w:World} {v:Value} {r:Nat×Int} (h:atIs w v r) (h0:r.1≠0):isErr w v (r.1:Nat):=by
 rcases h with ⟨h1,h2⟩ | ⟨_,b,h1,_,h3,h4⟩
 ·exact absurd (by rw [h1]) h0
 ·exact .inr ⟨b,0,_,h1,h3,h4⟩
def ax (w:World) (v:Value) (r:Nat×Int):Prop:=atIs w v r∨(r.1≠0∧r.2=-1∧v=.iface 68 (.int .i64 (r.1:Nat)))
theorem ax.below {w w':World} {v:Value} {r:Nat×Int} (h:ax w v r) (hb:Below w.heap.size w w'):ax w' v r:=by
 rcases h with h | h
 ·exact .inl (h.below hb)
 ·exact .inr h
theorem ax.nil {w:World} {v:Value} {r:Nat×Int} (h:ax w v r) (h0:r.1=0):v=.nilIface:=by
 rcases h with (⟨_,h⟩ | ⟨h,_⟩) | ⟨h,_⟩
 ·exact h
 ·exact absurd h0 h
 ·exact absurd h0 h
theorem ax.iface {w:World} {v:Value} {r:Nat×Int} (h:ax w v r) (h0:r.1≠0):∃ t u,v=.iface t u:=by
 rcases h with (⟨h,_⟩ | ⟨_,b,h,_⟩) | ⟨_,_,h⟩
 ·exact absurd (by rw [h]) h0
 ·exact ⟨_,_,h⟩
 ·exact ⟨_,_,h⟩
theorem ax.isErr {w:World} {v:Value} {r:Nat×Int} (h:ax w v r) (h0:r.1≠0):isErr w v (r.1:Nat):=by
 rcases h with h | ⟨_,h1,h2⟩
 ·exact h.isErr h0
 ·exact .inl h2
def iu (w:World) (r:Nat×Int) (e:Ending) (w':World):Prop :=
 ∃ v,e=.returned v∧ax w' v r∧Below w.heap.size w w'
theorem cd {w w':World} (h:Below w.drew.heap.size w.drew w'):Below w.heap.size w w':=((Below.refl _ _).drew).trans h
theorem fW {w w':World} {B:Nat} (h:Below B w w') (q:Nat):Below B w (w'.drewN q):=by
 induction q with
 | zero=>exact h
 | succ q ih=>exact ih.drew
end
section
open Go.RowKit
theorem dD (s:ByteArray) (w:World) (hs:s.size≤maxLen) (n k:Nat) (h:getL s.data.toList=(n,k,0)) :
 Calls Tryz.prog 182 #[.string s] w fun e w'=>e=.returned (.tuple #[.int .u64 n,.int .i64 k,.nilIface])∧w=w' :=
 (nr s w hs).mono fun e w' ⟨h1,h2⟩=>⟨h1.trans (by rw [h];rfl),h2⟩
theorem nu (s:ByteArray) (w:World) (hs:s.size≤maxLen) (e:Nat) (h:getL s.data.toList=(0,0,e)) (he:e≠0) :
 Calls Tryz.prog 182 #[.string s] w fun r w'=>r=.returned (.tuple #[.int .u64 0,.int .i64 0,.iface 68 (.int .i64 e)])∧w=w' :=
 (nr s w hs).mono fun r w' ⟨h1,h2⟩=>⟨h1.trans (by rw [h];unfold numV errV;rw [if_neg he];rfl),h2⟩
theorem lw (n:Nat) (w:World) (h:n≤18446744073709551615) :
 Calls Tryz.prog 115 #[.int .u64 (n:Int)] w fun e w'=>e=.returned (.string ⟨(putL n).toArray⟩)∧Below w.heap.size w w' :=
 ls (n:Int) w (by omega) (by omega)
end
section
open Go.RowKit
structure bk (w:World) (P:Nat) (F:Nat→Prop) (s:LogS) (vh vw:Value):Prop where
 row:w.heap[P]? = some (.cells #[.int .i64 s.rep,vh,vw] 80 (0,0))
 ents:ag w 0 vh s.hv
 ows:ak w 0 vw s.ws
 inP:F P
 inE:∀ k,vh.ownBlock=some k→F k
 inW:∀ k,vw.ownBlock=some k→F k
 lt:∀ k,F k→k<w.heap.size
 nil:s.ws=[]→vw=.slice none 0 0
def aQ (w:World) (P:Nat) (F:Nat→Prop) (s:LogS):Prop:=∃ vh vw,bk w P F s vh vw
theorem bk.but {w w':World} {P:Nat} {F G:Nat→Prop} {s:LogS} {vh vw:Value} (h:bk w P F s vh vw) (hb:But G w w') (hd:∀ k,F k→¬ G k):bk w' P F s vh vw :=
 ⟨(hb.block P (h.lt P h.inP) (hd P h.inP)).trans h.row,cT h.ents hb (fun k e=>hd k (h.inE k e)),cT h.ows hb (fun k e=>hd k (h.inW k e)),h.inP,h.inE,h.inW,fun k hk=>Nat.lt_of_lt_of_le (h.lt k hk) hb.size,h.nil⟩
theorem bk.below {w w':World} {P:Nat} {F:Nat→Prop} {s:LogS} {vh vw:Value} (h:bk w P F s vh vw) (hb:Below w.heap.size w w'):bk w' P F s vh vw :=
 h.but (G:=fun _=>False) (But.of_below hb) (fun _ _ h=>h)
theorem aQ.but {w w':World} {P:Nat} {F G:Nat→Prop} {s:LogS} (h:aQ w P F s) (hb:But G w w') (hd:∀ k,F k→¬ G k):aQ w' P F s:=by
 obtain ⟨vh,vw,h⟩:=h;exact ⟨vh,vw,h.but hb hd⟩
theorem aQ.below {w w':World} {P:Nat} {F:Nat→Prop} {s:LogS} (h:aQ w P F s) (hb:Below w.heap.size w w'):aQ w' P F s:=by
 obtain ⟨vh,vw,h⟩:=h;exact ⟨vh,vw,h.below hb⟩
theorem aQ.alloc {w:World} {P:Nat} {F:Nat→Prop} {s:LogS} (h:aQ w P F s) (o:Obj):aQ (w.alloc o) P F s:=h.below ((Below.refl _ _).alloc (Nat.le_refl _) o)
theorem aQ.lt {w:World} {P:Nat} {F:Nat→Prop} {s:LogS} (h:aQ w P F s):∀ k,F k→k<w.heap.size:=by
 obtain ⟨vh,vw,h⟩:=h;exact h.lt
theorem bk.plt' {w:World} {P:Nat} {F:Nat→Prop} {s:LogS} {vh vw:Value} (h:bk w P F s vh vw):P<w.heap.size:=h.lt P h.inP
theorem bk.c0 {w:World} {P:Nat} {F:Nat→Prop} {s:LogS} {vh vw:Value} (h:bk w P F s vh vw):w.cell? ⟨P,0,none⟩=some (.int .i64 s.rep):=cell_of_row _ _ 0 _ _ _ h.row
theorem bk.c1 {w:World} {P:Nat} {F:Nat→Prop} {s:LogS} {vh vw:Value} (h:bk w P F s vh vw):w.cell? ⟨P,1,none⟩=some vh:=cell_of_row _ _ 1 _ _ _ h.row
theorem bk.c2 {w:World} {P:Nat} {F:Nat→Prop} {s:LogS} {vh vw:Value} (h:bk w P F s vh vw):w.cell? ⟨P,2,none⟩=some vw:=cell_of_row _ _ 2 _ _ _ h.row
end
section
open Go.RowKit
structure ApL (w W:World) (T R K:Int) (key val:ByteArray) (N:Int):Prop where
 rowc:W.heap[w.heap.size]? = some (.cells #[.int .i64 T,.int .i64 R,.int .i64 K,.string key,.string val,.int .i64 N] 38 (0,0))
 rowr:W.heap[w.heap.size+1]? = some (.cells #[.int .i64 0,.int .i64 0,.int .i64 0,.string ⟨#[]⟩,.string ⟨#[]⟩,.int .i64 0] 38 (0,0))
 bel:Below w.heap.size w W
 sz:w.heap.size+2≤W.heap.size
theorem ApL.below {w W W':World} {T R K N:Int} {key val:ByteArray} {B:Nat} (h:ApL w W T R K key val N) (hb:Below B W W') (hB:w.heap.size+2≤B):ApL w W' T R K key val N :=
 ⟨(hb.block _ (by omega)).trans h.rowc,(hb.block _ (by omega)).trans h.rowr,h.bel.trans (hb.mono (by omega)),Nat.le_trans h.sz hb.size⟩
theorem ApL.call {w W W':World} {T R K N:Int} {key val:ByteArray} (h:ApL w W T R K key val N) (hb:Below W.heap.size W W'):ApL w W' T R K key val N:=h.below hb h.sz
theorem apL0 (w:World) (T R K:Int) (key val:ByteArray) (N:Int) :
 ApL w ((w.alloc (.cells #[.int .i64 T,.int .i64 R,.int .i64 K,.string key,.string val,.int .i64 N] 38)).alloc (.cells #[.int .i64 0,.int .i64 0,.int .i64 0,.string ⟨#[]⟩,.string ⟨#[]⟩,.int .i64 0] 38)) T R K key val N:=by
 have s1:(w.alloc (.cells #[.int .i64 T,.int .i64 R,.int .i64 K,.string key,.string val,.int .i64 N] 38)).heap.size=w.heap.size+1:=by simp
 refine ⟨?_,?_,((Below.refl _ _).alloc (Nat.le_refl _) _).alloc (by simp) _,by simp⟩
 ·rw [Below.heap_alloc _ _ _ (by omega)];exact heap_alloc_new _ _
 ·have:=heap_alloc_new (w.alloc (.cells #[.int .i64 T,.int .i64 R,.int .i64 K,.string key,.string val,.int .i64 N] 38)) (.cells #[.int .i64 0,.int .i64 0,.int .i64 0,.string ⟨#[]⟩,.string ⟨#[]⟩,.int .i64 0] 38)
  rwa [s1] at this
theorem ApL.put {w W:World} {T R K N:Int} {key val:ByteArray} {j:Nat} {z:Value} (h:ApL w W T R K key val N) (hz:(#[.int .i64 T,.int .i64 R,.int .i64 K,.string key,.string val,.int .i64 N]:Array Value).setIfInBounds j z=#[.int .i64 T,.int .i64 R,.int .i64 K,.string key,.string val,.int .i64 N]) :
 ApL w (W.setCell ⟨w.heap.size,j,none⟩ z) T R K key val N :=
 ⟨by rw [←hz];exact heap_setCell_same _ _ j _ _ z h.rowc,(heap_setCell_other _ _ _ _ (by show _≠w.heap.size;omega)).trans h.rowr,h.bel.setCell (Nat.le_refl _) _,by rw [show (W.setCell ⟨w.heap.size,j,none⟩ z).heap.size=W.heap.size from by simp];exact h.sz⟩
theorem jQ {w W:World} {T R K N:Int} {key val:ByteArray} (h:ApL w W T R K key val N) (i:Nat):W.frozen? ⟨w.heap.size,i,none⟩=false:=by simp [World.frozen?,h.rowc]
theorem gF {w W:World} {T R K N:Int} {key val:ByteArray} (h:ApL w W T R K key val N) (i:Nat):W.frozen? ⟨w.heap.size+1,i,none⟩=false:=by simp [World.frozen?,h.rowr]
theorem eU {w W:World} {T R K N:Int} {key val:ByteArray} (h:ApL w W T R K key val N):W.cell? ⟨w.heap.size,3,none⟩=some (.string key)∧W.cell? ⟨w.heap.size,4,none⟩=some (.string val):=⟨cell_of_row _ _ 3 _ _ _ h.rowc,cell_of_row _ _ 4 _ _ _ h.rowc⟩
theorem Bj {U:World} {B:Nat} {z0 z1 z2 z3 z4 z5:Value} {T:TypeId} (h:U.heap[B]? = some (.cells #[z0,z1,z2,z3,z4,z5] T (0,0))) (a0 a1 a2 a3 a4 a5:Value) :
 ((((((U.setCell ⟨B,0,none⟩ a0).setCell ⟨B,1,none⟩ a1).setCell ⟨B,2,none⟩ a2).setCell ⟨B,3,none⟩ a3).setCell ⟨B,4,none⟩ a4).setCell ⟨B,5,none⟩ a5).heap[B]? = some (.cells #[a0,a1,a2,a3,a4,a5] T (0,0)) :=
 heap_setCell_same _ _ 5 _ _ a5 (heap_setCell_same _ _ 4 _ _ a4 (heap_setCell_same _ _ 3 _ _ a3 (heap_setCell_same _ _ 2 _ _ a2 (heap_setCell_same _ _ 1 _ _ a1 (heap_setCell_same _ _ 0 _ _ a0 h)))))
theorem Bk (a0 a1 a2 a3 a4 a5:Value):(Tryz.prog.info? 38).map (·.size)=some (#[a0,a1,a2,a3,a4,a5]:Array Value).size:=by kernel_rfl
theorem nM (T R K:Int) (key val:ByteArray) (N:Int) (w:World) (hk:key.size≤140737488351232) (hv:val.size≤140737488351232) :
 Calls Tryz.prog 53 #[.agg #[.int .i64 T,.int .i64 R,.int .i64 K,.string key,.string val,.int .i64 N]] w fun e w'=>e=.returned (.agg #[.int .i64 T,.int .i64 R,.int .i64 K,.string key,.string val,.int .i64 N])∧Below w.heap.size w w':=by
 have hne:¬ w.heap.size+1=w.heap.size:=by omega
 have hne2:¬ w.heap.size=w.heap.size+1:=by omega
 have HW0:=hid (apL0 w T R K key val N);go_enter Tryz.func53,Tryz.ntmps53
 go_wp2;obtain ⟨u,hu⟩:∃ u,u=((w.alloc (.cells #[.int .i64 T,.int .i64 R,.int .i64 K,.string key,.string val,.int .i64 N] 38)).alloc (.cells #[.int .i64 0,.int .i64 0,.int .i64 0,.string ⟨#[]⟩,.string ⟨#[]⟩,.int .i64 0] 38)):=⟨_,rfl⟩;rw [←hu] at HW0 ⊢;have HW:Hid (ApL w u.drew T R K key val N):=hid (HW0.out.below (B:=u.heap.size) (Below.refl _ _).drew HW0.out.sz);have k0:=eU HW.out;clear hu HW0;go_region_held3 (fun w'=>w'.cell? ⟨w.heap.size,3,none⟩=some (.string key)∧w'.cell? ⟨w.heap.size,4,none⟩=some (.string val)) (first | exact k0 | exact k1 | exact k2 | exact k3 | exact k4 | fail) (first
  | (go_at_call 74;((with_reducible refine (bP key u.drew hk).mono ?_);rintro r w1 ⟨rfl,hb1⟩;have HW1:Hid (ApL w w1 T R K key val N):=hid (HW.out.call hb1);have k1:=eU HW1.out;clear hb1))
  | (go_at_call 74;((with_reducible refine (bP val u.drew hv).mono ?_);rintro r w1 ⟨rfl,hb1⟩;have HW1:Hid (ApL w w1 T R K key val N):=hid (HW.out.call hb1);have k1:=eU HW1.out;clear hb1))
  | (go_at_call 74;((with_reducible refine (bP key w1 hk).mono ?_);rintro r w2 ⟨rfl,hb2⟩;have HW2:Hid (ApL w w2 T R K key val N):=hid (HW1.out.call hb2);have k2:=eU HW2.out;have z3:=jQ HW2.out 3;have z4:=jQ HW2.out 4;have HW3:Hid (ApL w (w2.setCell ⟨w.heap.size,3,none⟩ (.string key)) T R K key val N):=hid (HW2.out.put rfl);have HW4:Hid (ApL w ((w2.setCell ⟨w.heap.size,3,none⟩ (.string key)).setCell ⟨w.heap.size,4,none⟩ (.string val)) T R K key val N):=hid (HW3.out.put rfl);have k3:=eU HW3.out;have k4:=eU HW4.out;clear hb2))
  | (go_at_call 74;((with_reducible refine (bP val w1 hv).mono ?_);rintro r w2 ⟨rfl,hb2⟩;have HW2:Hid (ApL w w2 T R K key val N):=hid (HW1.out.call hb2);have k2:=eU HW2.out;have z3:=jQ HW2.out 3;have z4:=jQ HW2.out 4;have HW3:Hid (ApL w (w2.setCell ⟨w.heap.size,3,none⟩ (.string key)) T R K key val N):=hid (HW2.out.put rfl);have HW4:Hid (ApL w ((w2.setCell ⟨w.heap.size,3,none⟩ (.string key)).setCell ⟨w.heap.size,4,none⟩ (.string val)) T R K key val N):=hid (HW3.out.put rfl);have k3:=eU HW3.out;have k4:=eU HW4.out;clear hb2))
  | fail)
 all_goals
  obtain ⟨W,hW⟩:∃ W,W=(w2.setCell ⟨w.heap.size,3,none⟩ (.string key)).setCell ⟨w.heap.size,4,none⟩ (.string val):=⟨_,rfl⟩;rw [←hW] at HW4 ⊢;have c0:W.cell? ⟨w.heap.size,0,none⟩=some (.int .i64 T):=cell_of_row _ _ 0 _ _ _ HW4.out.rowc;have c1:W.cell? ⟨w.heap.size,1,none⟩=some (.int .i64 R):=cell_of_row _ _ 1 _ _ _ HW4.out.rowc;have c2:W.cell? ⟨w.heap.size,2,none⟩=some (.int .i64 K):=cell_of_row _ _ 2 _ _ _ HW4.out.rowc;have c3:W.cell? ⟨w.heap.size,3,none⟩=some (.string key):=cell_of_row _ _ 3 _ _ _ HW4.out.rowc;have c4:W.cell? ⟨w.heap.size,4,none⟩=some (.string val):=cell_of_row _ _ 4 _ _ _ HW4.out.rowc;have c5:W.cell? ⟨w.heap.size,5,none⟩=some (.int .i64 N):=cell_of_row _ _ 5 _ _ _ HW4.out.rowc;have d0:W.cell? ⟨w.heap.size+1,0,none⟩=some (.int .i64 0):=cell_of_row _ _ 0 _ _ _ HW4.out.rowr;have d1:W.cell? ⟨w.heap.size+1,1,none⟩=some (.int .i64 0):=cell_of_row _ _ 1 _ _ _ HW4.out.rowr;have d2:W.cell? ⟨w.heap.size+1,2,none⟩=some (.int .i64 0):=cell_of_row _ _ 2 _ _ _ HW4.out.rowr;have d3:W.cell? ⟨w.heap.size+1,3,none⟩=some (.string ⟨#[]⟩):=cell_of_row _ _ 3 _ _ _ HW4.out.rowr;have d4:W.cell? ⟨w.heap.size+1,4,none⟩=some (.string ⟨#[]⟩):=cell_of_row _ _ 4 _ _ _ HW4.out.rowr;have d5:W.cell? ⟨w.heap.size+1,5,none⟩=some (.int .i64 0):=cell_of_row _ _ 5 _ _ _ HW4.out.rowr
  have z0:=gF HW4.out 0;have z1:=gF HW4.out 1;have z2:=gF HW4.out 2;have z3:=gF HW4.out 3;have z4:=gF HW4.out 4;have z5:=gF HW4.out 5;clear hW k0 k1 k2 k3 k4 HW3 HW2 HW1 HW;go_wp2;have hR:=Bj HW4.out.rowr (.int .i64 T) (.int .i64 R) (.int .i64 K) (.string key) (.string val) (.int .i64 N);obtain ⟨V,hV⟩:∃ V,V=((((((W.setCell ⟨w.heap.size+1,0,none⟩ (.int .i64 T)).setCell ⟨w.heap.size+1,1,none⟩ (.int .i64 R)).setCell ⟨w.heap.size+1,2,none⟩ (.int .i64 K)).setCell ⟨w.heap.size+1,3,none⟩ (.string key)).setCell ⟨w.heap.size+1,4,none⟩ (.string val)).setCell ⟨w.heap.size+1,5,none⟩ (.int .i64 N)):=⟨_,rfl⟩;have hbV:Below w.heap.size w V:=by rw [hV];exact (((((HW4.out.bel.setCell (by simp) _).setCell (by simp) _).setCell (by simp) _).setCell (by simp) _).setCell (by simp) _).setCell (by simp) _
  rw [←hV] at hR ⊢;clear hV;refine bodyPost_ret (v:=.agg #[.int .i64 T,.int .i64 R,.int .i64 K,.string key,.string val,.int .i64 N]) (results_cell_row Tryz.results53 _ _ (w.heap.size+1) 38 _ _ _ rfl hR Tryz.underlying38 rfl (Bk _ _ _ _ _ _)) rfl ?_;exact ⟨rfl,hbV⟩
theorem my (v:Value) (l:List Wr) (w:World) (hv:az w v l) (hl:l.length≤100000) (hok:∀ x∈l,x.key.size≤140737488351232∧x.value.size≤140737488351232) :
 Calls Tryz.prog 39 #[v] w fun e w'=>∃ u,e=.returned u∧ak w' w.heap.size u l∧Below w.heap.size w w'∧(l=[]→u=.slice none 0 0):=by
 obtain ⟨a,c,rfl,hf⟩:=hv.form;have HF:=hid hf;have HOK:=hid hok;obtain ⟨n,hn⟩:∃ n,n=l.length:=⟨_,rfl⟩;rw [←hn] at hl ⊢;have HN:=hid hn;clear hv hf hok hn;go_enter Tryz.func39,Tryz.ntmps39
 go_wp2
 go_loopw [3,8] (fun lv i wr=>∃ k:Nat,k≤n∧i=.int .i64 k∧ak wr w.heap.size lv (l.take k)∧Below w.heap.size w wr∧(k=0→lv=.slice none 0 0)) (fun _ i _=>n-(intOf i).toNat)
 case atStart=>exact ⟨0,by omega,rfl,eK _ _,Below.refl _ _,fun _=>rfl⟩
 case round =>
  obtain ⟨k,hk,rfl,ho,hb,hz⟩:=hrel;have HO:=hid ho;have HB:=hid hb;have HSR:=hid hb.size;have HZ:=hid hz;clear ho hb hz;by_cases hlt:k<n
  ·have b1:decide ((k:Int)<(n:Int))=true:=by simpa using hlt
   obtain ⟨x, hx⟩ : ∃ x, l[k]? = some x := ⟨l[k]'(by rw [← HN.out]; exact hlt), List.getElem?_eq_getElem _⟩;obtain ⟨b,off,rfl,hbl,c0,c1,c2,c3,c4,c5⟩:=HF.out k x hx;have hsz:=HOK.out x (List.mem_of_getElem? hx);have HTS:Hid (l.take (k+1)=l.take k++[x]):=hid (by rw [List.take_add_one,hx];rfl);have hkl:(l.take k).length=k:=by rw [List.length_take,←HN.out];omega
   obtain ⟨T,Re,K,key,val,N⟩:=x;simp only at c0 c1 c2 c3 c4 c5 hsz
   obtain ⟨hks,hvs⟩:=hsz;have d:∀ j u,w.cell? ⟨b,j,none⟩=some u→wr.cell? ⟨b,j,none⟩=some u:=fun j u hu=>(HB.out.cell (p:=⟨b,j,none⟩) hbl).trans hu
   have e0:=d _ _ c0;have e1:=d _ _ c1;have e2:=d _ _ c2;have e3:=d _ _ c3;have e4:=d _ _ c4;have e5:=d _ _ c5;obtain ⟨L,hL⟩:∃ L,L=l.take k:=⟨_,rfl⟩;rw [←hL] at HO HTS hkl;have HKL:=hid hkl;clear hx c0 c1 c2 c3 c4 c5 d hbl hL hkl;go_wp2_with (first
    | (go_at_call 53;refine (nM T Re K key val N _ hks hvs).mono ?_;rintro r w3 ⟨rfl,hb3⟩;have HB3:Hid (Below wr.heap.size wr w3):=hid (((Below.refl _ _).alloc (Nat.le_refl _) _).trans (hb3.mono (by simp)));clear hb3)
    | (at_builtin;refine jE rfl _ _ rfl w.heap.size _ L rfl ((HO.out.below HB3.out).alloc _) w3.heap.size 1 rfl ⟨T,Re,K,key,val,N⟩ (heap_alloc_new _ _) (by have:=HKL.out;omega) (by have:=HSR.out;have:=HB3.out.size;simp;omega) ?_;intro g cap w4 ho4 hg4;have HO4:=hid ho4;have HG4:=hid hg4;clear ho4 hg4))
   go_roundw
   ·refine ⟨k+1,by omega,by simp,?_,?_,fun h=>by omega⟩
    ·rw [HTS.out];exact HO4.out
    ·exact ((HB.out.trans (HB3.out.mono HSR.out)).alloc (Nat.le_trans HSR.out HB3.out.size) _).grown HG4.out (by have:=HSR.out;have:=HB3.out.size;simp;omega) (fun g hg=>(HO.out.lt g hg).1)
   ·simp [intOf];omega
  ·have b1:decide ((k:Int)<(n:Int))=false:=by simp;omega
   obtain rfl:k=n:=by omega
   have HT:Hid (ak wr w.heap.size u3 l):=hid (by have:=HO.out;rwa [List.take_of_length_le (by rw [HN.out];exact Nat.le_refl _)] at this);go_wp2;go_ret;exact ⟨_,rfl,HT.out,HB.out,fun h=>HZ.out (by rw [HN.out,h];rfl)⟩
end
section
open Go.RowKit
theorem FU (v:Value) (l:List Ent) (k:Nat) (e:Ent) (last:Int) (w:World) (hv:ae w v l) (hl:l.length≤1000000) (he:l[k]? = some e) (h0:(k=0∧last=-1)∨∃ j d,k=j+1∧l[j]? = some d∧last=d.rep) :
 Calls Tryz.prog 43 #[v,.int .i64 (k:Int)] w fun r w'=>r=.returned (.int .i64 (wrE e last:Nat))∧Below w.heap.size w w':=by
 obtain ⟨a1,c1,rfl,f1⟩:=hv.form;obtain ⟨n,hn⟩:∃ n,n=l.length:=⟨_,rfl⟩;have hkl:k<n:=by rw [hn];exact (List.getElem?_eq_some_iff.1 he).1
 rw [←hn] at hl ⊢;obtain ⟨b1,o1,rfl,hb1,p0,p1⟩:=f1 k e he;obtain ⟨rep,time⟩:=e;simp only at p0 p1
 by_cases hr:rep<0∨200<rep∨time<1∨1099511627776<time
 ·have HW:Hid (wrE ⟨rep,time⟩ last=2):=hid (Gr hr);have HR:=hid hr;clear hv f1 hn he h0 hr;rw [HW.out];by_cases h1:rep<0
  ·go_enter Tryz.func43,Tryz.ntmps43
   go_wp2;go_ret;exact ⟨rfl,(Below.refl _ _).alloc (Nat.le_refl _) _⟩
  ·by_cases h2:200<rep
   ·go_enter Tryz.func43,Tryz.ntmps43
    go_wp2;go_ret;exact ⟨rfl,(Below.refl _ _).alloc (Nat.le_refl _) _⟩
   ·by_cases h3:time<1
    ·go_enter Tryz.func43,Tryz.ntmps43
     go_wp2;go_ret;exact ⟨rfl,(Below.refl _ _).alloc (Nat.le_refl _) _⟩
    ·have h4:1099511627776<time:=by have:=HR.out;omega
     go_enter Tryz.func43,Tryz.ntmps43
     go_wp2;go_ret;exact ⟨rfl,(Below.refl _ _).alloc (Nat.le_refl _) _⟩
 ·have g1:0≤rep:=by omega
  have g2:rep≤200:=by omega
  have g3:1≤time:=by omega
  have g4:time≤1099511627776:=by omega
  rcases h0 with ⟨hk0,rfl⟩ | ⟨j,d,rfl,hd,rfl⟩
  ·have HW:Hid (wrE ⟨rep,time⟩ (-1)=0):=hid (vR hr (by simp only;omega));have z1:¬ 0<k:=by omega
   have z2:decide (0<k)=false:=by simp;omega
   have z3:decide ((0:Int)<(k:Int))=false:=by simp;omega
   clear hv f1 hn he hr hk0;rw [HW.out];go_enter Tryz.func43,Tryz.ntmps43
   go_wp2
   go_quiet (fail)
   go_wp2;go_ret;exact ⟨rfl,below_drewN ((Below.refl _ _).alloc (Nat.le_refl _) _) _⟩
  ·obtain ⟨b2,o2,hbo,_,q0,_⟩:=f1 j d hd;simp only [Option.some.injEq,Addr.mk.injEq,and_true] at hbo
   obtain ⟨rfl,rfl⟩:=hbo;obtain ⟨last,dt⟩:=d;simp only at q0
   obtain ⟨k,hk⟩:∃ k,k=j+1:=⟨_,rfl⟩;rw [←hk] at he hkl p0 p1 ⊢;have hj1:(k:Int)-1=(j:Int):=by omega
   have hj2:IntKind.i64.wrap ((k:Int)-1)=(j:Int):=by rw [hj1];exact IntWalk.i64_in _ (by omega)
   have hk0:(0:Int)<(k:Int):=by omega
   have z1:0<k:=by omega
   have z2:decide (0<k)=true:=by simp;omega
   have z3:decide ((0:Int)<(k:Int))=true:=by simp;omega
   have hjn:(j:Int)<(n:Int):=by omega
   have hjn':j<n:=by omega
   have hj0:(0:Int)≤(j:Int):=by omega
   have q0':=(World.cell?_alloc_lt w (.cells #[.int .i64 rep,.int .i64 time] 58) (⟨b1,o1+j * 2,none⟩:Addr) hb1).trans q0;by_cases h5:rep≤last
   ·have HW:Hid (wrE ⟨rep,time⟩ (Ent.mk last dt).rep=10):=hid (Gq hr h5);clear hv f1 hn he hr hd hk;rw [HW.out];go_enter Tryz.func43,Tryz.ntmps43
    go_wp2
    go_quiet (fail)
    go_wp2;go_ret;exact ⟨rfl,below_drewN ((Below.refl _ _).alloc (Nat.le_refl _) _) _⟩
   ·have HW:Hid (wrE ⟨rep,time⟩ (Ent.mk last dt).rep=0):=hid (vR hr h5);clear hv f1 hn he hr hd hk;rw [HW.out];go_enter Tryz.func43,Tryz.ntmps43
    go_wp2
    go_quiet (fail)
    go_wp2;go_ret;exact ⟨rfl,below_drewN ((Below.refl _ _).alloc (Nat.le_refl _) _) _⟩
theorem FS (v:Value) (l:List Ent) (w:World) (hv:ae w v l) (hl:l.length≤16) :
 Calls Tryz.prog 20 #[v] w (jO w (vr l 0 (-1))):=by
 have HV:=hid hv;obtain ⟨a1,c1,rfl,f1⟩:=hv.form;obtain ⟨n,hn⟩:∃ n,n=l.length:=⟨_,rfl⟩;rw [←hn] at hl HV ⊢;have HN:=hid hn;clear hv f1 hn;go_enter Tryz.func20,Tryz.ntmps20
 go_wp2
 go_loopw [11] (fun i wr=>∃ (k:Nat) (last:Int),k≤n∧i=.int .i64 k∧((k=0∧last=-1)∨∃ j d,k=j+1∧l[j]? = some d∧last=d.rep)∧vr l 0 (-1)=vr (l.drop k) k last∧Below w.heap.size w wr) (fun i _=>n-(intOf i).toNat)
 case atStart=>exact ⟨0,-1,by omega,rfl,.inl ⟨rfl,rfl⟩,rfl,Below.refl _ _⟩
 case round =>
  obtain ⟨k,last,hk,rfl,hla,heq,hbel⟩:=hrel;have HEQ:=hid heq;have HLA:=hid hla;have HB:=hid hbel;have hzr:=hbel.size;clear heq hbel hla;by_cases hlt:k<n
  ·have hkl:k<l.length:=by have:=HN.out;omega
   obtain ⟨t,ht⟩:∃ t,l[k]? = some t:=⟨l[k],List.getElem?_eq_getElem hkl⟩;have hd:l.drop k=t::l.drop (k+1):=by
    rw [List.drop_eq_getElem_cons hkl];congr 1;rw [List.getElem?_eq_getElem hkl] at ht;exact Option.some.inj ht
   have HD:=hid hd;have HT:=hid ht;obtain ⟨e,he⟩:∃ e,wrE t last=e:=⟨_,rfl⟩;have HE:=hid he;clear ht hkl hd he;go_wp2_with fail
   refine (FU _ l k t last _ (HV.out.below (HB.out.mono (Nat.le_refl _))) (by have:=HN.out;omega) HT.out HLA.out).mono ?_;rintro r w1 ⟨rfl,hb1⟩;rw [HE.out];have HB1:Hid (Below w.heap.size w w1):=HB.out.trans (hb1.mono hzr);have hz1:=HB1.out.size;clear hb1;by_cases h0:e=0
   ·subst h0;have HN2:Hid (vr l 0 (-1)=vr (l.drop (k+1)) (k+1) t.rep):=hid (show vr l 0 (-1)=vr (l.drop (k+1)) (k+1) t.rep by rw [HEQ.out,HD.out,ph HE.out]);go_wp2;go_roundw
    case rel=>exact ⟨k+1,t.rep,by omega,by go_num,.inr ⟨k,t,rfl,HT.out,rfl⟩,HN2.out,HB1.out⟩
    case measure=>simp [intOf];omega
   ·have HN2:Hid (vr l 0 (-1)=(e,(k:Int))):=hid (show vr l 0 (-1)=(e,(k:Int)) by rw [HEQ.out,HD.out,pg (by rw [HE.out];exact h0),HE.out]);have hne:((e:Int) != 0)=true:=by simp;omega
    have H0:=hid h0;clear h0;go_wp2;go_ret;rw [HN2.out];exact ⟨_,rfl,atIs.new w1 e k H0.out,HB1.out.alloc hz1 _⟩
  ·have HN2:Hid (vr l 0 (-1)=(0,-1)):=hid (show vr l 0 (-1)=(0,-1) by rw [HEQ.out,List.drop_eq_nil_of_le (by have:=HN.out;omega)];rfl);go_wp2;go_ret;exact ⟨_,rfl,.inl ⟨HN2.out,rfl⟩,HB.out⟩
theorem cC (v:Value) (l:List Ent) (w:World) (hv:ae w v l) (hl:l.length≤9223372036854775807) :
 Calls Tryz.prog 20 #[v] w (iu w (aq l)):=by
 by_cases h:16<l.length
 ·have HW:Hid (aq l=(4,-1)):=hid (show aq l=(4,-1) by unfold aq;rw [if_pos h]);obtain ⟨a1,c1,rfl,_⟩:=hv.form;obtain ⟨n,hn⟩:∃ n,n=l.length:=⟨_,rfl⟩;rw [←hn] at h hl ⊢;clear hv hn;rw [HW.out];have h2:16<(n:Int):=by omega
  go_enter Tryz.func20,Tryz.ntmps20
  go_wp2;go_ret;exact ⟨_,rfl,.inr ⟨by decide,rfl,rfl⟩,Below.refl _ _⟩
 ·refine (FS v l w hv (by omega)).mono ?_;rintro e w' ⟨x,h1,h2,h3⟩;refine ⟨x,h1,.inl ?_,h3⟩;unfold aq;rw [if_neg h];exact h2
end
section
open Go.RowKit
def intL (l:List UInt8) (most:Int):Nat×Nat×Nat :=
 if (getL l).2.2≠0 then (0,0,(getL l).2.2) else if most<0∨most<(getL l).1 then (0,0,2) else getL l
def intV (r:Nat×Nat×Nat):Value:=.tuple #[.int .i64 r.1,.int .i64 r.2.1,errV r.2.2]
theorem iY {l:List UInt8} {most:Int} {e:Nat} (h:getL l=(0,0,e)) (he:e≠0):intL l most=(0,0,e):=by
 unfold intL;rw [h];rw [if_pos (by exact he)]
theorem gT {l:List UInt8} {most:Int} {n k:Nat} (h:getL l=(n,k,0)) (hm:most<0∨most<n):intL l most=(0,0,2):=by
 unfold intL;rw [h];rw [if_neg (by simp),if_pos hm]
theorem fE {l:List UInt8} {most:Int} {n k:Nat} (h:getL l=(n,k,0)) (hm:¬ (most<0∨most<n)):intL l most=(n,k,0):=by
 unfold intL;rw [h];rw [if_neg (by simp),if_neg hm]
theorem dC (l:List UInt8):(∃ e,getL l=(0,0,e)∧e≠0)∨∃ n k,getL l=(n,k,0)∧n≤18446744073709551615∧1≤k∧k≤10∧k≤l.length:=by
 unfold getL;split
 ·rename_i e he;refine .inl ⟨e,rfl,?_⟩;have:=tC _ _ _ he;omega
 ·rename_i k hk;obtain ⟨a,b,c,d⟩:=DF hk;exact .inr ⟨_,_,rfl,by omega,a,b,c⟩
theorem gd (s:ByteArray) (most:Int) (w:World) (hs:s.size≤maxLen) (h0 : -9223372036854775808≤most) (h1:most≤9223372036854775807) :
 Calls Tryz.prog 155 #[.string s,.int .i64 most] w fun r w'=>r=.returned (intV (intL s.data.toList most))∧w=w':=by
 rcases dC s.data.toList with ⟨e,hg,he⟩ | ⟨n,k,hg,hn,hk1,hk2,hk3⟩
 ·have HP : Hid (intV (intL s.data.toList most) = .tuple #[.int .i64 0, .int .i64 0, .iface 68 (.int .i64 e)]) := by
   show intV _=_
   rw [iY hg he];unfold intV errV;rw [if_neg he];rfl
  have HG:=hid hg;clear hg;rw [HP.out];go_enter Tryz.func155,Tryz.ntmps155
  go_wp2_with (go_at_call 182;refine (nu _ _ hs e HG.out he).mono ?_;rintro r w' ⟨rfl,rfl⟩)
  go_ret3;exact ⟨rfl,rfl⟩
 ·by_cases hm:most<0
  ·have HP : Hid (intV (intL s.data.toList most) = .tuple #[.int .i64 0, .int .i64 0, .iface 68 (.int .i64 2)]) := by
    show intV _=_
    rw [gT hg (.inl hm)];rfl
   have HG:=hid hg;clear hg;rw [HP.out];go_enter Tryz.func155,Tryz.ntmps155
   go_wp2_with (go_at_call 182;refine (dD _ _ hs n k HG.out).mono ?_;rintro r w' ⟨rfl,rfl⟩)
   go_ret3;exact ⟨rfl,rfl⟩
  ·have hm':0≤most:=by omega
   by_cases hr:most<(n:Int)
   ·have HP : Hid (intV (intL s.data.toList most) = .tuple #[.int .i64 0, .int .i64 0, .iface 68 (.int .i64 2)]) := by
     show intV _=_
     rw [gT hg (.inr hr)];rfl
    have HG:=hid hg;clear hg hm;rw [HP.out];go_enter Tryz.func155,Tryz.ntmps155
    go_wp2_with (go_at_call 182;refine (dD _ _ hs n k HG.out).mono ?_;rintro r w' ⟨rfl,rfl⟩)
    go_ret3;exact ⟨rfl,rfl⟩
   ·have HP : Hid (intV (intL s.data.toList most) = .tuple #[.int .i64 n, .int .i64 k, .nilIface]) := by
     show intV _=_
     rw [fE hg (by omega)];rfl
    have HG:=hid hg;have hr':(n:Int)≤most:=by omega
    clear hg hm hr;rw [HP.out];go_enter Tryz.func155,Tryz.ntmps155
    go_wp2_with (go_at_call 182;refine (dD _ _ hs n k HG.out).mono ?_;rintro r w' ⟨rfl,rfl⟩)
    go_ret3;exact ⟨rfl,rfl⟩
end
section
open Go.RowKit
def NonB (b:Nat) (w w':World):Prop:=∀ k,k<w.heap.size→k≠b→(∀ cs fz,w.heap[k]? ≠ some (.cells cs 5 fz))→w'.heap[k]? = w.heap[k]?
theorem NonB.of {b:Nat} {w w':World} (h:Below w.heap.size w w'):NonB b w w':=fun k hk _ _=>h.block k hk
theorem NonB.trans {b:Nat} {w w1 w2:World} (h:NonB b w w1) (k:NonB b w1 w2) (hs:w.heap.size≤w1.heap.size):NonB b w w2:=fun i hi hb hu=>by
 have e:=h i hi hb hu;exact (k i (by omega) hb (fun cs fz=>by rw [e];exact hu cs fz)).trans e
theorem NonB.row {b:Nat} {w w':World} {base size n:Nat} {e:TypeId} {v:Value} {xs:List Value} (h:NonB b w w') (ho:w.ownsRow base e size v n xs) (he:e≠5) (hb:v.ownBlock≠some b):w'.ownsRow base e size v n xs:=by
 have hlt:=World.ownsRow.lt ho;refine ⟨ho.1,?_⟩;rcases ho.2 with h1 | ⟨g,cap,cur,hv,hbg,hh,r⟩
 ·exact .inl h1
 ·subst hv;refine .inr ⟨g,cap,cur,rfl,hbg,?_,r⟩;rw [h g (hlt g rfl).2 (fun hc=>hb (by rw [hc];rfl)) (fun cs fz hc=>by rw [hh] at hc;injection hc with hc;injection hc with _ ht;exact he ht)];exact hh
theorem yz (B b:Nat) (l:List UInt8) (w:World) (h:aX w B b l) :
 Calls Tryz.prog 116 #[.pointer (some ⟨b,0,none⟩)] w fun e w'=>e=.returned (.tuple #[])∧Lib.BuilderAt 145 5 B b (.pointer (some ⟨b,0,none⟩)) (Lib.byteCells l) w'∧Below B w w'∧NonB b w w'∧w'.heap.size=w.heap.size:=by
 rcases h with h | h
 ·refine (qE b w h.cell0 h.shape h.frozen0).mono ?_;rintro e w' ⟨rfl,rfl⟩;exact ⟨rfl,h.used _,(Below.refl B w).setCell (p:=⟨b,0,none⟩) h.1 _,fun k _ hk _=>heap_setCell_other _ _ _ _ (fun e=>hk e),by simp⟩
 ·refine (mP b w h.cell0).mono ?_;rintro e w' ⟨rfl,rfl⟩;exact ⟨rfl,h,Below.refl B _,fun k _ _ _=>rfl,rfl⟩
theorem qk (B b:Nat) (l:List UInt8) (s:ByteArray) (w:World) (h:aX w B b l) (hlen:l.length+s.size≤140737488355328) (hBw:B≤w.heap.size) :
 Calls Tryz.prog 88 #[.pointer (some ⟨b,0,none⟩),.string s] w fun e w'=>e=.returned (.tuple #[.int .i64 s.size,.nilIface])∧aX w' B b (l++s.data.toList)∧Below B w w'∧NonB b w w':=by
 obtain ⟨i0,hi,hz0,hz1,hz2⟩:=info_parts gS;have hbl:(Lib.byteCells l).length=l.length:=by simp [Lib.byteCells]
 go_enter Tryz.func88,Tryz.ntmps88
 go_wp2_with fail
 refine (yz B b l _ h).mono ?_;rintro e w1 ⟨rfl,h1,hb1,hn1,hs1⟩;have HN1:=hid hn1;have HS1:=hid hs1;obtain ⟨hB,v,hbk,hown,hne⟩:=h1;have c0:w1.cell? ⟨b,0,none⟩=some (.pointer (some ⟨b,0,none⟩)):=by rw [Lib.cell_of_heap hbk];rfl
 have c1:w1.cell? ⟨b,1,none⟩=some v:=by rw [Lib.cell_of_heap hbk];rfl
 clear hn1 hs1;go_wp2_with (at_builtin;refine Lib.wpList_append_own_string _ rfl _ _ 142 9 rfl B 5 i0 Tryz.underlying142 Tryz.underlying9 hi hz0 hz1 hz2 _ _ _ rfl hown s rfl ?c3 ?c4 ?c5 ?_)
 case c3=>rw [hbl];unfold maxLen;omega
 case c4=>rw [hbl];omega
 case c5=>have:=hb1.size;omega
 intro v' w2 hown' hgrow _;have hlt:b<w1.heap.size:=by
  rcases Nat.lt_or_ge b w1.heap.size with h' | h'
  ·exact h'
  ·simp [Array.getElem?_eq_none h'] at hbk
 have hb2:w2.heap[b]? = some (.cells #[.pointer (some ⟨b,0,none⟩),v] 145 (0,0)):=by
  rw [hgrow.block b hlt (fun e=>hne e.symm)];exact hbk
 have d0:w2.cell? ⟨b,0,none⟩=some (.pointer (some ⟨b,0,none⟩)):=by rw [Lib.cell_of_heap hb2];rfl
 have d1:w2.cell? ⟨b,1,none⟩=some v:=by rw [Lib.cell_of_heap hb2];rfl
 have f1:w2.frozen? ⟨b,1,none⟩=false:=Lib.frozen_of_heap hb2 1;obtain ⟨ao,n',cap,rfl⟩:∃ ao n' cap,v'=.slice ao n' cap:=by
  rcases hown'.2 with ⟨hv,_⟩ | ⟨g,cap,cur,hv,_⟩
  ·exact ⟨_,_,_,hv⟩
  ·exact ⟨_,_,_,hv⟩
 have HO:Hid (w2.ownsRow B 5 1 (.slice ao n' cap) (Lib.byteCells (l++s.data.toList)).length (Lib.byteCells (l++s.data.toList))):=by
  have h:w2.ownsRow B 5 1 (.slice ao n' cap) (Lib.byteCells (l++s.data.toList)).length (Lib.byteCells (l++s.data.toList)):=by
   have e:Lib.byteCells (l++s.data.toList)=Lib.byteCells l++Lib.strCells s:=by simp [Lib.byteCells,Lib.strCells]
   rw [e,List.length_append,Lib.strCells_length,hbl];exact hown'
  exact h
 have HNB:Hid (NonB b w1 w2):=hid (show NonB b w1 w2 from fun k hk hkb hu=>hgrow.block k hk (fun e=>by
  rcases hown.2 with ⟨hv,_⟩ | ⟨g,cap',cur,hv,_,hh,_⟩
  ·rw [hv] at e;cases e
  ·rw [hv] at e;have:k=g:=by simpa [Value.ownBlock] using e
   subst this;exact hu _ _ hh))
 have HSZ:Hid (w1.heap.size≤w2.heap.size):=hid hgrow.size;clear hown';go_wp2;go_ret2;refine ⟨rfl,.inr ?_,?_,?_⟩
 ·exact Lib.BuilderAt.put (T:=145) (e:=5) hB hb2 HO.out (by decide)
 ·exact (hb1.grown hgrow (by have:=hb1.size;omega) (fun k hk=>(hown.lt k hk).1)).setCell (p:=⟨b,1,none⟩) hB _
 ·refine ((HN1.out.trans HNB.out (by rw [HS1.out];exact Nat.le_refl _)).trans (fun k _ hk _=>heap_setCell_other _ _ _ _ (fun e=>hk e)) ?_);rw [←HS1.out];exact HSZ.out
end
section
open Go.RowKit
theorem yR {l:List ByteArray} {k:Nat} {s:ByteArray} (h:l[k]? = some s) (hs:s∈l.take k):dupG (l.take k) (l.drop k) k=some k:=by
 obtain ⟨hk,e⟩:=List.getElem?_eq_some_iff.1 h;rw [List.drop_eq_getElem_cons hk,e,dupG,if_pos hs]
theorem yS {l:List ByteArray} {k:Nat} {s:ByteArray} (h:l[k]? = some s) (hs:s ∉ l.take k):dupG (l.take k) (l.drop k) k=dupG (l.take (k+1)) (l.drop (k+1)) (k+1):=by
 obtain ⟨hk,e⟩:=List.getElem?_eq_some_iff.1 h;rw [List.drop_eq_getElem_cons hk,e,dupG,if_neg hs]
 congr 1
 rw [←e,List.take_append_getElem hk]
def dupR (l:List ByteArray):Nat×Int:=match dupG [] l 0 with | some i=>(9,(i:Int)) | none=>(0,-1)
theorem AA (v:Value) (l:List ByteArray) (w:World) (hv:cD w v l) (hl:l.length≤1000000) (hs:∀ s∈l,s.size≤140737488351232) :
 Calls Tryz.prog 216 #[v] w (jO w (dupR l)):=by
 obtain ⟨a1,c1,rfl,_,f1⟩:=hv;have F1:=hid f1;have HS:=hid hs;obtain ⟨n,hn⟩:∃ n,n=l.length:=⟨_,rfl⟩;rw [←hn] at hl ⊢;have HN:=hid hn;clear f1 hs hn;have hmm:=@run_makeMap Tryz.prog;go_enter Tryz.func216,Tryz.ntmps216
 go_wp2
 go_loopw [9] (fun i wr=>∃ k:Nat,k≤n∧i=.int .i64 k∧dupG [] l 0=dupG (l.take k) (l.drop k) k∧ji wr w.heap.size k (l.take k)∧Below w.heap.size w wr) (fun i _=>n-(intOf i).toNat)
 case atStart=>exact ⟨0,Nat.zero_le _,rfl,rfl,CL _,(Below.refl _ _).alloc (Nat.le_refl _) _⟩
 case round =>
  obtain ⟨k,hk,rfl,hd,hmap,hbel⟩:=hrel;have HD:=hid hd;have HM:=hid hmap;have HB:=hid hbel;clear hd hmap hbel;by_cases hlt:k<n
  ·obtain ⟨s, hs⟩ : ∃ s, l[k]? = some s := ⟨l[k]'(by have := HN.out; omega), List.getElem?_eq_getElem _⟩;obtain ⟨b1,o1,rfl,hb1,p0⟩:=F1.out k s hs;have q0:=(HB.out.cell (p:=⟨b1,o1+k,none⟩) hb1).trans p0;have HSZ:Hid (s.size≤140737488351232):=hid (HS.out s (List.mem_of_getElem? hs));have hsz:s.size≤maxLen:=by have:=HSZ.out;unfold maxLen;omega
   by_cases hin:s∈l.take k
   ·have HR:Hid (dupR l=(9,(k:Int))):=hid (show dupR l=_ by unfold dupR;rw [HD.out,yR hs hin]);clear p0 hs;go_wp2_with (at_lookup;refine vQ rfl _ _ rfl w.heap.size k (l.take k) rfl HM.out s rfl hsz true (by simpa using hin) ?_)
    go_ret;rw [HR.out];exact ⟨_,rfl,atIs.new _ 9 _ (by decide),HB.out.alloc HB.out.size _⟩
   ·have HD2:=hid (HD.out.trans (yS hs hin));have HTK:Hid (l.take k++[s]=l.take (k+1)):=hid (show _=_ by obtain ⟨hk2,e⟩:=List.getElem?_eq_some_iff.1 hs;rw [←e,List.take_append_getElem hk2]);clear p0 hs;go_wp2_with (first
     | (at_lookup;refine vQ rfl _ _ rfl w.heap.size k (l.take k) rfl HM.out s rfl hsz false (by simpa using hin) ?_)
     | (at_mapUpdate;refine Gm rfl _ _ _ rfl w.heap.size k (l.take k) rfl HM.out (by unfold maxLen;omega) s rfl rfl hsz ?_;intro w1 hm1 hg1))
    have HB1:Hid (Below w.heap.size w w1):=hid (HB.out.grown hg1 HB.out.size (fun g hg=>by cases hg;exact Nat.le_refl _));rw [HTK.out] at hm1;have HM1:=hid hm1;clear hm1 hg1;go_roundw
    case rel=>exact ⟨k+1,by omega,by go_num,HD2.out,HM1.out,HB1.out⟩
    case measure=>simp [intOf];omega
  ·have HR:Hid (dupR l=(0,-1)):=hid (show dupR l=_ by unfold dupR;rw [HD.out,List.drop_eq_nil_of_le (by have:=HN.out;omega)];rfl);go_wp2;go_ret;rw [HR.out];exact ⟨_,rfl,.inl ⟨rfl,rfl⟩,HB.out⟩
theorem Ct {K told k:Nat} {l:List Int} {n:Int} (h:l[k]? = some n) (hn:n<0∨(K:Int)≤n):ordG K told (l.drop k) k=(2,(k:Int)):=by
 obtain ⟨hk,e⟩:=List.getElem?_eq_some_iff.1 h;rw [List.drop_eq_getElem_cons hk,e,ordG,if_pos hn]
theorem Cp {K told k:Nat} {l:List Int} {n:Int} (h:l[k]? = some n) (hn:¬ (n<0∨(K:Int)≤n)) (ht:(told:Int)<n):ordG K told (l.drop k) k=(13,(k:Int)):=by
 obtain ⟨hk,e⟩:=List.getElem?_eq_some_iff.1 h;rw [List.drop_eq_getElem_cons hk,e,ordG,if_neg hn,if_pos ht]
theorem Cs {K told k:Nat} {l:List Int} {n:Int} (h:l[k]? = some n) (hn:¬ (n<0∨(K:Int)≤n)) (ht:n<(told:Int)):ordG K told (l.drop k) k=ordG K told (l.drop (k+1)) (k+1):=by
 obtain ⟨hk,e⟩:=List.getElem?_eq_some_iff.1 h;rw [List.drop_eq_getElem_cons hk,e,ordG,if_neg hn,if_neg (by omega),if_neg (by omega)]
theorem Cr {K told k:Nat} {l:List Int} {n:Int} (h:l[k]? = some n) (hn:¬ (n<0∨(K:Int)≤n)) (ht:n=(told:Int)):ordG K told (l.drop k) k=ordG K (told+1) (l.drop (k+1)) (k+1):=by
 obtain ⟨hk,e⟩:=List.getElem?_eq_some_iff.1 h;rw [List.drop_eq_getElem_cons hk,e,ordG,if_neg hn,if_neg (by omega),if_pos ht]
theorem Ay (v:Value) (l:List Int) (K:Nat) (w:World) (hv:fO w v l) (hl:l.length≤1000000) (hK:K≤1000000) :
 Calls Tryz.prog 217 #[v,.int .i64 (K:Int)] w (iu w (ordG K 0 l 0)):=by
 obtain ⟨a1,c1,rfl,_,f1⟩:=hv;have F1:=hid f1;obtain ⟨n,hn⟩:∃ n,n=l.length:=⟨_,rfl⟩;rw [←hn] at hl ⊢;have HN:=hid hn;clear f1 hn;go_enter Tryz.func217,Tryz.ntmps217
 go_wp2
 go_loopw [5,10] (fun t i wr=>∃ k told:Nat,k≤n∧told≤k∧i=.int .i64 k∧t=.int .i64 told∧ordG K 0 l 0=ordG K told (l.drop k) k∧Below w.heap.size w wr) (fun _ i _=>n-(intOf i).toNat)
 case atStart=>exact ⟨0,0,Nat.zero_le _,Nat.le_refl _,rfl,rfl,rfl,Below.refl _ _⟩
 case round =>
  obtain ⟨k,told,hk,htk,rfl,rfl,hd,hbel⟩:=hrel;have HD:=hid hd;have HB:=hid hbel;clear hd hbel;by_cases hlt:k<n
  ·obtain ⟨z, hz⟩ : ∃ z, l[k]? = some z := ⟨l[k]'(by have := HN.out; omega), List.getElem?_eq_getElem _⟩;obtain ⟨b1,o1,rfl,hb1,p0⟩:=F1.out k z hz;have q0:=(HB.out.cell (p:=⟨b1,o1+k,none⟩) hb1).trans p0;by_cases hr:z<0∨(K:Int)≤z
   ·have HR:=hid (HD.out.trans (Ct hz hr));clear p0 hz;by_cases h0:z<0
    ·go_wp2;go_ret;rw [HR.out];exact ⟨_,rfl,.inl (atIs.new _ 2 _ (by decide)),HB.out.alloc HB.out.size _⟩
    ·have h1:(K:Int)≤z:=by omega
     go_wp2;go_ret;rw [HR.out];exact ⟨_,rfl,.inl (atIs.new _ 2 _ (by decide)),HB.out.alloc HB.out.size _⟩
   ·have h0:¬ z<0:=by omega
    have h1:¬ (K:Int)≤z:=by omega
    by_cases hf:(told:Int)<z
    ·have HR:=hid (HD.out.trans (Cp hz hr hf));clear p0 hz hr;go_wp2;go_ret;rw [HR.out];exact ⟨_,rfl,.inl (atIs.new _ 13 _ (by decide)),HB.out.alloc HB.out.size _⟩
    ·by_cases he:z=(told:Int)
     ·have HD2:=hid (HD.out.trans (Cr hz hr he));clear p0 hz hr;subst he;go_wp2;go_roundw
      case rel=>exact ⟨k+1,told+1,by omega,by omega,by go_num,by go_num,HD2.out,HB.out⟩
      case measure=>simp [intOf];omega
     ·have HD2:=hid (HD.out.trans (Cs hz hr (by omega)));have hb:(z == (told:Int))=false:=by simpa using he
      clear p0 hz hr;go_wp2;go_roundw
      case rel=>exact ⟨k+1,told,by omega,by omega,by go_num,rfl,HD2.out,HB.out⟩
      case measure=>simp [intOf];omega
  ·have HE:Hid (ordG K 0 l 0=if told<K then (8,-1) else (0,-1)):=hid (show _=_ by rw [HD.out,List.drop_eq_nil_of_le (by have:=HN.out;omega)];rfl);by_cases ht:told<K
   ·have HR:Hid (ordG K 0 l 0=(8,-1)):=hid (show _=_ by rw [HE.out,if_pos ht]);go_wp2;go_ret;rw [HR.out];exact ⟨_,rfl,.inr ⟨by decide,rfl,rfl⟩,HB.out⟩
   ·have HR:Hid (ordG K 0 l 0=(0,-1)):=hid (show _=_ by rw [HE.out,if_neg ht]);go_wp2;go_ret;rw [HR.out];exact ⟨_,rfl,.inl (.inl ⟨rfl,rfl⟩),HB.out⟩
end
