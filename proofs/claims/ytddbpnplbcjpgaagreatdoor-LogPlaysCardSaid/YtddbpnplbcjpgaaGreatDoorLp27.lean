import Derived.Test.YtddbpnplbcjpgaaGreatDoorLp11
import Derived.Test.YtddbpnplbcjpgaaGreatDoorLp13
namespace Go.Proofs.YtddbpnplbcjpgaaGreatDoor
open Go.RowKit Go.Maps
def wrF (x:Wr):Nat:=wriE x.time x.rep x.kind x.key x.value x.n
theorem wrF_good {x:Wr} (h:wrF x=0):(x.kind=1∨x.kind=2∨x.kind=3∨x.kind=4)∧x.key.size≤40∧x.value.size≤300∧(x.kind=4→0≤x.n∧x.n≤1000):=by
 obtain ⟨h1,_,h3,h4,_,h6⟩:=wriE_good h
 refine ⟨by omega,h3,h4,fun e=>?_⟩
 rw [e] at h6
 simpa [fitsN] using h6
def AftIs (w:World) (R:Nat) (c:Cel) (v:Value) (e:Ending) (w':World):Prop :=
 ∃ ck v',e=.returned (cvV ⟨ck,c.has,c.text,c.sum,v'⟩)∧ownsS w' R v' c.list∧w.grownBy w' v.ownBlock∧(v'.ownBlock=none∨v'.ownBlock=v.ownBlock∨∃ g,v'.ownBlock=some g∧w.heap.size≤g)
theorem grown_some {a b:World} (h:a.grownBy b none) (o:Option Nat):a.grownBy b o:=⟨h.os,h.tape,h.output,h.size,fun i hi _=>h.block i hi (by simp)⟩
theorem after_any (ck:ByteArray) (c:Cel) (v:Value) (x:Wr) (w:World) (R:Nat) (ho:ownsS w R v c.list) (hr:wrF x=0) (hm:c.list.length≤1000000) (hR:R≤w.heap.size) :
   Calls Tryz.prog 108 #[cvV ⟨ck,c.has,c.text,c.sum,v⟩,wrV x] w (AftIs w R (stepC c x) v):=by
 obtain ⟨hk,h40,h300,h4⟩:=wrF_good hr
 obtain ⟨la,lc,rfl⟩:=ho.slice
 obtain ⟨T,Re,K,key,val,N⟩:=x
 simp only at hk h40 h300 h4
 rcases hk with rfl | rfl | rfl | rfl
 · refine (after_put ck c.text c.has c.sum la c.list.length lc T Re key val N w (by omega)).mono ?_
   rintro e w' ⟨rfl,hg⟩
   exact ⟨ck,_,rfl,ho.grown hg,grown_some hg _,.inr (.inl rfl)⟩
 · refine (after_drop ck c.text c.has c.sum la c.list.length lc T Re key val N w).mono ?_
   rintro e w' ⟨rfl,hg⟩
   exact ⟨⟨#[]⟩,.slice none 0 0,rfl,ownsS_nil _ _,grown_some hg _,.inl rfl⟩
 · refine (after_add ck c.text c.has c.sum la c.list.length lc T Re key val N w).mono ?_
   rintro e w' ⟨rfl,hg⟩
   refine ⟨ck,.slice la c.list.length lc,?_,ho.grown hg,grown_some hg _,.inr (.inl rfl)⟩
   have e1:stepC c ⟨T,Re,3,key,val,N⟩={ c with sum:=wrap64 (c.sum + N) }:=by simp [stepC];exact IntWalk.i64_left _
   rw [e1]
   rfl
 · obtain ⟨h0,h1⟩:=h4 rfl
   refine (after_ins ck c.text c.has c.sum la c.list.length lc c.list T Re key val N (min N.toNat c.list.length) w R (by omega) ho rfl hm h0 rfl hR).mono ?_
   rintro e w' ⟨g,cap,rfl,h2,h3,h5⟩
   refine ⟨ck,_,rfl,?_,h3,?_⟩
   · show ownsS w' R _ (insL c.list N val)
     exact h2
   · rcases h5 with h5 | h5
     · exact .inr (.inl (by rw [h5];rfl))
     · exact .inr (.inr ⟨g,rfl,h5⟩)
theorem StoIn.at {w:World} {R P M m:Nat} {D:DataW Value} {G:ByteArray→Cel} {L:ByteArray→Value} (h:StoIn w R P M m D G L) (k:ByteArray) :
   ∃ ck v,cvOf G L k=⟨ck,(G k).has,(G k).text,(G k).sum,v⟩∧ownsS w R v (G k).list∧∀ j,j≠k→live (G j)=true→(L j).ownBlock=none∨(L j).ownBlock≠v.ownBlock:=by
 cases hl:live (G k) with
 | true=>exact ⟨k,L k,cvOf_live hl,h.own k hl,fun j hne hj=>h.apart j k hj hl hne⟩
 | false =>
   refine ⟨⟨#[]⟩,.slice none 0 0,?_,?_,fun j _ _=>?_⟩
   · rw [cvOf_dead hl,h.sto.dead k hl];rfl
   · rw [h.sto.dead k hl];exact ownsS_nil _ _
   · cases (L j).ownBlock with
     | none=>exact .inl rfl
     | some g=>exact .inr (by simp [Value.ownBlock])
def StoB (w:World) (B R P m:Nat) (G:ByteArray→Cel):Prop:=∃ M D L,StoIn w R P M m D G L∧B≤P∧B≤M
theorem StoB.grown {w w':World} {B R P m:Nat} {G:ByteArray→Cel} (h:StoB w B R P m G) (hg:w.grownBy w' none):StoB w' B R P m G:=by obtain ⟨M,D,L,h1,h2⟩:=h;exact ⟨M,D,L,h1.grown hg,h2⟩
theorem StoB.mono {w:World} {B R P m n:Nat} {G:ByteArray→Cel} (h:StoB w B R P m G) (hn:m≤n):StoB w B R P n G:=by obtain ⟨M,D,L,h1,h2⟩:=h;exact ⟨M,D,L,h1.mono hn,h2⟩
theorem below_of_grown {B:Nat} {a w w':World} (h:Below B a w) {o:Option Nat} (hg:w.grownBy w' o) (hB:B≤w.heap.size) (ho:∀ g,o=some g→B≤g):Below B a w' :=
 ⟨hg.os.trans h.os,hg.tape.trans h.tape,hg.output.trans h.output,Nat.le_trans h.size hg.size,fun k hk=>(hg.block k (by omega) (fun e=>by have:=ho k e.symm;omega)).trans (h.block k hk)⟩
structure DoW (w W:World) (R P M m:Nat) (D:DataW Value) (G:ByteArray→Cel) (L:ByteArray→Value) (T Re K:Int) (key val:ByteArray) (N:Int):Prop where
 row:W.heap[w.heap.size]? = some (.cells #[.int .i64 T,.int .i64 Re,.int .i64 K,.string key,.string val,.int .i64 N] 26 (0,0))
 sto:StoIn W R P M m D G L
 gr:w.grownBy W none
def DoS (w:World) (P M:Nat) (T Re K:Int) (key val:ByteArray) (N:Int) (z:Value) (w':World):Prop :=
 w'.cell? ⟨P,0,none⟩=some (.map (some M))∧w'.cell? ⟨w.heap.size,0,none⟩=some (.int .i64 T)∧w'.cell? ⟨w.heap.size,1,none⟩=some (.int .i64 Re)∧w'.cell? ⟨w.heap.size,2,none⟩=some (.int .i64 K)∧w'.cell? ⟨w.heap.size,3,none⟩=some (.string key) ∧
 w'.cell? ⟨w.heap.size,4,none⟩=some (.string val)∧w'.cell? ⟨w.heap.size,5,none⟩=some (.int .i64 N)∧(Instr.lookup 166 (.map (some M)) (.string key) false).run Tryz.prog w'=.ok z w'
theorem DoW.s {w W:World} {R P M m:Nat} {D:DataW Value} {G:ByteArray→Cel} {L:ByteArray→Value} {T Re K:Int} {key val:ByteArray} {N:Int} (h:DoW w W R P M m D G L T Re K key val N) (hk:key.size≤maxLen):DoS w P M T Re K key val N (cvV (cvOf G L key)) W :=
 ⟨cell_of_row _ _ 0 _ _ _ h.sto.row,cell_of_row _ _ 0 _ _ _ h.row,cell_of_row _ _ 1 _ _ _ h.row,cell_of_row _ _ 2 _ _ _ h.row,cell_of_row _ _ 3 _ _ _ h.row,cell_of_row _ _ 4 _ _ _ h.row,cell_of_row _ _ 5 _ _ _ h.row,h.sto.look key hk⟩
theorem DoW.grown {w W W':World} {R P M m:Nat} {D:DataW Value} {G:ByteArray→Cel} {L:ByteArray→Value} {T Re K:Int} {key val:ByteArray} {N:Int} (h:DoW w W R P M m D G L T Re K key val N) (hg:W.grownBy W' none):DoW w W' R P M m D G L T Re K key val N :=
 ⟨(hg.block _ (Array.getElem?_eq_some_iff.1 h.row).1 (by simp)).trans h.row,h.sto.grown hg,grown_then h.gr hg⟩
structure DoB (w W:World) (R P M m:Nat) (D:DataW Value) (G:ByteArray→Cel) (L:ByteArray→Value) (T Re K:Int) (key val:ByteArray) (N:Int) (o:Option Nat):Prop where
 row:W.heap[w.heap.size]? = some (.cells #[.int .i64 T,.int .i64 Re,.int .i64 K,.string key,.string val,.int .i64 N] 26 (0,0))
 but:StoBut W R P M m D G L key
 gr:w.grownBy W o
 lt:∀ j,live (G j)=true→∀ g,(L j).ownBlock=some g→g < w.heap.size
 rw0:R≤w.heap.size
theorem DoB.s {w W:World} {R P M m:Nat} {D:DataW Value} {G:ByteArray→Cel} {L:ByteArray→Value} {T Re K:Int} {key val:ByteArray} {N:Int} {o:Option Nat} (h:DoB w W R P M m D G L T Re K key val N o) (hk:key.size≤maxLen):DoS w P M T Re K key val N (cvV (cvOf G L key)) W:=by
 refine ⟨cell_of_row _ _ 0 _ _ _ h.but.row,cell_of_row _ _ 0 _ _ _ h.row,cell_of_row _ _ 1 _ _ _ h.row,cell_of_row _ _ 2 _ _ _ h.row,cell_of_row _ _ 3 _ _ _ h.row,cell_of_row _ _ 4 _ _ _ h.row,cell_of_row _ _ 5 _ _ _ h.row,?_⟩
 obtain ⟨v,ps,h1,h2⟩:=h.but.map.lookup keyedS2 Tryz.underlying166 (zeroC W) (cellR_mk cv0) (keyS2 hk)
 rw [h.but.sto.at'] at h2
 obtain ⟨c,rfl,hc⟩:=cellR_inv h2
 rw [h1]
 simp only [Prod.mk.injEq] at hc
 rw [cvV_inj (DataW.held.inj hc.1)]
theorem DoB.on {w W:World} {R P M m:Nat} {D:DataW Value} {G:ByteArray→Cel} {L:ByteArray→Value} {T Re K:Int} {key val:ByteArray} {N:Int} {o o2:Option Nat} {W':World} (h:DoB w W R P M m D G L T Re K key val N o) (hg:W.grownBy W' o2) (ho:∀ g,o2=some g→w.heap.size < g):DoB w W' R P M m D G L T Re K key val N o:=by
 have hw:=(Array.getElem?_eq_some_iff.1 h.row).1
 have hR:=h.rw0
 have e:∀ B,B≤w.heap.size→some B≠o2:=fun B hB e=>by have:=ho B e.symm;omega
 exact ⟨(hg.block _ hw (e _ (Nat.le_refl _))).trans h.row,
   { h.but with
     row:=(hg.block P (by have:=h.but.pr;omega) (e _ (by have:=h.but.pr;omega))).trans h.but.row
     map:=h.but.map.kept hg (e _ (by have:=h.but.mr;omega))
     own:=fun j hj hl=>World.ownsRow.kept (h.but.own j hj hl) hg (by
       cases hv:(L j).ownBlock with
       | none=>exact .inl rfl
       | some g=>exact .inr (e g (Nat.le_of_lt (h.lt j hl g hv))))
     rw':=Nat.le_trans h.but.rw' hg.size },
   ⟨hg.os.trans h.gr.os,hg.tape.trans h.gr.tape,hg.output.trans h.gr.output,Nat.le_trans h.gr.size hg.size,fun k hk hne=>(hg.block k (by omega) (e k (Nat.le_of_lt hk))).trans (h.gr.block k hk hne)⟩,h.lt,h.rw0⟩
theorem DoW.after {w W:World} {R P M m:Nat} {D:DataW Value} {G:ByteArray→Cel} {L:ByteArray→Value} {T Re K:Int} {key val:ByteArray} {N:Int} {W':World} {v:Value} (h:DoW w W R P M m D G L T Re K key val N) (h0:StoIn w R P M m D G L) (hg:W.grownBy W' v.ownBlock) (hv:∀ g,v.ownBlock=some g→R≤g∧g < w.heap.size) (hap:∀ j,j≠key→live (G j)=true→(L j).ownBlock=none∨(L j).ownBlock≠v.ownBlock):DoB w W' R P M m D G L T Re K key val N v.ownBlock :=
 ⟨(hg.block _ (Array.getElem?_eq_some_iff.1 h.row).1 (fun e=>by have:=hv _ e.symm;omega)).trans h.row,h.sto.but key hg (fun g e=>(hv g e).1) hap,grown_then h.gr hg,fun j hl g hj=>((h0.own j hl).lt g hj).2,h0.rw'⟩
structure DoC (w W:World) (R P M m:Nat) (D:DataW Value) (G:ByteArray→Cel) (L:ByteArray→Value) (T Re K:Int) (key val:ByteArray) (N:Int) (o:Option Nat) (C:Nat) (ck:ByteArray) (c:Cel) (v:Value):Prop where
 b:DoB w W R P M m D G L T Re K key val N o
 rowC:W.heap[C]? = some (.cells #[.string ck,.bool c.has,.string c.text,.int .i64 c.sum,v] 105 (0,0))
 own:ownsS W R v c.list
 ap:∀ j,j≠key→live (G j)=true→(L j).ownBlock=none∨(L j).ownBlock≠v.ownBlock
 hC:w.heap.size < C∧C < W.heap.size
 vC:v.ownBlock≠some C
theorem do_ap {w W0:World} {G:ByteArray→Cel} {L:ByteArray→Value} {key:ByteArray} {v v2:Value} (hl:v2.ownBlock=none∨v2.ownBlock=v.ownBlock∨∃ g,v2.ownBlock=some g∧W0.heap.size≤g) (hap:∀ j,j≠key→live (G j)=true→(L j).ownBlock=none∨(L j).ownBlock≠v.ownBlock)
   (hlt:∀ j,live (G j)=true→∀ g,(L j).ownBlock=some g→g < w.heap.size) (hs:w.heap.size≤W0.heap.size):∀ j,j≠key→live (G j)=true→(L j).ownBlock=none∨(L j).ownBlock≠v2.ownBlock:=fun j hj hlj=>by
 cases e:(L j).ownBlock with
 | none=>exact .inl rfl
 | some b =>
   right
   rcases hl with h | h | ⟨g,h,hg⟩
   · rw [h];simp
   · rw [h,←e]
     rcases hap j hj hlj with h2 | h2
     · rw [e] at h2;cases h2
     · exact h2
   · rw [h];intro e2;have:=hlt j hlj b e;have e3:b=g:=Option.some.inj e2;omega
theorem doC_a {w W:World} {R P M m:Nat} {D:DataW Value} {G:ByteArray→Cel} {L:ByteArray→Value} {T Re K:Int} {key val:ByteArray} {N:Int} {v:Value} {c2:Cel} {ck2:ByteArray} {v2:Value} {W0:World} (h:DoB w W R P M m D G L T Re K key val N v.ownBlock) (ho:ownsS W R v2 c2.list) (hl:v2.ownBlock=none∨v2.ownBlock=v.ownBlock∨∃ g,v2.ownBlock=some g∧W0.heap.size≤g) (h0:DoW w W0 R P M m D G L T Re K key val N)
   (hap:∀ j,j≠key→live (G j)=true→(L j).ownBlock=none∨(L j).ownBlock≠v.ownBlock) (_:∀ g,v.ownBlock=some g→R≤g∧g < w.heap.size) (_:W0.grownBy W v.ownBlock) (hlt:∀ j,live (G j)=true→∀ g,(L j).ownBlock=some g→g < w.heap.size) :
   DoC w (W.alloc (.cells #[.string ck2,.bool c2.has,.string c2.text,.int .i64 c2.sum,v2] 105)) R P M m D G L T Re K key val N v.ownBlock W.heap.size ck2 c2 v2 :=
 ⟨h.on (grown_alloc (grown_refl _ none) _) (fun g e=>by cases e),(MapKept.heap_alloc W _).1,ho.alloc _,do_ap hl hap hlt h0.gr.size,⟨(Array.getElem?_eq_some_iff.1 h.row).1,by simp⟩,fun e=>by have:=(ho.lt _ e).2;omega⟩
theorem doC_z {w w1 W:World} {v:Value} {o:Obj} {R:Nat} (hg:(w1.alloc o).drew.grownBy W v.ownBlock) (ha:(w1.alloc o).drew.heap[w1.heap.size]? = some o) (hv:∀ g,v.ownBlock=some g→R≤g∧g < w.heap.size) (hs:Hid (w.heap.size≤w1.heap.size)):Hid (W.heap[w1.heap.size]? = some o) :=
 Lib.hid ((hg.block w1.heap.size (by simp) (fun e=>by have:=(hv _ e.symm).2;have:=hs.out;omega)).trans ha)
theorem doC_b {w W:World} {R P M m:Nat} {D:DataW Value} {G:ByteArray→Cel} {L:ByteArray→Value} {T Re K:Int} {key val:ByteArray} {N:Int} {v:Value} {c2:Cel} {ck2:ByteArray} {v2:Value} {w1:World} {o:Obj} (h:DoB w W R P M m D G L T Re K key val N v.ownBlock) (ho:ownsS W R v2 c2.list) (hl:v2.ownBlock=none∨v2.ownBlock=v.ownBlock∨∃ g,v2.ownBlock=some g∧(w1.alloc o).drew.heap.size≤g)
   (hz:W.heap[w1.heap.size]? = some (.cells #[.string ⟨#[]⟩,.bool false,.string ⟨#[]⟩,.int .i64 0,.slice none 0 0] 105 (0,0)))
   (hap:∀ j,j≠key→live (G j)=true→(L j).ownBlock=none∨(L j).ownBlock≠v.ownBlock) (hv:∀ g,v.ownBlock=some g→R≤g∧g < w.heap.size) (_:(w1.alloc o).drew.grownBy W v.ownBlock) (hlt:∀ j,live (G j)=true→∀ g,(L j).ownBlock=some g→g < w.heap.size) (h1:DoW w w1 R P M m D G L T Re K key val N) :
   DoC w (((((W.setCell ⟨w1.heap.size,0,none⟩ (.string ck2)).setCell ⟨w1.heap.size,1,none⟩ (.bool c2.has)).setCell ⟨w1.heap.size,2,none⟩ (.string c2.text)).setCell ⟨w1.heap.size,3,none⟩ (.int .i64 c2.sum)).setCell ⟨w1.heap.size,4,none⟩ v2) R P M m D G L T Re K key val N v.ownBlock w1.heap.size ck2 c2 v2:=by
 have hw1:w.heap.size < w1.heap.size:=(Array.getElem?_eq_some_iff.1 h1.row).1
 have hsz:(w1.alloc o).drew.heap.size=w1.heap.size + 1:=by simp
 have hvC:v2.ownBlock≠some w1.heap.size:=fun e=>by
   rcases hl with h | h | ⟨g,h,hg⟩
   · rw [h] at e;cases e
   · rw [h] at e;have:=(hv _ e).2;omega
   · rw [h] at e;have e2:g=w1.heap.size:=Option.some.inj e;omega
 refine ⟨h.on (o2:=some w1.heap.size) (grown_setCells [.string ck2,.bool c2.has,.string c2.text,.int .i64 c2.sum,v2] 0 W (grown_refl _ _)) (fun g e=>by cases e;exact hw1),row_set5 hz _ _ _ _ _,?_,do_ap hl hap hlt (by rw [hsz];omega),⟨hw1,by have:=(Array.getElem?_eq_some_iff.1 hz).1;simpa using this⟩,hvC⟩
 exact ((((ho.setC _ hvC).setC _ hvC).setC _ hvC).setC _ hvC).setC _ hvC
theorem live_len (c:Cel):(c.has || c.sum != 0 || decide (0 < c.list.length))=live c:=by
 unfold live
 cases c.list <;> simp
theorem stepC_len (c:Cel) (x:Wr):(stepC c x).list.length≤c.list.length + 1:=by
 unfold stepC
 split
 · exact Nat.le_succ _
 · split
   · exact Nat.zero_le _
   · split
     · exact Nat.le_succ _
     · split
       · have:=(insL_perm c.list x.n x.value).length_eq
         show (insL c.list x.n x.value).length≤_
         rw [this];simp
       · exact Nat.le_succ _
theorem stepC_text {c:Cel} {x:Wr} (h:c.text.size≤140737488351232∧∀ s∈c.list,s.size≤140737488351232) (hv:x.value.size≤140737488351232):(stepC c x).text.size≤140737488351232∧∀ s∈(stepC c x).list,s.size≤140737488351232:=by
 unfold stepC
 split
 · exact ⟨hv,h.2⟩
 · split
   · exact ⟨Nat.zero_le _,fun s hs=>by cases hs⟩
   · split
     · exact h
     · split
       · refine ⟨h.1,fun s hs=>?_⟩
         rcases List.mem_cons.1 ((insL_perm c.list x.n x.value).mem_iff.1 hs) with rfl | hs
         · exact hv
         · exact h.2 s hs
       · exact h
theorem DoC.grown {w W W':World} {R P M m:Nat} {D:DataW Value} {G:ByteArray→Cel} {L:ByteArray→Value} {T Re K:Int} {key val:ByteArray} {N:Int} {o:Option Nat} {C:Nat} {ck:ByteArray} {c:Cel} {v:Value} (h:DoC w W R P M m D G L T Re K key val N o C ck c v) (hg:W.grownBy W' none):DoC w W' R P M m D G L T Re K key val N o C ck c v :=
 ⟨h.b.on hg (fun g e=>by cases e),(hg.block _ h.hC.2 (by simp)).trans h.rowC,h.own.grown hg,h.ap,⟨h.hC.1,Nat.lt_of_lt_of_le h.hC.2 hg.size⟩,h.vC⟩
theorem DoC.key {w W:World} {R P M m:Nat} {D:DataW Value} {G:ByteArray→Cel} {L:ByteArray→Value} {T Re K:Int} {key val:ByteArray} {N:Int} {o:Option Nat} {C:Nat} {ck:ByteArray} {c:Cel} {v:Value} {k:ByteArray} (h:DoC w W R P M m D G L T Re K key val N o C ck c v):DoC w (W.setCell ⟨C,0,none⟩ (.string k)) R P M m D G L T Re K key val N o C k c v :=
 ⟨h.b.on (o2:=some C) (grown_setCells [.string k] 0 W (grown_refl _ _)) (fun g e=>by cases e;exact h.hC.1),heap_setCell_same _ _ 0 _ _ _ h.rowC,h.own.setC _ h.vC,h.ap,⟨h.hC.1,by simpa using h.hC.2⟩,h.vC⟩
def KeepW (w w':World):Prop:=∀ (b:Nat) (cs:Array Value),w.heap[b]? = some (.cells cs 26 (0,0))→w'.heap[b]? = some (.cells cs 26 (0,0))
theorem KeepW.trans {a b c:World} (h:KeepW a b) (k:KeepW b c):KeepW a c:=fun i cs hi=>k i cs (h i cs hi)
theorem do_keep {w W W':World} {R P M m:Nat} {D:DataW Value} {G:ByteArray→Cel} {L:ByteArray→Value} {T Re K:Int} {key val:ByteArray} {N:Int} {v:Value} {l:List ByteArray} (h:DoB w W R P M m D G L T Re K key val N v.ownBlock) (ho:ownsS w R v l) (h0:StoIn w R P M m D G L) (hg:W.grownBy W' (some M)):KeepW w W':=by
 intro b cs hb
 have hlt:=(Array.getElem?_eq_some_iff.1 hb).1
 have e1:some b≠v.ownBlock:=fun e=>by
   rcases ho.2 with ⟨rfl,_⟩ | ⟨g,cap,cur,rfl,_,hh,_⟩
   · cases e
   · have e2:b=g:=Option.some.inj e
     subst e2
     rw [hh] at hb
     simp only [Option.some.injEq,Obj.cells.injEq] at hb
     exact absurd hb.2.1 (by decide)
 have e2:some b≠some M:=fun e=>by
   obtain rfl:=Option.some.inj e
   obtain ⟨es,clock,hm,_⟩:=h0.map
   rw [hm] at hb
   simp at hb
 exact (hg.block b (Nat.lt_of_lt_of_le hlt h.gr.size) e2).trans ((h.gr.block b hlt e1).trans hb)
theorem do_below {w W W':World} {B R P M m:Nat} {D:DataW Value} {G:ByteArray→Cel} {L:ByteArray→Value} {T Re K:Int} {key val:ByteArray} {N:Int} {v:Value} (h:DoB w W R P M m D G L T Re K key val N v.ownBlock) (hv:∀ g,v.ownBlock=some g→R≤g∧g < w.heap.size) (hP:B≤P) (hM:B≤M) (hpr:P < R) (hg:W.grownBy W' (some M)):Below B w W':=by
 have hR:=h.rw0
 exact below_of_grown (below_of_grown (Below.refl B w) h.gr (by omega) (fun g e=>by have:=(hv g e).1;omega)) hg (by have:=h.gr.size;omega) (fun g e=>by cases e;exact hM)
set_option maxRecDepth 100000 in
set_option maxHeartbeats 8000000 in
theorem do_good (w:World) (B R P M m:Nat) (D:DataW Value) (G:ByteArray→Cel) (L:ByteArray→Value) (T Re K:Int) (key val:ByteArray) (N:Int) (h:StoIn w R P M m D G L) (hr:wrF ⟨T,Re,K,key,val,N⟩=0) (hm:m≤100000) (hBP:B≤P) (hBM:B≤M) :
   Calls Tryz.prog 82 #[.pointer (some ⟨P,0,none⟩),.agg #[.int .i64 T,.int .i64 Re,.int .i64 K,.string key,.string val,.int .i64 N]] w fun r w'=>r=.returned .nilIface∧StoB w' B R P (m + 1) (stepG G ⟨T,Re,K,key,val,N⟩)∧Below B w w'∧KeepW w w':=by
 obtain ⟨hkind,hk,hv,_⟩:=wrF_good hr
 simp only at hkind hk hv
 have HE:Hid (errV (wriE T Re K key val N)=.nilIface):=Lib.hid (by have e:wriE T Re K key val N=0:=hr;rw [e];rfl)
 obtain ⟨ck,v,hcv,hown,hap⟩:=h.at key
 have HW:=Lib.hid h
 have HR:=Lib.hid hr
 have HO:=Lib.hid hown
 have HAP:=Lib.hid hap
 have HCV:=Lib.hid hcv
 have HM:=Lib.hid hm
 have HLE:Hid ((G key).list.length≤1000000):=Lib.hid (by have:=h.len key;omega)
 have HBP:=Lib.hid hBP
 have HBM:=Lib.hid hBM
 have HLN:Hid ((stepC (G key) ⟨T,Re,K,key,val,N⟩).list.length≤1000001):=Lib.hid (by have:=h.len key;have:=stepC_len (G key) ⟨T,Re,K,key,val,N⟩;omega)
 have hPw:=h.pw
 have hk2:key.size≤maxLen:=by unfold maxLen;omega
 have hk3:key.size≤140737488351232:=by omega
 have hv3:val.size≤140737488351232:=by omega
 clear h hr hown hap hcv hm hBP hBM hkind
 obtain ⟨z,hz⟩:∃ z,z=cvV (cvOf G L key):=⟨_,rfl⟩
 have HZ:=Lib.hid hz
 clear hz
 obtain ⟨c2,hc2⟩:∃ c2,c2=stepC (G key) ⟨T,Re,K,key,val,N⟩:=⟨_,rfl⟩
 have HVO:Hid (∀ g,v.ownBlock=some g→R≤g∧g < w.heap.size):=Lib.hid (fun g e=>HO.out.lt g e)
 have HLT:Hid (∀ j,live (G j)=true→∀ g,(L j).ownBlock=some g→g < w.heap.size):=Lib.hid (fun j hl g e=>((HW.out.own j hl).lt g e).2)
 have HAF:Hid (∀ W,DoW w W R P M m D G L T Re K key val N→Calls Tryz.prog 108 #[z,.agg #[.int .i64 T,.int .i64 Re,.int .i64 K,.string key,.string val,.int .i64 N]] W (AftIs W R c2 v)):=Lib.hid (fun W hW=>by
   rw [HZ.out,HCV.out,hc2]
   exact after_any ck (G key) v ⟨T,Re,K,key,val,N⟩ W R (HO.out.grown hW.gr) HR.out HLE.out hW.sto.rw')
 rw [←hc2] at HLN
 have HC2:=Lib.hid hc2
 clear hc2
 go_enter Tryz.func82,Tryz.ntmps82
 go_wp2_with (go_at_call 27;refine (wright_any T Re K key val N _ hk3 hv3).mono ?_;rintro r w1 ⟨rfl,hb1⟩;have hrow:w1.heap[w.heap.size]? = some (.cells #[.int .i64 T,.int .i64 Re,.int .i64 K,.string key,.string val,.int .i64 N] 26 (0,0)):=(hb1.block _ (by simp)).trans (MapKept.heap_alloc w _).1;have hg1:w.grownBy w1 none:=grown_then (grown_alloc (grown_refl w none) _) (grown_of_below hb1);have HB:Hid (DoW w w1 R P M m D G L T Re K key val N):=Lib.hid ⟨hrow,HW.out.grown hg1,hg1⟩;clear hb1 hrow hg1;rw [HE.out])
 have HD:Hid (DoW w w1.drew R P M m D G L T Re K key val N):=Lib.hid (HB.out.grown (grown_drew (grown_refl _ none)))
 have k0:=HD.out.s hk2
 have HA:Hid ((w1.alloc (.cells #[.string ⟨#[]⟩,.bool false,.string ⟨#[]⟩,.int .i64 0,.slice none 0 0] 105)).drew.heap[w1.heap.size]? = some (.cells #[.string ⟨#[]⟩,.bool false,.string ⟨#[]⟩,.int .i64 0,.slice none 0 0] 105)):=Lib.hid (MapKept.heap_alloc w1 _).1
 have HDA:Hid (DoW w (w1.alloc (.cells #[.string ⟨#[]⟩,.bool false,.string ⟨#[]⟩,.int .i64 0,.slice none 0 0] 105)).drew R P M m D G L T Re K key val N):=Lib.hid (HB.out.grown (grown_drew (grown_alloc (grown_refl _ none) _)))
 have k1:=HDA.out.s hk2
 rw [←HZ.out] at k0 k1
 unfold DoS at k0 k1
 have hpos:(wrV ⟨T,Re,K,key,val,N⟩:Value)=.agg #[.int .i64 T,.int .i64 Re,.int .i64 K,.string key,.string val,.int .i64 N]:=rfl
 -- REGION
 refine wp_region_held_drew (S:=fun w'=>w'.cell? ⟨P,0,none⟩=some (.map (some M))∧w'.cell? ⟨w.heap.size,0,none⟩=some (.int .i64 T)∧w'.cell? ⟨w.heap.size,1,none⟩=some (.int .i64 Re)∧w'.cell? ⟨w.heap.size,2,none⟩=some (.int .i64 K)∧w'.cell? ⟨w.heap.size,3,none⟩=some (.string key) ∧
   w'.cell? ⟨w.heap.size,4,none⟩=some (.string val)∧w'.cell? ⟨w.heap.size,5,none⟩=some (.int .i64 N)∧(Instr.lookup 166 (.map (some M)) (.string key) false).run Tryz.prog w'=.ok z w') (by kernel_rfl) k0 (fun hSS=>?_)
 clear hSS
 try simp only [Act.put,List.getElem_toArray,List.getElem_cons_zero,List.setIfInBounds_toArray,List.set_cons_zero,List.set_cons_succ]
 refine wpAnyH_take (i:=0) (v:=?v1) rfl (by kernel_rfl) (by kernel_rfl) (by kernel_rfl) (fun _ _ _ h=>h) (Or.inl ⟨by rfl,?h1⟩) (by assumption) ?r1
 case h1=>(intro W hSw;(try dsimp only at hSw);go_simp;all_goals (with_reducible rfl))
 try simp only [Act.put,List.getElem_toArray,List.getElem_cons_zero,List.setIfInBounds_toArray,List.set_cons_zero,List.set_cons_succ]
 refine wpAnyH_take (i:=1) (v:=?v2) rfl (by kernel_rfl) (by kernel_rfl) (by kernel_rfl) (fun _ _ _ h=>h) (Or.inl ⟨by rfl,?h2⟩) (by assumption) ?r2
 case h2=>(intro W hSw;(try dsimp only at hSw);go_simp;all_goals (with_reducible rfl))
 try simp only [Act.put,List.getElem_toArray,List.getElem_cons_zero,List.getElem_cons_succ,List.setIfInBounds_toArray,List.set_cons_zero,List.set_cons_succ]
 refine wpAnyH_take (i:=2) (v:=?v3) rfl (by kernel_rfl) (by kernel_rfl) (by kernel_rfl) (fun _ _ _ h=>h) (Or.inl ⟨by rfl,?h3⟩) (by assumption) ?r3
 case h3=>(intro W hSw;(try dsimp only at hSw);go_simp;all_goals (with_reducible rfl))
 try simp only [Act.put,List.getElem_toArray,List.getElem_cons_zero,List.getElem_cons_succ,List.setIfInBounds_toArray,List.set_cons_zero,List.set_cons_succ]
 refine wpAnyH_take (i:=3) (v:=?v4) rfl (by kernel_rfl) (by kernel_rfl) (by kernel_rfl) (fun _ _ _ h=>h) (Or.inl ⟨by rfl,?h4⟩) (by assumption) ?r4
 case h4=>(intro W hSw;(try dsimp only at hSw);go_simp;all_goals (with_reducible rfl))
 try simp only [Act.put,List.getElem_toArray,List.getElem_cons_zero,List.getElem_cons_succ,List.setIfInBounds_toArray,List.set_cons_zero,List.set_cons_succ]
 refine wpAnyH_take (i:=4) (v:=?v5) rfl (by kernel_rfl) (by kernel_rfl) (by kernel_rfl) (fun _ _ _ h=>h) (Or.inl ⟨by rfl,?h5⟩) (by assumption) ?r5
 case h5=>(intro W hSw;(try dsimp only at hSw);go_simp;all_goals (with_reducible rfl))
 try simp only [Act.put,List.getElem_toArray,List.getElem_cons_zero,List.getElem_cons_succ,List.setIfInBounds_toArray,List.set_cons_zero,List.set_cons_succ]
 refine wpAnyH_take (i:=5) (v:=?v6) rfl (by kernel_rfl) (by kernel_rfl) (by kernel_rfl) (fun _ _ _ h=>h) (Or.inl ⟨by rfl,?h6⟩) (by assumption) ?r6
 case h6=>(intro W hSw;(try dsimp only at hSw);go_simp;all_goals (with_reducible rfl))
 try simp only [Act.put,List.getElem_toArray,List.getElem_cons_zero,List.getElem_cons_succ,List.setIfInBounds_toArray,List.set_cons_zero,List.set_cons_succ]
 refine wpAnyH_take (i:=6) (v:=?v7) rfl (by kernel_rfl) (by kernel_rfl) (by kernel_rfl) (fun _ _ _ h=>h) (Or.inl ⟨by rfl,?h7⟩) (by assumption) ?r7
 case h7=>(intro W hSw;(try dsimp only at hSw);go_simp;all_goals (with_reducible rfl))
 try simp only [Act.put,List.getElem_toArray,List.getElem_cons_zero,List.getElem_cons_succ,List.setIfInBounds_toArray,List.set_cons_zero,List.set_cons_succ]
 refine wpAnyH_take (i:=7) (v:=?v8) rfl (by kernel_rfl) (by kernel_rfl) (by kernel_rfl) (fun _ _ _ h=>h) (Or.inl ⟨by rfl,?h8⟩) (by assumption) ?r8
 case h8=>(intro W hSw;(try dsimp only at hSw);go_simp;all_goals (with_reducible rfl))
 try simp only [Act.put,List.getElem_toArray,List.getElem_cons_zero,List.getElem_cons_succ,List.setIfInBounds_toArray,List.set_cons_zero,List.set_cons_succ]
 refine wpAnyH_ready (rs:=[8,9]) (by kernel_rfl) (by simp) ?_
 refine AllReadyH.cons rfl (fun KK hKK=>?_) (AllReadyH.cons rfl (fun KK hKK=>?_) (AllReadyH.nil))
 · go_simp
   refine (HAF.out _ HD.out).mono ?_
   rintro r w2 ⟨ck2,v2,hr2,ho2,hg2,hl2⟩
   obtain ⟨a2,cc2,rfl⟩:=ho2.slice
   obtain rfl:r=.returned (.agg #[.string ck2,.bool c2.has,.string c2.text,.int .i64 c2.sum,.slice a2 c2.list.length cc2]):=hr2
   have HB2:Hid (DoB w w2 R P M m D G L T Re K key val N v.ownBlock):=Lib.hid (HD.out.after HW.out hg2 HVO.out HAP.out)
   have k2:=HB2.out.s hk2
   rw [←HZ.out] at k2
   unfold DoS at k2
   have HB3:Hid (DoB w (w2.alloc (.cells #[.string ⟨#[]⟩,.bool false,.string ⟨#[]⟩,.int .i64 0,.slice none 0 0] 105)) R P M m D G L T Re K key val N v.ownBlock):=Lib.hid (HB2.out.on (grown_alloc (grown_refl _ none) _) (fun g e=>by cases e))
   have k3:=HB3.out.s hk2
   rw [←HZ.out] at k3
   unfold DoS at k3
   have HC:Hid (DoC w (w2.alloc (.cells #[.string ck2,.bool c2.has,.string c2.text,.int .i64 c2.sum,.slice a2 c2.list.length cc2] 105)) R P M m D G L T Re K key val N v.ownBlock w2.heap.size ck2 c2 (.slice a2 c2.list.length cc2)):=Lib.hid (doC_a HB2.out ho2 hl2 HD.out HAP.out HVO.out hg2 HLT.out)
   have k4:=HC.out.b.s hk2
   rw [←HZ.out] at k4
   unfold DoS at k4
   clear ho2 hg2 hl2
   refine hKK.out _ _ k2 (fun hSS=>?_)
   clear hKK hSS
   try simp only [Act.put,List.getElem_toArray,List.getElem_cons_zero,List.getElem_cons_succ,List.setIfInBounds_toArray,List.set_cons_zero,List.set_cons_succ]
   refine wpAnyH_ready (rs:=[9]) (by kernel_rfl) (by simp) ?_
   refine AllReadyH.cons rfl (fun KK hKK=>?_) (AllReadyH.nil)
   go_simp
   refine hKK.out _ _ k3 (fun hSS=>?_)
   clear hKK hSS
   try simp only [Act.put,List.getElem_toArray,List.getElem_cons_zero,List.getElem_cons_succ,List.setIfInBounds_toArray,List.set_cons_zero,List.set_cons_succ]
   refine wpAnyH_ready (rs:=[10]) (by kernel_rfl) (by simp) ?_
   refine AllReadyH.cons rfl (fun KK hKK=>?_) (AllReadyH.nil)
   go_simp
   refine hKK.out _ _ k4 (fun hSS=>?_)
   clear hKK hSS
   try simp only [Act.put,List.getElem_toArray,List.getElem_cons_zero,List.getElem_cons_succ,List.setIfInBounds_toArray,List.set_cons_zero,List.set_cons_succ]
   refine wpAnyH_done (by kernel_rfl) ?_ _
   generalize (w2.alloc (.cells #[.string ck2,.bool c2.has,.string c2.text,.int .i64 c2.sum,.slice a2 c2.list.length cc2] 105))=U at HC ⊢
   generalize w2.heap.size=C at HC ⊢
   clear k0 k1 k2 k3 k4 HB2 HB3 HD HDA HA
   obtain ⟨p0,p1,p2,p3,p4,f0,f1,f2,f3,f4⟩:=row5 HC.out.rowC
   have hlen:c2.list.length≤9223372036854775807:=by have:=HLN.out;omega
   cases hlv:live c2 with
   | false =>
     have hb:(c2.has || c2.sum != 0 || decide (0 < c2.list.length))=false:=by rw [live_len];exact hlv
     have HLV:=Lib.hid hlv
     clear hlv
     go_wp2_with (go_at_call 109;refine (something_any ck2 c2.text c2.has c2.sum a2 c2.list.length cc2 _ hlen).mono ?_;rintro r w3 ⟨rfl,hb3⟩;have HC3:Hid (DoC w w3 R P M m D G L T Re K key val N v.ownBlock C ck2 c2 (.slice a2 c2.list.length cc2)):=Lib.hid (HC.out.grown (grown_of_below hb3));have s0:w3.cell? ⟨P,0,none⟩=some (.map (some M)):=cell_of_row _ _ 0 _ _ _ HC3.out.b.but.row;have s3:w3.cell? ⟨w.heap.size,3,none⟩=some (.string key):=cell_of_row _ _ 3 _ _ _ HC3.out.b.row;clear hb3 p0 p1 p2 p3 p4 f0 f1 f2 f3 f4;rw [hb])
     go_still_tail 6,(by kernel_rfl)
     change wpList _ _ _ _ _ w3.drew
     have HC4:Hid (DoC w w3.drew R P M m D G L T Re K key val N v.ownBlock C ck2 c2 (.slice a2 c2.list.length cc2)):=Lib.hid (HC3.out.grown (grown_drew (grown_refl _ none)))
     generalize w3.drew=w4 at HC4 ⊢
     clear HC3 s0 s3
     go_wp2_with (at_delete;refine wpList_delete_own _ rfl _ _ 166 9 rfl 105 keyedS2 Tryz.underlying166 cellR M m D rfl HC4.out.b.but.map _ (keyL key) rfl (keyS2 hk2) ?_;intro w5 hown5 hturn5)
     go_ret
     refine ⟨rfl,⟨M,D.del (keyL key),L,?_,HBP.out,HBM.out⟩,?_,?_⟩
     · have e : stepG G ⟨T, Re, K, key, val, N⟩ = upd G key cel0 := by
         show upd G key (stepC (G key) ⟨T,Re,K,key,val,N⟩)=_
         rw [←HC2.out,Neat.dead (by rw [HC2.out];exact (HW.out.neat key).step _) HLV.out]
       rw [e]
       exact HC4.out.b.but.del hown5 hturn5
     · exact do_below HC4.out.b HVO.out HBP.out HBM.out HW.out.pr hturn5.grown
     · exact do_keep HC4.out.b HO.out HW.out hturn5.grown
   | true =>
     have hb:(c2.has || c2.sum != 0 || decide (0 < c2.list.length))=true:=by rw [live_len];exact hlv
     have HLV:=Lib.hid hlv
     clear hlv
     go_wp2_with (first
       | (go_at_call 109;refine (something_any ck2 c2.text c2.has c2.sum a2 c2.list.length cc2 _ hlen).mono ?_;rintro r w3 ⟨rfl,hb3⟩;have HC3:Hid (DoC w w3 R P M m D G L T Re K key val N v.ownBlock C ck2 c2 (.slice a2 c2.list.length cc2)):=Lib.hid (HC.out.grown (grown_of_below hb3));have s3:w3.cell? ⟨w.heap.size,3,none⟩=some (.string key):=cell_of_row _ _ 3 _ _ _ HC3.out.b.row;clear hb3 p0 p1 p2 p3 p4 f0 f1 f2 f3 f4;rw [hb])
       | (go_at_call 66;refine (clone_s key _ hk3).mono ?_;rintro r w4 ⟨rfl,hb4⟩;have HC4:Hid (DoC w w4 R P M m D G L T Re K key val N v.ownBlock C ck2 c2 (.slice a2 c2.list.length cc2)):=Lib.hid (HC3.out.grown (grown_of_below hb4));clear hb4;obtain ⟨p0,_,_,_,_,f0,_⟩:=row5 HC4.out.rowC))
     have HC5:Hid (DoC w (w4.setCell ⟨C,0,none⟩ (.string key)) R P M m D G L T Re K key val N v.ownBlock C key c2 (.slice a2 c2.list.length cc2)):=Lib.hid HC4.out.key
     obtain ⟨w5,hw5⟩:∃ w5,w5=w4.setCell ⟨C,0,none⟩ (.string key):=⟨_,rfl⟩
     rw [←hw5] at HC5 ⊢
     have t0:w5.cell? ⟨P,0,none⟩=some (.map (some M)):=cell_of_row _ _ 0 _ _ _ HC5.out.b.but.row
     obtain ⟨g0,g1,g2,g3,g4,_⟩:=row5 HC5.out.rowC
     clear hw5 p0 f0 s3 HC4 HC3
     go_still_tail 7,(by kernel_rfl)
     change wpList _ _ _ _ _ w5.drew
     have HC6:Hid (DoC w w5.drew R P M m D G L T Re K key val N v.ownBlock C key c2 (.slice a2 c2.list.length cc2)):=Lib.hid (HC5.out.grown (grown_drew (grown_refl _ none)))
     generalize w5.drew=w6 at HC6 ⊢
     clear HC5 t0 g0 g1 g2 g3 g4
     go_wp2_with (at_mapUpdate;refine wpList_mapUpdate_own _ rfl _ _ _ 166 rfl 9 105 keyedS2 Tryz.underlying166 cellR M m D rfl HC6.out.b.but.map (by have:=HM.out;unfold maxLen;omega) _ (cvV ⟨key,c2.has,c2.text,c2.sum,.slice a2 c2.list.length cc2⟩) (keyL key) rfl rfl (keyS2 hk2) _ [] (cellR_mk _) ?_;intro w7 hown7 hgrow7)
     go_ret
     refine ⟨rfl,⟨M,D.put (keyL key) (.held (cvV ⟨key,c2.has,c2.text,c2.sum,.slice a2 c2.list.length cc2⟩)),upd L key (.slice a2 c2.list.length cc2),?_,HBP.out,HBM.out⟩,?_,?_⟩
     · have e : stepG G ⟨T, Re, K, key, val, N⟩ = upd G key c2 := by
         show upd G key (stepC (G key) ⟨T,Re,K,key,val,N⟩)=_
         rw [←HC2.out]
       rw [e]
       exact HC6.out.b.but.put c2 _ HLV.out (by rw [HC2.out];exact (HW.out.neat key).step _) (by rw [HC2.out];exact Nat.le_trans (stepC_len _ _) (Nat.succ_le_succ (HW.out.len key))) (by rw [HC2.out];exact stepC_text (HW.out.text key) hv3) HC6.out.own HC6.out.ap hown7 hgrow7
     · exact do_below HC6.out.b HVO.out HBP.out HBM.out HW.out.pr hgrow7
     · exact do_keep HC6.out.b HO.out HW.out hgrow7
 · go_simp
   refine hKK.out _ _ k1 (fun hSS=>?_)
   clear hKK hSS
   try simp only [Act.put,List.getElem_toArray,List.getElem_cons_zero,List.getElem_cons_succ,List.setIfInBounds_toArray,List.set_cons_zero,List.set_cons_succ]
   refine wpAnyH_ready (rs:=[8]) (by kernel_rfl) (by simp) ?_
   refine AllReadyH.cons rfl (fun KK hKK=>?_) (AllReadyH.nil)
   go_simp
   refine (HAF.out _ HDA.out).mono ?_
   rintro r w2 ⟨ck2,v2,hr2,ho2,hg2,hl2⟩
   obtain ⟨a2,cc2,rfl⟩:=ho2.slice
   obtain rfl:r=.returned (.agg #[.string ck2,.bool c2.has,.string c2.text,.int .i64 c2.sum,.slice a2 c2.list.length cc2]):=hr2
   have HB2:Hid (DoB w w2 R P M m D G L T Re K key val N v.ownBlock):=Lib.hid (HDA.out.after HW.out hg2 HVO.out HAP.out)
   have k2:=HB2.out.s hk2
   rw [←HZ.out] at k2
   unfold DoS at k2
   have hrz:=Hid.out (doC_z hg2 HA.out HVO.out (Lib.hid HB.out.gr.size))
   obtain ⟨q0,q1,q2,q3,q4,g0,g1,g2,g3,g4⟩:=row5 hrz
   have HC:Hid (DoC w (((((w2.setCell ⟨w1.heap.size,0,none⟩ (.string ck2)).setCell ⟨w1.heap.size,1,none⟩ (.bool c2.has)).setCell ⟨w1.heap.size,2,none⟩ (.string c2.text)).setCell ⟨w1.heap.size,3,none⟩ (.int .i64 c2.sum)).setCell ⟨w1.heap.size,4,none⟩ (.slice a2 c2.list.length cc2)) R P M m D G L T Re K key val N v.ownBlock w1.heap.size ck2 c2 (.slice a2 c2.list.length cc2)):=Lib.hid (doC_b HB2.out ho2 hl2 hrz HAP.out HVO.out hg2 HLT.out HB.out)
   have k3:=HC.out.b.s hk2
   rw [←HZ.out] at k3
   unfold DoS at k3
   clear ho2 hg2 hl2 hrz
   refine hKK.out _ _ k2 (fun hSS=>?_)
   clear hKK hSS
   try simp only [Act.put,List.getElem_toArray,List.getElem_cons_zero,List.getElem_cons_succ,List.setIfInBounds_toArray,List.set_cons_zero,List.set_cons_succ]
   refine wpAnyH_ready (rs:=[10]) (by kernel_rfl) (by simp) ?_
   refine AllReadyH.cons rfl (fun KK hKK=>?_) (AllReadyH.nil)
   go_simp
   refine hKK.out _ _ k3 (fun hSS=>?_)
   clear hKK hSS
   try simp only [Act.put,List.getElem_toArray,List.getElem_cons_zero,List.getElem_cons_succ,List.setIfInBounds_toArray,List.set_cons_zero,List.set_cons_succ]
   refine wpAnyH_done (by kernel_rfl) ?_ _
   generalize (((((w2.setCell ⟨w1.heap.size,0,none⟩ (.string ck2)).setCell ⟨w1.heap.size,1,none⟩ (.bool c2.has)).setCell ⟨w1.heap.size,2,none⟩ (.string c2.text)).setCell ⟨w1.heap.size,3,none⟩ (.int .i64 c2.sum)).setCell ⟨w1.heap.size,4,none⟩ (.slice a2 c2.list.length cc2))=U at HC ⊢
   generalize w1.heap.size=C at HC ⊢
   clear k0 k1 k2 k3 HB2 HD HDA HA q0 q1 q2 q3 q4 g0 g1 g2 g3 g4
   obtain ⟨p0,p1,p2,p3,p4,f0,f1,f2,f3,f4⟩:=row5 HC.out.rowC
   have hlen:c2.list.length≤9223372036854775807:=by have:=HLN.out;omega
   cases hlv:live c2 with
   | false =>
     have hb:(c2.has || c2.sum != 0 || decide (0 < c2.list.length))=false:=by rw [live_len];exact hlv
     have HLV:=Lib.hid hlv
     clear hlv
     go_wp2_with (go_at_call 109;refine (something_any ck2 c2.text c2.has c2.sum a2 c2.list.length cc2 _ hlen).mono ?_;rintro r w3 ⟨rfl,hb3⟩;have HC3:Hid (DoC w w3 R P M m D G L T Re K key val N v.ownBlock C ck2 c2 (.slice a2 c2.list.length cc2)):=Lib.hid (HC.out.grown (grown_of_below hb3));have s0:w3.cell? ⟨P,0,none⟩=some (.map (some M)):=cell_of_row _ _ 0 _ _ _ HC3.out.b.but.row;have s3:w3.cell? ⟨w.heap.size,3,none⟩=some (.string key):=cell_of_row _ _ 3 _ _ _ HC3.out.b.row;clear hb3 p0 p1 p2 p3 p4 f0 f1 f2 f3 f4;rw [hb])
     go_still_tail 6,(by kernel_rfl)
     change wpList _ _ _ _ _ w3.drew
     have HC4:Hid (DoC w w3.drew R P M m D G L T Re K key val N v.ownBlock C ck2 c2 (.slice a2 c2.list.length cc2)):=Lib.hid (HC3.out.grown (grown_drew (grown_refl _ none)))
     generalize w3.drew=w4 at HC4 ⊢
     clear HC3 s0 s3
     go_wp2_with (at_delete;refine wpList_delete_own _ rfl _ _ 166 9 rfl 105 keyedS2 Tryz.underlying166 cellR M m D rfl HC4.out.b.but.map _ (keyL key) rfl (keyS2 hk2) ?_;intro w5 hown5 hturn5)
     go_ret
     refine ⟨rfl,⟨M,D.del (keyL key),L,?_,HBP.out,HBM.out⟩,?_,?_⟩
     · have e : stepG G ⟨T, Re, K, key, val, N⟩ = upd G key cel0 := by
         show upd G key (stepC (G key) ⟨T,Re,K,key,val,N⟩)=_
         rw [←HC2.out,Neat.dead (by rw [HC2.out];exact (HW.out.neat key).step _) HLV.out]
       rw [e]
       exact HC4.out.b.but.del hown5 hturn5
     · exact do_below HC4.out.b HVO.out HBP.out HBM.out HW.out.pr hturn5.grown
     · exact do_keep HC4.out.b HO.out HW.out hturn5.grown
   | true =>
     have hb:(c2.has || c2.sum != 0 || decide (0 < c2.list.length))=true:=by rw [live_len];exact hlv
     have HLV:=Lib.hid hlv
     clear hlv
     go_wp2_with (first
       | (go_at_call 109;refine (something_any ck2 c2.text c2.has c2.sum a2 c2.list.length cc2 _ hlen).mono ?_;rintro r w3 ⟨rfl,hb3⟩;have HC3:Hid (DoC w w3 R P M m D G L T Re K key val N v.ownBlock C ck2 c2 (.slice a2 c2.list.length cc2)):=Lib.hid (HC.out.grown (grown_of_below hb3));have s3:w3.cell? ⟨w.heap.size,3,none⟩=some (.string key):=cell_of_row _ _ 3 _ _ _ HC3.out.b.row;clear hb3 p0 p1 p2 p3 p4 f0 f1 f2 f3 f4;rw [hb])
       | (go_at_call 66;refine (clone_s key _ hk3).mono ?_;rintro r w4 ⟨rfl,hb4⟩;have HC4:Hid (DoC w w4 R P M m D G L T Re K key val N v.ownBlock C ck2 c2 (.slice a2 c2.list.length cc2)):=Lib.hid (HC3.out.grown (grown_of_below hb4));clear hb4;obtain ⟨p0,_,_,_,_,f0,_⟩:=row5 HC4.out.rowC))
     have HC5:Hid (DoC w (w4.setCell ⟨C,0,none⟩ (.string key)) R P M m D G L T Re K key val N v.ownBlock C key c2 (.slice a2 c2.list.length cc2)):=Lib.hid HC4.out.key
     obtain ⟨w5,hw5⟩:∃ w5,w5=w4.setCell ⟨C,0,none⟩ (.string key):=⟨_,rfl⟩
     rw [←hw5] at HC5 ⊢
     have t0:w5.cell? ⟨P,0,none⟩=some (.map (some M)):=cell_of_row _ _ 0 _ _ _ HC5.out.b.but.row
     obtain ⟨g0,g1,g2,g3,g4,_⟩:=row5 HC5.out.rowC
     clear hw5 p0 f0 s3 HC4 HC3
     go_still_tail 7,(by kernel_rfl)
     change wpList _ _ _ _ _ w5.drew
     have HC6:Hid (DoC w w5.drew R P M m D G L T Re K key val N v.ownBlock C key c2 (.slice a2 c2.list.length cc2)):=Lib.hid (HC5.out.grown (grown_drew (grown_refl _ none)))
     generalize w5.drew=w6 at HC6 ⊢
     clear HC5 t0 g0 g1 g2 g3 g4
     go_wp2_with (at_mapUpdate;refine wpList_mapUpdate_own _ rfl _ _ _ 166 rfl 9 105 keyedS2 Tryz.underlying166 cellR M m D rfl HC6.out.b.but.map (by have:=HM.out;unfold maxLen;omega) _ (cvV ⟨key,c2.has,c2.text,c2.sum,.slice a2 c2.list.length cc2⟩) (keyL key) rfl rfl (keyS2 hk2) _ [] (cellR_mk _) ?_;intro w7 hown7 hgrow7)
     go_ret
     refine ⟨rfl,⟨M,D.put (keyL key) (.held (cvV ⟨key,c2.has,c2.text,c2.sum,.slice a2 c2.list.length cc2⟩)),upd L key (.slice a2 c2.list.length cc2),?_,HBP.out,HBM.out⟩,?_,?_⟩
     · have e : stepG G ⟨T, Re, K, key, val, N⟩ = upd G key c2 := by
         show upd G key (stepC (G key) ⟨T,Re,K,key,val,N⟩)=_
         rw [←HC2.out]
       rw [e]
       exact HC6.out.b.but.put c2 _ HLV.out (by rw [HC2.out];exact (HW.out.neat key).step _) (by rw [HC2.out];exact Nat.le_trans (stepC_len _ _) (Nat.succ_le_succ (HW.out.len key))) (by rw [HC2.out];exact stepC_text (HW.out.text key) hv3) HC6.out.own HC6.out.ap hown7 hgrow7
     · exact do_below HC6.out.b HVO.out HBP.out HBM.out HW.out.pr hgrow7
     · exact do_keep HC6.out.b HO.out HW.out hgrow7
end Go.Proofs.YtddbpnplbcjpgaaGreatDoor
namespace Go.Proofs.YtddbpnplbcjpgaaGreatDoor
open Go.RowKit Go.Maps
set_option maxRecDepth 100000 in
theorem new_any (w:World):Calls Tryz.prog 81 #[] w fun e w'=>e=.returned (.pointer (some ⟨w.heap.size + 1,0,none⟩))∧StoB w' w.heap.size (w.heap.size + 2) (w.heap.size + 1) 0 (fun _=>cel0)∧Below w.heap.size w w':=by
 have hmm:=@run_makeMap Tryz.prog
 go_enter Tryz.func81,Tryz.ntmps81
 go_wp2
 go_ret
 have old:∀ (W:World) (o:Obj) (k:Nat),k < W.heap.size→(W.alloc o).heap[k]? = W.heap[k]? := fun W o k hk=>(MapKept.heap_alloc W o).2 k hk
 have s1:(w.alloc (.map #[] 0)).heap.size=w.heap.size + 1:=by simp
 have hrow:((w.alloc (.map #[] 0)).alloc (.cells #[.map (some w.heap.size)] 168)).heap[w.heap.size + 1]? = some (.cells #[.map (some w.heap.size)] 168 (0,0)):=by
   have:=(MapKept.heap_alloc (w.alloc (.map #[] 0)) (.cells #[.map (some w.heap.size)] 168)).1
   rwa [s1] at this
 refine ⟨rfl,⟨w.heap.size,_,_,⟨hrow,(World.ownsMap_made w _ _ _).alloc _,stoD_nil,fun k hk=>(by cases hk),fun j k hj _ _=>(by cases hj),fun _=>Nat.le_refl _,fun _=>⟨Nat.zero_le _,fun s hs=>(by cases hs)⟩,fun _=>neat0,(by omega),(by omega),(by simp),(by omega)⟩,by omega,Nat.le_refl _⟩,((Below.refl _ _).alloc (Nat.le_refl _) _).alloc (by simp) _⟩
theorem keys_ok {l:List Wr} (h:∀ x∈l,wrF x=0) (k:ByteArray) (hk:live (cellK l k)=true):k.size≤140737488351232:=by
 by_cases e:∃ x∈l,x.key=k
 · obtain ⟨x,hx,rfl⟩:=e
   have:=(wrF_good (h x hx)).2.1
   omega
 · rw [cellK_none (fun x hx e2=>e ⟨x,hx,e2⟩)] at hk
   cases hk
end Go.Proofs.YtddbpnplbcjpgaaGreatDoor
