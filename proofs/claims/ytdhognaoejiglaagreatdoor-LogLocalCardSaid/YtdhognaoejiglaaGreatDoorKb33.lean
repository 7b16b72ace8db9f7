import Derived.Test.YtdhognaoejiglaaGreatDoorKbq
import Derived.Test.YtdhognaoejiglaaGreatDoorKb14
namespace Go.Proofs.YtdhognaoejiglaaGreatDoor
open Lib (hid)
set_option maxRecDepth 100000
set_option maxHeartbeats 8000000
open Go.RowKit Go.Maps
def wrF (x:Wr):Nat:=wriE x.time x.rep x.kind x.key x.value x.n
theorem py {x:Wr} (h:wrF x=0):(x.kind=1∨x.kind=2∨x.kind=3∨x.kind=4)∧x.key.size≤40∧x.value.size≤300∧(x.kind=4→0≤x.n∧x.n≤1000):=by
 obtain ⟨h1,_,h3,h4,_,h6⟩:=fL h;refine ⟨by omega,h3,h4,fun e=>?_⟩;rw [e] at h6
 simpa [ci] using h6
def pD (w:World) (R:Nat) (c:Cel) (v:Value) (e:Ending) (w':World):Prop :=
 ∃ ck v',e=.returned (cvV ⟨ck,c.has,c.text,c.sum,v'⟩)∧ai w' R v' c.list∧w.grownBy w' v.ownBlock∧(v'.ownBlock=none∨v'.ownBlock=v.ownBlock∨∃ g,v'.ownBlock=some g∧w.heap.size≤g)
theorem nC {a b:World} (h:a.grownBy b none) (o:Option Nat):a.grownBy b o:=⟨h.os,h.tape,h.output,h.size,fun i hi _=>h.block i hi (by simp)⟩
theorem x6 (ck:ByteArray) (c:Cel) (v:Value) (x:Wr) (w:World) (R:Nat) (ho:ai w R v c.list) (hr:wrF x=0) (hm:c.list.length≤1000000) (hR:R≤w.heap.size) :
 Calls Tryz.prog 75 #[cvV ⟨ck,c.has,c.text,c.sum,v⟩,wrV x] w (pD w R (cm c x) v):=by
 obtain ⟨hk,h40,h300,h4⟩:=py hr;obtain ⟨la,lc,rfl⟩:=ho.slice;obtain ⟨T,Re,K,key,val,N⟩:=x;simp only at hk h40 h300 h4
 rcases hk with rfl | rfl | rfl | rfl
 ·refine (x9 ck c.text c.has c.sum la c.list.length lc T Re key val N w (by omega)).mono ?_;rintro e w' ⟨rfl,hg⟩;exact ⟨ck,_,rfl,ho.grown hg,nC hg _,.inr (.inl rfl)⟩
 ·refine (x7 ck c.text c.has c.sum la c.list.length lc T Re key val N w).mono ?_;rintro e w' ⟨rfl,hg⟩;exact ⟨⟨#[]⟩,.slice none 0 0,rfl,dv _ _,nC hg _,.inl rfl⟩
 ·refine (wZ ck c.text c.has c.sum la c.list.length lc T Re key val N w).mono ?_;rintro e w' ⟨rfl,hg⟩;refine ⟨ck,.slice la c.list.length lc,?_,ho.grown hg,nC hg _,.inr (.inl rfl)⟩;have e1:cm c ⟨T,Re,3,key,val,N⟩={ c with sum:=wrap64 (c.sum+N) }:=by simp [cm];exact IntWalk.i64_left _
  rw [e1]
  rfl
 ·obtain ⟨h0,h1⟩:=h4 rfl;refine (x8 ck c.text c.has c.sum la c.list.length lc c.list T Re key val N (min N.toNat c.list.length) w R (by omega) ho rfl hm h0 rfl hR).mono ?_;rintro e w' ⟨g,cap,rfl,h2,h3,h5⟩;refine ⟨ck,_,rfl,?_,h3,?_⟩
  ·show ai w' R _ (insL c.list N val)
   exact h2
  ·rcases h5 with h5 | h5
   ·exact .inr (.inl (by rw [h5];rfl))
   ·exact .inr (.inr ⟨g,rfl,h5⟩)
theorem bV.at {w:World} {R P M m:Nat} {D:DataW Value} {G:ByteArray→Cel} {L:ByteArray→Value} (h:bV w R P M m D G L) (k:ByteArray) :
 ∃ ck v,cvOf G L k=⟨ck,(G k).has,(G k).text,(G k).sum,v⟩∧ai w R v (G k).list∧∀ j,j≠k→live (G j)=true→(L j).ownBlock=none∨(L j).ownBlock≠v.ownBlock:=by
 cases hl:live (G k) with
 | true=>exact ⟨k,L k,mT hl,h.own k hl,fun j hne hj=>h.apart j k hj hl hne⟩
 | false =>
  refine ⟨⟨#[]⟩,.slice none 0 0,?_,?_,fun j _ _=>?_⟩
  ·rw [mS hl,h.sto.dead k hl];rfl
  ·rw [h.sto.dead k hl];exact dv _ _
  ·cases (L j).ownBlock with
   | none=>exact .inl rfl
   | some g=>exact .inr (by simp [Value.ownBlock])
def StoB (w:World) (B R P m:Nat) (G:ByteArray→Cel):Prop:=∃ M D L,bV w R P M m D G L∧B≤P∧B≤M
theorem StoB.grown {w w':World} {B R P m:Nat} {G:ByteArray→Cel} (h:StoB w B R P m G) (hg:w.grownBy w' none):StoB w' B R P m G:=by obtain ⟨M,D,L,h1,h2⟩:=h;exact ⟨M,D,L,h1.grown hg,h2⟩
theorem q9 {B:Nat} {a w w':World} (h:Below B a w) {o:Option Nat} (hg:w.grownBy w' o) (hB:B≤w.heap.size) (ho:∀ g,o=some g→B≤g):Below B a w' :=
 ⟨hg.os.trans h.os,hg.tape.trans h.tape,hg.output.trans h.output,Nat.le_trans h.size hg.size,fun k hk=>(hg.block k (by omega) (fun e=>by have:=ho k e.symm;omega)).trans (h.block k hk)⟩
structure DoW (w W:World) (R P M m:Nat) (D:DataW Value) (G:ByteArray→Cel) (L:ByteArray→Value) (T Re K:Int) (key val:ByteArray) (N:Int):Prop where
 row:W.heap[w.heap.size]? = some (.cells #[.int .i64 T,.int .i64 Re,.int .i64 K,.string key,.string val,.int .i64 N] 38 (0,0))
 sto:bV W R P M m D G L
 gr:w.grownBy W none
def DoS (w:World) (P M:Nat) (T Re K:Int) (key val:ByteArray) (N:Int) (z:Value) (w':World):Prop :=
 w'.cell? ⟨P,0,none⟩=some (.map (some M))∧w'.cell? ⟨w.heap.size,0,none⟩=some (.int .i64 T)∧w'.cell? ⟨w.heap.size,1,none⟩=some (.int .i64 Re)∧w'.cell? ⟨w.heap.size,2,none⟩=some (.int .i64 K)∧w'.cell? ⟨w.heap.size,3,none⟩=some (.string key) ∧
 w'.cell? ⟨w.heap.size,4,none⟩=some (.string val)∧w'.cell? ⟨w.heap.size,5,none⟩=some (.int .i64 N)∧(Instr.lookup 121 (.map (some M)) (.string key) false).run Tryz.prog w'=.ok z w'
theorem DoW.s {w W:World} {R P M m:Nat} {D:DataW Value} {G:ByteArray→Cel} {L:ByteArray→Value} {T Re K:Int} {key val:ByteArray} {N:Int} (h:DoW w W R P M m D G L T Re K key val N) (hk:key.size≤maxLen):DoS w P M T Re K key val N (cvV (cvOf G L key)) W :=
 ⟨cell_of_row _ _ 0 _ _ _ h.sto.row,cell_of_row _ _ 0 _ _ _ h.row,cell_of_row _ _ 1 _ _ _ h.row,cell_of_row _ _ 2 _ _ _ h.row,cell_of_row _ _ 3 _ _ _ h.row,cell_of_row _ _ 4 _ _ _ h.row,cell_of_row _ _ 5 _ _ _ h.row,h.sto.look key hk⟩
theorem DoW.grown {w W W':World} {R P M m:Nat} {D:DataW Value} {G:ByteArray→Cel} {L:ByteArray→Value} {T Re K:Int} {key val:ByteArray} {N:Int} (h:DoW w W R P M m D G L T Re K key val N) (hg:W.grownBy W' none):DoW w W' R P M m D G L T Re K key val N :=
 ⟨(hg.block _ (Array.getElem?_eq_some_iff.1 h.row).1 (by simp)).trans h.row,h.sto.grown hg,cj h.gr hg⟩
structure DoB (w W:World) (R P M m:Nat) (D:DataW Value) (G:ByteArray→Cel) (L:ByteArray→Value) (T Re K:Int) (key val:ByteArray) (N:Int) (o:Option Nat):Prop where
 row:W.heap[w.heap.size]? = some (.cells #[.int .i64 T,.int .i64 Re,.int .i64 K,.string key,.string val,.int .i64 N] 38 (0,0))
 but:gD W R P M m D G L key
 gr:w.grownBy W o
 lt:∀ j,live (G j)=true→∀ g,(L j).ownBlock=some g→g<w.heap.size
 rw0:R≤w.heap.size
theorem DoB.s {w W:World} {R P M m:Nat} {D:DataW Value} {G:ByteArray→Cel} {L:ByteArray→Value} {T Re K:Int} {key val:ByteArray} {N:Int} {o:Option Nat} (h:DoB w W R P M m D G L T Re K key val N o) (hk:key.size≤maxLen):DoS w P M T Re K key val N (cvV (cvOf G L key)) W:=by
 refine ⟨cell_of_row _ _ 0 _ _ _ h.but.row,cell_of_row _ _ 0 _ _ _ h.row,cell_of_row _ _ 1 _ _ _ h.row,cell_of_row _ _ 2 _ _ _ h.row,cell_of_row _ _ 3 _ _ _ h.row,cell_of_row _ _ 4 _ _ _ h.row,cell_of_row _ _ 5 _ _ _ h.row,?_⟩;obtain ⟨v,ps,h1,h2⟩:=h.but.map.lookup fF Tryz.underlying121 (wb W) (kg cv0) (gU hk);rw [h.but.sto.at'] at h2;obtain ⟨c,rfl,hc⟩:=kf h2;rw [h1];simp only [Prod.mk.injEq] at hc
 rw [kj (DataW.held.inj hc.1)]
theorem DoB.on {w W:World} {R P M m:Nat} {D:DataW Value} {G:ByteArray→Cel} {L:ByteArray→Value} {T Re K:Int} {key val:ByteArray} {N:Int} {o o2:Option Nat} {W':World} (h:DoB w W R P M m D G L T Re K key val N o) (hg:W.grownBy W' o2) (ho:∀ g,o2=some g→w.heap.size<g):DoB w W' R P M m D G L T Re K key val N o:=by
 have hw:=(Array.getElem?_eq_some_iff.1 h.row).1;have hR:=h.rw0;have e:∀ B,B≤w.heap.size→some B≠o2:=fun B hB e=>by have:=ho B e.symm;omega
 exact ⟨(hg.block _ hw (e _ (Nat.le_refl _))).trans h.row,
  { h.but with
   row:=(hg.block P (by have:=h.but.pr;omega) (e _ (by have:=h.but.pr;omega))).trans h.but.row
   map:=h.but.map.kept hg (e _ (by have:=h.but.mr;omega))
   own:=fun j hj hl=>World.ownsRow.kept (h.but.own j hj hl) hg (by
    cases hv:(L j).ownBlock with
    | none=>exact .inl rfl
    | some g=>exact .inr (e g (Nat.le_of_lt (h.lt j hl g hv))))
   rw':=Nat.le_trans h.but.rw' hg.size },
  ⟨hg.os.trans h.gr.os,hg.tape.trans h.gr.tape,hg.output.trans h.gr.output,Nat.le_trans h.gr.size hg.size,fun k hk hne=>(hg.block k (by omega) (e k (Nat.le_of_lt hk))).trans (h.gr.block k hk hne)⟩,h.lt,h.rw0⟩
theorem DoW.after {w W:World} {R P M m:Nat} {D:DataW Value} {G:ByteArray→Cel} {L:ByteArray→Value} {T Re K:Int} {key val:ByteArray} {N:Int} {W':World} {v:Value} (h:DoW w W R P M m D G L T Re K key val N) (h0:bV w R P M m D G L) (hg:W.grownBy W' v.ownBlock) (hv:∀ g,v.ownBlock=some g→R≤g∧g<w.heap.size) (hap:∀ j,j≠key→live (G j)=true→(L j).ownBlock=none∨(L j).ownBlock≠v.ownBlock):DoB w W' R P M m D G L T Re K key val N v.ownBlock :=
 ⟨(hg.block _ (Array.getElem?_eq_some_iff.1 h.row).1 (fun e=>by have:=hv _ e.symm;omega)).trans h.row,h.sto.but key hg (fun g e=>(hv g e).1) hap,cj h.gr hg,fun j hl g hj=>((h0.own j hl).lt g hj).2,h0.rw'⟩
structure DoC (w W:World) (R P M m:Nat) (D:DataW Value) (G:ByteArray→Cel) (L:ByteArray→Value) (T Re K:Int) (key val:ByteArray) (N:Int) (o:Option Nat) (C:Nat) (ck:ByteArray) (c:Cel) (v:Value):Prop where
 b:DoB w W R P M m D G L T Re K key val N o
 rowC:W.heap[C]? = some (.cells #[.string ck,.bool c.has,.string c.text,.int .i64 c.sum,v] 100 (0,0))
 own:ai W R v c.list
 ap:∀ j,j≠key→live (G j)=true→(L j).ownBlock=none∨(L j).ownBlock≠v.ownBlock
 hC:w.heap.size<C∧C<W.heap.size
 vC:v.ownBlock≠some C
theorem qI {w W0:World} {G:ByteArray→Cel} {L:ByteArray→Value} {key:ByteArray} {v v2:Value} (hl:v2.ownBlock=none∨v2.ownBlock=v.ownBlock∨∃ g,v2.ownBlock=some g∧W0.heap.size≤g) (hap:∀ j,j≠key→live (G j)=true→(L j).ownBlock=none∨(L j).ownBlock≠v.ownBlock)
 (hlt:∀ j,live (G j)=true→∀ g,(L j).ownBlock=some g→g<w.heap.size) (hs:w.heap.size≤W0.heap.size):∀ j,j≠key→live (G j)=true→(L j).ownBlock=none∨(L j).ownBlock≠v2.ownBlock:=fun j hj hlj=>by
 cases e:(L j).ownBlock with
 | none=>exact .inl rfl
 | some b =>
  right
  rcases hl with h | h | ⟨g,h,hg⟩
  ·rw [h];simp
  ·rw [h,←e];rcases hap j hj hlj with h2 | h2
   ·rw [e] at h2;cases h2
   ·exact h2
  ·rw [h];intro e2;have:=hlt j hlj b e;have e3:b=g:=Option.some.inj e2;omega
theorem yN {w W:World} {R P M m:Nat} {D:DataW Value} {G:ByteArray→Cel} {L:ByteArray→Value} {T Re K:Int} {key val:ByteArray} {N:Int} {v:Value} {c2:Cel} {ck2:ByteArray} {v2:Value} {W0:World} (h:DoB w W R P M m D G L T Re K key val N v.ownBlock) (ho:ai W R v2 c2.list) (hl:v2.ownBlock=none∨v2.ownBlock=v.ownBlock∨∃ g,v2.ownBlock=some g∧W0.heap.size≤g) (h0:DoW w W0 R P M m D G L T Re K key val N)
 (hap:∀ j,j≠key→live (G j)=true→(L j).ownBlock=none∨(L j).ownBlock≠v.ownBlock) (_:∀ g,v.ownBlock=some g→R≤g∧g<w.heap.size) (_:W0.grownBy W v.ownBlock) (hlt:∀ j,live (G j)=true→∀ g,(L j).ownBlock=some g→g<w.heap.size) :
 DoC w (W.alloc (.cells #[.string ck2,.bool c2.has,.string c2.text,.int .i64 c2.sum,v2] 100)) R P M m D G L T Re K key val N v.ownBlock W.heap.size ck2 c2 v2 :=
 ⟨h.on (bI (aW _ none) _) (fun g e=>by cases e),(MapKept.heap_alloc W _).1,ho.alloc _,qI hl hap hlt h0.gr.size,⟨(Array.getElem?_eq_some_iff.1 h.row).1,by simp⟩,fun e=>by have:=(ho.lt _ e).2;omega⟩
theorem yP {w w1 W:World} {v:Value} {o:Obj} {R:Nat} (hg:(w1.alloc o).drew.grownBy W v.ownBlock) (ha:(w1.alloc o).drew.heap[w1.heap.size]? = some o) (hv:∀ g,v.ownBlock=some g→R≤g∧g<w.heap.size) (hs:Hid (w.heap.size≤w1.heap.size)):Hid (W.heap[w1.heap.size]? = some o) :=
 hid ((hg.block w1.heap.size (by simp) (fun e=>by have:=(hv _ e.symm).2;have:=hs.out;omega)).trans ha)
theorem yO {w W:World} {R P M m:Nat} {D:DataW Value} {G:ByteArray→Cel} {L:ByteArray→Value} {T Re K:Int} {key val:ByteArray} {N:Int} {v:Value} {c2:Cel} {ck2:ByteArray} {v2:Value} {w1:World} {o:Obj} (h:DoB w W R P M m D G L T Re K key val N v.ownBlock) (ho:ai W R v2 c2.list) (hl:v2.ownBlock=none∨v2.ownBlock=v.ownBlock∨∃ g,v2.ownBlock=some g∧(w1.alloc o).drew.heap.size≤g)
 (hz:W.heap[w1.heap.size]? = some (.cells #[.string ⟨#[]⟩,.bool false,.string ⟨#[]⟩,.int .i64 0,.slice none 0 0] 100 (0,0)))
 (hap:∀ j,j≠key→live (G j)=true→(L j).ownBlock=none∨(L j).ownBlock≠v.ownBlock) (hv:∀ g,v.ownBlock=some g→R≤g∧g<w.heap.size) (_:(w1.alloc o).drew.grownBy W v.ownBlock) (hlt:∀ j,live (G j)=true→∀ g,(L j).ownBlock=some g→g<w.heap.size) (h1:DoW w w1 R P M m D G L T Re K key val N) :
 DoC w (((((W.setCell ⟨w1.heap.size,0,none⟩ (.string ck2)).setCell ⟨w1.heap.size,1,none⟩ (.bool c2.has)).setCell ⟨w1.heap.size,2,none⟩ (.string c2.text)).setCell ⟨w1.heap.size,3,none⟩ (.int .i64 c2.sum)).setCell ⟨w1.heap.size,4,none⟩ v2) R P M m D G L T Re K key val N v.ownBlock w1.heap.size ck2 c2 v2:=by
 have hw1:w.heap.size<w1.heap.size:=(Array.getElem?_eq_some_iff.1 h1.row).1;have hsz:(w1.alloc o).drew.heap.size=w1.heap.size+1:=by simp
 have hvC:v2.ownBlock≠some w1.heap.size:=fun e=>by
  rcases hl with h | h | ⟨g,h,hg⟩
  ·rw [h] at e;cases e
  ·rw [h] at e;have:=(hv _ e).2;omega
  ·rw [h] at e;have e2:g=w1.heap.size:=Option.some.inj e;omega
 refine ⟨h.on (o2:=some w1.heap.size) (fD [.string ck2,.bool c2.has,.string c2.text,.int .i64 c2.sum,v2] 0 W (aW _ _)) (fun g e=>by cases e;exact hw1),lD hz _ _ _ _ _,?_,qI hl hap hlt (by rw [hsz];omega),⟨hw1,by have:=(Array.getElem?_eq_some_iff.1 hz).1;simpa using this⟩,hvC⟩;exact ((((ho.setC _ hvC).setC _ hvC).setC _ hvC).setC _ hvC).setC _ hvC
theorem kY (c:Cel):(c.has || c.sum != 0 || decide (0<c.list.length))=live c:=by
 unfold live;cases c.list <;> simp
theorem oJ (c:Cel) (x:Wr):(cm c x).list.length≤c.list.length+1:=by
 unfold cm;split
 ·exact Nat.le_succ _
 ·split
  ·exact Nat.zero_le _
  ·split
   ·exact Nat.le_succ _
   ·split
    ·have:=(rR c.list x.n x.value).length_eq;show (insL c.list x.n x.value).length≤_
     rw [this];simp
    ·exact Nat.le_succ _
theorem tS {c:Cel} {x:Wr} (h:c.text.size≤140737488351232∧∀ s∈c.list,s.size≤140737488351232) (hv:x.value.size≤140737488351232):(cm c x).text.size≤140737488351232∧∀ s∈(cm c x).list,s.size≤140737488351232:=by
 unfold cm;split
 ·exact ⟨hv,h.2⟩
 ·split
  ·exact ⟨Nat.zero_le _,fun s hs=>by cases hs⟩
  ·split
   ·exact h
   ·split
    ·refine ⟨h.1,fun s hs=>?_⟩;rcases List.mem_cons.1 ((rR c.list x.n x.value).mem_iff.1 hs) with rfl | hs
     ·exact hv
     ·exact h.2 s hs
    ·exact h
theorem DoC.grown {w W W':World} {R P M m:Nat} {D:DataW Value} {G:ByteArray→Cel} {L:ByteArray→Value} {T Re K:Int} {key val:ByteArray} {N:Int} {o:Option Nat} {C:Nat} {ck:ByteArray} {c:Cel} {v:Value} (h:DoC w W R P M m D G L T Re K key val N o C ck c v) (hg:W.grownBy W' none):DoC w W' R P M m D G L T Re K key val N o C ck c v :=
 ⟨h.b.on hg (fun g e=>by cases e),(hg.block _ h.hC.2 (by simp)).trans h.rowC,h.own.grown hg,h.ap,⟨h.hC.1,Nat.lt_of_lt_of_le h.hC.2 hg.size⟩,h.vC⟩
theorem DoC.key {w W:World} {R P M m:Nat} {D:DataW Value} {G:ByteArray→Cel} {L:ByteArray→Value} {T Re K:Int} {key val:ByteArray} {N:Int} {o:Option Nat} {C:Nat} {ck:ByteArray} {c:Cel} {v:Value} {k:ByteArray} (h:DoC w W R P M m D G L T Re K key val N o C ck c v):DoC w (W.setCell ⟨C,0,none⟩ (.string k)) R P M m D G L T Re K key val N o C k c v :=
 ⟨h.b.on (o2:=some C) (fD [.string k] 0 W (aW _ _)) (fun g e=>by cases e;exact h.hC.1),heap_setCell_same _ _ 0 _ _ _ h.rowC,h.own.setC _ h.vC,h.ap,⟨h.hC.1,by simpa using h.hC.2⟩,h.vC⟩
def pJ (w w':World):Prop:=∀ (b:Nat) (cs:Array Value),w.heap[b]? = some (.cells cs 38 (0,0))→w'.heap[b]? = some (.cells cs 38 (0,0))
theorem ko {w W W':World} {R P M m:Nat} {D:DataW Value} {G:ByteArray→Cel} {L:ByteArray→Value} {T Re K:Int} {key val:ByteArray} {N:Int} {v:Value} {l:List ByteArray} (h:DoB w W R P M m D G L T Re K key val N v.ownBlock) (ho:ai w R v l) (h0:bV w R P M m D G L) (hg:W.grownBy W' (some M)):pJ w W':=by
 intro b cs hb;have hlt:=(Array.getElem?_eq_some_iff.1 hb).1;have e1:some b≠v.ownBlock:=fun e=>by
  rcases ho.2 with ⟨rfl,_⟩ | ⟨g,cap,cur,rfl,_,hh,_⟩
  ·cases e
  ·have e2:b=g:=Option.some.inj e;subst e2;rw [hh] at hb;simp only [Option.some.injEq,Obj.cells.injEq] at hb
   exact absurd hb.2.1 (by decide)
 have e2:some b≠some M:=fun e=>by
  obtain rfl:=Option.some.inj e;obtain ⟨es,clock,hm,_⟩:=h0.map;rw [hm] at hb;simp at hb
 exact (hg.block b (Nat.lt_of_lt_of_le hlt h.gr.size) e2).trans ((h.gr.block b hlt e1).trans hb)
theorem kk {w W W':World} {B R P M m:Nat} {D:DataW Value} {G:ByteArray→Cel} {L:ByteArray→Value} {T Re K:Int} {key val:ByteArray} {N:Int} {v:Value} (h:DoB w W R P M m D G L T Re K key val N v.ownBlock) (hv:∀ g,v.ownBlock=some g→R≤g∧g<w.heap.size) (hP:B≤P) (hM:B≤M) (hpr:P<R) (hg:W.grownBy W' (some M)):Below B w W':=by
 have hR:=h.rw0;exact q9 (q9 (Below.refl B w) h.gr (by omega) (fun g e=>by have:=(hv g e).1;omega)) hg (by have:=h.gr.size;omega) (fun g e=>by cases e;exact hM)
theorem yQ (w:World) (B R P M m:Nat) (D:DataW Value) (G:ByteArray→Cel) (L:ByteArray→Value) (T Re K:Int) (key val:ByteArray) (N:Int) (h:bV w R P M m D G L) (hr:wrF ⟨T,Re,K,key,val,N⟩=0) (hm:m≤100000) (hBP:B≤P) (hBM:B≤M) :
 Calls Tryz.prog 56 #[.pointer (some ⟨P,0,none⟩),.agg #[.int .i64 T,.int .i64 Re,.int .i64 K,.string key,.string val,.int .i64 N]] w fun r w'=>r=.returned .nilIface∧StoB w' B R P (m+1) (gv G ⟨T,Re,K,key,val,N⟩)∧Below B w w'∧pJ w w':=by
 obtain ⟨hkind,hk,hv,_⟩:=py hr;simp only at hkind hk hv
 have HE:Hid (errV (wriE T Re K key val N)=.nilIface):=hid (by have e:wriE T Re K key val N=0:=hr;rw [e];rfl);obtain ⟨ck,v,hcv,hown,hap⟩:=h.at key;have HW:=hid h;have HR:=hid hr;have HO:=hid hown;have HAP:=hid hap;have HCV:=hid hcv;have HM:=hid hm;have HLE:Hid ((G key).list.length≤1000000):=hid (by have:=h.len key;omega);have HBP:=hid hBP;have HBM:=hid hBM;have HLN:Hid ((cm (G key) ⟨T,Re,K,key,val,N⟩).list.length≤1000001):=hid (by have:=h.len key;have:=oJ (G key) ⟨T,Re,K,key,val,N⟩;omega);have hPw:=h.pw;have hk2:key.size≤maxLen:=by unfold maxLen;omega
 have hk3:key.size≤140737488351232:=by omega
 have hv3:val.size≤140737488351232:=by omega
 clear h hr hown hap hcv hm hBP hBM hkind;obtain ⟨z,hz⟩:∃ z,z=cvV (cvOf G L key):=⟨_,rfl⟩;have HZ:=hid hz;clear hz;obtain ⟨c2,hc2⟩:∃ c2,c2=cm (G key) ⟨T,Re,K,key,val,N⟩:=⟨_,rfl⟩;have HVO:Hid (∀ g,v.ownBlock=some g→R≤g∧g<w.heap.size):=hid (fun g e=>HO.out.lt g e);have HLT:Hid (∀ j,live (G j)=true→∀ g,(L j).ownBlock=some g→g<w.heap.size):=hid (fun j hl g e=>((HW.out.own j hl).lt g e).2);have HAF:Hid (∀ W,DoW w W R P M m D G L T Re K key val N→Calls Tryz.prog 75 #[z,.agg #[.int .i64 T,.int .i64 Re,.int .i64 K,.string key,.string val,.int .i64 N]] W (pD W R c2 v)):=hid (fun W hW=>by
  rw [HZ.out,HCV.out,hc2];exact x6 ck (G key) v ⟨T,Re,K,key,val,N⟩ W R (HO.out.grown hW.gr) HR.out HLE.out hW.sto.rw')
 rw [←hc2] at HLN;have HC2:=hid hc2;clear hc2;go_enter Tryz.func56,Tryz.ntmps56
 go_wp2_with (go_at_call 51;refine (gy T Re K key val N _ hk3 hv3).mono ?_;rintro r w1 ⟨rfl,hb1⟩;have hrow:w1.heap[w.heap.size]? = some (.cells #[.int .i64 T,.int .i64 Re,.int .i64 K,.string key,.string val,.int .i64 N] 38 (0,0)):=(hb1.block _ (by simp)).trans (MapKept.heap_alloc w _).1;have hg1:w.grownBy w1 none:=cj (bI (aW w none) _) (bM hb1);have HB:Hid (DoW w w1 R P M m D G L T Re K key val N):=hid ⟨hrow,HW.out.grown hg1,hg1⟩;clear hb1 hrow hg1;rw [HE.out])
 have HD:Hid (DoW w w1.drew R P M m D G L T Re K key val N):=hid (HB.out.grown (dE (aW _ none)));have k0:=HD.out.s hk2;have HA:Hid ((w1.alloc (.cells #[.string ⟨#[]⟩,.bool false,.string ⟨#[]⟩,.int .i64 0,.slice none 0 0] 100)).drew.heap[w1.heap.size]? = some (.cells #[.string ⟨#[]⟩,.bool false,.string ⟨#[]⟩,.int .i64 0,.slice none 0 0] 100)):=hid (MapKept.heap_alloc w1 _).1;have HDA:Hid (DoW w (w1.alloc (.cells #[.string ⟨#[]⟩,.bool false,.string ⟨#[]⟩,.int .i64 0,.slice none 0 0] 100)).drew R P M m D G L T Re K key val N):=hid (HB.out.grown (dE (bI (aW _ none) _)));have k1:=HDA.out.s hk2;rw [←HZ.out] at k0 k1;unfold DoS at k0 k1;have hpos:(wrV ⟨T,Re,K,key,val,N⟩:Value)=.agg #[.int .i64 T,.int .i64 Re,.int .i64 K,.string key,.string val,.int .i64 N]:=rfl
 -- REGION
 refine wp_region_held_drew (S:=fun w'=>w'.cell? ⟨P,0,none⟩=some (.map (some M))∧w'.cell? ⟨w.heap.size,0,none⟩=some (.int .i64 T)∧w'.cell? ⟨w.heap.size,1,none⟩=some (.int .i64 Re)∧w'.cell? ⟨w.heap.size,2,none⟩=some (.int .i64 K)∧w'.cell? ⟨w.heap.size,3,none⟩=some (.string key) ∧
  w'.cell? ⟨w.heap.size,4,none⟩=some (.string val)∧w'.cell? ⟨w.heap.size,5,none⟩=some (.int .i64 N)∧(Instr.lookup 121 (.map (some M)) (.string key) false).run Tryz.prog w'=.ok z w') (by kernel_rfl) k0 (fun hSS=>sp ?_)
 clear hSS
 refine tkO 0 ?_
 refine tkO 1 ?_
 refine tkO 2 ?_
 refine tkO 3 ?_
 refine tkO 4 ?_
 refine tkO 5 ?_
 refine tkO 6 ?_
 refine tkO 7 ?_
 refine wpAnyH_ready (rs:=[8,9]) (by kernel_rfl) (by simp) ?_;refine AllReadyH.cons rfl (fun KK hKK=>?_) (AllReadyH.cons rfl (fun KK hKK=>?_) (AllReadyH.nil))
 ·go_simp
  refine (HAF.out _ HD.out).mono ?_;rintro r w2 ⟨ck2,v2,hr2,ho2,hg2,hl2⟩;obtain ⟨a2,cc2,rfl⟩:=ho2.slice;obtain rfl:r=.returned (.agg #[.string ck2,.bool c2.has,.string c2.text,.int .i64 c2.sum,.slice a2 c2.list.length cc2]):=hr2;have HB2:Hid (DoB w w2 R P M m D G L T Re K key val N v.ownBlock):=hid (HD.out.after HW.out hg2 HVO.out HAP.out);have k2:=HB2.out.s hk2;rw [←HZ.out] at k2;unfold DoS at k2;have HB3:Hid (DoB w (w2.alloc (.cells #[.string ⟨#[]⟩,.bool false,.string ⟨#[]⟩,.int .i64 0,.slice none 0 0] 100)) R P M m D G L T Re K key val N v.ownBlock):=hid (HB2.out.on (bI (aW _ none) _) (fun g e=>by cases e));have k3:=HB3.out.s hk2;rw [←HZ.out] at k3;unfold DoS at k3;have HC:Hid (DoC w (w2.alloc (.cells #[.string ck2,.bool c2.has,.string c2.text,.int .i64 c2.sum,.slice a2 c2.list.length cc2] 100)) R P M m D G L T Re K key val N v.ownBlock w2.heap.size ck2 c2 (.slice a2 c2.list.length cc2)):=hid (yN HB2.out ho2 hl2 HD.out HAP.out HVO.out hg2 HLT.out);have k4:=HC.out.b.s hk2;rw [←HZ.out] at k4;unfold DoS at k4;clear ho2 hg2 hl2;refine hKK.out _ _ k2 (fun hSS=>sp ?_);clear hKK hSS
  refine wpAnyH_ready (rs:=[9]) (by kernel_rfl) (by simp) ?_;refine AllReadyH.cons rfl (fun KK hKK=>?_) (AllReadyH.nil)
  go_simp
  refine hKK.out _ _ k3 (fun hSS=>sp ?_);clear hKK hSS
  refine wpAnyH_ready (rs:=[10]) (by kernel_rfl) (by simp) ?_;refine AllReadyH.cons rfl (fun KK hKK=>?_) (AllReadyH.nil)
  go_simp
  refine hKK.out _ _ k4 (fun hSS=>sp ?_);clear hKK hSS
  refine wpAnyH_done (by kernel_rfl) ?_ _;generalize (w2.alloc (.cells #[.string ck2,.bool c2.has,.string c2.text,.int .i64 c2.sum,.slice a2 c2.list.length cc2] 100))=U at HC ⊢;generalize w2.heap.size=C at HC ⊢;clear k0 k1 k2 k3 k4 HB2 HB3 HD HDA HA;obtain ⟨p0,p1,p2,p3,p4,f0,f1,f2,f3,f4⟩:=row5 HC.out.rowC;have hlen:c2.list.length≤9223372036854775807:=by have:=HLN.out;omega
  cases hlv:live c2 with
  | false =>
   have hb:(c2.has || c2.sum != 0 || decide (0<c2.list.length))=false:=by rw [kY];exact hlv
   have HLV:=hid hlv;clear hlv;go_wp2_with (go_at_call 76;refine (lQ ck2 c2.text c2.has c2.sum a2 c2.list.length cc2 _ hlen).mono ?_;rintro r w3 ⟨rfl,hb3⟩;have HC3:Hid (DoC w w3 R P M m D G L T Re K key val N v.ownBlock C ck2 c2 (.slice a2 c2.list.length cc2)):=hid (HC.out.grown (bM hb3));have s0:w3.cell? ⟨P,0,none⟩=some (.map (some M)):=cell_of_row _ _ 0 _ _ _ HC3.out.b.but.row;have s3:w3.cell? ⟨w.heap.size,3,none⟩=some (.string key):=cell_of_row _ _ 3 _ _ _ HC3.out.b.row;clear hb3 p0 p1 p2 p3 p4 f0 f1 f2 f3 f4;rw [hb])
   go_still_tail 6,(by kernel_rfl)
   change wpList _ _ _ _ _ w3.drew
   have HC4:Hid (DoC w w3.drew R P M m D G L T Re K key val N v.ownBlock C ck2 c2 (.slice a2 c2.list.length cc2)):=hid (HC3.out.grown (dE (aW _ none)));generalize w3.drew=w4 at HC4 ⊢;clear HC3 s0 s3;go_wp2_with (at_delete;refine wpList_delete_own _ rfl _ _ 121 9 rfl 100 fF Tryz.underlying121 cF M m D rfl HC4.out.b.but.map _ (keyL key) rfl (gU hk2) ?_;intro w5 hown5 hturn5)
   go_ret;refine ⟨rfl,⟨M,D.del (keyL key),L,?_,HBP.out,HBM.out⟩,?_,?_⟩
   ·have e : gv G ⟨T, Re, K, key, val, N⟩ = upd G key cel0 := by
     show upd G key (cm (G key) ⟨T,Re,K,key,val,N⟩)=_
     rw [←HC2.out,Neat.dead (by rw [HC2.out];exact (HW.out.neat key).step _) HLV.out]
    rw [e];exact HC4.out.b.but.del hown5 hturn5
   ·exact kk HC4.out.b HVO.out HBP.out HBM.out HW.out.pr hturn5.grown
   ·exact ko HC4.out.b HO.out HW.out hturn5.grown
  | true =>
   have hb:(c2.has || c2.sum != 0 || decide (0<c2.list.length))=true:=by rw [kY];exact hlv
   have HLV:=hid hlv;clear hlv;go_wp2_with (first
    | (go_at_call 76;refine (lQ ck2 c2.text c2.has c2.sum a2 c2.list.length cc2 _ hlen).mono ?_;rintro r w3 ⟨rfl,hb3⟩;have HC3:Hid (DoC w w3 R P M m D G L T Re K key val N v.ownBlock C ck2 c2 (.slice a2 c2.list.length cc2)):=hid (HC.out.grown (bM hb3));have s3:w3.cell? ⟨w.heap.size,3,none⟩=some (.string key):=cell_of_row _ _ 3 _ _ _ HC3.out.b.row;clear hb3 p0 p1 p2 p3 p4 f0 f1 f2 f3 f4;rw [hb])
    | (go_at_call 74;refine (bP key _ hk3).mono ?_;rintro r w4 ⟨rfl,hb4⟩;have HC4:Hid (DoC w w4 R P M m D G L T Re K key val N v.ownBlock C ck2 c2 (.slice a2 c2.list.length cc2)):=hid (HC3.out.grown (bM hb4));clear hb4;obtain ⟨p0,_,_,_,_,f0,_⟩:=row5 HC4.out.rowC))
   have HC5:Hid (DoC w (w4.setCell ⟨C,0,none⟩ (.string key)) R P M m D G L T Re K key val N v.ownBlock C key c2 (.slice a2 c2.list.length cc2)):=hid HC4.out.key;obtain ⟨w5,hw5⟩:∃ w5,w5=w4.setCell ⟨C,0,none⟩ (.string key):=⟨_,rfl⟩;rw [←hw5] at HC5 ⊢;have t0:w5.cell? ⟨P,0,none⟩=some (.map (some M)):=cell_of_row _ _ 0 _ _ _ HC5.out.b.but.row;obtain ⟨g0,g1,g2,g3,g4,_⟩:=row5 HC5.out.rowC;clear hw5 p0 f0 s3 HC4 HC3
   go_still_tail 7,(by kernel_rfl)
   change wpList _ _ _ _ _ w5.drew
   have HC6:Hid (DoC w w5.drew R P M m D G L T Re K key val N v.ownBlock C key c2 (.slice a2 c2.list.length cc2)):=hid (HC5.out.grown (dE (aW _ none)));generalize w5.drew=w6 at HC6 ⊢;clear HC5 t0 g0 g1 g2 g3 g4;go_wp2_with (at_mapUpdate;refine wpList_mapUpdate_own _ rfl _ _ _ 121 rfl 9 100 fF Tryz.underlying121 cF M m D rfl HC6.out.b.but.map (by have:=HM.out;unfold maxLen;omega) _ (cvV ⟨key,c2.has,c2.text,c2.sum,.slice a2 c2.list.length cc2⟩) (keyL key) rfl rfl (gU hk2) _ [] (kg _) ?_;intro w7 hown7 hgrow7)
   go_ret;refine ⟨rfl,⟨M,D.put (keyL key) (.held (cvV ⟨key,c2.has,c2.text,c2.sum,.slice a2 c2.list.length cc2⟩)),upd L key (.slice a2 c2.list.length cc2),?_,HBP.out,HBM.out⟩,?_,?_⟩
   ·have e : gv G ⟨T, Re, K, key, val, N⟩ = upd G key c2 := by
     show upd G key (cm (G key) ⟨T,Re,K,key,val,N⟩)=_
     rw [←HC2.out]
    rw [e];exact HC6.out.b.but.put c2 _ HLV.out (by rw [HC2.out];exact (HW.out.neat key).step _) (by rw [HC2.out];exact Nat.le_trans (oJ _ _) (Nat.succ_le_succ (HW.out.len key))) (by rw [HC2.out];exact tS (HW.out.text key) hv3) HC6.out.own HC6.out.ap hown7 hgrow7
   ·exact kk HC6.out.b HVO.out HBP.out HBM.out HW.out.pr hgrow7
   ·exact ko HC6.out.b HO.out HW.out hgrow7
 ·go_simp
  refine hKK.out _ _ k1 (fun hSS=>sp ?_);clear hKK hSS
  refine wpAnyH_ready (rs:=[8]) (by kernel_rfl) (by simp) ?_;refine AllReadyH.cons rfl (fun KK hKK=>?_) (AllReadyH.nil)
  go_simp
  refine (HAF.out _ HDA.out).mono ?_;rintro r w2 ⟨ck2,v2,hr2,ho2,hg2,hl2⟩;obtain ⟨a2,cc2,rfl⟩:=ho2.slice;obtain rfl:r=.returned (.agg #[.string ck2,.bool c2.has,.string c2.text,.int .i64 c2.sum,.slice a2 c2.list.length cc2]):=hr2;have HB2:Hid (DoB w w2 R P M m D G L T Re K key val N v.ownBlock):=hid (HDA.out.after HW.out hg2 HVO.out HAP.out);have k2:=HB2.out.s hk2;rw [←HZ.out] at k2;unfold DoS at k2;have hrz:=Hid.out (yP hg2 HA.out HVO.out (hid HB.out.gr.size));obtain ⟨q0,q1,q2,q3,q4,g0,g1,g2,g3,g4⟩:=row5 hrz;have HC:Hid (DoC w (((((w2.setCell ⟨w1.heap.size,0,none⟩ (.string ck2)).setCell ⟨w1.heap.size,1,none⟩ (.bool c2.has)).setCell ⟨w1.heap.size,2,none⟩ (.string c2.text)).setCell ⟨w1.heap.size,3,none⟩ (.int .i64 c2.sum)).setCell ⟨w1.heap.size,4,none⟩ (.slice a2 c2.list.length cc2)) R P M m D G L T Re K key val N v.ownBlock w1.heap.size ck2 c2 (.slice a2 c2.list.length cc2)):=hid (yO HB2.out ho2 hl2 hrz HAP.out HVO.out hg2 HLT.out HB.out);have k3:=HC.out.b.s hk2;rw [←HZ.out] at k3;unfold DoS at k3;clear ho2 hg2 hl2 hrz;refine hKK.out _ _ k2 (fun hSS=>sp ?_);clear hKK hSS
  refine wpAnyH_ready (rs:=[10]) (by kernel_rfl) (by simp) ?_;refine AllReadyH.cons rfl (fun KK hKK=>?_) (AllReadyH.nil)
  go_simp
  refine hKK.out _ _ k3 (fun hSS=>sp ?_);clear hKK hSS
  refine wpAnyH_done (by kernel_rfl) ?_ _;generalize (((((w2.setCell ⟨w1.heap.size,0,none⟩ (.string ck2)).setCell ⟨w1.heap.size,1,none⟩ (.bool c2.has)).setCell ⟨w1.heap.size,2,none⟩ (.string c2.text)).setCell ⟨w1.heap.size,3,none⟩ (.int .i64 c2.sum)).setCell ⟨w1.heap.size,4,none⟩ (.slice a2 c2.list.length cc2))=U at HC ⊢;generalize w1.heap.size=C at HC ⊢;clear k0 k1 k2 k3 HB2 HD HDA HA q0 q1 q2 q3 q4 g0 g1 g2 g3 g4;obtain ⟨p0,p1,p2,p3,p4,f0,f1,f2,f3,f4⟩:=row5 HC.out.rowC;have hlen:c2.list.length≤9223372036854775807:=by have:=HLN.out;omega
  cases hlv:live c2 with
  | false =>
   have hb:(c2.has || c2.sum != 0 || decide (0<c2.list.length))=false:=by rw [kY];exact hlv
   have HLV:=hid hlv;clear hlv;go_wp2_with (go_at_call 76;refine (lQ ck2 c2.text c2.has c2.sum a2 c2.list.length cc2 _ hlen).mono ?_;rintro r w3 ⟨rfl,hb3⟩;have HC3:Hid (DoC w w3 R P M m D G L T Re K key val N v.ownBlock C ck2 c2 (.slice a2 c2.list.length cc2)):=hid (HC.out.grown (bM hb3));have s0:w3.cell? ⟨P,0,none⟩=some (.map (some M)):=cell_of_row _ _ 0 _ _ _ HC3.out.b.but.row;have s3:w3.cell? ⟨w.heap.size,3,none⟩=some (.string key):=cell_of_row _ _ 3 _ _ _ HC3.out.b.row;clear hb3 p0 p1 p2 p3 p4 f0 f1 f2 f3 f4;rw [hb])
   go_still_tail 6,(by kernel_rfl)
   change wpList _ _ _ _ _ w3.drew
   have HC4:Hid (DoC w w3.drew R P M m D G L T Re K key val N v.ownBlock C ck2 c2 (.slice a2 c2.list.length cc2)):=hid (HC3.out.grown (dE (aW _ none)));generalize w3.drew=w4 at HC4 ⊢;clear HC3 s0 s3;go_wp2_with (at_delete;refine wpList_delete_own _ rfl _ _ 121 9 rfl 100 fF Tryz.underlying121 cF M m D rfl HC4.out.b.but.map _ (keyL key) rfl (gU hk2) ?_;intro w5 hown5 hturn5)
   go_ret;refine ⟨rfl,⟨M,D.del (keyL key),L,?_,HBP.out,HBM.out⟩,?_,?_⟩
   ·have e : gv G ⟨T, Re, K, key, val, N⟩ = upd G key cel0 := by
     show upd G key (cm (G key) ⟨T,Re,K,key,val,N⟩)=_
     rw [←HC2.out,Neat.dead (by rw [HC2.out];exact (HW.out.neat key).step _) HLV.out]
    rw [e];exact HC4.out.b.but.del hown5 hturn5
   ·exact kk HC4.out.b HVO.out HBP.out HBM.out HW.out.pr hturn5.grown
   ·exact ko HC4.out.b HO.out HW.out hturn5.grown
  | true =>
   have hb:(c2.has || c2.sum != 0 || decide (0<c2.list.length))=true:=by rw [kY];exact hlv
   have HLV:=hid hlv;clear hlv;go_wp2_with (first
    | (go_at_call 76;refine (lQ ck2 c2.text c2.has c2.sum a2 c2.list.length cc2 _ hlen).mono ?_;rintro r w3 ⟨rfl,hb3⟩;have HC3:Hid (DoC w w3 R P M m D G L T Re K key val N v.ownBlock C ck2 c2 (.slice a2 c2.list.length cc2)):=hid (HC.out.grown (bM hb3));have s3:w3.cell? ⟨w.heap.size,3,none⟩=some (.string key):=cell_of_row _ _ 3 _ _ _ HC3.out.b.row;clear hb3 p0 p1 p2 p3 p4 f0 f1 f2 f3 f4;rw [hb])
    | (go_at_call 74;refine (bP key _ hk3).mono ?_;rintro r w4 ⟨rfl,hb4⟩;have HC4:Hid (DoC w w4 R P M m D G L T Re K key val N v.ownBlock C ck2 c2 (.slice a2 c2.list.length cc2)):=hid (HC3.out.grown (bM hb4));clear hb4;obtain ⟨p0,_,_,_,_,f0,_⟩:=row5 HC4.out.rowC))
   have HC5:Hid (DoC w (w4.setCell ⟨C,0,none⟩ (.string key)) R P M m D G L T Re K key val N v.ownBlock C key c2 (.slice a2 c2.list.length cc2)):=hid HC4.out.key;obtain ⟨w5,hw5⟩:∃ w5,w5=w4.setCell ⟨C,0,none⟩ (.string key):=⟨_,rfl⟩;rw [←hw5] at HC5 ⊢;have t0:w5.cell? ⟨P,0,none⟩=some (.map (some M)):=cell_of_row _ _ 0 _ _ _ HC5.out.b.but.row;obtain ⟨g0,g1,g2,g3,g4,_⟩:=row5 HC5.out.rowC;clear hw5 p0 f0 s3 HC4 HC3
   go_still_tail 7,(by kernel_rfl)
   change wpList _ _ _ _ _ w5.drew
   have HC6:Hid (DoC w w5.drew R P M m D G L T Re K key val N v.ownBlock C key c2 (.slice a2 c2.list.length cc2)):=hid (HC5.out.grown (dE (aW _ none)));generalize w5.drew=w6 at HC6 ⊢;clear HC5 t0 g0 g1 g2 g3 g4;go_wp2_with (at_mapUpdate;refine wpList_mapUpdate_own _ rfl _ _ _ 121 rfl 9 100 fF Tryz.underlying121 cF M m D rfl HC6.out.b.but.map (by have:=HM.out;unfold maxLen;omega) _ (cvV ⟨key,c2.has,c2.text,c2.sum,.slice a2 c2.list.length cc2⟩) (keyL key) rfl rfl (gU hk2) _ [] (kg _) ?_;intro w7 hown7 hgrow7)
   go_ret;refine ⟨rfl,⟨M,D.put (keyL key) (.held (cvV ⟨key,c2.has,c2.text,c2.sum,.slice a2 c2.list.length cc2⟩)),upd L key (.slice a2 c2.list.length cc2),?_,HBP.out,HBM.out⟩,?_,?_⟩
   ·have e : gv G ⟨T, Re, K, key, val, N⟩ = upd G key c2 := by
     show upd G key (cm (G key) ⟨T,Re,K,key,val,N⟩)=_
     rw [←HC2.out]
    rw [e];exact HC6.out.b.but.put c2 _ HLV.out (by rw [HC2.out];exact (HW.out.neat key).step _) (by rw [HC2.out];exact Nat.le_trans (oJ _ _) (Nat.succ_le_succ (HW.out.len key))) (by rw [HC2.out];exact tS (HW.out.text key) hv3) HC6.out.own HC6.out.ap hown7 hgrow7
   ·exact kk HC6.out.b HVO.out HBP.out HBM.out HW.out.pr hgrow7
   ·exact ko HC6.out.b HO.out HW.out hgrow7
