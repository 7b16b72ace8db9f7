import Derived.Test.YtifbebhgeheooaaGreatDoorKl04
import Derived.Maps.RangeWalk
import Derived.StringKeys
namespace Go.Proofs.YtifbebhgeheooaaGreatDoor
open Go.Maps
structure CV where
 key:ByteArray
 has:Bool
 text:ByteArray
 sum:Int
 list:Value
def cvC (c:CV):List Value:=[.string c.key,.bool c.has,.string c.text,.int .i64 c.sum,c.list]
def cvV (c:CV):Value:=.agg (cvC c).toArray
def cv0:CV:=⟨⟨#[]⟩,false,⟨#[]⟩,0,.slice none 0 0⟩
instance : Inhabited CV := ⟨cv0⟩
theorem cvV_inj {a b:CV} (h:cvV a=cvV b):a=b:=by
 cases a;cases b
 injection h with h
 cases h
 rfl
open Classical in
noncomputable def cellR (v:Value):Option (DataW Value×List MemPlace):=if ∃ c,v=cvV c then some (.held v,[]) else none
theorem cellR_mk (c:CV):cellR (cvV c)=some (.held (cvV c),[]):=by unfold cellR;rw [if_pos ⟨c,rfl⟩]
theorem cellR_inv {v:Value} {z:DataW Value×List MemPlace} (h:cellR v=some z):∃ c,v=cvV c∧z=(.held (cvV c),[]):=by
 unfold cellR at h
 split at h
 · rename_i hc
   obtain ⟨c,rfl⟩:=hc
   exact ⟨c,rfl,(Option.some.inj h).symm⟩
 · cases h
def upd {α:Type} (f:ByteArray→α) (k:ByteArray) (x:α):ByteArray→α:=fun j=>if j=k then x else f j
theorem upd_same {α:Type} (f:ByteArray→α) (k:ByteArray) (x:α):upd f k x k=x:=if_pos rfl
theorem upd_other {α:Type} (f:ByteArray→α) {k j:ByteArray} (x:α) (h:j≠k):upd f k x j=f j:=if_neg h
def cvOf (G:ByteArray→Cel) (L:ByteArray→Value) (k:ByteArray):CV:=if live (G k)=true then ⟨k,(G k).has,(G k).text,(G k).sum,L k⟩ else cv0
theorem cvOf_live {G:ByteArray→Cel} {L:ByteArray→Value} {k:ByteArray} (h:live (G k)=true):cvOf G L k=⟨k,(G k).has,(G k).text,(G k).sum,L k⟩:=if_pos h
theorem cvOf_dead {G:ByteArray→Cel} {L:ByteArray→Value} {k:ByteArray} (h:live (G k)=false):cvOf G L k=cv0:=if_neg (by rw [h];simp)
structure StoD (D:DataW Value) (G:ByteArray→Cel) (L:ByteArray→Value):Prop where
 isMap:IsMap D
 has:∀ k,Maps.has D (keyL k)=live (G k)
 at':∀ k,D.atKey (keyL k) (.held (cvV cv0))=.held (cvV (cvOf G L k))
 dead:∀ k,live (G k)=false→G k=cel0
theorem stoD_nil:StoD (.map []) (fun _=>cel0) (fun _=>.slice none 0 0):=⟨isMap_empty,fun _=>rfl,fun k=>by rw [cvOf_dead (by rfl)];rfl,fun _ _=>rfl⟩
theorem StoD.put {D:DataW Value} {G:ByteArray→Cel} {L:ByteArray→Value} (h:StoD D G L) (k:ByteArray) (c:Cel) (v:Value) (hc:live c=true) :
   StoD (D.put (keyL k) (.held (cvV ⟨k,c.has,c.text,c.sum,v⟩))) (upd G k c) (upd L k v):=by
 refine ⟨h.isMap.put _ _,fun j=>?_,fun j=>?_,fun j hj=>?_⟩
 · by_cases e:j=k
   · subst e;rw [has_put_same h.isMap (keyL_key _),upd_same,hc]
   · rw [has_put_other (fun e2=>e (keyL_inj e2)),upd_other _ _ e];exact h.has j
 · by_cases e:j=k
   · subst e;rw [atKey_put_same h.isMap (keyL_key _),cvOf_live (by rw [upd_same];exact hc),upd_same,upd_same]
   · rw [atKey_put_other (fun e2=>e (keyL_inj e2)),h.at' j];unfold cvOf;rw [upd_other _ _ e,upd_other _ _ e]
 · by_cases e:j=k
   · subst e;rw [upd_same] at hj;rw [hj] at hc;cases hc
   · rw [upd_other _ _ e] at hj ⊢;exact h.dead j hj
theorem StoD.del {D:DataW Value} {G:ByteArray→Cel} {L:ByteArray→Value} (h:StoD D G L) (k:ByteArray):StoD (D.del (keyL k)) (upd G k cel0) L:=by
 refine ⟨h.isMap.del _,fun j=>?_,fun j=>?_,fun j hj=>?_⟩
 · by_cases e:j=k
   · subst e;rw [has_del_same,upd_same];rfl
   · rw [has_del_other (fun e2=>e (keyL_inj e2)),upd_other _ _ e];exact h.has j
 · by_cases e:j=k
   · subst e;rw [atKey_del_same,cvOf_dead (by rw [upd_same];rfl)]
   · rw [atKey_del_other (fun e2=>e (keyL_inj e2)),h.at' j];unfold cvOf;rw [upd_other _ _ e]
 · by_cases e:j=k
   · subst e;exact upd_same _ _ _
   · rw [upd_other _ _ e] at hj ⊢;exact h.dead j hj
theorem StoD.entry {D:DataW Value} {G:ByteArray→Cel} {L:ByteArray→Value} (h:StoD D G L) {k:ByteArray} {c:CV} (hat:∀ zd,D.atKey (keyL k) zd=.held (cvV c)):live (G k)=true∧c=⟨k,(G k).has,(G k).text,(G k).sum,L k⟩:=by
 have h1:=has_true_of_atKey hat
 rw [h.has] at h1
 refine ⟨h1,?_⟩
 have h2:=hat (.held (cvV cv0))
 rw [h.at',cvOf_live h1] at h2
 exact (cvV_inj (DataW.held.inj h2)).symm
def stepG (G:ByteArray→Cel) (x:Wr):ByteArray→Cel:=upd G x.key (stepC (G x.key) x)
def Neat (c:Cel):Prop:=c.has=false→c.text=⟨#[]⟩
theorem neat0:Neat cel0:=fun _=>rfl
theorem Neat.step {c:Cel} (h:Neat c) (x:Wr):Neat (stepC c x):=by
 unfold stepC
 split
 · intro e;cases e
 · split
   · exact neat0
   · split
     · exact h
     · split
       · exact h
       · exact h
theorem Neat.dead {c:Cel} (h:Neat c) (hd:live c=false):c=cel0:=by
 cases c with
 | mk ha te su li =>
   simp only [live,Bool.or_eq_false_iff,bne_eq_false_iff_eq,Bool.not_eq_false',List.isEmpty_iff] at hd
   obtain ⟨⟨rfl,rfl⟩,rfl⟩:=hd
   have:=h rfl
   simp only at this
   subst this
   rfl
theorem stepG_cellK (l:List Wr) (x:Wr):stepG (cellK l) x=cellK (l ++ [x]):=by
 funext j
 unfold stepG
 by_cases e:j=x.key
 · subst e;rw [upd_same];simp [cellK,List.filter_append]
 · rw [upd_other _ _ e];simp [cellK,List.filter_append,Ne.symm e]
theorem cellK_nil:cellK []=fun _=>cel0:=rfl
end Go.Proofs.YtifbebhgeheooaaGreatDoor
namespace Go.Proofs.YtifbebhgeheooaaGreatDoor
open Go.RowKit Go.Maps
theorem keyedS2:Keyed Tryz.prog 9:=string_keyed Tryz.underlying9
theorem keyS2 {s:ByteArray} (h:s.size≤maxLen):keyOf Tryz.prog 9 (.string s)=some (keyL s):=Go.WideMaps.keyOf_string_mk Tryz.underlying9 h
theorem zeroC (w:World):(zeroValue 59).run Tryz.prog w=.ok (cvV cv0) w:=by kernel_rfl
structure StoIn (w:World) (R P M m:Nat) (D:DataW Value) (G:ByteArray→Cel) (L:ByteArray→Value):Prop where
 row:w.heap[P]? = some (.cells #[.map (some M)] 195 (0,0))
 map:w.ownsMap Tryz.prog 9 cellR M m D
 sto:StoD D G L
 own:∀ k,live (G k)=true→ownsS w R (L k) (G k).list
 apart:∀ j k,live (G j)=true→live (G k)=true→j≠k→(L j).ownBlock=none∨(L j).ownBlock≠(L k).ownBlock
 len:∀ k,(G k).list.length≤m
 text:∀ k,(G k).text.size≤140737488351232∧∀ s∈(G k).list,s.size≤140737488351232
 neat:∀ k,Neat (G k)
 pr:P < R
 mr:M < R
 rw':R≤w.heap.size
 pm:P≠M
theorem StoIn.pw {w:World} {R P M m:Nat} {D:DataW Value} {G:ByteArray→Cel} {L:ByteArray→Value} (h:StoIn w R P M m D G L):P < w.heap.size:=Nat.lt_of_lt_of_le h.pr h.rw'
theorem StoIn.grown {w w':World} {R P M m:Nat} {D:DataW Value} {G:ByteArray→Cel} {L:ByteArray→Value} (h:StoIn w R P M m D G L) (hg:w.grownBy w' none):StoIn w' R P M m D G L :=
 { h with
   row:=(hg.block P h.pw (by simp)).trans h.row
   map:=h.map.kept hg (by simp)
   own:=fun k hk=>World.ownsRow.kept (h.own k hk) hg (by cases hv:(L k).ownBlock with
     | none=>exact .inl rfl
     | some g=>exact .inr (by simp))
   rw':=Nat.le_trans h.rw' hg.size }
theorem StoIn.below {w w':World} {R P M m:Nat} {D:DataW Value} {G:ByteArray→Cel} {L:ByteArray→Value} (h:StoIn w R P M m D G L) (hb:Below w.heap.size w w'):StoIn w' R P M m D G L :=
 h.grown ⟨hb.os,hb.tape,hb.output,hb.size,fun k hk _=>hb.block k hk⟩
theorem StoIn.alloc {w:World} {R P M m:Nat} {D:DataW Value} {G:ByteArray→Cel} {L:ByteArray→Value} (h:StoIn w R P M m D G L) (o:Obj):StoIn (w.alloc o) R P M m D G L:=h.grown (World.grownBy_alloc _ _ _)
theorem StoIn.drew {w:World} {R P M m:Nat} {D:DataW Value} {G:ByteArray→Cel} {L:ByteArray→Value} (h:StoIn w R P M m D G L):StoIn w.drew R P M m D G L:=h.below (Below.drew (Below.refl _ _))
theorem StoIn.drewN {w:World} {R P M m:Nat} {D:DataW Value} {G:ByteArray→Cel} {L:ByteArray→Value} (h:StoIn w R P M m D G L) (n:Nat):StoIn (w.drewN n) R P M m D G L:=h.below (below_drewN (Below.refl _ _) n)
structure StoBut (w:World) (R P M m:Nat) (D:DataW Value) (G:ByteArray→Cel) (L:ByteArray→Value) (k:ByteArray):Prop where
 row:w.heap[P]? = some (.cells #[.map (some M)] 195 (0,0))
 map:w.ownsMap Tryz.prog 9 cellR M m D
 sto:StoD D G L
 own:∀ j,j≠k→live (G j)=true→ownsS w R (L j) (G j).list
 apart:∀ i j,i≠k→j≠k→live (G i)=true→live (G j)=true→i≠j→(L i).ownBlock=none∨(L i).ownBlock≠(L j).ownBlock
 len:∀ j,(G j).list.length≤m
 text:∀ k,(G k).text.size≤140737488351232∧∀ s∈(G k).list,s.size≤140737488351232
 neat:∀ k,Neat (G k)
 pr:P < R
 mr:M < R
 rw':R≤w.heap.size
 pm:P≠M
theorem StoIn.but {w w':World} {R P M m:Nat} {D:DataW Value} {G:ByteArray→Cel} {L:ByteArray→Value} (h:StoIn w R P M m D G L) (k:ByteArray) {o:Option Nat} (hg:w.grownBy w' o) (ho:∀ g,o=some g→R≤g)
   (hk:∀ j,j≠k→live (G j)=true→(L j).ownBlock=none∨(L j).ownBlock≠o):StoBut w' R P M m D G L k :=
 { row:=(hg.block P h.pw (fun e=>by have:=ho P e.symm;have:=h.pr;omega)).trans h.row
   map:=h.map.kept hg (fun e=>by have:=ho M e.symm;have:=h.mr;omega)
   sto:=h.sto
   own:=fun j hj hl=>World.ownsRow.kept (h.own j hl) hg (hk j hj hl)
   apart:=fun i j _ _=>h.apart i j
   len:=h.len
   text:=h.text
   neat:=h.neat
   pr:=h.pr,mr:=h.mr,rw':=Nat.le_trans h.rw' hg.size,pm:=h.pm }
theorem StoBut.grown {w w':World} {R P M m:Nat} {D:DataW Value} {G:ByteArray→Cel} {L:ByteArray→Value} {k:ByteArray} (h:StoBut w R P M m D G L k) (hg:w.grownBy w' none):StoBut w' R P M m D G L k :=
 { h with
   row:=(hg.block P (Nat.lt_of_lt_of_le h.pr h.rw') (by simp)).trans h.row
   map:=h.map.kept hg (by simp)
   own:=fun j hj hk=>World.ownsRow.kept (h.own j hj hk) hg (by cases hv:(L j).ownBlock with
     | none=>exact .inl rfl
     | some g=>exact .inr (by simp))
   rw':=Nat.le_trans h.rw' hg.size }
theorem StoBut.del {w w':World} {R P M m:Nat} {D:DataW Value} {G:ByteArray→Cel} {L:ByteArray→Value} {k:ByteArray} (h:StoBut w R P M m D G L k) (hm:w'.ownsMap Tryz.prog 9 cellR M m (D.del (keyL k))) (ht:w.mapTurned w' M) :
   StoIn w' R P M (m + 1) (D.del (keyL k)) (upd G k cel0) L :=
 have hg:=ht.grown
 { row:=(hg.block P (Nat.lt_of_lt_of_le h.pr h.rw') (fun e=>h.pm (Option.some.inj e))).trans h.row
   map:=hm.mono (Nat.le_succ m)
   sto:=h.sto.del k
   own:=fun j hl=>by
     by_cases e:j=k
     · subst e;rw [upd_same] at hl;cases hl
     · rw [upd_other _ _ e] at hl ⊢
       refine World.ownsRow.kept (h.own j e hl) hg ?_
       cases hv:(L j).ownBlock with
       | none=>exact .inl rfl
       | some g=>exact .inr (fun e2=>by have:=((h.own j e hl).lt g hv).1;have:=h.mr;have e3:g=M:=Option.some.inj e2;omega)
   apart:=fun i j hi hj hne=>by
     have hi':i≠k:=fun e=>by subst e;rw [upd_same] at hi;cases hi
     have hj':j≠k:=fun e=>by subst e;rw [upd_same] at hj;cases hj
     rw [upd_other _ _ hi'] at hi
     rw [upd_other _ _ hj'] at hj
     exact h.apart i j hi' hj' hi hj hne
   len:=fun j=>by
     by_cases e:j=k
     · subst e;rw [upd_same];exact Nat.zero_le _
     · rw [upd_other _ _ e];exact Nat.le_succ_of_le (h.len j)
   text:=fun j=>by
     by_cases e:j=k
     · subst e;rw [upd_same];exact ⟨Nat.zero_le _,fun s hs=>by cases hs⟩
     · rw [upd_other _ _ e];exact h.text j
   neat:=fun j=>by
     by_cases e:j=k
     · subst e;rw [upd_same];exact neat0
     · rw [upd_other _ _ e];exact h.neat j
   pr:=h.pr,mr:=h.mr,rw':=Nat.le_trans h.rw' hg.size,pm:=h.pm }
theorem StoBut.put {w w':World} {R P M m:Nat} {D:DataW Value} {G:ByteArray→Cel} {L:ByteArray→Value} {k:ByteArray} (h:StoBut w R P M m D G L k) (c:Cel) (v:Value) (hc:live c=true) (hn:Neat c) (hl:c.list.length≤m + 1)
   (htx:c.text.size≤140737488351232∧∀ s∈c.list,s.size≤140737488351232) (hv:ownsS w R v c.list)
   (hap:∀ j,j≠k→live (G j)=true→(L j).ownBlock=none∨(L j).ownBlock≠v.ownBlock)
   (hm:w'.ownsMap Tryz.prog 9 cellR M (m + 1) (D.put (keyL k) (.held (cvV ⟨k,c.has,c.text,c.sum,v⟩)))) (hg:w.grownBy w' (some M)) :
   StoIn w' R P M (m + 1) (D.put (keyL k) (.held (cvV ⟨k,c.has,c.text,c.sum,v⟩))) (upd G k c) (upd L k v) :=
 have hkeep:∀ (u:Value) (l:List ByteArray),ownsS w R u l→ownsS w' R u l:=fun u l hu=>by
   refine World.ownsRow.kept hu hg ?_
   cases e:u.ownBlock with
   | none=>exact .inl rfl
   | some g=>exact .inr (fun e2=>by have:=(hu.lt g e).1;have:=h.mr;have e3:g=M:=Option.some.inj e2;omega)
 { row:=(hg.block P (Nat.lt_of_lt_of_le h.pr h.rw') (fun e=>h.pm (Option.some.inj e))).trans h.row
   map:=hm
   sto:=h.sto.put k c v hc
   own:=fun j hj=>by
     by_cases e:j=k
     · subst e;rw [upd_same,upd_same];exact hkeep _ _ hv
     · rw [upd_other _ _ e] at hj ⊢;rw [upd_other _ _ e];exact hkeep _ _ (h.own j e hj)
   apart:=fun i j hi hj hne=>by
     by_cases ei:i=k
     · subst ei
       have ej:j≠i:=Ne.symm hne
       rw [upd_same,upd_other _ _ ej]
       rw [upd_other _ _ ej] at hj
       rcases hap j ej hj with h1 | h1
       · cases e:v.ownBlock with
         | none=>exact .inl rfl
         | some g=>exact .inr (by rw [h1];simp)
       · exact .inr (Ne.symm h1)
     · rw [upd_other _ _ ei] at hi
       by_cases ej:j=k
       · subst ej
         rw [upd_same,upd_other _ _ ei]
         exact hap i ei hi
       · rw [upd_other _ _ ej] at hj
         rw [upd_other _ _ ei,upd_other _ _ ej]
         exact h.apart i j ei ej hi hj hne
   len:=fun j=>by
     by_cases e:j=k
     · subst e;rw [upd_same];exact hl
     · rw [upd_other _ _ e];exact Nat.le_succ_of_le (h.len j)
   text:=fun j=>by
     by_cases e:j=k
     · subst e;rw [upd_same];exact htx
     · rw [upd_other _ _ e];exact h.text j
   neat:=fun j=>by
     by_cases e:j=k
     · subst e;rw [upd_same];exact hn
     · rw [upd_other _ _ e];exact h.neat j
   pr:=h.pr,mr:=h.mr,rw':=Nat.le_trans h.rw' hg.size,pm:=h.pm }
theorem StoIn.mono {w:World} {R P M m n:Nat} {D:DataW Value} {G:ByteArray→Cel} {L:ByteArray→Value} (h:StoIn w R P M m D G L) (hn:m≤n):StoIn w R P M n D G L :=
 { h with map:=h.map.mono hn,len:=fun k=>Nat.le_trans (h.len k) hn }
theorem StoIn.look {w:World} {R P M m:Nat} {D:DataW Value} {G:ByteArray→Cel} {L:ByteArray→Value} (h:StoIn w R P M m D G L) (k:ByteArray) (hk:k.size≤maxLen) :
   (Instr.lookup 193 (.map (some M)) (.string k) false).run Tryz.prog w=.ok (cvV (cvOf G L k)) w:=by
 obtain ⟨v,ps,h1,h2⟩:=h.map.lookup keyedS2 Tryz.underlying193 (zeroC w) (cellR_mk cv0) (keyS2 hk)
 rw [h.sto.at'] at h2
 obtain ⟨c,rfl,hc⟩:=cellR_inv h2
 rw [h1]
 simp only [Prod.mk.injEq] at hc
 rw [cvV_inj (DataW.held.inj hc.1)]
def StoAt (w:World) (R P m:Nat) (G:ByteArray→Cel):Prop:=∃ M D L,StoIn w R P M m D G L
theorem StoAt.grown {w w':World} {R P m:Nat} {G:ByteArray→Cel} (h:StoAt w R P m G) (hg:w.grownBy w' none):StoAt w' R P m G:=by obtain ⟨M,D,L,h⟩:=h;exact ⟨M,D,L,h.grown hg⟩
theorem StoAt.below {w w':World} {R P m:Nat} {G:ByteArray→Cel} (h:StoAt w R P m G) (hb:Below w.heap.size w w'):StoAt w' R P m G:=by obtain ⟨M,D,L,h⟩:=h;exact ⟨M,D,L,h.below hb⟩
theorem StoAt.alloc {w:World} {R P m:Nat} {G:ByteArray→Cel} (h:StoAt w R P m G) (o:Obj):StoAt (w.alloc o) R P m G:=h.grown (World.grownBy_alloc _ _ _)
theorem StoAt.mono {w:World} {R P m n:Nat} {G:ByteArray→Cel} (h:StoAt w R P m G) (hn:m≤n):StoAt w R P n G:=by obtain ⟨M,D,L,h⟩:=h;exact ⟨M,D,L,h.mono hn⟩
end Go.Proofs.YtifbebhgeheooaaGreatDoor
namespace Go.Proofs.YtifbebhgeheooaaGreatDoor
open Go.RowKit
theorem info_cv:(Tryz.prog.info? 59).map (fun i=>(i.zero,i.size,i.bytes))=some (some (.agg #[.string ⟨#[]⟩,.bool false,.string ⟨#[]⟩,.int .i64 0,.slice none 0 0]),5,72):=by kernel_rfl
def cvsC (l:List CV):List Value:=l.flatMap cvC
theorem cvsC_len (l:List CV):(cvsC l).length=l.length * 5:=by
 induction l with
 | nil=>rfl
 | cons t r ih=>simp only [cvsC,List.flatMap_cons,List.length_append,List.length_cons] at ih ⊢;rw [ih];simp [cvC];omega
theorem cvsC_app (a b:List CV):cvsC (a ++ b)=cvsC a ++ cvsC b:=by simp [cvsC]
theorem cvsC_one (a:CV):cvsC [a]=cvC a:=by simp [cvsC]
theorem cvsC_at (l:List CV) (i j:Nat) (t:CV) (h:l[i]? = some t) (hj:j < 5):(cvsC l)[i * 5 + j]? = (cvC t)[j]? := by
 induction l generalizing i with
 | nil=>simp at h
 | cons u r ih =>
   have hc:cvsC (u :: r)=cvC u ++ cvsC r:=by simp [cvsC]
   have h3:(cvC u).length=5:=rfl
   rw [hc]
   cases i with
   | zero =>
     obtain rfl:u=t:=by simpa using h
     rw [List.getElem?_append_left (by omega)]
     congr 1;omega
   | succ i =>
     rw [List.getElem?_append_right (by omega),h3,show (i + 1) * 5 + j - 5=i * 5 + j by omega]
     exact ih i (by simpa using h)
theorem cvC_cell {t:CV} (h:t.list.oneCell'=true):∀ u∈cvC t,u.oneCell'=true:=by
 intro u hu
 simp [cvC] at hu
 rcases hu with rfl | rfl | rfl | rfl | rfl <;> first | rfl | exact h
def ownsC (w:World) (base:Nat) (v:Value) (l:List CV):Prop:=w.ownsRow base 59 5 v l.length (cvsC l)
theorem ownsC_nil (w:World) (base:Nat):ownsC w base (.slice none 0 0) []:=World.ownsRow_nil _ _ _ _
theorem ownsC.alloc {w:World} {base:Nat} {v:Value} {l:List CV} (h:ownsC w base v l) (o:Obj):ownsC (w.alloc o) base v l:=World.ownsRow.alloc h o
theorem ownsC.drew {w:World} {base:Nat} {v:Value} {l:List CV} (h:ownsC w base v l):ownsC w.drew base v l:=World.ownsRow.drew h
theorem ownsC.drewN {w:World} {base:Nat} {v:Value} {l:List CV} (h:ownsC w base v l) (n:Nat):ownsC (w.drewN n) base v l:=h
theorem ownsC.lt {w:World} {base:Nat} {v:Value} {l:List CV} (h:ownsC w base v l):∀ k,v.ownBlock=some k→base≤k∧k < w.heap.size:=World.ownsRow.lt h
theorem ownsC.mono {w:World} {base base':Nat} {v:Value} {l:List CV} (h:ownsC w base v l) (hb:base'≤base):ownsC w base' v l:=by
 obtain ⟨h0,h1⟩:=h
 refine ⟨h0,?_⟩
 rcases h1 with h1 | ⟨g,cap,cur,hv,hg,r⟩
 · exact .inl h1
 · exact .inr ⟨g,cap,cur,hv,Nat.le_trans hb hg,r⟩
theorem ownsC.below {w w':World} {base:Nat} {v:Value} {l:List CV} (h:ownsC w base v l) (hb:Below w.heap.size w w'):ownsC w' base v l:=by
 refine World.ownsRow.kept h (row:=none) ⟨hb.os,hb.tape,hb.output,hb.size,fun k hk _=>hb.block k hk⟩ ?_
 cases hv:v.ownBlock with
 | none=>exact .inl rfl
 | some g=>exact .inr (by simp)
def IsCvs (w:World) (v:Value) (l:List CV):Prop :=
 (∃ a c,v=.slice a 0 c∧l=[])∨∃ b off c,v=.slice (some ⟨b,off,none⟩) l.length c∧(0 < l.length∧l.length≤c)∧b < w.heap.size∧∀ j u,(cvsC l)[j]? = some u→w.cell? ⟨b,off + j,none⟩=some u
theorem ownsC.is {w:World} {base:Nat} {v:Value} {l:List CV} (h:ownsC w base v l):IsCvs w v l:=by
 have hall:=h
 have hlt:=h.lt
 obtain ⟨h0,h1⟩:=h
 rcases h1 with ⟨rfl,hn⟩ | ⟨g,cap,cur,rfl,hb,hh,hc,hm,hs,ht⟩
 · exact .inl ⟨_,_,rfl,List.length_eq_zero_iff.1 hn⟩
 · by_cases hz:l.length=0
   · exact .inl ⟨_,_,by rw [hz],List.length_eq_zero_iff.1 hz⟩
   · refine .inr ⟨g,0,cap,rfl,⟨by omega,hc⟩,(hlt g rfl).2,fun j u hj=>?_⟩
     have hjl:j < l.length * 5:=by rw [←cvsC_len];exact (List.getElem?_eq_some_iff.1 hj).1
     rw [Nat.zero_add,World.ownsRow.cellAt hall j hjl]
     exact hj
theorem IsCvs.nil (w:World):IsCvs w (.slice none 0 0) []:=.inl ⟨_,_,rfl,rfl⟩
theorem IsCvs.below {w w':World} {v:Value} {l:List CV} (h:IsCvs w v l) (hb:Below w.heap.size w w'):IsCvs w' v l:=by
 rcases h with ⟨a,c,h1,h2⟩ | ⟨b,off,c,h1,h0,h2,h3⟩
 · exact .inl ⟨a,c,h1,h2⟩
 · exact .inr ⟨b,off,c,h1,h0,Nat.lt_of_lt_of_le h2 hb.size,fun j u hj=>(hb.cell (p:=⟨b,off + j,none⟩) h2).trans (h3 j u hj)⟩
theorem IsCvs.alloc {w:World} {v:Value} {l:List CV} (h:IsCvs w v l) (o:Obj):IsCvs (w.alloc o) v l:=h.below ((Below.refl _ _).alloc (Nat.le_refl _) o)
theorem IsCvs.drewN {w:World} {v:Value} {l:List CV} (h:IsCvs w v l) (n:Nat):IsCvs (w.drewN n) v l:=h
theorem IsCvs.form {w:World} {v:Value} {l:List CV} (h:IsCvs w v l):∃ a c,v=.slice a l.length c∧∀ i t,l[i]? = some t→∃ b off,a=some ⟨b,off,none⟩∧b < w.heap.size ∧
   w.cell? ⟨b,off + i * 5,none⟩=some (.string t.key)∧w.cell? ⟨b,off + i * 5 + 1,none⟩=some (.bool t.has)∧w.cell? ⟨b,off + i * 5 + 2,none⟩=some (.string t.text) ∧
   w.cell? ⟨b,off + i * 5 + 3,none⟩=some (.int .i64 t.sum)∧w.cell? ⟨b,off + i * 5 + 4,none⟩=some t.list:=by
 rcases h with ⟨a,c,rfl,rfl⟩ | ⟨b,off,c,rfl,h0,h2,h3⟩
 · exact ⟨a,c,rfl,fun i t h=>by simp at h⟩
 · refine ⟨_,_,rfl,fun i t h=>⟨b,off,rfl,h2,?_,?_,?_,?_,?_⟩⟩
   · exact h3 _ _ ((cvsC_at l i 0 t h (by omega)).trans rfl)
   · exact h3 _ _ ((cvsC_at l i 1 t h (by omega)).trans rfl)
   · exact h3 _ _ ((cvsC_at l i 2 t h (by omega)).trans rfl)
   · exact h3 _ _ ((cvsC_at l i 3 t h (by omega)).trans rfl)
   · exact h3 _ _ ((cvsC_at l i 4 t h (by omega)).trans rfl)
def cvBlk (w:World) (B:Nat) (t:CV):Prop:=w.heap[B]? = some (.cells (cvC t).toArray 59 (0,0))
theorem wpList_append_cv {w:World} {ops:Array Oper} {rest:List Oper} {o:Oper} {a:Act} {Q:Exit→Act→World→Prop} (hgd:o.guard=none) (s x:Operand)
   (ho:o.op=.call { callee:=.builtin .append,args:=#[s,x],argTypes:=#[55,55] })
   (base:Nat) (v:Value) (l:List CV) (hs:a.eval s=v) (hown:ownsC w base v l)
   (B c:Nat) (hx:a.eval x=.slice (some ⟨B,0,none⟩) 1 c) (t:CV) (ht:t.list.oneCell'=true) (hcell:cvBlk w B t)
   (hlen:l.length + 1≤1000000) (hbase:base≤w.heap.size)
   (h:∀ g cap w',ownsC w' base (.slice (some ⟨g,0,none⟩) (l.length + 1) cap) (l ++ [t])→w.grownBy w' v.ownBlock→wpList Tryz.prog ops Q rest (a.put o.dst (.slice (some ⟨g,0,none⟩) (l.length + 1) cap)) w'):wpList Tryz.prog ops Q (o :: rest) a w:=by
 obtain ⟨i0,hi,hz0,hz1,hz2⟩:=info_parts info_cv
 refine wpList_append_lies w hgd s x 55 ho base 59 i0 (.agg #[.string ⟨#[]⟩,.bool false,.string ⟨#[]⟩,.int .i64 0,.slice none 0 0]) 5 72 Tryz.underlying55 hi hz0 hz1 hz2 rfl (by decide) v l.length (cvsC l) hs hown ⟨B,0,none⟩ 1 c (cvC t) hx rfl ?_ (cvC_cell ht) (by decide) (by unfold maxLen;omega) (by omega) hbase _ rfl ?_
 · intro j u hj
   have hadd:(⟨B,0,none⟩:Addr).add j=⟨B,j,none⟩:=by unfold Addr.add;split <;> simp_all
   rw [hadd,cell_of_row _ _ _ _ _ _ hcell,←hj]
   simp
 · intro g cap w' h1 h2 _ _
   refine h g cap w' ?_ h2
   unfold ownsC
   rw [List.length_append,cvsC_app,cvsC_one]
   exact h1
end Go.Proofs.YtifbebhgeheooaaGreatDoor
