import Derived.Test.YtddbpnplbcjpgaaGreatDoorLp05
import Derived.StringKeys
import Derived.ChangeArms
namespace Go.Proofs.YtddbpnplbcjpgaaGreatDoor
open Go.RowKit Go.Maps
theorem keyedS2:Keyed Tryz.prog 9:=string_keyed Tryz.underlying9
theorem keyS2 {s:ByteArray} (h:s.size≤maxLen):keyOf Tryz.prog 9 (.string s)=some (keyL s):=Go.WideMaps.keyOf_string_mk Tryz.underlying9 h
theorem zeroC (w:World):(zeroValue 105).run Tryz.prog w=.ok (cvV cv0) w:=by kernel_rfl
structure StoIn (w:World) (R P M m:Nat) (D:DataW Value) (G:ByteArray→Cel) (L:ByteArray→Value):Prop where
 row:w.heap[P]? = some (.cells #[.map (some M)] 168 (0,0))
 map:w.ownsMap Tryz.prog 9 cellR M m D
 sto:StoD D G L
 own:∀ k,live (G k)=true→ownsS w R (L k) (G k).list
 apart:∀ j k,live (G j)=true→live (G k)=true→j≠k→(L j).ownBlock=none∨(L j).ownBlock≠(L k).ownBlock
 len:∀ k,(G k).list.length≤m
 text:∀ k,(G k).text.size≤140737488351232∧∀ s∈(G k).list,s.size≤140737488351232
 neat:∀ k,Neat (G k)
 pr:P < R
 mr:M < R
 rw':R≤w.heap.size
 pm:P≠M
theorem StoIn.pw {w:World} {R P M m:Nat} {D:DataW Value} {G:ByteArray→Cel} {L:ByteArray→Value} (h:StoIn w R P M m D G L):P < w.heap.size:=Nat.lt_of_lt_of_le h.pr h.rw'
theorem StoIn.grown {w w':World} {R P M m:Nat} {D:DataW Value} {G:ByteArray→Cel} {L:ByteArray→Value} (h:StoIn w R P M m D G L) (hg:w.grownBy w' none):StoIn w' R P M m D G L :=
 { h with
   row:=(hg.block P h.pw (by simp)).trans h.row
   map:=h.map.kept hg (by simp)
   own:=fun k hk=>World.ownsRow.kept (h.own k hk) hg (by cases hv:(L k).ownBlock with
     | none=>exact .inl rfl
     | some g=>exact .inr (by simp))
   rw':=Nat.le_trans h.rw' hg.size }
theorem StoIn.below {w w':World} {R P M m:Nat} {D:DataW Value} {G:ByteArray→Cel} {L:ByteArray→Value} (h:StoIn w R P M m D G L) (hb:Below w.heap.size w w'):StoIn w' R P M m D G L :=
 h.grown ⟨hb.os,hb.tape,hb.output,hb.size,fun k hk _=>hb.block k hk⟩
theorem StoIn.alloc {w:World} {R P M m:Nat} {D:DataW Value} {G:ByteArray→Cel} {L:ByteArray→Value} (h:StoIn w R P M m D G L) (o:Obj):StoIn (w.alloc o) R P M m D G L:=h.grown (World.grownBy_alloc _ _ _)
theorem StoIn.drew {w:World} {R P M m:Nat} {D:DataW Value} {G:ByteArray→Cel} {L:ByteArray→Value} (h:StoIn w R P M m D G L):StoIn w.drew R P M m D G L:=h.below (Below.drew (Below.refl _ _))
theorem StoIn.drewN {w:World} {R P M m:Nat} {D:DataW Value} {G:ByteArray→Cel} {L:ByteArray→Value} (h:StoIn w R P M m D G L) (n:Nat):StoIn (w.drewN n) R P M m D G L:=h.below (below_drewN (Below.refl _ _) n)
structure StoBut (w:World) (R P M m:Nat) (D:DataW Value) (G:ByteArray→Cel) (L:ByteArray→Value) (k:ByteArray):Prop where
 row:w.heap[P]? = some (.cells #[.map (some M)] 168 (0,0))
 map:w.ownsMap Tryz.prog 9 cellR M m D
 sto:StoD D G L
 own:∀ j,j≠k→live (G j)=true→ownsS w R (L j) (G j).list
 apart:∀ i j,i≠k→j≠k→live (G i)=true→live (G j)=true→i≠j→(L i).ownBlock=none∨(L i).ownBlock≠(L j).ownBlock
 len:∀ j,(G j).list.length≤m
 text:∀ k,(G k).text.size≤140737488351232∧∀ s∈(G k).list,s.size≤140737488351232
 neat:∀ k,Neat (G k)
 pr:P < R
 mr:M < R
 rw':R≤w.heap.size
 pm:P≠M
theorem StoIn.but {w w':World} {R P M m:Nat} {D:DataW Value} {G:ByteArray→Cel} {L:ByteArray→Value} (h:StoIn w R P M m D G L) (k:ByteArray) {o:Option Nat} (hg:w.grownBy w' o) (ho:∀ g,o=some g→R≤g)
   (hk:∀ j,j≠k→live (G j)=true→(L j).ownBlock=none∨(L j).ownBlock≠o):StoBut w' R P M m D G L k :=
 {
   row:=(hg.block P h.pw (fun e=>by have:=ho P e.symm;have:=h.pr;omega)).trans h.row
   map:=h.map.kept hg (fun e=>by have:=ho M e.symm;have:=h.mr;omega)
   sto:=h.sto
   own:=fun j hj hl=>World.ownsRow.kept (h.own j hl) hg (hk j hj hl)
   apart:=fun i j _ _=>h.apart i j
   len:=h.len
   text:=h.text
   neat:=h.neat
   pr:=h.pr,mr:=h.mr,rw':=Nat.le_trans h.rw' hg.size,pm:=h.pm }
theorem StoBut.grown {w w':World} {R P M m:Nat} {D:DataW Value} {G:ByteArray→Cel} {L:ByteArray→Value} {k:ByteArray} (h:StoBut w R P M m D G L k) (hg:w.grownBy w' none):StoBut w' R P M m D G L k :=
 { h with
   row:=(hg.block P (Nat.lt_of_lt_of_le h.pr h.rw') (by simp)).trans h.row
   map:=h.map.kept hg (by simp)
   own:=fun j hj hk=>World.ownsRow.kept (h.own j hj hk) hg (by cases hv:(L j).ownBlock with
     | none=>exact .inl rfl
     | some g=>exact .inr (by simp))
   rw':=Nat.le_trans h.rw' hg.size }
theorem StoBut.del {w w':World} {R P M m:Nat} {D:DataW Value} {G:ByteArray→Cel} {L:ByteArray→Value} {k:ByteArray} (h:StoBut w R P M m D G L k) (hm:w'.ownsMap Tryz.prog 9 cellR M m (D.del (keyL k))) (ht:w.mapTurned w' M) :
   StoIn w' R P M (m + 1) (D.del (keyL k)) (upd G k cel0) L :=
 have hg:=ht.grown
 {
   row:=(hg.block P (Nat.lt_of_lt_of_le h.pr h.rw') (fun e=>h.pm (Option.some.inj e))).trans h.row
   map:=hm.mono (Nat.le_succ m)
   sto:=h.sto.del k
   own:=fun j hl=>by
     by_cases e:j=k
     · subst e;rw [upd_same] at hl;cases hl
     · rw [upd_other _ _ e] at hl ⊢
       refine World.ownsRow.kept (h.own j e hl) hg ?_
       cases hv:(L j).ownBlock with
       | none=>exact .inl rfl
       | some g=>exact .inr (fun e2=>by have:=((h.own j e hl).lt g hv).1;have:=h.mr;have e3:g=M:=Option.some.inj e2;omega)
   apart:=fun i j hi hj hne=>by
     have hi':i≠k:=fun e=>by subst e;rw [upd_same] at hi;cases hi
     have hj':j≠k:=fun e=>by subst e;rw [upd_same] at hj;cases hj
     rw [upd_other _ _ hi'] at hi
     rw [upd_other _ _ hj'] at hj
     exact h.apart i j hi' hj' hi hj hne
   len:=fun j=>by
     by_cases e:j=k
     · subst e;rw [upd_same];exact Nat.zero_le _
     · rw [upd_other _ _ e];exact Nat.le_succ_of_le (h.len j)
   text:=fun j=>by
     by_cases e:j=k
     · subst e;rw [upd_same];exact ⟨Nat.zero_le _,fun s hs=>by cases hs⟩
     · rw [upd_other _ _ e];exact h.text j
   neat:=fun j=>by
     by_cases e:j=k
     · subst e;rw [upd_same];exact neat0
     · rw [upd_other _ _ e];exact h.neat j
   pr:=h.pr,mr:=h.mr,rw':=Nat.le_trans h.rw' hg.size,pm:=h.pm }
theorem StoBut.put {w w':World} {R P M m:Nat} {D:DataW Value} {G:ByteArray→Cel} {L:ByteArray→Value} {k:ByteArray} (h:StoBut w R P M m D G L k) (c:Cel) (v:Value) (hc:live c=true) (hn:Neat c) (hl:c.list.length≤m + 1)
   (htx:c.text.size≤140737488351232∧∀ s∈c.list,s.size≤140737488351232) (hv:ownsS w R v c.list)
   (hap:∀ j,j≠k→live (G j)=true→(L j).ownBlock=none∨(L j).ownBlock≠v.ownBlock)
   (hm:w'.ownsMap Tryz.prog 9 cellR M (m + 1) (D.put (keyL k) (.held (cvV ⟨k,c.has,c.text,c.sum,v⟩)))) (hg:w.grownBy w' (some M)) :
   StoIn w' R P M (m + 1) (D.put (keyL k) (.held (cvV ⟨k,c.has,c.text,c.sum,v⟩))) (upd G k c) (upd L k v) :=
 have hkeep:∀ (u:Value) (l:List ByteArray),ownsS w R u l→ownsS w' R u l:=fun u l hu=>by
   refine World.ownsRow.kept hu hg ?_
   cases e:u.ownBlock with
   | none=>exact .inl rfl
   | some g=>exact .inr (fun e2=>by have:=(hu.lt g e).1;have:=h.mr;have e3:g=M:=Option.some.inj e2;omega)
 {
   row:=(hg.block P (Nat.lt_of_lt_of_le h.pr h.rw') (fun e=>h.pm (Option.some.inj e))).trans h.row
   map:=hm
   sto:=h.sto.put k c v hc
   own:=fun j hj=>by
     by_cases e:j=k
     · subst e;rw [upd_same,upd_same];exact hkeep _ _ hv
     · rw [upd_other _ _ e] at hj ⊢;rw [upd_other _ _ e];exact hkeep _ _ (h.own j e hj)
   apart:=fun i j hi hj hne=>by
     by_cases ei:i=k
     · subst ei
       have ej:j≠i:=Ne.symm hne
       rw [upd_same,upd_other _ _ ej]
       rw [upd_other _ _ ej] at hj
       rcases hap j ej hj with h1 | h1
       · cases e:v.ownBlock with
         | none=>exact .inl rfl
         | some g=>exact .inr (by rw [h1];simp)
       · exact .inr (Ne.symm h1)
     · rw [upd_other _ _ ei] at hi
       by_cases ej:j=k
       · subst ej
         rw [upd_same,upd_other _ _ ei]
         exact hap i ei hi
       · rw [upd_other _ _ ej] at hj
         rw [upd_other _ _ ei,upd_other _ _ ej]
         exact h.apart i j ei ej hi hj hne
   len:=fun j=>by
     by_cases e:j=k
     · subst e;rw [upd_same];exact hl
     · rw [upd_other _ _ e];exact Nat.le_succ_of_le (h.len j)
   text:=fun j=>by
     by_cases e:j=k
     · subst e;rw [upd_same];exact htx
     · rw [upd_other _ _ e];exact h.text j
   neat:=fun j=>by
     by_cases e:j=k
     · subst e;rw [upd_same];exact hn
     · rw [upd_other _ _ e];exact h.neat j
   pr:=h.pr,mr:=h.mr,rw':=Nat.le_trans h.rw' hg.size,pm:=h.pm }
theorem StoIn.mono {w:World} {R P M m n:Nat} {D:DataW Value} {G:ByteArray→Cel} {L:ByteArray→Value} (h:StoIn w R P M m D G L) (hn:m≤n):StoIn w R P M n D G L :=
 { h with map:=h.map.mono hn,len:=fun k=>Nat.le_trans (h.len k) hn }
theorem StoIn.look {w:World} {R P M m:Nat} {D:DataW Value} {G:ByteArray→Cel} {L:ByteArray→Value} (h:StoIn w R P M m D G L) (k:ByteArray) (hk:k.size≤maxLen) :
   (Instr.lookup 166 (.map (some M)) (.string k) false).run Tryz.prog w=.ok (cvV (cvOf G L k)) w:=by
 obtain ⟨v,ps,h1,h2⟩:=h.map.lookup keyedS2 Tryz.underlying166 (zeroC w) (cellR_mk cv0) (keyS2 hk)
 rw [h.sto.at'] at h2
 obtain ⟨c,rfl,hc⟩:=cellR_inv h2
 rw [h1]
 simp only [Prod.mk.injEq] at hc
 rw [cvV_inj (DataW.held.inj hc.1)]
def StoAt (w:World) (R P m:Nat) (G:ByteArray→Cel):Prop:=∃ M D L,StoIn w R P M m D G L
theorem StoAt.grown {w w':World} {R P m:Nat} {G:ByteArray→Cel} (h:StoAt w R P m G) (hg:w.grownBy w' none):StoAt w' R P m G:=by obtain ⟨M,D,L,h⟩:=h;exact ⟨M,D,L,h.grown hg⟩
theorem StoAt.below {w w':World} {R P m:Nat} {G:ByteArray→Cel} (h:StoAt w R P m G) (hb:Below w.heap.size w w'):StoAt w' R P m G:=by obtain ⟨M,D,L,h⟩:=h;exact ⟨M,D,L,h.below hb⟩
theorem StoAt.alloc {w:World} {R P m:Nat} {G:ByteArray→Cel} (h:StoAt w R P m G) (o:Obj):StoAt (w.alloc o) R P m G:=h.grown (World.grownBy_alloc _ _ _)
theorem StoAt.mono {w:World} {R P m n:Nat} {G:ByteArray→Cel} (h:StoAt w R P m G) (hn:m≤n):StoAt w R P n G:=by obtain ⟨M,D,L,h⟩:=h;exact ⟨M,D,L,h.mono hn⟩
end Go.Proofs.YtddbpnplbcjpgaaGreatDoor
namespace Go.Proofs.YtddbpnplbcjpgaaGreatDoor
open Go.RowKit
theorem info_cv:(Tryz.prog.info? 105).map (fun i=>(i.zero,i.size,i.bytes))=some (some (.agg #[.string ⟨#[]⟩,.bool false,.string ⟨#[]⟩,.int .i64 0,.slice none 0 0]),5,72):=by kernel_rfl
def cvsC (l:List CV):List Value:=l.flatMap cvC
theorem cvsC_len (l:List CV):(cvsC l).length=l.length * 5:=by
 induction l with
 | nil=>rfl
 | cons t r ih=>simp only [cvsC,List.flatMap_cons,List.length_append,List.length_cons] at ih ⊢;rw [ih];simp [cvC];omega
theorem cvsC_app (a b:List CV):cvsC (a ++ b)=cvsC a ++ cvsC b:=by simp [cvsC]
theorem cvsC_one (a:CV):cvsC [a]=cvC a:=by simp [cvsC]
theorem cvsC_at (l:List CV) (i j:Nat) (t:CV) (h:l[i]? = some t) (hj:j < 5):(cvsC l)[i * 5 + j]? = (cvC t)[j]? := by
 induction l generalizing i with
 | nil=>simp at h
 | cons u r ih =>
   have hc:cvsC (u :: r)=cvC u ++ cvsC r:=by simp [cvsC]
   have h3:(cvC u).length=5:=rfl
   rw [hc]
   cases i with
   | zero =>
     obtain rfl:u=t:=by simpa using h
     rw [List.getElem?_append_left (by omega)]
     congr 1;omega
   | succ i =>
     rw [List.getElem?_append_right (by omega),h3,show (i + 1) * 5 + j - 5=i * 5 + j by omega]
     exact ih i (by simpa using h)
theorem cvC_cell {t:CV} (h:t.list.oneCell'=true):∀ u∈cvC t,u.oneCell'=true:=by
 intro u hu
 simp [cvC] at hu
 rcases hu with rfl | rfl | rfl | rfl | rfl <;> first | rfl | exact h
def ownsC (w:World) (base:Nat) (v:Value) (l:List CV):Prop:=w.ownsRow base 105 5 v l.length (cvsC l)
theorem ownsC_nil (w:World) (base:Nat):ownsC w base (.slice none 0 0) []:=World.ownsRow_nil _ _ _ _
theorem ownsC.alloc {w:World} {base:Nat} {v:Value} {l:List CV} (h:ownsC w base v l) (o:Obj):ownsC (w.alloc o) base v l:=World.ownsRow.alloc h o
theorem ownsC.drew {w:World} {base:Nat} {v:Value} {l:List CV} (h:ownsC w base v l):ownsC w.drew base v l:=World.ownsRow.drew h
theorem ownsC.drewN {w:World} {base:Nat} {v:Value} {l:List CV} (h:ownsC w base v l) (n:Nat):ownsC (w.drewN n) base v l:=h
theorem ownsC.lt {w:World} {base:Nat} {v:Value} {l:List CV} (h:ownsC w base v l):∀ k,v.ownBlock=some k→base≤k∧k < w.heap.size:=World.ownsRow.lt h
theorem ownsC.mono {w:World} {base base':Nat} {v:Value} {l:List CV} (h:ownsC w base v l) (hb:base'≤base):ownsC w base' v l:=by
 obtain ⟨h0,h1⟩:=h
 refine ⟨h0,?_⟩
 rcases h1 with h1 | ⟨g,cap,cur,hv,hg,r⟩
 · exact .inl h1
 · exact .inr ⟨g,cap,cur,hv,Nat.le_trans hb hg,r⟩
theorem ownsC.below {w w':World} {base:Nat} {v:Value} {l:List CV} (h:ownsC w base v l) (hb:Below w.heap.size w w'):ownsC w' base v l:=by
 refine World.ownsRow.kept h (row:=none) ⟨hb.os,hb.tape,hb.output,hb.size,fun k hk _=>hb.block k hk⟩ ?_
 cases hv:v.ownBlock with
 | none=>exact .inl rfl
 | some g=>exact .inr (by simp)
def IsCvs (w:World) (v:Value) (l:List CV):Prop :=
 (∃ a c,v=.slice a 0 c∧l=[])∨∃ b off c,v=.slice (some ⟨b,off,none⟩) l.length c∧(0 < l.length∧l.length≤c)∧b < w.heap.size∧∀ j u,(cvsC l)[j]? = some u→w.cell? ⟨b,off + j,none⟩=some u
theorem ownsC.is {w:World} {base:Nat} {v:Value} {l:List CV} (h:ownsC w base v l):IsCvs w v l:=by
 have hall:=h
 have hlt:=h.lt
 obtain ⟨h0,h1⟩:=h
 rcases h1 with ⟨rfl,hn⟩ | ⟨g,cap,cur,rfl,hb,hh,hc,hm,hs,ht⟩
 · exact .inl ⟨_,_,rfl,List.length_eq_zero_iff.1 hn⟩
 · by_cases hz:l.length=0
   · exact .inl ⟨_,_,by rw [hz],List.length_eq_zero_iff.1 hz⟩
   · refine .inr ⟨g,0,cap,rfl,⟨by omega,hc⟩,(hlt g rfl).2,fun j u hj=>?_⟩
     have hjl:j < l.length * 5:=by rw [←cvsC_len];exact (List.getElem?_eq_some_iff.1 hj).1
     rw [Nat.zero_add,World.ownsRow.cellAt hall j hjl]
     exact hj
theorem IsCvs.nil (w:World):IsCvs w (.slice none 0 0) []:=.inl ⟨_,_,rfl,rfl⟩
theorem IsCvs.below {w w':World} {v:Value} {l:List CV} (h:IsCvs w v l) (hb:Below w.heap.size w w'):IsCvs w' v l:=by
 rcases h with ⟨a,c,h1,h2⟩ | ⟨b,off,c,h1,h0,h2,h3⟩
 · exact .inl ⟨a,c,h1,h2⟩
 · exact .inr ⟨b,off,c,h1,h0,Nat.lt_of_lt_of_le h2 hb.size,fun j u hj=>(hb.cell (p:=⟨b,off + j,none⟩) h2).trans (h3 j u hj)⟩
theorem IsCvs.alloc {w:World} {v:Value} {l:List CV} (h:IsCvs w v l) (o:Obj):IsCvs (w.alloc o) v l:=h.below ((Below.refl _ _).alloc (Nat.le_refl _) o)
theorem IsCvs.drewN {w:World} {v:Value} {l:List CV} (h:IsCvs w v l) (n:Nat):IsCvs (w.drewN n) v l:=h
theorem IsCvs.form {w:World} {v:Value} {l:List CV} (h:IsCvs w v l):∃ a c,v=.slice a l.length c∧∀ i t,l[i]? = some t→∃ b off,a=some ⟨b,off,none⟩∧b < w.heap.size ∧
   w.cell? ⟨b,off + i * 5,none⟩=some (.string t.key)∧w.cell? ⟨b,off + i * 5 + 1,none⟩=some (.bool t.has)∧w.cell? ⟨b,off + i * 5 + 2,none⟩=some (.string t.text) ∧
   w.cell? ⟨b,off + i * 5 + 3,none⟩=some (.int .i64 t.sum)∧w.cell? ⟨b,off + i * 5 + 4,none⟩=some t.list:=by
 rcases h with ⟨a,c,rfl,rfl⟩ | ⟨b,off,c,rfl,h0,h2,h3⟩
 · exact ⟨a,c,rfl,fun i t h=>by simp at h⟩
 · refine ⟨_,_,rfl,fun i t h=>⟨b,off,rfl,h2,?_,?_,?_,?_,?_⟩⟩
   · exact h3 _ _ ((cvsC_at l i 0 t h (by omega)).trans rfl)
   · exact h3 _ _ ((cvsC_at l i 1 t h (by omega)).trans rfl)
   · exact h3 _ _ ((cvsC_at l i 2 t h (by omega)).trans rfl)
   · exact h3 _ _ ((cvsC_at l i 3 t h (by omega)).trans rfl)
   · exact h3 _ _ ((cvsC_at l i 4 t h (by omega)).trans rfl)
def cvBlk (w:World) (B:Nat) (t:CV):Prop:=w.heap[B]? = some (.cells (cvC t).toArray 105 (0,0))
theorem wpList_append_cv {w:World} {ops:Array Oper} {rest:List Oper} {o:Oper} {a:Act} {Q:Exit→Act→World→Prop} (hgd:o.guard=none) (s x:Operand)
   (ho:o.op=.call { callee:=.builtin .append,args:=#[s,x],argTypes:=#[67,67] })
   (base:Nat) (v:Value) (l:List CV) (hs:a.eval s=v) (hown:ownsC w base v l)
   (B c:Nat) (hx:a.eval x=.slice (some ⟨B,0,none⟩) 1 c) (t:CV) (ht:t.list.oneCell'=true) (hcell:cvBlk w B t)
   (hlen:l.length + 1≤1000000) (hbase:base≤w.heap.size)
   (h:∀ g cap w',ownsC w' base (.slice (some ⟨g,0,none⟩) (l.length + 1) cap) (l ++ [t])→w.grownBy w' v.ownBlock→wpList Tryz.prog ops Q rest (a.put o.dst (.slice (some ⟨g,0,none⟩) (l.length + 1) cap)) w'):wpList Tryz.prog ops Q (o :: rest) a w:=by
 obtain ⟨i0,hi,hz0,hz1,hz2⟩:=info_parts info_cv
 refine wpList_append_lies w hgd s x 67 ho base 105 i0 (.agg #[.string ⟨#[]⟩,.bool false,.string ⟨#[]⟩,.int .i64 0,.slice none 0 0]) 5 72 Tryz.underlying67 hi hz0 hz1 hz2 rfl (by decide) v l.length (cvsC l) hs hown ⟨B,0,none⟩ 1 c (cvC t) hx rfl ?_ (cvC_cell ht) (by decide) (by unfold maxLen;omega) (by omega) hbase _ rfl ?_
 · intro j u hj
   have hadd:(⟨B,0,none⟩:Addr).add j=⟨B,j,none⟩:=by unfold Addr.add;split <;> simp_all
   rw [hadd,cell_of_row _ _ _ _ _ _ hcell,←hj]
   simp
 · intro g cap w' h1 h2 _ _
   refine h g cap w' ?_ h2
   unfold ownsC
   rw [List.length_append,cvsC_app,cvsC_one]
   exact h1
end Go.Proofs.YtddbpnplbcjpgaaGreatDoor
namespace Go.Proofs.YtddbpnplbcjpgaaGreatDoor
open Go.ChangeShapes Go.WideShapes Go.ChangeAt Go.RowKit
structure Deed where
 kind:Int
 w:Wr
 vf:Value
 vh:Value
 vw:Value
 f:List Ent
 h:List Ent
 l:List Wr
instance : Inhabited Deed := ⟨⟨0, default, default, default, default, [], [], []⟩⟩
def deedC (x:Deed):List Value:=[.int .i64 x.kind,.int .i64 x.w.time,.int .i64 x.w.rep,.int .i64 x.w.kind,.string x.w.key,.string x.w.value,.int .i64 x.w.n,x.vf,x.vh,x.vw]
def deedsC (l:List Deed):List Value:=l.flatMap deedC
def DeedOk (W:World) (x:Deed):Prop:=WrOk x.w∧BatIs W x.vf x.vh x.vw x.f x.h x.l
theorem deedsC_len (l:List Deed):(deedsC l).length=l.length * 10:=by
 induction l with
 | nil=>rfl
 | cons t r ih=>simp only [deedsC,List.flatMap_cons,List.length_append,List.length_cons] at ih ⊢;rw [ih];simp [deedC];omega
theorem deedsC_at (l:List Deed) (i j:Nat) (t:Deed) (h:l[i]? = some t) (hj:j < 10):(deedsC l)[i * 10 + j]? = (deedC t)[j]? := by
 induction l generalizing i with
 | nil=>simp at h
 | cons u r ih =>
   have hc:deedsC (u :: r)=deedC u ++ deedsC r:=by simp [deedsC]
   have h3:(deedC u).length=10:=rfl
   rw [hc]
   cases i with
   | zero =>
     obtain rfl:u=t:=by simpa using h
     rw [List.getElem?_append_left (by omega)]
     congr 1;omega
   | succ i =>
     rw [List.getElem?_append_right (by omega),h3,show (i + 1) * 10 + j - 10=i * 10 + j by omega]
     exact ih i (by simpa using h)
def IsDeeds (w:World) (v:Value) (l:List Deed):Prop :=
 (∃ a c,v=.slice a 0 c∧l=[])∨∃ b off c,v=.slice (some ⟨b,off,none⟩) l.length c∧(0 < l.length∧l.length≤c)∧b < w.heap.size∧∀ j u,(deedsC l)[j]? = some u→w.cell? ⟨b,off + j,none⟩=some u
theorem IsDeeds.below {w w':World} {v:Value} {l:List Deed} (h:IsDeeds w v l) (hb:Below w.heap.size w w'):IsDeeds w' v l:=by
 rcases h with ⟨a,c,h1,h2⟩ | ⟨b,off,c,h1,h0,h2,h3⟩
 · exact .inl ⟨a,c,h1,h2⟩
 · exact .inr ⟨b,off,c,h1,h0,Nat.lt_of_lt_of_le h2 hb.size,fun j u hj=>(hb.cell (p:=⟨b,off + j,none⟩) h2).trans (h3 j u hj)⟩
theorem IsDeeds.form {w:World} {v:Value} {l:List Deed} (h:IsDeeds w v l):∃ a c,v=.slice a l.length c∧∀ i t,l[i]? = some t→∃ b off,a=some ⟨b,off,none⟩∧b < w.heap.size ∧
   w.cell? ⟨b,off + i * 10,none⟩=some (.int .i64 t.kind)∧w.cell? ⟨b,off + i * 10 + 1,none⟩=some (.int .i64 t.w.time)∧w.cell? ⟨b,off + i * 10 + 2,none⟩=some (.int .i64 t.w.rep) ∧
   w.cell? ⟨b,off + i * 10 + 3,none⟩=some (.int .i64 t.w.kind)∧w.cell? ⟨b,off + i * 10 + 4,none⟩=some (.string t.w.key)∧w.cell? ⟨b,off + i * 10 + 5,none⟩=some (.string t.w.value) ∧
   w.cell? ⟨b,off + i * 10 + 6,none⟩=some (.int .i64 t.w.n)∧w.cell? ⟨b,off + i * 10 + 7,none⟩=some t.vf∧w.cell? ⟨b,off + i * 10 + 8,none⟩=some t.vh∧w.cell? ⟨b,off + i * 10 + 9,none⟩=some t.vw:=by
 rcases h with ⟨a,c,rfl,rfl⟩ | ⟨b,off,c,rfl,h0,h2,h3⟩
 · exact ⟨a,c,rfl,fun i t h=>by simp at h⟩
 · refine ⟨_,_,rfl,fun i t h=>⟨b,off,rfl,h2,?_,?_,?_,?_,?_,?_,?_,?_,?_,?_⟩⟩
   · exact h3 _ _ ((deedsC_at l i 0 t h (by omega)).trans rfl)
   · exact h3 _ _ ((deedsC_at l i 1 t h (by omega)).trans rfl)
   · exact h3 _ _ ((deedsC_at l i 2 t h (by omega)).trans rfl)
   · exact h3 _ _ ((deedsC_at l i 3 t h (by omega)).trans rfl)
   · exact h3 _ _ ((deedsC_at l i 4 t h (by omega)).trans rfl)
   · exact h3 _ _ ((deedsC_at l i 5 t h (by omega)).trans rfl)
   · exact h3 _ _ ((deedsC_at l i 6 t h (by omega)).trans rfl)
   · exact h3 _ _ ((deedsC_at l i 7 t h (by omega)).trans rfl)
   · exact h3 _ _ ((deedsC_at l i 8 t h (by omega)).trans rfl)
   · exact h3 _ _ ((deedsC_at l i 9 t h (by omega)).trans rfl)
theorem wrD_weight {H:Type} (t:Wr):t.key.size∈DataW.weights Tryz.prog 26 (wrD t:DataW H)∧t.value.size∈DataW.weights Tryz.prog 26 (wrD t:DataW H):=by
 constructor
 · unfold wrD
   rw [DataW.weights,Tryz.underlying26]
   simp [DataW.weightsEach,DataW.weights,Tryz.underlying24]
 · unfold wrD
   rw [DataW.weights,Tryz.underlying26]
   simp [DataW.weightsEach,DataW.weights,Tryz.underlying24]
theorem weightsAll_mem {H:Type} {P:Program} {ty:TypeId} (ds:List (DataW H)) (d:DataW H) (h:d∈ds):∀ y∈DataW.weights P ty d,y∈DataW.weightsAll P ty ds:=by
 induction ds with
 | nil=>cases h
 | cons e r ih =>
   intro y hy
   rw [DataW.weightsAll]
   rcases List.mem_cons.1 h with h | h
   · subst h;exact List.mem_append_left _ hy
   · exact List.mem_append_right _ (ih h y hy)
set_option maxRecDepth 100000 in
theorem deed_elem {H:Type} {enc:TypeId×Value→H} {W:World} {spare:Nat→Bool} {held:Bool} {n:Nat} {cs:List Value} {x:DataW H×List MemPlace}
   (h:DataW.trod enc Tryz.prog W 0 spare held n 32 cs=some x) (hw:∀ y∈DataW.weights Tryz.prog 32 x.1,y≤reachBytes):∃ t:Deed,cs=deedC t∧DeedOk W t:=by
 obtain ⟨xs,m,_,hx,hl,hxl,hf⟩:=DataW.trod_struct Tryz.underlying32 h
 have c10:Tryz.prog.cellsOf 32=10:=by kernel_rfl
 have c6:Tryz.prog.cellsOf 26=6:=by kernel_rfl
 have c3:Tryz.prog.cellsOf 30=3:=by kernel_rfl
 have cI:Tryz.prog.cellsOf 3=1:=by kernel_rfl
 rw [c10] at hl
 have hxl':xs.length=3:=hxl
 match cs,hl with
 | [a,b0,b1,b2,b3,b4,b5,d0,d1,d2],_ =>
   match xs,hxl' with
   | [u0,u1,u2],_ =>
     have g0:=hf 0 _ rfl
     have g1:=hf 1 _ rfl
     have g2:=hf 2 _ rfl
     simp [c6,c3,cI] at g0 g1 g2
     obtain ⟨K,e0,f0,_⟩:=DataW.trod_int Tryz.underlying3 g0
     obtain ⟨t,e1,f1,h1,h2⟩:=wr_elem g1
     obtain ⟨vf,vh,vw,⟨df,pf⟩,⟨dh,ph⟩,⟨dw,pw⟩,m2,hcs,hd,k0,k1,k2⟩:=three_fieldsB Tryz.underlying30 (by kernel_rfl) (by kernel_rfl) g2
     obtain rfl:=List.head_eq_of_cons_eq e0
     simp only [List.cons.injEq,and_true] at hcs
     obtain ⟨rfl,rfl,rfl⟩:=hcs
     have hx1:x.1=.agg [u0.1,u1.1,u2.1]:=by rw [hx];rfl
     rw [hx1,f1,hd] at hw
     rw [DataW.weights,Tryz.underlying32] at hw
     have hw2:∀ y,y∈DataW.weights Tryz.prog 26 (wrD t:DataW H)∨y∈DataW.weights Tryz.prog 30 (.agg [df,dh,dw]:DataW H)→y≤reachBytes:=fun y hy=>hw y (by
       show y∈DataW.weightsEach _ (_ :: _ :: _ :: _) (_ :: _ :: _ :: _)
       rw [DataW.weightsEach,DataW.weightsEach,DataW.weightsEach]
       rcases hy with hy | hy
       · exact List.mem_append_right _ (List.mem_append_left _ hy)
       · exact List.mem_append_right _ (List.mem_append_right _ (List.mem_append_left _ hy)))
     obtain ⟨af,nf,cf,rfl⟩:=slice_of Tryz.underlying27 k0
     obtain ⟨ah,nh,ch,rfl⟩:=slice_of Tryz.underlying27 k1
     obtain ⟨aw,nw,cw,rfl⟩:=slice_of Tryz.underlying28 k2
     obtain ⟨f,if_,lf,cf1,mf⟩:=entsArg k0
     obtain ⟨hh,ih_,lh,ch1,mh⟩:=entsArg k1
     obtain ⟨l,iw,lw,cw1,mw,ow⟩:=wrsArg k2 (fun y hy=>hw2 y (.inr (by
       rw [DataW.weights,Tryz.underlying30]
       show y∈DataW.weightsEach _ (_ :: _ :: _ :: _) (_ :: _ :: _ :: _)
       rw [DataW.weightsEach,DataW.weightsEach,DataW.weightsEach]
       exact List.mem_append_right _ (List.mem_append_right _ (List.mem_append_left _ hy)))))
     unfold maxLen at mf mh mw
     have g4:=hw2 _ (.inl (wrD_weight t).1)
     have g5:=hw2 _ (.inl (wrD_weight t).2)
     unfold reachBytes at g4 g5
     have e1':b0=.int .i64 t.time∧b1=.int .i64 t.rep∧b2=.int .i64 t.kind∧b3=.string t.key∧b4=.string t.value∧b5=.int .i64 t.n:=by
       unfold wrC at e1
       simp only [List.cons.injEq,and_true] at e1
       exact e1
     obtain ⟨rfl,rfl,rfl,rfl,rfl,rfl⟩:=e1'
     exact ⟨⟨K,t,.slice af nf cf,.slice ah nh ch,.slice aw nw cw,f,hh,l⟩,rfl,⟨h1,h2,by omega,by omega⟩,if_,ih_,iw,by show f.length≤_;omega,by show hh.length≤_;omega,by show l.length≤_;omega,ow⟩
theorem deedsArg {H:Type} {enc:TypeId×Value→H} {W:World} {spare:Nat→Bool} {held:Bool} {a0:Option Addr} {len0 cap0 fuel:Nat} {d:DataW H} {p:List MemPlace}
   (hf:DataW.trod enc Tryz.prog W 0 spare held fuel 22 [.slice a0 len0 cap0]=some (d,p))
   (hw:∀ x∈DataW.weights Tryz.prog 22 d,x≤reachBytes) :
   ∃ l:List Deed,IsDeeds W (.slice a0 len0 cap0) l∧l.length=len0∧len0≤cap0∧cap0≤maxLen∧∀ t∈l,DeedOk W t:=by
 rcases Go.Deep.open_slice Tryz.underlying22 hf with ⟨hcs,_⟩ | ⟨a,ln,cp,m,n,D,Pl,hcs,_,hl,hm,hmm,hx,hi⟩
 · simp only [List.cons.injEq,Value.slice.injEq,and_true] at hcs
   obtain ⟨rfl,rfl,rfl⟩:=hcs
   exact ⟨[],.inl ⟨_,_,rfl,rfl⟩,rfl,Nat.le_refl _,by unfold maxLen;omega,fun t h=>by cases h⟩
 · simp only [List.cons.injEq,Value.slice.injEq,and_true] at hcs
   obtain ⟨rfl,rfl,rfl⟩:=hcs
   have h3:Tryz.prog.cellsOf 32=10:=by kernel_rfl
   rw [h3] at hi
   have hle:len0≤m:=by rw [hmm];split <;> omega
   have hd:d=.slice ((List.range len0).map D) ((List.range (m - len0)).map fun j=>D (len0 + j)):=(Prod.mk.inj hx).1
   obtain ⟨f,hfc⟩:=Go.Deep.choose_lt (n:=len0) (p:=fun i (t:Deed)=>W.cells? 0 (a.add (i * 10)) 10=some (deedC t)∧DeedOk W t) (fun i hlt=>by
     obtain ⟨cs',hc,ht⟩:=hi i (by omega)
     obtain ⟨t,h1,h2⟩:=deed_elem ht (fun y hy=>hw y (by
       rw [hd,DataW.weights,Tryz.underlying22]
       exact List.mem_cons_of_mem _ (List.mem_append_left _ (weightsAll_mem _ _ (List.mem_map.2 ⟨i,List.mem_range.2 hlt,rfl⟩) y hy))))
     exact ⟨t,by rw [hc,h1],h2⟩)
   have hll:((List.range len0).map f).length=len0:=by simp
   refine ⟨(List.range len0).map f,?_,hll,hl,hm,fun t ht=>?_⟩
   · by_cases hz:len0=0
     · subst hz;exact .inl ⟨_,_,rfl,rfl⟩
     · obtain ⟨b,off,spot⟩:=a
       have hcell:∀ i,i < len0→∀ r,r < 10→W.cell? ((⟨b,off,spot⟩:Addr).add (i * 10 + r))=(deedC (f i))[r]? := fun i hlt r hr=>by
         obtain ⟨_,_,hat⟩:=World.cells?_some (hfc i hlt).1
         rw [←Go.Deep.add_add];exact hat r hr
       have h0:=hcell 0 (by omega) 0 (by omega)
       have hspot:spot=none:=by simpa [Addr.add] using World.cell?_spot (h0.trans rfl)
       subst hspot
       refine .inr ⟨b,off,cap0,by rw [hll],by rw [hll];omega,block_lt_of_cell (h0.trans rfl),fun j u hj=>?_⟩
       have hjl:j < len0 * 10:=by rw [←hll,←deedsC_len];exact (List.getElem?_eq_some_iff.1 hj).1
       have hc:=hcell (j / 10) (by omega) (j % 10) (Nat.mod_lt _ (by decide))
       have hti:((List.range len0).map f)[j / 10]? = some (f (j / 10)):=by
         rw [List.getElem?_map,List.getElem?_range (by omega)];rfl
       have h5:=deedsC_at _ _ (j % 10) _ hti (Nat.mod_lt _ (by decide))
       rw [show j / 10 * 10 + j % 10=j by omega] at hc h5
       rw [←h5,hj] at hc
       rw [←hc]
       refine congrArg W.cell? ?_
       unfold Addr.add
       split
       · rename_i e;rw [e];rfl
       · rfl
   · obtain ⟨i,hir,hit⟩:=List.mem_map.1 ht
     rw [←hit]
     exact (hfc i (List.mem_range.1 hir)).2
end Go.Proofs.YtddbpnplbcjpgaaGreatDoor
namespace Go.Proofs.YtddbpnplbcjpgaaGreatDoor
open Go.RowKit
def bigS:Int→List Wr→Int
 | x,[]=>x
 | x,t :: r=>bigS (IntKind.i64.wrap (x + IntKind.i64.wrap ((IntKind.i64.wrap ((t.key.size:Int) + (t.value.size:Int))).tdiv 8))) r
def bigV (lim:Int) (f h:List Ent) (l:List Wr):Bool:=decide (lim < bigS (IntKind.i64.wrap (IntKind.i64.wrap ((f.length:Int) + (h.length:Int)) + (l.length:Int))) l)
theorem bigS_drop {l:List Wr} {k:Nat} {t:Wr} (x:Int) (ht:l[k]? = some t):bigS x (l.drop k)=bigS (IntKind.i64.wrap (x + IntKind.i64.wrap ((IntKind.i64.wrap ((t.key.size:Int) + (t.value.size:Int))).tdiv 8))) (l.drop (k + 1)):=by
 obtain ⟨hk,h⟩:=List.getElem?_eq_some_iff.1 ht
 rw [List.drop_eq_getElem_cons hk,h];rfl
end Go.Proofs.YtddbpnplbcjpgaaGreatDoor
