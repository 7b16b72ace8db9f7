import Derived.Test.YtddbpnplbcjpgaaGreatDoorLp02
import Derived.Test.YtddbpnplbcjpgaaGreatDoorLp00
import Derived.Test.YtddbpnplbcjpgaaGreatDoorLp01
import Derived.BigQuiet
import Derived.Deep.Draws
import Derived.Shelf.SlSortFuncK.SWK
import Derived.Outline
namespace Go.Proofs.YtddbpnplbcjpgaaGreatDoor
open Go.RowKit
def IsTexts (w:World) (v:Value) (l:List ByteArray):Prop :=
 ∃ a cap,v=.slice a l.length cap∧l.length≤cap∧∀ k s,l[k]? = some s→∃ b off,a=some ⟨b,off,none⟩∧b < w.heap.size∧w.cell? ⟨b,off + k,none⟩=some (.string s)
def IsNums (w:World) (v:Value) (l:List Int):Prop :=
 ∃ a cap,v=.slice a l.length cap∧l.length≤cap∧∀ k n,l[k]? = some n→∃ b off,a=some ⟨b,off,none⟩∧b < w.heap.size∧w.cell? ⟨b,off + k,none⟩=some (.int .i64 n)
theorem IsTexts.below {w w':World} {v:Value} {l:List ByteArray} (h:IsTexts w v l) (hb:Below w.heap.size w w'):IsTexts w' v l:=by
 obtain ⟨a,cap,h1,h2,h3⟩:=h
 exact ⟨a,cap,h1,h2,fun k s hk=>by obtain ⟨b,off,e,hlt,hc⟩:=h3 k s hk;exact ⟨b,off,e,Nat.lt_of_lt_of_le hlt hb.size,(hb.cell hlt).trans hc⟩⟩
theorem IsNums.below {w w':World} {v:Value} {l:List Int} (h:IsNums w v l) (hb:Below w.heap.size w w'):IsNums w' v l:=by
 obtain ⟨a,cap,h1,h2,h3⟩:=h
 exact ⟨a,cap,h1,h2,fun k s hk=>by obtain ⟨b,off,e,hlt,hc⟩:=h3 k s hk;exact ⟨b,off,e,Nat.lt_of_lt_of_le hlt hb.size,(hb.cell hlt).trans hc⟩⟩
theorem IsTexts.alloc {w:World} {v:Value} {l:List ByteArray} (h:IsTexts w v l) (o:Obj):IsTexts (w.alloc o) v l:=h.below ((Below.refl _ _).alloc (Nat.le_refl _) _)
theorem IsNums.alloc {w:World} {v:Value} {l:List Int} (h:IsNums w v l) (o:Obj):IsNums (w.alloc o) v l:=h.below ((Below.refl _ _).alloc (Nat.le_refl _) _)
theorem IsTexts.drewN {w:World} {v:Value} {l:List ByteArray} (h:IsTexts w v l) (n:Nat):IsTexts (w.drewN n) v l:=h.below ⟨rfl,rfl,rfl,Nat.le_refl _,fun _ _=>rfl⟩
theorem IsNums.drewN {w:World} {v:Value} {l:List Int} (h:IsNums w v l) (n:Nat):IsNums (w.drewN n) v l:=h.below ⟨rfl,rfl,rfl,Nat.le_refl _,fun _ _=>rfl⟩
theorem IsTexts.drew {w:World} {v:Value} {l:List ByteArray} (h:IsTexts w v l):IsTexts w.drew v l:=h.below ((Below.refl _ _).drew)
theorem IsNums.drew {w:World} {v:Value} {l:List Int} (h:IsNums w v l):IsNums w.drew v l:=h.below ((Below.refl _ _).drew)
theorem isTexts_nil (w:World):IsTexts w (.slice none 0 0) []:=⟨none,0,rfl,Nat.le_refl _,fun k s h=>by simp at h⟩
theorem IsTexts.take {w:World} {a:Option Addr} {cap:Nat} {l:List ByteArray} (h:IsTexts w (.slice a l.length cap) l) (i c:Nat) (hi:i≤l.length) (hc:i≤c):IsTexts w (.slice a i c) (l.take i):=by
 obtain ⟨a',cap',h1,h2,h3⟩:=h
 obtain ⟨rfl,_,rfl⟩:=Value.slice.inj h1
 refine ⟨a,c,by rw [List.length_take,Nat.min_eq_left hi],by rw [List.length_take];omega,fun k s hk=>?_⟩
 have hki:k < i:=by have:=(List.getElem?_eq_some_iff.1 hk).1;rw [List.length_take] at this;omega
 rw [List.getElem?_take_of_lt hki] at hk
 exact h3 k s hk
theorem ownsS.isTexts {w:World} {base:Nat} {v:Value} {l:List ByteArray} (h:ownsS w base v l):IsTexts w v l:=by
 rcases h.forms with ⟨rfl,rfl⟩ | ⟨g,cap,rfl,hb,hg,hc⟩
 · exact isTexts_nil w
 · have hcap : l.length ≤ cap := by
     rcases h.2 with ⟨e,_⟩ | ⟨_,_,_,e,_,_,hcl,_⟩
     · simp at e
     · obtain ⟨_,_,rfl⟩:=Value.slice.inj e;omega
   refine ⟨_,cap,rfl,hcap,fun k s hk=>⟨g,0,rfl,hg,?_⟩⟩
   obtain ⟨hkl,e⟩:=List.getElem?_eq_some_iff.1 hk
   have:=hc k hkl
   rw [Nat.zero_add,this]
   simp [List.getD_eq_getElem?_getD,hk]
theorem rows_apart {w:World} {base base':Nat} {e1 e2:TypeId} {k1 k2 n1 n2:Nat} {v1 v2:Value} {x1 x2:List Value} (h1:w.ownsRow base e1 k1 v1 n1 x1) (h2:w.ownsRow base' e2 k2 v2 n2 x2) (hne:e1≠e2) :
   v1.ownBlock=none∨v1.ownBlock≠v2.ownBlock:=by
 rcases h1.2 with ⟨rfl,_⟩ | ⟨g,cap,cur,rfl,_,hh,_⟩
 · exact .inl rfl
 · refine .inr ?_
   rcases h2.2 with ⟨rfl,_⟩ | ⟨g',cap',cur',rfl,_,hh',_⟩
   · simp [Value.ownBlock]
   · intro e
     have:g=g':=by simpa [Value.ownBlock] using e
     subst this
     rw [hh] at hh'
     injection hh' with hh'
     injection hh' with _ ht
     exact hne ht
theorem ownsS.off {w:World} {base b:Nat} {v:Value} {l:List ByteArray} (h:ownsS w base v l) (hb:b < base):v.ownBlock≠some b:=fun e=>by have:=(h.lt b e).1;omega
theorem ownsN.off {w:World} {base b:Nat} {v:Value} {l:List Nat} (h:ownsN w base v l) (hb:b < base):v.ownBlock≠some b:=fun e=>by have:=(h.lt b e).1;omega
theorem ownsS.mono {w:World} {base b:Nat} {v:Value} {l:List ByteArray} (h:ownsS w base v l) (hb:b≤base):ownsS w b v l:=by
 refine ⟨h.1,?_⟩
 rcases h.2 with h1 | ⟨g,cap,cur,e,h2,h3⟩
 · exact .inl h1
 · exact .inr ⟨g,cap,cur,e,Nat.le_trans hb h2,h3⟩
theorem ownsN.mono {w:World} {base b:Nat} {v:Value} {l:List Nat} (h:ownsN w base v l) (hb:b≤base):ownsN w b v l:=by
 refine ⟨h.1,?_⟩
 rcases h.2 with h1 | ⟨g,cap,cur,e,h2,h3⟩
 · exact .inl h1
 · exact .inr ⟨g,cap,cur,e,Nat.le_trans hb h2,h3⟩
end Go.Proofs.YtddbpnplbcjpgaaGreatDoor
namespace Go.Proofs.YtddbpnplbcjpgaaGreatDoor
open Go.RowKit
theorem info_ent:(Tryz.prog.info? 62).map (fun i=>(i.zero,i.size,i.bytes))=some (some (.agg #[.int .i64 0,.int .i64 0]),2,16):=by kernel_rfl
def entC (t:Ent):List Value:=[.int .i64 t.rep,.int .i64 t.time]
def entsC (l:List Ent):List Value:=l.flatMap entC
theorem entsC_len (l:List Ent):(entsC l).length=l.length * 2:=by
 induction l with
 | nil=>rfl
 | cons t r ih=>simp only [entsC,List.flatMap_cons,List.length_append,List.length_cons] at ih ⊢;rw [ih];simp [entC];omega
theorem entsC_app (a b:List Ent):entsC (a ++ b)=entsC a ++ entsC b:=by simp [entsC]
theorem entsC_at (l:List Ent) (i j:Nat) (t:Ent) (h:l[i]? = some t) (hj:j < 2):(entsC l)[i * 2 + j]? = (entC t)[j]? := by
 induction l generalizing i with
 | nil=>simp at h
 | cons u r ih =>
   have hc:entsC (u :: r)=entC u ++ entsC r:=by simp [entsC]
   have h3:(entC u).length=2:=rfl
   rw [hc]
   cases i with
   | zero =>
     obtain rfl:u=t:=by simpa using h
     rw [List.getElem?_append_left (by omega)]
     congr 1;omega
   | succ i =>
     rw [List.getElem?_append_right (by omega),h3,show (i + 1) * 2 + j - 2=i * 2 + j by omega]
     exact ih i (by simpa using h)
theorem entsC_int (l:List Ent):∀ u∈entsC l,∃ n,u=.int .i64 n:=by
 intro u hu
 obtain ⟨t,_,ht⟩:=List.mem_flatMap.1 hu
 simp [entC] at ht
 rcases ht with rfl | rfl
 · exact ⟨_,rfl⟩
 · exact ⟨_,rfl⟩
def ownsE (w:World) (base:Nat) (v:Value) (l:List Ent):Prop:=w.ownsRow base 62 2 v l.length (entsC l)
theorem ownsE_nil (w:World) (base:Nat):ownsE w base (.slice none 0 0) []:=World.ownsRow_nil _ _ _ _
theorem ownsE.alloc {w:World} {base:Nat} {v:Value} {l:List Ent} (h:ownsE w base v l) (o:Obj):ownsE (w.alloc o) base v l:=World.ownsRow.alloc h o
theorem ownsE.drew {w:World} {base:Nat} {v:Value} {l:List Ent} (h:ownsE w base v l):ownsE w.drew base v l:=World.ownsRow.drew h
theorem ownsE.drewN {w:World} {base:Nat} {v:Value} {l:List Ent} (h:ownsE w base v l) (n:Nat):ownsE (w.drewN n) base v l:=h
theorem ownsE.lt {w:World} {base:Nat} {v:Value} {l:List Ent} (h:ownsE w base v l):∀ k,v.ownBlock=some k→base≤k∧k < w.heap.size:=World.ownsRow.lt h
theorem ownsE.mono {w:World} {base base':Nat} {v:Value} {l:List Ent} (h:ownsE w base v l) (hb:base'≤base):ownsE w base' v l:=by
 obtain ⟨h0,h1⟩:=h
 refine ⟨h0,?_⟩
 rcases h1 with h1 | ⟨g,cap,cur,hv,hg,r⟩
 · exact .inl h1
 · exact .inr ⟨g,cap,cur,hv,Nat.le_trans hb hg,r⟩
theorem ownsE.below {w w':World} {base:Nat} {v:Value} {l:List Ent} (h:ownsE w base v l) (hb:Below w.heap.size w w'):ownsE w' base v l:=by
 refine World.ownsRow.kept h (row:=none) ⟨hb.os,hb.tape,hb.output,hb.size,fun k hk _=>hb.block k hk⟩ ?_
 cases hv:v.ownBlock with
 | none=>exact .inl rfl
 | some g=>exact .inr (by simp)
def IsEnts (w:World) (v:Value) (l:List Ent):Prop :=
 (∃ a c,v=.slice a 0 c∧l=[])∨∃ b off c,v=.slice (some ⟨b,off,none⟩) l.length c∧(0 < l.length∧l.length≤c)∧b < w.heap.size∧∀ j u,(entsC l)[j]? = some u→w.cell? ⟨b,off + j,none⟩=some u
theorem ownsE.is {w:World} {base:Nat} {v:Value} {l:List Ent} (h:ownsE w base v l):IsEnts w v l:=by
 have hall:=h
 have hlt:=h.lt
 obtain ⟨h0,h1⟩:=h
 rcases h1 with ⟨rfl,hn⟩ | ⟨g,cap,cur,rfl,hb,hh,hc,hm,hs,ht⟩
 · exact .inl ⟨_,_,rfl,List.length_eq_zero_iff.1 hn⟩
 · by_cases hz:l.length=0
   · exact .inl ⟨_,_,by rw [hz],List.length_eq_zero_iff.1 hz⟩
   · refine .inr ⟨g,0,cap,rfl,⟨by omega,hc⟩,(hlt g rfl).2,fun j u hj=>?_⟩
     have hjl:j < l.length * 2:=by rw [←entsC_len];exact (List.getElem?_eq_some_iff.1 hj).1
     rw [Nat.zero_add,World.ownsRow.cellAt hall j hjl]
     exact hj
theorem IsEnts.nil (w:World):IsEnts w (.slice none 0 0) []:=.inl ⟨_,_,rfl,rfl⟩
theorem IsEnts.below {w w':World} {v:Value} {l:List Ent} (h:IsEnts w v l) (hb:Below w.heap.size w w'):IsEnts w' v l:=by
 rcases h with ⟨a,c,h1,h2⟩ | ⟨b,off,c,h1,h0,h2,h3⟩
 · exact .inl ⟨a,c,h1,h2⟩
 · exact .inr ⟨b,off,c,h1,h0,Nat.lt_of_lt_of_le h2 hb.size,fun j u hj=>(hb.cell (p:=⟨b,off + j,none⟩) h2).trans (h3 j u hj)⟩
theorem IsEnts.alloc {w:World} {v:Value} {l:List Ent} (h:IsEnts w v l) (o:Obj):IsEnts (w.alloc o) v l:=h.below ((Below.refl _ _).alloc (Nat.le_refl _) o)
theorem IsEnts.drewN {w:World} {v:Value} {l:List Ent} (h:IsEnts w v l) (n:Nat):IsEnts (w.drewN n) v l:=h
theorem IsEnts.form {w:World} {v:Value} {l:List Ent} (h:IsEnts w v l):∃ a c,v=.slice a l.length c∧∀ i t,l[i]? = some t→∃ b off,a=some ⟨b,off,none⟩∧b < w.heap.size ∧
   w.cell? ⟨b,off + i * 2,none⟩=some (.int .i64 t.rep)∧w.cell? ⟨b,off + i * 2 + 1,none⟩=some (.int .i64 t.time):=by
 rcases h with ⟨a,c,rfl,rfl⟩ | ⟨b,off,c,rfl,h0,h2,h3⟩
 · exact ⟨a,c,rfl,fun i t h=>by simp at h⟩
 · refine ⟨_,_,rfl,fun i t h=>⟨b,off,rfl,h2,?_,?_⟩⟩
   · exact h3 _ _ ((entsC_at l i 0 t h (by omega)).trans rfl)
   · exact h3 _ _ ((entsC_at l i 1 t h (by omega)).trans rfl)
def entBlk (w:World) (B:Nat) (t:Ent):Prop:=w.heap[B]? = some (.cells #[.int .i64 t.rep,.int .i64 t.time] 62 (0,0))
theorem entBlk_new (w:World) (a b:Int):entBlk (w.alloc (.cells #[.int .i64 a,.int .i64 b] 62)) w.heap.size ⟨a,b⟩:=heap_alloc_new _ _
theorem wpList_append_ent {w:World} {ops:Array Oper} {rest:List Oper} {o:Oper} {a:Act} {Q:Exit→Act→World→Prop} (hgd:o.guard=none) (s x:Operand)
   (ho:o.op=.call { callee:=.builtin .append,args:=#[s,x],argTypes:=#[27,27] })
   (base:Nat) (v:Value) (l:List Ent) (hs:a.eval s=v) (hown:ownsE w base v l)
   (B c:Nat) (hx:a.eval x=.slice (some ⟨B,0,none⟩) 1 c) (t:Ent) (hcell:entBlk w B t)
   (hlen:l.length + 1≤1000000) (hbase:base≤w.heap.size)
   (h:∀ g cap w',ownsE w' base (.slice (some ⟨g,0,none⟩) (l.length + 1) cap) (l ++ [t])→w.grownBy w' v.ownBlock→wpList Tryz.prog ops Q rest (a.put o.dst (.slice (some ⟨g,0,none⟩) (l.length + 1) cap)) w'):wpList Tryz.prog ops Q (o :: rest) a w:=by
 obtain ⟨i0,hi,hz0,hz1,hz2⟩:=info_parts info_ent
 refine wpList_append_lies w hgd s x 27 ho base 62 i0 (.agg #[.int .i64 0,.int .i64 0]) 2 16 Tryz.underlying27 hi hz0 hz1 hz2 rfl (by decide) v l.length (entsC l) hs hown ⟨B,0,none⟩ 1 c (entC t) hx rfl ?_ ?_ (by decide) (by unfold maxLen;omega) (by omega) hbase _ rfl ?_
 · intro j u hj
   have hadd:(⟨B,0,none⟩:Addr).add j=⟨B,j,none⟩:=by unfold Addr.add;split <;> simp_all
   rw [hadd,cell_of_row _ _ _ _ _ _ hcell,←hj]
   unfold entC;simp
 · intro u hu;simp [entC] at hu;rcases hu with rfl | rfl <;> rfl
 · intro g cap w' h1 h2 _ _
   refine h g cap w' ?_ h2
   unfold ownsE
   rw [List.length_append,entsC_app]
   simpa [entsC] using h1
theorem ownsE.form {w:World} {base:Nat} {v:Value} {l:List Ent} (h:ownsE w base v l):(v=.slice none 0 0∧l=[])∨∃ g cap,v=.slice (some ⟨g,0,none⟩) l.length cap∧base≤g∧g < w.heap.size∧∀ j u,(entsC l)[j]? = some u→w.cell? ⟨g,j,none⟩=some u:=by
 have hall:=h
 have hlt:=h.lt
 obtain ⟨h0,h1⟩:=h
 rcases h1 with ⟨rfl,hn⟩ | ⟨g,cap,cur,rfl,hb,hh,hc,hm,hs,ht⟩
 · exact .inl ⟨rfl,List.length_eq_zero_iff.1 hn⟩
 · refine .inr ⟨g,cap,rfl,hb,(hlt g rfl).2,fun j u hj=>?_⟩
   have hjl:j < l.length * 2:=by rw [←entsC_len];exact (List.getElem?_eq_some_iff.1 hj).1
   rw [World.ownsRow.cellAt hall j hjl]
   exact hj
end Go.Proofs.YtddbpnplbcjpgaaGreatDoor
namespace Go.Proofs.YtddbpnplbcjpgaaGreatDoor
open Go.RowKit
theorem ownsS.slice {w:World} {base:Nat} {v:Value} {l:List ByteArray} (h:ownsS w base v l):∃ a c,v=.slice a l.length c:=by
 rcases h.forms with ⟨rfl,rfl⟩ | ⟨g,cap,rfl,_⟩
 · exact ⟨none,0,rfl⟩
 · exact ⟨_,cap,rfl⟩
theorem ownsS.at {w:World} {base n c:Nat} {a:Option Addr} {l:List ByteArray} (h:ownsS w base (.slice a n c) l) (h0:0 < l.length):∃ g,a=some ⟨g,0,none⟩∧base≤g:=by
 rcases h.forms with ⟨_,rfl⟩ | ⟨g,cap,e,hb,_⟩
 · exact absurd h0 (by simp)
 · obtain ⟨e1,_⟩:=Value.slice.inj e
   exact ⟨g,e1,hb⟩
theorem ownsS.setC {w:World} {base B i:Nat} {v:Value} {l:List ByteArray} (h:ownsS w base v l) (z:Value) (hne:v.ownBlock≠some B):ownsS (w.setCell ⟨B,i,none⟩ z) base v l :=
 World.ownsRow.kept h (row:=some B) ⟨rfl,rfl,rfl,by rw [show (w.setCell ⟨B,i,none⟩ z).heap.size=w.heap.size from by simp];exact Nat.le_refl _,fun k _ hk=>heap_setCell_other _ _ _ _ (fun e=>hk (by rw [e]))⟩ (.inr hne)
theorem below_gr {w W:World} (h:w.grownBy W none):Below w.heap.size w W:=⟨h.os,h.tape,h.output,h.size,fun k hk=>h.block k hk (by simp)⟩
end Go.Proofs.YtddbpnplbcjpgaaGreatDoor
namespace Go.Proofs.YtddbpnplbcjpgaaGreatDoor
open Go.Shelf Go.RowKit Go.Lib Go.Sort Go.Proofs
variable {P:Program} {ρ:Ren} {α:Type} [Inhabited α]
theorem cell_swk {enc:α→List Value} {k:Nat} {wr w':World} {blk off:Nat} {d:Array α} (h:SWK enc k wr blk off d w') (p:Addr) (h1:p.block≠blk) (h2:p.block < wr.heap.size):w'.cell? p=wr.cell? p:=by
 obtain ⟨n,os,rfl⟩:=h
 unfold sortWorldK
 rw [cell?_grow _ _ _ (by rw [size_putRowK];exact h2),cell?_putRowK_other enc k _ blk off d p h1]
 rfl
structure SWC (enc:α→List Value) (k:Nat) (w:World) (blk off:Nat) (g:Nat) (lb:Array Value) (sf:Nat) (sb:Array Value) (d dk:Array α) (wr:World):Prop where
 sw:SWK enc k w blk off dk wr
 c0:wr.cell? ⟨w.heap.size,0,none⟩=some (.func (.func g) #[] lb)
 c1:wr.cell? ⟨w.heap.size,1,none⟩=some (.func (.func sf) #[] sb)
 lt:w.heap.size < wr.heap.size
 size:dk.size=d.size
theorem SWC.start {enc:α→List Value} {k:Nat} {w:World} {blk off g:Nat} {lb:Array Value} {sf:Nat} {sb:Array Value} {d:Array α} (hH:HoldsK enc k w blk off d) (t:TypeId) :
   SWC enc k w blk off g lb sf sb d d (w.alloc (.cells #[.func (.func g) #[] lb,.func (.func sf) #[] sb] t)) :=
 ⟨(SWK.start hH).alloc _,by simp,by simp,by simp,rfl⟩
theorem SWC.drewN {enc:α→List Value} {k:Nat} {w wr:World} {blk off g:Nat} {lb:Array Value} {sf:Nat} {sb:Array Value} {d dk:Array α} (h:SWC enc k w blk off g lb sf sb d dk wr) (q:Nat):SWC enc k w blk off g lb sf sb d dk (wr.drewN q) :=
 ⟨h.sw.drewN q,h.c0,h.c1,h.lt,h.size⟩
theorem SWC.grow {enc:α→List Value} {k:Nat} {w wr:World} {blk off g:Nat} {lb:Array Value} {sf:Nat} {sb:Array Value} {d dk:Array α} (h:SWC enc k w blk off g lb sf sb d dk wr) (q:Nat) (os:Array Obj):SWC enc k w blk off g lb sf sb d dk (Sort.grow (wr.drewN q) os):=by
 have h1:=h.drewN q
 refine ⟨?_,?_,?_,?_,h.size⟩
 · obtain ⟨n,os0,e⟩:=h1.sw
   exact ⟨n,os0 ++ os,by rw [e];unfold sortWorldK;rw [grow_grow]⟩
 · rw [cell?_grow _ _ _ h1.lt];exact h1.c0
 · rw [cell?_grow _ _ _ h1.lt];exact h1.c1
 · rw [size_grow];have:=h1.lt;omega
def LessK (P:Program) (g:Nat) (lb:Array Value) (enc:α→List Value) (k:Nat) (lt:α→α→Bool) (blk off size:Nat) (w:World):Prop :=
 ∀ (m:Nat) (os:Array Obj) (dk:Array α),dk.size=size→∀ i j:Nat,i < size→j < size →
   Calls P g (#[.int .i64 i,.int .i64 j] ++ lb) (sortWorldK enc k w blk off m dk os) fun e w'=>e=.returned (.bool (lt dk[i]! dk[j]!))∧∃ q os',w'=Sort.grow ((sortWorldK enc k w blk off m dk os).drewN q) os'
theorem LessK.of {g:Nat} {lb:Array Value} {enc:α→List Value} {k:Nat} {lt:α→α→Bool} {blk off size:Nat} {w0 W:World} {d:Array α} (h:LessK P g lb enc k lt blk off size w0) (S:SWK enc k w0 blk off d W) (hblk:blk < w0.heap.size) (hs:d.size=size):LessK P g lb enc k lt blk off size W:=by
 obtain ⟨n,os0,rfl⟩:=S
 intro m os dk hdk i j hi hj
 rw [sortWorldK_on enc k w0 blk off n m d dk os0 os hblk (hdk.trans hs.symm)]
 exact h _ _ dk hdk i j hi hj
theorem SWC.less {enc:α→List Value} {k:Nat} {w wr:World} {blk off g:Nat} {lb:Array Value} {sf:Nat} {sb:Array Value} {lt:α→α→Bool} {d dk:Array α} (h:SWC enc k w blk off g lb sf sb d dk wr) (hL:LessK P g lb enc k lt blk off d.size w) {i j:Nat} (hi:i < d.size) (hj:j < d.size) :
   Calls P g (#[.int .i64 i,.int .i64 j] ++ lb) wr fun e w'=>e=.returned (.bool (lt dk[i]! dk[j]!))∧SWC enc k w blk off g lb sf sb d dk w':=by
 have hc:Calls P g (#[.int .i64 i,.int .i64 j] ++ lb) wr fun e w'=>e=.returned (.bool (lt dk[i]! dk[j]!))∧∃ q os',w'=Sort.grow (wr.drewN q) os':=by
   obtain ⟨n,os,e⟩:=h.sw
   rw [e]
   exact hL n os dk h.size i j hi hj
 exact hc.mono fun e w' ⟨h1,q,os',h2⟩=>⟨h1,by rw [h2];exact h.grow q os'⟩
theorem SWC.on {enc:α→List Value} {k:Nat} {w wr w':World} {blk off g:Nat} {lb:Array Value} {sf:Nat} {sb:Array Value} {d dk d':Array α} (h:SWC enc k w blk off g lb sf sb d dk wr) (hblk:blk < w.heap.size) (h':SWK enc k wr blk off d' w') (hs:d'.size=dk.size):SWC enc k w blk off g lb sf sb d d' w':=by
 have hne:w.heap.size≠blk:=by omega
 refine ⟨?_,(cell_swk h' _ hne h.lt).trans h.c0,(cell_swk h' _ hne h.lt).trans h.c1,Nat.lt_of_lt_of_le h.lt h'.le,hs.trans h.size⟩
 obtain ⟨n,os,rfl⟩:=h'
 exact h.sw.on hblk n d' os hs
theorem SWC.swap {enc:α→List Value} {k:Nat} {w wr:World} {blk off g:Nat} {lb:Array Value} {sf:Nat} {sb:Array Value} {d dk:Array α} (h:SWC enc k w blk off g lb sf sb d dk wr) (hk:∀ x,(enc x).length=k) (hblk:blk < w.heap.size) (hH:HoldsK enc k w blk off d) (hswap:SwapSwapsK P sf sb enc k blk off d.size) {i j:Nat} (hi:i < d.size) (hj:j < d.size) :
   ∃ w2,(callFunc sf (#[.int .i64 i,.int .i64 j] ++ sb)).run P wr=.ok (.value (.tuple #[])) w2∧SWC enc k w blk off g lb sf sb d (swp dk i j) w2:=by
 have hne:w.heap.size≠blk:=by omega
 have hs:=h.size
 refine ⟨_,hswap wr dk (h.sw.holds hblk hH hs) hs i j hi hj,h.sw.swap hk hblk i j (by omega) (by omega),?_,?_,by simpa using h.lt,by rw [size_swp];exact hs⟩
 · rw [World.cell?_setCells_out blk _ _ _ _ (fun e _=>absurd e hne),World.cell?_setCells_out blk _ _ _ _ (fun e _=>absurd e hne)];exact h.c0
 · rw [World.cell?_setCells_out blk _ _ _ _ (fun e _=>absurd e hne),World.cell?_setCells_out blk _ _ _ _ (fun e _=>absurd e hne)];exact h.c1
set_option maxHeartbeats 4000000 in
set_option maxRecDepth 1000000 in
theorem swapRange_cells (L:LaysGt.n49 P ρ) (enc:α→List Value) (k:Nat) (hk:∀ x,(enc x).length=k) (g:Nat) (lb:Array Value) (sf:Nat) (sb:Array Value) (blk off l h a b n:Nat) (d:Array α) (w:World) (hswap:SwapSwapsK P sf sb enc k blk off d.size) (hH:HoldsK enc k w blk off d) (hblk:blk < w.heap.size)
   (hla:l≤a) (hab:a + n≤b) (hbh:b + n≤h) (hh:h≤d.size) (hsz:d.size < 4611686018427387904) :
   Calls P (ρ.f 49) #[.agg #[.func (.func g) #[] lb,.func (.func sf) #[] sb],.int .i64 a,.int .i64 b,.int .i64 n] w fun e w'=>e=.returned (.tuple #[])∧∃ d',SwR l h a b n d d'∧SWK enc k w blk off d' w':=by
 have mixed:=L.mixed;have t0:=L.t0;have a0:=L.a0;have z0:=L.z0;have v0:=L.v0;have t3:=L.t3;have a3:=L.a3;have z3:=L.z3;have v3:=L.v3;have t4:=L.t4;have a4:=L.a4;have z4:=L.z4;have v4:=L.v4;have t26:=L.t26;have a26:=L.a26;have z26:=L.z26;have v26:=L.v26;have t38:=L.t38;have a38:=L.a38;have z38:=L.z38;have v38:=L.v38;have t42:=L.t42;have a42:=L.a42;have z42:=L.z42;have v42:=L.v42
 have u42:=run_underlying L.t42
 go_enter L.f49,BodyGt.n49_ntmps ρ
 go_wp2
 go_loopw [8] (fun vi wr=>∃ (i:Nat) (dk:Array α),vi=.int .i64 i∧i≤n∧SwR l h a b i d dk∧Aside (SWC enc k w blk off g lb sf sb d dk wr)) (fun vi _=>n - (intOf vi).toNat)
 case atStart=>exact ⟨0,d,by go_num,by omega,swR_zero _ _ _ _ _,SWC.start hH _⟩
 case round =>
   obtain ⟨i,dk,rfl,hin,hR,S⟩:=hrel
   have HR:=Lib.hid hR
   clear hR
   by_cases hlt:i < n
   · have b1:decide ((i:Int) < (n:Int))=true:=by simpa using hlt
     have c1:=S.out.c1
     obtain ⟨w2,hs,S2⟩:=S.out.swap hk hblk hH hswap (i:=a + i) (j:=b + i) (by omega) (by omega)
     rw [show ((a + i:Nat):Int)=(a:Int) + (i:Int) by omega,show ((b + i:Nat):Int)=(b:Int) + (i:Int) by omega] at hs
     have S2':Aside (SWC enc k w blk off g lb sf sb d (swp dk (a + i) (b + i)) w2):=S2
     clear S S2 hswap hH
     go_wp2
     go_roundw
     · exact ⟨i + 1,swp dk (a + i) (b + i),by go_num,by omega,swR_step HR.out hla (by omega) (by omega) hh,S2'⟩
     · simp [intOf];omega
   · have b1:decide ((i:Int) < (n:Int))=false:=by simp;omega
     obtain rfl:i=n:=by omega
     go_wp2
     go_end0
     exact ⟨rfl,dk,HR.out,S.out.sw⟩
set_option maxHeartbeats 4000000 in
set_option maxRecDepth 1000000 in
theorem rotate_cells (L:LaysGt.n42 P ρ) (enc:α→List Value) (k:Nat) (hk:∀ x,(enc x).length=k) (g:Nat) (lb:Array Value) (sf:Nat) (sb:Array Value) (blk off l h a m b:Nat) (d:Array α) (w:World) (hswap:SwapSwapsK P sf sb enc k blk off d.size) (hH:HoldsK enc k w blk off d) (hblk:blk < w.heap.size)
   (hla:l≤a) (ham:a < m) (hmb:m < b) (hbh:b≤h) (hh:h≤d.size) (hsz:d.size < 4611686018427387904) :
   Calls P (ρ.f 42) #[.agg #[.func (.func g) #[] lb,.func (.func sf) #[] sb],.int .i64 a,.int .i64 m,.int .i64 b] w fun e w'=>e=.returned (.tuple #[])∧∃ d',RotI l h m (m - a) (b - m) d d'∧SWK enc k w blk off d' w':=by
 have mixed:=L.mixed;have t0:=L.t0;have a0:=L.a0;have z0:=L.z0;have v0:=L.v0;have t3:=L.t3;have a3:=L.a3;have z3:=L.z3;have v3:=L.v3;have t4:=L.t4;have a4:=L.a4;have z4:=L.z4;have v4:=L.v4;have t26:=L.t26;have a26:=L.a26;have z26:=L.z26;have v26:=L.v26;have t38:=L.t38;have a38:=L.a38;have z38:=L.z38;have v38:=L.v38;have t42:=L.t42;have a42:=L.a42;have z42:=L.z42;have v42:=L.v42
 have u42:=run_underlying L.t42
 have e49:∀ args w,(callFunc (ρ.f 49) args).run P w=.ok (.enter (ρ.f 49) args) w:=enters_of L.f49 (by kernel_rfl) rfl
 obtain ⟨i0,hi0⟩:∃ i0,i0=m - a:=⟨_,rfl⟩
 obtain ⟨j0,hj0⟩:∃ j0,j0=b - m:=⟨_,rfl⟩
 rw [←hi0,←hj0]
 have HB:Hid (0 < i0∧0 < j0∧i0≤m∧l≤m - i0∧m + j0≤h):=Lib.hid (by omega)
 have hm1:(m:Int) - (a:Int)=(i0:Int):=by omega
 have hm2:(b:Int) - (m:Int)=(j0:Int):=by omega
 clear hi0 hj0
 go_enter L.f42,BodyGt.n42_ntmps ρ
 go_wp2
 go_loopw [8,9] (fun vi vj wr=>∃ (i j:Nat) (dk:Array α),vi=.int .i64 i∧vj=.int .i64 j∧0 < i∧0 < j∧i≤i0∧j≤j0∧Hid (∀ R:Array α,RotI l h m i j dk R→RotI l h m i0 j0 d R)∧Aside (SWC enc k w blk off g lb sf sb d dk wr)) (fun vi vj _=>(intOf vi).toNat + (intOf vj).toNat)
 case atStart=>exact ⟨i0,j0,d,by go_num,by go_num,HB.out.1,HB.out.2.1,by omega,by omega,fun _ h=>h,SWC.start hH _⟩
 case round =>
   obtain ⟨i,j,dk,rfl,rfl,hi0,hj0,hii,hjj,HR,S⟩:=hrel
   have hb:=HB.out
   have c0:=S.out.c0
   have c1:=S.out.c1
   have hds:=S.out.size
   by_cases hij:i=j
   · subst hij
     have b1:((i:Int) != (i:Int))=false:=by simp
     have hcall:=swapRange_cells { L with } enc k hk g lb sf sb blk off l h (m - i) m i dk _ (by rw [hds];exact hswap) (S.out.sw.holds hblk hH hds) (S.out.sw.lt hblk) (by omega) (by omega) (by omega) (by omega) (by omega)
     rw [show ((m - i:Nat):Int)=(m:Int) - (i:Int) by omega] at hcall
     have S':Aside (SWC enc k w blk off g lb sf sb d dk wr):=S
     clear S hswap hH hds
     go_wp2_with (go_at_fn (ρ.f 49);refine hcall.mono ?_;rintro e w1 ⟨rfl,d1,hs1,hw1⟩)
     go_end0
     exact ⟨rfl,d1,HR.out d1 (rot_eq (by omega) hs1),(S'.out.on hblk hw1 hs1.perm.1).sw⟩
   · have b1:((i:Int) != (j:Int))=true:=by simp;omega
     by_cases hgt:j < i
     · have b2:decide ((j:Int) < (i:Int))=true:=by simpa using hgt
       have hcall:=swapRange_cells { L with } enc k hk g lb sf sb blk off l h (m - i) m j dk _ (by rw [hds];exact hswap) (S.out.sw.holds hblk hH hds) (S.out.sw.lt hblk) (by omega) (by omega) (by omega) (by omega) (by omega)
       rw [show ((m - i:Nat):Int)=(m:Int) - (i:Int) by omega] at hcall
       have S':Aside (SWC enc k w blk off g lb sf sb d dk wr):=S
       clear S hswap hH hds
       go_wp2_with (go_at_fn (ρ.f 49);refine hcall.mono ?_;rintro e w1 ⟨rfl,d1,hs1,hw1⟩;have HS1:=Lib.hid hs1;have S1:Aside (SWC enc k w blk off g lb sf sb d d1 w1):=S'.out.on hblk hw1 hs1.perm.1;clear hs1 hw1 hcall)
       go_roundw
       · exact ⟨i - j,j,d1,by congr 1;omega,rfl,by omega,hj0,by omega,hjj,fun R hR=>HR.out R (rot_gt (by omega) hj0 hgt HS1.out hR),S1⟩
       · simp [intOf];omega
     · have b2:decide ((j:Int) < (i:Int))=false:=by simp;omega
       have hcall:=swapRange_cells { L with } enc k hk g lb sf sb blk off l h (m - i) (m + j - i) i dk _ (by rw [hds];exact hswap) (S.out.sw.holds hblk hH hds) (S.out.sw.lt hblk) (by omega) (by omega) (by omega) (by omega) (by omega)
       rw [show ((m - i:Nat):Int)=(m:Int) - (i:Int) by omega,show ((m + j - i:Nat):Int)=(m:Int) + (j:Int) - (i:Int) by omega] at hcall
       have S':Aside (SWC enc k w blk off g lb sf sb d dk wr):=S
       clear S hswap hH hds
       go_wp2_with (go_at_fn (ρ.f 49);refine hcall.mono ?_;rintro e w1 ⟨rfl,d1,hs1,hw1⟩;have HS1:=Lib.hid hs1;have S1:Aside (SWC enc k w blk off g lb sf sb d d1 w1):=S'.out.on hblk hw1 hs1.perm.1;clear hs1 hw1 hcall)
       go_roundw
       · exact ⟨i,j - i,d1,rfl,by congr 1;omega,hi0,by omega,hii,by omega,fun R hR=>HR.out R (rot_lt (by omega) hi0 (by omega) HS1.out hR),S1⟩
       · simp [intOf];omega
structure Kit (P:Program) (ρ:Ren) (enc:α→List Value) (k:Nat) (w:World) (blk off g:Nat) (lb:Array Value) (sf:Nat) (sb:Array Value) (lt:α→α→Bool) (d:Array α) (N:Nat):Prop where
 less:∀ (dk:Array α) (wr:World) (i j:Nat),SWC enc k w blk off g lb sf sb d dk wr→i < d.size→j < d.size →
   Calls P g (#[.int .i64 i,.int .i64 j] ++ lb) wr fun e w'=>e=.returned (.bool (lt dk[i]! dk[j]!))∧SWC enc k w blk off g lb sf sb d dk w'
 swap:∀ (dk:Array α) (wr:World) (i j:Nat),SWC enc k w blk off g lb sf sb d dk wr→i < d.size→j < d.size →
   ∃ w2,(callFunc sf (#[.int .i64 i,.int .i64 j] ++ sb)).run P wr=.ok (.value (.tuple #[])) w2∧SWC enc k w blk off g lb sf sb d (swp dk i j) w2
 rot:∀ (dk:Array α) (wr:World) (s m e:Nat),SWC enc k w blk off g lb sf sb d dk wr→s < m→m < e→e≤d.size →
   Calls P (ρ.f 42) #[.agg #[.func (.func g) #[] lb,.func (.func sf) #[] sb],.int .i64 s,.int .i64 m,.int .i64 e] wr fun r w'=>r=.returned (.tuple #[])∧∃ d',RotI s e m (m - s) (e - m) dk d'∧SWC enc k w blk off g lb sf sb d d' w'
 sym:∀ (dk:Array α) (wr:World) (a m b:Nat),SWC enc k w blk off g lb sf sb d dk wr→b - a≤N→a < m→m < b→b≤d.size→SortedIn lt a m dk→SortedIn lt m b dk →
   Calls P (ρ.f 30) #[.agg #[.func (.func g) #[] lb,.func (.func sf) #[] sb],.int .i64 a,.int .i64 m,.int .i64 b] wr fun r w'=>r=.returned (.tuple #[])∧∃ d',PermIn a b dk d'∧SortedIn lt a b d'∧SWC enc k w blk off g lb sf sb d d' w'
set_option maxHeartbeats 8000000 in
set_option maxRecDepth 1000000 in
theorem symA (L:LaysGt.n30 P ρ) (enc:α→List Value) (k:Nat) (g:Nat) (lb:Array Value) (sf:Nat) (sb:Array Value) (lt:α→α→Bool) (hS:SWO lt) (eg:∀ args w,(callFunc g args).run P w=.ok (.enter g args) w) (blk off a m b N:Nat) (d:Array α) (w:World) (K:Kit P ρ enc k w blk off g lb sf sb lt d N) (hH:HoldsK enc k w blk off d)
   (hA:m=a + 1) (hmb:m < b) (hb:b≤d.size) (hsz:d.size < 4611686018427387904) (h2:SortedIn lt m b d) :
   Calls P (ρ.f 30) #[.agg #[.func (.func g) #[] lb,.func (.func sf) #[] sb],.int .i64 a,.int .i64 m,.int .i64 b] w fun e w'=>e=.returned (.tuple #[])∧∃ d',PermIn a b d d'∧SortedIn lt a b d'∧SWK enc k w blk off d' w':=by
 have mixed:=L.mixed;have t0:=L.t0;have a0:=L.a0;have z0:=L.z0;have v0:=L.v0;have t3:=L.t3;have a3:=L.a3;have z3:=L.z3;have v3:=L.v3;have t4:=L.t4;have a4:=L.a4;have z4:=L.z4;have v4:=L.v4;have t26:=L.t26;have a26:=L.a26;have z26:=L.z26;have v26:=L.v26;have t38:=L.t38;have a38:=L.a38;have z38:=L.z38;have v38:=L.v38;have t42:=L.t42;have a42:=L.a42;have z42:=L.z42;have v42:=L.v42;have t47:=L.t47;have a47:=L.a47;have z47:=L.z47;have v47:=L.v47
 have u42:=run_underlying L.t42
 have u47:=run_underlying L.t47
 have u3:=run_underlying L.t3
 have HK:=Lib.hid K
 have H2:=Lib.hid h2
 have HA:=Lib.hid hA
 have hm1:(m:Int) - (a:Int)=1:=by omega
 have ham:a < m:=by omega
 have SS:=SWC.start (g:=g) (lb:=lb) (sf:=sf) (sb:=sb) hH (ρ.t 42)
 have S0:Aside (SWC enc k w blk off g lb sf sb d d (w.alloc (.cells #[.func (.func g) #[] lb,.func (.func sf) #[] sb] (ρ.t 42)))):=SS
 clear K h2 hA hH SS
 go_enter L.f30,BodyGt.n30_ntmps ρ
 go_wp2
 go_loopw [8,9] (fun vi vj wr=>∃ i j:Nat,vi=.int .i64 i∧vj=.int .i64 j∧m≤i∧i≤j∧j≤b∧Hid (∀ x,m≤x→x < i→lt d[x]! d[a]! = true)∧Hid (∀ x,j≤x→x < b→lt d[x]! d[a]! = false)∧Aside (SWC enc k w blk off g lb sf sb d d wr)) (fun vi vj _=>(intOf vj).toNat - (intOf vi).toNat)
 case atStart=>exact ⟨m,b,rfl,rfl,by omega,by omega,by omega,fun x h1 h2=>by omega,fun x h1 h2=>by omega,S0⟩
 case round =>
   obtain ⟨i,j,rfl,rfl,hmi,hij,hjb,F1,F2,S⟩:=hrel
   have c0:=S.out.c0
   have c1:=S.out.c1
   by_cases hlt:i < j
   · have b1:decide ((i:Int) < (j:Int))=true:=by simpa using hlt
     obtain ⟨h,hh⟩:∃ h,h=(i + j) / 2:=⟨_,rfl⟩
     have hq:((i:Int) + (j:Int)) / 2=(h:Int):=by omega
     have hih:i≤h:=by omega
     have hhj:h < j:=by omega
     have hfu:=find_up hS H2.out hmi hih hhj hjb F1.out F2.out
     have HFU:=Lib.hid hfu
     have hl:=HK.out.less d wr h a S.out (by omega) (by omega)
     clear hh hfu
     cases hlv:lt d[h]! d[a]! with
     | true =>
       rw [hlv] at hl
       have HN:=Lib.hid (HFU.out.1 hlv)
       clear hlv
       go_wp2_with (go_at_fn g;refine hl.mono ?_;rintro e w1 ⟨rfl,hs1⟩;have S1:Aside (SWC enc k w blk off g lb sf sb d d w1):=hs1;clear hs1)
       go_roundw
       · exact ⟨h + 1,j,by go_num,rfl,by omega,by omega,hjb,HN,F2,S1⟩
       · simp [intOf];omega
     | false =>
       rw [hlv] at hl
       have HN:=Lib.hid (HFU.out.2 hlv)
       clear hlv
       go_wp2_with (go_at_fn g;refine hl.mono ?_;rintro e w1 ⟨rfl,hs1⟩;have S1:Aside (SWC enc k w blk off g lb sf sb d d w1):=hs1;clear hs1)
       go_roundw
       · exact ⟨i,h,rfl,by go_num,hmi,hih,by omega,F1,HN,S1⟩
       · simp [intOf];omega
   · have b1:decide ((i:Int) < (j:Int))=false:=by simp;omega
     obtain rfl:i=j:=by omega
     have S1:Aside (SWC enc k w blk off g lb sf sb d d wr):=S
     clear S c0 c1
     go_wp2
     go_loopw [11] (fun vk wq=>∃ (t:Nat) (dk:Array α),vk=.int .i64 t∧a≤t∧t + 1≤i∧Hid (UpI a b a t d dk)∧Aside (SWC enc k w blk off g lb sf sb d dk wq)) (fun vk _=>i - (intOf vk).toNat)
     case atStart=>exact ⟨a,d,rfl,by omega,by omega,up_zero _ _ _ _,S1⟩
     case round =>
       obtain ⟨t,dk,rfl,hat,hti,U,S⟩:=hrel
       by_cases hlt2:t + 1 < i
       · have b2:decide ((t:Int) < (i:Int) - 1)=true:=by simp;omega
         have c1:=S.out.c1
         obtain ⟨w2,hs,S2⟩:=HK.out.swap dk wr t (t + 1) S.out (by omega) (by omega)
         rw [show ((t + 1:Nat):Int)=(t:Int) + 1 by omega] at hs
         have S2':Aside (SWC enc k w blk off g lb sf sb d (swp dk t (t + 1)) w2):=S2
         clear S S2
         go_wp2
         go_roundw
         · exact ⟨t + 1,swp dk t (t + 1),by go_num,by omega,by omega,up_step U.out (Nat.le_refl _) hat (by omega) hb,S2'⟩
         · simp [intOf];omega
       · have b2:decide ((t:Int) < (i:Int) - 1)=false:=by simp;omega
         have hti2:t=i - 1:=by omega
         have HT:=Lib.hid hti2
         clear hti2
         go_wp2
         refine bodyPost_ret (results_none rfl _ _ _) rfl ?_
         have U2:UpI a b a (i - 1) d dk:=by rw [←HT.out];exact U.out
         exact ⟨rfl,dk,U2.perm,up_sorted hS U2 (by omega) hjb (by rw [←HA.out];exact H2.out) (by rw [←HA.out];exact F1.out) F2.out,S.out.sw⟩
set_option maxHeartbeats 8000000 in
set_option maxRecDepth 1000000 in
theorem symB (L:LaysGt.n30 P ρ) (enc:α→List Value) (k:Nat) (g:Nat) (lb:Array Value) (sf:Nat) (sb:Array Value) (lt:α→α→Bool) (hS:SWO lt) (eg:∀ args w,(callFunc g args).run P w=.ok (.enter g args) w) (blk off a m b N:Nat) (d:Array α) (w:World) (K:Kit P ρ enc k w blk off g lb sf sb lt d N) (hH:HoldsK enc k w blk off d)
   (hA:m≠a + 1) (hB:b=m + 1) (ham:a < m) (hb:b≤d.size) (hsz:d.size < 4611686018427387904) (h1:SortedIn lt a m d) :
   Calls P (ρ.f 30) #[.agg #[.func (.func g) #[] lb,.func (.func sf) #[] sb],.int .i64 a,.int .i64 m,.int .i64 b] w fun e w'=>e=.returned (.tuple #[])∧∃ d',PermIn a b d d'∧SortedIn lt a b d'∧SWK enc k w blk off d' w':=by
 have mixed:=L.mixed;have t0:=L.t0;have a0:=L.a0;have z0:=L.z0;have v0:=L.v0;have t3:=L.t3;have a3:=L.a3;have z3:=L.z3;have v3:=L.v3;have t4:=L.t4;have a4:=L.a4;have z4:=L.z4;have v4:=L.v4;have t26:=L.t26;have a26:=L.a26;have z26:=L.z26;have v26:=L.v26;have t38:=L.t38;have a38:=L.a38;have z38:=L.z38;have v38:=L.v38;have t42:=L.t42;have a42:=L.a42;have z42:=L.z42;have v42:=L.v42;have t47:=L.t47;have a47:=L.a47;have z47:=L.z47;have v47:=L.v47
 have u42:=run_underlying L.t42
 have u47:=run_underlying L.t47
 have u3:=run_underlying L.t3
 have HK:=Lib.hid K
 have H1:=Lib.hid h1
 have HB:=Lib.hid hB
 have hm1:((m:Int) - (a:Int) == 1)=false:=by simp;omega
 have hm2:(b:Int) - (m:Int)=1:=by omega
 have hmb:m < b:=by omega
 have SS:=SWC.start (g:=g) (lb:=lb) (sf:=sf) (sb:=sb) hH (ρ.t 42)
 have S0:Aside (SWC enc k w blk off g lb sf sb d d (w.alloc (.cells #[.func (.func g) #[] lb,.func (.func sf) #[] sb] (ρ.t 42)))):=SS
 clear K h1 hA hB hH SS
 go_enter L.f30,BodyGt.n30_ntmps ρ
 go_wp2
 go_loopw [12,13] (fun vi vj wr=>∃ i j:Nat,vi=.int .i64 i∧vj=.int .i64 j∧a≤i∧i≤j∧j≤m∧Hid (∀ x,a≤x→x < i→lt d[m]! d[x]! = false)∧Hid (∀ x,j≤x→x < m→lt d[m]! d[x]! = true)∧Aside (SWC enc k w blk off g lb sf sb d d wr)) (fun vi vj _=>(intOf vj).toNat - (intOf vi).toNat)
 case atStart=>exact ⟨a,m,rfl,rfl,by omega,by omega,by omega,fun x h1 h2=>by omega,fun x h1 h2=>by omega,S0⟩
 case round =>
   obtain ⟨i,j,rfl,rfl,hai,hij,hjm,F1,F2,S⟩:=hrel
   have c0:=S.out.c0
   have c1:=S.out.c1
   by_cases hlt:i < j
   · have b1:decide ((i:Int) < (j:Int))=true:=by simpa using hlt
     obtain ⟨h,hh⟩:∃ h,h=(i + j) / 2:=⟨_,rfl⟩
     have hq:((i:Int) + (j:Int)) / 2=(h:Int):=by omega
     have hih:i≤h:=by omega
     have hhj:h < j:=by omega
     have hfu:=find_dn hS H1.out hai hih hhj hjm F1.out F2.out
     have HFU:=Lib.hid hfu
     have hl:=HK.out.less d wr m h S.out (by omega) (by omega)
     clear hh hfu
     cases hlv:lt d[m]! d[h]! with
     | false =>
       rw [hlv] at hl
       have HN:=Lib.hid (HFU.out.1 hlv)
       clear hlv
       go_wp2_with (go_at_fn g;refine hl.mono ?_;rintro e w1 ⟨rfl,hs1⟩;have S1:Aside (SWC enc k w blk off g lb sf sb d d w1):=hs1;clear hs1)
       go_roundw
       · exact ⟨h + 1,j,by go_num,rfl,by omega,by omega,hjm,HN,F2,S1⟩
       · simp [intOf];omega
     | true =>
       rw [hlv] at hl
       have HN:=Lib.hid (HFU.out.2 hlv)
       clear hlv
       go_wp2_with (go_at_fn g;refine hl.mono ?_;rintro e w1 ⟨rfl,hs1⟩;have S1:Aside (SWC enc k w blk off g lb sf sb d d w1):=hs1;clear hs1)
       go_roundw
       · exact ⟨i,h,rfl,by go_num,hai,hih,by omega,F1,HN,S1⟩
       · simp [intOf];omega
   · have b1:decide ((i:Int) < (j:Int))=false:=by simp;omega
     obtain rfl:i=j:=by omega
     have S1:Aside (SWC enc k w blk off g lb sf sb d d wr):=S
     clear S c0 c1
     go_wp2
     go_loopw [15] (fun vk wq=>∃ (t:Nat) (dk:Array α),vk=.int .i64 t∧i≤t∧t≤m∧Hid (DnI a b m t d dk)∧Aside (SWC enc k w blk off g lb sf sb d dk wq)) (fun vk _=>(intOf vk).toNat - i)
     case atStart=>exact ⟨m,d,rfl,by omega,by omega,dn_zero _ _ _ _,S1⟩
     case round =>
       obtain ⟨t,dk,rfl,hit,htm,U,S⟩:=hrel
       by_cases hlt2:i < t
       · have b2:decide ((i:Int) < (t:Int))=true:=by simpa using hlt2
         obtain ⟨v,hv⟩:∃ v,t=v + 1:=⟨t - 1,by omega⟩
         have hv2:(t:Int) - 1=(v:Int):=by omega
         have U3:Hid (DnI a b m (v + 1) d dk):=Lib.hid (by rw [←hv];exact U.out)
         have hv4:v < t:=by omega
         have hv5:i≤v:=by omega
         have c1:=S.out.c1
         obtain ⟨w2,hs,S2⟩:=HK.out.swap dk wr t v S.out (by omega) (by omega)
         have S2':Aside (SWC enc k w blk off g lb sf sb d (swp dk (v + 1) v) w2):=by rw [←hv];exact S2
         have hv3:v + 1≤m:=by omega
         clear S S2 hv U
         go_wp2
         go_roundw
         · exact ⟨v,swp dk (v + 1) v,by go_num,hv5,by omega,dn_step U3.out (by omega) hv3 (by omega) hb,S2'⟩
         · simp [intOf];omega
       · have b2:decide ((i:Int) < (t:Int))=false:=by simp;omega
         obtain rfl:i=t:=by omega
         go_wp2
         refine bodyPost_ret (results_none rfl _ _ _) rfl ?_
         exact ⟨rfl,dk,U.out.perm,by rw [HB.out];exact dn_sorted hS U.out hai htm H1.out F1.out F2.out,S.out.sw⟩
end Go.Proofs.YtddbpnplbcjpgaaGreatDoor
namespace Go.Proofs.YtddbpnplbcjpgaaGreatDoor
open Go.RowKit
set_option maxRecDepth 100000 in
theorem ridrightW_as (x1 x2:Int) (b:Bool) (w:World) (hb:idRW (x1,x2)=b) :
   Calls Tryz.prog 59 #[.agg #[.int .i64 x1,.int .i64 x2]] w fun e w'=>e=.returned (.bool b)∧Below w.heap.size w w':=by
 subst hb
 by_cases h1:1≤x1∧x1≤1099511627776
 · by_cases h2:0≤x2∧x2≤200
   · have HW:Hid (idRW (x1,x2)=true):=Lib.hid (by unfold idRW;exact decide_eq_true ⟨h1.1,h1.2,h2.1,h2.2⟩)
     go_enter Tryz.func59,Tryz.ntmps59
     go_wp2_with fail
     refine (within_yes x1 1 1099511627776 _ h1.1 h1.2).mono ?_
     rintro r w' ⟨rfl,rfl⟩
     go_wp2_with fail
     refine (within_yes x2 0 200 _ h2.1 h2.2).mono ?_
     rintro r w' ⟨rfl,rfl⟩
     go_wp2
     go_ret
     exact ⟨by rw [HW.out];rfl,(Below.refl _ _).alloc (Nat.le_refl _) _⟩
   · have HW:Hid (idRW (x1,x2)=false):=Lib.hid (by unfold idRW;exact decide_eq_false (fun h=>h2 h.2.2))
     by_cases h3:x2 < 0
     · go_enter Tryz.func59,Tryz.ntmps59
       go_wp2_with fail
       refine (within_yes x1 1 1099511627776 _ h1.1 h1.2).mono ?_
       rintro r w' ⟨rfl,rfl⟩
       go_wp2_with fail
       refine (within_low x2 0 200 _ h3).mono ?_
       rintro r w' ⟨rfl,rfl⟩
       go_wp2
       go_ret
       exact ⟨by rw [HW.out];rfl,(Below.refl _ _).alloc (Nat.le_refl _) _⟩
     · go_enter Tryz.func59,Tryz.ntmps59
       go_wp2_with fail
       refine (within_yes x1 1 1099511627776 _ h1.1 h1.2).mono ?_
       rintro r w' ⟨rfl,rfl⟩
       go_wp2_with fail
       refine (within_high x2 0 200 _ (by omega) (by omega)).mono ?_
       rintro r w' ⟨rfl,rfl⟩
       go_wp2
       go_ret
       exact ⟨by rw [HW.out];rfl,(Below.refl _ _).alloc (Nat.le_refl _) _⟩
 · have HW:Hid (idRW (x1,x2)=false):=Lib.hid (by unfold idRW;exact decide_eq_false (fun h=>h1 ⟨h.1,h.2.1⟩))
   by_cases h3:x1 < 1
   · go_enter Tryz.func59,Tryz.ntmps59
     go_wp2_with fail
     refine (within_low x1 1 1099511627776 _ h3).mono ?_
     rintro r w' ⟨rfl,rfl⟩
     go_wp2
     go_ret
     exact ⟨by rw [HW.out];rfl,(Below.refl _ _).alloc (Nat.le_refl _) _⟩
   · go_enter Tryz.func59,Tryz.ntmps59
     go_wp2_with fail
     refine (within_high x1 1 1099511627776 _ (by omega) (by omega)).mono ?_
     rintro r w' ⟨rfl,rfl⟩
     go_wp2
     go_ret
     exact ⟨by rw [HW.out];rfl,(Below.refl _ _).alloc (Nat.le_refl _) _⟩
end Go.Proofs.YtddbpnplbcjpgaaGreatDoor
namespace Go.Proofs.YtddbpnplbcjpgaaGreatDoor
open Go.RowKit
set_option maxRecDepth 100000 in
theorem clone_s (s:ByteArray) (w:World) (hs:s.size≤140737488351232) :
   Calls Tryz.prog 66 #[.string s] w fun e w'=>e=.returned (.string s)∧Below w.heap.size w w':=by
 go_enter Tryz.func66,Tryz.ntmps66
 go_wp2_with fail
 refine (Tryz.stringslite_Clone s _ (by omega)).mono ?_
 rintro r w1 ⟨rfl,hb1⟩
 have HB:=Lib.hid hb1
 clear hb1
 go_wp2
 go_ret
 exact ⟨rfl,HB.out⟩
end Go.Proofs.YtddbpnplbcjpgaaGreatDoor
