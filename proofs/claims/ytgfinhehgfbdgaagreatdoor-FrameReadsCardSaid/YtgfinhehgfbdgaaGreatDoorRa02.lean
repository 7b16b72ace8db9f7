import Derived.Test.YtgfinhehgfbdgaaGreatDoorRa00
import Derived.Test.YtgfinhehgfbdgaaGreatDoorRa01
import Derived.Deep.Draws
import Derived.BigQuiet
import Derived.Deep.QuietTactic
import Derived.WalkSmall
import Derived.IntWalk
import Derived.StringKeys
namespace Go.Proofs.YtgfinhehgfbdgaaGreatDoor
open Go.RowKit
theorem info_ent:(Tryz.prog.info? 80).map (fun i=>(i.zero,i.size,i.bytes))=some (some (.agg #[.int .i64 0,.int .i64 0]),2,16):=by kernel_rfl
def entC (t:Ent):List Value:=[.int .i64 t.rep,.int .i64 t.time]
def entsC (l:List Ent):List Value:=l.flatMap entC
theorem entsC_len (l:List Ent):(entsC l).length=l.length * 2:=by
 induction l with
 | nil=>rfl
 | cons t r ih=>simp only [entsC,List.flatMap_cons,List.length_append,List.length_cons] at ih ⊢;rw [ih];simp [entC];omega
theorem entsC_app (a b:List Ent):entsC (a++b)=entsC a++entsC b:=by simp [entsC]
theorem entsC_at (l:List Ent) (i j:Nat) (t:Ent) (h:l[i]? = some t) (hj:j<2):(entsC l)[i * 2+j]? = (entC t)[j]? := by
 induction l generalizing i with
 | nil=>simp at h
 | cons u r ih =>
   have hc:entsC (u::r)=entC u++entsC r:=by simp [entsC]
   have h3:(entC u).length=2:=rfl;rw [hc];cases i with
   | zero =>
     obtain rfl:u=t:=by simpa using h
     rw [List.getElem?_append_left (by omega)]
     congr 1;omega
   | succ i =>
     rw [List.getElem?_append_right (by omega),h3,show (i+1) * 2+j-2=i * 2+j by omega];exact ih i (by simpa using h)
theorem entsC_int (l:List Ent):∀ u∈entsC l,∃ n,u=.int .i64 n:=by
 intro u hu;obtain ⟨t,_,ht⟩:=List.mem_flatMap.1 hu;simp [entC] at ht
 rcases ht with rfl | rfl
 · exact ⟨_,rfl⟩
 · exact ⟨_,rfl⟩
def ownsE (w:World) (base:Nat) (v:Value) (l:List Ent):Prop:=w.ownsRow base 80 2 v l.length (entsC l)
theorem ownsE_nil (w:World) (base:Nat):ownsE w base (.slice none 0 0) []:=World.ownsRow_nil _ _ _ _
theorem ownsE.alloc {w:World} {base:Nat} {v:Value} {l:List Ent} (h:ownsE w base v l) (o:Obj):ownsE (w.alloc o) base v l:=World.ownsRow.alloc h o
theorem ownsE.drewN {w:World} {base:Nat} {v:Value} {l:List Ent} (h:ownsE w base v l) (n:Nat):ownsE (w.drewN n) base v l:=h
theorem ownsE.lt {w:World} {base:Nat} {v:Value} {l:List Ent} (h:ownsE w base v l):∀ k,v.ownBlock=some k→base≤k∧k<w.heap.size:=World.ownsRow.lt h
theorem ownsE.mono {w:World} {base base':Nat} {v:Value} {l:List Ent} (h:ownsE w base v l) (hb:base'≤base):ownsE w base' v l:=by
 obtain ⟨h0,h1⟩:=h;refine ⟨h0,?_⟩;rcases h1 with h1 | ⟨g,cap,cur,hv,hg,r⟩
 · exact .inl h1
 · exact .inr ⟨g,cap,cur,hv,Nat.le_trans hb hg,r⟩
theorem ownsE.below {w w':World} {base:Nat} {v:Value} {l:List Ent} (h:ownsE w base v l) (hb:Below w.heap.size w w'):ownsE w' base v l:=by
 refine World.ownsRow.kept h (row:=none) ⟨hb.os,hb.tape,hb.output,hb.size,fun k hk _=>hb.block k hk⟩ ?_;cases hv:v.ownBlock with
 | none=>exact .inl rfl
 | some g=>exact .inr (by simp)
def IsEnts (w:World) (v:Value) (l:List Ent):Prop :=
 (∃ a c,v=.slice a 0 c∧l=[])∨∃ b off c,v=.slice (some ⟨b,off,none⟩) l.length c∧(0<l.length∧l.length≤c)∧b<w.heap.size∧∀ j u,(entsC l)[j]? = some u→w.cell? ⟨b,off+j,none⟩=some u
theorem ownsE.is {w:World} {base:Nat} {v:Value} {l:List Ent} (h:ownsE w base v l):IsEnts w v l:=by
 have hall:=h;have hlt:=h.lt;obtain ⟨h0,h1⟩:=h;rcases h1 with ⟨rfl,hn⟩ | ⟨g,cap,cur,rfl,hb,hh,hc,hm,hs,ht⟩
 · exact .inl ⟨_,_,rfl,List.length_eq_zero_iff.1 hn⟩
 · by_cases hz:l.length=0
   · exact .inl ⟨_,_,by rw [hz],List.length_eq_zero_iff.1 hz⟩
   · refine .inr ⟨g,0,cap,rfl,⟨by omega,hc⟩,(hlt g rfl).2,fun j u hj=>?_⟩;have hjl:j<l.length * 2:=by rw [←entsC_len];exact (List.getElem?_eq_some_iff.1 hj).1
     rw [Nat.zero_add,World.ownsRow.cellAt hall j hjl];exact hj
theorem IsEnts.below {w w':World} {v:Value} {l:List Ent} (h:IsEnts w v l) (hb:Below w.heap.size w w'):IsEnts w' v l:=by
 rcases h with ⟨a,c,h1,h2⟩ | ⟨b,off,c,h1,h0,h2,h3⟩
 · exact .inl ⟨a,c,h1,h2⟩
 · exact .inr ⟨b,off,c,h1,h0,Nat.lt_of_lt_of_le h2 hb.size,fun j u hj=>(hb.cell (p:=⟨b,off+j,none⟩) h2).trans (h3 j u hj)⟩
theorem IsEnts.alloc {w:World} {v:Value} {l:List Ent} (h:IsEnts w v l) (o:Obj):IsEnts (w.alloc o) v l:=h.below ((Below.refl _ _).alloc (Nat.le_refl _) o)
theorem IsEnts.drewN {w:World} {v:Value} {l:List Ent} (h:IsEnts w v l) (n:Nat):IsEnts (w.drewN n) v l:=h
theorem IsEnts.form {w:World} {v:Value} {l:List Ent} (h:IsEnts w v l):∃ a c,v=.slice a l.length c∧∀ i t,l[i]? = some t→∃ b off,a=some ⟨b,off,none⟩∧b<w.heap.size ∧
   w.cell? ⟨b,off+i * 2,none⟩=some (.int .i64 t.rep)∧w.cell? ⟨b,off+i * 2+1,none⟩=some (.int .i64 t.time):=by
 rcases h with ⟨a,c,rfl,rfl⟩ | ⟨b,off,c,rfl,h0,h2,h3⟩
 · exact ⟨a,c,rfl,fun i t h=>by simp at h⟩
 · refine ⟨_,_,rfl,fun i t h=>⟨b,off,rfl,h2,?_,?_⟩⟩
   · exact h3 _ _ ((entsC_at l i 0 t h (by omega)).trans rfl)
   · exact h3 _ _ ((entsC_at l i 1 t h (by omega)).trans rfl)
theorem IsEnts.lies {w:World} {v:Value} {l:List Ent} (h:IsEnts w v l) (h0:0<l.length):∃ b off c,v=.slice (some ⟨b,off,none⟩) l.length c∧l.length≤c∧b<w.heap.size∧∀ j u,(entsC l)[j]? = some u→w.cell? ⟨b,off+j,none⟩=some u:=by
 rcases h with ⟨a,c,rfl,rfl⟩ | ⟨b,off,c,rfl,h1,h2,h3⟩
 · exact absurd h0 (Nat.lt_irrefl _)
 · exact ⟨b,off,c,rfl,h1.2,h2,h3⟩
theorem IsEnts.part {w:World} {b off n c:Nat} {l:List Ent} (h:∀ j u,(entsC l)[j]? = some u→w.cell? ⟨b,off+j,none⟩=some u) (hb:b<w.heap.size) (i j:Nat) (hj:j≤l.length) (hij:i<j) (hn:n=j-i) (hc:n≤c) :
   IsEnts w (.slice (some ⟨b,off+i * 2,none⟩) n c) ((l.take j).drop i):=by
 have hl:((l.take j).drop i).length=n:=by rw [List.length_drop,List.length_take];omega
 refine .inr ⟨b,off+i * 2,c,by rw [hl],⟨by omega,by omega⟩,hb,fun k u hk=>?_⟩;rw [Nat.add_assoc];refine h _ _ ?_;have hkl:k<n * 2:=by rw [←hl,←entsC_len];exact (List.getElem?_eq_some_iff.1 hk).1
 have ht : ((l.take j).drop i)[k / 2]? = some (((l.take j).drop i)[k / 2]'(by omega)) := List.getElem?_eq_getElem _;have h1:=entsC_at _ (k / 2) (k % 2) _ ht (Nat.mod_lt _ (by decide));rw [show k / 2 * 2+k % 2=k by omega] at h1;have ht2 : l[i + k / 2]? = some (((l.take j).drop i)[k / 2]'(by omega)) := by
   rw [←ht,List.getElem?_drop,List.getElem?_take_of_lt (by omega)]
 have h2:=entsC_at _ (i+k / 2) (k % 2) _ ht2 (Nat.mod_lt _ (by decide));rw [show (i+k / 2) * 2+k % 2=i * 2+k by omega] at h2;rw [h2,←h1,hk]
def entBlk (w:World) (B:Nat) (t:Ent):Prop:=w.heap[B]? = some (.cells #[.int .i64 t.rep,.int .i64 t.time] 80 (0,0))
theorem entBlk_new (w:World) (a b:Int):entBlk (w.alloc (.cells #[.int .i64 a,.int .i64 b] 80)) w.heap.size ⟨a,b⟩:=heap_alloc_new _ _
theorem wpList_append_ent {w:World} {ops:Array Oper} {rest:List Oper} {o:Oper} {a:Act} {Q:Exit→Act→World→Prop} (hgd:o.guard=none) (s x:Operand)
   (ho:o.op=.call { callee:=.builtin .append,args:=#[s,x],argTypes:=#[22,22] })
   (base:Nat) (v:Value) (l:List Ent) (hs:a.eval s=v) (hown:ownsE w base v l)
   (B c:Nat) (hx:a.eval x=.slice (some ⟨B,0,none⟩) 1 c) (t:Ent) (hcell:entBlk w B t)
   (hlen:l.length+1≤1000000) (hbase:base≤w.heap.size)
   (h:∀ g cap w',ownsE w' base (.slice (some ⟨g,0,none⟩) (l.length+1) cap) (l++[t])→w.grownBy w' v.ownBlock→wpList Tryz.prog ops Q rest (a.put o.dst (.slice (some ⟨g,0,none⟩) (l.length+1) cap)) w'):wpList Tryz.prog ops Q (o::rest) a w:=by
 obtain ⟨i0,hi,hz0,hz1,hz2⟩:=info_parts info_ent;refine wpList_append_lies w hgd s x 22 ho base 80 i0 (.agg #[.int .i64 0,.int .i64 0]) 2 16 Tryz.underlying22 hi hz0 hz1 hz2 rfl (by decide) v l.length (entsC l) hs hown ⟨B,0,none⟩ 1 c (entC t) hx rfl ?_ ?_ (by decide) (by unfold maxLen;omega) (by omega) hbase _ rfl ?_
 · intro j u hj;have hadd:(⟨B,0,none⟩:Addr).add j=⟨B,j,none⟩:=by unfold Addr.add;split <;> simp_all
   rw [hadd,cell_of_row _ _ _ _ _ _ hcell,←hj];unfold entC;simp
 · intro u hu;simp [entC] at hu;rcases hu with rfl | rfl <;> rfl
 · intro g cap w' h1 h2 _ _;refine h g cap w' ?_ h2;unfold ownsE;rw [List.length_append,entsC_app]
   simpa [entsC] using h1
theorem wpList_append_ents {w:World} {ops:Array Oper} {rest:List Oper} {o:Oper} {a:Act} {Q:Exit→Act→World→Prop} (hgd:o.guard=none) (s x:Operand)
   (ho:o.op=.call { callee:=.builtin .append,args:=#[s,x],argTypes:=#[22,22] })
   (base:Nat) (v:Value) (l:List Ent) (hs:a.eval s=v) (hown:ownsE w base v l)
   (B off c n:Nat) (hx:a.eval x=.slice (some ⟨B,off,none⟩) n c) (m:List Ent) (hn:n=m.length) (hcell:∀ j u,(entsC m)[j]? = some u→w.cell? ⟨B,off+j,none⟩=some u)
   (hm:0<m.length) (hlen:l.length+m.length≤1000000) (hbase:base≤w.heap.size)
   (h:∀ g cap w',ownsE w' base (.slice (some ⟨g,0,none⟩) (l.length+m.length) cap) (l++m)→w.grownBy w' v.ownBlock→wpList Tryz.prog ops Q rest (a.put o.dst (.slice (some ⟨g,0,none⟩) (l.length+m.length) cap)) w'):wpList Tryz.prog ops Q (o::rest) a w:=by
 subst hn;obtain ⟨i0,hi,hz0,hz1,hz2⟩:=info_parts info_ent;refine wpList_append_lies w hgd s x 22 ho base 80 i0 (.agg #[.int .i64 0,.int .i64 0]) 2 16 Tryz.underlying22 hi hz0 hz1 hz2 rfl (by decide) v l.length (entsC l) hs hown ⟨B,off,none⟩ m.length c (entsC m) hx (entsC_len m) ?_ ?_ hm (by unfold maxLen;omega) (by omega) hbase _ rfl ?_
 · intro j u hj;have hadd:(⟨B,off,none⟩:Addr).add j=⟨B,off+j,none⟩:=by unfold Addr.add;split <;> simp_all
   rw [hadd];exact hcell j u hj
 · intro u hu;obtain ⟨n,rfl⟩:=entsC_int _ _ hu;rfl
 · intro g cap w' h1 h2 _ _;refine h g cap w' ?_ h2;unfold ownsE;rw [List.length_append,entsC_app];exact h1
theorem ownsE.form {w:World} {base:Nat} {v:Value} {l:List Ent} (h:ownsE w base v l):(v=.slice none 0 0∧l=[])∨∃ g cap,v=.slice (some ⟨g,0,none⟩) l.length cap∧base≤g∧g<w.heap.size∧∀ j u,(entsC l)[j]? = some u→w.cell? ⟨g,j,none⟩=some u:=by
 have hall:=h;have hlt:=h.lt;obtain ⟨h0,h1⟩:=h;rcases h1 with ⟨rfl,hn⟩ | ⟨g,cap,cur,rfl,hb,hh,hc,hm,hs,ht⟩
 · exact .inl ⟨rfl,List.length_eq_zero_iff.1 hn⟩
 · refine .inr ⟨g,cap,rfl,hb,(hlt g rfl).2,fun j u hj=>?_⟩;have hjl:j<l.length * 2:=by rw [←entsC_len];exact (List.getElem?_eq_some_iff.1 hj).1
   rw [World.ownsRow.cellAt hall j hjl];exact hj
end Go.Proofs.YtgfinhehgfbdgaaGreatDoor
namespace Go.Proofs.YtgfinhehgfbdgaaGreatDoor
open Go.RowKit
theorem step_append_strs (w:World) {ops:Array Oper} {o:Oper} {a:Act} {K:Act→World→Prop} {Q:Exit→Act→World→Prop} {E:Prop} (hgd:o.guard=none) (s x:Operand)
   (ho:o.op=.call { callee:=.builtin .append,args:=#[s,x],argTypes:=#[98,98] })
   (base:Nat) (v:Value) (l:List ByteArray) (hs:a.eval s=v) (hown:ownsS w base v l)
   (ad:Addr) (c:Nat) (hx:a.eval x=.slice (some ad) 2 c) (d d':ByteArray) (hcell:w.cell? (ad.add 0)=some (.string d)) (hcell':w.cell? (ad.add 1)=some (.string d'))
   (hlen:l.length+2≤8796093022208) (hbase:base≤w.heap.size)
   (h:∀ g cap w',ownsS w' base (.slice (some ⟨g,0,none⟩) (l.length+2) cap) (l++[d,d'])→w.grownBy w' v.ownBlock→K (a.put o.dst (.slice (some ⟨g,0,none⟩) (l.length+2) cap)) w') :
   if Region.wanted o (yielded ops a.tmps)=true then Oper.wp Tryz.prog o a w K Q else E:=by
 obtain ⟨i0,hi,hz0,hz1,hz2⟩:=info_parts info_str;refine step_append_lies w hgd s x 98 ho base 9 i0 (.string ⟨#[]⟩) 1 16 Tryz.underlying98 hi hz0 hz1 hz2 rfl (by decide) v l.length (l.map Value.string) hs hown ad 2 c [.string d,.string d'] hx rfl ?_ ?_ (by decide) (by unfold maxLen;omega) (by omega) hbase _ rfl ?_
 · intro j u hj
   match j,hj with
   | 0,hj=>simp at hj;subst hj;exact hcell
   | 1,hj=>simp at hj;subst hj;exact hcell'
 · intro u hu;simp at hu;rcases hu with rfl | rfl <;> rfl
 · intro g cap w' h1 h2 _ _;refine h g cap w' ?_ h2;unfold ownsS;rw [List.length_append,List.map_append];exact h1
end Go.Proofs.YtgfinhehgfbdgaaGreatDoor
namespace Go.Proofs.YtgfinhehgfbdgaaGreatDoor
open Go.RowKit
theorem step_append_str (w:World) {ops:Array Oper} {o:Oper} {a:Act} {K:Act→World→Prop} {Q:Exit→Act→World→Prop} {E:Prop} (hgd:o.guard=none) (s x:Operand)
   (ho:o.op=.call { callee:=.builtin .append,args:=#[s,x],argTypes:=#[98,98] })
   (base:Nat) (v:Value) (l:List ByteArray) (hs:a.eval s=v) (hown:ownsS w base v l)
   (ad:Addr) (c:Nat) (hx:a.eval x=.slice (some ad) 1 c) (d:ByteArray) (hcell:w.cell? (ad.add 0)=some (.string d))
   (hlen:l.length+1≤8796093022208) (hbase:base≤w.heap.size)
   (h:∀ g cap w',ownsS w' base (.slice (some ⟨g,0,none⟩) (l.length+1) cap) (l++[d])→w.grownBy w' v.ownBlock→K (a.put o.dst (.slice (some ⟨g,0,none⟩) (l.length+1) cap)) w') :
   if Region.wanted o (yielded ops a.tmps)=true then Oper.wp Tryz.prog o a w K Q else E:=by
 obtain ⟨i0,hi,hz0,hz1,hz2⟩:=info_parts info_str;refine step_append_lies w hgd s x 98 ho base 9 i0 (.string ⟨#[]⟩) 1 16 Tryz.underlying98 hi hz0 hz1 hz2 rfl (by decide) v l.length (l.map Value.string) hs hown ad 1 c [.string d] hx rfl ?_ ?_ (by decide) (by unfold maxLen;omega) (by omega) hbase _ rfl ?_
 · intro j u hj
   match j,hj with
   | 0,hj=>simp at hj;subst hj;exact hcell
 · intro u hu;simp at hu;subst hu;rfl
 · intro g cap w' h1 h2 _ _;refine h g cap w' ?_ h2;unfold ownsS;rw [List.length_append,List.map_append];exact h1
end Go.Proofs.YtgfinhehgfbdgaaGreatDoor
namespace Go.Proofs.YtgfinhehgfbdgaaGreatDoor
def wrongN (t:Tok) (a:Nat):Nat :=
 if t.own.size=0 then
   if t.size=0∧t.back=0 then 1
   else if t.size<4∨67<t.size∨t.back<1∨1024<t.back then 2
   else if (a:Int)<t.back then 7
   else if 20000<(a:Int)+t.size then 4 else 0
 else if t.size≠0∨t.back≠0 then 1
 else if 20000<a+t.own.size then 4 else 0
def lenT (t:Tok):Nat:=t.own.size+t.size.toNat
def rightF:List Tok→Nat→Nat→Nat×Int
 | [],_,_=>(0,-1)
 | t::r,i,a=>if wrongN t a=0 then rightF r (i+1) (a+lenT t) else (wrongN t a,(i:Int))
def repL (b:List UInt8) (back:Nat):Nat→List UInt8
 | 0=>b
 | n+1=>repL (b++[b.getD (b.length-back) 0]) back n
def stepT (b:List UInt8) (t:Tok):List UInt8:=repL (b++t.own.data.toList) t.back.toNat t.size.toNat
def textL (b:List UInt8) (l:List Tok):List UInt8:=l.foldl stepT b
theorem repL_len (b:List UInt8) (k n:Nat):(repL b k n).length=b.length+n:=by
 induction n generalizing b with
 | zero=>rfl
 | succ n ih=>rw [repL,ih];simp;omega
theorem stepT_len (b:List UInt8) (t:Tok):(stepT b t).length=b.length+lenT t:=by
 unfold stepT lenT;rw [repL_len,List.length_append,←size_data];omega
theorem wrongN_ok {t:Tok} {a:Nat} (h:wrongN t a=0) :
   (t.own.size≠0∧t.size=0∧t.back=0∧a+t.own.size≤20000) ∨
   (t.own.size=0∧4≤t.size∧t.size≤67∧1≤t.back∧t.back≤1024∧t.back≤(a:Int)∧(a:Int)+t.size≤20000):=by
 unfold wrongN at h;by_cases h0:t.own.size=0
 · rw [if_pos h0] at h;by_cases h1:t.size=0∧t.back=0
   · rw [if_pos h1] at h;omega
   · rw [if_neg h1] at h;by_cases h2:t.size<4∨67<t.size∨t.back<1∨1024<t.back
     · rw [if_pos h2] at h;omega
     · rw [if_neg h2] at h;by_cases h3:(a:Int)<t.back
       · rw [if_pos h3] at h;omega
       · rw [if_neg h3] at h;by_cases h4:20000<(a:Int)+t.size
         · rw [if_pos h4] at h;omega
         · exact .inr ⟨h0,by omega,by omega,by omega,by omega,by omega,by omega⟩
 · rw [if_neg h0] at h;by_cases h1:t.size≠0∨t.back≠0
   · rw [if_pos h1] at h;omega
   · rw [if_neg h1] at h;by_cases h4:20000<a+t.own.size
     · rw [if_pos h4] at h;omega
     · exact .inl ⟨h0,by omega,by omega,by omega⟩
theorem wrongN_le {t:Tok} {a:Nat} (h:wrongN t a=0):a+lenT t≤20000:=by
 unfold lenT;rcases wrongN_ok h with ⟨_,h1,_,h2⟩ | ⟨h0,h1,_,_,_,_,h2⟩ <;> omega
theorem rightF_ok {t:Tok} {r:List Tok} {i a:Nat} (h:wrongN t a=0):rightF (t::r) i a=rightF r (i+1) (a+lenT t):=by rw [rightF,if_pos h]
theorem rightF_bad {t:Tok} {r:List Tok} {i a:Nat} (h:wrongN t a≠0):rightF (t::r) i a=(wrongN t a,(i:Int)):=by rw [rightF,if_neg h]
theorem rightF_head {t:Tok} {r:List Tok} {i a:Nat} (h:(rightF (t::r) i a).1=0):wrongN t a=0∧(rightF r (i+1) (a+lenT t)).1=0:=by
 by_cases hw:wrongN t a=0
 · rw [rightF_ok hw] at h;exact ⟨hw,h⟩
 · rw [rightF_bad hw] at h;exact absurd h hw
theorem rightF_any {l:List Tok} {i a:Nat} (h:(rightF l i a).1=0):rightF l i a=(0,-1):=by
 induction l generalizing i a with
 | nil=>rfl
 | cons t r ih =>
   obtain ⟨h1,h2⟩:=rightF_head h;rw [rightF_ok h1];exact ih h2
theorem rightF_take {l:List Tok} {i a:Nat} (h:(rightF l i a).1=0) (n:Nat):(rightF (l.take n) i a).1=0:=by
 induction l generalizing i a n with
 | nil=>simp [rightF]
 | cons t r ih =>
   cases n with
   | zero=>rfl
   | succ n =>
     obtain ⟨h1,h2⟩:=rightF_head h;rw [List.take_succ_cons,rightF_ok h1];exact ih h2 n
theorem textL_len {l:List Tok} {i a:Nat} {b:List UInt8} (h:(rightF l i a).1=0) (hb:b.length=a) (ha:a≤20000):(textL b l).length≤20000:=by
 induction l generalizing i a b with
 | nil=>show b.length≤_;omega
 | cons t r ih =>
   obtain ⟨h1,h2⟩:=rightF_head h;exact ih (b:=stepT b t) h2 (by rw [stepT_len,hb]) (wrongN_le h1)
end Go.Proofs.YtgfinhehgfbdgaaGreatDoor
namespace Go.Proofs.YtgfinhehgfbdgaaGreatDoor
open Go.RowKit
theorem info_tok:(Tryz.prog.info? 163).map (fun i=>(i.zero,i.size,i.bytes))=some (some (.agg #[.string ⟨#[]⟩,.int .i64 0,.int .i64 0]),3,32):=by kernel_rfl
def tokC (t:Tok):List Value:=[.string t.own,.int .i64 t.back,.int .i64 t.size]
def toksC (l:List Tok):List Value:=l.flatMap tokC
theorem toksC_len (l:List Tok):(toksC l).length=l.length * 3:=by
 induction l with
 | nil=>rfl
 | cons t r ih=>simp only [toksC,List.flatMap_cons,List.length_append,List.length_cons] at ih ⊢;rw [ih];simp [tokC];omega
theorem toksC_app (a b:List Tok):toksC (a++b)=toksC a++toksC b:=by simp [toksC]
theorem toksC_at (l:List Tok) (i j:Nat) (t:Tok) (h:l[i]? = some t) (hj:j<3):(toksC l)[i * 3+j]? = (tokC t)[j]? := by
 induction l generalizing i with
 | nil=>simp at h
 | cons u r ih =>
   have hc:toksC (u::r)=tokC u++toksC r:=by simp [toksC]
   have h3:(tokC u).length=3:=rfl;rw [hc];cases i with
   | zero =>
     obtain rfl:u=t:=by simpa using h
     rw [List.getElem?_append_left (by omega)]
     congr 1;omega
   | succ i =>
     rw [List.getElem?_append_right (by omega),h3,show (i+1) * 3+j-3=i * 3+j by omega];exact ih i (by simpa using h)
def ownsK (w:World) (base:Nat) (v:Value) (l:List Tok):Prop:=w.ownsRow base 163 3 v l.length (toksC l)
theorem ownsK_nil (w:World) (base:Nat):ownsK w base (.slice none 0 0) []:=World.ownsRow_nil _ _ _ _
theorem ownsK.alloc {w:World} {base:Nat} {v:Value} {l:List Tok} (h:ownsK w base v l) (o:Obj):ownsK (w.alloc o) base v l:=World.ownsRow.alloc h o
theorem ownsK.drewN {w:World} {base:Nat} {v:Value} {l:List Tok} (h:ownsK w base v l) (n:Nat):ownsK (w.drewN n) base v l:=h
theorem ownsK.lt {w:World} {base:Nat} {v:Value} {l:List Tok} (h:ownsK w base v l):∀ k,v.ownBlock=some k→base≤k∧k<w.heap.size:=World.ownsRow.lt h
theorem ownsK.mono {w:World} {base base':Nat} {v:Value} {l:List Tok} (h:ownsK w base v l) (hb:base'≤base):ownsK w base' v l:=by
 obtain ⟨h0,h1⟩:=h;refine ⟨h0,?_⟩;rcases h1 with h1 | ⟨g,cap,cur,hv,hg,r⟩
 · exact .inl h1
 · exact .inr ⟨g,cap,cur,hv,Nat.le_trans hb hg,r⟩
theorem ownsK.below {w w':World} {base:Nat} {v:Value} {l:List Tok} (h:ownsK w base v l) (hb:Below w.heap.size w w'):ownsK w' base v l:=by
 refine World.ownsRow.kept h (row:=none) ⟨hb.os,hb.tape,hb.output,hb.size,fun k hk _=>hb.block k hk⟩ ?_;cases hv:v.ownBlock with
 | none=>exact .inl rfl
 | some g=>exact .inr (by simp)
def IsToks (w:World) (v:Value) (l:List Tok):Prop :=
 (∃ a c,v=.slice a 0 c∧l=[])∨∃ b off c,v=.slice (some ⟨b,off,none⟩) l.length c∧0<l.length∧b<w.heap.size∧∀ j u,(toksC l)[j]? = some u→w.cell? ⟨b,off+j,none⟩=some u
theorem ownsK.is {w:World} {base:Nat} {v:Value} {l:List Tok} (h:ownsK w base v l):IsToks w v l:=by
 have hall:=h;have hlt:=h.lt;obtain ⟨h0,h1⟩:=h;rcases h1 with ⟨rfl,hn⟩ | ⟨g,cap,cur,rfl,hb,hh,hc,hm,hs,ht⟩
 · exact .inl ⟨_,_,rfl,List.length_eq_zero_iff.1 hn⟩
 · by_cases hz:l.length=0
   · exact .inl ⟨_,_,by rw [hz],List.length_eq_zero_iff.1 hz⟩
   · refine .inr ⟨g,0,cap,rfl,by omega,(hlt g rfl).2,fun j u hj=>?_⟩;have hjl:j<l.length * 3:=by rw [←toksC_len];exact (List.getElem?_eq_some_iff.1 hj).1
     rw [Nat.zero_add,World.ownsRow.cellAt hall j hjl];exact hj
theorem IsToks.below {w w':World} {v:Value} {l:List Tok} (h:IsToks w v l) (hb:Below w.heap.size w w'):IsToks w' v l:=by
 rcases h with ⟨a,c,h1,h2⟩ | ⟨b,off,c,h1,h0,h2,h3⟩
 · exact .inl ⟨a,c,h1,h2⟩
 · exact .inr ⟨b,off,c,h1,h0,Nat.lt_of_lt_of_le h2 hb.size,fun j u hj=>(hb.cell (p:=⟨b,off+j,none⟩) h2).trans (h3 j u hj)⟩
theorem IsToks.alloc {w:World} {v:Value} {l:List Tok} (h:IsToks w v l) (o:Obj):IsToks (w.alloc o) v l:=h.below ((Below.refl _ _).alloc (Nat.le_refl _) o)
theorem IsToks.form {w:World} {v:Value} {l:List Tok} (h:IsToks w v l):∃ a c,v=.slice a l.length c∧∀ i t,l[i]? = some t→∃ b off,a=some ⟨b,off,none⟩∧b<w.heap.size ∧
   w.cell? ⟨b,off+i * 3,none⟩=some (.string t.own)∧w.cell? ⟨b,off+i * 3+1,none⟩=some (.int .i64 t.back)∧w.cell? ⟨b,off+i * 3+2,none⟩=some (.int .i64 t.size):=by
 rcases h with ⟨a,c,rfl,rfl⟩ | ⟨b,off,c,rfl,h0,h2,h3⟩
 · exact ⟨a,c,rfl,fun i t h=>by simp at h⟩
 · refine ⟨_,_,rfl,fun i t h=>⟨b,off,rfl,h2,?_,?_,?_⟩⟩
   · exact h3 _ _ ((toksC_at l i 0 t h (by omega)).trans rfl)
   · exact h3 _ _ ((toksC_at l i 1 t h (by omega)).trans rfl)
   · exact h3 _ _ ((toksC_at l i 2 t h (by omega)).trans rfl)
def tokBlk (w:World) (B:Nat) (t:Tok):Prop:=w.heap[B]? = some (.cells #[.string t.own,.int .i64 t.back,.int .i64 t.size] 163 (0,0))
theorem tokBlk_new (w:World) (s:ByteArray) (b n:Int):tokBlk (w.alloc (.cells #[.string s,.int .i64 b,.int .i64 n] 163)) w.heap.size ⟨s,b,n⟩:=heap_alloc_new _ _
theorem wpList_append_tok {w:World} {ops:Array Oper} {rest:List Oper} {o:Oper} {a:Act} {Q:Exit→Act→World→Prop} (hgd:o.guard=none) (s x:Operand)
   (ho:o.op=.call { callee:=.builtin .append,args:=#[s,x],argTypes:=#[89,89] })
   (base:Nat) (v:Value) (l:List Tok) (hs:a.eval s=v) (hown:ownsK w base v l)
   (B c:Nat) (hx:a.eval x=.slice (some ⟨B,0,none⟩) 1 c) (t:Tok) (hcell:tokBlk w B t)
   (hlen:l.length+1≤1000000) (hbase:base≤w.heap.size)
   (h:∀ g cap w',ownsK w' base (.slice (some ⟨g,0,none⟩) (l.length+1) cap) (l++[t])→w.grownBy w' v.ownBlock→wpList Tryz.prog ops Q rest (a.put o.dst (.slice (some ⟨g,0,none⟩) (l.length+1) cap)) w'):wpList Tryz.prog ops Q (o::rest) a w:=by
 obtain ⟨i0,hi,hz0,hz1,hz2⟩:=info_parts info_tok;refine wpList_append_lies w hgd s x 89 ho base 163 i0 (.agg #[.string ⟨#[]⟩,.int .i64 0,.int .i64 0]) 3 32 Tryz.underlying89 hi hz0 hz1 hz2 rfl (by decide) v l.length (toksC l) hs hown ⟨B,0,none⟩ 1 c (tokC t) hx rfl ?_ ?_ (by decide) (by unfold maxLen;omega) (by omega) hbase _ rfl ?_
 · intro j u hj;have hadd:(⟨B,0,none⟩:Addr).add j=⟨B,j,none⟩:=by unfold Addr.add;split <;> simp_all
   rw [hadd,cell_of_row _ _ _ _ _ _ hcell,←hj];unfold tokC;simp
 · intro u hu;simp [tokC] at hu;rcases hu with rfl | rfl | rfl <;> rfl
 · intro g cap w' h1 h2 _ _;refine h g cap w' ?_ h2;unfold ownsK;rw [List.length_append,toksC_app]
   simpa [toksC] using h1
theorem ownsK.stored {w:World} {base g n cap:Nat} {l:List Tok} {t:Tok} (h:ownsK w base (.slice (some ⟨g,0,none⟩) n cap) (l++[t])) (hn:n=l.length+1) (s:ByteArray) :
   ownsK (w.setCell ⟨g,l.length * 3,none⟩ (.string s)) base (.slice (some ⟨g,0,none⟩) n cap) (l++[⟨s,t.back,t.size⟩]):=by
 subst hn;unfold ownsK at h ⊢;rw [List.length_append] at h ⊢;have h2:=(World.ownsRow.stored h (l.length * 3) (.string s)).1;have e:(toksC (l++[t])).set (l.length * 3) (.string s)=toksC (l++[⟨s,t.back,t.size⟩]):=by
   rw [toksC_app,toksC_app,List.set_append_right _ _ (by rw [toksC_len];exact Nat.le_refl _),toksC_len,Nat.sub_self]
   rfl
 rw [e] at h2;exact h2
theorem ownsK.last {w:World} {base g n cap:Nat} {l:List Tok} {t:Tok} (h:ownsK w base (.slice (some ⟨g,0,none⟩) n cap) (l++[t])) (hn:n=l.length+1) :
   w.cell? ⟨g,l.length * 3,none⟩=some (.string t.own)∧w.frozen? ⟨g,l.length * 3,none⟩=false∧base≤g:=by
 subst hn;have hlt:=(h.lt g rfl).1;unfold ownsK at h;rw [List.length_append] at h;refine ⟨?_,World.ownsRow.frozenAt h _,hlt⟩;rw [World.ownsRow.cellAt h _ (by simp)];exact (toksC_at (l++[t]) l.length 0 t (by simp) (by omega)).trans rfl
theorem ownsK.form {w:World} {base:Nat} {v:Value} {l:List Tok} {t:Tok} (h:ownsK w base v (l++[t])):∃ g cap,v=.slice (some ⟨g,0,none⟩) (l.length+1) cap:=by
 obtain ⟨h0,h1⟩:=h;rcases h1 with ⟨rfl,hn⟩ | ⟨g,cap,cur,rfl,hb,hh,hc,hm,hs,ht⟩
 · simp at hn
 · exact ⟨g,cap,by simp⟩
end Go.Proofs.YtgfinhehgfbdgaaGreatDoor
namespace Go.Proofs.YtgfinhehgfbdgaaGreatDoor
open Go.RowKit
theorem getB (s:ByteArray) (j:Nat) (h:j<s.size):s.data.toList.getD j 0=s[j]:=by
 have hl:j<s.data.size:=h;rw [List.getD_eq_getElem?_getD,Array.getElem?_toList,Array.getElem?_eq_getElem hl];rfl
theorem drewq (w:World) (q n:Nat):∃ k,(w.drewN q).drewN n=w.drewN k:=⟨_,World.drewN_drewN _ _ _⟩
theorem u8_ne (x y:UInt8):((x.toNat:Int) != (y.toNat:Int))=!decide (x=y):=by
 by_cases h:x=y
 · subst h;simp
 · have h2:x.toNat≠y.toNat:=fun e=>h (UInt8.toNat_inj.1 e)
   simp [h];omega
theorem u8_eq (x y:UInt8):((x.toNat:Int) == (y.toNat:Int))=decide (x=y):=by
 by_cases h:x=y
 · subst h;simp
 · have h2:x.toNat≠y.toNat:=fun e=>h (UInt8.toNat_inj.1 e)
   simp [h];omega
set_option maxRecDepth 100000 in
set_option maxHeartbeats 1000000 in
theorem same_any (s:ByteArray) (a b m:Nat) (w:World) (hs:s.size≤maxLen) (hb:b≤a) (hm:a+m≤s.size) :
   Calls Tryz.prog 174 #[.string s,.int .i64 a,.int .i64 b,.int .i64 m] w fun e w'=>e=.returned (.int .i64 (sm s.data.toList a b m:Nat))∧∃ q,w'=w.drewN q:=by
 unfold maxLen at hs;go_enter Tryz.func174,Tryz.ntmps174
 go_wp2
 go_loopw [11] (fun i wr=>∃ k q:Nat,k≤m∧i=.int .i64 k∧wr=w.drewN q∧∀ j,j<k→s.data.toList.getD (a+j) 0=s.data.toList.getD (a+j-b) 0) (fun i _=>m-(intOf i).toNat)
 case atStart=>exact ⟨0,0,by omega,rfl,rfl,fun j h=>by omega⟩
 case round =>
   obtain ⟨k,q,hk,rfl,rfl,hall⟩:=hrel;have HA:=Lib.hid hall;clear hall;by_cases hlt:k<m
   · obtain ⟨p,hp⟩:∃ p,p=a+k:=⟨_,rfl⟩;obtain ⟨r,hr⟩:∃ r,r=a+k-b:=⟨_,rfl⟩;have hpl:p<s.size:=by omega
     have hrl:r<s.size:=by omega
     have h1:IntKind.i64.wrap ((a:Int)+(k:Int))=(p:Int):=by rw [IntWalk.i64_in _ (by omega)];omega
     have h2:IntKind.i64.wrap ((p:Int)-(b:Int))=(r:Int):=by rw [IntWalk.i64_in _ (by omega)];omega
     have HP:=Lib.hid hp;have HR:=Lib.hid hr;clear hp hr;by_cases heq:s[p]=s[r]
     · have hq:((s[p].toNat:Int) != (s[r].toNat:Int))=false:=by rw [u8_ne];simp [heq]
       have HN:Hid (∀ j,j<k+1→s.data.toList.getD (a+j) 0=s.data.toList.getD (a+j-b) 0):=by
         intro j hj;by_cases e:j=k
         · rw [e,←HR.out,←HP.out,getB _ _ hpl,getB _ _ hrl];exact heq
         · exact HA.out j (by omega)
       clear heq;go_wp2
       go_quiet (fail)
       clear h1 h2;go_wp2;go_roundw
       case rel=>exact ⟨k+1,_,by omega,by go_num,rfl,HN.out⟩
       case measure=>simp [intOf];omega
     · have hq:((s[p].toNat:Int) != (s[r].toNat:Int))=true:=by rw [u8_ne];simp [heq]
       have HN:Hid (sm s.data.toList a b m=k):=by
         refine sm_eq ⟨by omega,HA.out,fun _=>?_⟩;rw [←HR.out,←HP.out,getB _ _ hpl,getB _ _ hrl];exact heq
       clear heq;go_wp2
       go_quiet (fail)
       clear h1 h2;go_wp2;go_ret;exact ⟨by rw [HN.out];rfl,drewq _ _ _⟩
   · have HN : Hid (sm s.data.toList a b m = m) := by
       refine sm_eq ⟨Nat.le_refl _,fun j hj=>HA.out j (by omega),fun h=>absurd h (Nat.lt_irrefl _)⟩
     go_wp2;go_ret;exact ⟨by rw [HN.out];rfl,_,rfl⟩
theorem same_at (s:ByteArray) (a b m:Nat) (B:Int) (w:World) (hs:s.size≤maxLen) (hB:B=(b:Int)) (hb:b≤a) (hm:a+m≤s.size) :
   Calls Tryz.prog 174 #[.string s,.int .i64 a,.int .i64 B,.int .i64 m] w fun e w'=>e=.returned (.int .i64 (sm s.data.toList a b m:Nat))∧∃ q,w'=w.drewN q:=by
 subst hB;exact same_any s a b m w hs hb hm
end Go.Proofs.YtgfinhehgfbdgaaGreatDoor
namespace Go.Proofs.YtgfinhehgfbdgaaGreatDoor
open Go.RowKit
theorem info_wr:(Tryz.prog.info? 61).map (fun i=>(i.zero,i.size,i.bytes))=some (some (.agg #[.int .i64 0,.int .i64 0,.int .i64 0,.string ⟨#[]⟩,.string ⟨#[]⟩,.int .i64 0]),6,64):=by kernel_rfl
instance : Inhabited Wr:=⟨⟨0,0,0,⟨#[]⟩,⟨#[]⟩,0⟩⟩
def wrsC (l:List Wr):List Value:=l.flatMap wrC
theorem wrsC_len (l:List Wr):(wrsC l).length=l.length * 6:=by
 induction l with
 | nil=>rfl
 | cons t r ih=>simp only [wrsC,List.flatMap_cons,List.length_append,List.length_cons] at ih ⊢;rw [ih];simp [wrC];omega
theorem wrsC_app (a b:List Wr):wrsC (a++b)=wrsC a++wrsC b:=by simp [wrsC]
theorem wrsC_one (a:Wr):wrsC [a]=wrC a:=by simp [wrsC]
theorem wrsC_at (l:List Wr) (i j:Nat) (t:Wr) (h:l[i]? = some t) (hj:j<6):(wrsC l)[i * 6+j]? = (wrC t)[j]? := by
 induction l generalizing i with
 | nil=>simp at h
 | cons u r ih =>
   have hc:wrsC (u::r)=wrC u++wrsC r:=by simp [wrsC]
   have h3:(wrC u).length=6:=rfl;rw [hc];cases i with
   | zero =>
     obtain rfl:u=t:=by simpa using h
     rw [List.getElem?_append_left (by omega)]
     congr 1;omega
   | succ i =>
     rw [List.getElem?_append_right (by omega),h3,show (i+1) * 6+j-6=i * 6+j by omega];exact ih i (by simpa using h)
theorem wrC_cell (t:Wr):∀ u∈wrC t,u.oneCell'=true:=by
 intro u hu;simp [wrC] at hu
 rcases hu with rfl | rfl | rfl | rfl | rfl | rfl <;> rfl
def ownsW (w:World) (base:Nat) (v:Value) (l:List Wr):Prop:=w.ownsRow base 61 6 v l.length (wrsC l)
theorem ownsW_nil (w:World) (base:Nat):ownsW w base (.slice none 0 0) []:=World.ownsRow_nil _ _ _ _
theorem ownsW.lt {w:World} {base:Nat} {v:Value} {l:List Wr} (h:ownsW w base v l):∀ k,v.ownBlock=some k→base≤k∧k<w.heap.size:=World.ownsRow.lt h
theorem ownsW.mono {w:World} {base base':Nat} {v:Value} {l:List Wr} (h:ownsW w base v l) (hb:base'≤base):ownsW w base' v l:=by
 obtain ⟨h0,h1⟩:=h;refine ⟨h0,?_⟩;rcases h1 with h1 | ⟨g,cap,cur,hv,hg,r⟩
 · exact .inl h1
 · exact .inr ⟨g,cap,cur,hv,Nat.le_trans hb hg,r⟩
def IsWrs (w:World) (v:Value) (l:List Wr):Prop :=
 (∃ a c,v=.slice a 0 c∧l=[])∨∃ b off c,v=.slice (some ⟨b,off,none⟩) l.length c∧(0<l.length∧l.length≤c)∧b<w.heap.size∧∀ j u,(wrsC l)[j]? = some u→w.cell? ⟨b,off+j,none⟩=some u
theorem ownsW.is {w:World} {base:Nat} {v:Value} {l:List Wr} (h:ownsW w base v l):IsWrs w v l:=by
 have hall:=h;have hlt:=h.lt;obtain ⟨h0,h1⟩:=h;rcases h1 with ⟨rfl,hn⟩ | ⟨g,cap,cur,rfl,hb,hh,hc,hm,hs,ht⟩
 · exact .inl ⟨_,_,rfl,List.length_eq_zero_iff.1 hn⟩
 · by_cases hz:l.length=0
   · exact .inl ⟨_,_,by rw [hz],List.length_eq_zero_iff.1 hz⟩
   · refine .inr ⟨g,0,cap,rfl,⟨by omega,hc⟩,(hlt g rfl).2,fun j u hj=>?_⟩;have hjl:j<l.length * 6:=by rw [←wrsC_len];exact (List.getElem?_eq_some_iff.1 hj).1
     rw [Nat.zero_add,World.ownsRow.cellAt hall j hjl];exact hj
theorem IsWrs.below {w w':World} {v:Value} {l:List Wr} (h:IsWrs w v l) (hb:Below w.heap.size w w'):IsWrs w' v l:=by
 rcases h with ⟨a,c,h1,h2⟩ | ⟨b,off,c,h1,h0,h2,h3⟩
 · exact .inl ⟨a,c,h1,h2⟩
 · exact .inr ⟨b,off,c,h1,h0,Nat.lt_of_lt_of_le h2 hb.size,fun j u hj=>(hb.cell (p:=⟨b,off+j,none⟩) h2).trans (h3 j u hj)⟩
theorem IsWrs.drewN {w:World} {v:Value} {l:List Wr} (h:IsWrs w v l) (n:Nat):IsWrs (w.drewN n) v l:=h
theorem IsWrs.form {w:World} {v:Value} {l:List Wr} (h:IsWrs w v l):∃ a c,v=.slice a l.length c∧∀ i t,l[i]? = some t→∃ b off,a=some ⟨b,off,none⟩∧b<w.heap.size ∧
   w.cell? ⟨b,off+i * 6,none⟩=some (.int .i64 t.time)∧w.cell? ⟨b,off+i * 6+1,none⟩=some (.int .i64 t.rep)∧w.cell? ⟨b,off+i * 6+2,none⟩=some (.int .i64 t.kind) ∧
   w.cell? ⟨b,off+i * 6+3,none⟩=some (.string t.key)∧w.cell? ⟨b,off+i * 6+4,none⟩=some (.string t.value)∧w.cell? ⟨b,off+i * 6+5,none⟩=some (.int .i64 t.n):=by
 rcases h with ⟨a,c,rfl,rfl⟩ | ⟨b,off,c,rfl,h0,h2,h3⟩
 · exact ⟨a,c,rfl,fun i t h=>by simp at h⟩
 · refine ⟨_,_,rfl,fun i t h=>⟨b,off,rfl,h2,?_,?_,?_,?_,?_,?_⟩⟩
   · exact h3 _ _ ((wrsC_at l i 0 t h (by omega)).trans rfl)
   · exact h3 _ _ ((wrsC_at l i 1 t h (by omega)).trans rfl)
   · exact h3 _ _ ((wrsC_at l i 2 t h (by omega)).trans rfl)
   · exact h3 _ _ ((wrsC_at l i 3 t h (by omega)).trans rfl)
   · exact h3 _ _ ((wrsC_at l i 4 t h (by omega)).trans rfl)
   · exact h3 _ _ ((wrsC_at l i 5 t h (by omega)).trans rfl)
def wrBlk (w:World) (B:Nat) (t:Wr):Prop:=w.heap[B]? = some (.cells (wrC t).toArray 61 (0,0))
theorem wpList_append_wr {w:World} {ops:Array Oper} {rest:List Oper} {o:Oper} {a:Act} {Q:Exit→Act→World→Prop} (hgd:o.guard=none) (s x:Operand)
   (ho:o.op=.call { callee:=.builtin .append,args:=#[s,x],argTypes:=#[23,23] })
   (base:Nat) (v:Value) (l:List Wr) (hs:a.eval s=v) (hown:ownsW w base v l)
   (B c:Nat) (hx:a.eval x=.slice (some ⟨B,0,none⟩) 1 c) (t:Wr) (hcell:wrBlk w B t)
   (hlen:l.length+1≤1000000) (hbase:base≤w.heap.size)
   (h:∀ g cap w',ownsW w' base (.slice (some ⟨g,0,none⟩) (l.length+1) cap) (l++[t])→w.grownBy w' v.ownBlock→wpList Tryz.prog ops Q rest (a.put o.dst (.slice (some ⟨g,0,none⟩) (l.length+1) cap)) w'):wpList Tryz.prog ops Q (o::rest) a w:=by
 obtain ⟨i0,hi,hz0,hz1,hz2⟩:=info_parts info_wr;refine wpList_append_lies w hgd s x 23 ho base 61 i0 (.agg #[.int .i64 0,.int .i64 0,.int .i64 0,.string ⟨#[]⟩,.string ⟨#[]⟩,.int .i64 0]) 6 64 Tryz.underlying23 hi hz0 hz1 hz2 rfl (by decide) v l.length (wrsC l) hs hown ⟨B,0,none⟩ 1 c (wrC t) hx rfl ?_ (wrC_cell t) (by decide) (by unfold maxLen;omega) (by omega) hbase _ rfl ?_
 · intro j u hj;have hadd:(⟨B,0,none⟩:Addr).add j=⟨B,j,none⟩:=by unfold Addr.add;split <;> simp_all
   rw [hadd,cell_of_row _ _ _ _ _ _ hcell,←hj];simp
 · intro g cap w' h1 h2 _ _;refine h g cap w' ?_ h2;unfold ownsW;rw [List.length_append,wrsC_app,wrsC_one];exact h1
end Go.Proofs.YtgfinhehgfbdgaaGreatDoor
namespace Go.Proofs.YtgfinhehgfbdgaaGreatDoor
open Go.RowKit
def IsTexts (w:World) (v:Value) (l:List ByteArray):Prop :=
 ∃ a cap,v=.slice a l.length cap∧l.length≤cap∧∀ k s,l[k]? = some s→∃ b off,a=some ⟨b,off,none⟩∧b<w.heap.size∧w.cell? ⟨b,off+k,none⟩=some (.string s)
def IsNums (w:World) (v:Value) (l:List Int):Prop :=
 ∃ a cap,v=.slice a l.length cap∧l.length≤cap∧∀ k n,l[k]? = some n→∃ b off,a=some ⟨b,off,none⟩∧b<w.heap.size∧w.cell? ⟨b,off+k,none⟩=some (.int .i64 n)
theorem IsTexts.below {w w':World} {v:Value} {l:List ByteArray} (h:IsTexts w v l) (hb:Below w.heap.size w w'):IsTexts w' v l:=by
 obtain ⟨a,cap,h1,h2,h3⟩:=h;exact ⟨a,cap,h1,h2,fun k s hk=>by obtain ⟨b,off,e,hlt,hc⟩:=h3 k s hk;exact ⟨b,off,e,Nat.lt_of_lt_of_le hlt hb.size,(hb.cell hlt).trans hc⟩⟩
theorem IsNums.below {w w':World} {v:Value} {l:List Int} (h:IsNums w v l) (hb:Below w.heap.size w w'):IsNums w' v l:=by
 obtain ⟨a,cap,h1,h2,h3⟩:=h;exact ⟨a,cap,h1,h2,fun k s hk=>by obtain ⟨b,off,e,hlt,hc⟩:=h3 k s hk;exact ⟨b,off,e,Nat.lt_of_lt_of_le hlt hb.size,(hb.cell hlt).trans hc⟩⟩
theorem IsTexts.alloc {w:World} {v:Value} {l:List ByteArray} (h:IsTexts w v l) (o:Obj):IsTexts (w.alloc o) v l:=h.below ((Below.refl _ _).alloc (Nat.le_refl _) _)
theorem IsNums.alloc {w:World} {v:Value} {l:List Int} (h:IsNums w v l) (o:Obj):IsNums (w.alloc o) v l:=h.below ((Below.refl _ _).alloc (Nat.le_refl _) _)
theorem isTexts_nil (w:World):IsTexts w (.slice none 0 0) []:=⟨none,0,rfl,Nat.le_refl _,fun k s h=>by simp at h⟩
theorem isNums_nil (w:World):IsNums w (.slice none 0 0) []:=⟨none,0,rfl,Nat.le_refl _,fun k s h=>by simp at h⟩
theorem ownsS.isTexts {w:World} {base:Nat} {v:Value} {l:List ByteArray} (h:ownsS w base v l):IsTexts w v l:=by
 rcases h.forms with ⟨rfl,rfl⟩ | ⟨g,cap,rfl,hb,hg,hc⟩
 · exact isTexts_nil w
 · have hcap : l.length ≤ cap := by
     rcases h.2 with ⟨e,_⟩ | ⟨_,_,_,e,_,_,hcl,_⟩
     · simp at e
     · obtain ⟨_,_,rfl⟩:=Value.slice.inj e;omega
   refine ⟨_,cap,rfl,hcap,fun k s hk=>⟨g,0,rfl,hg,?_⟩⟩;obtain ⟨hkl,e⟩:=List.getElem?_eq_some_iff.1 hk;have:=hc k hkl;rw [Nat.zero_add,this];simp [List.getD_eq_getElem?_getD,hk]
theorem ownsN.isNums {w:World} {base:Nat} {v:Value} {l:List Nat} (h:ownsN w base v l):IsNums w v (l.map Int.ofNat):=by
 rcases h.forms with ⟨rfl,rfl⟩ | ⟨g,cap,rfl,hb,hg,hc⟩
 · exact isNums_nil w
 · have hcap : l.length ≤ cap := by
     rcases h.2 with ⟨e,_⟩ | ⟨_,_,_,e,_,_,hcl,_⟩
     · simp at e
     · obtain ⟨_,_,rfl⟩:=Value.slice.inj e;omega
   refine ⟨some ⟨g,0,none⟩,cap,by rw [List.length_map],by rw [List.length_map];exact hcap,fun k s hk=>⟨g,0,rfl,hg,?_⟩⟩;rw [List.getElem?_map] at hk;obtain ⟨n,hn,rfl⟩:=Option.map_eq_some_iff.1 hk;have hkl:=(List.getElem?_eq_some_iff.1 hn).1;have:=hc k hkl;rw [Nat.zero_add,this];simp [List.getD_eq_getElem?_getD,hn]
theorem rows_apart {w:World} {base base':Nat} {e1 e2:TypeId} {k1 k2 n1 n2:Nat} {v1 v2:Value} {x1 x2:List Value} (h1:w.ownsRow base e1 k1 v1 n1 x1) (h2:w.ownsRow base' e2 k2 v2 n2 x2) (hne:e1≠e2) :
   v1.ownBlock=none∨v1.ownBlock≠v2.ownBlock:=by
 rcases h1.2 with ⟨rfl,_⟩ | ⟨g,cap,cur,rfl,_,hh,_⟩
 · exact .inl rfl
 · refine .inr ?_;rcases h2.2 with ⟨rfl,_⟩ | ⟨g',cap',cur',rfl,_,hh',_⟩
   · simp [Value.ownBlock]
   · intro e;have:g=g':=by simpa [Value.ownBlock] using e
     subst this;rw [hh] at hh';injection hh' with hh'
     injection hh' with _ ht
     exact hne ht
theorem ownsS.off {w:World} {base b:Nat} {v:Value} {l:List ByteArray} (h:ownsS w base v l) (hb:b<base):v.ownBlock≠some b:=fun e=>by have:=(h.lt b e).1;omega
theorem ownsN.off {w:World} {base b:Nat} {v:Value} {l:List Nat} (h:ownsN w base v l) (hb:b<base):v.ownBlock≠some b:=fun e=>by have:=(h.lt b e).1;omega
theorem ownsS.mono {w:World} {base b:Nat} {v:Value} {l:List ByteArray} (h:ownsS w base v l) (hb:b≤base):ownsS w b v l:=by
 refine ⟨h.1,?_⟩;rcases h.2 with h1 | ⟨g,cap,cur,e,h2,h3⟩
 · exact .inl h1
 · exact .inr ⟨g,cap,cur,e,Nat.le_trans hb h2,h3⟩
theorem ownsN.mono {w:World} {base b:Nat} {v:Value} {l:List Nat} (h:ownsN w base v l) (hb:b≤base):ownsN w b v l:=by
 refine ⟨h.1,?_⟩;rcases h.2 with h1 | ⟨g,cap,cur,e,h2,h3⟩
 · exact .inl h1
 · exact .inr ⟨g,cap,cur,e,Nat.le_trans hb h2,h3⟩
end Go.Proofs.YtgfinhehgfbdgaaGreatDoor
namespace Go.Proofs.YtgfinhehgfbdgaaGreatDoor
open Go.RowKit Go.Maps
theorem keyedS:Keyed Tryz.prog 9:=string_keyed Tryz.underlying9
theorem zeroI (w:World):(zeroValue 3).run Tryz.prog w=.ok (.int .i64 0) w:=by kernel_rfl
theorem keyS {s:ByteArray} (h:s.size≤maxLen):keyOf Tryz.prog 9 (.string s)=some (keyL s):=Go.WideMaps.keyOf_string_mk Tryz.underlying9 h
def ownsNum (w:World) (b n:Nat) (t:List ByteArray):Prop:=∃ D,NumM D t∧w.ownsMap Tryz.prog 9 (plainElem Tryz.prog 3) b n D
theorem ownsNum_made (w:World):ownsNum (w.alloc (.map #[] 0)) w.heap.size 0 []:=⟨_,numM_nil,World.ownsMap_made _ _ _ _⟩
theorem ownsNum.kept {w w':World} {b n:Nat} {t:List ByteArray} {row:Option Nat} (h:ownsNum w b n t) (hg:w.grownBy w' row) (hne:some b≠row):ownsNum w' b n t:=by
 obtain ⟨D,h1,h2⟩:=h;exact ⟨D,h1,h2.kept hg hne⟩
theorem ownsNum.alloc {w:World} {b n:Nat} {t:List ByteArray} (h:ownsNum w b n t) (o:Obj):ownsNum (w.alloc o) b n t:=by
 obtain ⟨D,h1,h2⟩:=h;exact ⟨D,h1,h2.alloc o⟩
theorem ownsNum.mono {w:World} {b n m:Nat} {t:List ByteArray} (h:ownsNum w b n t) (hm:n≤m):ownsNum w b m t:=by
 obtain ⟨D,h1,h2⟩:=h;exact ⟨D,h1,h2.mono hm⟩
theorem ownsNum.below {w w':World} {b n:Nat} {t:List ByteArray} (h:ownsNum w b n t) (hb:Below w.heap.size w w'):ownsNum w' b n t :=
 h.kept (row:=none) ⟨hb.os,hb.tape,hb.output,hb.size,fun k hk _=>hb.block k hk⟩ (by simp)
section
variable {w:World} {ops:Array Oper} {rest:List Oper} {o:Oper} {a:Act} {Q:Exit→Act→World→Prop}
theorem wpList_num_there (hg:o.guard=none) (m x:Operand) (hop:o.op=Op.lookup 216 m x true) (b n:Nat) (t:List ByteArray)
   (hm:a.eval m=.map (some b)) (hown:ownsNum w b n t) (s:ByteArray) (hx:a.eval x=.string s) (hs:s.size≤maxLen) (j:Nat) (hj:t[j]? = some s)
   (hK:wpList Tryz.prog ops Q rest (a.put o.dst (.tuple #[.int .i64 j,.bool true])) w):wpList Tryz.prog ops Q (o::rest) a w:=by
 obtain ⟨D,h1,h2⟩:=hown;refine wpList_lookup_own_ok_int w hg m x _ hop 9 3 .i64 keyedS Tryz.underlying216 Tryz.underlying3 (zeroI w) b n D hm h2 _ _ hx (keyS hs) ?_;intro c hc _;rw [h1.at' s j hj] at hc;obtain rfl:(j:Int)=c:=by simpa using hc
 rw [h1.there s (List.mem_of_getElem? hj)];exact hK
theorem wpList_num_none (hg:o.guard=none) (m x:Operand) (hop:o.op=Op.lookup 216 m x true) (b n:Nat) (t:List ByteArray)
   (hm:a.eval m=.map (some b)) (hown:ownsNum w b n t) (s:ByteArray) (hx:a.eval x=.string s) (hs:s.size≤maxLen) (hj:s ∉ t)
   (hK:∀ c,wpList Tryz.prog ops Q rest (a.put o.dst (.tuple #[.int .i64 c,.bool false])) w):wpList Tryz.prog ops Q (o::rest) a w:=by
 obtain ⟨D,h1,h2⟩:=hown;refine wpList_lookup_own_ok_int w hg m x _ hop 9 3 .i64 keyedS Tryz.underlying216 Tryz.underlying3 (zeroI w) b n D hm h2 _ _ hx (keyS hs) ?_;intro c hc _;rw [h1.none s hj];exact hK c
theorem wpList_num_put (hg:o.guard=none) (m x v:Operand) (hop:o.op=Op.mapUpdate 216 m x v) (b n:Nat) (t:List ByteArray)
   (hm:a.eval m=.map (some b)) (hown:ownsNum w b n t) (hn:n<maxLen) (s:ByteArray) (hx:a.eval x=.string s) (hv:a.eval v=.int .i64 (t.length:Nat)) (hs:s.size≤maxLen) (hj:s ∉ t) (ht:t.length≤maxLen)
   (hK:∀ w',ownsNum w' b (n+1) (t++[s])→w.grownBy w' (some b)→wpList Tryz.prog ops Q rest (a.put o.dst undef) w'):wpList Tryz.prog ops Q (o::rest) a w:=by
 obtain ⟨D,h1,h2⟩:=hown;refine wpList_mapUpdate_own w hg m x v _ hop 9 3 keyedS Tryz.underlying216 _ b n D hm h2 hn _ _ _ hx hv (keyS hs) (.lit (.int .i64 t.length)) [] (plainElem_int Tryz.underlying3 (WalkArith.wf_i64 (by unfold maxLen at ht;omega))) ?_;intro w' h3 h4;exact hK w' ⟨_,h1.put hj,h3⟩ h4
end
end Go.Proofs.YtgfinhehgfbdgaaGreatDoor
