import Derived.Test.YtgfinhehgfbdgaaGreatDoorProg
import Derived.WalkKit
import Derived.Handy
import Derived.Lib.Hide
import Derived.Test.YtgfinhehgfbdgaaGreatDoorKa00
import Derived.KernelRfl
import Derived.Below
import Derived.Deep.AppendLies
import Derived.Laws.OwnMore
import Derived.Deep.Draws
import Derived.Test.YtgfinhehgfbdgaaGreatDoorKa02
import Derived.Test.YtgfinhehgfbdgaaGreatDoorKa01
namespace Go.Proofs.YtgfinhehgfbdgaaGreatDoor
open Go.RowKit
def pickN (a n:Int):Int:=(a % 18446744073709551616) % n
theorem pickN_pos {a n:Int} (h:0 < n):0≤pickN a n∧pickN a n < n:=⟨Int.emod_nonneg _ (by omega),Int.emod_lt_of_pos _ h⟩
set_option maxRecDepth 100000 in
theorem pick_any (a n:Int) (w:World) (h0:0 < n) (h1:n≤9223372036854775807) :
   Calls Tryz.prog 30 #[.int .i64 a,.int .i64 n] w fun e w'=>e=.returned (.int .i64 (pickN a n))∧w=w':=by
 obtain ⟨q,hq'⟩:∃ q,IntKind.u64.wrap a=q:=⟨_,rfl⟩
 have hq:0≤q∧q≤18446744073709551615:=by rw [←hq',IntKind.wrap_u64];omega
 have hr:=Int.emod_nonneg q (show n≠0 by omega)
 have hr2:=Int.emod_lt_of_pos q h0
 have hw:Hid (wrap64 (q % n)=pickN a n):=by
   rw [IntWalk.wrap64_in _ ⟨by omega,by omega⟩,←hq',IntKind.wrap_u64];rfl
 clear hr hr2
 go_enter Tryz.func30,Tryz.ntmps30
 go_wp2
 go_ret
 refine ⟨?_,rfl⟩
 rw [←hw.out];rfl
end Go.Proofs.YtgfinhehgfbdgaaGreatDoor
namespace Go.Proofs.YtgfinhehgfbdgaaGreatDoor
open Go.RowKit
theorem info_ent:(Tryz.prog.info? 80).map (fun i=>(i.zero,i.size,i.bytes))=some (some (.agg #[.int .i64 0,.int .i64 0]),2,16):=by kernel_rfl
def entC (t:Ent):List Value:=[.int .i64 t.rep,.int .i64 t.time]
def entsC (l:List Ent):List Value:=l.flatMap entC
theorem entsC_len (l:List Ent):(entsC l).length=l.length * 2:=by
 induction l with
 | nil=>rfl
 | cons t r ih=>simp only [entsC,List.flatMap_cons,List.length_append,List.length_cons] at ih ⊢;rw [ih];simp [entC];omega
theorem entsC_app (a b:List Ent):entsC (a ++ b)=entsC a ++ entsC b:=by simp [entsC]
theorem entsC_at (l:List Ent) (i j:Nat) (t:Ent) (h:l[i]? = some t) (hj:j < 2):(entsC l)[i * 2 + j]? = (entC t)[j]? := by
 induction l generalizing i with
 | nil=>simp at h
 | cons u r ih =>
   have hc:entsC (u :: r)=entC u ++ entsC r:=by simp [entsC]
   have h3:(entC u).length=2:=rfl
   rw [hc]
   cases i with
   | zero =>
     obtain rfl:u=t:=by simpa using h
     rw [List.getElem?_append_left (by omega)]
     congr 1;omega
   | succ i =>
     rw [List.getElem?_append_right (by omega),h3,show (i + 1) * 2 + j - 2=i * 2 + j by omega]
     exact ih i (by simpa using h)
theorem entsC_int (l:List Ent):∀ u∈entsC l,∃ n,u=.int .i64 n:=by
 intro u hu
 obtain ⟨t,_,ht⟩:=List.mem_flatMap.1 hu
 simp [entC] at ht
 rcases ht with rfl | rfl
 · exact ⟨_,rfl⟩
 · exact ⟨_,rfl⟩
def ownsE (w:World) (base:Nat) (v:Value) (l:List Ent):Prop:=w.ownsRow base 80 2 v l.length (entsC l)
theorem ownsE_nil (w:World) (base:Nat):ownsE w base (.slice none 0 0) []:=World.ownsRow_nil _ _ _ _
theorem ownsE.alloc {w:World} {base:Nat} {v:Value} {l:List Ent} (h:ownsE w base v l) (o:Obj):ownsE (w.alloc o) base v l:=World.ownsRow.alloc h o
theorem ownsE.drew {w:World} {base:Nat} {v:Value} {l:List Ent} (h:ownsE w base v l):ownsE w.drew base v l:=World.ownsRow.drew h
theorem ownsE.drewN {w:World} {base:Nat} {v:Value} {l:List Ent} (h:ownsE w base v l) (n:Nat):ownsE (w.drewN n) base v l:=h
theorem ownsE.lt {w:World} {base:Nat} {v:Value} {l:List Ent} (h:ownsE w base v l):∀ k,v.ownBlock=some k→base≤k∧k < w.heap.size:=World.ownsRow.lt h
theorem ownsE.mono {w:World} {base base':Nat} {v:Value} {l:List Ent} (h:ownsE w base v l) (hb:base'≤base):ownsE w base' v l:=by
 obtain ⟨h0,h1⟩:=h
 refine ⟨h0,?_⟩
 rcases h1 with h1 | ⟨g,cap,cur,hv,hg,r⟩
 · exact .inl h1
 · exact .inr ⟨g,cap,cur,hv,Nat.le_trans hb hg,r⟩
theorem ownsE.below {w w':World} {base:Nat} {v:Value} {l:List Ent} (h:ownsE w base v l) (hb:Below w.heap.size w w'):ownsE w' base v l:=by
 refine World.ownsRow.kept h (row:=none) ⟨hb.os,hb.tape,hb.output,hb.size,fun k hk _=>hb.block k hk⟩ ?_
 cases hv:v.ownBlock with
 | none=>exact .inl rfl
 | some g=>exact .inr (by simp)
def IsEnts (w:World) (v:Value) (l:List Ent):Prop :=
 (∃ a c,v=.slice a 0 c∧l=[])∨∃ b off c,v=.slice (some ⟨b,off,none⟩) l.length c∧(0 < l.length∧l.length≤c)∧b < w.heap.size∧∀ j u,(entsC l)[j]? = some u→w.cell? ⟨b,off + j,none⟩=some u
theorem ownsE.is {w:World} {base:Nat} {v:Value} {l:List Ent} (h:ownsE w base v l):IsEnts w v l:=by
 have hall:=h
 have hlt:=h.lt
 obtain ⟨h0,h1⟩:=h
 rcases h1 with ⟨rfl,hn⟩ | ⟨g,cap,cur,rfl,hb,hh,hc,hm,hs,ht⟩
 · exact .inl ⟨_,_,rfl,List.length_eq_zero_iff.1 hn⟩
 · by_cases hz:l.length=0
   · exact .inl ⟨_,_,by rw [hz],List.length_eq_zero_iff.1 hz⟩
   · refine .inr ⟨g,0,cap,rfl,⟨by omega,hc⟩,(hlt g rfl).2,fun j u hj=>?_⟩
     have hjl:j < l.length * 2:=by rw [←entsC_len];exact (List.getElem?_eq_some_iff.1 hj).1
     rw [Nat.zero_add,World.ownsRow.cellAt hall j hjl]
     exact hj
theorem IsEnts.nil (w:World):IsEnts w (.slice none 0 0) []:=.inl ⟨_,_,rfl,rfl⟩
theorem IsEnts.below {w w':World} {v:Value} {l:List Ent} (h:IsEnts w v l) (hb:Below w.heap.size w w'):IsEnts w' v l:=by
 rcases h with ⟨a,c,h1,h2⟩ | ⟨b,off,c,h1,h0,h2,h3⟩
 · exact .inl ⟨a,c,h1,h2⟩
 · exact .inr ⟨b,off,c,h1,h0,Nat.lt_of_lt_of_le h2 hb.size,fun j u hj=>(hb.cell (p:=⟨b,off + j,none⟩) h2).trans (h3 j u hj)⟩
theorem IsEnts.alloc {w:World} {v:Value} {l:List Ent} (h:IsEnts w v l) (o:Obj):IsEnts (w.alloc o) v l:=h.below ((Below.refl _ _).alloc (Nat.le_refl _) o)
theorem IsEnts.drewN {w:World} {v:Value} {l:List Ent} (h:IsEnts w v l) (n:Nat):IsEnts (w.drewN n) v l:=h
theorem IsEnts.form {w:World} {v:Value} {l:List Ent} (h:IsEnts w v l):∃ a c,v=.slice a l.length c∧∀ i t,l[i]? = some t→∃ b off,a=some ⟨b,off,none⟩∧b < w.heap.size ∧
   w.cell? ⟨b,off + i * 2,none⟩=some (.int .i64 t.rep)∧w.cell? ⟨b,off + i * 2 + 1,none⟩=some (.int .i64 t.time):=by
 rcases h with ⟨a,c,rfl,rfl⟩ | ⟨b,off,c,rfl,h0,h2,h3⟩
 · exact ⟨a,c,rfl,fun i t h=>by simp at h⟩
 · refine ⟨_,_,rfl,fun i t h=>⟨b,off,rfl,h2,?_,?_⟩⟩
   · exact h3 _ _ ((entsC_at l i 0 t h (by omega)).trans rfl)
   · exact h3 _ _ ((entsC_at l i 1 t h (by omega)).trans rfl)
theorem IsEnts.lies {w:World} {v:Value} {l:List Ent} (h:IsEnts w v l) (h0:0 < l.length):∃ b off c,v=.slice (some ⟨b,off,none⟩) l.length c∧l.length≤c∧b < w.heap.size∧∀ j u,(entsC l)[j]? = some u→w.cell? ⟨b,off + j,none⟩=some u:=by
 rcases h with ⟨a,c,rfl,rfl⟩ | ⟨b,off,c,rfl,h1,h2,h3⟩
 · exact absurd h0 (Nat.lt_irrefl _)
 · exact ⟨b,off,c,rfl,h1.2,h2,h3⟩
theorem IsEnts.part {w:World} {b off n c:Nat} {l:List Ent} (h:∀ j u,(entsC l)[j]? = some u→w.cell? ⟨b,off + j,none⟩=some u) (hb:b < w.heap.size) (i j:Nat) (hj:j≤l.length) (hij:i < j) (hn:n=j - i) (hc:n≤c) :
   IsEnts w (.slice (some ⟨b,off + i * 2,none⟩) n c) ((l.take j).drop i):=by
 have hl:((l.take j).drop i).length=n:=by rw [List.length_drop,List.length_take];omega
 refine .inr ⟨b,off + i * 2,c,by rw [hl],⟨by omega,by omega⟩,hb,fun k u hk=>?_⟩
 rw [Nat.add_assoc]
 refine h _ _ ?_
 have hkl:k < n * 2:=by rw [←hl,←entsC_len];exact (List.getElem?_eq_some_iff.1 hk).1
 have ht : ((l.take j).drop i)[k / 2]? = some (((l.take j).drop i)[k / 2]'(by omega)) := List.getElem?_eq_getElem _
 have h1:=entsC_at _ (k / 2) (k % 2) _ ht (Nat.mod_lt _ (by decide))
 rw [show k / 2 * 2 + k % 2=k by omega] at h1
 have ht2 : l[i + k / 2]? = some (((l.take j).drop i)[k / 2]'(by omega)) := by
   rw [←ht,List.getElem?_drop,List.getElem?_take_of_lt (by omega)]
 have h2:=entsC_at _ (i + k / 2) (k % 2) _ ht2 (Nat.mod_lt _ (by decide))
 rw [show (i + k / 2) * 2 + k % 2=i * 2 + k by omega] at h2
 rw [h2,←h1,hk]
def entBlk (w:World) (B:Nat) (t:Ent):Prop:=w.heap[B]? = some (.cells #[.int .i64 t.rep,.int .i64 t.time] 80 (0,0))
theorem entBlk_new (w:World) (a b:Int):entBlk (w.alloc (.cells #[.int .i64 a,.int .i64 b] 80)) w.heap.size ⟨a,b⟩:=heap_alloc_new _ _
theorem wpList_append_ent {w:World} {ops:Array Oper} {rest:List Oper} {o:Oper} {a:Act} {Q:Exit→Act→World→Prop} (hgd:o.guard=none) (s x:Operand)
   (ho:o.op=.call { callee:=.builtin .append,args:=#[s,x],argTypes:=#[22,22] })
   (base:Nat) (v:Value) (l:List Ent) (hs:a.eval s=v) (hown:ownsE w base v l)
   (B c:Nat) (hx:a.eval x=.slice (some ⟨B,0,none⟩) 1 c) (t:Ent) (hcell:entBlk w B t)
   (hlen:l.length + 1≤1000000) (hbase:base≤w.heap.size)
   (h:∀ g cap w',ownsE w' base (.slice (some ⟨g,0,none⟩) (l.length + 1) cap) (l ++ [t])→w.grownBy w' v.ownBlock→wpList Tryz.prog ops Q rest (a.put o.dst (.slice (some ⟨g,0,none⟩) (l.length + 1) cap)) w'):wpList Tryz.prog ops Q (o :: rest) a w:=by
 obtain ⟨i0,hi,hz0,hz1,hz2⟩:=info_parts info_ent
 refine wpList_append_lies w hgd s x 22 ho base 80 i0 (.agg #[.int .i64 0,.int .i64 0]) 2 16 Tryz.underlying22 hi hz0 hz1 hz2 rfl (by decide) v l.length (entsC l) hs hown ⟨B,0,none⟩ 1 c (entC t) hx rfl ?_ ?_ (by decide) (by unfold maxLen;omega) (by omega) hbase _ rfl ?_
 · intro j u hj
   have hadd:(⟨B,0,none⟩:Addr).add j=⟨B,j,none⟩:=by unfold Addr.add;split <;> simp_all
   rw [hadd,cell_of_row _ _ _ _ _ _ hcell,←hj]
   unfold entC;simp
 · intro u hu;simp [entC] at hu;rcases hu with rfl | rfl <;> rfl
 · intro g cap w' h1 h2 _ _
   refine h g cap w' ?_ h2
   unfold ownsE
   rw [List.length_append,entsC_app]
   simpa [entsC] using h1
theorem wpList_append_ents {w:World} {ops:Array Oper} {rest:List Oper} {o:Oper} {a:Act} {Q:Exit→Act→World→Prop} (hgd:o.guard=none) (s x:Operand)
   (ho:o.op=.call { callee:=.builtin .append,args:=#[s,x],argTypes:=#[22,22] })
   (base:Nat) (v:Value) (l:List Ent) (hs:a.eval s=v) (hown:ownsE w base v l)
   (B off c n:Nat) (hx:a.eval x=.slice (some ⟨B,off,none⟩) n c) (m:List Ent) (hn:n=m.length) (hcell:∀ j u,(entsC m)[j]? = some u→w.cell? ⟨B,off + j,none⟩=some u)
   (hm:0 < m.length) (hlen:l.length + m.length≤1000000) (hbase:base≤w.heap.size)
   (h:∀ g cap w',ownsE w' base (.slice (some ⟨g,0,none⟩) (l.length + m.length) cap) (l ++ m)→w.grownBy w' v.ownBlock→wpList Tryz.prog ops Q rest (a.put o.dst (.slice (some ⟨g,0,none⟩) (l.length + m.length) cap)) w'):wpList Tryz.prog ops Q (o :: rest) a w:=by
 subst hn
 obtain ⟨i0,hi,hz0,hz1,hz2⟩:=info_parts info_ent
 refine wpList_append_lies w hgd s x 22 ho base 80 i0 (.agg #[.int .i64 0,.int .i64 0]) 2 16 Tryz.underlying22 hi hz0 hz1 hz2 rfl (by decide) v l.length (entsC l) hs hown ⟨B,off,none⟩ m.length c (entsC m) hx (entsC_len m) ?_ ?_ hm (by unfold maxLen;omega) (by omega) hbase _ rfl ?_
 · intro j u hj
   have hadd:(⟨B,off,none⟩:Addr).add j=⟨B,off + j,none⟩:=by unfold Addr.add;split <;> simp_all
   rw [hadd];exact hcell j u hj
 · intro u hu;obtain ⟨n,rfl⟩:=entsC_int _ _ hu;rfl
 · intro g cap w' h1 h2 _ _
   refine h g cap w' ?_ h2
   unfold ownsE
   rw [List.length_append,entsC_app]
   exact h1
theorem ownsE.form {w:World} {base:Nat} {v:Value} {l:List Ent} (h:ownsE w base v l):(v=.slice none 0 0∧l=[])∨∃ g cap,v=.slice (some ⟨g,0,none⟩) l.length cap∧base≤g∧g < w.heap.size∧∀ j u,(entsC l)[j]? = some u→w.cell? ⟨g,j,none⟩=some u:=by
 have hall:=h
 have hlt:=h.lt
 obtain ⟨h0,h1⟩:=h
 rcases h1 with ⟨rfl,hn⟩ | ⟨g,cap,cur,rfl,hb,hh,hc,hm,hs,ht⟩
 · exact .inl ⟨rfl,List.length_eq_zero_iff.1 hn⟩
 · refine .inr ⟨g,cap,rfl,hb,(hlt g rfl).2,fun j u hj=>?_⟩
   have hjl:j < l.length * 2:=by rw [←entsC_len];exact (List.getElem?_eq_some_iff.1 hj).1
   rw [World.ownsRow.cellAt hall j hjl]
   exact hj
end Go.Proofs.YtgfinhehgfbdgaaGreatDoor
namespace Go.Proofs.YtgfinhehgfbdgaaGreatDoor
def wrongN (t:Tok) (a:Nat):Nat :=
 if t.own.size=0 then
   if t.size=0∧t.back=0 then 1
   else if t.size < 4∨67 < t.size∨t.back < 1∨1024 < t.back then 2
   else if (a:Int) < t.back then 7
   else if 20000 < (a:Int) + t.size then 4 else 0
 else if t.size≠0∨t.back≠0 then 1
 else if 20000 < a + t.own.size then 4 else 0
def lenT (t:Tok):Nat:=t.own.size + t.size.toNat
def rightF:List Tok→Nat→Nat→Nat×Int
 | [],_,_=>(0,-1)
 | t :: r,i,a=>if wrongN t a=0 then rightF r (i + 1) (a + lenT t) else (wrongN t a,(i:Int))
def repL (b:List UInt8) (back:Nat):Nat→List UInt8
 | 0=>b
 | n + 1=>repL (b ++ [b.getD (b.length - back) 0]) back n
def stepT (b:List UInt8) (t:Tok):List UInt8:=repL (b ++ t.own.data.toList) t.back.toNat t.size.toNat
def textL (b:List UInt8) (l:List Tok):List UInt8:=l.foldl stepT b
theorem repL_len (b:List UInt8) (k n:Nat):(repL b k n).length=b.length + n:=by
 induction n generalizing b with
 | zero=>rfl
 | succ n ih=>rw [repL,ih];simp;omega
theorem stepT_len (b:List UInt8) (t:Tok):(stepT b t).length=b.length + lenT t:=by
 unfold stepT lenT
 rw [repL_len,List.length_append,←size_data];omega
theorem wrongN_ok {t:Tok} {a:Nat} (h:wrongN t a=0) :
   (t.own.size≠0∧t.size=0∧t.back=0∧a + t.own.size≤20000) ∨
   (t.own.size=0∧4≤t.size∧t.size≤67∧1≤t.back∧t.back≤1024∧t.back≤(a:Int)∧(a:Int) + t.size≤20000):=by
 unfold wrongN at h
 by_cases h0:t.own.size=0
 · rw [if_pos h0] at h
   by_cases h1:t.size=0∧t.back=0
   · rw [if_pos h1] at h;omega
   · rw [if_neg h1] at h
     by_cases h2:t.size < 4∨67 < t.size∨t.back < 1∨1024 < t.back
     · rw [if_pos h2] at h;omega
     · rw [if_neg h2] at h
       by_cases h3:(a:Int) < t.back
       · rw [if_pos h3] at h;omega
       · rw [if_neg h3] at h
         by_cases h4:20000 < (a:Int) + t.size
         · rw [if_pos h4] at h;omega
         · exact .inr ⟨h0,by omega,by omega,by omega,by omega,by omega,by omega⟩
 · rw [if_neg h0] at h
   by_cases h1:t.size≠0∨t.back≠0
   · rw [if_pos h1] at h;omega
   · rw [if_neg h1] at h
     by_cases h4:20000 < a + t.own.size
     · rw [if_pos h4] at h;omega
     · exact .inl ⟨h0,by omega,by omega,by omega⟩
theorem wrongN_le {t:Tok} {a:Nat} (h:wrongN t a=0):a + lenT t≤20000:=by
 unfold lenT
 rcases wrongN_ok h with ⟨_,h1,_,h2⟩ | ⟨h0,h1,_,_,_,_,h2⟩ <;> omega
theorem rightF_ok {t:Tok} {r:List Tok} {i a:Nat} (h:wrongN t a=0):rightF (t :: r) i a=rightF r (i + 1) (a + lenT t):=by rw [rightF,if_pos h]
theorem rightF_bad {t:Tok} {r:List Tok} {i a:Nat} (h:wrongN t a≠0):rightF (t :: r) i a=(wrongN t a,(i:Int)):=by rw [rightF,if_neg h]
theorem rightF_head {t:Tok} {r:List Tok} {i a:Nat} (h:(rightF (t :: r) i a).1=0):wrongN t a=0∧(rightF r (i + 1) (a + lenT t)).1=0:=by
 by_cases hw:wrongN t a=0
 · rw [rightF_ok hw] at h;exact ⟨hw,h⟩
 · rw [rightF_bad hw] at h;exact absurd h hw
theorem rightF_any {l:List Tok} {i a:Nat} (h:(rightF l i a).1=0):rightF l i a=(0,-1):=by
 induction l generalizing i a with
 | nil=>rfl
 | cons t r ih =>
   obtain ⟨h1,h2⟩:=rightF_head h
   rw [rightF_ok h1];exact ih h2
theorem rightF_take {l:List Tok} {i a:Nat} (h:(rightF l i a).1=0) (n:Nat):(rightF (l.take n) i a).1=0:=by
 induction l generalizing i a n with
 | nil=>simp [rightF]
 | cons t r ih =>
   cases n with
   | zero=>rfl
   | succ n =>
     obtain ⟨h1,h2⟩:=rightF_head h
     rw [List.take_succ_cons,rightF_ok h1];exact ih h2 n
theorem textL_len {l:List Tok} {i a:Nat} {b:List UInt8} (h:(rightF l i a).1=0) (hb:b.length=a) (ha:a≤20000):(textL b l).length≤20000:=by
 induction l generalizing i a b with
 | nil=>show b.length≤_;omega
 | cons t r ih =>
   obtain ⟨h1,h2⟩:=rightF_head h
   exact ih (b:=stepT b t) h2 (by rw [stepT_len,hb]) (wrongN_le h1)
end Go.Proofs.YtgfinhehgfbdgaaGreatDoor
namespace Go.Proofs.YtgfinhehgfbdgaaGreatDoor
open Go.RowKit
theorem info_tok:(Tryz.prog.info? 163).map (fun i=>(i.zero,i.size,i.bytes))=some (some (.agg #[.string ⟨#[]⟩,.int .i64 0,.int .i64 0]),3,32):=by kernel_rfl
def tokC (t:Tok):List Value:=[.string t.own,.int .i64 t.back,.int .i64 t.size]
def toksC (l:List Tok):List Value:=l.flatMap tokC
theorem toksC_len (l:List Tok):(toksC l).length=l.length * 3:=by
 induction l with
 | nil=>rfl
 | cons t r ih=>simp only [toksC,List.flatMap_cons,List.length_append,List.length_cons] at ih ⊢;rw [ih];simp [tokC];omega
theorem toksC_app (a b:List Tok):toksC (a ++ b)=toksC a ++ toksC b:=by simp [toksC]
theorem toksC_at (l:List Tok) (i j:Nat) (t:Tok) (h:l[i]? = some t) (hj:j < 3):(toksC l)[i * 3 + j]? = (tokC t)[j]? := by
 induction l generalizing i with
 | nil=>simp at h
 | cons u r ih =>
   have hc:toksC (u :: r)=tokC u ++ toksC r:=by simp [toksC]
   have h3:(tokC u).length=3:=rfl
   rw [hc]
   cases i with
   | zero =>
     obtain rfl:u=t:=by simpa using h
     rw [List.getElem?_append_left (by omega)]
     congr 1;omega
   | succ i =>
     rw [List.getElem?_append_right (by omega),h3,show (i + 1) * 3 + j - 3=i * 3 + j by omega]
     exact ih i (by simpa using h)
def ownsK (w:World) (base:Nat) (v:Value) (l:List Tok):Prop:=w.ownsRow base 163 3 v l.length (toksC l)
theorem ownsK_nil (w:World) (base:Nat):ownsK w base (.slice none 0 0) []:=World.ownsRow_nil _ _ _ _
theorem ownsK.alloc {w:World} {base:Nat} {v:Value} {l:List Tok} (h:ownsK w base v l) (o:Obj):ownsK (w.alloc o) base v l:=World.ownsRow.alloc h o
theorem ownsK.drew {w:World} {base:Nat} {v:Value} {l:List Tok} (h:ownsK w base v l):ownsK w.drew base v l:=World.ownsRow.drew h
theorem ownsK.drewN {w:World} {base:Nat} {v:Value} {l:List Tok} (h:ownsK w base v l) (n:Nat):ownsK (w.drewN n) base v l:=h
theorem ownsK.lt {w:World} {base:Nat} {v:Value} {l:List Tok} (h:ownsK w base v l):∀ k,v.ownBlock=some k→base≤k∧k < w.heap.size:=World.ownsRow.lt h
theorem ownsK.mono {w:World} {base base':Nat} {v:Value} {l:List Tok} (h:ownsK w base v l) (hb:base'≤base):ownsK w base' v l:=by
 obtain ⟨h0,h1⟩:=h
 refine ⟨h0,?_⟩
 rcases h1 with h1 | ⟨g,cap,cur,hv,hg,r⟩
 · exact .inl h1
 · exact .inr ⟨g,cap,cur,hv,Nat.le_trans hb hg,r⟩
theorem ownsK.below {w w':World} {base:Nat} {v:Value} {l:List Tok} (h:ownsK w base v l) (hb:Below w.heap.size w w'):ownsK w' base v l:=by
 refine World.ownsRow.kept h (row:=none) ⟨hb.os,hb.tape,hb.output,hb.size,fun k hk _=>hb.block k hk⟩ ?_
 cases hv:v.ownBlock with
 | none=>exact .inl rfl
 | some g=>exact .inr (by simp)
def IsToks (w:World) (v:Value) (l:List Tok):Prop :=
 (∃ a c,v=.slice a 0 c∧l=[])∨∃ b off c,v=.slice (some ⟨b,off,none⟩) l.length c∧0 < l.length∧b < w.heap.size∧∀ j u,(toksC l)[j]? = some u→w.cell? ⟨b,off + j,none⟩=some u
theorem ownsK.is {w:World} {base:Nat} {v:Value} {l:List Tok} (h:ownsK w base v l):IsToks w v l:=by
 have hall:=h
 have hlt:=h.lt
 obtain ⟨h0,h1⟩:=h
 rcases h1 with ⟨rfl,hn⟩ | ⟨g,cap,cur,rfl,hb,hh,hc,hm,hs,ht⟩
 · exact .inl ⟨_,_,rfl,List.length_eq_zero_iff.1 hn⟩
 · by_cases hz:l.length=0
   · exact .inl ⟨_,_,by rw [hz],List.length_eq_zero_iff.1 hz⟩
   · refine .inr ⟨g,0,cap,rfl,by omega,(hlt g rfl).2,fun j u hj=>?_⟩
     have hjl:j < l.length * 3:=by rw [←toksC_len];exact (List.getElem?_eq_some_iff.1 hj).1
     rw [Nat.zero_add,World.ownsRow.cellAt hall j hjl]
     exact hj
theorem IsToks.below {w w':World} {v:Value} {l:List Tok} (h:IsToks w v l) (hb:Below w.heap.size w w'):IsToks w' v l:=by
 rcases h with ⟨a,c,h1,h2⟩ | ⟨b,off,c,h1,h0,h2,h3⟩
 · exact .inl ⟨a,c,h1,h2⟩
 · exact .inr ⟨b,off,c,h1,h0,Nat.lt_of_lt_of_le h2 hb.size,fun j u hj=>(hb.cell (p:=⟨b,off + j,none⟩) h2).trans (h3 j u hj)⟩
theorem IsToks.alloc {w:World} {v:Value} {l:List Tok} (h:IsToks w v l) (o:Obj):IsToks (w.alloc o) v l:=h.below ((Below.refl _ _).alloc (Nat.le_refl _) o)
theorem IsToks.drewN {w:World} {v:Value} {l:List Tok} (h:IsToks w v l) (n:Nat):IsToks (w.drewN n) v l:=h
theorem IsToks.form {w:World} {v:Value} {l:List Tok} (h:IsToks w v l):∃ a c,v=.slice a l.length c∧∀ i t,l[i]? = some t→∃ b off,a=some ⟨b,off,none⟩∧b < w.heap.size ∧
   w.cell? ⟨b,off + i * 3,none⟩=some (.string t.own)∧w.cell? ⟨b,off + i * 3 + 1,none⟩=some (.int .i64 t.back)∧w.cell? ⟨b,off + i * 3 + 2,none⟩=some (.int .i64 t.size):=by
 rcases h with ⟨a,c,rfl,rfl⟩ | ⟨b,off,c,rfl,h0,h2,h3⟩
 · exact ⟨a,c,rfl,fun i t h=>by simp at h⟩
 · refine ⟨_,_,rfl,fun i t h=>⟨b,off,rfl,h2,?_,?_,?_⟩⟩
   · exact h3 _ _ ((toksC_at l i 0 t h (by omega)).trans rfl)
   · exact h3 _ _ ((toksC_at l i 1 t h (by omega)).trans rfl)
   · exact h3 _ _ ((toksC_at l i 2 t h (by omega)).trans rfl)
def tokBlk (w:World) (B:Nat) (t:Tok):Prop:=w.heap[B]? = some (.cells #[.string t.own,.int .i64 t.back,.int .i64 t.size] 163 (0,0))
theorem tokBlk_new (w:World) (s:ByteArray) (b n:Int):tokBlk (w.alloc (.cells #[.string s,.int .i64 b,.int .i64 n] 163)) w.heap.size ⟨s,b,n⟩:=heap_alloc_new _ _
theorem wpList_append_tok {w:World} {ops:Array Oper} {rest:List Oper} {o:Oper} {a:Act} {Q:Exit→Act→World→Prop} (hgd:o.guard=none) (s x:Operand)
   (ho:o.op=.call { callee:=.builtin .append,args:=#[s,x],argTypes:=#[89,89] })
   (base:Nat) (v:Value) (l:List Tok) (hs:a.eval s=v) (hown:ownsK w base v l)
   (B c:Nat) (hx:a.eval x=.slice (some ⟨B,0,none⟩) 1 c) (t:Tok) (hcell:tokBlk w B t)
   (hlen:l.length + 1≤1000000) (hbase:base≤w.heap.size)
   (h:∀ g cap w',ownsK w' base (.slice (some ⟨g,0,none⟩) (l.length + 1) cap) (l ++ [t])→w.grownBy w' v.ownBlock→wpList Tryz.prog ops Q rest (a.put o.dst (.slice (some ⟨g,0,none⟩) (l.length + 1) cap)) w'):wpList Tryz.prog ops Q (o :: rest) a w:=by
 obtain ⟨i0,hi,hz0,hz1,hz2⟩:=info_parts info_tok
 refine wpList_append_lies w hgd s x 89 ho base 163 i0 (.agg #[.string ⟨#[]⟩,.int .i64 0,.int .i64 0]) 3 32 Tryz.underlying89 hi hz0 hz1 hz2 rfl (by decide) v l.length (toksC l) hs hown ⟨B,0,none⟩ 1 c (tokC t) hx rfl ?_ ?_ (by decide) (by unfold maxLen;omega) (by omega) hbase _ rfl ?_
 · intro j u hj
   have hadd:(⟨B,0,none⟩:Addr).add j=⟨B,j,none⟩:=by unfold Addr.add;split <;> simp_all
   rw [hadd,cell_of_row _ _ _ _ _ _ hcell,←hj]
   unfold tokC;simp
 · intro u hu;simp [tokC] at hu;rcases hu with rfl | rfl | rfl <;> rfl
 · intro g cap w' h1 h2 _ _
   refine h g cap w' ?_ h2
   unfold ownsK
   rw [List.length_append,toksC_app]
   simpa [toksC] using h1
theorem ownsK.last {w:World} {base g n cap:Nat} {l:List Tok} {t:Tok} (h:ownsK w base (.slice (some ⟨g,0,none⟩) n cap) (l ++ [t])) (hn:n=l.length + 1) :
   w.cell? ⟨g,l.length * 3,none⟩=some (.string t.own)∧w.frozen? ⟨g,l.length * 3,none⟩=false∧base≤g:=by
 subst hn
 have hlt:=(h.lt g rfl).1
 unfold ownsK at h
 rw [List.length_append] at h
 refine ⟨?_,World.ownsRow.frozenAt h _,hlt⟩
 rw [World.ownsRow.cellAt h _ (by simp)]
 exact (toksC_at (l ++ [t]) l.length 0 t (by simp) (by omega)).trans rfl
theorem ownsK.form {w:World} {base:Nat} {v:Value} {l:List Tok} {t:Tok} (h:ownsK w base v (l ++ [t])):∃ g cap,v=.slice (some ⟨g,0,none⟩) (l.length + 1) cap:=by
 obtain ⟨h0,h1⟩:=h
 rcases h1 with ⟨rfl,hn⟩ | ⟨g,cap,cur,rfl,hb,hh,hc,hm,hs,ht⟩
 · simp at hn
 · exact ⟨g,cap,by simp⟩
end Go.Proofs.YtgfinhehgfbdgaaGreatDoor
