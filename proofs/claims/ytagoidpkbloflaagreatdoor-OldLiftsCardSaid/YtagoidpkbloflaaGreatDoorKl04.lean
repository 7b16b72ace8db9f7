import Derived.Test.YtagoidpkbloflaaGreatDoorKlq
import Derived.Test.YtagoidpkbloflaaGreatDoorKl03
import Derived.Lib.Builder
import Derived.Lib.AppendStr
import Derived.Lib.UnsafeStr
import Derived.Laws.Externs
namespace Go.Proofs.YtagoidpkbloflaaGreatDoor
open Lib (hid)
set_option maxRecDepth 100000
set_option maxHeartbeats 8000000
section
open Go.RowKit
theorem mq:(Tryz.prog.info? 73).map (fun i=>(i.zero,i.size,i.bytes))=some (some (.agg #[.int .i64 0,.int .i64 0]),2,16):=by kernel_rfl
def entC (t:Ent):List Value:=[.int .i64 t.rep,.int .i64 t.time]
def bG (l:List Ent):List Value:=l.flatMap entC
theorem ju (l:List Ent):(bG l).length=l.length * 2:=by
 induction l with
 | nil=>rfl
 | cons t r ih=>simp only [bG,List.flatMap_cons,Df,DM] at ih ⊢;rw [ih];simp [entC];omega
theorem lS (a b:List Ent):bG (a++b)=bG a++bG b:=by simp [bG]
theorem cZ (l:List Ent) (i j:Nat) (t:Ent) (h:l[i]? = some t) (hj:j<2):(bG l)[i * 2+j]? = (entC t)[j]? := by
 induction l generalizing i with
 | nil=>simp at h
 | cons u r ih =>
  have hc:bG (u::r)=entC u++bG r:=by simp [bG]
  have h3:(entC u).length=2:=rfl;rw [hc];cases i with
  | zero =>
   obtain rfl:u=t:=by simpa using h
   rw [EQ (by omega)]
   congr 1;omega
  | succ i =>
   rw [EY (by omega),h3,show (i+1) * 2+j-2=i * 2+j by omega];exact ih i (by simpa using h)
theorem vu (l:List Ent):∀ u∈bG l,∃ n,u=.int .i64 n:=by
 intro u hu;obtain ⟨t,_,ht⟩:=List.mem_flatMap.1 hu;simp [entC] at ht
 rcases ht with rfl | rfl
 ·exact ⟨_,rfl⟩
 ·exact ⟨_,rfl⟩
def ai (w:World) (base:Nat) (v:Value) (l:List Ent):Prop:=w.ownsRow base 73 2 v l.length (bG l)
theorem cm (w:World) (base:Nat):ai w base (.slice none 0 0) []:=Ev _ _ _ _
theorem ai.alloc {w:World} {base:Nat} {v:Value} {l:List Ent} (h:ai w base v l) (o:Obj):ai (w.alloc o) base v l:=EI h o
theorem ai.drew {w:World} {base:Nat} {v:Value} {l:List Ent} (h:ai w base v l):ai w.drew base v l:=World.ownsRow.drew h
theorem ai.drewN {w:World} {base:Nat} {v:Value} {l:List Ent} (h:ai w base v l) (n:Nat):ai (w.drewN n) base v l:=h
theorem ai.lt {w:World} {base:Nat} {v:Value} {l:List Ent} (h:ai w base v l):∀ k,v.ownBlock=some k→base≤k∧k<w.heap.size:=DQ h
theorem ai.mono {w:World} {base base':Nat} {v:Value} {l:List Ent} (h:ai w base v l) (hb:base'≤base):ai w base' v l:=by
 obtain ⟨h0,h1⟩:=h;refine ⟨h0,?_⟩;rcases h1 with h1 | ⟨g,cap,cur,hv,hg,r⟩
 ·exact .inl h1
 ·exact .inr ⟨g,cap,cur,hv,Dl hb hg,r⟩
theorem ai.below {w w':World} {base:Nat} {v:Value} {l:List Ent} (h:ai w base v l) (hb:Below w.heap.size w w'):ai w' base v l:=by
 refine Dt h (row:=none) ⟨hb.os,hb.tape,hb.output,hb.size,fun k hk _=>hb.block k hk⟩ ?_;cases hv:v.ownBlock with
 | none=>exact .inl rfl
 | some g=>exact .inr (by simp)
def ae (w:World) (v:Value) (l:List Ent):Prop :=
 (∃ a c,v=.slice a 0 c∧l=[])∨∃ b off c,v=.slice (some ⟨b,off,none⟩) l.length c∧(0<l.length∧l.length≤c)∧b<w.heap.size∧∀ j u,(bG l)[j]? = some u→w.cell? ⟨b,off+j,none⟩=some u
theorem ai.is {w:World} {base:Nat} {v:Value} {l:List Ent} (h:ai w base v l):ae w v l:=by
 have hall:=h;have hlt:=h.lt;obtain ⟨h0,h1⟩:=h;rcases h1 with ⟨rfl,hn⟩ | ⟨g,cap,cur,rfl,hb,hh,hc,hm,hs,ht⟩
 ·exact .inl ⟨_,_,rfl,E0.1 hn⟩
 ·by_cases hz:l.length=0
  ·exact .inl ⟨_,_,by rw [hz],E0.1 hz⟩
  ·refine .inr ⟨g,0,cap,rfl,⟨by omega,hc⟩,(hlt g rfl).2,fun j u hj=>?_⟩;have hjl:j<l.length * 2:=by rw [←ju];exact (Do.1 hj).1
   rw [DY,Ej hall j hjl];exact hj
theorem ae.nil (w:World):ae w (.slice none 0 0) []:=.inl ⟨_,_,rfl,rfl⟩
theorem ae.below {w w':World} {v:Value} {l:List Ent} (h:ae w v l) (hb:Below w.heap.size w w'):ae w' v l:=by
 rcases h with ⟨a,c,h1,h2⟩ | ⟨b,off,c,h1,h0,h2,h3⟩
 ·exact .inl ⟨a,c,h1,h2⟩
 ·exact .inr ⟨b,off,c,h1,h0,Dv h2 hb.size,fun j u hj=>(hb.cell (p:=⟨b,off+j,none⟩) h2).trans (h3 j u hj)⟩
theorem ae.alloc {w:World} {v:Value} {l:List Ent} (h:ae w v l) (o:Obj):ae (w.alloc o) v l:=h.below ((Below.refl _ _).alloc (Db _) o)
theorem ae.drewN {w:World} {v:Value} {l:List Ent} (h:ae w v l) (n:Nat):ae (w.drewN n) v l:=h
theorem ae.form {w:World} {v:Value} {l:List Ent} (h:ae w v l):∃ a c,v=.slice a l.length c∧∀ i t,l[i]? = some t→∃ b off,a=some ⟨b,off,none⟩∧b<w.heap.size ∧
 w.cell? ⟨b,off+i * 2,none⟩=some (.int .i64 t.rep)∧w.cell? ⟨b,off+i * 2+1,none⟩=some (.int .i64 t.time):=by
 rcases h with ⟨a,c,rfl,rfl⟩ | ⟨b,off,c,rfl,h0,h2,h3⟩
 ·exact ⟨a,c,rfl,fun i t h=>by simp at h⟩
 ·refine ⟨_,_,rfl,fun i t h=>⟨b,off,rfl,h2,?_,?_⟩⟩
  ·exact h3 _ _ ((cZ l i 0 t h (by omega)).trans rfl)
  ·exact h3 _ _ ((cZ l i 1 t h (by omega)).trans rfl)
theorem ae.lies {w:World} {v:Value} {l:List Ent} (h:ae w v l) (h0:0<l.length):∃ b off c,v=.slice (some ⟨b,off,none⟩) l.length c∧l.length≤c∧b<w.heap.size∧∀ j u,(bG l)[j]? = some u→w.cell? ⟨b,off+j,none⟩=some u:=by
 rcases h with ⟨a,c,rfl,rfl⟩ | ⟨b,off,c,rfl,h1,h2,h3⟩
 ·exact absurd h0 (Nat.lt_irrefl _)
 ·exact ⟨b,off,c,rfl,h1.2,h2,h3⟩
theorem ae.part {w:World} {b off n c:Nat} {l:List Ent} (h:∀ j u,(bG l)[j]? = some u→w.cell? ⟨b,off+j,none⟩=some u) (hb:b<w.heap.size) (i j:Nat) (hj:j≤l.length) (hij:i<j) (hn:n=j-i) (hc:n≤c) :
 ae w (.slice (some ⟨b,off+i * 2,none⟩) n c) ((l.take j).drop i):=by
 have hl:((l.take j).drop i).length=n:=by rw [Dj,DK];omega
 refine .inr ⟨b,off+i * 2,c,by rw [hl],⟨by omega,by omega⟩,hb,fun k u hk=>?_⟩;rw [Nat.add_assoc];refine h _ _ ?_;have hkl:k<n * 2:=by rw [←hl,←ju];exact (Do.1 hk).1
 have ht : ((l.take j).drop i)[k / 2]? = some (((l.take j).drop i)[k / 2]'(by omega)) := Di _;have h1:=cZ _ (k / 2) (k % 2) _ ht (Nat.mod_lt _ (by decide));rw [show k / 2 * 2+k % 2=k by omega] at h1;have ht2 : l[i + k / 2]? = some (((l.take j).drop i)[k / 2]'(by omega)) := by
  rw [←ht,List.getElem?_drop,EP (by omega)]
 have h2:=cZ _ (i+k / 2) (k % 2) _ ht2 (Nat.mod_lt _ (by decide));rw [show (i+k / 2) * 2+k % 2=i * 2+k by omega] at h2;rw [h2,←h1,hk]
def ee (w:World) (B:Nat) (t:Ent):Prop:=w.heap[B]? = some (.cells #[.int .i64 t.rep,.int .i64 t.time] 73 (0,0))
theorem cY (w:World) (a b:Int):ee (w.alloc (.cells #[.int .i64 a,.int .i64 b] 73)) w.heap.size ⟨a,b⟩:=Dg _ _
theorem lh {w:World} {ops:Array Oper} {rest:List Oper} {o:Oper} {a:Act} {Q:Exit→Act→World→Prop} (hgd:o.guard=none) (s x:Operand)
 (ho:o.op=.call { callee:=.builtin .append,args:=#[s,x],argTypes:=#[22,22] })
 (base:Nat) (v:Value) (l:List Ent) (hs:a.eval s=v) (hown:ai w base v l)
 (B c:Nat) (hx:a.eval x=.slice (some ⟨B,0,none⟩) 1 c) (t:Ent) (hcell:ee w B t)
 (hlen:l.length+1≤1000000) (hbase:base≤w.heap.size)
 (h:∀ g cap w',ai w' base (.slice (some ⟨g,0,none⟩) (l.length+1) cap) (l++[t])→w.grownBy w' v.ownBlock→wpList Tryz.prog ops Q rest (a.put o.dst (.slice (some ⟨g,0,none⟩) (l.length+1) cap)) w'):wpList Tryz.prog ops Q (o::rest) a w:=by
 obtain ⟨i0,hi,hz0,hz1,hz2⟩:=DU mq;refine wpList_append_lies w hgd s x 22 ho base 73 i0 (.agg #[.int .i64 0,.int .i64 0]) 2 16 Tryz.underlying22 hi hz0 hz1 hz2 rfl (by decide) v l.length (bG l) hs hown ⟨B,0,none⟩ 1 c (entC t) hx rfl ?_ ?_ (by decide) (by unfold maxLen;omega) (by omega) hbase _ rfl ?_
 ·intro j u hj;have hadd:(⟨B,0,none⟩:Addr).add j=⟨B,j,none⟩:=by unfold Addr.add;split <;> simp_all
  rw [hadd,Dd _ _ _ _ _ _ hcell,←hj];unfold entC;simp
 ·intro u hu;simp [entC] at hu;rcases hu with rfl | rfl <;> rfl
 ·intro g cap w' h1 h2 _ _;refine h g cap w' ?_ h2;unfold ai;rw [Df,lS]
  simpa [bG] using h1
theorem CA {w:World} {ops:Array Oper} {rest:List Oper} {o:Oper} {a:Act} {Q:Exit→Act→World→Prop} (hgd:o.guard=none) (s x:Operand)
 (ho:o.op=.call { callee:=.builtin .append,args:=#[s,x],argTypes:=#[22,22] })
 (base:Nat) (v:Value) (l:List Ent) (hs:a.eval s=v) (hown:ai w base v l)
 (B off c n:Nat) (hx:a.eval x=.slice (some ⟨B,off,none⟩) n c) (m:List Ent) (hn:n=m.length) (hcell:∀ j u,(bG m)[j]? = some u→w.cell? ⟨B,off+j,none⟩=some u)
 (hm:0<m.length) (hlen:l.length+m.length≤1000000) (hbase:base≤w.heap.size)
 (h:∀ g cap w',ai w' base (.slice (some ⟨g,0,none⟩) (l.length+m.length) cap) (l++m)→w.grownBy w' v.ownBlock→wpList Tryz.prog ops Q rest (a.put o.dst (.slice (some ⟨g,0,none⟩) (l.length+m.length) cap)) w'):wpList Tryz.prog ops Q (o::rest) a w:=by
 subst hn;obtain ⟨i0,hi,hz0,hz1,hz2⟩:=DU mq;refine wpList_append_lies w hgd s x 22 ho base 73 i0 (.agg #[.int .i64 0,.int .i64 0]) 2 16 Tryz.underlying22 hi hz0 hz1 hz2 rfl (by decide) v l.length (bG l) hs hown ⟨B,off,none⟩ m.length c (bG m) hx (ju m) ?_ ?_ hm (by unfold maxLen;omega) (by omega) hbase _ rfl ?_
 ·intro j u hj;have hadd:(⟨B,off,none⟩:Addr).add j=⟨B,off+j,none⟩:=by unfold Addr.add;split <;> simp_all
  rw [hadd];exact hcell j u hj
 ·intro u hu;obtain ⟨n,rfl⟩:=vu _ _ hu;rfl
 ·intro g cap w' h1 h2 _ _;refine h g cap w' ?_ h2;unfold ai;rw [Df,lS];exact h1
theorem ai.form {w:World} {base:Nat} {v:Value} {l:List Ent} (h:ai w base v l):(v=.slice none 0 0∧l=[])∨∃ g cap,v=.slice (some ⟨g,0,none⟩) l.length cap∧base≤g∧g<w.heap.size∧∀ j u,(bG l)[j]? = some u→w.cell? ⟨g,j,none⟩=some u:=by
 have hall:=h;have hlt:=h.lt;obtain ⟨h0,h1⟩:=h;rcases h1 with ⟨rfl,hn⟩ | ⟨g,cap,cur,rfl,hb,hh,hc,hm,hs,ht⟩
 ·exact .inl ⟨rfl,E0.1 hn⟩
 ·refine .inr ⟨g,cap,rfl,hb,(hlt g rfl).2,fun j u hj=>?_⟩;have hjl:j<l.length * 2:=by rw [←ju];exact (Do.1 hj).1
  rw [Ej hall j hjl];exact hj
end
section
open Go.RowKit
def hiB (m:Nat):UInt8:=UInt8.ofNat (m % 128+128)
theorem wA (m:Nat):bits .or .u8 ((m:Int) % 256) 128=((hiB m).toNat:Int):=by
 unfold hiB;have e:(m:Int) % 256=((m % 256:Nat):Int):=by omega
 rw [e,show (128:Int)=((128:Nat):Int) from rfl,u8_or_nat _ _ (by omega) (by omega),nm (by omega)]
 congr 1
 have h1:m % 256=2 ^ 7 * (m / 128 % 2)+m % 128:=by omega
 rw [h1,Nat.two_pow_add_eq_or_of_lt (by omega),Nat.or_assoc,Nat.or_comm (m % 128),←Nat.or_assoc];have h3:2 ^ 7 * (m / 128 % 2) ||| 128=2 ^ 7 * 1:=by
  have:m / 128 % 2=0∨m / 128 % 2=1:=by omega
  rcases this with h | h <;> rw [h] <;> decide
 rw [h3,←Nat.two_pow_add_eq_or_of_lt (by omega)];omega
theorem xD (w:World):(Instr.makeSlice 94 (.int .i64 0) (.int .i64 10)).run Tryz.prog w=.ok (.slice (some ⟨w.heap.size,0,none⟩) 0 10) (w.alloc (.cells #[.int .u8 0,.int .u8 0,.int .u8 0,.int .u8 0,.int .u8 0,.int .u8 0,.int .u8 0,.int .u8 0,.int .u8 0,.int .u8 0] 5)):=by kernel_rfl
theorem mN (n:Int) (w:World) (h0:0≤n) (h1:n≤18446744073709551615) :
 Calls Tryz.prog 93 #[.int .u64 n] w fun e w'=>e=.returned (.string ⟨(putL n.toNat).toArray⟩)∧Below w.heap.size w w':=by
 obtain ⟨N,rfl⟩:=DS h0;rw [E2];have hmk:=xD;go_enter Tryz.func93,Tryz.ntmps93
 go_wp2
 go_loopw [0,3] (fun n b wr=>∃ (m:Nat) (pre:List UInt8),n=.int .u64 m∧m≤18446744073709551615∧pre++putL m=putL N∧aY wr w.heap.size b pre∧Below w.heap.size w wr) (fun n _ _=>(intOf n).toNat)
 case atStart=>exact ⟨N,[],rfl,by omega,rfl,World.ownsRow_made w _ 10 (Db _) (by unfold maxLen;omega) rfl,(Below.refl _ _).alloc (Db _) _⟩
 case round =>
  obtain ⟨m,pre,rfl,hm,hput,hown,hbel⟩:=hrel;have HP:=hid hput;clear hput hmk;have hlen:pre.length+1≤10:=by
   have h2:=aK (n:=N) (by omega);rw [←HP.out,Df] at h2;have:=iB m;omega
  by_cases hlt:m<128
  ·go_wp2_with (at_builtin;refine lg rfl _ _ rfl w.heap.size _ pre rfl (hown.alloc _) ⟨wr.heap.size,0,none⟩ 1 rfl (m:Int) (UInt8.ofNat m) ?c1 ?c2 ?c3 ?c4 ?_)
   case c1=>simp [Addr.add]
   case c2=>rw [nm (by omega)]
   case c3=>omega
   case c4=>have:=hbel.size;simp;omega
   ·intro v' w1 hown1 hg1 _;have hcv:=mX hown1;have hb1:Below w.heap.size w w1:=(hbel.alloc hbel.size _).grown hg1 (by have:=hbel.size;simp;omega) (fun k hk=>(DQ hown k hk).1);clear hown1 hg1;go_wp2;go_ret;refine ⟨?_,hb1⟩;have e:pre++[UInt8.ofNat m]=putL N:=by rw [←fL hlt];exact HP.out
    rw [←e];rfl
  ·go_wp2_with (at_builtin;refine lg rfl _ _ rfl w.heap.size _ pre rfl (hown.alloc _) ⟨wr.heap.size,0,none⟩ 1 rfl (bits .or .u8 ((m:Int) % 256) 128) (hiB m) ?d1 ?d2 ?d3 ?d4 ?_)
   case d1=>simp [Addr.add]
   case d2=>exact wA m
   case d3=>omega
   case d4=>have:=hbel.size;simp;omega
   ·intro v' w1 hown1 hg1 _;have hb1:Below w.heap.size w w1:=(hbel.alloc hbel.size _).grown hg1 (by have:=hbel.size;simp;omega) (fun k hk=>(DQ hown k hk).1);clear hg1 hown;go_wp2;go_roundw
    case rel=>exact ⟨m / 128,pre++[hiB m],by go_num,by omega,by rw [E3,List.singleton_append,hiB,←ex hlt];exact HP.out,hown1,hb1⟩
    case measure=>simp [intOf];omega
end
section
open Go.RowKit
theorem lM (s:ByteArray) (w:World) (hs:s.size≤140737488351232) :
 Calls Tryz.prog 102 #[.string s] w fun e w'=>e=.returned (.string s)∧Below w.heap.size w w':=by
 go_enter Tryz.func102,Tryz.ntmps102
 go_wp2_with fail
 refine (Tryz.stringslite_Clone s _ (by omega)).mono ?_;rintro r w1 ⟨rfl,hb1⟩;have HB:=hid hb1;clear hb1;go_wp2;go_ret;exact ⟨rfl,HB.out⟩
end
section
def putT (t:Tok):List UInt8 :=
 if t.own.size=0 then putL (2 * (t.size.toNat-4)+1)++putL (t.back.toNat-1) else putL (2 * t.own.size)++t.own.data.toList
def aZ (l:List Tok):List UInt8:=l.flatMap putT
theorem ol (t:Tok) (l:List Tok):aZ (t::l)=putT t++aZ l:=by simp [aZ]
theorem CQ:aZ []=[]:=rfl
theorem sU (l m:List Tok):aZ (l++m)=aZ l++aZ m:=by simp [aZ]
def bR (l:List Tok):List UInt8:=if (a8 l 0 0).1=0 then aZ l else []
def bkL (l:List UInt8):Nat×Nat×Nat:=if (getL l).2.2≠0 then (0,0,(getL l).2.2) else if 1023<(getL l).1 then (0,0,2) else getL l
def getT (l:List UInt8):(Nat×Nat) ⊕ (Tok×Nat) :=
 if (getL l).2.2≠0 then .inl ((getL l).2.2,0)
 else if (getL l).1 % 2=0 then
  if (getL l).1=0 then .inl (3,0)
  else if l.length<(getL l).2.1+(getL l).1 / 2 then .inl (7,l.length)
  else .inr (⟨⟨((l.drop (getL l).2.1).take ((getL l).1 / 2)).toArray⟩,0,0⟩,(getL l).2.1+(getL l).1 / 2)
 else if 63<(getL l).1 / 2 then .inl (2,0)
 else if (bkL (l.drop (getL l).2.1)).2.2≠0 then .inl ((bkL (l.drop (getL l).2.1)).2.2,(getL l).2.1)
 else .inr (repT ((bkL (l.drop (getL l).2.1)).1+1) ((getL l).1 / 2+4),(getL l).2.1+(bkL (l.drop (getL l).2.1)).2.1)
theorem m8 {l:List UInt8} {n k e:Nat} (h:getL l=(n,k,e)) (he:e≠0):getT l=.inl (e,0):=by
 unfold getT;rw [h];rw [if_pos (by exact he)]
theorem mc {l:List UInt8} {k:Nat} (h:getL l=(0,k,0)):getT l=.inl (3,0):=by
 unfold getT;rw [h];rw [if_neg (by simp),if_pos (by rfl),if_pos rfl]
theorem m7 {l:List UInt8} {n k:Nat} (h:getL l=(n,k,0)) (h2:n % 2=0) (h0:n≠0) (hl:l.length<k+n / 2):getT l=.inl (7,l.length):=by
 unfold getT;rw [h];rw [if_neg (by simp),if_pos h2,if_neg h0,if_pos hl]
theorem ma {l:List UInt8} {n k:Nat} (h:getL l=(n,k,0)) (h2:n % 2=0) (h0:n≠0) (hl:¬ l.length<k+n / 2) :
 getT l=.inr (⟨⟨((l.drop k).take (n / 2)).toArray⟩,0,0⟩,k+n / 2):=by
 unfold getT;rw [h];rw [if_neg (by simp),if_pos h2,if_neg h0,if_neg hl]
theorem m6 {l:List UInt8} {n k:Nat} (h:getL l=(n,k,0)) (h2:¬ n % 2=0) (hb:63<n / 2):getT l=.inl (2,0):=by
 unfold getT;rw [h];rw [if_neg (by simp),if_neg h2,if_pos hb]
theorem m5 {l:List UInt8} {n k m j e:Nat} (h:getL l=(n,k,0)) (h2:¬ n % 2=0) (hb:¬ 63<n / 2) (hk:bkL (l.drop k)=(m,j,e)) (he:e≠0):getT l=.inl (e,k):=by
 unfold getT;rw [h];rw [if_neg (by simp),if_neg h2,if_neg hb];simp only [hk]
 rw [if_pos he]
theorem mb {l:List UInt8} {n k m j:Nat} (h:getL l=(n,k,0)) (h2:¬ n % 2=0) (hb:¬ 63<n / 2) (hk:bkL (l.drop k)=(m,j,0)):getT l=.inr (repT (m+1) (n / 2+4),k+j):=by
 unfold getT;rw [h];rw [if_neg (by simp),if_neg h2,if_neg hb];simp only [hk]
 rw [if_neg (by simp)]
theorem tZ {l:List UInt8} {n k e:Nat} (h:getL l=(n,k,e)) (he:e≠0):bkL l=(0,0,e):=by
 unfold bkL;rw [h];rw [if_pos (by exact he)]
theorem ua {l:List UInt8} {n k:Nat} (h:getL l=(n,k,0)) (hm:1023<n):bkL l=(0,0,2):=by
 unfold bkL;rw [h];rw [if_neg (by simp),if_pos hm]
theorem u9 {l:List UInt8} {n k:Nat} (h:getL l=(n,k,0)) (hm:¬ 1023<n):bkL l=(n,k,0):=by
 unfold bkL;rw [h];rw [if_neg (by simp),if_neg hm]
theorem lJ (l:List UInt8):(∃ e,bkL l=(0,0,e)∧e≠0)∨∃ m j,bkL l=(m,j,0)∧getL l=(m,j,0)∧m≤1023:=by
 obtain ⟨n,k,e,h⟩:∃ n k e,getL l=(n,k,e):=⟨_,_,_,rfl⟩;by_cases he:e=0
 ·subst he;by_cases hm:1023<n
  ·exact .inl ⟨2,ua h hm,by omega⟩
  ·exact .inr ⟨n,k,u9 h hm,h,by omega⟩
 ·exact .inl ⟨e,tZ h he,he⟩
def fine (t:Tok):Prop :=
 (t.own.size≠0∧t.size=0∧t.back=0)∨(t.own.size=0∧4≤t.size∧t.size≤67∧1≤t.back∧t.back≤1024)
theorem vP {t:Tok} {a:Nat} (h:ap t a=0):fine t:=by
 rcases gF h with ⟨h1,h2,h3,_⟩ | ⟨h1,h2,h3,h4,h5,_,_⟩
 ·exact .inl ⟨h1,h2,h3⟩
 ·exact .inr ⟨h1,h2,h3,h4,h5⟩
theorem jZ {t:Tok} (h:t.own.size≠0):putT t=putL (2 * t.own.size)++t.own.data.toList:=by unfold putT;rw [if_neg h]
theorem k7 {t:Tok} (h:t.own.size=0):putT t=putL (2 * (t.size.toNat-4)+1)++putL (t.back.toNat-1):=by unfold putT;rw [if_pos h]
theorem zg (t:Tok):0<(putT t).length:=by
 unfold putT;split
 ·rw [Df];have:=iB (2 * (t.size.toNat-4)+1);omega
 ·rw [Df];have:=iB (2 * t.own.size);omega
theorem m9 {l:List UInt8} {t:Tok} {k:Nat} (h:getT l=.inr (t,k)):1≤k∧k≤l.length∧putT t=l.take k∧fine t∧t.own.size≤l.length:=by
 obtain ⟨n,j,e,hg⟩:∃ n k e,getL l=(n,k,e):=⟨_,_,_,rfl⟩;by_cases he:e=0
 ·subst he;obtain ⟨g1,g2,g3⟩:=fD hg;by_cases h2:n % 2=0
  ·by_cases h0:n=0
   ·subst h0;rw [mc hg] at h;cases h
   ·by_cases hl:l.length<j+n / 2
    ·rw [m7 hg h2 h0 hl] at h;cases h
    ·rw [ma hg h2 h0 hl] at h;injection h with h
     injection h with ht hk
     subst ht hk;have hlen:((l.drop j).take (n / 2)).length=n / 2:=by rw [DK,Dj];omega
     have hsz:(⟨((l.drop j).take (n / 2)).toArray⟩:ByteArray).size=n / 2:=by rw [bm,hlen]
     refine ⟨by omega,by omega,?_,.inl ⟨by simp only [hsz];omega,rfl,rfl⟩,by simp only [hsz];omega⟩;rw [jZ (by simp only [hsz];omega)];simp only [hsz]
     rw [show 2 * (n / 2)=n by omega,g3,Ez]
  ·by_cases hb:63<n / 2
   ·rw [m6 hg h2 hb] at h;cases h
   ·rcases lJ (l.drop j) with ⟨e,hk,he⟩ | ⟨m,i,hk,hm,hm2⟩
    ·rw [m5 hg h2 hb hk he] at h;cases h
    ·rw [mb hg h2 hb hk] at h;injection h with h
     injection h with ht hkk
     subst ht hkk;obtain ⟨q1,q2,q3⟩:=fD hm;rw [Dj] at q2;have hz:(repT (m+1) (n / 2+4)).own.size=0:=rfl;refine ⟨by omega,by omega,?_,.inr ⟨hz,?_,?_,?_,?_⟩,by rw [hz];omega⟩
     ·rw [k7 hz];have e1:(repT (m+1) (n / 2+4)).size.toNat=n / 2+4:=by show (((n / 2+4:Nat):Int)).toNat=_;omega
      have e2:(repT (m+1) (n / 2+4)).back.toNat=m+1:=by show (((m+1:Nat):Int)).toNat=_;omega
      rw [e1,e2,show 2 * (n / 2+4-4)+1=n by omega,show m+1-1=m by omega,g3,q3,Ez]
     ·show (4:Int)≤((n / 2+4:Nat):Int);omega
     ·show ((n / 2+4:Nat):Int)≤67;omega
     ·show (1:Int)≤((m+1:Nat):Int);omega
     ·show ((m+1:Nat):Int)≤1024;omega
 ·rw [m8 hg he] at h;cases h
def rdF (s:List UInt8):Nat→Nat→List Tok→List Nat→(Nat×Nat) ⊕ (List Tok×List Nat)
 | 0,_,l,b=>.inr (l,b)
 | f+1,a,l,b=>if a<s.length then match getT (s.drop a) with
  | .inl (e,p)=>.inl (e,a+p)
  | .inr (t,k)=>rdF s f (a+k) (l++[t]) (b++[a]) else .inr (l,b)
theorem iD {s:List UInt8} {f a:Nat} {l:List Tok} {b:List Nat} (h:¬ a<s.length):rdF s f a l b=.inr (l,b):=by
 cases f with
 | zero=>rfl
 | succ f=>rw [rdF,if_neg h]
theorem iC {s:List UInt8} {f a e p:Nat} {l:List Tok} {b:List Nat} (h:a<s.length) (hg:getT (s.drop a)=.inl (e,p)):rdF s (f+1) a l b=.inl (e,a+p):=by
 rw [rdF,if_pos h,hg]
theorem gm {s:List UInt8} {f a k:Nat} {t:Tok} {l:List Tok} {b:List Nat} (h:a<s.length) (hg:getT (s.drop a)=.inr (t,k)):rdF s (f+1) a l b=rdF s f (a+k) (l++[t]) (b++[a]):=by
 rw [rdF,if_pos h,hg]
def am (s:List UInt8):(Nat×Int)×List Tok :=
 match rdF s s.length 0 [] [] with
 | .inl (e,p)=>((e,(p:Int)),[])
 | .inr (l,b)=>if (a8 l 0 0).1=0 then ((0,-1),l) else (((a8 l 0 0).1,((b.getD (a8 l 0 0).2.toNat 0:Nat):Int)),[])
theorem ke {s:List UInt8} {e p:Nat} (h:rdF s s.length 0 [] []=.inl (e,p)):am s=((e,(p:Int)),[]):=by unfold am;rw [h]
theorem kf {s:List UInt8} {l:List Tok} {b:List Nat} (h:rdF s s.length 0 [] []=.inr (l,b)) (hr:(a8 l 0 0).1=0):am s=((0,-1),l):=by unfold am;rw [h];exact if_pos hr
theorem kg {s:List UInt8} {l:List Tok} {b:List Nat} (h:rdF s s.length 0 [] []=.inr (l,b)) (hr:¬ (a8 l 0 0).1=0) :
 am s=(((a8 l 0 0).1,((b.getD (a8 l 0 0).2.toNat 0:Nat):Int)),[]):=by unfold am;rw [h];exact if_neg hr
theorem mU {l:List Tok} {i a:Nat} (h:(a8 l i a).1=0):∀ t∈l,fine t∧t.own.size≤140737488351232:=by
 induction l generalizing i a with
 | nil=>intro t ht;cases ht
 | cons u r ih =>
  obtain ⟨h1,h2⟩:=gn h;intro t ht;rcases Et.1 ht with rfl | ht
  ·refine ⟨vP h1,?_⟩;have:=j8 h1;unfold lenT at this;omega
  ·exact ih h2 t ht
theorem zr (s:List UInt8):∀ (f a:Nat) (l m:List Tok) (b b':List Nat),a≤s.length→s.length≤a+f→rdF s f a l b=.inr (m,b')→∃ r,m=l++r∧aZ r=s.drop a∧∀ t∈r,fine t∧t.own.size≤s.length:=by
 intro f
 induction f with
 | zero =>
  intro a l m b b' ha hf h;rw [rdF] at h;injection h with h
  injection h with h1 h2
  exact ⟨[],by rw [←h1,DV],by rw [DD (by omega)];rfl,fun t ht=>by cases ht⟩
 | succ f ih =>
  intro a l m b b' ha hf h;by_cases hlt:a<s.length
  ·match hg:getT (s.drop a) with
   | .inl (e,p)=>rw [iC hlt hg] at h;cases h
   | .inr (t,k) =>
    rw [gm hlt hg] at h;obtain ⟨h1,h2,h3,h4,h5⟩:=m9 hg;rw [Dj] at h2 h5;obtain ⟨r,hr,hw,hr2⟩:=ih (a+k) (l++[t]) m (b++[a]) b' (by omega) (by omega) h;refine ⟨t::r,by rw [hr,E3];rfl,?_,fun u hu=>?_⟩
    ·rw [ol,hw,h3,←Dy,EE]
    ·rcases Et.1 hu with rfl | hu
     ·exact ⟨h4,by omega⟩
     ·exact hr2 u hu
  ·rw [iD hlt] at h;injection h with h
   injection h with h1 h2
   exact ⟨[],by rw [←h1,DV],by rw [DD (by omega)];rfl,fun t ht=>by cases ht⟩
theorem mO {s:List UInt8} (h:(am s).1.1=0):(a8 (am s).2 0 0).1=0∧aZ (am s).2=s:=by
 match hr:rdF s s.length 0 [] [] with
 | .inl (e,p) =>
  exfalso
  rw [ke hr] at h;simp only at h
  have:∀ (f a:Nat) (l:List Tok) (b:List Nat) (e p:Nat),rdF s f a l b=.inl (e,p)→e≠0:=by
   intro f
   induction f with
   | zero=>intro a l b e p h;cases h
   | succ f ih =>
    intro a l b e p h;by_cases hlt:a<s.length
    ·match hg:getT (s.drop a) with
     | .inl (e',p') =>
      rw [iC hlt hg] at h;injection h with h
      injection h with h1 h2
      subst h1;intro h0;subst h0;unfold getT at hg;split at hg
      ·rename_i hne;injection hg with hg;injection hg with hg _;exact hne hg
      ·split at hg
       ·split at hg
        ·injection hg with hg;injection hg with hg _;omega
        ·split at hg
         ·injection hg with hg;injection hg with hg _;omega
         ·cases hg
       ·split at hg
        ·injection hg with hg;injection hg with hg _;omega
        ·split at hg
         ·rename_i hne;injection hg with hg;injection hg with hg _;exact hne hg
         ·cases hg
     | .inr (t,k)=>rw [gm hlt hg] at h;exact ih _ _ _ _ _ h
    ·rw [iD hlt] at h;cases h
  exact this _ _ _ _ _ _ hr h
 | .inr (l,b) =>
  by_cases hw:(a8 l 0 0).1=0
  ·rw [kf hr hw];obtain ⟨r,h1,h2,_⟩:=zr s s.length 0 [] l [] b (Ds _) (by omega) hr;rw [E7] at h1;subst h1;exact ⟨hw,h2⟩
  ·rw [kg hr hw] at h;exact absurd h hw
theorem zw {s:List UInt8} (h:(am s).1.1≠0):(am s).2=[]:=by
 unfold am at h ⊢;split
 ·rfl
 ·rename_i l b hr;rw [hr] at h;split
  ·rename_i hw;simp only [if_pos hw] at h;exact absurd rfl h
  ·rfl
end
section
open Go.RowKit
theorem lK:(Tryz.prog.info? 184).map (·.size)=some 2:=by kernel_rfl
theorem ub:liesAt Tryz.prog Tryz.prog.depth 184 (2 / Tryz.prog.cellsOf 184) 0 184 1=true:=by kernel_rfl
def b6 (w:World) (B b:Nat) (l:List UInt8):Prop:=Lib.IsBuilder 184 5 B b (Lib.byteCells l) w
theorem oM (w:World) (B:Nat) (h:B≤w.heap.size):b6 (w.alloc (.cells #[.pointer none,.slice none 0 0] 184)) B w.heap.size [] :=
 .inl ⟨h,.slice none 0 0,Dg w _,Ev _ _ _ _,by simp [Value.ownBlock]⟩
theorem b6.below {w w':World} {B b:Nat} {l:List UInt8} (h:b6 w B b l) (hb:Below w.heap.size w w'):b6 w' B b l:=by
 have hone:∀ {p:Value},Lib.BuilderAt 184 5 B b p (Lib.byteCells l) w→Lib.BuilderAt 184 5 B b p (Lib.byteCells l) w':=by
  intro p h;have hlt:=h.lt;obtain ⟨hB,v,hbk,hown,hne⟩:=h;refine ⟨hB,v,(hb.block b hlt).trans hbk,?_,hne⟩;refine Dt hown (row:=none) ⟨hb.os,hb.tape,hb.output,hb.size,fun k hk _=>hb.block k hk⟩ ?_;cases hv:v.ownBlock with
  | none=>exact .inl rfl
  | some g=>exact .inr (by simp)
 rcases h with h | h
 ·exact .inl (hone h)
 ·exact .inr (hone h)
theorem b6.lt {w:World} {B b:Nat} {l:List UInt8} (h:b6 w B b l):B≤b∧b<w.heap.size:=by
 rcases h with h | h
 ·exact ⟨h.1,h.lt⟩
 ·exact ⟨h.1,h.lt⟩
theorem b6.alloc {w:World} {B b:Nat} {l:List UInt8} (h:b6 w B b l) (o:Obj):b6 (w.alloc o) B b l:=h.below ((Below.refl _ _).alloc (Db _) _)
theorem lN (b:Nat) (w:World) (h0:w.cell? ⟨b,0,none⟩=some (.pointer (some ⟨b,0,none⟩))) :
 Calls Tryz.prog 170 #[.pointer (some ⟨b,0,none⟩)] w fun e w'=>e=.returned (.tuple #[])∧w'=w:=by
 obtain ⟨j,hj,_⟩:=Option.map_eq_some_iff.1 lK;go_enter Tryz.func170,Tryz.ntmps170
 go_wp2;rw [Lib.run_neq_ptr_same w _ Tryz.underlying182 hj];go_wp2
 go_end0
 exact ⟨rfl,rfl⟩
theorem p9 (b:Nat) (w:World) (h0:w.cell? ⟨b,0,none⟩=some (.pointer none)) (hsh:w.shape? b=some (184,2)) (hfz:w.frozen? ⟨b,0,none⟩=false) :
 Calls Tryz.prog 170 #[.pointer (some ⟨b,0,none⟩)] w fun e w'=>e=.returned (.tuple #[])∧w'=w.setCell ⟨b,0,none⟩ (.pointer (some ⟨b,0,none⟩)):=by
 obtain ⟨j,hj,hjs⟩:=Option.map_eq_some_iff.1 lK;go_enter Tryz.func170,Tryz.ntmps170
 go_wp2;rw [Lib.run_to_unsafe w ⟨b,0,none⟩ Tryz.underlying182 Tryz.underlying195 hj (by rw [hjs];decide) hsh (Nat.zero_lt_succ 1)];simp only [Result.andThen]
 rw [Oper.upon_value];go_wp2;rw [DR Tryz.func198 (by kernel_rfl) (by kernel_rfl) (by kernel_rfl) (e:=Extern.AbiNoEscape.same) (by kernel_rfl)];rw [Lib.run_noEscape];simp only [Result.andThen]
 rw [Oper.upon_value];go_wp2;rw [Lib.run_from_unsafe w ⟨b,0,none⟩ Tryz.underlying195 Tryz.underlying182 hj hsh ub];simp only [Result.andThen]
 rw [Oper.upon_value];go_wp2
 go_end0
 exact ⟨rfl,rfl⟩
theorem uP (B b:Nat) (l:List UInt8) (w:World) (h:b6 w B b l) :
 Calls Tryz.prog 170 #[.pointer (some ⟨b,0,none⟩)] w fun e w'=>e=.returned (.tuple #[])∧Lib.BuilderAt 184 5 B b (.pointer (some ⟨b,0,none⟩)) (Lib.byteCells l) w'∧Below B w w':=by
 rcases h with h | h
 ·refine (p9 b w h.cell0 h.shape h.frozen0).mono ?_;rintro e w' ⟨rfl,rfl⟩;exact ⟨rfl,h.used _,(Below.refl B w).setCell (p:=⟨b,0,none⟩) h.1 _⟩
 ·refine (lN b w h.cell0).mono ?_;rintro e w' ⟨rfl,rfl⟩;exact ⟨rfl,h,Below.refl B _⟩
theorem ud (B b:Nat) (l:List UInt8) (s:ByteArray) (w:World) (h:b6 w B b l) (hlen:l.length+s.size≤140737488355328) (hBw:B≤w.heap.size) :
 Calls Tryz.prog 126 #[.pointer (some ⟨b,0,none⟩),.string s] w fun e w'=>e=.returned (.tuple #[.int .i64 s.size,.nilIface])∧b6 w' B b (l++s.data.toList)∧Below B w w':=by
 obtain ⟨i0,hi,hz0,hz1,hz2⟩:=DU fF;have hbl:(Lib.byteCells l).length=l.length:=by simp [Lib.byteCells]
 go_enter Tryz.func126,Tryz.ntmps126
 go_wp2_with fail
 refine (uP B b l _ h).mono ?_;rintro e w1 ⟨rfl,h1,hb1⟩;obtain ⟨hB,v,hbk,hown,hne⟩:=h1;have c0:w1.cell? ⟨b,0,none⟩=some (.pointer (some ⟨b,0,none⟩)):=by rw [Lib.cell_of_heap hbk];rfl
 have c1:w1.cell? ⟨b,1,none⟩=some v:=by rw [Lib.cell_of_heap hbk];rfl
 go_wp2_with (at_builtin;refine Lib.wpList_append_own_string _ rfl _ _ 94 9 rfl B 5 i0 Tryz.underlying94 Tryz.underlying9 hi hz0 hz1 hz2 _ _ _ rfl hown s rfl ?c3 ?c4 ?c5 ?_)
 case c3=>rw [hbl];unfold maxLen;omega
 case c4=>rw [hbl];omega
 case c5=>have:=hb1.size;omega
 intro v' w2 hown' hgrow _;have hlt:b<w1.heap.size:=by
  rcases Eg b w1.heap.size with h' | h'
  ·exact h'
  ·simp [Ep h'] at hbk
 have hb2:w2.heap[b]? = some (.cells #[.pointer (some ⟨b,0,none⟩),v] 184 (0,0)):=by
  rw [hgrow.block b hlt (fun e=>hne e.symm)];exact hbk
 have d0:w2.cell? ⟨b,0,none⟩=some (.pointer (some ⟨b,0,none⟩)):=by rw [Lib.cell_of_heap hb2];rfl
 have d1:w2.cell? ⟨b,1,none⟩=some v:=by rw [Lib.cell_of_heap hb2];rfl
 have f1:w2.frozen? ⟨b,1,none⟩=false:=Lib.frozen_of_heap hb2 1;obtain ⟨ao,n',cap,rfl⟩:∃ ao n' cap,v'=.slice ao n' cap:=by
  rcases hown'.2 with ⟨hv,_⟩ | ⟨g,cap,cur,hv,_⟩
  ·exact ⟨_,_,_,hv⟩
  ·exact ⟨_,_,_,hv⟩
 have HO:Hid (w2.ownsRow B 5 1 (.slice ao n' cap) (Lib.byteCells (l++s.data.toList)).length (Lib.byteCells (l++s.data.toList))):=by
  have h:w2.ownsRow B 5 1 (.slice ao n' cap) (Lib.byteCells (l++s.data.toList)).length (Lib.byteCells (l++s.data.toList)):=by
   have e:Lib.byteCells (l++s.data.toList)=Lib.byteCells l++Lib.strCells s:=by simp [Lib.byteCells,Lib.strCells]
   rw [e,Df,Lib.strCells_length,hbl];exact hown'
  exact h
 clear hown';go_wp2;go_ret2;refine ⟨rfl,.inr ?_,?_⟩
 ·exact Lib.BuilderAt.put (T:=184) (e:=5) hB hb2 HO.out (by decide)
 ·exact (hb1.grown hgrow (by have:=hb1.size;omega) (fun k hk=>(hown.lt k hk).1)).setCell (p:=⟨b,1,none⟩) hB _
theorem oN (B b:Nat) (l:List UInt8) (w:World) (h:b6 w B b l) (hBw:B≤w.heap.size) :
 Calls Tryz.prog 127 #[.pointer (some ⟨b,0,none⟩)] w fun e w'=>e=.returned (.string ⟨l.toArray⟩)∧Below B w w' :=
 Tryz.Builder_String_any B b l w h hBw
end
section
open Go.RowKit
theorem ze (j k:Nat) (h:j<k) (hk:k≤9):(128 ^ j:Nat) * 128≤9223372036854775808:=by
 have h1:128 ^ (j+1)≤128 ^ 9:=Nat.pow_le_pow_right (by decide) (by omega);rw [pow9,Eb] at h1;exact h1
def p128 (j:Nat):Nat:=128 ^ j
theorem zc (k:Nat) (w:World) (hk:k≤9) :
 Calls Tryz.prog 54 #[.int .u64 128,.int .i64 k] w fun e w'=>e=.returned (.int .u64 (p128 k))∧w=w':=by
 go_enter Tryz.func54,Tryz.ntmps54
 go_wp2
 go_loop [5,7] (fun p j=>∃ m:Nat,m≤k∧j=.int .i64 m∧p=.int .u64 (p128 m)) (fun _ j=>k-(intOf j).toNat)
 case atStart=>exact ⟨0,Ds _,rfl,rfl⟩
 case round =>
  obtain ⟨m,hm,rfl,rfl⟩:=hrel;by_cases hlt:m<k
  ·have hs:p128 m * 128≤9223372036854775808:=ze m k hlt hk;have he:Hid (p128 m * 128=p128 (m+1)):=(Eb 128 m).symm;go_wp2
   go_round
   case rel=>exact ⟨m+1,by omega,by go_num,by rw [←he.out];go_num⟩
   case measure=>simp [intOf];omega
  ·have:m=k:=by omega
   subst this;go_wp2;go_ret;exact ⟨rfl,rfl⟩
end
section
open Go.RowKit
def dR (r:Nat×Nat):Value:=.tuple #[.int .i64 r.1,.int .i64 r.2]
theorem pr (s:ByteArray) (a:Nat) (w:World) (hs:s.size≤maxLen) (ha:a<s.size) :
 Calls Tryz.prog 180 #[.string s,.int .i64 a] w fun e w'=>e=.returned (dR (find s.data.toList a))∧∃ q,w'=w.drewN q:=by
 have HS:=hid hs;unfold maxLen at hs;obtain ⟨m,hm⟩:∃ m,m=min 67 (s.size-a):=⟨_,rfl⟩;obtain ⟨t,ht⟩:∃ t,t=min 1024 a:=⟨_,rfl⟩;have m1:(if (s.size:Int)-(a:Int)<67 then (s.size:Int)-(a:Int) else 67)=(m:Int):=by split <;> omega
 have t1:(if (a:Int)<1024 then (a:Int) else 1024)=(t:Int):=by split <;> omega
 have m2:min 67 ((s.size:Int)-(a:Int))=(m:Int):=by omega
 have t2:min 1024 (a:Int)=(t:Int):=by omega
 have HF:Hid (find s.data.toList a=best s.data.toList a m t):=by
  have hl:s.data.toList.length=s.size:=by simp
  have h:find s.data.toList a=best s.data.toList a m t:=by rw [lY (by omega),hl,hm,ht]
  exact h
 have hm0:0<m:=by omega
 have hma:a+m≤s.size:=by omega
 have hta:t≤a:=by omega
 have c1:decide ((a:Int)<0)=false:=by simp
 have c2:decide (s.size≤a)=false:=by simp;omega
 clear hm ht;go_enter Tryz.func180,Tryz.ntmps180
 go_wp2;clear m1 t1 m2 t2 c1 c2
 go_loopw [4,5,24] (fun b n i wr=>∃ i' b' n' q:Nat,i'≤t∧i=.int .i64 i'∧b=.int .i64 b'∧n=.int .i64 n'∧n'<m∧cA s.data.toList a m 1 i' b' n'∧wr=w.drewN q) (fun _ _ i _=>t-(intOf i).toNat)
 case atStart=>exact ⟨0,0,0,0,by omega,rfl,rfl,rfl,hm0,.inl ⟨rfl,rfl,fun k h1 h2=>by omega⟩,rfl⟩
 case round =>
  obtain ⟨i,b,n,q,hi,rfl,rfl,rfl,hn,hC,rfl⟩:=hrel;have HC:=hid hC;clear hC;by_cases hlt:i<t
  ·obtain ⟨x,hx⟩:∃ x,sm s.data.toList a (i+1) m=x:=⟨_,rfl⟩;have hxm:=rt s.data.toList a (i+1) m;rw [hx] at hxm;by_cases hb:4≤x∧n<x
   ·have hN:=oG HC.out (by omega) (by omega) (by omega);rw [hx] at hN;have HN:=hid hN;have HX:=hid hx;obtain ⟨b4,bn⟩:=hb;clear hN hx;by_cases hf:x=m
    ·have hbe:((x:Int) == (m:Int))=true:=by simp [hf]
     have HE:Hid (find s.data.toList a=(i+1,x)):=by
      have h:find s.data.toList a=(i+1,x):=by rw [HF.out];exact lH (tR HN.out hf hm0 (by omega))
      exact h
     clear hf;go_wp2_with fail
     refine (ks s a (i+1) m _ _ HS.out (by omega) (by omega) hma).mono ?_;rintro e w1 ⟨rfl,q1,rfl⟩;rw [HX.out];go_wp2;go_ret2;exact ⟨by rw [HE.out];rfl,by first | exact ⟨_,rfl⟩ | exact pi _ _ _⟩
    ·have hbe:((x:Int) == (m:Int))=false:=by simp;omega
     go_wp2_with fail
     refine (ks s a (i+1) m _ _ HS.out (by omega) (by omega) hma).mono ?_;rintro e w1 ⟨rfl,q1,rfl⟩;rw [HX.out];go_wp2;go_roundw
     case rel=>exact ⟨i+1,i+1,x,q+q1,by omega,by go_num,by go_num,rfl,by omega,HN.out,by simp⟩
     case measure=>simp [intOf];omega
   ·have hN:=oH HC.out (by rw [hx];exact hb);have HN:=hid hN;have HX:=hid hx;have hbe:((n:Int) == (m:Int))=false:=by simp;omega
    clear hN hx;by_cases h4:4≤x
    ·have h5:¬ n<x:=fun h=>hb ⟨h4,h⟩
     clear hb;go_wp2_with fail
     refine (ks s a (i+1) m _ _ HS.out (by omega) (by omega) hma).mono ?_;rintro e w1 ⟨rfl,q1,rfl⟩;rw [HX.out];go_wp2;go_roundw
     case rel=>exact ⟨i+1,b,n,q+q1,by omega,by go_num,rfl,rfl,by omega,HN.out,by simp⟩
     case measure=>simp [intOf];omega
    ·clear hb;go_wp2_with fail
     refine (ks s a (i+1) m _ _ HS.out (by omega) (by omega) hma).mono ?_;rintro e w1 ⟨rfl,q1,rfl⟩;rw [HX.out];go_wp2;go_roundw
     case rel=>exact ⟨i+1,b,n,q+q1,by omega,by go_num,rfl,rfl,by omega,HN.out,by simp⟩
     case measure=>simp [intOf];omega
  ·have HE : Hid (find s.data.toList a = (b, n)) := by
    have h:find s.data.toList a=(b,n):=by
     rw [HF.out];have e:i=t:=by omega
     rw [←e];exact lH HC.out
    exact h
   go_wp2;go_ret2;exact ⟨by rw [HE.out];rfl,_,rfl⟩
end
