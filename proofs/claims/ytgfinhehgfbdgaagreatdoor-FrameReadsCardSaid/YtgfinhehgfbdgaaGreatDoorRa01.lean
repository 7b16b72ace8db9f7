import Derived.Test.YtgfinhehgfbdgaaGreatDoorProg
import Derived.WalkKit
import Derived.Handy
import Derived.Below
import Derived.KernelRfl
import Derived.Lib.Hide
import Derived.Deep.AppendLies
import Derived.Laws.OwnMore
import Derived.Maps.OwnSet
import Derived.Maps.OwnOps
import Derived.Defers
import Derived.Recover
import Derived.WalkLawsBesides
import Derived.Outline
import Derived.RegionTactic
import Derived.OrdersHeld
namespace Go.Proofs.YtgfinhehgfbdgaaGreatDoor
open Go.RowKit
def idRW (x:Int×Int):Bool:=decide (1≤x.1∧x.1≤1099511627776∧0≤x.2∧x.2≤200)
set_option maxRecDepth 100000 in
theorem idrightW_any (x1 x2:Int) (b:Bool) (w:World) (hb:idRW (x1,x2)=b) :
   Calls Tryz.prog 157 #[.agg #[.int .i64 x1,.int .i64 x2]] w fun e w'=>e=.returned (.bool b)∧Below w.heap.size w w':=by
 subst hb;unfold idRW;by_cases h1:1≤x1
 · by_cases h2:x1≤1099511627776
   · by_cases h3:0≤x2
     · by_cases h4:x2≤200
       · rw [decide_eq_true (show 1≤(x1,x2).1∧(x1,x2).1≤1099511627776∧0≤(x1,x2).2∧(x1,x2).2≤200 from ⟨h1,h2,h3,h4⟩)];go_enter Tryz.func157,Tryz.ntmps157
         go_wp2;go_ret;exact ⟨rfl,(Below.refl _ _).alloc (Nat.le_refl _) _⟩
       · rw [decide_eq_false (show ¬ (1≤(x1,x2).1∧(x1,x2).1≤1099511627776∧0≤(x1,x2).2∧(x1,x2).2≤200) from fun h=>h4 h.2.2.2)];have d:decide (x2≤200)=false:=decide_eq_false h4;go_enter Tryz.func157,Tryz.ntmps157
         go_wp2;go_ret;exact ⟨by first | rfl | (show Ending.returned (Value.bool (decide _))=_;rw [d]),(Below.refl _ _).alloc (Nat.le_refl _) _⟩
     · rw [decide_eq_false (show ¬ (1≤(x1,x2).1∧(x1,x2).1≤1099511627776∧0≤(x1,x2).2∧(x1,x2).2≤200) from fun h=>h3 h.2.2.1)];have d:decide (0≤x2)=false:=decide_eq_false h3;go_enter Tryz.func157,Tryz.ntmps157
       go_wp2;go_ret;exact ⟨by first | rfl | simp,(Below.refl _ _).alloc (Nat.le_refl _) _⟩
   · rw [decide_eq_false (show ¬ (1≤(x1,x2).1∧(x1,x2).1≤1099511627776∧0≤(x1,x2).2∧(x1,x2).2≤200) from fun h=>h2 h.2.1)];have d:decide (x1≤1099511627776)=false:=decide_eq_false h2;go_enter Tryz.func157,Tryz.ntmps157
     go_wp2;go_ret;exact ⟨by first | rfl | simp,(Below.refl _ _).alloc (Nat.le_refl _) _⟩
 · rw [decide_eq_false (show ¬ (1≤(x1,x2).1∧(x1,x2).1≤1099511627776∧0≤(x1,x2).2∧(x1,x2).2≤200) from fun h=>h1 h.1)];have d:decide (1≤x1)=false:=decide_eq_false h1;go_enter Tryz.func157,Tryz.ntmps157
   go_wp2;go_ret;exact ⟨by first | rfl | simp,(Below.refl _ _).alloc (Nat.le_refl _) _⟩
end Go.Proofs.YtgfinhehgfbdgaaGreatDoor
namespace Go.Proofs.YtgfinhehgfbdgaaGreatDoor
def smC (l:List UInt8) (a b m n:Nat):Prop :=
 n≤m∧(∀ j,j<n→l.getD (a+j) 0=l.getD (a+j-b) 0)∧(n<m→l.getD (a+n) 0≠l.getD (a+n-b) 0)
def sm (l:List UInt8) (a b:Nat):Nat→Nat
 | 0=>0
 | m+1=>if sm l a b m<m then sm l a b m else if l.getD (a+m) 0=l.getD (a+m-b) 0 then m+1 else m
theorem sm_is (l:List UInt8) (a b m:Nat):smC l a b m (sm l a b m):=by
 induction m with
 | zero=>exact ⟨Nat.le_refl _,fun j h=>by simp [sm] at h,fun h=>by simp [sm] at h⟩
 | succ m ih =>
   obtain ⟨h1,h2,h3⟩:=ih;rw [sm];by_cases h:sm l a b m<m
   · rw [if_pos h];exact ⟨by omega,h2,fun _=>h3 h⟩
   · rw [if_neg h];have e:sm l a b m=m:=by omega
     rw [e] at h2;by_cases hq:l.getD (a+m) 0=l.getD (a+m-b) 0
     · rw [if_pos hq];refine ⟨Nat.le_refl _,fun j hj=>?_,fun hj=>absurd hj (Nat.lt_irrefl _)⟩;by_cases hjm:j=m
       · subst hjm;exact hq
       · exact h2 j (by omega)
     · rw [if_neg hq];exact ⟨by omega,h2,fun _=>hq⟩
theorem smC_one {l:List UInt8} {a b m n n':Nat} (h:smC l a b m n) (h':smC l a b m n'):n=n':=by
 obtain ⟨h1,h2,h3⟩:=h;obtain ⟨k1,k2,k3⟩:=h';rcases Nat.lt_trichotomy n n' with hl | hl | hl
 · exact absurd (k2 n hl) (h3 (by omega))
 · exact hl
 · exact absurd (h2 n' hl) (k3 (by omega))
theorem sm_eq {l:List UInt8} {a b m n:Nat} (h:smC l a b m n):sm l a b m=n:=smC_one (sm_is l a b m) h
theorem sm_le (l:List UInt8) (a b m:Nat):sm l a b m≤m:=(sm_is l a b m).1
def bestC (l:List UInt8) (a m lo hi b n:Nat):Prop :=
 (b=0∧n=0∧∀ k,lo≤k→k≤hi→sm l a k m<4) ∨
 (lo≤b∧b≤hi∧4≤n∧n=sm l a b m∧(∀ k,lo≤k→k≤hi→sm l a k m≤n)∧∀ k,lo≤k→k<b→sm l a k m<n)
theorem bestC_one {l:List UInt8} {a m lo hi b n b' n':Nat} (h:bestC l a m lo hi b n) (h':bestC l a m lo hi b' n'):b=b'∧n=n':=by
 rcases h with ⟨h1,h2,h3⟩ | ⟨h1,h2,h3,h4,h5,h6⟩
 · rcases h' with ⟨k1,k2,k3⟩ | ⟨k1,k2,k3,k4,k5,k6⟩
   · exact ⟨by omega,by omega⟩
   · have:=h3 b' k1 k2;omega
 · rcases h' with ⟨k1,k2,k3⟩ | ⟨k1,k2,k3,k4,k5,k6⟩
   · have:=k3 b h1 h2;omega
   · have e1:=h5 b' k1 k2;have e2:=k5 b h1 h2;refine ⟨?_,by omega⟩;rcases Nat.lt_trichotomy b b' with hl | hl | hl
     · have:=k6 b h1 hl;omega
     · exact hl
     · have:=h6 b' k1 hl;omega
theorem bestC_far {l:List UInt8} {a m lo hi b n:Nat} (h:bestC l a m lo hi b n) (hlo:lo≤hi+1) (h4:4≤sm l a (hi+1) m) (hn:n<sm l a (hi+1) m):bestC l a m lo (hi+1) (hi+1) (sm l a (hi+1) m):=by
 have hall:∀ k,lo≤k→k<hi+1→sm l a k m<sm l a (hi+1) m:=fun k h1 h2=>by
   rcases h with ⟨i1,i2,i3⟩ | ⟨i1,i2,i3,i4,i5,i6⟩
   · have:=i3 k h1 (by omega);omega
   · have:=i5 k h1 (by omega);omega
 refine .inr ⟨hlo,Nat.le_refl _,h4,rfl,fun k h1 h2=>?_,fun k h1 h2=>hall k h1 h2⟩;by_cases e:k=hi+1
 · subst e;exact Nat.le_refl _
 · exact Nat.le_of_lt (hall k h1 (by omega))
theorem bestC_farnot {l:List UInt8} {a m lo hi b n:Nat} (h:bestC l a m lo hi b n) (hn:¬ (4≤sm l a (hi+1) m∧n<sm l a (hi+1) m)):bestC l a m lo (hi+1) b n:=by
 rcases h with ⟨i1,i2,i3⟩ | ⟨i1,i2,i3,i4,i5,i6⟩
 · refine .inl ⟨i1,i2,fun k h1 h2=>?_⟩;by_cases e:k=hi+1
   · subst e;omega
   · exact i3 k h1 (by omega)
 · refine .inr ⟨i1,by omega,i3,i4,fun k h1 h2=>?_,i6⟩;by_cases e:k=hi+1
   · subst e;omega
   · exact i5 k h1 (by omega)
theorem bestC_full {l:List UInt8} {a m lo hi b n hi':Nat} (h:bestC l a m lo hi b n) (hn:n=m) (hm:0<m) (hh:hi≤hi'):bestC l a m lo hi' b n:=by
 rcases h with ⟨i1,i2,i3⟩ | ⟨i1,i2,i3,i4,i5,i6⟩
 · omega
 · exact .inr ⟨i1,by omega,i3,i4,fun k h1 h2=>by rw [hn];exact sm_le _ _ _ _,i6⟩
theorem bestC_near {l:List UInt8} {a m lo hi b n:Nat} (h:bestC l a m (lo+1) hi b n) (hlo:lo≤hi) (h4:4≤sm l a lo m) (hn:n≤sm l a lo m):bestC l a m lo hi lo (sm l a lo m):=by
 refine .inr ⟨Nat.le_refl _,hlo,h4,rfl,fun k h1 h2=>?_,fun k h1 h2=>by omega⟩;by_cases e:k=lo
 · subst e;exact Nat.le_refl _
 · rcases h with ⟨i1,i2,i3⟩ | ⟨i1,i2,i3,i4,i5,i6⟩
   · have:=i3 k (by omega) h2;omega
   · have:=i5 k (by omega) h2;omega
theorem bestC_nearnot {l:List UInt8} {a m lo hi b n:Nat} (h:bestC l a m (lo+1) hi b n) (hn:¬ (n≤sm l a lo m∧4≤sm l a lo m)):bestC l a m lo hi b n:=by
 rcases h with ⟨i1,i2,i3⟩ | ⟨i1,i2,i3,i4,i5,i6⟩
 · refine .inl ⟨i1,i2,fun k h1 h2=>?_⟩;by_cases e:k=lo
   · subst e;omega
   · exact i3 k (by omega) h2
 · refine .inr ⟨by omega,i2,i3,i4,fun k h1 h2=>?_,fun k h1 h2=>?_⟩
   · by_cases e:k=lo
     · subst e;omega
     · exact i5 k (by omega) h2
   · by_cases e:k=lo
     · subst e;omega
     · exact i6 k (by omega) h2
def best (l:List UInt8) (a m:Nat):Nat→Nat×Nat
 | 0=>(0,0)
 | k+1=>if 4≤sm l a (k+1) m∧(best l a m k).2<sm l a (k+1) m then (k+1,sm l a (k+1) m) else best l a m k
theorem best_is (l:List UInt8) (a m k:Nat):bestC l a m 1 k (best l a m k).1 (best l a m k).2:=by
 induction k with
 | zero=>exact .inl ⟨rfl,rfl,fun k h1 h2=>by omega⟩
 | succ k ih =>
   rw [best];by_cases h:4≤sm l a (k+1) m∧(best l a m k).2<sm l a (k+1) m
   · rw [if_pos h];exact bestC_far ih (by omega) h.1 h.2
   · rw [if_neg h];exact bestC_farnot ih h
theorem best_eq {l:List UInt8} {a m k b n:Nat} (h:bestC l a m 1 k b n):best l a m k=(b,n):=by
 obtain ⟨h1,h2⟩:=bestC_one (best_is l a m k) h;exact Prod.ext h1 h2
def find (l:List UInt8) (a:Nat):Nat×Nat:=if a<l.length then best l a (min 67 (l.length-a)) (min 1024 a) else (0,0)
theorem find_in {l:List UInt8} {a:Nat} (h:a<l.length):find l a=best l a (min 67 (l.length-a)) (min 1024 a):=by unfold find;rw [if_pos h]
theorem find_out {l:List UInt8} {a:Nat} (h:¬ a<l.length):find l a=(0,0):=by unfold find;rw [if_neg h]
theorem find_cases (l:List UInt8) (a:Nat):(find l a=(0,0)∧(a<l.length→∀ k,1≤k→k≤min 1024 a→sm l a k (min 67 (l.length-a))<4)) ∨
   ∃ b n,find l a=(b,n)∧a<l.length∧1≤b∧b≤1024∧b≤a∧4≤n∧n≤67∧a+n≤l.length∧smC l a b (min 67 (l.length-a)) n ∧
     (∀ k,1≤k→k≤min 1024 a→sm l a k (min 67 (l.length-a))≤n)∧∀ k,1≤k→k<b→sm l a k (min 67 (l.length-a))<n:=by
 by_cases h:a<l.length
 · rw [find_in h];obtain ⟨b,n,e⟩:∃ b n,best l a (min 67 (l.length-a)) (min 1024 a)=(b,n):=⟨_,_,rfl⟩;have hb:=best_is l a (min 67 (l.length-a)) (min 1024 a);rw [e] at hb;rw [e];rcases hb with ⟨h1,h2,h3⟩ | ⟨h1,h2,h3,h4,h5,h6⟩
   · simp only at h1 h2
     subst h1 h2;exact .inl ⟨rfl,fun _=>h3⟩
   · simp only at h1 h2 h3 h4 h5 h6
     have hi:=sm_is l a b (min 67 (l.length-a));rw [←h4] at hi;have:=hi.1;exact .inr ⟨b,n,rfl,h,h1,by omega,by omega,h3,by omega,by omega,hi,h5,h6⟩
 · exact .inl ⟨find_out h,fun h'=>absurd h' h⟩
structure Tok where
 own:ByteArray
 back:Int
 size:Int
deriving DecidableEq
def ownT (s:List UInt8):List Tok:=if s=[] then [] else [⟨⟨s.toArray⟩,0,0⟩]
def repT (b n:Nat):Tok:=⟨⟨#[]⟩,b,n⟩
theorem ownT_nil:ownT []=[]:=rfl
theorem ownT_cons {s:List UInt8} (h:s≠[]):ownT s=[⟨⟨s.toArray⟩,0,0⟩]:=by unfold ownT;rw [if_neg h]
def tks (l:List UInt8):Nat→Nat→Nat→List Tok
 | 0,fr,a=>ownT ((l.take a).drop fr)
 | f+1,fr,a =>
   if a<l.length then
     if (find l a).2=0 then tks l f fr (a+1)
     else ownT ((l.take a).drop fr)++repT (find l a).1 (find l a).2::tks l f (a+(find l a).2) (a+(find l a).2)
   else ownT ((l.take a).drop fr)
def toks (l:List UInt8):List Tok:=tks l l.length 0 0
theorem tks_end {l:List UInt8} {f fr a:Nat} (h:¬ a<l.length):tks l f fr a=ownT ((l.take a).drop fr):=by
 cases f with
 | zero=>rfl
 | succ f=>rw [tks,if_neg h]
theorem tks_step {l:List UInt8} {f fr a:Nat} (h:a<l.length) (hf:(find l a).2=0):tks l (f+1) fr a=tks l f fr (a+1):=by
 rw [tks,if_pos h,if_pos hf]
theorem tks_rep {l:List UInt8} {f fr a b n:Nat} (h:a<l.length) (hf:find l a=(b,n)) (hn:n≠0):tks l (f+1) fr a=ownT ((l.take a).drop fr)++repT b n::tks l f (a+n) (a+n):=by
 rw [tks,if_pos h,hf,if_neg hn]
end Go.Proofs.YtgfinhehgfbdgaaGreatDoor
namespace Go.Proofs.YtgfinhehgfbdgaaGreatDoor
open Go.RowKit
def atIs (w:World) (v:Value) (r:Nat×Int):Prop :=
 (r=(0,-1)∧v=.nilIface)∨(r.1≠0∧∃ b,v=.iface 82 (.pointer (some ⟨b,0,none⟩))∧b<w.heap.size∧w.cell? ⟨b,0,none⟩=some (.int .i64 (r.1:Nat))∧w.cell? ⟨b,1,none⟩=some (.int .i64 r.2))
theorem atIs.below {w w':World} {v:Value} {r:Nat×Int} (h:atIs w v r) (hb:Below w.heap.size w w'):atIs w' v r:=by
 rcases h with h | ⟨h0,b,h1,h2,h3,h4⟩
 · exact .inl h
 · exact .inr ⟨h0,b,h1,Nat.lt_of_lt_of_le h2 hb.size,(hb.cell (p:=⟨b,0,none⟩) h2).trans h3,(hb.cell (p:=⟨b,1,none⟩) h2).trans h4⟩
theorem atIs.new (w:World) (e:Nat) (pl:Int) (he:e≠0):atIs (w.alloc (.cells #[.int .i64 e,.int .i64 pl] 84)) (.iface 82 (.pointer (some ⟨w.heap.size,0,none⟩))) (e,pl) :=
 .inr ⟨he,_,rfl,by simp,by simp,by simp⟩
def RightIs (w:World) (r:Nat×Int) (e:Ending) (w':World):Prop :=
 ∃ v,e=.returned v∧atIs w' v r∧Below w.heap.size w w'
end Go.Proofs.YtgfinhehgfbdgaaGreatDoor
namespace Go.Proofs.YtgfinhehgfbdgaaGreatDoor
theorem toL (s:ByteArray):s.toList=s.data.toList:=ByteArray.toList_eq s
theorem bytes_ext {a b:ByteArray} (h:a.data.toList=b.data.toList):a=b:=by
 cases a;cases b;simp_all
end Go.Proofs.YtgfinhehgfbdgaaGreatDoor
namespace Go.Proofs.YtgfinhehgfbdgaaGreatDoor
open Go.RowKit
theorem info_int:(Tryz.prog.info? 3).map (fun i=>(i.zero,i.size,i.bytes))=some (some (.int .i64 0),1,8):=by kernel_rfl
def natV (n:Nat):Value:=.int .i64 (n:Int)
def ownsN (w:World) (base:Nat) (v:Value) (l:List Nat):Prop:=w.ownsRow base 3 1 v l.length (l.map natV)
theorem ownsN_nil (w:World) (base:Nat):ownsN w base (.slice none 0 0) []:=World.ownsRow_nil _ _ _ _
theorem ownsN.alloc {w:World} {base:Nat} {v:Value} {l:List Nat} (h:ownsN w base v l) (o:Obj):ownsN (w.alloc o) base v l:=World.ownsRow.alloc h o
theorem ownsN.lt {w:World} {base:Nat} {v:Value} {l:List Nat} (h:ownsN w base v l):∀ k,v.ownBlock=some k→base≤k∧k<w.heap.size:=World.ownsRow.lt h
theorem ownsN.below {w w':World} {base:Nat} {v:Value} {l:List Nat} (h:ownsN w base v l) (hb:Below w.heap.size w w'):ownsN w' base v l:=by
 refine World.ownsRow.kept h (row:=none) ⟨hb.os,hb.tape,hb.output,hb.size,fun k hk _=>hb.block k hk⟩ ?_;cases hv:v.ownBlock with
 | none=>exact .inl rfl
 | some g=>exact .inr (by simp)
theorem ownsN.forms {w:World} {base:Nat} {v:Value} {l:List Nat} (h:ownsN w base v l) :
   (v=.slice none 0 0∧l=[])∨∃ g cap,v=.slice (some ⟨g,0,none⟩) l.length cap∧base≤g∧g<w.heap.size∧∀ j,j<l.length→w.cell? ⟨g,j,none⟩=some (.int .i64 ((l.getD j 0:Nat):Int)):=by
 have hall:=h;obtain ⟨h0,h1⟩:=h;rcases h1 with ⟨rfl,hn⟩ | ⟨g,cap,cur,rfl,hb,hh,hc,hm,hs,ht⟩
 · exact .inl ⟨rfl,List.length_eq_zero_iff.1 hn⟩
 · refine .inr ⟨g,cap,rfl,hb,(World.ownsRow.lt hall g rfl).2,fun j hj=>?_⟩;rw [World.ownsRow.cellAt hall j (by omega)];simp [List.getElem?_eq_getElem hj,natV]
theorem wpList_append_int {w:World} {ops:Array Oper} {rest:List Oper} {o:Oper} {a:Act} {Q:Exit→Act→World→Prop} (hgd:o.guard=none) (s x:Operand)
   (ho:o.op=.call { callee:=.builtin .append,args:=#[s,x],argTypes:=#[99,99] })
   (base:Nat) (v:Value) (l:List Nat) (hs:a.eval s=v) (hown:ownsN w base v l)
   (ad:Addr) (c:Nat) (hx:a.eval x=.slice (some ad) 1 c) (d:Nat) (hcell:w.cell? (ad.add 0)=some (.int .i64 (d:Int)))
   (hlen:l.length+1≤8796093022208) (hbase:base≤w.heap.size)
   (h:∀ g cap w',ownsN w' base (.slice (some ⟨g,0,none⟩) (l.length+1) cap) (l++[d])→w.grownBy w' v.ownBlock→wpList Tryz.prog ops Q rest (a.put o.dst (.slice (some ⟨g,0,none⟩) (l.length+1) cap)) w'):wpList Tryz.prog ops Q (o::rest) a w:=by
 obtain ⟨i0,hi,hz0,hz1,hz2⟩:=info_parts info_int;refine wpList_append_lies w hgd s x 99 ho base 3 i0 (.int .i64 0) 1 8 Tryz.underlying99 hi hz0 hz1 hz2 rfl (by decide) v l.length (l.map natV) hs hown ad 1 c [natV d] hx rfl ?_ ?_ (by decide) (by unfold maxLen;omega) (by omega) hbase _ rfl ?_
 · intro j u hj
   match j,hj with
   | 0,hj=>simp at hj;subst hj;exact hcell
 · intro u hu;simp at hu;subst hu;rfl
 · intro g cap w' h1 h2 _ _;refine h g cap w' ?_ h2;unfold ownsN;rw [List.length_append,List.map_append];exact h1
end Go.Proofs.YtgfinhehgfbdgaaGreatDoor
namespace Go.Proofs.YtgfinhehgfbdgaaGreatDoor
open Go.RowKit
theorem info_str:(Tryz.prog.info? 9).map (fun i=>(i.zero,i.size,i.bytes))=some (some (.string ⟨#[]⟩),1,16):=by kernel_rfl
def ownsS (w:World) (base:Nat) (v:Value) (l:List ByteArray):Prop:=w.ownsRow base 9 1 v l.length (l.map Value.string)
theorem ownsS_nil (w:World) (base:Nat):ownsS w base (.slice none 0 0) []:=World.ownsRow_nil _ _ _ _
theorem ownsS.alloc {w:World} {base:Nat} {v:Value} {l:List ByteArray} (h:ownsS w base v l) (o:Obj):ownsS (w.alloc o) base v l:=World.ownsRow.alloc h o
theorem ownsS.drew {w:World} {base:Nat} {v:Value} {l:List ByteArray} (h:ownsS w base v l):ownsS w.drew base v l:=World.ownsRow.drew h
theorem ownsS.lt {w:World} {base:Nat} {v:Value} {l:List ByteArray} (h:ownsS w base v l):∀ k,v.ownBlock=some k→base≤k∧k<w.heap.size:=World.ownsRow.lt h
theorem ownsS.below {w w':World} {base:Nat} {v:Value} {l:List ByteArray} (h:ownsS w base v l) (hb:Below w.heap.size w w'):ownsS w' base v l:=by
 refine World.ownsRow.kept h (row:=none) ⟨hb.os,hb.tape,hb.output,hb.size,fun k hk _=>hb.block k hk⟩ ?_;cases hv:v.ownBlock with
 | none=>exact .inl rfl
 | some g=>exact .inr (by simp)
theorem ownsS.forms {w:World} {base:Nat} {v:Value} {l:List ByteArray} (h:ownsS w base v l) :
   (v=.slice none 0 0∧l=[])∨∃ g cap,v=.slice (some ⟨g,0,none⟩) l.length cap∧base≤g∧g<w.heap.size∧∀ j,j<l.length→w.cell? ⟨g,j,none⟩=some (.string (l.getD j ByteArray.empty)):=by
 have hall:=h;obtain ⟨h0,h1⟩:=h;rcases h1 with ⟨rfl,hn⟩ | ⟨g,cap,cur,rfl,hb,hh,hc,hm,hs,ht⟩
 · exact .inl ⟨rfl,List.length_eq_zero_iff.1 hn⟩
 · refine .inr ⟨g,cap,rfl,hb,(World.ownsRow.lt hall g rfl).2,fun j hj=>?_⟩;rw [World.ownsRow.cellAt hall j (by omega)];simp [List.getElem?_eq_getElem hj]
theorem wpList_append_str {w:World} {ops:Array Oper} {rest:List Oper} {o:Oper} {a:Act} {Q:Exit→Act→World→Prop} (hgd:o.guard=none) (s x:Operand)
   (ho:o.op=.call { callee:=.builtin .append,args:=#[s,x],argTypes:=#[98,98] })
   (base:Nat) (v:Value) (l:List ByteArray) (hs:a.eval s=v) (hown:ownsS w base v l)
   (ad:Addr) (c:Nat) (hx:a.eval x=.slice (some ad) 1 c) (d:ByteArray) (hcell:w.cell? (ad.add 0)=some (.string d))
   (hlen:l.length+1≤8796093022208) (hbase:base≤w.heap.size)
   (h:∀ g cap w',ownsS w' base (.slice (some ⟨g,0,none⟩) (l.length+1) cap) (l++[d])→w.grownBy w' v.ownBlock→wpList Tryz.prog ops Q rest (a.put o.dst (.slice (some ⟨g,0,none⟩) (l.length+1) cap)) w'):wpList Tryz.prog ops Q (o::rest) a w:=by
 obtain ⟨i0,hi,hz0,hz1,hz2⟩:=info_parts info_str;refine wpList_append_lies w hgd s x 98 ho base 9 i0 (.string ⟨#[]⟩) 1 16 Tryz.underlying98 hi hz0 hz1 hz2 rfl (by decide) v l.length (l.map Value.string) hs hown ad 1 c [.string d] hx rfl ?_ ?_ (by decide) (by unfold maxLen;omega) (by omega) hbase _ rfl ?_
 · intro j u hj
   match j,hj with
   | 0,hj=>simp at hj;subst hj;exact hcell
 · intro u hu;simp at hu;subst hu;rfl
 · intro g cap w' h1 h2 _ _;refine h g cap w' ?_ h2;unfold ownsS;rw [List.length_append,List.map_append];exact h1
end Go.Proofs.YtgfinhehgfbdgaaGreatDoor
namespace Go.Proofs.YtgfinhehgfbdgaaGreatDoor
open Go.RowKit
def bitsF:Nat→Nat→Nat
 | 0,_=>0
 | f+1,n=>if n=0 then 0 else bitsF f (n / 2)+1
theorem bitsF_zero (f:Nat):bitsF f 0=0:=by cases f <;> simp [bitsF]
theorem bitsF_more (f:Nat):∀ n k,n<2 ^ f→bitsF (f+k) n=bitsF f n:=by
 induction f with
 | zero => intro n k h; have : n = 0 := by simpa using h
           subst this;rw [bitsF_zero,bitsF_zero]
 | succ f ih =>
   intro n k h;rw [show f+1+k=(f+k)+1 by omega,bitsF,bitsF];by_cases h0:n=0
   · rw [if_pos h0,if_pos h0]
   · rw [if_neg h0,if_neg h0,ih (n / 2) k (by rw [Nat.pow_succ] at h;omega)]
theorem bitsF_shift (f:Nat):∀ c n,2 ^ c≤n→bitsF (f+c) n=c+bitsF f (n / 2 ^ c):=by
 intro c
 induction c with
 | zero=>intro n _;simp
 | succ c ih =>
   intro n h;rw [Nat.pow_succ] at h;have h0:n≠0:=by have:=Nat.two_pow_pos c;omega
   rw [show f+(c+1)=(f+c)+1 by omega,bitsF,if_neg h0,ih (n / 2) (by omega),Nat.div_div_eq_div_mul,Nat.pow_succ,Nat.mul_comm 2];omega
theorem bitsF_le (f:Nat):∀ n,bitsF f n≤f:=by
 induction f with
 | zero=>intro n;simp [bitsF]
 | succ f ih => intro n; rw [bitsF]; split
                · omega
                · have:=ih (n / 2);omega
def bitsN (n:Nat):Nat:=bitsF 64 n
theorem bitsN_low {n:Nat} (h:n<256):bitsN n=bitsF 8 n:=bitsF_more 8 n 56 (by omega)
theorem bitsN_shift {n:Nat} (c f:Nat) (hc:8+f+c=64) (h:2 ^ c≤n) (hx:n / 2 ^ c<256):bitsN n=c+bitsF 8 (n / 2 ^ c):=by
 unfold bitsN;rw [←hc,bitsF_shift (8+f) c n h,bitsF_more 8 _ f (by omega)]
def LTabIs (T : ByteArray) : Prop := ∀ x, x < 256 → ∃ h : x < T.size, (T[x]'h).toNat = bitsF 8 x
theorem LTabIs.at {T : ByteArray} (H : LTabIs T) {n : Int} (x : Nat) (e : n.toNat = x) (hx : x < 256) (h : n.toNat < T.size) : (T[n.toNat]'h).toNat = bitsF 8 x := by
 obtain ⟨_,h2⟩:=H n.toNat (by omega);rw [h2,e]
theorem len_ret {a b:Int} {t c N:Nat} (ht:t=N) (hN:N≤8) (hc:c≤56) (ha:a=wrap64 ((c:Int)+wrap64 (t:Int))) (hb:b=((c+N:Nat):Int)):Ending.returned (.int .i64 a)=.returned (.int .i64 b):=by
 subst ht;rw [ha,hb,IntWalk.wrap64_in (t:Int) ⟨by omega,by omega⟩,IntWalk.wrap64_in _ ⟨by omega,by omega⟩]
 rfl
set_option maxRecDepth 100000 in
set_option maxHeartbeats 2000000 in
theorem len64_any (n:Int) (w:World) (h0:0≤n) (h1:n≤18446744073709551615) :
   Calls Tryz.prog 81 #[.int .u64 n] w fun e w'=>e=.returned (.int .i64 (bitsN n.toNat))∧w=w':=by
 go_enter Tryz.func81,Tryz.ntmps81
 generalize hT:ByteArray.mk _=T;have H1:LTabIs T:=by
   subst hT;show ∀ x,x<256→_
   decide +kernel
 have hsz:(255:Int)<(T.size:Int):=by
   obtain ⟨h,_⟩:=H1 255 (by decide);omega
 clear hT;have H2:=Lib.hid H1;clear H1;go_wp2
 · go_ret;exact ⟨len_ret (c:=56) (H2.out.at (n.toNat / 2 ^ 56) (by omega) (by omega) (by omega)) (bitsF_le 8 _) (by omega) rfl (by rw [bitsN_shift 56 0 (by omega) (by omega) (by omega)]),rfl⟩
 · go_ret;exact ⟨len_ret (c:=48) (H2.out.at (n.toNat / 2 ^ 48) (by omega) (by omega) (by omega)) (bitsF_le 8 _) (by omega) rfl (by rw [bitsN_shift 48 8 (by omega) (by omega) (by omega)]),rfl⟩
 · go_ret;exact ⟨len_ret (c:=40) (H2.out.at (n.toNat / 2 ^ 40) (by omega) (by omega) (by omega)) (bitsF_le 8 _) (by omega) rfl (by rw [bitsN_shift 40 16 (by omega) (by omega) (by omega)]),rfl⟩
 · go_ret;exact ⟨len_ret (c:=32) (H2.out.at (n.toNat / 2 ^ 32) (by omega) (by omega) (by omega)) (bitsF_le 8 _) (by omega) rfl (by rw [bitsN_shift 32 24 (by omega) (by omega) (by omega)]),rfl⟩
 · go_ret;exact ⟨len_ret (c:=24) (H2.out.at (n.toNat / 2 ^ 24) (by omega) (by omega) (by omega)) (bitsF_le 8 _) (by omega) rfl (by rw [bitsN_shift 24 32 (by omega) (by omega) (by omega)]),rfl⟩
 · go_ret;exact ⟨len_ret (c:=16) (H2.out.at (n.toNat / 2 ^ 16) (by omega) (by omega) (by omega)) (bitsF_le 8 _) (by omega) rfl (by rw [bitsN_shift 16 40 (by omega) (by omega) (by omega)]),rfl⟩
 · go_ret;exact ⟨len_ret (c:=8) (H2.out.at (n.toNat / 2 ^ 8) (by omega) (by omega) (by omega)) (bitsF_le 8 _) (by omega) rfl (by rw [bitsN_shift 8 48 (by omega) (by omega) (by omega)]),rfl⟩
 · go_ret;exact ⟨len_ret (c:=0) (H2.out.at n.toNat rfl (by omega) (by omega)) (bitsF_le 8 _) (by omega) (by rw [Int.natCast_zero,Int.zero_add]) (by rw [bitsN_low (by omega),Nat.zero_add]),rfl⟩
end Go.Proofs.YtgfinhehgfbdgaaGreatDoor
namespace Go.Proofs.YtgfinhehgfbdgaaGreatDoor
open Go.RowKit
theorem good_any (w:World):Calls Tryz.prog 78 #[] w fun e w'=>e=.returned (.agg #[.int .i64 0,.int .i64 (-1)])∧Below w.heap.size w w':=by
 go_enter Tryz.func78,Tryz.ntmps78
 go_wp2;refine bodyPost_ret (v:=.agg #[.int .i64 0,.int .i64 (-1)]) (by simp [results,Tryz.results78,go_sem]) rfl ?_;exact ⟨rfl,(Below.refl _ _).alloc (Nat.le_refl _) _⟩
theorem is_any (e pl:Int) (w:World):Calls Tryz.prog 37 #[.agg #[.int .i64 e,.int .i64 pl]] w fun r w'=>r=.returned (.bool (e == 0))∧Below w.heap.size w w':=by
 go_enter Tryz.func37,Tryz.ntmps37
 go_wp2;go_ret;exact ⟨rfl,(Below.refl _ _).alloc (Nat.le_refl _) _⟩
def faultV (r:Nat×Int):Value:=.agg #[.int .i64 (r.1:Nat),.int .i64 r.2]
end Go.Proofs.YtgfinhehgfbdgaaGreatDoor
namespace Go.Proofs.YtgfinhehgfbdgaaGreatDoor
theorem x4 (a b c d:Nat):(a ^^^ b) ^^^ (c ^^^ d)=(a ^^^ c) ^^^ (b ^^^ d):=by
 rw [Nat.xor_assoc,Nat.xor_assoc,←Nat.xor_assoc b,Nat.xor_comm b c,Nat.xor_assoc c]
def st (x:Nat):Nat:=if x % 2=1 then x / 2 ^^^ 2197175160 else x / 2
def stn:Nat→Nat→Nat
 | 0,x=>x
 | k+1,x=>st (stn k x)
def pass (x:Nat):Nat:=stn 8 x
theorem st_odd {x:Nat} (h:x % 2=1):st x=x / 2 ^^^ 2197175160:=if_pos h
theorem st_even {x:Nat} (h:x % 2≠1):st x=x / 2:=if_neg h
theorem st_xor (a b:Nat):st (a ^^^ b)=st a ^^^ st b:=by
 have hp:(a ^^^ b) % 2=1↔¬(a % 2=1↔b % 2=1):=Nat.xor_mod_two_eq_one;by_cases ha:a % 2=1 <;> by_cases hb:b % 2=1
 · rw [st_even (by rw [Ne,hp];simp [ha,hb]),st_odd ha,st_odd hb,Nat.xor_div_two,x4,Nat.xor_self,Nat.xor_zero]
 · rw [st_odd (hp.2 (by simp [ha,hb])),st_odd ha,st_even hb,Nat.xor_div_two,Nat.xor_assoc,Nat.xor_assoc,Nat.xor_comm 2197175160]
 · rw [st_odd (hp.2 (by simp [ha,hb])),st_even ha,st_odd hb,Nat.xor_div_two,Nat.xor_assoc]
 · rw [st_even (by rw [Ne,hp];simp [ha,hb]),st_even ha,st_even hb,Nat.xor_div_two]
theorem st_lt {x:Nat} (h:x<4294967296):st x<4294967296:=by
 have h2:x / 2<2 ^ 32:=by omega
 by_cases hx:x % 2=1
 · rw [st_odd hx];exact Nat.xor_lt_two_pow (n:=32) h2 (by decide)
 · rw [st_even hx];omega
theorem stn_succ (k x:Nat):stn (k+1) x=st (stn k x):=rfl
theorem stn_add (a b x:Nat):stn (a+b) x=stn a (stn b x):=by
 induction a with
 | zero=>rw [Nat.zero_add];rfl
 | succ a ih=>rw [Nat.succ_add,stn_succ,ih,stn_succ]
theorem stn_st (k x:Nat):stn k (st x)=stn (k+1) x:=(stn_add k 1 x).symm
theorem stn_xor (k a b:Nat):stn k (a ^^^ b)=stn k a ^^^ stn k b:=by
 induction k with
 | zero=>rfl
 | succ k ih=>rw [stn_succ,ih,st_xor];rfl
theorem stn_lt (k:Nat) {x:Nat} (h:x<4294967296):stn k x<4294967296:=by
 induction k with
 | zero=>exact h
 | succ k ih=>exact st_lt ih
theorem xlt {a b:Nat} (ha:a<4294967296) (hb:b<4294967296):a ^^^ b<4294967296:=Nat.xor_lt_two_pow (n:=32) ha hb
theorem pass_lt {x:Nat} (h:x<4294967296):pass x<4294967296:=stn_lt 8 h
def run (c:Nat):List UInt8→Nat
 | []=>c
 | b::r=>run (pass (c ^^^ b.toNat)) r
theorem byte_lt (b:UInt8):b.toNat<4294967296:=by have:=b.toNat_lt;omega
theorem run_append (l r:List UInt8):∀ c,run c (l++r)=run (run c l) r:=by
 induction l with
 | nil=>intro c;rfl
 | cons b l ih=>intro c;exact ih _
theorem run_snoc (c:Nat) (l:List UInt8) (b:UInt8):run c (l++[b])=pass (run c l ^^^ b.toNat):=run_append l [b] c
theorem run_lt (l:List UInt8):∀ {c},c<4294967296→run c l<4294967296:=by
 induction l with
 | nil=>intro c h;exact h
 | cons b l ih=>intro c h;exact ih (pass_lt (xlt h (byte_lt b)))
theorem run_take (c:Nat) (l:List UInt8) (k:Nat) (h:k<l.length):run c (l.take (k+1))=pass (run c (l.take k) ^^^ l[k].toNat):=by
 rw [List.take_succ_eq_append_getElem h,run_snoc]
def inv (x:Nat):Nat:=x ^^^ 4294967295
theorem inv_lt {x:Nat} (h:x<4294967296):inv x<4294967296:=xlt h (by decide)
def more (c:Nat) (l:List UInt8):Nat:=inv (run (inv c) l)
def sum (l:List UInt8):Nat:=more 0 l
theorem more_lt {c:Nat} (l:List UInt8) (h:c<4294967296):more c l<4294967296:=inv_lt (run_lt l (inv_lt h))
theorem sum_lt (l:List UInt8):sum l<4294967296:=more_lt l (by decide)
def tail4 (n:Nat):List UInt8:=[UInt8.ofNat n,UInt8.ofNat (n / 256),UInt8.ofNat (n / 65536),UInt8.ofNat (n / 16777216)]
def sealL (l:List UInt8):List UInt8:=l++tail4 (sum l)
def openL (l:List UInt8):List UInt8×Nat :=
 if l.length<4 then ([],7) else if l.drop (l.length-4)=tail4 (sum (l.take (l.length-4))) then (l.take (l.length-4),0) else ([],15)
def val:List UInt8→Nat
 | []=>0
 | b::r=>b.toNat ^^^ 256 * val r
theorem st_two (y:Nat):st (2 * y)=y:=by rw [st_even (by omega)];omega
theorem stn_pow (k:Nat):∀ y,stn k (y * 2 ^ k)=y:=by
 induction k with
 | zero=>intro y;exact Nat.mul_one y
 | succ k ih=>intro y;rw [←stn_st,Nat.pow_succ,←Nat.mul_assoc,Nat.mul_comm _ 2,st_two,ih]
theorem run_val (l:List UInt8):∀ c,run c l=stn (8 * l.length) (c ^^^ val l):=by
 induction l with
 | nil=>intro c;exact (Nat.xor_zero c).symm
 | cons b l ih =>
   intro c;show run (stn 8 (c ^^^ b.toNat)) l=_
   rw [ih,List.length_cons,Nat.mul_succ,stn_add]
   congr 1
   show _=stn 8 (c ^^^ (b.toNat ^^^ 256 * val l))
   rw [←Nat.xor_assoc,stn_xor 8 _ (256 * val l),Nat.mul_comm 256,show 256=2 ^ 8 by decide,stn_pow]
theorem xor_byte (b y:Nat) (hb:b<256):b ^^^ 256 * y=b+256 * y:=by
 have h1:(b ^^^ 256 * y) % 2 ^ 8=b:=by rw [Nat.xor_mod_two_pow];simp [show 256 * y % 2 ^ 8=0 by omega];omega
 have h2:(b ^^^ 256 * y) / 2 ^ 8=y:=by rw [Nat.xor_div_two_pow];simp [show b / 2 ^ 8=0 by omega]
 omega
theorem val_cons (b:UInt8) (l:List UInt8):val (b::l)=b.toNat+256 * val l:=xor_byte _ _ b.toNat_lt
theorem val_lt (l:List UInt8):val l<2 ^ (8 * l.length):=by
 induction l with
 | nil=>decide
 | cons b l ih =>
   have:=b.toNat_lt;rw [val_cons,List.length_cons,Nat.mul_succ,Nat.pow_add];omega
def bs (c E:Nat):Nat→Nat
 | 0=>c
 | k+1=>st (bs c E k ^^^ E / 2 ^ k % 2)
theorem half_split (x:Nat):x=x % 2 ^^^ 2 * (x / 2):=by
 refine Nat.eq_of_testBit_eq fun i=>?_
 rw [Nat.testBit_xor];have h1:(x % 2).testBit i=(decide (i<1) && x.testBit i):=by rw [show x % 2=x % 2 ^ 1 by rw [Nat.pow_one],Nat.testBit_mod_two_pow]
 have h2:(2 * (x / 2)).testBit i=(decide (1≤i) && x.testBit i):=by
   rw [show 2 * (x / 2)=2 ^ 1 * (x / 2 ^ 1) by rw [Nat.pow_one],Nat.testBit_two_pow_mul,Nat.testBit_div_two_pow];by_cases hi:1≤i
   · simp [hi]
   · simp [hi]
 rw [h1,h2];by_cases hi:1≤i
 · simp [hi,show ¬ i<1 by omega]
 · simp [hi,show i<1 by omega]
theorem bs_closed (c E k:Nat):bs c E k ^^^ E / 2 ^ k=stn k (c ^^^ E):=by
 induction k with
 | zero=>show c ^^^ E / 1=_;rw [Nat.div_one];rfl
 | succ k ih =>
   rw [stn_succ,←ih];have h:E / 2 ^ k=E / 2 ^ k % 2 ^^^ 2 * (E / 2 ^ (k+1)):=by
     rw [Nat.pow_succ,←Nat.div_div_eq_div_mul];exact half_split _
   conv=>rhs;rw [h]
   rw [←Nat.xor_assoc,st_xor _ (2 * _),st_two];rfl
theorem bs_run (c:Nat) (l:List UInt8):bs c (val l) (8 * l.length)=run c l:=by
 have:=bs_closed c (val l) (8 * l.length);rw [Nat.div_eq_of_lt (val_lt l),Nat.xor_zero,←run_val] at this;exact this
theorem bs_lt {c:Nat} (E k:Nat) (h:c<4294967296):bs c E k<4294967296:=by
 induction k with
 | zero=>exact h
 | succ k ih=>exact st_lt (xlt ih (by omega))
theorem val_bit (l:List UInt8):∀ (j r:Nat) (h:j<l.length),r<8→val l / 2 ^ (8 * j+r) % 2=l[j].toNat / 2 ^ r % 2:=by
 induction l with
 | nil=>intro j r h;simp at h
 | cons b l ih =>
   intro j r h hr;rw [val_cons];have hb:=b.toNat_lt;cases j with
   | zero =>
     rw [Nat.mul_zero,Nat.zero_add,List.getElem_cons_zero];rw [show 256 * val l=2 ^ r * (2 ^ (8-r) * val l) by rw [←Nat.mul_assoc,←Nat.pow_add,show r+(8-r)=8 by omega]];rw [Nat.add_mul_div_left _ _ (Nat.two_pow_pos r),show 8-r=(7-r)+1 by omega,Nat.pow_succ,Nat.mul_comm _ 2,Nat.mul_assoc];omega
   | succ j =>
     rw [List.getElem_cons_succ,←ih j r (by simpa using h) hr,Nat.mul_succ,show 8 * j+8+r=8+(8 * j+r) by omega,Nat.pow_add,←Nat.div_div_eq_div_mul]
     congr 2
     omega
end Go.Proofs.YtgfinhehgfbdgaaGreatDoor
namespace Go.Proofs.YtgfinhehgfbdgaaGreatDoor
open Go.Maps
def keyL (s:ByteArray):Lit:=.string s.data.toList
theorem keyL_inj {a b:ByteArray} (h:keyL a=keyL b):a=b:=by
 unfold keyL at h;cases a;cases b
 simpa using h
theorem keyL_key (s:ByteArray):WideAt.IsKeyLit (keyL s):=trivial
theorem keyN (k:Int):WideAt.IsKeyLit (.int .i64 k):=trivial
structure NumM (D:DataW Unit) (t:List ByteArray):Prop where
 isMap:IsMap D
 nodup:t.Nodup
 there:∀ s,s∈t→has D (keyL s)=true
 none:∀ s,s ∉ t→has D (keyL s)=false
 at':∀ s (j:Nat),t[j]? = some s→D.atKey (keyL s) (.lit (.int .i64 0))=.lit (.int .i64 j)
theorem numM_nil:NumM (.map []) []:=⟨isMap_empty,List.nodup_nil,fun _ h=>(by cases h),fun _ _=>rfl,fun _ _ h=>(by simp at h)⟩
theorem NumM.put {D:DataW Unit} {t:List ByteArray} (h:NumM D t) {s:ByteArray} (hs:s ∉ t):NumM (D.put (keyL s) (.lit (.int .i64 t.length))) (t++[s]):=by
 refine ⟨h.isMap.put _ _,?_,?_,?_,?_⟩
 · rw [List.nodup_append];exact ⟨h.nodup,by simp,fun a ha b hb=>by simp at hb;subst hb;rintro rfl;exact hs ha⟩
 · intro x hx;rcases List.mem_append.1 hx with hx | hx
   · rw [has_put_other (fun e=>hs (by rw [←keyL_inj e];exact hx))];exact h.there x hx
   · simp at hx;subst hx;exact has_put_same h.isMap (keyL_key _) _
 · intro x hx;have h1:x ∉ t:=fun h=>hx (List.mem_append_left _ h)
   have h2:x≠s:=fun e=>hx (by rw [e];simp)
   rw [has_put_other (fun e=>h2 (keyL_inj e))];exact h.none x h1
 · intro x j hj;by_cases hlt:j<t.length
   · rw [List.getElem?_append_left hlt] at hj;have hx:x∈t:=List.mem_of_getElem? hj;rw [atKey_put_other (fun e=>hs (by rw [←keyL_inj e];exact hx))];exact h.at' x j hj
   · rw [List.getElem?_append_right (by omega)] at hj;have hj0:j-t.length=0:=by have:=(List.getElem?_eq_some_iff.1 hj).1;simpa using this
     rw [hj0] at hj;simp at hj
     subst hj;rw [atKey_put_same h.isMap (keyL_key _)];rw [show j=t.length by omega]
structure SetM (D:DataW Unit) (t:List ByteArray):Prop where
 isMap:IsMap D
 there:∀ s,s∈t→D.atKey (keyL s) (.lit (.bool false))=.lit (.bool true)
 none:∀ s,s ∉ t→D.atKey (keyL s) (.lit (.bool false))=.lit (.bool false)
theorem setM_nil:SetM (.map []) []:=⟨isMap_empty,fun _ h=>(by cases h),fun _ _=>rfl⟩
theorem SetM.put {D:DataW Unit} {t:List ByteArray} (h:SetM D t) (s:ByteArray):SetM (D.put (keyL s) (.lit (.bool true))) (t++[s]):=by
 refine ⟨h.isMap.put _ _,?_,?_⟩
 · intro x hx;by_cases e:x=s
   · subst e;rw [atKey_put_same h.isMap (keyL_key _)]
   · rw [atKey_put_other (fun h=>e (keyL_inj h))];rcases List.mem_append.1 hx with hx | hx
     · exact h.there x hx
     · simp at hx;exact absurd hx e
 · intro x hx;have h1:x ∉ t:=fun h=>hx (List.mem_append_left _ h)
   have h2:x≠s:=fun e=>hx (by rw [e];simp)
   rw [atKey_put_other (fun e=>h2 (keyL_inj e))];exact h.none x h1
structure ToldM (D:DataW Unit) (m:Nat):Prop where
 tidy:Tidy D
 size:Maps.size D=m
 below:∀ j:Nat,has D (.int .i64 j)=decide (j<m)
theorem toldM_nil:ToldM (.map []) 0:=⟨tidy_empty,rfl,fun _=>rfl⟩
theorem ToldM.old {D:DataW Unit} {m j:Nat} (h:ToldM D m) (hj:j<m):ToldM (D.put (.int .i64 j) (.lit (.bool true))) m:=by
 refine ⟨h.tidy.put (keyN _) _,?_,?_⟩
 · rw [size_put h.tidy,h.below j,if_pos (by simpa using hj),h.size]
 · intro i;by_cases e:i=j
   · subst e;rw [has_put_same h.tidy.isMap (keyN _)];simp [hj]
   · rw [has_put_other (by simp;omega)];exact h.below i
theorem ToldM.new {D:DataW Unit} {m:Nat} (h:ToldM D m):ToldM (D.put (.int .i64 m) (.lit (.bool true))) (m+1):=by
 refine ⟨h.tidy.put (keyN _) _,?_,?_⟩
 · rw [size_put h.tidy,h.below m,if_neg (by simp),h.size]
 · intro i;by_cases e:i=m
   · subst e;rw [has_put_same h.tidy.isMap (keyN _)];simp
   · rw [has_put_other (by simp;omega),h.below i];by_cases h1:i<m
     · simp [h1];omega
     · simp [h1];omega
theorem plainElem_bool_inv {H:Type} {P:Program} {e:TypeId} (he:P.underlying e=some .bool) {v:Value} {z:DataW H×List MemPlace} (h:plainElem P e v=some z):∃ x,v=.bool x∧z=(.lit (.bool x),[]):=by
 unfold plainElem at h;rw [he] at h;cases v <;> simp at h
 exact ⟨_,rfl,h.symm⟩
theorem plainElem_str_inv {H:Type} {P:Program} {e:TypeId} (he:P.underlying e=some .string) {v:Value} {z:DataW H×List MemPlace} (h:plainElem P e v=some z):∃ s:ByteArray,v=.string s∧z=(.lit (.string s.data.toList),[]):=by
 unfold plainElem at h;rw [he] at h;cases v <;> simp at h
 exact ⟨_,rfl,h.2.symm⟩
theorem wpList_lookup_own_is {H:Type} {P:Program} (w:World) {ops:Array Oper} {rest:List Oper} {o:Oper} {a:Act} {Q:Exit→Act→World→Prop}
   (hg:o.guard=none) (m x:Operand) (t:TypeId) (hop:o.op=Op.lookup t m x false)
   (k e:TypeId) (K:Keyed P k) (ht:P.underlying t=some (.map k e)) (R:Value→Option (DataW H×List MemPlace)) {z:Value} (hz:(zeroValue e).run P w=.ok z w) (zd:DataW H) (zp:List MemPlace) (hzd:R z=some (zd,zp)) (b n:Nat) (D:DataW H)
   (hm:a.eval m=.map (some b)) (hown:w.ownsMap P k R b n D) (key:Value) (kl:Lit) (hx:a.eval x=key) (hkey:keyOf P k key=some kl) (val:Value) (hval:∀ v ps,R v=some (D.atKey kl zd,ps)→v=val)
   (hK:wpList P ops Q rest (a.put o.dst val) w) :
   wpList P ops Q (o::rest) a w:=by
 refine wpList_plain hg fun K' hK'=>?_
 obtain ⟨v,ps,hrun,hv⟩:=hown.lookup K ht hz hzd hkey;unfold Oper.wp;simp [execOp,hop,hm,hx,hrun,Result.andThen]
 rw [hval v ps hv];exact hK' _ _ hK
end Go.Proofs.YtgfinhehgfbdgaaGreatDoor
namespace Go.Proofs.YtgfinhehgfbdgaaGreatDoor
open Go.RowKit
set_option maxRecDepth 100000 in
theorem throw_any (e pl:Int) (w:World):Calls Tryz.prog 90 #[.int .i64 e,.int .i64 pl] w fun r w'=>r=.panicked [{ v:=.iface 190 (.agg #[.int .i64 e,.int .i64 pl]),recovered:=false }]∧w'=w:=by
 go_enter Tryz.func90,Tryz.ntmps90
 go_wp2;exact ⟨rfl,rfl,rfl⟩
set_option maxRecDepth 100000 in
theorem isThrown (v:Value) (xT:TypeId) (w:World):(Instr.typeAssert (.iface 190 v) xT 190 true).run Tryz.prog w=.ok (.tuple #[v,.bool true]) w:=by
 simp [Instr.typeAssert,run_underlying Tryz.underlying190]
set_option maxRecDepth 100000 in
theorem caught_pan (F:Nat) (e pl x y:Int) (older:List PanicEntry) (w:World) (hF:F<w.heap.size) (h0:w.cell? ⟨F,0,none⟩=some (.int .i64 x)) (h1:w.cell? ⟨F,1,none⟩=some (.int .i64 y)) (z0:w.frozen? ⟨F,0,none⟩=false) (z1:w.frozen? ⟨F,1,none⟩=false) :
   CallsD Tryz.prog 88 #[.pointer (some ⟨F,0,none⟩)] (.panicking ({ v:=.iface 190 (.agg #[.int .i64 e,.int .i64 pl]),recovered:=false }::older)) w fun r u' w' =>
     r=.returned (.tuple #[])∧u'=.panicking ({ v:=.iface 190 (.agg #[.int .i64 e,.int .i64 pl]),recovered:=true }::older)∧w'=((w.setCell ⟨F,0,none⟩ (.int .i64 e)).setCell ⟨F,1,none⟩ (.int .i64 pl)).alloc (.cells #[.int .i64 e,.int .i64 pl] 190):=by
 have iT:=isThrown;refine callsD_of_wpS Tryz.func88 rfl fun c₀ cs hu=>?_
 apply wpS_seq
 apply wpS_region
 simp [wpOpsS,go_sem,recoverD,hu,Tryz.ntmps88,Exit.thenS]
 refine wpS_of_wp ?_;rw [show (#[.pointer (some ⟨F,0,none⟩)]++((Array.replicate 19 undef).setIfInBounds 4 (.iface 190 (.agg #[.int .i64 e,.int .i64 pl]))).setIfInBounds 1 (.iface 190 (.agg #[.int .i64 e,.int .i64 pl])):Array Value)=#[.pointer (some ⟨F,0,none⟩),undef,.iface 190 (.agg #[.int .i64 e,.int .i64 pl]),undef,undef,.iface 190 (.agg #[.int .i64 e,.int .i64 pl]),undef,undef,undef,undef,undef,undef,undef,undef,undef,undef,undef,undef,undef,undef] by kernel_rfl];go_wp2;simp [bodyPostS,results,Tryz.results88]
set_option maxRecDepth 100000 in
theorem caught_idle (p:Value) (w:World) :
   CallsD Tryz.prog 88 #[p] .returning w fun r u' w'=>r=.returned (.tuple #[])∧u'=.returning∧w'=w:=by
 refine callsD_of_wpS Tryz.func88 rfl fun c₀ cs hu=>?_
 apply wpS_seq
 apply wpS_region
 simp [wpOpsS,go_sem,recoverD,hu,Tryz.ntmps88,Exit.thenS]
 refine wpS_of_wp ?_;rw [show (#[p]++((Array.replicate 19 undef).setIfInBounds 4 .nilIface).setIfInBounds 1 .nilIface:Array Value)=#[p,undef,.nilIface,undef,undef,.nilIface,undef,undef,undef,undef,undef,undef,undef,undef,undef,undef,undef,undef,undef,undef] by kernel_rfl];go_wp2;cases c₀
 simp_all [bodyPostS,results,Tryz.results88]
end Go.Proofs.YtgfinhehgfbdgaaGreatDoor
namespace Go.Proofs.YtgfinhehgfbdgaaGreatDoor
open Go
theorem count_down {L:Array Bool} {i:Nat} (h:L.getD i true=false):(L.setIfInBounds i true).toList.count false+1≤L.toList.count false∧i<L.size:=by
 have hi:i<L.size:=by
   rcases Nat.lt_or_ge i L.size with h' | h'
   · exact h'
   · simp [Array.getElem?_eq_none h'] at h
 have hv : L.toList[i]'(by simpa using hi) = false := by
   simp [hi] at h
   simpa using h
 refine ⟨?_,hi⟩;rw [Array.toList_setIfInBounds,List.count_set (by simpa using hi),hv];have hpos:0<L.toList.count false:=List.count_pos_iff.2 (by rw [←hv];exact List.getElem_mem _);simp only [beq_self_eq_true,if_true]
 have:(true == false)=false:=rfl;rw [this];simp only [Bool.false_eq_true,if_false]
 omega
section
variable {P:Program} {ops:Array Oper} {Q:Exit→Act→World→Prop} {md:Region.Mode}
theorem ready_none {L:Array Bool} (hs:L.size=ops.size) (hb:∀ (i:Nat) (o:Oper),ops[i]? = some o→∀ e∈o.after,e.on<i) (h:Region.ready md ops L=[]):∀ i,i<ops.size→L.getD i false=true:=by
 intro i
 induction i using Nat.strongRecOn with
 | _ i ih =>
   intro hi;cases hc:L.getD i false with
   | true=>rfl
   | false =>
     have hm:i∈Region.ready md ops L:=mem_ready.2 ⟨by
       have hL:i<L.size:=by omega
       simp [hL] at hc ⊢;exact hc,ops[i],by simp [hi],fun e he _=>by
       have:=hb i ops[i] (by simp [hi]) e he;exact ih e.on this (by omega)⟩
     rw [h] at hm;cases hm
theorem wpAny_law (J:Array Bool→Act→World→Prop) (hb:∀ (i:Nat) (o:Oper),ops[i]? = some o→∀ e∈o.after,e.on<i)
   (hstep:∀ (i:Nat) (o:Oper),ops[i]? = some o→∀ (L:Array Bool) (a:Act) (W:World),L.size=ops.size→(∀ e∈o.after,Region.binds md e=true→L.getD e.on false=true)→L.getD i true=false→J L a W→wpOp P ops Q i (J (L.setIfInBounds i true)) a W)
   (hend:∀ (L:Array Bool) (a:Act) (W:World),(∀ i,i<ops.size→L.getD i false=true)→J L a W→Q .normal a W) :
   ∀ (fuel:Nat) (L:Array Bool) (a:Act) (W:World),L.size=ops.size→L.toList.count false≤fuel→J L a W→wpAny P md ops Q fuel L a W:=by
 intro fuel
 induction fuel with
 | zero =>
   intro L a W hs hc hJ;have hall:∀ i,i<ops.size→L.getD i false=true:=fun i hi=>by
     have hL:i<L.size:=by omega
     have h0:L.toList.count false=0:=by omega
     have hn:=List.count_eq_zero.1 h0;have:L[i]=true:=by
       cases hv:L[i] with
       | true=>rfl
       | false=>exact absurd (by rw [←hv];simp) hn
     simp [hL,this]
   refine ⟨?_,hend L a W hall hJ⟩;cases hr:Region.ready md ops L with
   | nil=>rfl
   | cons j r =>
     have hj:j∈Region.ready md ops L:=by rw [hr];simp
     obtain ⟨h1,_⟩:=mem_ready.1 hj;obtain ⟨h2,h3⟩:=count_down h1;omega
 | succ fuel ih =>
   intro L a W hs hc hJ;refine ⟨fun hr=>hend L a W (ready_none hs hb hr) hJ,fun i hi=>?_⟩;obtain ⟨hun,o,hoi,hall⟩:=mem_ready.1 hi;obtain ⟨h2,h3⟩:=count_down hun;exact wpOp_mono (fun a' W' hJ'=>ih _ a' W' (by simpa using hs) (by omega) hJ') (hstep i o hoi L a W hs hall hun hJ)
def backB (ops:Array Oper):Bool:=(List.range ops.size).all fun i=>match ops[i]? with | some o=>o.after.all (fun e=>decide (e.on<i)) | none=>true
theorem of_backB (h:backB ops=true):∀ (i:Nat) (o:Oper),ops[i]? = some o→∀ e∈o.after,e.on<i:=by
 intro i o hi e he;have hlt:i<ops.size:=(Array.getElem?_eq_some_iff.1 hi).1;have h1:=List.all_eq_true.1 h i (by simpa using hlt);rw [hi] at h1;have h2:=Array.all_eq_true'.1 h1 e he
 simpa using h2
theorem none_yet (n j:Nat):(Array.replicate n false).getD j false=false:=by
 by_cases h:j<n <;> simp [h]
theorem getD_put {L:Array Bool} {i j:Nat} (h:(L.setIfInBounds i true).getD j false=true):j=i∨L.getD j false=true:=by
 by_cases hij:i=j
 · exact .inl hij.symm
 · right
   simpa [Array.getElem?_setIfInBounds,hij] using h
theorem getD_keep {L:Array Bool} {i j:Nat} (h:L.getD j false=true):(L.setIfInBounds i true).getD j false=true:=by
 by_cases hij:i=j
 · subst hij;have:i<L.size:=by
     rcases Nat.lt_or_ge i L.size with h' | h'
     · exact h'
     · simp [Array.getElem?_eq_none h'] at h
   simp [this]
 · simpa [Array.getElem?_setIfInBounds,hij] using h
end
end Go.Proofs.YtgfinhehgfbdgaaGreatDoor
