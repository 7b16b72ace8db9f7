import Derived.Test.YtdhognaoejiglaaGreatDoorKa06
import Derived.WalkSpells
namespace Go.Proofs.YtdhognaoejiglaaGreatDoor
open Lib (hid)
set_option maxRecDepth 100000
set_option maxHeartbeats 8000000
section
open Go.RowKit
def xy (w:World) (l:List Tok) (e:Ending) (w':World):Prop :=
 ∃ v,e=.returned v∧bC w' w.heap.size v l∧Below w.heap.size w w'
theorem FV (s:ByteArray) (w:World) (hs:s.size≤400000) :
 Calls Tryz.prog 150 #[.string s] w (xy w (toks s.data.toList)):=by
 have HS : Hid (s.size ≤ maxLen) := by have h : s.size ≤ maxLen := by unfold maxLen; omega
                                       exact h
 have hlen:s.data.toList.length=s.size:=(aj s).symm;have HL:=hid hlen;clear hlen;go_enter Tryz.func150,Tryz.ntmps150
 go_wp2
 go_loopw [3,4,5] (fun v fr a wr=>∃ (f fr' a':Nat) (acc:List Tok),fr=.int .i64 fr'∧a=.int .i64 a'∧fr'≤a'∧a'≤s.size∧s.size≤a'+f∧acc.length≤2 * a'∧toks s.data.toList=acc++tks s.data.toList f fr' a'∧bC wr w.heap.size v acc∧Below w.heap.size w wr) (fun _ _ a _=>s.size-(intOf a).toNat)
 case atStart=>exact ⟨s.size,0,0,[],rfl,rfl,Nat.le_refl _,Nat.zero_le _,by omega,by simp,by unfold toks;rw [HL.out];rfl,lJ _ _,Below.refl _ _⟩
 case round =>
  obtain ⟨f,fr,a,acc,rfl,rfl,hfa,ha,hf,hac,heq,hown,hbel⟩:=hrel;have HEQ:=hid heq;have HOWN:=hid hown;have HBEL:=hid hbel;clear heq hown hbel;by_cases hlt:a<s.size
  ·obtain ⟨f,rfl⟩:∃ f',f=f'+1:=⟨f-1,by omega⟩;have hl:a<s.data.toList.length:=by rw [HL.out];exact hlt
   rcases rM s.data.toList a with ⟨hz,_⟩ | ⟨b,n,hfn,_,hb1,hb2,hb3,hn1,hn2,hn3,_⟩
   ·have HR : Hid (j9 (find s.data.toList a) = .tuple #[.int .i64 0, .int .i64 0]) := by
     have h:j9 (find s.data.toList a)=.tuple #[.int .i64 0,.int .i64 0]:=by rw [hz];rfl
     exact h
    have HN:Hid (toks s.data.toList=acc++tks s.data.toList f fr (a+1)):=by
     have h:toks s.data.toList=acc++tks s.data.toList f fr (a+1):=by rw [HEQ.out,vF hl (by rw [hz])]
     exact h
    clear hz hl HEQ;go_wp2_with fail
    refine (rO s a _ HS.out hlt).mono ?_;rintro e w1 ⟨rfl,q1,rfl⟩;rw [HR.out];go_wp2;go_roundw
    case rel=>exact ⟨f,fr,a+1,acc,rfl,by go_num,by omega,by omega,by omega,by omega,HN.out,HOWN.out.drewN _,below_drewN HBEL.out _⟩
    case measure=>simp [intOf];omega
   ·rw [HL.out] at hn3;have HR:Hid (j9 (find s.data.toList a)=.tuple #[.int .i64 b,.int .i64 n]):=by
     have h:j9 (find s.data.toList a)=.tuple #[.int .i64 b,.int .i64 n]:=by rw [hfn];rfl
     exact h
    have hn0:((n:Int) == 0)=false:=by simp;omega
    have hxs:(s.extract fr a).size≤140737488351232:=by rw [ByteArray.size_extract];omega
    have HXS:=hid hxs;obtain ⟨L1,hL1⟩:∃ L1,acc++ownT (s.extract fr a).data.toList=L1:=⟨_,rfl⟩;have hol:(acc++ownT (s.extract fr a).data.toList).length≤2 * a+1:=by
     rw [List.length_append];have:(ownT (s.extract fr a).data.toList).length≤1:=by unfold ownT;split <;> simp
     omega
    rw [hL1] at hol;have HOL:=hid hol;have HN:Hid (toks s.data.toList=(L1++[repT b n])++tks s.data.toList f (a+n) (a+n)):=by
     have h:toks s.data.toList=(L1++[repT b n])++tks s.data.toList f (a+n) (a+n):=by
      rw [HEQ.out,vD hl hfn (by omega),←hL1,gi];simp
     exact h
    have HL1:=hid hL1;clear hL1
    have HAC : Hid (acc.length ≤ 999999) := by have h : acc.length ≤ 999999 := by omega
                                               exact h
    clear hfn hl HEQ hxs hol;have e1:(fr:Int)≤(a:Int):=by omega
    have e2:(a:Int)≤(s.size:Int):=by omega
    go_wp2_with fail
    refine (rO s a _ HS.out hlt).mono ?_;rintro e w1 ⟨rfl,q1,rfl⟩;rw [HR.out];go_wp2_with fail
    refine (tZ _ acc _ w.heap.size (wr.drewN q1) HXS.out HBEL.out.size (HOWN.out.drewN _) HAC.out).mono ?_;rintro r w1 ⟨v1,rfl,ho1,hb1⟩;rw [HL1.out] at ho1;have hb2:Below w.heap.size w w1:=(below_drewN HBEL.out q1).trans hb1;have HB2:=hid hb2;have HO1:=hid ho1;have hz1:=hb2.size;have HOL1:Hid (L1.length+1≤1000000):=by
     have h:L1.length+1≤1000000:=by have:=HOL.out;omega
     exact h
    clear hb1 hb2 ho1 HOWN HBEL;go_wp2_with (at_builtin;refine pP rfl _ _ rfl w.heap.size _ L1 rfl (HO1.out.alloc _) w1.heap.size 1 rfl (repT b n) ?c1 ?c2 ?c3 ?_)
    case c1=>exact jX _ _ _ _
    case c2=>exact HOL1.out
    case c3=>simp;omega
    ·intro g cap w2 ho2 hg2;have HB3:Hid (Below w.heap.size w w2):=(HB2.out.alloc hz1 _).grown hg2 (by simp;omega) (fun g hg=>(HO1.out.lt g hg).1);have HO2:=hid ho2;clear ho2 hg2;go_wp2;go_roundw
     case rel=>exact ⟨f,a+n,a+n,_,by go_num,by go_num,Nat.le_refl _,by omega,by omega,by rw [List.length_append];simp only [List.length_singleton];have:=HOL.out;omega,HN.out,HO2.out,HB3.out⟩
     case measure=>simp [intOf];omega
  ·obtain rfl:a=s.size:=by omega
   have hxs:(s.extract fr s.size).size≤140737488351232:=by rw [ByteArray.size_extract];omega
   have HXS:=hid hxs;have HN:Hid (toks s.data.toList=acc++ownT (s.extract fr s.size).data.toList):=by
    have h:toks s.data.toList=acc++ownT (s.extract fr s.size).data.toList:=by
     rw [HEQ.out,vB (by rw [HL.out];omega),gi]
    exact h
   have HAC : Hid (acc.length ≤ 999999) := by have h : acc.length ≤ 999999 := by omega
                                              exact h
   clear hxs HEQ;go_wp2_with fail
   refine (tZ _ acc _ w.heap.size wr HXS.out HBEL.out.size HOWN.out HAC.out).mono ?_;rintro r w1 ⟨v1,rfl,ho1,hb1⟩;have HO1:=hid ho1;have HB1:Hid (Below w.heap.size w w1):=HBEL.out.trans hb1;clear ho1 hb1;go_wp2;go_ret;exact ⟨_,rfl,by rw [HN.out];exact HO1.out,HB1.out⟩
end
section
open Go.RowKit
theorem jg:(Tryz.prog.info? 38).map (fun i=>(i.zero,i.size,i.bytes))=some (some (.agg #[.int .i64 0,.int .i64 0,.int .i64 0,.string ⟨#[]⟩,.string ⟨#[]⟩,.int .i64 0]),6,64):=by kernel_rfl
instance : Inhabited Wr := ⟨⟨0, 0, 0, ⟨#[]⟩, ⟨#[]⟩, 0⟩⟩
def wrsC (l:List Wr):List Value:=l.flatMap wrC
theorem dG (l:List Wr):(wrsC l).length=l.length * 6:=by
 induction l with
 | nil=>rfl
 | cons t r ih=>simp only [wrsC,List.flatMap_cons,List.length_append,List.length_cons] at ih ⊢;rw [ih];simp [wrC];omega
theorem iy (a b:List Wr):wrsC (a++b)=wrsC a++wrsC b:=by simp [wrsC]
theorem pS (a:Wr):wrsC [a]=wrC a:=by simp [wrsC]
theorem iz (l:List Wr) (i j:Nat) (t:Wr) (h:l[i]? = some t) (hj:j<6):(wrsC l)[i * 6+j]? = (wrC t)[j]? := by
 induction l generalizing i with
 | nil=>simp at h
 | cons u r ih =>
  have hc:wrsC (u::r)=wrC u++wrsC r:=by simp [wrsC]
  have h3:(wrC u).length=6:=rfl;rw [hc];cases i with
  | zero =>
   obtain rfl:u=t:=by simpa using h
   rw [List.getElem?_append_left (by omega)]
   congr 1;omega
  | succ i =>
   rw [List.getElem?_append_right (by omega),h3,show (i+1) * 6+j-6=i * 6+j by omega];exact ih i (by simpa using h)
theorem ix (t:Wr):∀ u∈wrC t,u.oneCell'=true:=by
 intro u hu;simp [wrC] at hu
 rcases hu with rfl | rfl | rfl | rfl | rfl | rfl <;> rfl
theorem pR (l:List Wr):∀ u∈wrsC l,u.oneCell'=true:=by
 intro u hu;obtain ⟨t,_,ht⟩:=List.mem_flatMap.1 hu;exact ix t u ht
theorem ko (l:List Wr) (i:Nat):wrsC (l.take i)=(wrsC l).take (i * 6):=by
 induction l generalizing i with
 | nil=>simp [wrsC]
 | cons u r ih =>
  cases i with
  | zero=>simp [wrsC]
  | succ i =>
   have hc:wrsC (u::r)=wrC u++wrsC r:=by simp [wrsC]
   have h3:(wrC u).length=6:=rfl;rw [List.take_succ_cons,hc,show wrsC (u::r.take i)=wrC u++wrsC (r.take i) by simp [wrsC],ih,List.take_append,h3,List.take_of_length_le (l:=wrC u) (by rw [h3];omega),show (i+1) * 6-6=i * 6 by omega]
theorem x8 (l:List Wr) (i:Nat):wrsC (l.drop i)=(wrsC l).drop (i * 6):=by
 induction l generalizing i with
 | nil=>simp [wrsC]
 | cons u r ih =>
  cases i with
  | zero=>simp [wrsC]
  | succ i =>
   have hc:wrsC (u::r)=wrC u++wrsC r:=by simp [wrsC]
   have h3:(wrC u).length=6:=rfl;rw [List.drop_succ_cons,hc,ih,List.drop_append,h3,show (wrC u).drop ((i+1) * 6)=[] from List.drop_of_length_le (by rw [h3];omega),show (i+1) * 6-6=i * 6 by omega,List.nil_append]
def aq (w:World) (base:Nat) (v:Value) (l:List Wr):Prop:=w.ownsRow base 38 6 v l.length (wrsC l)
theorem fT (w:World) (base:Nat):aq w base (.slice none 0 0) []:=World.ownsRow_nil _ _ _ _
theorem aq.alloc {w:World} {base:Nat} {v:Value} {l:List Wr} (h:aq w base v l) (o:Obj):aq (w.alloc o) base v l:=World.ownsRow.alloc h o
theorem aq.lt {w:World} {base:Nat} {v:Value} {l:List Wr} (h:aq w base v l):∀ k,v.ownBlock=some k→base≤k∧k<w.heap.size:=World.ownsRow.lt h
theorem aq.mono {w:World} {base base':Nat} {v:Value} {l:List Wr} (h:aq w base v l) (hb:base'≤base):aq w base' v l:=by
 obtain ⟨h0,h1⟩:=h;refine ⟨h0,?_⟩;rcases h1 with h1 | ⟨g,cap,cur,hv,hg,r⟩
 ·exact .inl h1
 ·exact .inr ⟨g,cap,cur,hv,Nat.le_trans hb hg,r⟩
theorem aq.below {w w':World} {base:Nat} {v:Value} {l:List Wr} (h:aq w base v l) (hb:Below w.heap.size w w'):aq w' base v l:=by
 refine World.ownsRow.kept h (row:=none) ⟨hb.os,hb.tape,hb.output,hb.size,fun k hk _=>hb.block k hk⟩ ?_;cases hv:v.ownBlock with
 | none=>exact .inl rfl
 | some g=>exact .inr (by simp)
def aD (w:World) (v:Value) (l:List Wr):Prop :=
 (∃ a c,v=.slice a 0 c∧l=[])∨∃ b off c,v=.slice (some ⟨b,off,none⟩) l.length c∧(0<l.length∧l.length≤c)∧b<w.heap.size∧∀ j u,(wrsC l)[j]? = some u→w.cell? ⟨b,off+j,none⟩=some u
theorem aq.is {w:World} {base:Nat} {v:Value} {l:List Wr} (h:aq w base v l):aD w v l:=by
 have hall:=h;have hlt:=h.lt;obtain ⟨h0,h1⟩:=h;rcases h1 with ⟨rfl,hn⟩ | ⟨g,cap,cur,rfl,hb,hh,hc,hm,hs,ht⟩
 ·exact .inl ⟨_,_,rfl,List.length_eq_zero_iff.1 hn⟩
 ·by_cases hz:l.length=0
  ·exact .inl ⟨_,_,by rw [hz],List.length_eq_zero_iff.1 hz⟩
  ·refine .inr ⟨g,0,cap,rfl,⟨by omega,hc⟩,(hlt g rfl).2,fun j u hj=>?_⟩;have hjl:j<l.length * 6:=by rw [←dG];exact (List.getElem?_eq_some_iff.1 hj).1
   rw [Nat.zero_add,World.ownsRow.cellAt hall j hjl];exact hj
theorem aD.below {w w':World} {v:Value} {l:List Wr} (h:aD w v l) (hb:Below w.heap.size w w'):aD w' v l:=by
 rcases h with ⟨a,c,h1,h2⟩ | ⟨b,off,c,h1,h0,h2,h3⟩
 ·exact .inl ⟨a,c,h1,h2⟩
 ·exact .inr ⟨b,off,c,h1,h0,Nat.lt_of_lt_of_le h2 hb.size,fun j u hj=>(hb.cell (p:=⟨b,off+j,none⟩) h2).trans (h3 j u hj)⟩
theorem aD.alloc {w:World} {v:Value} {l:List Wr} (h:aD w v l) (o:Obj):aD (w.alloc o) v l:=h.below ((Below.refl _ _).alloc (Nat.le_refl _) o)
theorem aD.drewN {w:World} {v:Value} {l:List Wr} (h:aD w v l) (n:Nat):aD (w.drewN n) v l:=h
theorem aD.form {w:World} {v:Value} {l:List Wr} (h:aD w v l):∃ a c,v=.slice a l.length c∧∀ i t,l[i]? = some t→∃ b off,a=some ⟨b,off,none⟩∧b<w.heap.size ∧
 w.cell? ⟨b,off+i * 6,none⟩=some (.int .i64 t.time)∧w.cell? ⟨b,off+i * 6+1,none⟩=some (.int .i64 t.rep)∧w.cell? ⟨b,off+i * 6+2,none⟩=some (.int .i64 t.kind) ∧
 w.cell? ⟨b,off+i * 6+3,none⟩=some (.string t.key)∧w.cell? ⟨b,off+i * 6+4,none⟩=some (.string t.value)∧w.cell? ⟨b,off+i * 6+5,none⟩=some (.int .i64 t.n):=by
 rcases h with ⟨a,c,rfl,rfl⟩ | ⟨b,off,c,rfl,h0,h2,h3⟩
 ·exact ⟨a,c,rfl,fun i t h=>by simp at h⟩
 ·refine ⟨_,_,rfl,fun i t h=>⟨b,off,rfl,h2,?_,?_,?_,?_,?_,?_⟩⟩
  ·exact h3 _ _ ((iz l i 0 t h (by omega)).trans rfl)
  ·exact h3 _ _ ((iz l i 1 t h (by omega)).trans rfl)
  ·exact h3 _ _ ((iz l i 2 t h (by omega)).trans rfl)
  ·exact h3 _ _ ((iz l i 3 t h (by omega)).trans rfl)
  ·exact h3 _ _ ((iz l i 4 t h (by omega)).trans rfl)
  ·exact h3 _ _ ((iz l i 5 t h (by omega)).trans rfl)
def di (w:World) (B:Nat) (t:Wr):Prop:=w.heap[B]? = some (.cells (wrC t).toArray 38 (0,0))
theorem mP {w:World} {ops:Array Oper} {rest:List Oper} {o:Oper} {a:Act} {Q:Exit→Act→World→Prop} (hgd:o.guard=none) (s x:Operand)
 (ho:o.op=.call { callee:=.builtin .append,args:=#[s,x],argTypes:=#[30,30] })
 (base:Nat) (v:Value) (l:List Wr) (hs:a.eval s=v) (hown:aq w base v l)
 (B c:Nat) (hx:a.eval x=.slice (some ⟨B,0,none⟩) 1 c) (t:Wr) (hcell:di w B t)
 (hlen:l.length+1≤1000000) (hbase:base≤w.heap.size)
 (h:∀ g cap w',aq w' base (.slice (some ⟨g,0,none⟩) (l.length+1) cap) (l++[t])→w.grownBy w' v.ownBlock→wpList Tryz.prog ops Q rest (a.put o.dst (.slice (some ⟨g,0,none⟩) (l.length+1) cap)) w'):wpList Tryz.prog ops Q (o::rest) a w:=by
 obtain ⟨i0,hi,hz0,hz1,hz2⟩:=info_parts jg;refine wpList_append_lies w hgd s x 30 ho base 38 i0 (.agg #[.int .i64 0,.int .i64 0,.int .i64 0,.string ⟨#[]⟩,.string ⟨#[]⟩,.int .i64 0]) 6 64 Tryz.underlying30 hi hz0 hz1 hz2 rfl (by decide) v l.length (wrsC l) hs hown ⟨B,0,none⟩ 1 c (wrC t) hx rfl ?_ (ix t) (by decide) (by unfold maxLen;omega) (by omega) hbase _ rfl ?_
 ·intro j u hj;have hadd:(⟨B,0,none⟩:Addr).add j=⟨B,j,none⟩:=by unfold Addr.add;split <;> simp_all
  rw [hadd,cell_of_row _ _ _ _ _ _ hcell,←hj];simp
 ·intro g cap w' h1 h2 _ _;refine h g cap w' ?_ h2;unfold aq;rw [List.length_append,iy,pS];exact h1
end
section
open Go.RowKit
theorem eR (K:Int) (b:Bool) (w:World) (h:hasV K=b):Calls Tryz.prog 71 #[.int .i64 K] w fun e w'=>e=.returned (.bool b)∧w=w':=by
 subst h;unfold hasV;by_cases h1:K=1
 ·subst h1;go_enter Tryz.func71,Tryz.ntmps71
  go_wp2;go_ret;exact ⟨rfl,rfl⟩
 ·have b1:(K == 1)=false:=by simpa using h1
  rw [decide_eq_false h1,Bool.false_or];go_enter Tryz.func71,Tryz.ntmps71
  go_wp2;go_ret;exact ⟨by first | rfl | (congr 2;rw [Bool.eq_iff_iff];simp),rfl⟩
theorem gW (K:Int) (b:Bool) (w:World) (h:hasN K=b):Calls Tryz.prog 72 #[.int .i64 K] w fun e w'=>e=.returned (.bool b)∧w=w':=by
 subst h;unfold hasN;by_cases h1:K=3
 ·subst h1;go_enter Tryz.func72,Tryz.ntmps72
  go_wp2;go_ret;exact ⟨rfl,rfl⟩
 ·have b1:(K == 3)=false:=by simpa using h1
  rw [decide_eq_false h1,Bool.false_or];go_enter Tryz.func72,Tryz.ntmps72
  go_wp2;go_ret;exact ⟨by first | rfl | (congr 2;rw [Bool.eq_iff_iff];simp),rfl⟩
def wv (T R K:Int) (key val:ByteArray) (N:Int):Value:=.agg #[.int .i64 T,.int .i64 R,.int .i64 K,.string key,.string val,.int .i64 N]
theorem fM (T R K:Int) (key val:ByteArray) (N:Int) (b:Bool) (w:World) (h:cF K N=b) :
 Calls Tryz.prog 73 #[.agg #[.int .i64 T,.int .i64 R,.int .i64 K,.string key,.string val,.int .i64 N]] w fun e w'=>e=.returned (.bool b)∧Below w.heap.size w w':=by
 subst h;unfold cF;by_cases h1:K=3
 ·subst h1;rw [if_pos rfl];by_cases h2 : -1125899906842624≤N
  ·rw [decide_eq_true h2,Bool.true_and];go_enter Tryz.func73,Tryz.ntmps73
   go_wp2;go_ret;exact ⟨by first | rfl | simp,(Below.refl _ _).alloc (Nat.le_refl _) _⟩
  ·rw [decide_eq_false h2,Bool.false_and];have d:=decide_eq_false h2;go_enter Tryz.func73,Tryz.ntmps73
   go_wp2;go_ret;exact ⟨by first | rfl | simp,(Below.refl _ _).alloc (Nat.le_refl _) _⟩
 ·rw [if_neg h1];have b1:(K == 3)=false:=by simpa using h1
  by_cases h3:K=4
  ·subst h3;rw [if_pos rfl];by_cases h2:0≤N
   ·rw [decide_eq_true h2,Bool.true_and];go_enter Tryz.func73,Tryz.ntmps73
    go_wp2;go_ret;exact ⟨by first | rfl | simp,(Below.refl _ _).alloc (Nat.le_refl _) _⟩
   ·rw [decide_eq_false h2,Bool.false_and];have d:=decide_eq_false h2;go_enter Tryz.func73,Tryz.ntmps73
    go_wp2;go_ret;exact ⟨by first | rfl | simp,(Below.refl _ _).alloc (Nat.le_refl _) _⟩
  ·rw [if_neg h3];have b3:(K == 4)=false:=by simpa using h3
   go_enter Tryz.func73,Tryz.ntmps73
   go_wp2;go_ret;exact ⟨rfl,(Below.refl _ _).alloc (Nat.le_refl _) _⟩
def wrAt (w:World) (B:Nat) (T R K:Int) (key val:ByteArray) (N:Int):Prop :=
 w.cell? ⟨B,0,none⟩=some (.int .i64 T)∧w.cell? ⟨B,1,none⟩=some (.int .i64 R)∧w.cell? ⟨B,2,none⟩=some (.int .i64 K)∧w.cell? ⟨B,3,none⟩=some (.string key)∧w.cell? ⟨B,4,none⟩=some (.string val)∧w.cell? ⟨B,5,none⟩=some (.int .i64 N)
theorem wrAt.below {w w':World} {B:Nat} {T R K:Int} {key val:ByteArray} {N:Int} {m:Nat} (h:wrAt w B T R K key val N) (hb:Below m w w') (hm:B<m):wrAt w' B T R K key val N :=
 ⟨(hb.cell hm).trans h.1,(hb.cell hm).trans h.2.1,(hb.cell hm).trans h.2.2.1,(hb.cell hm).trans h.2.2.2.1,(hb.cell hm).trans h.2.2.2.2.1,(hb.cell hm).trans h.2.2.2.2.2⟩
theorem iw (w:World) (T R K:Int) (key val:ByteArray) (N:Int) (t:TypeId):wrAt (w.alloc (.cells #[.int .i64 T,.int .i64 R,.int .i64 K,.string key,.string val,.int .i64 N] t)) w.heap.size T R K key val N:=by
 unfold wrAt;simp
theorem gG (T R K:Int) (key val:ByteArray) (N:Int) (w:World) (hk:key.size≤140737488351232) (hv:val.size≤140737488351232) :
 Calls Tryz.prog 51 #[.agg #[.int .i64 T,.int .i64 R,.int .i64 K,.string key,.string val,.int .i64 N]] w fun e w'=>e=.returned (errV (wriE T R K key val N))∧Below w.heap.size w w':=by
 have HN0:=hid (iw w T R K key val N 38);by_cases hK:K<1∨4<K
 ·rw [Hz hK];by_cases h1:K<1
  ·go_enter Tryz.func51,Tryz.ntmps51
   go_wp2;go_ret;exact ⟨rfl,(Below.refl _ _).alloc (Nat.le_refl _) _⟩
  ·have h2:4<K:=by omega
   go_enter Tryz.func51,Tryz.ntmps51
   go_wp2;go_ret;exact ⟨rfl,(Below.refl _ _).alloc (Nat.le_refl _) _⟩
 ·have h1:¬ K<1:=by omega
  have h2:¬ 4<K:=by omega
  cases hiD:idOk T R with
  | false =>
   rw [Hy hK hiD];go_enter Tryz.func51,Tryz.ntmps51
   go_wp2_with fail
   refine (sC T R false _ hiD).mono ?_;rintro r w1 ⟨rfl,hb1⟩;have HB1:=hid (((Below.refl _ _).alloc (Nat.le_refl _) _).trans (hb1.mono (by simp)));clear hb1;go_wp2;go_ret;exact ⟨rfl,HB1.out⟩
  | true =>
   go_enter Tryz.func51,Tryz.ntmps51
   go_wp2_with fail
   refine (sC T R true _ hiD).mono ?_;rintro r w1 ⟨rfl,hb1⟩;have HA1:=hid (HN0.out.below hb1 (by simp));have HB1:=hid (((Below.refl _ _).alloc (Nat.le_refl _) _).trans (hb1.mono (by simp)));have HL1:Hid (w.heap.size<w1.heap.size):=hid (by have:=hb1.size;simp at this;exact this);have HID:=hid hiD;clear hb1 hiD;obtain ⟨c0,c1,c2,c3,c4,c5⟩:=HA1.out;by_cases hs:40<key.size∨300<val.size
   ·have HW:=hid (I1 (N:=N) hK HID.out hs);by_cases h3:40<key.size
    ·go_wp2;go_ret;rw [HW.out];exact ⟨rfl,HB1.out⟩
    ·have h4:300<val.size:=by omega
     go_wp2;go_ret;rw [HW.out];exact ⟨rfl,HB1.out⟩
   ·have h3:¬ 40<key.size:=by omega
    have h4:¬ 300<val.size:=by omega
    have HW:=hid (I0 (N:=N) hK HID.out hs);clear hK hs;by_cases hve:0<val.size
    ·have b0:¬ val.toList=[]:=by have:=kL hve;simpa using this
     cases hV:hasV K with
     | false =>
      have HR:Hid (wriE T R K key val N=3):=hid (by rw [HW.out,hV];simp [hve]);clear hve;go_wp2_with (go_at_call 71;refine (eR K false _ hV).mono ?_;rintro r w2 ⟨rfl,rfl⟩)
      go_ret;rw [HR.out];exact ⟨rfl,HB1.out⟩
     | true =>
      by_cases hn:N=0
      ·subst hn;cases hF:cF K 0 with
       | true =>
        have HR:Hid (wriE T R K key val 0=0):=hid (by rw [HW.out,hF];simp [hV]);go_wp2_with (first | (go_at_call 71;refine (eR K true _ hV).mono ?_;rintro r w2 ⟨rfl,rfl⟩) | (go_at_call 73;refine (fM T R K key val 0 true _ hF).mono ?_;rintro r w4 ⟨rfl,hb4⟩;have HB4:=hid (HB1.out.trans (hb4.mono (Nat.le_of_lt HL1.out)));clear hb4))
        go_ret;rw [HR.out];exact ⟨rfl,HB4.out⟩
       | false =>
        have HR:Hid (wriE T R K key val 0=2):=hid (by rw [HW.out,hF];simp [hV]);go_wp2_with (first | (go_at_call 71;refine (eR K true _ hV).mono ?_;rintro r w2 ⟨rfl,rfl⟩) | (go_at_call 73;refine (fM T R K key val 0 false _ hF).mono ?_;rintro r w4 ⟨rfl,hb4⟩;have HB4:=hid (HB1.out.trans (hb4.mono (Nat.le_of_lt HL1.out)));clear hb4))
        go_ret;rw [HR.out];exact ⟨rfl,HB4.out⟩
      ·cases hM:hasN K with
       | false =>
        have HR:Hid (wriE T R K key val N=3):=hid (by rw [HW.out,hM];simp [hn]);go_wp2_with (first | (go_at_call 71;refine (eR K true _ hV).mono ?_;rintro r w2 ⟨rfl,rfl⟩) | (go_at_call 72;refine (gW K false _ hM).mono ?_;rintro r w3 ⟨rfl,rfl⟩))
        go_ret;rw [HR.out];exact ⟨rfl,HB1.out⟩
       | true =>
        cases hF:cF K N with
        | true =>
         have HR:Hid (wriE T R K key val N=0):=hid (by rw [HW.out,hF];simp [hV,hM]);go_wp2_with (first | (go_at_call 71;refine (eR K true _ hV).mono ?_;rintro r w2 ⟨rfl,rfl⟩) | (go_at_call 72;refine (gW K true _ hM).mono ?_;rintro r w3 ⟨rfl,rfl⟩) | (go_at_call 73;refine (fM T R K key val N true _ hF).mono ?_;rintro r w4 ⟨rfl,hb4⟩;have HB4:=hid (HB1.out.trans (hb4.mono (Nat.le_of_lt HL1.out)));clear hb4))
         go_ret;rw [HR.out];exact ⟨rfl,HB4.out⟩
        | false =>
         have HR:Hid (wriE T R K key val N=2):=hid (by rw [HW.out,hF];simp [hV,hM]);go_wp2_with (first | (go_at_call 71;refine (eR K true _ hV).mono ?_;rintro r w2 ⟨rfl,rfl⟩) | (go_at_call 72;refine (gW K true _ hM).mono ?_;rintro r w3 ⟨rfl,rfl⟩) | (go_at_call 73;refine (fM T R K key val N false _ hF).mono ?_;rintro r w4 ⟨rfl,hb4⟩;have HB4:=hid (HB1.out.trans (hb4.mono (Nat.le_of_lt HL1.out)));clear hb4))
         go_ret;rw [HR.out];exact ⟨rfl,HB4.out⟩
    ·obtain rfl:=iW hve;have z0:(⟨#[]⟩:ByteArray).size=0:=rfl;by_cases hn:N=0
     ·subst hn;cases hF:cF K 0 with
      | true =>
       have HR:Hid (wriE T R K key ⟨#[]⟩ 0=0):=hid (by rw [HW.out,hF];simp [z0]);go_wp2_with (go_at_call 73;refine (fM T R K key ⟨#[]⟩ 0 true _ hF).mono ?_;rintro r w4 ⟨rfl,hb4⟩;have HB4:=hid (HB1.out.trans (hb4.mono (Nat.le_of_lt HL1.out)));clear hb4)
       go_ret;rw [HR.out];exact ⟨rfl,HB4.out⟩
      | false =>
       have HR:Hid (wriE T R K key ⟨#[]⟩ 0=2):=hid (by rw [HW.out,hF];simp [z0]);go_wp2_with (go_at_call 73;refine (fM T R K key ⟨#[]⟩ 0 false _ hF).mono ?_;rintro r w4 ⟨rfl,hb4⟩;have HB4:=hid (HB1.out.trans (hb4.mono (Nat.le_of_lt HL1.out)));clear hb4)
       go_ret;rw [HR.out];exact ⟨rfl,HB4.out⟩
     ·cases hM:hasN K with
      | false =>
       have HR:Hid (wriE T R K key ⟨#[]⟩ N=3):=hid (by rw [HW.out,hM];simp [hn]);go_wp2_with (first | (go_at_call 72;refine (gW K false _ hM).mono ?_;rintro r w3 ⟨rfl,rfl⟩))
       go_ret;rw [HR.out];exact ⟨rfl,HB1.out⟩
      | true =>
       cases hF:cF K N with
       | true =>
        have HR:Hid (wriE T R K key ⟨#[]⟩ N=0):=hid (by rw [HW.out,hF];simp [hM,z0]);go_wp2_with (first | (go_at_call 72;refine (gW K true _ hM).mono ?_;rintro r w3 ⟨rfl,rfl⟩) | (go_at_call 73;refine (fM T R K key ⟨#[]⟩ N true _ hF).mono ?_;rintro r w4 ⟨rfl,hb4⟩;have HB4:=hid (HB1.out.trans (hb4.mono (Nat.le_of_lt HL1.out)));clear hb4))
        go_ret;rw [HR.out];exact ⟨rfl,HB4.out⟩
       | false =>
        have HR:Hid (wriE T R K key ⟨#[]⟩ N=2):=hid (by rw [HW.out,hF];simp [hM,z0]);go_wp2_with (first | (go_at_call 72;refine (gW K true _ hM).mono ?_;rintro r w3 ⟨rfl,rfl⟩) | (go_at_call 73;refine (fM T R K key ⟨#[]⟩ N false _ hF).mono ?_;rintro r w4 ⟨rfl,hb4⟩;have HB4:=hid (HB1.out.trans (hb4.mono (Nat.le_of_lt HL1.out)));clear hb4))
        go_ret;rw [HR.out];exact ⟨rfl,HB4.out⟩
end
section
structure Cel where
 has:Bool
 text:ByteArray
 sum:Int
 list:List ByteArray
def cel0:Cel:=⟨false,⟨#[]⟩,0,[]⟩
def insL (l:List ByteArray) (n:Int) (v:ByteArray):List ByteArray:=l.take (min n.toNat l.length)++(v::l.drop (min n.toNat l.length))
def co (c:Cel) (w:Wr):Cel :=
 if w.kind=1 then { c with has:=true,text:=w.value }
 else if w.kind=2 then cel0
 else if w.kind=3 then { c with sum:=IntKind.i64.wrap (c.sum+w.n) }
 else if w.kind=4 then { c with list:=insL c.list w.n w.value }
 else c
def live (c:Cel):Bool:=c.has || c.sum != 0 || !c.list.isEmpty
def bA (l:List Wr) (k:ByteArray):Cel:=(l.filter (fun w=>decide (w.key=k))).foldl co cel0
def leB (a b:ByteArray):Bool:=decide (a.data.toList≤b.data.toList)
def hZ (l:List Wr):List ByteArray:=(tabK [] (l.map (·.key))).mergeSort leB
def aY (l:List Wr):List (ByteArray×Cel):=((hZ l).map fun k=>(k,bA l k)).filter fun c=>live c.2
theorem BE (a b c:ByteArray) (h:leB a b=true) (k:leB b c=true):leB a c=true:=by
 unfold leB at *;simp only [decide_eq_true_eq] at *;exact List.le_trans h k
theorem BD (a b:ByteArray):(leB a b || leB b a)=true:=by
 unfold leB;simp only [Bool.or_eq_true,decide_eq_true_eq];exact List.le_total _ _
theorem BB {a b:ByteArray} (h:leB a b=true) (k:leB b a=true):a=b:=by
 unfold leB at *;simp only [decide_eq_true_eq] at *;have e:=List.le_antisymm h k;cases a;cases b;simp_all
theorem sV (l:List Wr):(hZ l).Perm (tabK [] (l.map (·.key))):=List.mergeSort_perm _ _
theorem sU {l:List Wr} {k:ByteArray}:k∈hZ l↔∃ w∈l,w.key=k:=by
 rw [(sV l).mem_iff]
 constructor
 ·intro h;rcases vg _ _ _ h with h | h
  ·cases h
  ·obtain ⟨w,hw,e⟩:=List.mem_map.1 h;exact ⟨w,hw,e⟩
 ·rintro ⟨w,hw,rfl⟩;exact Ff _ _ _ (List.mem_map.2 ⟨w,hw,rfl⟩)
theorem B6 (l:List Wr):(hZ l).Pairwise (fun a b=>leB a b=true):=List.pairwise_mergeSort BE BD _
theorem B4 (l:List Wr):(hZ l).Nodup:=(sV l).nodup_iff.2 (ve _ _ List.nodup_nil)
theorem ET {α:Type} {x y:List (ByteArray×α)} (hx:(x.map (·.1)).Nodup) (hy:(y.map (·.1)).Nodup) (sx:x.Pairwise (fun a b=>leB a.1 b.1=true)) (sy:y.Pairwise (fun a b=>leB a.1 b.1=true)) (h:∀ c,c∈x↔c∈y):x=y:=by
 have nx:x.Nodup:=(List.pairwise_map.1 hx).imp (fun h e=>h (by rw [e]));have ny:y.Nodup:=(List.pairwise_map.1 hy).imp (fun h e=>h (by rw [e]));have hp:x.Perm y:=(List.perm_ext_iff_of_nodup nx ny).2 h;refine List.Perm.eq_of_pairwise (le:=fun a b=>leB a.1 b.1=true) ?_ sx sy hp;intro a b ha hb h1 h2;have e1:=BB h1 h2;have hb':=(h b).2 hb;by_cases e:a=b
 ·exact e
 ·exfalso
  obtain ⟨i,hi,rfl⟩:=List.getElem_of_mem ha;obtain ⟨j,hj,rfl⟩:=List.getElem_of_mem hb';have hi':i<(x.map (·.1)).length:=by simpa using hi
  have hj':j<(x.map (·.1)).length:=by simpa using hj
  have:(x.map (·.1))[i]=(x.map (·.1))[j]:=by simpa using e1
  have hij:i=j:=(List.getElem_inj hx).1 this;subst hij;exact e rfl
theorem qV (l:List Wr):(aY l).map (·.1)=(hZ l).filter fun k=>live (bA l k):=by
 unfold aY;rw [List.filter_map,List.map_map];simp [Function.comp_def]
theorem qW (l:List Wr):((aY l).map (·.1)).Nodup:=by rw [qV];exact (B4 l).filter _
theorem z8 (l:List Wr):(aY l).Pairwise (fun a b=>leB a.1 b.1=true):=by
 unfold aY;exact List.Pairwise.filter _ (List.pairwise_map.2 (B6 l))
theorem iQ {l:List Wr} {k:ByteArray} (h:∀ w∈l,w.key≠k):bA l k=cel0:=by
 unfold bA;rw [List.filter_eq_nil_iff.2 (fun w hw=>by simpa using h w hw)];rfl
theorem nE {l:List Wr} {k:ByteArray} {c:Cel}:(k,c)∈aY l↔bA l k=c∧live c=true:=by
 unfold aY;rw [List.mem_filter,List.mem_map]
 constructor
 ·rintro ⟨⟨k',hk,e⟩,hl⟩;injection e with e1 e2
  subst e1;exact ⟨e2,hl⟩
 ·rintro ⟨rfl,hl⟩;refine ⟨⟨k,?_,rfl⟩,hl⟩;rw [sU];refine Classical.byContradiction fun hn=>?_
  rw [iQ (fun w hw e=>hn ⟨w,hw,e⟩)] at hl;exact absurd hl (by decide)
theorem sG (l:List ByteArray) (n:Int) (v:ByteArray):(insL l n v).Perm (v::l):=by
 unfold insL;refine (List.perm_middle).trans ?_;rw [List.take_append_drop]
end
section
open Go.RowKit
def errC (e:Nat):Value:=if e=0 then .nilIface else .iface 68 (.int .i64 e)
def fS (r:List UInt8×Nat):Value:=.tuple #[.string ⟨r.1.toArray⟩,errC r.2]
theorem j8 (s:ByteArray) (a b:Nat):(s.extract a b).data.toList=(s.data.toList.drop a).take (b-a):=by
 rw [ByteArray.data_extract,Array.toList_extract]
theorem wu {w w':World} (h:Below w.drew.heap.size w.drew w'):Below w.heap.size w w':=((Below.refl _ _).drew).trans h
theorem Fw (s:ByteArray) (k:Nat):(⟨(s.data.toList.take k).toArray⟩:ByteArray)=s.extract 0 k:=by
 apply dl
 rw [j8,List.drop_zero,Nat.sub_zero]
theorem Dc (s:ByteArray) (k:Nat) (hk:s.size=k+4):(s.extract k s.size).toList=s.data.toList.drop (s.data.toList.length-4)∧s.data.toList.length-4=k∧¬ s.data.toList.length<4:=by
 have hl:s.data.toList.length=k+4:=by simpa using hk
 refine ⟨?_,by omega,by omega⟩;rw [toL,j8,hl,show k+4-4=k by omega];apply List.take_of_length_le
 rw [List.length_drop];omega
theorem tQ (s:ByteArray) (w:World) (hs:s.size≤140737488351232) :
 Calls Tryz.prog 154 #[.string s] w fun e w'=>e=.returned (fS (aU s.data.toList))∧Below w.heap.size w w':=by
 by_cases h4:s.size<4
 ·have h:aU s.data.toList=([],7):=by unfold aU;rw [if_pos (by simpa using h4)]
  rw [h];go_enter Tryz.func154,Tryz.ntmps154
  go_wp2;go_ret2;exact ⟨rfl,Below.refl _ _⟩
 ·obtain ⟨k,hk⟩:∃ k,s.size=k+4:=⟨s.size-4,by omega⟩;have e1:(s.size:Int)-4=(k:Int):=by omega
  have e2:(0:Int)≤(k:Int):=by omega
  have e3:(k:Int)≤(s.size:Int):=by omega
  have hk2:k≤s.size:=by omega
  have HZ:Hid ((s.extract 0 k).size≤140737488351232):=by
   have h:(s.extract 0 k).size≤140737488351232:=by simp;omega
   exact h
  obtain ⟨t1,t2,t3⟩:=Dc s k hk;by_cases hq:(s.extract k s.size).toList=dC (sum (s.data.toList.take k))
  ·have HO : Hid (fS (aU s.data.toList) = .tuple #[.string (s.extract 0 k), .nilIface]) := by
    have h:aU s.data.toList=(s.data.toList.take k,0):=by
     unfold aU;rw [if_neg t3,if_pos (by rw [←t1,hq,t2]),t2]
    show fS _=_
    rw [h];unfold fS errC;rw [if_pos rfl,Fw]
   have hb:((s.extract k s.size).toList == dC (sum (s.data.toList.take k)))=true:=beq_iff_eq.2 hq;clear hq t1 t2 t3 hk;go_enter Tryz.func154,Tryz.ntmps154
   go_wp2;go_region_held3 (fun w'=>True) (trivial) (first | (go_at_call 113;refine (pg _ _ (by unfold maxLen;simp;omega)).mono ?_;rintro r w1 ⟨rfl,hb1⟩;have HB:=hid (wu hb1);clear hb1))
   go_wp2_with fail
   refine (ce _ _ HZ.out).mono ?_;rintro r w2 ⟨rfl,hb2⟩;have HB2:Hid (Below w.heap.size w w2):=HB.out.trans (hb2.mono HB.out.size);clear hb2;go_wp2;go_ret2;exact ⟨by rw [HO.out];rfl,HB2.out⟩
  ·have HO : Hid (fS (aU s.data.toList) = .tuple #[.string ⟨#[]⟩, .iface 68 (.int .i64 15)]) := by
    have h:aU s.data.toList=([],15):=by
     unfold aU;rw [if_neg t3,if_neg (by rw [←t1,t2];exact hq)]
    show fS _=_
    rw [h]
    rfl
   have hb:((s.extract k s.size).toList == dC (sum (s.data.toList.take k)))=false:=beq_eq_false_iff_ne.2 hq;clear hq t1 t2 t3 hk;go_enter Tryz.func154,Tryz.ntmps154
   go_wp2;go_region_held3 (fun w'=>True) (trivial) (first | (go_at_call 113;refine (pg _ _ (by unfold maxLen;simp;omega)).mono ?_;rintro r w1 ⟨rfl,hb1⟩;have HB:=hid (wu hb1);clear hb1))
   go_wp2;go_ret2;exact ⟨by rw [HO.out];rfl,HB.out⟩
end
section
theorem zY {t:Tok} (h:fine t) (hs:t.own.size≤140737488351232):(putT t).length≤lenT t+10∧1≤lenT t:=by
 by_cases h0:t.own.size=0
 ·obtain ⟨_,h1,h2⟩:=Ee h h0;omega
 ·rw [lL h0,List.length_append,←aj];have:=aL (n:=2 * t.own.size) (by omega);unfold lenT;omega
theorem zq {l:List Tok} (h:∀ t∈l,fine t∧t.own.size≤140737488351232):cost l≤sumT l+10 * l.length∧l.length≤sumT l:=by
 induction l with
 | nil=>exact ⟨Nat.zero_le _,Nat.le_refl _⟩
 | cons t r ih =>
  obtain ⟨i1,i2⟩:=ih (fun u hu=>h u (List.mem_cons_of_mem _ hu));obtain ⟨h1,h2⟩:=h t (List.mem_cons_self ..);obtain ⟨c1,c2⟩:=zY h1 h2;rw [zo,sumT,List.length_cons];omega
theorem lV {l:List Tok} (h:(am l 0 0).1=0):l.length≤20000∧cost l≤220000∧sumT l≤20000:=by
 have h1:=FE (b:=[]) h rfl (by omega);rw [FF,List.length_nil] at h1;obtain ⟨h2,h3⟩:=zq (oW h);omega
theorem F9 (a b:List Tok):sumT (a++b)=sumT a+sumT b:=by
 induction a with
 | nil=>rw [List.nil_append];exact (Nat.zero_add _).symm
 | cons u r ih=>rw [List.cons_append,sumT,sumT,ih];omega
theorem ur {l:List Tok} (h:(am l 0 0).1=0):∀ t∈l,t.own.size≤20000:=fun t ht=>by
 obtain ⟨i,hi,e⟩:=List.mem_iff_getElem.1 ht;have h2:=lV (Eh h (i+1));rw [List.take_succ_eq_append_getElem hi,e,F9] at h2;have h3:sumT [t]=lenT t:=rfl;have:t.own.size≤lenT t:=by unfold lenT;omega
 omega
theorem zr {l:List Tok} (k:Nat):cost (l.take k)≤cost l:=by
 have h:=zn (l.take k) (l.drop k);rw [List.take_append_drop] at h;omega
theorem I4 (l:List Tok) (k:Nat) (t:Tok) (h:l[k]? = some t):bG (l.take (k+1))=bG (l.take k)++putT t:=by
 obtain ⟨hk,e⟩:=List.getElem?_eq_some_iff.1 h;rw [List.take_succ_eq_append_getElem hk,x5,e,mR,x6,List.append_nil]
end
section
open Go.RowKit
def rowAt (w:World) (g off cap:Nat) (l:List Wr):Prop :=
 (∀ j u,(wrsC l)[j]? = some u→w.cell? ⟨g,off+j,none⟩=some u)∧(∀ j,j<cap * 6→(w.cell? ⟨g,off+j,none⟩).isSome=true∧w.frozen? ⟨g,off+j,none⟩=false)
theorem aq.rowAt {w:World} {base:Nat} {v:Value} {l:List Wr} (h:aq w base v l) (h0:0<l.length) :
 ∃ g cap,v=.slice (some ⟨g,0,none⟩) l.length cap∧base≤g∧g<w.heap.size∧l.length≤cap∧cap≤maxLen∧rowAt w g 0 cap l∧w.shape? g=some (38,cap * 6):=by
 have hall:=h;have hlt:=h.lt;obtain ⟨_,h1⟩:=h;rcases h1 with ⟨rfl,hn⟩ | ⟨g,cap,cur,rfl,hb,hh,hc,hm,hs,ht⟩
 ·omega
 ·refine ⟨g,cap,rfl,hb,(hlt g rfl).2,hc,hm,⟨fun j u hj=>?_,fun j hj=>⟨?_,?_⟩⟩,?_⟩
  ·have hjl:j<l.length * 6:=by rw [←dG];exact (List.getElem?_eq_some_iff.1 hj).1
   rw [Nat.zero_add,World.ownsRow.cellAt hall j hjl];exact hj
  ·rw [Nat.zero_add,cell_of_row _ _ j _ _ (0,0) hh,Array.getElem?_eq_getElem (by rw [hs];exact hj)];rfl
  ·simp [World.frozen?,hh]
  ·simp [World.shape?,hh,hs]
theorem lZ {P:Program} (w:World) (dT sT ty elem:TypeId) (size:Nat) (b o dLen dCap:Nat) (a:Addr) (sLen sCap:Nat) (cs:List Value)
 (hu:P.underlying dT=some (.slice elem)) (hs:(P.info? elem).map (·.size)=some size) (hn:cs.length=Nat.min sLen dLen * size)
 (hsrc:∀ j v,cs[j]? = some v→w.cell? (a.add j)=some v) (hc:∀ j,j<cs.length→(w.cell? ⟨b,o+j,none⟩).isSome=true) (hf:∀ j,j<cs.length→w.frozen? ⟨b,o+j,none⟩=false) (h1:∀ v∈cs,v.oneCell'=true) :
 (Builtin.copy_ #[dT,sT] ty #[.slice (some ⟨b,o,none⟩) dLen dCap,.slice (some a) sLen sCap]).run P w=.ok (goInt (Nat.min sLen dLen)) (w.setCells b o cs):=by
 have hl:=run_loadCells_list (P:=P) w a cs hsrc;have hst:=run_storeCells_cells (P:=P) b o cs 0 w (by simpa using hc) (by simpa using hf) h1;cases hq:P.info? elem with
 | none=>simp [hq] at hs
 | some i =>
  have hi:i.size=size:=by simpa [hq] using hs
  simp [Builtin.copy_,run_underlying hu,Builtin.lenOf,Builtin.firstCells,sizeOf,typeInfo,hq,hi,←hn,hl,hst]
theorem rowAt.drew {w:World} {g off cap:Nat} {l:List Wr} (h:rowAt w g off cap l):rowAt w.drew g off cap l:=h
theorem fH {w wr:World} {base g:Nat} (h:Below base w wr) (hg:base≤g):∀ (vs:List Value) (o:Nat),Below base w (wr.setCells g o vs):=by
 intro vs
 induction vs generalizing wr with
 | nil=>intro o;exact h
 | cons v r ih=>intro o;exact ih (h.setCell hg _) (o+1)
theorem Hi {w:World} {ops:Array Oper} {rest:List Oper} {o:Oper} {a:Act} {Q:Exit→Act→World→Prop} (hgd:o.guard=none) (s x:Operand)
 (ho:o.op=.call { callee:=.builtin .append,args:=#[s,x],argTypes:=#[30,30] })
 (base:Nat) (v:Value) (l:List Wr) (hs:a.eval s=v) (hown:aq w base v l)
 (B off c n:Nat) (hx:a.eval x=.slice (some ⟨B,off,none⟩) n c) (m:List Wr) (hn:n=m.length) (hcell:∀ j u,(wrsC m)[j]? = some u→w.cell? ⟨B,off+j,none⟩=some u)
 (hm:0<m.length) (hlen:l.length+m.length≤1000000) (hbase:base≤w.heap.size)
 (h:∀ g cap w',aq w' base (.slice (some ⟨g,0,none⟩) (l.length+m.length) cap) (l++m)→w.grownBy w' v.ownBlock→wpList Tryz.prog ops Q rest (a.put o.dst (.slice (some ⟨g,0,none⟩) (l.length+m.length) cap)) w'):wpList Tryz.prog ops Q (o::rest) a w:=by
 subst hn;obtain ⟨i0,hi,hz0,hz1,hz2⟩:=info_parts jg;refine wpList_append_lies w hgd s x 30 ho base 38 i0 (.agg #[.int .i64 0,.int .i64 0,.int .i64 0,.string ⟨#[]⟩,.string ⟨#[]⟩,.int .i64 0]) 6 64 Tryz.underlying30 hi hz0 hz1 hz2 rfl (by decide) v l.length (wrsC l) hs hown ⟨B,off,none⟩ m.length c (wrsC m) hx (dG m) ?_ (pR m) hm (by unfold maxLen;omega) (by omega) hbase _ rfl ?_
 ·intro j u hj;have hadd:(⟨B,off,none⟩:Addr).add j=⟨B,off+j,none⟩:=by unfold Addr.add;split <;> simp_all
  rw [hadd];exact hcell j u hj
 ·intro g cap w' h1 h2 _ _;refine h g cap w' ?_ h2;unfold aq;rw [List.length_append,iy];exact h1
theorem DC (w:World):aq (w.alloc (.cells #[] 38)) w.heap.size (.slice (some ⟨w.heap.size,0,none⟩) 0 0) [] :=
 ⟨rfl,.inr ⟨w.heap.size,0,#[],rfl,Nat.le_refl _,heap_alloc_new w _,Nat.le_refl _,Nat.zero_le _,rfl,rfl⟩⟩
theorem zg (v:Value) (l:List Wr) (w:World) (hv:aD w v l) (h0:0<l.length) (h6:l.length≤1000000) :
 Calls Tryz.prog 67 #[v] w fun e w'=>∃ v',e=.returned v'∧aq w' w.heap.size v' l∧Below w.heap.size w w':=by
 rcases hv with ⟨a,c,rfl,rfl⟩ | ⟨b,off,c,rfl,h1,h2,h3⟩
 ·exact absurd h0 (Nat.lt_irrefl _)
 ·have H3:=hid h3;obtain ⟨n,hn⟩:∃ n,n=l.length:=⟨_,rfl⟩;rw [←hn] at h1 h0 h6 ⊢;have HN:=hid hn;clear h3 hn;have heq:∀ w:World,(binOp BinOp.eql 30 (.slice (some ⟨b,off,none⟩) n c) (.slice none 0 0)).run Tryz.prog w=.ok (.bool false) w:=fun w=>Go.Lib.run_eql_slice_nil w _ _ (some ⟨b,off,none⟩) n c 0 0 Tryz.underlying30
  go_enter Tryz.func67,Tryz.ntmps67
  go_wp2_with (at_builtin;refine Hi rfl _ _ rfl w.heap.size _ [] rfl (DC w) b off c n rfl l HN.out ?c1 ?c2 ?c3 ?c4 ?_)
  case c1=>exact fun j u hj=>(World.cell?_alloc_lt w _ (⟨b,off+j,none⟩:Addr) h2).trans (H3.out j u hj)
  case c2=>have:=HN.out;omega
  case c3=>have:=HN.out;simp;omega
  case c4=>simp
  intro g cap w' ho hg;have HO:=hid ho;have HB:Hid (Below w.heap.size w w'):=hid (((Below.refl _ _).alloc (Nat.le_refl _) _).grown hg (by simp) (fun k hk=>by
   have e:w.heap.size=k:=by simpa [Value.ownBlock] using hk
   omega))
  clear ho hg;go_wp2;go_ret;exact ⟨_,rfl,by simpa using HO.out,HB.out⟩
end
