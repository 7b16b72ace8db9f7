import Derived.Test.YtdhognaoejiglaaGreatDoorKb06
import Derived.Laws.Rows
import Derived.Laws.NewBlocks
import Derived.WalkSpells
namespace Go.Proofs.YtdhognaoejiglaaGreatDoor
open Lib (hid)
set_option maxRecDepth 100000
set_option maxHeartbeats 8000000
section
open Go.RowKit
def fg (n k:Nat):Array Value:=((List.range 4).map fun i=>Value.int .u8 (if i<k then (n:Int) / 2 ^ (8 * i) % 256 else 0)).toArray
theorem oL (n k:Nat):(fg n k).size=4:=by simp [fg]
theorem js (n k i:Nat) (h:i<4):(fg n k)[i]? = some (.int .u8 (if i<k then (n:Int) / 2 ^ (8 * i) % 256 else 0)):=by
 unfold fg;simp [h]
theorem Ex (n k:Nat) (hk:k<4):(fg n k).setIfInBounds k (.int .u8 ((n:Int) / 2 ^ (8 * k) % 256))=fg n (k+1):=by
 apply Array.ext_getElem?
 intro i;rw [Array.getElem?_setIfInBounds,oL];by_cases hi:i<4
 ·by_cases e:k=i
  ·subst e;rw [if_pos rfl,if_pos hk,js _ _ k hi,if_pos (by omega)]
  ·rw [if_neg e,js _ _ i hi,js _ _ i hi];by_cases h2:i<k
   ·rw [if_pos h2,if_pos (by omega)]
   ·rw [if_neg h2,if_neg (by omega)]
 ·rw [Array.getElem?_eq_none (by rw [oL];omega),Array.getElem?_eq_none (by rw [oL];omega),if_neg (by omega)]
theorem Ew (n j:Nat) (h:j<(di n).length):((di n)[j].toNat:Int)=(n:Int) / 2 ^ (8 * j) % 256:=by
 have e:∀ m:Nat,((UInt8.ofNat m).toNat:Int)=((m % 256:Nat):Int):=fun m=>by simp
 match j,h with
 | 0,_=>show ((UInt8.ofNat n).toNat:Int)=_;rw [e];simp
 | 1,_=>show ((UInt8.ofNat (n / 256)).toNat:Int)=_;rw [e];simp
 | 2,_=>show ((UInt8.ofNat (n / 65536)).toNat:Int)=_;rw [e];simp
 | 3,_=>show ((UInt8.ofNat (n / 16777216)).toNat:Int)=_;rw [e];simp
 | j+4,h=>exact absurd h (by simp [di])
theorem Ez (n:Nat) (w:World):(convert 142 9 (.slice (some ⟨w.heap.size,0,none⟩) 4 4)).run Tryz.prog (w.alloc (.cells (fg n 4) 204))=.ok (.string ⟨(di n).toArray⟩) (w.alloc (.cells (fg n 4) 204)):=by
 refine run_convert_bytes_back _ _ _ _ _ _ (di n) Tryz.underlying142 Tryz.underlying5 Tryz.underlying9 fun j hj=>?_
 have hadd:(⟨w.heap.size,0,none⟩:Addr).add j=⟨w.heap.size,j,none⟩:=by unfold Addr.add;split <;> simp_all
 have h4:j<4:=hj;rw [hadd,cell_of_row _ _ _ _ _ _ (heap_alloc_new w _),js _ _ _ h4,if_pos h4,Ew n j hj]
theorem oN (s:ByteArray) (w:World) (hs:s.size≤maxLen) :
 Calls Tryz.prog 113 #[.string s] w fun e w'=>e=.returned (.string ⟨(di (sum s.data.toList)).toArray⟩)∧Below w.heap.size w w':=by
 have hl:=Ek s.data.toList;go_enter Tryz.func113,Tryz.ntmps113
 go_wp2_with fail
 refine (Ej _ _ hs).mono ?_;rintro e w' ⟨rfl,rfl⟩;obtain ⟨n,hn⟩:∃ n,n=sum s.data.toList:=⟨_,rfl⟩;rw [←hn] at hl ⊢;have HN:=hid hn;clear hn;go_wp2
 go_loopw [8] (fun i wr=>∃ k:Nat,k≤4∧i=.int .i64 k∧wr=w.alloc (.cells (fg n k) 204)) (fun i _=>4-(intOf i).toNat)
 case atStart=>exact ⟨0,by omega,rfl,rfl⟩
 case round =>
  obtain ⟨k,hk,rfl,rfl⟩:=hrel;by_cases hlt:k<4
  ·have hc:=js n k k hlt;rw [if_neg (Nat.lt_irrefl k)] at hc;have hz:=Ex n k hlt;go_wp2;go_roundw
   case rel=>exact ⟨k+1,by omega,by go_num,rfl⟩
   case measure=>simp [intOf];omega
  ·obtain rfl:k=4:=by omega
   have hconv:=Ez n w;go_wp2;go_ret;exact ⟨by rw [HN.out];rfl,(Below.refl _ _).alloc (Nat.le_refl _) _⟩
def ie (s:ByteArray):ByteArray:=s++⟨(di (sum s.data.toList)).toArray⟩
theorem tD (s:ByteArray):(ie s).data.toList=bi s.data.toList:=by unfold ie bi;simp
theorem tE (s:ByteArray) (w:World) (hs:s.size≤140737488351232) :
 Calls Tryz.prog 86 #[.string s] w fun e w'=>e=.returned (.string (ie s))∧Below w.heap.size w w':=by
 have hz:(⟨(di (sum s.data.toList)).toArray⟩:ByteArray).size=4:=rfl;go_enter Tryz.func86,Tryz.ntmps86
 go_wp2_with fail
 refine (oN s _ (by unfold maxLen;omega)).mono ?_;rintro e w1 ⟨rfl,hb1⟩;have HB:=hid hb1;clear hb1;go_wp2;go_ret;exact ⟨rfl,HB.out⟩
end
section
open Go.RowKit
def wH (w:World) (l:List Tok) (e:Ending) (w':World):Prop :=
 ∃ v,e=.returned v∧bm w' w.heap.size v l∧Below w.heap.size w w'
theorem EV (s:ByteArray) (w:World) (hs:s.size≤400000) :
 Calls Tryz.prog 150 #[.string s] w (wH w (toks s.data.toList)):=by
 have HS : Hid (s.size ≤ maxLen) := by have h : s.size ≤ maxLen := by unfold maxLen; omega
                                       exact h
 have hlen:s.data.toList.length=s.size:=(aj s).symm;have HL:=hid hlen;clear hlen;go_enter Tryz.func150,Tryz.ntmps150
 go_wp2
 go_loopw [3,4,5] (fun v fr a wr=>∃ (f fr' a':Nat) (acc:List Tok),fr=.int .i64 fr'∧a=.int .i64 a'∧fr'≤a'∧a'≤s.size∧s.size≤a'+f∧acc.length≤2 * a'∧toks s.data.toList=acc++tks s.data.toList f fr' a'∧bm wr w.heap.size v acc∧Below w.heap.size w wr) (fun _ _ a _=>s.size-(intOf a).toNat)
 case atStart=>exact ⟨s.size,0,0,[],rfl,rfl,Nat.le_refl _,Nat.zero_le _,by omega,by simp,by unfold toks;rw [HL.out];rfl,lh _ _,Below.refl _ _⟩
 case round =>
  obtain ⟨f,fr,a,acc,rfl,rfl,hfa,ha,hf,hac,heq,hown,hbel⟩:=hrel;have HEQ:=hid heq;have HOWN:=hid hown;have HBEL:=hid hbel;clear heq hown hbel;by_cases hlt:a<s.size
  ·obtain ⟨f,rfl⟩:∃ f',f=f'+1:=⟨f-1,by omega⟩;have hl:a<s.data.toList.length:=by rw [HL.out];exact hlt
   rcases qU s.data.toList a with ⟨hz,_⟩ | ⟨b,n,hfn,_,hb1,hb2,hb3,hn1,hn2,hn3,_⟩
   ·have HR : Hid (iO (find s.data.toList a) = .tuple #[.int .i64 0, .int .i64 0]) := by
     have h:iO (find s.data.toList a)=.tuple #[.int .i64 0,.int .i64 0]:=by rw [hz];rfl
     exact h
    have HN:Hid (toks s.data.toList=acc++tks s.data.toList f fr (a+1)):=by
     have h:toks s.data.toList=acc++tks s.data.toList f fr (a+1):=by rw [HEQ.out,ut hl (by rw [hz])]
     exact h
    clear hz hl HEQ;go_wp2_with fail
    refine (qW s a _ HS.out hlt).mono ?_;rintro e w1 ⟨rfl,q1,rfl⟩;rw [HR.out];go_wp2;go_roundw
    case rel=>exact ⟨f,fr,a+1,acc,rfl,by go_num,by omega,by omega,by omega,by omega,HN.out,HOWN.out.drewN _,below_drewN HBEL.out _⟩
    case measure=>simp [intOf];omega
   ·rw [HL.out] at hn3;have HR:Hid (iO (find s.data.toList a)=.tuple #[.int .i64 b,.int .i64 n]):=by
     have h:iO (find s.data.toList a)=.tuple #[.int .i64 b,.int .i64 n]:=by rw [hfn];rfl
     exact h
    have hn0:((n:Int) == 0)=false:=by simp;omega
    have hxs:(s.extract fr a).size≤140737488351232:=by rw [ByteArray.size_extract];omega
    have HXS:=hid hxs;obtain ⟨L1,hL1⟩:∃ L1,acc++ownT (s.extract fr a).data.toList=L1:=⟨_,rfl⟩;have hol:(acc++ownT (s.extract fr a).data.toList).length≤2 * a+1:=by
     rw [List.length_append];have:(ownT (s.extract fr a).data.toList).length≤1:=by unfold ownT;split <;> simp
     omega
    rw [hL1] at hol;have HOL:=hid hol;have HN:Hid (toks s.data.toList=(L1++[repT b n])++tks s.data.toList f (a+n) (a+n)):=by
     have h:toks s.data.toList=(L1++[repT b n])++tks s.data.toList f (a+n) (a+n):=by
      rw [HEQ.out,ur hl hfn (by omega),←hL1,fX];simp
     exact h
    have HL1:=hid hL1;clear hL1
    have HAC : Hid (acc.length ≤ 999999) := by have h : acc.length ≤ 999999 := by omega
                                               exact h
    clear hfn hl HEQ hxs hol;have e1:(fr:Int)≤(a:Int):=by omega
    have e2:(a:Int)≤(s.size:Int):=by omega
    go_wp2_with fail
    refine (qW s a _ HS.out hlt).mono ?_;rintro e w1 ⟨rfl,q1,rfl⟩;rw [HR.out];go_wp2_with fail
    refine (th _ acc _ w.heap.size (wr.drewN q1) HXS.out HBEL.out.size (HOWN.out.drewN _) HAC.out).mono ?_;rintro r w1 ⟨v1,rfl,ho1,hb1⟩;rw [HL1.out] at ho1;have hb2:Below w.heap.size w w1:=(below_drewN HBEL.out q1).trans hb1;have HB2:=hid hb2;have HO1:=hid ho1;have hz1:=hb2.size;have HOL1:Hid (L1.length+1≤1000000):=by
     have h:L1.length+1≤1000000:=by have:=HOL.out;omega
     exact h
    clear hb1 hb2 ho1 HOWN HBEL;go_wp2_with (at_builtin;refine px rfl _ _ rfl w.heap.size _ L1 rfl (HO1.out.alloc _) w1.heap.size 1 rfl (repT b n) ?c1 ?c2 ?c3 ?_)
    case c1=>exact jw _ _ _ _
    case c2=>exact HOL1.out
    case c3=>simp;omega
    ·intro g cap w2 ho2 hg2;have HB3:Hid (Below w.heap.size w w2):=(HB2.out.alloc hz1 _).grown hg2 (by simp;omega) (fun g hg=>(HO1.out.lt g hg).1);have HO2:=hid ho2;clear ho2 hg2;go_wp2;go_roundw
     case rel=>exact ⟨f,a+n,a+n,_,by go_num,by go_num,Nat.le_refl _,by omega,by omega,by rw [List.length_append];simp only [List.length_singleton];have:=HOL.out;omega,HN.out,HO2.out,HB3.out⟩
     case measure=>simp [intOf];omega
  ·obtain rfl:a=s.size:=by omega
   have hxs:(s.extract fr s.size).size≤140737488351232:=by rw [ByteArray.size_extract];omega
   have HXS:=hid hxs;have HN:Hid (toks s.data.toList=acc++ownT (s.extract fr s.size).data.toList):=by
    have h:toks s.data.toList=acc++ownT (s.extract fr s.size).data.toList:=by
     rw [HEQ.out,uq (by rw [HL.out];omega),fX]
    exact h
   have HAC : Hid (acc.length ≤ 999999) := by have h : acc.length ≤ 999999 := by omega
                                              exact h
   clear hxs HEQ;go_wp2_with fail
   refine (th _ acc _ w.heap.size wr HXS.out HBEL.out.size HOWN.out HAC.out).mono ?_;rintro r w1 ⟨v1,rfl,ho1,hb1⟩;have HO1:=hid ho1;have HB1:Hid (Below w.heap.size w w1):=HBEL.out.trans hb1;clear ho1 hb1;go_wp2;go_ret;exact ⟨_,rfl,by rw [HN.out];exact HO1.out,HB1.out⟩
end
section
open Go.RowKit
theorem iW:(Tryz.prog.info? 38).map (fun i=>(i.zero,i.size,i.bytes))=some (some (.agg #[.int .i64 0,.int .i64 0,.int .i64 0,.string ⟨#[]⟩,.string ⟨#[]⟩,.int .i64 0]),6,64):=by kernel_rfl
instance : Inhabited Wr := ⟨⟨0, 0, 0, ⟨#[]⟩, ⟨#[]⟩, 0⟩⟩
def wrsC (l:List Wr):List Value:=l.flatMap wrC
theorem dm (l:List Wr):(wrsC l).length=l.length * 6:=by
 induction l with
 | nil=>rfl
 | cons t r ih=>simp only [wrsC,List.flatMap_cons,List.length_append,List.length_cons] at ih ⊢;rw [ih];simp [wrC];omega
theorem io (a b:List Wr):wrsC (a++b)=wrsC a++wrsC b:=by simp [wrsC]
theorem pA (a:Wr):wrsC [a]=wrC a:=by simp [wrsC]
theorem ip (l:List Wr) (i j:Nat) (t:Wr) (h:l[i]? = some t) (hj:j<6):(wrsC l)[i * 6+j]? = (wrC t)[j]? := by
 induction l generalizing i with
 | nil=>simp at h
 | cons u r ih =>
  have hc:wrsC (u::r)=wrC u++wrsC r:=by simp [wrsC]
  have h3:(wrC u).length=6:=rfl;rw [hc];cases i with
  | zero =>
   obtain rfl:u=t:=by simpa using h
   rw [List.getElem?_append_left (by omega)]
   congr 1;omega
  | succ i =>
   rw [List.getElem?_append_right (by omega),h3,show (i+1) * 6+j-6=i * 6+j by omega];exact ih i (by simpa using h)
theorem il (t:Wr):∀ u∈wrC t,u.oneCell'=true:=by
 intro u hu;simp [wrC] at hu
 rcases hu with rfl | rfl | rfl | rfl | rfl | rfl <;> rfl
theorem pz (l:List Wr):∀ u∈wrsC l,u.oneCell'=true:=by
 intro u hu;obtain ⟨t,_,ht⟩:=List.mem_flatMap.1 hu;exact il t u ht
theorem jH (l:List Wr) (i:Nat):wrsC (l.take i)=(wrsC l).take (i * 6):=by
 induction l generalizing i with
 | nil=>simp [wrsC]
 | cons u r ih =>
  cases i with
  | zero=>simp [wrsC]
  | succ i =>
   have hc:wrsC (u::r)=wrC u++wrsC r:=by simp [wrsC]
   have h3:(wrC u).length=6:=rfl;rw [List.take_succ_cons,hc,show wrsC (u::r.take i)=wrC u++wrsC (r.take i) by simp [wrsC],ih,List.take_append,h3,List.take_of_length_le (l:=wrC u) (by rw [h3];omega),show (i+1) * 6-6=i * 6 by omega]
theorem vY (l:List Wr) (i:Nat):wrsC (l.drop i)=(wrsC l).drop (i * 6):=by
 induction l generalizing i with
 | nil=>simp [wrsC]
 | cons u r ih =>
  cases i with
  | zero=>simp [wrsC]
  | succ i =>
   have hc:wrsC (u::r)=wrC u++wrsC r:=by simp [wrsC]
   have h3:(wrC u).length=6:=rfl;rw [List.drop_succ_cons,hc,ih,List.drop_append,h3,show (wrC u).drop ((i+1) * 6)=[] from List.drop_of_length_le (by rw [h3];omega),show (i+1) * 6-6=i * 6 by omega,List.nil_append]
def ak (w:World) (base:Nat) (v:Value) (l:List Wr):Prop:=w.ownsRow base 38 6 v l.length (wrsC l)
theorem eK (w:World) (base:Nat):ak w base (.slice none 0 0) []:=World.ownsRow_nil _ _ _ _
theorem ak.alloc {w:World} {base:Nat} {v:Value} {l:List Wr} (h:ak w base v l) (o:Obj):ak (w.alloc o) base v l:=World.ownsRow.alloc h o
theorem ak.lt {w:World} {base:Nat} {v:Value} {l:List Wr} (h:ak w base v l):∀ k,v.ownBlock=some k→base≤k∧k<w.heap.size:=World.ownsRow.lt h
theorem ak.mono {w:World} {base base':Nat} {v:Value} {l:List Wr} (h:ak w base v l) (hb:base'≤base):ak w base' v l:=by
 obtain ⟨h0,h1⟩:=h;refine ⟨h0,?_⟩;rcases h1 with h1 | ⟨g,cap,cur,hv,hg,r⟩
 ·exact .inl h1
 ·exact .inr ⟨g,cap,cur,hv,Nat.le_trans hb hg,r⟩
theorem ak.below {w w':World} {base:Nat} {v:Value} {l:List Wr} (h:ak w base v l) (hb:Below w.heap.size w w'):ak w' base v l:=by
 refine World.ownsRow.kept h (row:=none) ⟨hb.os,hb.tape,hb.output,hb.size,fun k hk _=>hb.block k hk⟩ ?_;cases hv:v.ownBlock with
 | none=>exact .inl rfl
 | some g=>exact .inr (by simp)
def az (w:World) (v:Value) (l:List Wr):Prop :=
 (∃ a c,v=.slice a 0 c∧l=[])∨∃ b off c,v=.slice (some ⟨b,off,none⟩) l.length c∧(0<l.length∧l.length≤c)∧b<w.heap.size∧∀ j u,(wrsC l)[j]? = some u→w.cell? ⟨b,off+j,none⟩=some u
theorem ak.is {w:World} {base:Nat} {v:Value} {l:List Wr} (h:ak w base v l):az w v l:=by
 have hall:=h;have hlt:=h.lt;obtain ⟨h0,h1⟩:=h;rcases h1 with ⟨rfl,hn⟩ | ⟨g,cap,cur,rfl,hb,hh,hc,hm,hs,ht⟩
 ·exact .inl ⟨_,_,rfl,List.length_eq_zero_iff.1 hn⟩
 ·by_cases hz:l.length=0
  ·exact .inl ⟨_,_,by rw [hz],List.length_eq_zero_iff.1 hz⟩
  ·refine .inr ⟨g,0,cap,rfl,⟨by omega,hc⟩,(hlt g rfl).2,fun j u hj=>?_⟩;have hjl:j<l.length * 6:=by rw [←dm];exact (List.getElem?_eq_some_iff.1 hj).1
   rw [Nat.zero_add,World.ownsRow.cellAt hall j hjl];exact hj
theorem az.below {w w':World} {v:Value} {l:List Wr} (h:az w v l) (hb:Below w.heap.size w w'):az w' v l:=by
 rcases h with ⟨a,c,h1,h2⟩ | ⟨b,off,c,h1,h0,h2,h3⟩
 ·exact .inl ⟨a,c,h1,h2⟩
 ·exact .inr ⟨b,off,c,h1,h0,Nat.lt_of_lt_of_le h2 hb.size,fun j u hj=>(hb.cell (p:=⟨b,off+j,none⟩) h2).trans (h3 j u hj)⟩
theorem az.alloc {w:World} {v:Value} {l:List Wr} (h:az w v l) (o:Obj):az (w.alloc o) v l:=h.below ((Below.refl _ _).alloc (Nat.le_refl _) o)
theorem az.drewN {w:World} {v:Value} {l:List Wr} (h:az w v l) (n:Nat):az (w.drewN n) v l:=h
theorem az.form {w:World} {v:Value} {l:List Wr} (h:az w v l):∃ a c,v=.slice a l.length c∧∀ i t,l[i]? = some t→∃ b off,a=some ⟨b,off,none⟩∧b<w.heap.size ∧
 w.cell? ⟨b,off+i * 6,none⟩=some (.int .i64 t.time)∧w.cell? ⟨b,off+i * 6+1,none⟩=some (.int .i64 t.rep)∧w.cell? ⟨b,off+i * 6+2,none⟩=some (.int .i64 t.kind) ∧
 w.cell? ⟨b,off+i * 6+3,none⟩=some (.string t.key)∧w.cell? ⟨b,off+i * 6+4,none⟩=some (.string t.value)∧w.cell? ⟨b,off+i * 6+5,none⟩=some (.int .i64 t.n):=by
 rcases h with ⟨a,c,rfl,rfl⟩ | ⟨b,off,c,rfl,h0,h2,h3⟩
 ·exact ⟨a,c,rfl,fun i t h=>by simp at h⟩
 ·refine ⟨_,_,rfl,fun i t h=>⟨b,off,rfl,h2,?_,?_,?_,?_,?_,?_⟩⟩
  ·exact h3 _ _ ((ip l i 0 t h (by omega)).trans rfl)
  ·exact h3 _ _ ((ip l i 1 t h (by omega)).trans rfl)
  ·exact h3 _ _ ((ip l i 2 t h (by omega)).trans rfl)
  ·exact h3 _ _ ((ip l i 3 t h (by omega)).trans rfl)
  ·exact h3 _ _ ((ip l i 4 t h (by omega)).trans rfl)
  ·exact h3 _ _ ((ip l i 5 t h (by omega)).trans rfl)
def cU (w:World) (B:Nat) (t:Wr):Prop:=w.heap[B]? = some (.cells (wrC t).toArray 38 (0,0))
theorem jE {w:World} {ops:Array Oper} {rest:List Oper} {o:Oper} {a:Act} {Q:Exit→Act→World→Prop} (hgd:o.guard=none) (s x:Operand)
 (ho:o.op=.call { callee:=.builtin .append,args:=#[s,x],argTypes:=#[30,30] })
 (base:Nat) (v:Value) (l:List Wr) (hs:a.eval s=v) (hown:ak w base v l)
 (B c:Nat) (hx:a.eval x=.slice (some ⟨B,0,none⟩) 1 c) (t:Wr) (hcell:cU w B t)
 (hlen:l.length+1≤1000000) (hbase:base≤w.heap.size)
 (h:∀ g cap w',ak w' base (.slice (some ⟨g,0,none⟩) (l.length+1) cap) (l++[t])→w.grownBy w' v.ownBlock→wpList Tryz.prog ops Q rest (a.put o.dst (.slice (some ⟨g,0,none⟩) (l.length+1) cap)) w'):wpList Tryz.prog ops Q (o::rest) a w:=by
 obtain ⟨i0,hi,hz0,hz1,hz2⟩:=info_parts iW;refine wpList_append_lies w hgd s x 30 ho base 38 i0 (.agg #[.int .i64 0,.int .i64 0,.int .i64 0,.string ⟨#[]⟩,.string ⟨#[]⟩,.int .i64 0]) 6 64 Tryz.underlying30 hi hz0 hz1 hz2 rfl (by decide) v l.length (wrsC l) hs hown ⟨B,0,none⟩ 1 c (wrC t) hx rfl ?_ (il t) (by decide) (by unfold maxLen;omega) (by omega) hbase _ rfl ?_
 ·intro j u hj;have hadd:(⟨B,0,none⟩:Addr).add j=⟨B,j,none⟩:=by unfold Addr.add;split <;> simp_all
  rw [hadd,cell_of_row _ _ _ _ _ _ hcell,←hj];simp
 ·intro g cap w' h1 h2 _ _;refine h g cap w' ?_ h2;unfold ak;rw [List.length_append,io,pA];exact h1
end
section
open Go.RowKit
theorem eD (K:Int) (b:Bool) (w:World) (h:hasV K=b):Calls Tryz.prog 71 #[.int .i64 K] w fun e w'=>e=.returned (.bool b)∧w=w':=by
 subst h;unfold hasV;by_cases h1:K=1
 ·subst h1;go_enter Tryz.func71,Tryz.ntmps71
  go_wp2;go_ret;exact ⟨rfl,rfl⟩
 ·have b1:(K == 1)=false:=by simpa using h1
  rw [decide_eq_false h1,Bool.false_or];go_enter Tryz.func71,Tryz.ntmps71
  go_wp2;go_ret;exact ⟨by first | rfl | (congr 2;rw [Bool.eq_iff_iff];simp),rfl⟩
theorem gR (K:Int) (b:Bool) (w:World) (h:hasN K=b):Calls Tryz.prog 72 #[.int .i64 K] w fun e w'=>e=.returned (.bool b)∧w=w':=by
 subst h;unfold hasN;by_cases h1:K=3
 ·subst h1;go_enter Tryz.func72,Tryz.ntmps72
  go_wp2;go_ret;exact ⟨rfl,rfl⟩
 ·have b1:(K == 3)=false:=by simpa using h1
  rw [decide_eq_false h1,Bool.false_or];go_enter Tryz.func72,Tryz.ntmps72
  go_wp2;go_ret;exact ⟨by first | rfl | (congr 2;rw [Bool.eq_iff_iff];simp),rfl⟩
def wv (T R K:Int) (key val:ByteArray) (N:Int):Value:=.agg #[.int .i64 T,.int .i64 R,.int .i64 K,.string key,.string val,.int .i64 N]
theorem fA (T R K:Int) (key val:ByteArray) (N:Int) (b:Bool) (w:World) (h:ci K N=b) :
 Calls Tryz.prog 73 #[.agg #[.int .i64 T,.int .i64 R,.int .i64 K,.string key,.string val,.int .i64 N]] w fun e w'=>e=.returned (.bool b)∧Below w.heap.size w w':=by
 subst h;unfold ci;by_cases h1:K=3
 ·subst h1;rw [if_pos rfl];by_cases h2 : -1125899906842624≤N
  ·rw [decide_eq_true h2,Bool.true_and];go_enter Tryz.func73,Tryz.ntmps73
   go_wp2;go_ret;exact ⟨by first | rfl | simp,(Below.refl _ _).alloc (Nat.le_refl _) _⟩
  ·rw [decide_eq_false h2,Bool.false_and];have d:=decide_eq_false h2;go_enter Tryz.func73,Tryz.ntmps73
   go_wp2;go_ret;exact ⟨by first | rfl | simp,(Below.refl _ _).alloc (Nat.le_refl _) _⟩
 ·rw [if_neg h1];have b1:(K == 3)=false:=by simpa using h1
  by_cases h3:K=4
  ·subst h3;rw [if_pos rfl];by_cases h2:0≤N
   ·rw [decide_eq_true h2,Bool.true_and];go_enter Tryz.func73,Tryz.ntmps73
    go_wp2;go_ret;exact ⟨by first | rfl | simp,(Below.refl _ _).alloc (Nat.le_refl _) _⟩
   ·rw [decide_eq_false h2,Bool.false_and];have d:=decide_eq_false h2;go_enter Tryz.func73,Tryz.ntmps73
    go_wp2;go_ret;exact ⟨by first | rfl | simp,(Below.refl _ _).alloc (Nat.le_refl _) _⟩
  ·rw [if_neg h3];have b3:(K == 4)=false:=by simpa using h3
   go_enter Tryz.func73,Tryz.ntmps73
   go_wp2;go_ret;exact ⟨rfl,(Below.refl _ _).alloc (Nat.le_refl _) _⟩
def wrAt (w:World) (B:Nat) (T R K:Int) (key val:ByteArray) (N:Int):Prop :=
 w.cell? ⟨B,0,none⟩=some (.int .i64 T)∧w.cell? ⟨B,1,none⟩=some (.int .i64 R)∧w.cell? ⟨B,2,none⟩=some (.int .i64 K)∧w.cell? ⟨B,3,none⟩=some (.string key)∧w.cell? ⟨B,4,none⟩=some (.string val)∧w.cell? ⟨B,5,none⟩=some (.int .i64 N)
theorem wrAt.below {w w':World} {B:Nat} {T R K:Int} {key val:ByteArray} {N:Int} {m:Nat} (h:wrAt w B T R K key val N) (hb:Below m w w') (hm:B<m):wrAt w' B T R K key val N :=
 ⟨(hb.cell hm).trans h.1,(hb.cell hm).trans h.2.1,(hb.cell hm).trans h.2.2.1,(hb.cell hm).trans h.2.2.2.1,(hb.cell hm).trans h.2.2.2.2.1,(hb.cell hm).trans h.2.2.2.2.2⟩
theorem ik (w:World) (T R K:Int) (key val:ByteArray) (N:Int) (t:TypeId):wrAt (w.alloc (.cells #[.int .i64 T,.int .i64 R,.int .i64 K,.string key,.string val,.int .i64 N] t)) w.heap.size T R K key val N:=by
 unfold wrAt;simp
theorem gy (T R K:Int) (key val:ByteArray) (N:Int) (w:World) (hk:key.size≤140737488351232) (hv:val.size≤140737488351232) :
 Calls Tryz.prog 51 #[.agg #[.int .i64 T,.int .i64 R,.int .i64 K,.string key,.string val,.int .i64 N]] w fun e w'=>e=.returned (errV (wriE T R K key val N))∧Below w.heap.size w w':=by
 have HN0:=hid (ik w T R K key val N 38);by_cases hK:K<1∨4<K
 ·rw [Gx hK];by_cases h1:K<1
  ·go_enter Tryz.func51,Tryz.ntmps51
   go_wp2;go_ret;exact ⟨rfl,(Below.refl _ _).alloc (Nat.le_refl _) _⟩
  ·have h2:4<K:=by omega
   go_enter Tryz.func51,Tryz.ntmps51
   go_wp2;go_ret;exact ⟨rfl,(Below.refl _ _).alloc (Nat.le_refl _) _⟩
 ·have h1:¬ K<1:=by omega
  have h2:¬ 4<K:=by omega
  cases hiD:idOk T R with
  | false =>
   rw [Gw hK hiD];go_enter Tryz.func51,Tryz.ntmps51
   go_wp2_with fail
   refine (rN T R false _ hiD).mono ?_;rintro r w1 ⟨rfl,hb1⟩;have HB1:=hid (((Below.refl _ _).alloc (Nat.le_refl _) _).trans (hb1.mono (by simp)));clear hb1;go_wp2;go_ret;exact ⟨rfl,HB1.out⟩
  | true =>
   go_enter Tryz.func51,Tryz.ntmps51
   go_wp2_with fail
   refine (rN T R true _ hiD).mono ?_;rintro r w1 ⟨rfl,hb1⟩;have HA1:=hid (HN0.out.below hb1 (by simp));have HB1:=hid (((Below.refl _ _).alloc (Nat.le_refl _) _).trans (hb1.mono (by simp)));have HL1:Hid (w.heap.size<w1.heap.size):=hid (by have:=hb1.size;simp at this;exact this);have HID:=hid hiD;clear hb1 hiD;obtain ⟨c0,c1,c2,c3,c4,c5⟩:=HA1.out;by_cases hs:40<key.size∨300<val.size
   ·have HW:=hid (Gz (N:=N) hK HID.out hs);by_cases h3:40<key.size
    ·go_wp2;go_ret;rw [HW.out];exact ⟨rfl,HB1.out⟩
    ·have h4:300<val.size:=by omega
     go_wp2;go_ret;rw [HW.out];exact ⟨rfl,HB1.out⟩
   ·have h3:¬ 40<key.size:=by omega
    have h4:¬ 300<val.size:=by omega
    have HW:=hid (Gy (N:=N) hK HID.out hs);clear hK hs;by_cases hve:0<val.size
    ·have b0:¬ val.toList=[]:=by have:=jV hve;simpa using this
     cases hV:hasV K with
     | false =>
      have HR:Hid (wriE T R K key val N=3):=hid (by rw [HW.out,hV];simp [hve]);clear hve;go_wp2_with (go_at_call 71;refine (eD K false _ hV).mono ?_;rintro r w2 ⟨rfl,rfl⟩)
      go_ret;rw [HR.out];exact ⟨rfl,HB1.out⟩
     | true =>
      by_cases hn:N=0
      ·subst hn;cases hF:ci K 0 with
       | true =>
        have HR:Hid (wriE T R K key val 0=0):=hid (by rw [HW.out,hF];simp [hV]);go_wp2_with (first | (go_at_call 71;refine (eD K true _ hV).mono ?_;rintro r w2 ⟨rfl,rfl⟩) | (go_at_call 73;refine (fA T R K key val 0 true _ hF).mono ?_;rintro r w4 ⟨rfl,hb4⟩;have HB4:=hid (HB1.out.trans (hb4.mono (Nat.le_of_lt HL1.out)));clear hb4))
        go_ret;rw [HR.out];exact ⟨rfl,HB4.out⟩
       | false =>
        have HR:Hid (wriE T R K key val 0=2):=hid (by rw [HW.out,hF];simp [hV]);go_wp2_with (first | (go_at_call 71;refine (eD K true _ hV).mono ?_;rintro r w2 ⟨rfl,rfl⟩) | (go_at_call 73;refine (fA T R K key val 0 false _ hF).mono ?_;rintro r w4 ⟨rfl,hb4⟩;have HB4:=hid (HB1.out.trans (hb4.mono (Nat.le_of_lt HL1.out)));clear hb4))
        go_ret;rw [HR.out];exact ⟨rfl,HB4.out⟩
      ·cases hM:hasN K with
       | false =>
        have HR:Hid (wriE T R K key val N=3):=hid (by rw [HW.out,hM];simp [hn]);go_wp2_with (first | (go_at_call 71;refine (eD K true _ hV).mono ?_;rintro r w2 ⟨rfl,rfl⟩) | (go_at_call 72;refine (gR K false _ hM).mono ?_;rintro r w3 ⟨rfl,rfl⟩))
        go_ret;rw [HR.out];exact ⟨rfl,HB1.out⟩
       | true =>
        cases hF:ci K N with
        | true =>
         have HR:Hid (wriE T R K key val N=0):=hid (by rw [HW.out,hF];simp [hV,hM]);go_wp2_with (first | (go_at_call 71;refine (eD K true _ hV).mono ?_;rintro r w2 ⟨rfl,rfl⟩) | (go_at_call 72;refine (gR K true _ hM).mono ?_;rintro r w3 ⟨rfl,rfl⟩) | (go_at_call 73;refine (fA T R K key val N true _ hF).mono ?_;rintro r w4 ⟨rfl,hb4⟩;have HB4:=hid (HB1.out.trans (hb4.mono (Nat.le_of_lt HL1.out)));clear hb4))
         go_ret;rw [HR.out];exact ⟨rfl,HB4.out⟩
        | false =>
         have HR:Hid (wriE T R K key val N=2):=hid (by rw [HW.out,hF];simp [hV,hM]);go_wp2_with (first | (go_at_call 71;refine (eD K true _ hV).mono ?_;rintro r w2 ⟨rfl,rfl⟩) | (go_at_call 72;refine (gR K true _ hM).mono ?_;rintro r w3 ⟨rfl,rfl⟩) | (go_at_call 73;refine (fA T R K key val N false _ hF).mono ?_;rintro r w4 ⟨rfl,hb4⟩;have HB4:=hid (HB1.out.trans (hb4.mono (Nat.le_of_lt HL1.out)));clear hb4))
         go_ret;rw [HR.out];exact ⟨rfl,HB4.out⟩
    ·obtain rfl:=iJ hve;have z0:(⟨#[]⟩:ByteArray).size=0:=rfl;by_cases hn:N=0
     ·subst hn;cases hF:ci K 0 with
      | true =>
       have HR:Hid (wriE T R K key ⟨#[]⟩ 0=0):=hid (by rw [HW.out,hF];simp [z0]);go_wp2_with (go_at_call 73;refine (fA T R K key ⟨#[]⟩ 0 true _ hF).mono ?_;rintro r w4 ⟨rfl,hb4⟩;have HB4:=hid (HB1.out.trans (hb4.mono (Nat.le_of_lt HL1.out)));clear hb4)
       go_ret;rw [HR.out];exact ⟨rfl,HB4.out⟩
      | false =>
       have HR:Hid (wriE T R K key ⟨#[]⟩ 0=2):=hid (by rw [HW.out,hF];simp [z0]);go_wp2_with (go_at_call 73;refine (fA T R K key ⟨#[]⟩ 0 false _ hF).mono ?_;rintro r w4 ⟨rfl,hb4⟩;have HB4:=hid (HB1.out.trans (hb4.mono (Nat.le_of_lt HL1.out)));clear hb4)
       go_ret;rw [HR.out];exact ⟨rfl,HB4.out⟩
     ·cases hM:hasN K with
      | false =>
       have HR:Hid (wriE T R K key ⟨#[]⟩ N=3):=hid (by rw [HW.out,hM];simp [hn]);go_wp2_with (first | (go_at_call 72;refine (gR K false _ hM).mono ?_;rintro r w3 ⟨rfl,rfl⟩))
       go_ret;rw [HR.out];exact ⟨rfl,HB1.out⟩
      | true =>
       cases hF:ci K N with
       | true =>
        have HR:Hid (wriE T R K key ⟨#[]⟩ N=0):=hid (by rw [HW.out,hF];simp [hM,z0]);go_wp2_with (first | (go_at_call 72;refine (gR K true _ hM).mono ?_;rintro r w3 ⟨rfl,rfl⟩) | (go_at_call 73;refine (fA T R K key ⟨#[]⟩ N true _ hF).mono ?_;rintro r w4 ⟨rfl,hb4⟩;have HB4:=hid (HB1.out.trans (hb4.mono (Nat.le_of_lt HL1.out)));clear hb4))
        go_ret;rw [HR.out];exact ⟨rfl,HB4.out⟩
       | false =>
        have HR:Hid (wriE T R K key ⟨#[]⟩ N=2):=hid (by rw [HW.out,hF];simp [hM,z0]);go_wp2_with (first | (go_at_call 72;refine (gR K true _ hM).mono ?_;rintro r w3 ⟨rfl,rfl⟩) | (go_at_call 73;refine (fA T R K key ⟨#[]⟩ N false _ hF).mono ?_;rintro r w4 ⟨rfl,hb4⟩;have HB4:=hid (HB1.out.trans (hb4.mono (Nat.le_of_lt HL1.out)));clear hb4))
        go_ret;rw [HR.out];exact ⟨rfl,HB4.out⟩
end
section
structure Cel where
 has:Bool
 text:ByteArray
 sum:Int
 list:List ByteArray
def cel0:Cel:=⟨false,⟨#[]⟩,0,[]⟩
def insL (l:List ByteArray) (n:Int) (v:ByteArray):List ByteArray:=l.take (min n.toNat l.length)++(v::l.drop (min n.toNat l.length))
def cm (c:Cel) (w:Wr):Cel :=
 if w.kind=1 then { c with has:=true,text:=w.value }
 else if w.kind=2 then cel0
 else if w.kind=3 then { c with sum:=IntKind.i64.wrap (c.sum+w.n) }
 else if w.kind=4 then { c with list:=insL c.list w.n w.value }
 else c
def live (c:Cel):Bool:=c.has || c.sum != 0 || !c.list.isEmpty
def cx (l:List Wr) (k:ByteArray):Cel:=(l.filter (fun w=>decide (w.key=k))).foldl cm cel0
def leB (a b:ByteArray):Bool:=decide (a.data.toList≤b.data.toList)
def gV (l:List Wr):List ByteArray:=(tabK [] (l.map (·.key))).mergeSort leB
def cg (l:List Wr):List (ByteArray×Cel):=((gV l).map fun k=>(k,cx l k)).filter fun c=>live c.2
theorem AY (a b c:ByteArray) (h:leB a b=true) (k:leB b c=true):leB a c=true:=by
 unfold leB at *;simp only [decide_eq_true_eq] at *;exact List.le_trans h k
theorem AX (a b:ByteArray):(leB a b || leB b a)=true:=by
 unfold leB;simp only [Bool.or_eq_true,decide_eq_true_eq];exact List.le_total _ _
theorem AV {a b:ByteArray} (h:leB a b=true) (k:leB b a=true):a=b:=by
 unfold leB at *;simp only [decide_eq_true_eq] at *;have e:=List.le_antisymm h k;cases a;cases b;simp_all
theorem s8 (l:List Wr):(gV l).Perm (tabK [] (l.map (·.key))):=List.mergeSort_perm _ _
theorem Ap {l:List Wr} {k:ByteArray}:k∈gV l↔∃ w∈l,w.key=k:=by
 rw [(s8 l).mem_iff]
 constructor
 ·intro h;rcases ue _ _ _ h with h | h
  ·cases h
  ·obtain ⟨w,hw,e⟩:=List.mem_map.1 h;exact ⟨w,hw,e⟩
 ·rintro ⟨w,hw,rfl⟩;exact Eo _ _ _ (List.mem_map.2 ⟨w,hw,rfl⟩)
theorem Ar (l:List Wr):(gV l).Pairwise (fun a b=>leB a b=true):=List.pairwise_mergeSort AY AX _
theorem Aq (l:List Wr):(gV l).Nodup:=(s8 l).nodup_iff.2 (ud _ _ List.nodup_nil)
theorem E4 {α:Type} {x y:List (ByteArray×α)} (hx:(x.map (·.1)).Nodup) (hy:(y.map (·.1)).Nodup) (sx:x.Pairwise (fun a b=>leB a.1 b.1=true)) (sy:y.Pairwise (fun a b=>leB a.1 b.1=true)) (h:∀ c,c∈x↔c∈y):x=y:=by
 have nx:x.Nodup:=(List.pairwise_map.1 hx).imp (fun h e=>h (by rw [e]));have ny:y.Nodup:=(List.pairwise_map.1 hy).imp (fun h e=>h (by rw [e]));have hp:x.Perm y:=(List.perm_ext_iff_of_nodup nx ny).2 h;refine List.Perm.eq_of_pairwise (le:=fun a b=>leB a.1 b.1=true) ?_ sx sy hp;intro a b ha hb h1 h2;have e1:=AV h1 h2;have hb':=(h b).2 hb;by_cases e:a=b
 ·exact e
 ·exfalso
  obtain ⟨i,hi,rfl⟩:=List.getElem_of_mem ha;obtain ⟨j,hj,rfl⟩:=List.getElem_of_mem hb';have hi':i<(x.map (·.1)).length:=by simpa using hi
  have hj':j<(x.map (·.1)).length:=by simpa using hj
  have:(x.map (·.1))[i]=(x.map (·.1))[j]:=by simpa using e1
  have hij:i=j:=(List.getElem_inj hx).1 this;subst hij;exact e rfl
theorem yk (l:List Wr):(cg l).map (·.1)=(gV l).filter fun k=>live (cx l k):=by
 unfold cg;rw [List.filter_map,List.map_map];simp [Function.comp_def]
theorem yl (l:List Wr):((cg l).map (·.1)).Nodup:=by rw [yk];exact (Aq l).filter _
theorem ym (l:List Wr):(cg l).Pairwise (fun a b=>leB a.1 b.1=true):=by
 unfold cg;exact List.Pairwise.filter _ (List.pairwise_map.2 (Ar l))
theorem ke {l:List Wr} {k:ByteArray} (h:∀ w∈l,w.key≠k):cx l k=cel0:=by
 unfold cx;rw [List.filter_eq_nil_iff.2 (fun w hw=>by simpa using h w hw)];rfl
theorem qw {l:List Wr} {k:ByteArray} {c:Cel}:(k,c)∈cg l↔cx l k=c∧live c=true:=by
 unfold cg;rw [List.mem_filter,List.mem_map]
 constructor
 ·rintro ⟨⟨k',hk,e⟩,hl⟩;injection e with e1 e2
  subst e1;exact ⟨e2,hl⟩
 ·rintro ⟨rfl,hl⟩;refine ⟨⟨k,?_,rfl⟩,hl⟩;rw [Ap];refine Classical.byContradiction fun hn=>?_
  rw [ke (fun w hw e=>hn ⟨w,hw,e⟩)] at hl;exact absurd hl (by decide)
theorem rR (l:List ByteArray) (n:Int) (v:ByteArray):(insL l n v).Perm (v::l):=by
 unfold insL;refine (List.perm_middle).trans ?_;rw [List.take_append_drop]
end
section
open Go.RowKit
def errC (e:Nat):Value:=if e=0 then .nilIface else .iface 68 (.int .i64 e)
def fG (r:List UInt8×Nat):Value:=.tuple #[.string ⟨r.1.toArray⟩,errC r.2]
theorem iM (s:ByteArray) (a b:Nat):(s.extract a b).data.toList=(s.data.toList.drop a).take (b-a):=by
 rw [ByteArray.data_extract,Array.toList_extract]
theorem vg {w w':World} (h:Below w.drew.heap.size w.drew w'):Below w.heap.size w w':=((Below.refl _ _).drew).trans h
theorem EC (s:ByteArray) (k:Nat):(⟨(s.data.toList.take k).toArray⟩:ByteArray)=s.extract 0 k:=by
 apply cX
 rw [iM,List.drop_zero,Nat.sub_zero]
theorem Ck (s:ByteArray) (k:Nat) (hk:s.size=k+4):(s.extract k s.size).toList=s.data.toList.drop (s.data.toList.length-4)∧s.data.toList.length-4=k∧¬ s.data.toList.length<4:=by
 have hl:s.data.toList.length=k+4:=by simpa using hk
 refine ⟨?_,by omega,by omega⟩;rw [toL,iM,hl,show k+4-4=k by omega];apply List.take_of_length_le
 rw [List.length_drop];omega
theorem sY (s:ByteArray) (w:World) (hs:s.size≤140737488351232) :
 Calls Tryz.prog 154 #[.string s] w fun e w'=>e=.returned (fG (aS s.data.toList))∧Below w.heap.size w w':=by
 by_cases h4:s.size<4
 ·have h:aS s.data.toList=([],7):=by unfold aS;rw [if_pos (by simpa using h4)]
  rw [h];go_enter Tryz.func154,Tryz.ntmps154
  go_wp2;go_ret2;exact ⟨rfl,Below.refl _ _⟩
 ·obtain ⟨k,hk⟩:∃ k,s.size=k+4:=⟨s.size-4,by omega⟩;have e1:(s.size:Int)-4=(k:Int):=by omega
  have e2:(0:Int)≤(k:Int):=by omega
  have e3:(k:Int)≤(s.size:Int):=by omega
  have hk2:k≤s.size:=by omega
  have HZ:Hid ((s.extract 0 k).size≤140737488351232):=by
   have h:(s.extract 0 k).size≤140737488351232:=by simp;omega
   exact h
  obtain ⟨t1,t2,t3⟩:=Ck s k hk;by_cases hq:(s.extract k s.size).toList=di (sum (s.data.toList.take k))
  ·have HO : Hid (fG (aS s.data.toList) = .tuple #[.string (s.extract 0 k), .nilIface]) := by
    have h:aS s.data.toList=(s.data.toList.take k,0):=by
     unfold aS;rw [if_neg t3,if_pos (by rw [←t1,hq,t2]),t2]
    show fG _=_
    rw [h];unfold fG errC;rw [if_pos rfl,EC]
   have hb:((s.extract k s.size).toList == di (sum (s.data.toList.take k)))=true:=beq_iff_eq.2 hq;clear hq t1 t2 t3 hk;go_enter Tryz.func154,Tryz.ntmps154
   go_wp2;go_region_held3 (fun w'=>True) (trivial) (first | (go_at_call 113;refine (oN _ _ (by unfold maxLen;simp;omega)).mono ?_;rintro r w1 ⟨rfl,hb1⟩;have HB:=hid (vg hb1);clear hb1))
   go_wp2_with fail
   refine (bP _ _ HZ.out).mono ?_;rintro r w2 ⟨rfl,hb2⟩;have HB2:Hid (Below w.heap.size w w2):=HB.out.trans (hb2.mono HB.out.size);clear hb2;go_wp2;go_ret2;exact ⟨by rw [HO.out];rfl,HB2.out⟩
  ·have HO : Hid (fG (aS s.data.toList) = .tuple #[.string ⟨#[]⟩, .iface 68 (.int .i64 15)]) := by
    have h:aS s.data.toList=([],15):=by
     unfold aS;rw [if_neg t3,if_neg (by rw [←t1,t2];exact hq)]
    show fG _=_
    rw [h]
    rfl
   have hb:((s.extract k s.size).toList == di (sum (s.data.toList.take k)))=false:=beq_eq_false_iff_ne.2 hq;clear hq t1 t2 t3 hk;go_enter Tryz.func154,Tryz.ntmps154
   go_wp2;go_region_held3 (fun w'=>True) (trivial) (first | (go_at_call 113;refine (oN _ _ (by unfold maxLen;simp;omega)).mono ?_;rintro r w1 ⟨rfl,hb1⟩;have HB:=hid (vg hb1);clear hb1))
   go_wp2;go_ret2;exact ⟨by rw [HO.out];rfl,HB.out⟩
end
section
theorem zl {t:Tok} (h:fine t) (hs:t.own.size≤140737488351232):(putT t).length≤lenT t+10∧1≤lenT t:=by
 by_cases h0:t.own.size=0
 ·obtain ⟨_,h1,h2⟩:=Do h h0;omega
 ·rw [lm h0,List.length_append,←aj];have:=aI (n:=2 * t.own.size) (by omega);unfold lenT;omega
theorem yC {l:List Tok} (h:∀ t∈l,fine t∧t.own.size≤140737488351232):cost l≤sumT l+10 * l.length∧l.length≤sumT l:=by
 induction l with
 | nil=>exact ⟨Nat.zero_le _,Nat.le_refl _⟩
 | cons t r ih =>
  obtain ⟨i1,i2⟩:=ih (fun u hu=>h u (List.mem_cons_of_mem _ hu));obtain ⟨h1,h2⟩:=h t (List.mem_cons_self ..);obtain ⟨c1,c2⟩:=zl h1 h2;rw [yB,sumT,List.length_cons];omega
theorem lB {l:List Tok} (h:(am l 0 0).1=0):l.length≤20000∧cost l≤220000∧sumT l≤20000:=by
 have h1:=EF (b:=[]) h rfl (by omega);rw [EG,List.length_nil] at h1;obtain ⟨h2,h3⟩:=yC (ow h);omega
theorem Ei (a b:List Tok):sumT (a++b)=sumT a+sumT b:=by
 induction a with
 | nil=>rw [List.nil_append];exact (Nat.zero_add _).symm
 | cons u r ih=>rw [List.cons_append,sumT,sumT,ih];omega
theorem tw {l:List Tok} (h:(am l 0 0).1=0):∀ t∈l,t.own.size≤20000:=fun t ht=>by
 obtain ⟨i,hi,e⟩:=List.mem_iff_getElem.1 ht;have h2:=lB (Dr h (i+1));rw [List.take_succ_eq_append_getElem hi,e,Ei] at h2;have h3:sumT [t]=lenT t:=rfl;have:t.own.size≤lenT t:=by unfold lenT;omega
 omega
theorem yD {l:List Tok} (k:Nat):cost (l.take k)≤cost l:=by
 have h:=yA (l.take k) (l.drop k);rw [List.take_append_drop] at h;omega
theorem GD (l:List Tok) (k:Nat) (t:Tok) (h:l[k]? = some t):bu (l.take (k+1))=bu (l.take k)++putT t:=by
 obtain ⟨hk,e⟩:=List.getElem?_eq_some_iff.1 h;rw [List.take_succ_eq_append_getElem hk,vV,e,mj,vW,List.append_nil]
end
