import Derived.Test.YtdhognaoejiglaaGreatDoorProg
import Derived.WalkKit
import Derived.Handy
import Derived.Laws.IdiomStrings
import Derived.KernelRfl
import Derived.Lib.Hide
import Derived.Below
import Derived.Laws.OwnMore
import Derived.RegionTactic
import Derived.Deep.RegionHeld3
namespace Go.Proofs.YtdhognaoejiglaaGreatDoor
open Lib (hid)
set_option maxRecDepth 100000
set_option maxHeartbeats 8000000
section
open Go.RowKit
def gJ (c:UInt8):Value:=.int .u8 (c.toNat:Int)
theorem gS:(Tryz.prog.info? 5).map (fun i=>(i.zero,i.size,i.bytes))=some (some (.int .u8 0),1,1):=by kernel_rfl
def bN (w:World) (base:Nat) (v:Value) (l:List UInt8):Prop:=w.ownsRow base 5 1 v l.length (l.map gJ)
theorem CG (w:World) (base:Nat):bN w base (.slice none 0 0) []:=World.ownsRow_nil _ _ _ _
theorem bN.alloc {w:World} {base:Nat} {v:Value} {l:List UInt8} (h:bN w base v l) (o:Obj):bN (w.alloc o) base v l:=World.ownsRow.alloc h o
theorem me {w:World} {ops:Array Oper} {rest:List Oper} {o:Oper} {a:Act} {Q:Exit→Act→World→Prop} (hgd:o.guard=none) (s x:Operand)
 (ho:o.op=.call { callee:=.builtin .append,args:=#[s,x],argTypes:=#[142,142] })
 (base:Nat) (v:Value) (l:List UInt8) (hs:a.eval s=v) (hown:bN w base v l)
 (ad:Addr) (c:Nat) (hx:a.eval x=.slice (some ad) 1 c) (b:Int) (d:UInt8) (hcell:w.cell? (ad.add 0)=some (.int .u8 b)) (hb:b=(d.toNat:Int))
 (hlen:l.length+1≤140737488355328) (hbase:base≤w.heap.size)
 (h:∀ v' w',bN w' base v' (l++[d])→w.grownBy w' v.ownBlock→v'≠.slice none 0 0→wpList Tryz.prog ops Q rest (a.put o.dst v') w'):wpList Tryz.prog ops Q (o::rest) a w:=by
 obtain ⟨i0,hi,hz0,hz1,hz2⟩:=info_parts gS;refine wpList_append_own w hgd s x 142 ho base 5 i0 (.int .u8 0) 1 1 Tryz.underlying142 hi hz0 hz1 hz2 rfl (by decide) v l.length (l.map gJ) hs hown ad 1 c [gJ d] hx rfl ?_ ?_ (by unfold maxLen;omega) (by omega) hbase ?_
 ·intro j u hj
  match j,hj with
  | 0,hj=>simp at hj;subst hj;rw [hcell,hb];rfl
 ·intro u hu;simp at hu;subst hu;rfl
 ·intro v' w' h1 h2 h3;refine h v' w' ?_ h2 ?_
  ·unfold bN;rw [List.length_append,List.map_append];exact h1
  ·intro e;have:=(h3.1 e).2;omega
theorem tB {w:World} {base:Nat} {v:Value} {l:List UInt8} (h:bN w base v l) :
 (convert 142 9 v).run Tryz.prog w=.ok (.string ⟨l.toArray⟩) w:=by
 have hall:=h;obtain ⟨h0,h1⟩:=h;rcases h1 with ⟨rfl,hn⟩ | ⟨g,cap,cur,rfl,hb,hh,hc,hm,hs,ht⟩
 ·have:l=[]:=List.length_eq_zero_iff.1 hn;subst this;rw [run_convert_bytes_string w _ _ _ _ _ _ Tryz.underlying142 Tryz.underlying5 Tryz.underlying9]
  rfl
 ·refine run_convert_bytes_back w _ _ _ _ _ _ Tryz.underlying142 Tryz.underlying5 Tryz.underlying9 fun j hj=>?_
  exact World.ownsRow.cells hall rfl j (gJ l[j]) (by simp [List.getElem?_eq_getElem hj])
end
section
open Go.RowKit
theorem rM (x:Int) (h0 : -9223372036854775808≤x) (h1:x≤9223372036854775807):bits .xor .i64 (-1) x=-x-1:=by
 show IntKind.i64.wrap ((BitVec.ofInt 64 (-1) ^^^ BitVec.ofInt 64 x).toNat:Int)=_
 have e1:BitVec.ofInt 64 (-1)=BitVec.allOnes 64:=by decide
 have e2:(BitVec.ofInt 64 x).toNat=(x % 18446744073709551616).toNat:=by rw [BitVec.toNat_ofInt];rfl
 rw [e1,BitVec.allOnes_xor,BitVec.toNat_not,e2,IntKind.wrap_i64];omega
theorem lA {k:IntKind} {a b:Int} (h:a=b):Ending.returned (.int k a)=.returned (.int k b):=by rw [h]
def zigN (n:Int):Int:=if n<0 then -2 * n-1 else 2 * n
def zagN (u:Int):Int:=if u % 2=1 then -(u / 2)-1 else u / 2
theorem GT (n:Int) (w:World) (h0 : -9223372036854775808≤n) (h1:n≤9223372036854775807) :
 Calls Tryz.prog 180 #[.int .i64 n] w fun e w'=>e=.returned (.int .u64 (zigN n))∧w=w':=by
 by_cases hneg:n<0
 ·have hn:Hid (bits .xor .i64 (-1) n=-n-1):=hid (rM n h0 h1);go_enter Tryz.func180,Tryz.ntmps180
  go_wp2;go_ret;refine ⟨lA ?_,rfl⟩;rw [hn.out,zigN,if_pos hneg];simp only [IntKind.wrap_u64];omega
 ·have h':0≤n:=by omega
  go_enter Tryz.func180,Tryz.ntmps180
  go_wp2;go_ret;exact ⟨lA (by rw [zigN,if_neg (by omega)]),rfl⟩
theorem GP (n:Int) (w:World) (h0:0≤n) (h1:n≤18446744073709551615) :
 Calls Tryz.prog 222 #[.int .u64 n] w fun e w'=>e=.returned (.int .i64 (zagN n))∧w=w':=by
 by_cases h:n % 2=1
 ·have hb:(n % 2 == 1)=true:=by simpa using h
  have hn:Hid (bits .xor .i64 (-1) (n / 2)=-(n / 2)-1):=hid (rM (n / 2) (by omega) (by omega));have hh:=hid h;clear h;go_enter Tryz.func222,Tryz.ntmps222
  go_wp2;go_ret;exact ⟨lA (by show bits .xor .i64 (-1) (n / 2)=_;rw [hn.out,zagN,if_pos hh.out]),rfl⟩
 ·have hb:(n % 2 == 1)=false:=by simpa using h
  have hh:=hid h;clear h;go_enter Tryz.func222,Tryz.ntmps222
  go_wp2;go_ret;exact ⟨lA (by rw [zagN,if_neg hh.out]),rfl⟩
end
section
theorem iD (l:List UInt8):(⟨l.toArray⟩:ByteArray).data.toList=l:=rfl
theorem cq (l:List UInt8):(⟨l.toArray⟩:ByteArray).size=l.length:=by simp [ByteArray.size]
theorem aj (s:ByteArray):s.size=s.data.toList.length:=(Array.length_toList (xs:=s.data)).symm
theorem jX {a b:ByteArray} (h:a.data.toList=b.data.toList):a=b:=by
 cases a;cases b;simp at h;subst h;rfl
theorem bW (s:ByteArray):(⟨s.data.toList.toArray⟩:ByteArray)=s:=by cases s;simp
theorem gG (a b:ByteArray):(a++b).data.toList=a.data.toList++b.data.toList:=by simp
theorem pR (a b:ByteArray):(a++b).size=a.size+b.size:=by simp
theorem fX (s:ByteArray) (i j:Nat):(s.extract i j).data.toList=(s.data.toList.take j).drop i:=by
 simp [List.drop_take]
end
section
theorem x4 (a b c d:Nat):(a ^^^ b) ^^^ (c ^^^ d)=(a ^^^ c) ^^^ (b ^^^ d):=by
 rw [Nat.xor_assoc,Nat.xor_assoc,←Nat.xor_assoc b,Nat.xor_comm b c,Nat.xor_assoc c]
def st (x:Nat):Nat:=if x % 2=1 then x / 2 ^^^ 2197175160 else x / 2
def stn:Nat→Nat→Nat
 | 0,x=>x
 | k+1,x=>st (stn k x)
def pass (x:Nat):Nat:=stn 8 x
theorem tR {x:Nat} (h:x % 2=1):st x=x / 2 ^^^ 2197175160:=if_pos h
theorem tQ {x:Nat} (h:x % 2≠1):st x=x / 2:=if_neg h
theorem Ea {x:Nat} (h:x<4294967296):st x<4294967296:=by
 have h2:x / 2<2 ^ 32:=by omega
 by_cases hx:x % 2=1
 ·rw [tR hx];exact Nat.xor_lt_two_pow (n:=32) h2 (by decide)
 ·rw [tQ hx];omega
theorem tX (k:Nat) {x:Nat} (h:x<4294967296):stn k x<4294967296:=by
 induction k with
 | zero=>exact h
 | succ k ih=>exact Ea ih
theorem xlt {a b:Nat} (ha:a<4294967296) (hb:b<4294967296):a ^^^ b<4294967296:=Nat.xor_lt_two_pow (n:=32) ha hb
theorem CY {x:Nat} (h:x<4294967296):pass x<4294967296:=tX 8 h
def run (c:Nat):List UInt8→Nat
 | []=>c
 | b::r=>run (pass (c ^^^ b.toNat)) r
theorem kc (b:UInt8):b.toNat<4294967296:=by have:=b.toNat_lt;omega
theorem Dx (l r:List UInt8):∀ c,run c (l++r)=run (run c l) r:=by
 induction l with
 | nil=>intro c;rfl
 | cons b l ih=>intro c;exact ih _
theorem Dy (c:Nat) (l:List UInt8) (b:UInt8):run c (l++[b])=pass (run c l ^^^ b.toNat):=Dx l [b] c
theorem tz (l:List UInt8):∀ {c},c<4294967296→run c l<4294967296:=by
 induction l with
 | nil=>intro c h;exact h
 | cons b l ih=>intro c h;exact ih (CY (xlt h (kc b)))
theorem Dz (c:Nat) (l:List UInt8) (k:Nat) (h:k<l.length):run c (l.take (k+1))=pass (run c (l.take k) ^^^ l[k].toNat):=by
 rw [List.take_succ_eq_append_getElem h,Dy]
def inv (x:Nat):Nat:=x ^^^ 4294967295
theorem nG {x:Nat} (h:x<4294967296):inv x<4294967296:=xlt h (by decide)
def more (c:Nat) (l:List UInt8):Nat:=inv (run (inv c) l)
def sum (l:List UInt8):Nat:=more 0 l
theorem Bw {c:Nat} (l:List UInt8) (h:c<4294967296):more c l<4294967296:=nG (tz l (nG h))
theorem Ek (l:List UInt8):sum l<4294967296:=Bw l (by decide)
def di (n:Nat):List UInt8:=[UInt8.ofNat n,UInt8.ofNat (n / 256),UInt8.ofNat (n / 65536),UInt8.ofNat (n / 16777216)]
def bi (l:List UInt8):List UInt8:=l++di (sum l)
theorem uk (n:Nat):(di n).length=4:=rfl
def aS (l:List UInt8):List UInt8×Nat :=
 if l.length<4 then ([],7) else if l.drop (l.length-4)=di (sum (l.take (l.length-4))) then (l.take (l.length-4),0) else ([],15)
def val:List UInt8→Nat
 | []=>0
 | b::r=>b.toNat ^^^ 256 * val r
theorem jf (s:List UInt8):aS (bi s)=(s,0):=by
 unfold aS bi;rw [List.length_append,uk,if_neg (by omega),show s.length+4-4=s.length by omega,List.take_left',List.drop_left',if_pos rfl]
 ·rfl
 ·rfl
end
section
open Go.RowKit
theorem gO {w w':World} (h:Below w.heap.size w w'):w.grownBy w' none:=⟨h.os,h.tape,h.output,h.size,fun k hk _=>h.block k hk⟩
theorem cJ {w w1 w2:World} {S:Nat} {row:Option Nat} (h:w.grownBy w1 (some S)) (h2:w1.grownBy w2 row) (hr:∀ k,row=some k→k=S∨w.heap.size≤k):w.grownBy w2 (some S):=by
 refine ⟨h2.os.trans h.os,h2.tape.trans h.tape,h2.output.trans h.output,Nat.le_trans h.size h2.size,fun k hk hne=>?_⟩;rw [h2.block k (Nat.lt_of_lt_of_le hk h.size) (fun e=>by
  rcases hr k e.symm with rfl | h
  ·exact hne rfl
  ·omega)]
 exact h.block k hk hne
end
section
def smC (l:List UInt8) (a b m n:Nat):Prop :=
 n≤m∧(∀ j,j<n→l.getD (a+j) 0=l.getD (a+j-b) 0)∧(n<m→l.getD (a+n) 0≠l.getD (a+n-b) 0)
def sm (l:List UInt8) (a b:Nat):Nat→Nat
 | 0=>0
 | m+1=>if sm l a b m<m then sm l a b m else if l.getD (a+m) 0=l.getD (a+m-b) 0 then m+1 else m
theorem oF (l:List UInt8) (a b m:Nat):smC l a b m (sm l a b m):=by
 induction m with
 | zero=>exact ⟨Nat.le_refl _,fun j h=>by simp [sm] at h,fun h=>by simp [sm] at h⟩
 | succ m ih =>
  obtain ⟨h1,h2,h3⟩:=ih;rw [sm];by_cases h:sm l a b m<m
  ·rw [if_pos h];exact ⟨by omega,h2,fun _=>h3 h⟩
  ·rw [if_neg h];have e:sm l a b m=m:=by omega
   rw [e] at h2;by_cases hq:l.getD (a+m) 0=l.getD (a+m-b) 0
   ·rw [if_pos hq];refine ⟨Nat.le_refl _,fun j hj=>?_,fun hj=>absurd hj (Nat.lt_irrefl _)⟩;by_cases hjm:j=m
    ·subst hjm;exact hq
    ·exact h2 j (by omega)
   ·rw [if_neg hq];exact ⟨by omega,h2,fun _=>hq⟩
theorem E2 {l:List UInt8} {a b m n n':Nat} (h:smC l a b m n) (h':smC l a b m n'):n=n':=by
 obtain ⟨h1,h2,h3⟩:=h;obtain ⟨k1,k2,k3⟩:=h';rcases Nat.lt_trichotomy n n' with hl | hl | hl
 ·exact absurd (k2 n hl) (h3 (by omega))
 ·exact hl
 ·exact absurd (h2 n' hl) (k3 (by omega))
theorem tJ {l:List UInt8} {a b m n:Nat} (h:smC l a b m n):sm l a b m=n:=E2 (oF l a b m) h
theorem tK (l:List UInt8) (a b m:Nat):sm l a b m≤m:=(oF l a b m).1
def dR (l:List UInt8) (a m lo hi b n:Nat):Prop :=
 (b=0∧n=0∧∀ k,lo≤k→k≤hi→sm l a k m<4) ∨
 (lo≤b∧b≤hi∧4≤n∧n=sm l a b m∧(∀ k,lo≤k→k≤hi→sm l a k m≤n)∧∀ k,lo≤k→k<b→sm l a k m<n)
theorem xD {l:List UInt8} {a m lo hi b n b' n':Nat} (h:dR l a m lo hi b n) (h':dR l a m lo hi b' n'):b=b'∧n=n':=by
 rcases h with ⟨h1,h2,h3⟩ | ⟨h1,h2,h3,h4,h5,h6⟩
 ·rcases h' with ⟨k1,k2,k3⟩ | ⟨k1,k2,k3,k4,k5,k6⟩
  ·exact ⟨by omega,by omega⟩
  ·have:=h3 b' k1 k2;omega
 ·rcases h' with ⟨k1,k2,k3⟩ | ⟨k1,k2,k3,k4,k5,k6⟩
  ·have:=k3 b h1 h2;omega
  ·have e1:=h5 b' k1 k2;have e2:=k5 b h1 h2;refine ⟨?_,by omega⟩;rcases Nat.lt_trichotomy b b' with hl | hl | hl
   ·have:=k6 b h1 hl;omega
   ·exact hl
   ·have:=h6 b' k1 hl;omega
theorem qa {l:List UInt8} {a m lo hi b n:Nat} (h:dR l a m lo hi b n) (hlo:lo≤hi+1) (h4:4≤sm l a (hi+1) m) (hn:n<sm l a (hi+1) m):dR l a m lo (hi+1) (hi+1) (sm l a (hi+1) m):=by
 have hall:∀ k,lo≤k→k<hi+1→sm l a k m<sm l a (hi+1) m:=fun k h1 h2=>by
  rcases h with ⟨i1,i2,i3⟩ | ⟨i1,i2,i3,i4,i5,i6⟩
  ·have:=i3 k h1 (by omega);omega
  ·have:=i5 k h1 (by omega);omega
 refine .inr ⟨hlo,Nat.le_refl _,h4,rfl,fun k h1 h2=>?_,fun k h1 h2=>hall k h1 h2⟩;by_cases e:k=hi+1
 ·subst e;exact Nat.le_refl _
 ·exact Nat.le_of_lt (hall k h1 (by omega))
theorem qb {l:List UInt8} {a m lo hi b n:Nat} (h:dR l a m lo hi b n) (hn:¬ (4≤sm l a (hi+1) m∧n<sm l a (hi+1) m)):dR l a m lo (hi+1) b n:=by
 rcases h with ⟨i1,i2,i3⟩ | ⟨i1,i2,i3,i4,i5,i6⟩
 ·refine .inl ⟨i1,i2,fun k h1 h2=>?_⟩;by_cases e:k=hi+1
  ·subst e;omega
  ·exact i3 k h1 (by omega)
 ·refine .inr ⟨i1,by omega,i3,i4,fun k h1 h2=>?_,i6⟩;by_cases e:k=hi+1
  ·subst e;omega
  ·exact i5 k h1 (by omega)
theorem xC {l:List UInt8} {a m lo hi b n hi':Nat} (h:dR l a m lo hi b n) (hn:n=m) (hm:0<m) (hh:hi≤hi'):dR l a m lo hi' b n:=by
 rcases h with ⟨i1,i2,i3⟩ | ⟨i1,i2,i3,i4,i5,i6⟩
 ·omega
 ·exact .inr ⟨i1,by omega,i3,i4,fun k h1 h2=>by rw [hn];exact tK _ _ _ _,i6⟩
def best (l:List UInt8) (a m:Nat):Nat→Nat×Nat
 | 0=>(0,0)
 | k+1=>if 4≤sm l a (k+1) m∧(best l a m k).2<sm l a (k+1) m then (k+1,sm l a (k+1) m) else best l a m k
theorem qd (l:List UInt8) (a m k:Nat):dR l a m 1 k (best l a m k).1 (best l a m k).2:=by
 induction k with
 | zero=>exact .inl ⟨rfl,rfl,fun k h1 h2=>by omega⟩
 | succ k ih =>
  rw [best];by_cases h:4≤sm l a (k+1) m∧(best l a m k).2<sm l a (k+1) m
  ·rw [if_pos h];exact qa ih (by omega) h.1 h.2
  ·rw [if_neg h];exact qb ih h
theorem qc {l:List UInt8} {a m k b n:Nat} (h:dR l a m 1 k b n):best l a m k=(b,n):=by
 obtain ⟨h1,h2⟩:=xD (qd l a m k) h;exact Prod.ext h1 h2
def find (l:List UInt8) (a:Nat):Nat×Nat:=if a<l.length then best l a (min 67 (l.length-a)) (min 1024 a) else (0,0)
theorem qV {l:List UInt8} {a:Nat} (h:a<l.length):find l a=best l a (min 67 (l.length-a)) (min 1024 a):=by unfold find;rw [if_pos h]
theorem zk {l:List UInt8} {a:Nat} (h:¬ a<l.length):find l a=(0,0):=by unfold find;rw [if_neg h]
theorem qU (l:List UInt8) (a:Nat):(find l a=(0,0)∧(a<l.length→∀ k,1≤k→k≤min 1024 a→sm l a k (min 67 (l.length-a))<4)) ∨
 ∃ b n,find l a=(b,n)∧a<l.length∧1≤b∧b≤1024∧b≤a∧4≤n∧n≤67∧a+n≤l.length∧smC l a b (min 67 (l.length-a)) n ∧
  (∀ k,1≤k→k≤min 1024 a→sm l a k (min 67 (l.length-a))≤n)∧∀ k,1≤k→k<b→sm l a k (min 67 (l.length-a))<n:=by
 by_cases h:a<l.length
 ·rw [qV h];obtain ⟨b,n,e⟩:∃ b n,best l a (min 67 (l.length-a)) (min 1024 a)=(b,n):=⟨_,_,rfl⟩;have hb:=qd l a (min 67 (l.length-a)) (min 1024 a);rw [e] at hb;rw [e];rcases hb with ⟨h1,h2,h3⟩ | ⟨h1,h2,h3,h4,h5,h6⟩
  ·simp only at h1 h2
   subst h1 h2;exact .inl ⟨rfl,fun _=>h3⟩
  ·simp only at h1 h2 h3 h4 h5 h6
   have hi:=oF l a b (min 67 (l.length-a));rw [←h4] at hi;have:=hi.1;exact .inr ⟨b,n,rfl,h,h1,by omega,by omega,h3,by omega,by omega,hi,h5,h6⟩
 ·exact .inl ⟨zk h,fun h'=>absurd h' h⟩
structure Tok where
 own:ByteArray
 back:Int
 size:Int
deriving DecidableEq
def ownT (s:List UInt8):List Tok:=if s=[] then [] else [⟨⟨s.toArray⟩,0,0⟩]
def repT (b n:Nat):Tok:=⟨⟨#[]⟩,b,n⟩
theorem tg:ownT []=[]:=rfl
theorem tf {s:List UInt8} (h:s≠[]):ownT s=[⟨⟨s.toArray⟩,0,0⟩]:=by unfold ownT;rw [if_neg h]
def tks (l:List UInt8):Nat→Nat→Nat→List Tok
 | 0,fr,a=>ownT ((l.take a).drop fr)
 | f+1,fr,a =>
  if a<l.length then
   if (find l a).2=0 then tks l f fr (a+1)
   else ownT ((l.take a).drop fr)++repT (find l a).1 (find l a).2::tks l f (a+(find l a).2) (a+(find l a).2)
  else ownT ((l.take a).drop fr)
def toks (l:List UInt8):List Tok:=tks l l.length 0 0
theorem uq {l:List UInt8} {f fr a:Nat} (h:¬ a<l.length):tks l f fr a=ownT ((l.take a).drop fr):=by
 cases f with
 | zero=>rfl
 | succ f=>rw [tks,if_neg h]
theorem ut {l:List UInt8} {f fr a:Nat} (h:a<l.length) (hf:(find l a).2=0):tks l (f+1) fr a=tks l f fr (a+1):=by
 rw [tks,if_pos h,if_pos hf]
theorem ur {l:List UInt8} {f fr a b n:Nat} (h:a<l.length) (hf:find l a=(b,n)) (hn:n≠0):tks l (f+1) fr a=ownT ((l.take a).drop fr)++repT b n::tks l f (a+n) (a+n):=by
 rw [tks,if_pos h,hf,if_neg hn]
end
section
open Go.RowKit
end
section
open Go.RowKit
def cK (a n:Int):Int:=(a % 18446744073709551616) % n
theorem dW {a n:Int} (h:0<n):0≤cK a n∧cK a n<n:=⟨Int.emod_nonneg _ (by omega),Int.emod_lt_of_pos _ h⟩
theorem eL (a n:Int) (w:World) (h0:0<n) (h1:n≤9223372036854775807) :
 Calls Tryz.prog 14 #[.int .i64 a,.int .i64 n] w fun e w'=>e=.returned (.int .i64 (cK a n))∧w=w':=by
 obtain ⟨q,hq'⟩:∃ q,IntKind.u64.wrap a=q:=⟨_,rfl⟩;have hq:0≤q∧q≤18446744073709551615:=by rw [←hq',IntKind.wrap_u64];omega
 have hr:=Int.emod_nonneg q (show n≠0 by omega);have hr2:=Int.emod_lt_of_pos q h0;have hw:Hid (wrap64 (q % n)=cK a n):=by
  rw [IntWalk.wrap64_in _ ⟨by omega,by omega⟩,←hq',IntKind.wrap_u64];rfl
 clear hr hr2;go_enter Tryz.func14,Tryz.ntmps14
 go_wp2;go_ret;refine ⟨?_,rfl⟩;rw [←hw.out];rfl
end
