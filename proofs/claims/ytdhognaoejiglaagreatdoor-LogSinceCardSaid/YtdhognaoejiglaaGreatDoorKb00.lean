import Derived.WalkKit
import Derived.Handy
import Derived.Below
import Derived.Laws.OwnMore
import Derived.Lib.Hide
import Derived.Test.YtdhognaoejiglaaGreatDoorProg
import Derived.KernelRfl
import Derived.Deep.Slices
import Derived.Deep.Fields
import Derived.ChangeSame
import Derived.SizedLaws
import Derived.ProofKit
import Derived.OpenShut
import Derived.LaidEql
import Derived.Stop.Asserts
import Derived.RowKitTokens
namespace Go.Proofs.YtdhognaoejiglaaGreatDoor
open Lib (hid)
set_option maxRecDepth 100000
set_option maxHeartbeats 8000000
section
open Go.RowKit
structure But (F:Nat→Prop) (w w':World):Prop where
 os:w'.os=w.os
 tape:w'.tape=w.tape
 output:w'.output=w.output
 size:w.heap.size≤w'.heap.size
 block:∀ k,k<w.heap.size→¬ F k→w'.heap[k]? = w.heap[k]?
theorem But.refl (F:Nat→Prop) (w:World):But F w w:=⟨rfl,rfl,rfl,Nat.le_refl _,fun _ _ _=>rfl⟩
theorem But.trans {F:Nat→Prop} {a b c:World} (h:But F a b) (k:But F b c):But F a c :=
 ⟨k.os.trans h.os,k.tape.trans h.tape,k.output.trans h.output,Nat.le_trans h.size k.size,fun i hi hn=>(k.block i (Nat.lt_of_lt_of_le hi h.size) hn).trans (h.block i hi hn)⟩
theorem But.of_below {F:Nat→Prop} {w w':World} (h:Below w.heap.size w w'):But F w w':=⟨h.os,h.tape,h.output,h.size,fun k hk _=>h.block k hk⟩
theorem But.below {F:Nat→Prop} {w w':World} {B:Nat} (h:But F w w') (hB:B≤w.heap.size) (hF:∀ k,F k→B≤k):Below B w w' :=
 ⟨h.os,h.tape,h.output,h.size,fun k hk=>h.block k (Nat.lt_of_lt_of_le hk hB) (fun e=>by have:=hF k e;omega)⟩
theorem But.setCell {F:Nat→Prop} {a w:World} (h:But F a w) {p:Addr} (hp:F p.block∨a.heap.size≤p.block) (u:Value):But F a (w.setCell p u) :=
 ⟨h.os,h.tape,h.output,by simpa [World.setCell] using h.size,fun k hk hn=>(Below.heap_setCell _ _ _ _ (fun e=>by
  subst e;rcases hp with hp | hp
  ·exact hn hp
  ·omega)).trans (h.block k hk hn)⟩
theorem But.below_on {F:Nat→Prop} {a b c:World} (h:But F a b) (k:Below b.heap.size b c):But F a c:=h.trans (But.of_below k)
theorem But.drew {F:Nat→Prop} {a w:World} (h:But F a w):But F a w.drew:=⟨h.os,h.tape,h.output,h.size,h.block⟩
theorem But.alloc {F:Nat→Prop} {a w:World} (h:But F a w) (o:Obj):But F a (w.alloc o):=h.below_on ((Below.refl _ _).alloc (Nat.le_refl _) o)
theorem But.grown {F:Nat→Prop} {a w w':World} {row:Option Nat} (h:But F a w) (hg:w.grownBy w' row) (hr:∀ k,row=some k→F k∨a.heap.size≤k):But F a w' :=
 ⟨hg.os.trans h.os,hg.tape.trans h.tape,hg.output.trans h.output,Nat.le_trans h.size hg.size,fun k hk hn=>(hg.block k (Nat.lt_of_lt_of_le hk h.size) (fun e=>by
  rcases hr k e.symm with e | e
  ·exact hn e
  ·omega)).trans (h.block k hk hn)⟩
theorem But.on {F:Nat→Prop} {W w w':World} {B:Nat} (h:Below B W w) (k:But F w w') (hB:B≤w.heap.size) (hF:∀ i,F i→B≤i):Below B W w':=h.trans (k.below hB hF)
theorem cT {F:Nat→Prop} {w w':World} {base:Nat} {e:TypeId} {size n:Nat} {v:Value} {xs:List Value} (h:w.ownsRow base e size v n xs) (hb:But F w w') (hn:∀ k,v.ownBlock=some k→¬ F k):w'.ownsRow base e size v n xs:=by
 refine ⟨h.1,?_⟩;rcases h.2 with h1 | ⟨g,cap,cur,hv,hg,hh,r⟩
 ·exact .inl h1
 ·exact .inr ⟨g,cap,cur,hv,hg,(hb.block g (Array.getElem?_eq_some_iff.1 hh).1 (hn g (by rw [hv];rfl))).trans hh,r⟩
theorem i7 {w:World} {base:Nat} {e t:TypeId} {size n:Nat} {v:Value} {xs:List Value} (h:w.ownsRow base e size v n xs) {P:Nat} {c:Array Value} {z:Nat×Nat} (hP:w.heap[P]? = some (.cells c t z)) (he:e≠t):v.ownBlock≠some P:=by
 intro k;rcases h.2 with ⟨rfl,_⟩ | ⟨g,cap,cur,rfl,_,hh,_⟩
 ·cases k
 have e1:g=P:=Option.some.inj k;subst e1;rw [hh] at hP;simp only [Option.some.injEq,Obj.cells.injEq] at hP
 exact he hP.2.1
end
section
def putL (n:Nat):List UInt8:=if n<128 then [UInt8.ofNat n] else UInt8.ofNat (n % 128+128)::putL (n / 128)
termination_by n
decreasing_by omega
def valL:List UInt8→Nat
 | []=>0
 | c::r=>c.toNat % 128+128 * valL r
def scan:Nat→List UInt8→Nat ⊕ Nat
 | _,[]=>.inl 7
 | i,c::r=>if i=9∧1<c.toNat then .inl 4 else if 0<i∧c.toNat=0 then .inl 3 else if c.toNat<128 then .inr (i+1) else scan (i+1) r
def getL (l:List UInt8):Nat×Nat×Nat:=match scan 0 l with
 | .inl e=>(0,0,e)
 | .inr k=>(valL (l.take k),k,0)
theorem gl {n:Nat} (h:n<128):putL n=[UInt8.ofNat n]:=by rw [putL,if_pos h]
theorem gk {n:Nat} (h:¬ n<128):putL n=UInt8.ofNat (n % 128+128)::putL (n / 128):=by rw [putL,if_neg h]
theorem ia (n:Nat):0<(putL n).length:=by
 by_cases h:n<128
 ·rw [gl h];simp
 ·rw [gk h];simp
theorem fh {n:Nat} (h:n<256):(UInt8.ofNat n).toNat=n:=by simp;omega
theorem ld (c:UInt8):UInt8.ofNat c.toNat=c:=by simp
theorem FG (n:Nat):valL (putL n)=n:=by
 induction n using Nat.strongRecOn with
 | ind n ih =>
  by_cases h:n<128
  ·rw [gl h,valL,valL,fh (by omega)];omega
  ·rw [gk h,valL,fh (by omega),ih (n / 128) (by omega)];omega
theorem og (j:Nat):∀ n,n<128 ^ j→0<j→(putL n).length≤j:=by
 induction j with
 | zero=>intro n _ h;omega
 | succ j ih =>
  intro n hn _;by_cases h:n<128
  ·rw [gl h];simp
  ·rw [gk h,List.length_cons];have hj:0<j:=by
    rcases Nat.eq_zero_or_pos j with rfl | h'
    ·simp at hn;omega
    ·exact h'
   have h2:n / 128<128 ^ j:=by
    rw [Nat.pow_succ] at hn;exact Nat.div_lt_of_lt_mul (by rw [Nat.mul_comm];exact hn)
   have:=ih (n / 128) h2 hj;omega
theorem aI {n:Nat} (h:n<18446744073709551616):(putL n).length≤10 :=
 og 10 n (Nat.lt_of_lt_of_le h (by decide)) (by decide)
theorem pow9:128 ^ 9=9223372036854775808:=by decide
theorem DH (more:List UInt8) (m:Nat):∀ i,m * 128 ^ i<18446744073709551616→(0<i→0<m)→i≤9→scan i (putL m++more)=.inr (i+(putL m).length):=by
 induction m using Nat.strongRecOn with
 | ind m ih =>
  intro i hm hi h9;by_cases h:m<128
  ·rw [gl h,List.cons_append,List.nil_append,scan,fh (by omega)];have n1:¬ (i=9∧1<m):=by
    rintro ⟨rfl,h1⟩;rw [pow9] at hm;omega
   rw [if_neg n1,if_neg (by omega),if_pos h];rfl
  ·rw [gk h,List.cons_append,scan,fh (by omega)];have n9:i≠9:=by rintro rfl;rw [pow9] at hm;omega
   rw [if_neg (by omega),if_neg (by omega),if_neg (by omega)];have hm2:m / 128 * 128 ^ (i+1)<18446744073709551616:=by
    rw [Nat.pow_succ,Nat.mul_comm (128 ^ i),←Nat.mul_assoc];exact Nat.lt_of_le_of_lt (Nat.mul_le_mul_right _ (Nat.div_mul_le_self m 128)) hm
   rw [ih (m / 128) (by omega) (i+1) hm2 (by omega) (by omega),List.length_cons]
   congr 1;omega
theorem fB (m:Nat) (more:List UInt8) (hm:m<18446744073709551616):getL (putL m++more)=(m,(putL m).length,0):=by
 unfold getL;rw [DH more m 0 (by simpa using hm) (by omega) (by omega)];simp [FG]
theorem DG (l:List UInt8):∀ i k,scan i l=.inr k→∃ j,k=i+j∧1≤j∧j≤l.length∧putL (valL (l.take j))=l.take j∧(0<i→0<valL (l.take j)):=by
 induction l with
 | nil=>intro i k h;simp [scan] at h
 | cons c r ih =>
  intro i k h;have hc:=c.toNat_lt;rw [scan] at h;by_cases h1:i=9∧1<c.toNat
  ·rw [if_pos h1] at h;cases h
  ·rw [if_neg h1] at h;by_cases h2:0<i∧c.toNat=0
   ·rw [if_pos h2] at h;cases h
   ·rw [if_neg h2] at h;by_cases h3:c.toNat<128
    ·rw [if_pos h3] at h;injection h with h
     have hv:valL [c]=c.toNat:=by rw [valL,valL];omega
     refine ⟨1,h.symm,by omega,by simp,?_,?_⟩
     ·rw [List.take_succ_cons,List.take_zero,hv,gl h3,ld]
     ·intro hi;rw [List.take_succ_cons,List.take_zero,hv];omega
    ·rw [if_neg h3] at h;obtain ⟨j,e1,e2,e3,e4,e5⟩:=ih (i+1) k h;have hp:=e5 (by omega);refine ⟨j+1,by omega,by omega,by simp;omega,?_,?_⟩
     ·rw [List.take_succ_cons,valL,gk (by omega)];rw [show (c.toNat % 128+128 * valL (List.take j r)) / 128=valL (List.take j r) by omega,show (c.toNat % 128+128 * valL (List.take j r)) % 128+128=c.toNat by omega,e4,ld]
     ·intro _;rw [List.take_succ_cons,valL];omega
theorem gb {l:List UInt8} {n k:Nat} (h:getL l=(n,k,0)):1≤k∧k≤l.length∧putL n=l.take k:=by
 unfold getL at h;split at h
 ·rename_i e he;simp only [Prod.mk.injEq] at h
  obtain ⟨_,_,rfl⟩:=h
  exfalso
  have:∀ (l:List UInt8) (i:Nat),scan i l≠.inl 0:=by
   intro l
   induction l with
   | nil=>intro i h;simp [scan] at h
   | cons c r ih =>
    intro i h;rw [scan] at h;split at h
    ·cases h
    ·split at h
     ·cases h
     ·split at h
      ·cases h
      ·exact ih _ h
  exact this _ _ he
 ·rename_i k' hk;simp only [Prod.mk.injEq] at h
  obtain ⟨rfl,rfl,_⟩:=h;obtain ⟨j,e1,e2,e3,e4,_⟩:=DG l 0 k' hk;obtain rfl:k'=j:=by omega
  exact ⟨e2,e3,e4⟩
theorem tC (l:List UInt8):∀ (i e:Nat),scan i l=.inl e→e=7∨e=4∨e=3:=by
 induction l with
 | nil=>intro i e h;simp [scan] at h;omega
 | cons c r ih =>
  intro i e h;rw [scan] at h;split at h
  ·injection h with h;omega
  ·split at h
   ·injection h with h;omega
   ·split at h
    ·cases h
    ·exact ih _ _ h
theorem zB {l:List UInt8} (h:(getL l).2.2≠0):(getL l).1=0∧(getL l).2.1=0∧((getL l).2.2=7∨(getL l).2.2=4∨(getL l).2.2=3):=by
 unfold getL at h ⊢;split
 ·rename_i e he;exact ⟨rfl,rfl,tC _ _ _ he⟩
 ·rename_i k hk;simp [hk] at h
theorem zC (l:List UInt8):(getL l).2.2=0∨(getL l).2.2=7∨(getL l).2.2=4∨(getL l).2.2=3:=by
 by_cases h:(getL l).2.2=0
 ·exact .inl h
 ·exact .inr (zB h).2.2
theorem FF (a:List UInt8) (c:UInt8):valL (a++[c])=valL a+c.toNat % 128 * 128 ^ a.length:=by
 induction a with
 | nil=>simp [valL]
 | cons d r ih =>
  rw [List.cons_append,valL,ih,valL,List.length_cons,Nat.pow_succ,Nat.mul_add,←Nat.add_assoc]
  congr 1
  rw [Nat.mul_comm,Nat.mul_assoc]
theorem pd (a:List UInt8):valL a<128 ^ a.length:=by
 induction a with
 | nil=>simp [valL]
 | cons d r ih =>
  rw [valL,List.length_cons,Nat.pow_succ];have:d.toNat % 128<128:=Nat.mod_lt _ (by decide);have h2:128 * (valL r+1)≤128 * 128 ^ r.length:=Nat.mul_le_mul_left 128 ih;rw [Nat.mul_comm (128 ^ r.length)];omega
theorem vp (l:List UInt8) (k:Nat) (h:k<l.length):valL (l.take (k+1))=valL (l.take k)+l[k].toNat % 128 * 128 ^ k:=by
 rw [List.take_succ_eq_append_getElem h,FF]
 congr 3
 simp;omega
theorem DE (l:List UInt8) (i:Nat) (h:i<l.length):scan i (l.drop i)=if i=9∧1<l[i].toNat then .inl 4 else if 0<i∧l[i].toNat=0 then .inl 3 else if l[i].toNat<128 then .inr (i+1) else scan (i+1) (l.drop (i+1)):=by
 rw [List.drop_eq_getElem_cons h,scan]
def gq (n:Nat):Nat:=if n<128 then 1 else gq (n / 128)+1
termination_by n
decreasing_by omega
theorem lN {n:Nat} (h:n<128):gq n=1:=by rw [gq,if_pos h]
theorem oB {n:Nat} (h:¬ n<128):gq n=gq (n / 128)+1:=by rw [gq,if_neg h]
theorem D7 (n:Nat):(putL n).length=gq n:=by
 induction n using Nat.strongRecOn with
 | ind n ih =>
  by_cases h:n<128
  ·rw [gl h,lN h];rfl
  ·rw [gk h,oB h,List.length_cons,ih (n / 128) (by omega)]
theorem DI (l:List UInt8):∀ (i k:Nat),i≤9→scan i l=.inr k→k≤10∧i<k∧k-i≤l.length∧(k=10→∀ c,l[9-i]? = some c→c.toNat≤1):=by
 induction l with
 | nil=>intro i k _ h;simp [scan] at h
 | cons c r ih =>
  intro i k hi h;rw [scan] at h;by_cases h1:i=9∧1<c.toNat
  ·rw [if_pos h1] at h;cases h
  ·rw [if_neg h1] at h;by_cases h2:0<i∧c.toNat=0
   ·rw [if_pos h2] at h;cases h
   ·rw [if_neg h2] at h;by_cases h3:c.toNat<128
    ·rw [if_pos h3] at h;injection h with h
     subst h;refine ⟨by omega,by omega,by simp,?_⟩;intro h9 d hd;obtain rfl:i=9:=by omega
     simp at hd;subst hd;omega
    ·rw [if_neg h3] at h;obtain ⟨a,b,c',d⟩:=ih (i+1) k (by omega) h;refine ⟨a,by omega,by simp;omega,?_⟩;intro h9 e he;rw [show 9-i=(9-(i+1))+1 by omega,List.getElem?_cons_succ] at he;exact d h9 e he
theorem DF {l:List UInt8} {k:Nat} (h:scan 0 l=.inr k):1≤k∧k≤10∧k≤l.length∧valL (l.take k)<18446744073709551616:=by
 obtain ⟨a,b,c,d⟩:=DI l 0 k (by omega) h;refine ⟨by omega,a,by omega,?_⟩;by_cases h10:k=10
 ·subst h10;have hl:9<l.length:=by omega
  rw [vp l 9 hl];have h1:=pd (l.take 9);have h2:=d rfl l[9] (by rw [List.getElem?_eq_getElem hl]);have h3:(l.take 9).length=9:=by simp;omega
  rw [h3,pow9] at h1;rw [pow9];have h4:l[9].toNat % 128≤1:=by omega
  have:=Nat.mul_le_mul_right 9223372036854775808 h4;omega
 ·have h1:=pd (l.take k);have h3:(l.take k).length=k:=by simp;omega
  have h4:128 ^ k≤128 ^ 9:=Nat.pow_le_pow_right (by decide) (by omega);rw [h3] at h1;rw [pow9] at h4;omega
end
section
open Go.ChangeShapes Go.WideShapes Go.ChangeAt Go.RowKit
theorem kR:laidOutB Tryz.prog=true:=by kernel_rfl
structure Wr where
 time:Int
 rep:Int
 kind:Int
 key:ByteArray
 value:ByteArray
 n:Int
def wrC (x:Wr):List Value:=[.int .i64 x.time,.int .i64 x.rep,.int .i64 x.kind,.string x.key,.string x.value,.int .i64 x.n]
def wrV (x:Wr):Value:=.agg (wrC x).toArray
def WrOk (x:Wr):Prop:=-9223372036854775808≤x.n∧x.n≤9223372036854775807∧x.key.size≤140737488351232∧x.value.size≤140737488351232
theorem CQ {H:Type} {enc:TypeId×Value→H} {P:Program} {W:World} {spare:Nat→Bool} {held:Bool} {n:Nat} {t:TypeId} {cs:List Value} {x:DataW H×List MemPlace} {p q:Field}
 (ht:P.underlying t=some (.struct #[p,q])) (h1:Go.Deep.oneCellFields P #[p,q]=true) (h3:P.cellsOf t=2)
 (h:DataW.trod enc P W 0 spare held n t cs=some x) :
 ∃ (a b:Value) (u v:DataW H×List MemPlace) (m:Nat),cs=[a,b]∧x.1=.agg [u.1,v.1] ∧
  DataW.trod enc P W 0 spare held m p.type [a]=some u∧DataW.trod enc P W 0 spare held m q.type [b]=some v:=by
 obtain ⟨xs,m,_,hx,hl,hxl,hf⟩:=DataW.trod_struct ht h;rw [h3] at hl;have hxl':xs.length=2:=hxl
 match cs,hl with
 | [a,b],_ =>
  match xs,hxl' with
  | [u,v],_ =>
   have one:=Go.Deep.hone_of h1;have g0:=hf 0 p rfl;have g1:=hf 1 q rfl;rw [(one 0 p rfl).1,(one 0 p rfl).2] at g0;rw [(one 1 q rfl).1,(one 1 q rfl).2] at g1;exact ⟨a,b,u,v,m,rfl,by rw [hx];rfl,g0,g1⟩
def wrD {H:Type} (x:Wr):DataW H:=.agg [.agg [.lit (.int .i64 x.time),.lit (.int .i64 x.rep)],.lit (.int .i64 x.kind),.lit (.string x.key.data.toList),.lit (.string x.value.data.toList),.lit (.int .i64 x.n)]
theorem vU {H:Type} {enc:TypeId×Value→H} {W:World} {spare:Nat→Bool} {held:Bool} {n:Nat} {cs:List Value} {x:DataW H×List MemPlace}
 (h:DataW.trod enc Tryz.prog W 0 spare held n 38 cs=some x):∃ t:Wr,cs=wrC t∧x.1=wrD t∧-9223372036854775808≤t.n∧t.n≤9223372036854775807:=by
 obtain ⟨xs,m,_,hx,hl,hxl,hf⟩:=DataW.trod_struct Tryz.underlying38 h;have c6:Tryz.prog.cellsOf 38=6:=by kernel_rfl
 have c2:Tryz.prog.cellsOf 36=2:=by kernel_rfl
 have cI:Tryz.prog.cellsOf 3=1:=by kernel_rfl
 have cS:Tryz.prog.cellsOf 9=1:=by kernel_rfl
 rw [c6] at hl;have hxl':xs.length=5:=hxl
 match cs,hl with
 | [a,b,c,d,e,f],_ =>
  match xs,hxl' with
  | [u0,u1,u2,u3,u4],_ =>
   have g0:=hf 0 _ rfl;have g1:=hf 1 _ rfl;have g2:=hf 2 _ rfl;have g3:=hf 3 _ rfl;have g4:=hf 4 _ rfl;simp [c2,cI,cS] at g0 g1 g2 g3 g4
   obtain ⟨a',b',y0,y1,m',hab,hy,t0,t1⟩:=CQ Tryz.underlying36 (by kernel_rfl) (by kernel_rfl) g0;simp at hab
   obtain ⟨rfl,rfl⟩:=hab;obtain ⟨T,e0,f0,_⟩:=DataW.trod_int Tryz.underlying3 t0;obtain ⟨R,e1,f1,_⟩:=DataW.trod_int Tryz.underlying3 t1;obtain ⟨K,e2,f2,_⟩:=DataW.trod_int Tryz.underlying3 g1;obtain ⟨key,e3,f3,_⟩:=DataW.trod_string Tryz.underlying9 g2;obtain ⟨val,e4,f4,_⟩:=DataW.trod_string Tryz.underlying9 g3;obtain ⟨N,e5,f5,w5⟩:=DataW.trod_int Tryz.underlying3 g4;obtain rfl:=List.head_eq_of_cons_eq e0;obtain rfl:=List.head_eq_of_cons_eq e1;obtain rfl:=List.head_eq_of_cons_eq e2;obtain rfl:=List.head_eq_of_cons_eq e3;obtain rfl:=List.head_eq_of_cons_eq e4;obtain rfl:=List.head_eq_of_cons_eq e5;have b5:=bounds_i64 w5;refine ⟨⟨T,R,K,key,val,N⟩,rfl,?_,b5.1,b5.2⟩;rw [hx];simp only [List.map_cons,List.map_nil,hy,f0,f1,f2,f3,f4,f5]
   rfl
theorem GC {H:Type} {enc:TypeId×Value→H} {W:World} {spare:Nat→Bool} {held:Bool} {v:Value} {d:DataW H} {p:List MemPlace} {base:Nat}
 (hv:Value.okWide Tryz.prog W .any base 38 v) (h:DataW.Trod enc Tryz.prog W 0 spare held 38 v d p)
 (hw:∀ x∈DataW.weights Tryz.prog 38 d,x≤reachBytes):∃ x:Wr,v=wrV x∧WrOk x:=by
 obtain ⟨cs,rfl,hsz⟩:=okWide_struct Tryz.underlying38 hv;obtain ⟨fuel,hf⟩:=h;obtain ⟨x,hx,hd,h1,h2⟩:=vU hf;obtain rfl:d=wrD x:=hd;refine ⟨x,?_,h1,h2,?_,?_⟩
 ·unfold wrV;rw [←hx];simp [Value.cells]
 ·have := hw x.key.size (by
   unfold wrD;rw [DataW.weights,Tryz.underlying38];simp [DataW.weightsEach,DataW.weights,Tryz.underlying36])
  unfold reachBytes at this;omega
 ·have := hw x.value.size (by
   unfold wrD;rw [DataW.weights,Tryz.underlying38];simp [DataW.weightsEach,DataW.weights,Tryz.underlying36])
  unfold reachBytes at this;omega
end
section
structure Ent where
 rep:Int
 time:Int
deriving DecidableEq
def wrE (e:Ent) (last:Int):Nat:=if e.rep<0∨200<e.rep∨e.time<1∨1099511627776<e.time then 2 else if e.rep≤last then 10 else 0
def vr:List Ent→Nat→Int→Nat×Int
 | [],_,_=>(0,-1)
 | e::r,i,last=>if wrE e last≠0 then (wrE e last,i) else vr r (i+1) e.rep
def aq (l:List Ent):Nat×Int:=if 16<l.length then (4,-1) else vr l 0 (-1)
theorem Gr {e:Ent} {last:Int} (h:e.rep<0∨200<e.rep∨e.time<1∨1099511627776<e.time):wrE e last=2:=by unfold wrE;rw [if_pos h]
theorem Gq {e:Ent} {last:Int} (h:¬ (e.rep<0∨200<e.rep∨e.time<1∨1099511627776<e.time)) (h2:e.rep≤last):wrE e last=10:=by unfold wrE;rw [if_neg h,if_pos h2]
theorem vR {e:Ent} {last:Int} (h:¬ (e.rep<0∨200<e.rep∨e.time<1∨1099511627776<e.time)) (h2:¬ e.rep≤last):wrE e last=0:=by unfold wrE;rw [if_neg h,if_neg h2]
theorem im {e:Ent} {last:Int}:wrE e last=0↔0≤e.rep∧e.rep≤200∧1≤e.time∧e.time≤1099511627776∧last<e.rep:=by
 unfold wrE;split
 ·constructor
  ·intro h;omega
  ·intro h;omega
 ·split
  ·constructor
   ·intro h;omega
   ·intro h;omega
  ·constructor
   ·intro _;omega
   ·intro _;rfl
theorem pg {e:Ent} {r:List Ent} {i:Nat} {last:Int} (h:wrE e last≠0):vr (e::r) i last=(wrE e last,(i:Int)):=by rw [vr,if_pos h]
theorem ph {e:Ent} {r:List Ent} {i:Nat} {last:Int} (h:wrE e last=0):vr (e::r) i last=vr r (i+1) e.rep:=by rw [vr,if_neg (by simpa using h)]
def okV:Int→List Ent→Prop
 | _,[]=>True
 | last,e::r=>wrE e last=0∧okV e.rep r
def aB (l:List Ent):Prop:=l.length≤16∧okV (-1) l
theorem FQ (l:List Ent):∀ i last,(vr l i last).1=0↔okV last l:=by
 induction l with
 | nil=>intro i last;simp [vr,okV]
 | cons e r ih =>
  intro i last;by_cases h:wrE e last=0
  ·rw [ph h,ih];exact ⟨fun h2=>⟨h,h2⟩,fun h2=>h2.2⟩
  ·rw [pg h];exact ⟨fun h2=>absurd h2 h,fun h2=>absurd h2.1 h⟩
theorem bO (l:List Ent):(aq l).1=0↔aB l:=by
 unfold aq aB;split
 ·constructor
  ·intro h;cases h
  ·intro h;omega
 ·rw [FQ];exact ⟨fun h=>⟨by omega,h⟩,fun h=>h.2⟩
theorem FP (l:List Ent):∀ i last,(vr l i last).1=0→vr l i last=(0,-1):=by
 induction l with
 | nil=>intro i last _;rfl
 | cons e r ih =>
  intro i last h;by_cases hw:wrE e last=0
  ·rw [ph hw] at h ⊢;exact ih _ _ h
  ·rw [pg hw] at h;exact absurd h hw
theorem vG {l:List Ent} (h:(aq l).1=0):aq l=(0,-1):=by
 unfold aq at h ⊢;split
 ·rename_i h2;rw [if_pos h2] at h;cases h
 ·rename_i h2;rw [if_neg h2] at h;exact FP _ _ _ h
theorem po {l:List Ent} (h:aB l):aq l=(0,-1):=vG ((bO l).2 h)
theorem bJ {l:List Ent}:∀ {last:Int},okV last l→∀ e∈l,0≤e.rep∧e.rep≤200∧1≤e.time∧e.time≤1099511627776∧last<e.rep:=by
 induction l with
 | nil=>intro last _ e h;cases h
 | cons d r ih =>
  intro last h e he;obtain ⟨h1,h2⟩:=h;rw [im] at h1;rcases List.mem_cons.1 he with rfl | he
  ·exact h1
  ·have:=ih h2 e he;omega
theorem BZ {l:List Ent} {e:Ent}:∀ {last:Int},okV last l→(∀ d∈l,d.rep<e.rep)→wrE e last=0→okV last (l++[e]):=by
 induction l with
 | nil=>intro last _ _ h;exact ⟨h,trivial⟩
 | cons d r ih =>
  intro last h hd he;refine ⟨h.1,ih h.2 (fun x hx=>hd x (List.mem_cons_of_mem _ hx)) ?_⟩;have:=hd d List.mem_cons_self;rw [im] at he ⊢;omega
def ofF:List Ent→Int→Int
 | [],_=>0
 | e::r,x=>if e.rep=x then e.time else ofF r x
theorem du {e:Ent} {r:List Ent} {x:Int} (h:e.rep=x):ofF (e::r) x=e.time:=by rw [ofF,if_pos h]
theorem dH {e:Ent} {r:List Ent} {x:Int} (h:e.rep≠x):ofF (e::r) x=ofF r x:=by rw [ofF,if_neg h]
theorem sM {l:List Ent} {x:Int} (h:∀ e∈l,e.rep≠x):ofF l x=0:=by
 induction l with
 | nil=>rfl
 | cons e r ih=>rw [dH (h e List.mem_cons_self)];exact ih fun d hd=>h d (List.mem_cons_of_mem _ hd)
theorem BK {l:List Ent} {e:Ent} {x:Int} (h:∀ d∈l,d.rep≠e.rep):ofF (l++[e]) x=if e.rep=x then e.time else ofF l x:=by
 induction l with
 | nil=>simp [ofF]
 | cons d r ih =>
  have h1:=h d List.mem_cons_self;have ih':=ih fun y hy=>h y (List.mem_cons_of_mem _ hy)
  rw [List.cons_append];by_cases hd:d.rep=x
  ·rw [du hd,if_neg (by omega),du hd]
  ·rw [dH hd,ih',dH hd]
theorem cQ {l:List Ent} {last:Int} (h:okV last l) (x:Int):0≤ofF l x∧ofF l x≤1099511627776:=by
 induction l generalizing last with
 | nil=>exact ⟨Int.le_refl _,by show (0:Int)≤_;decide⟩
 | cons e r ih =>
  have hm:=bJ h e List.mem_cons_self;by_cases hx:e.rep=x
  ·rw [du hx];omega
  ·rw [dH hx];exact ih h.2
theorem je {l:List Ent} {last:Int} (h:okV last l) {x:Int} (hx:x≤last):ofF l x=0:=sM fun e he=>by have:=bJ h e he;omega
theorem gi {l:List Ent} {last:Int} (h:okV last l) {x:Int} (hx:x<0∨200<x):ofF l x=0:=sM fun e he=>by have:=bJ h e he;omega
theorem nV {l:List Ent} {last:Int} (h:okV last l) {e:Ent} (he:e∈l):ofF l e.rep=e.time:=by
 induction l generalizing last with
 | nil=>cases he
 | cons d r ih =>
  rcases List.mem_cons.1 he with rfl | he
  ·rw [du rfl]
  ·have:=bJ h.2 e he;rw [dH (by omega)];exact ih h.2 he
theorem jd {l:List Ent} {x:Int} (h:ofF l x≠0):∃ e∈l,e.rep=x∧e.time=ofF l x:=by
 induction l with
 | nil=>exact absurd rfl h
 | cons d r ih =>
  by_cases hd:d.rep=x
  ·exact ⟨d,List.mem_cons_self,hd,by rw [du hd]⟩
  ·rw [dH hd] at h ⊢;obtain ⟨e,he,h1,h2⟩:=ih h;exact ⟨e,List.mem_cons_of_mem _ he,h1,h2⟩
theorem nW {l m:List Ent} {a b:Int} (hl:okV a l) (hm:okV b m) (h:∀ x,ofF l x=ofF m x):l=m:=by
 induction l generalizing m a b with
 | nil =>
  cases m with
  | nil=>rfl
  | cons e r =>
   have:=bJ hm e List.mem_cons_self;have h1:=h e.rep;rw [du rfl] at h1;have h2:ofF [] e.rep=0:=rfl;omega
 | cons d r ih =>
  have hd:=bJ hl d List.mem_cons_self;cases m with
  | nil =>
   have h1:=h d.rep;rw [du rfl] at h1;have h2:ofF [] d.rep=0:=rfl;omega
  | cons e s =>
   have he:=bJ hm e List.mem_cons_self;have hde:d.rep=e.rep:=by
    rcases Int.lt_trichotomy d.rep e.rep with hlt | heq | hgt
    ·have h1:=h d.rep;rw [du rfl,dH (by omega),je hm.2 (by omega)] at h1;omega
    ·exact heq
    ·have h1:=h e.rep;rw [du (e:=e) rfl,dH (by omega),je hl.2 (by omega)] at h1;omega
   have hdt:d=e:=by
    have h1:=h d.rep;rw [du rfl,du hde.symm] at h1;cases d;cases e;simp_all
   subst hdt
   congr 1
   refine ih hl.2 hm.2 fun x=>?_
   by_cases hx:d.rep=x
   ·subst hx;rw [je hl.2 (Int.le_refl _),je hm.2 (Int.le_refl _)]
   ·have h1:=h x;rw [dH hx,dH hx] at h1;exact h1
def tab (f:Nat→Int):Nat→List Ent
 | 0=>[]
 | n+1=>if 0<f n then tab f n++[⟨n,f n⟩] else tab f n
theorem jr {f:Nat→Int} {n:Nat} (h:0<f n):tab f (n+1)=tab f n++[⟨n,f n⟩]:=by rw [tab,if_pos h]
theorem jq {f:Nat→Int} {n:Nat} (h:¬ 0<f n):tab f (n+1)=tab f n:=by rw [tab,if_neg h]
theorem Et {f g:Nat→Int} {n:Nat} (h:∀ r,r<n→f r=g r):tab f n=tab g n:=by
 induction n with
 | zero=>rfl
 | succ n ih=>rw [tab,tab,ih fun r hr=>h r (by omega),h n (by omega)]
theorem ug (f:Nat→Int) (n:Nat):(tab f n).length≤n:=by
 induction n with
 | zero=>exact Nat.le_refl _
 | succ n ih =>
  by_cases h:0<f n
  ·rw [jr h,List.length_append];simp;omega
  ·rw [jq h];omega
theorem ui (f:Nat→Int) (n:Nat):∀ e∈tab f n,0≤e.rep∧e.rep<(n:Int):=by
 induction n with
 | zero=>intro e h;cases h
 | succ n ih =>
  intro e he;by_cases h:0<f n
  ·rw [jr h] at he;rcases List.mem_append.1 he with he | he
   ·have:=ih e he;omega
   ·rw [List.mem_singleton.1 he];simp only;omega
  ·rw [jq h] at he;have:=ih e he;omega
theorem lV {f:Nat→Int} (hf:∀ r,f r≤1099511627776) {n:Nat} (hn:n≤201):okV (-1) (tab f n):=by
 induction n with
 | zero=>trivial
 | succ n ih =>
  by_cases h:0<f n
  ·rw [jr h];refine BZ (ih (by omega)) (fun d hd=>?_) ?_
   ·have:=ui f n d hd;simp only;omega
   ·rw [im];have:=hf n;simp only;omega
  ·rw [jq h];exact ih (by omega)
theorem l9 (f:Nat→Int) (n:Nat) (x:Int):ofF (tab f n) x=if 0≤x∧x<n∧0<f x.toNat then f x.toNat else 0:=by
 induction n with
 | zero=>rw [if_neg (by omega)];rfl
 | succ n ih =>
  by_cases h:0<f n
  ·rw [jr h,BK (fun d hd=>by have:=ui f n d hd;simp only;omega),ih];simp only
   by_cases hx:(n:Int)=x
   ·subst hx;rw [if_pos rfl,Int.toNat_natCast,if_pos ⟨by omega,by omega,h⟩]
   ·rw [if_neg hx];by_cases h2:0≤x∧x<n∧0<f x.toNat
    ·rw [if_pos h2,if_pos ⟨h2.1,by omega,h2.2.2⟩]
    ·rw [if_neg h2,if_neg (by omega)]
  ·rw [jq h,ih];by_cases h2:0≤x∧x<n∧0<f x.toNat
   ·rw [if_pos h2,if_pos ⟨h2.1,by omega,h2.2.2⟩]
   ·rw [if_neg h2,if_neg];rintro ⟨h3,h4,h5⟩;by_cases hx:x=(n:Int)
    ·subst hx;rw [Int.toNat_natCast] at h5;exact h h5
    ·exact h2 ⟨h3,by omega,h5⟩
theorem Ev {l:List Ent} {last:Int} (h:okV last l):tab (fun r=>ofF l (r:Int)) 201=l:=by
 refine nW (a:=-1) (b:=last) (lV (fun r=>(cQ h _).2) (Nat.le_refl _)) h fun x=>?_
 rw [l9];by_cases h2:0≤x∧x<((201:Nat):Int)∧0<ofF l (x.toNat:Int)
 ·rw [if_pos h2];congr 1;omega
 ·rw [if_neg h2];have hb:=cQ h x;by_cases hx:0≤x∧x≤200
  ·have e:(x.toNat:Int)=x:=by omega
   rw [e] at h2;omega
  ·rw [gi h (by omega)]
def jF (a b:List Ent) (r:Nat):Int:=max (ofF a r) (ofF b r)
def cO (a b:List Ent):List Ent:=tab (jF a b) 201
theorem rX {a b:List Ent} {x y:Int} (ha:okV x a) (hb:okV y b) (r:Nat):0≤jF a b r∧jF a b r≤1099511627776:=by
 have:=cQ ha r;have:=cQ hb r;unfold jF;omega
theorem nK {a b:List Ent} {x y:Int} (ha:okV x a) (hb:okV y b):okV (-1) (cO a b):=lV (fun r=>(rX ha hb r).2) (Nat.le_refl _)
theorem nJ {a b:List Ent} {x y:Int} (ha:okV x a) (hb:okV y b) (z:Int):ofF (cO a b) z=max (ofF a z) (ofF b z):=by
 unfold cO;rw [l9];have h1:=cQ ha z;have h2:=cQ hb z;by_cases hz:0≤z∧z≤200
 ·have e:(z.toNat:Int)=z:=by omega
  unfold jF;rw [e];split
  ·rfl
  ·omega
 ·rw [if_neg (by omega),gi ha (by omega),gi hb (by omega)];rfl
def aR (a b:List Ent):Nat×List Ent :=
 if (aq a).1≠0 then ((aq a).1,[]) else if (aq b).1≠0 then ((aq b).1,[]) else if 16<(cO a b).length then (4,[]) else (0,cO a b)
theorem rY {a b:List Ent} (h:(aq a).1≠0):aR a b=((aq a).1,[]):=by unfold aR;rw [if_pos h]
theorem s5 {a b:List Ent} (h:(aq a).1=0) (h2:(aq b).1≠0):aR a b=((aq b).1,[]):=by unfold aR;rw [if_neg (by simpa using h),if_pos h2]
theorem s6 {a b:List Ent} (h:(aq a).1=0) (h2:(aq b).1=0) (h3:16<(cO a b).length):aR a b=(4,[]):=by unfold aR;rw [if_neg (by simpa using h),if_neg (by simpa using h2),if_pos h3]
theorem kO {a b:List Ent} (h:(aq a).1=0) (h2:(aq b).1=0) (h3:¬ 16<(cO a b).length):aR a b=(0,cO a b):=by unfold aR;rw [if_neg (by simpa using h),if_neg (by simpa using h2),if_neg h3]
def covA (a b:List Ent):Bool:=b.all fun e=>decide (e.time≤ofF a e.rep)
def covB (a b:List Ent):Bool:=decide ((aq a).1=0) && decide ((aq b).1=0) && covA a b
theorem yF {a b:List Ent} {x y:Int} (ha:okV x a) (hb:okV y b):covA a b=true↔∀ z,ofF b z≤ofF a z:=by
 unfold covA;rw [List.all_eq_true]
 constructor
 ·intro h z;have h1:=cQ ha z;have h2:=cQ hb z;by_cases h0:ofF b z=0
  ·omega
  ·obtain ⟨e,he,rfl,h4⟩:=jd h0;have:=h e he;simp only [decide_eq_true_eq] at this
   omega
 ·intro h e he;have:=h e.rep;rw [nV hb he] at this
  simpa using this
theorem fu {a b:List Ent} (ha:aB a) (hb:aB b):covB a b=true↔∀ z,ofF b z≤ofF a z:=by
 unfold covB;rw [po ha,po hb,←yF ha.2 hb.2];simp
end
section
open Go.RowKit
def atIs (w:World) (v:Value) (r:Nat×Int):Prop :=
 (r=(0,-1)∧v=.nilIface)∨(r.1≠0∧∃ b,v=.iface 84 (.pointer (some ⟨b,0,none⟩))∧b<w.heap.size∧w.cell? ⟨b,0,none⟩=some (.int .i64 (r.1:Nat))∧w.cell? ⟨b,1,none⟩=some (.int .i64 r.2))
theorem atIs.below {w w':World} {v:Value} {r:Nat×Int} (h:atIs w v r) (hb:Below w.heap.size w w'):atIs w' v r:=by
 rcases h with h | ⟨h0,b,h1,h2,h3,h4⟩
 ·exact .inl h
 ·exact .inr ⟨h0,b,h1,Nat.lt_of_lt_of_le h2 hb.size,(hb.cell (p:=⟨b,0,none⟩) h2).trans h3,(hb.cell (p:=⟨b,1,none⟩) h2).trans h4⟩
theorem atIs.new (w:World) (e:Nat) (pl:Int) (he:e≠0):atIs (w.alloc (.cells #[.int .i64 e,.int .i64 pl] 86)) (.iface 84 (.pointer (some ⟨w.heap.size,0,none⟩))) (e,pl) :=
 .inr ⟨he,_,rfl,by simp,by simp,by simp⟩
def jO (w:World) (r:Nat×Int) (e:Ending) (w':World):Prop :=
 ∃ v,e=.returned v∧atIs w' v r∧Below w.heap.size w w'
end
section
open Go.RowKit Go.Extern.Stop Go.Stop Go.Extern
namespace As
theorem valueOfP (t:Addr) (w:World):(ReflectliteValue.unpack (.iface 107 (.pointer (some t)))).run Tryz.prog w
 = .ok (.agg #[.pointer (some ⟨2,107,none⟩),.pointer (some ⟨w.heap.size,0,none⟩),.int .u64 150]) (w.alloc (.cells #[.pointer (some t)] 107)):=by kernel_rfl
theorem typeP (a : Addr) (w : World) : (ReflectliteValue.methodAny (ReflectliteValue.valueError "reflectlite.Value.Type" 0) (fun t _ _ _ => ReflectliteType.toType t) #[.agg #[.pointer (some ⟨2, 107, none⟩), .pointer (some a), .int .u64 150]]).run Tryz.prog w
 = .ok (.iface 160 (.agg #[.pointer (some ⟨2,107,none⟩)])) w:=by kernel_rfl
theorem methodKind (h : Value) (w : World) : (Go.method 416 160 (.agg #[h]) "Kind").run Tryz.prog w = .ok (237, h) w := by kernel_rfl
theorem kindP (w:World):((ReflectliteType.abiMethod fun t=>(fun a:Nat=>Value.int IntKind.u8 (a:Int)) <$> Rtype.kind t) #[.pointer (some ⟨2,107,none⟩)]).run Tryz.prog w=.ok (.int .u8 22) w:=by kernel_rfl
theorem kindE (w:World):((ReflectliteType.abiMethod fun t=>(fun a:Nat=>Value.int IntKind.u8 (a:Int)) <$> Rtype.kind t) #[.pointer (some ⟨2,68,none⟩)]).run Tryz.prog w=.ok (.int .u8 2) w:=by kernel_rfl
theorem Af (a : Addr) (W : World) : (ReflectliteValue.method (ReflectliteValue.valueError "reflectlite.Value.IsNil" 0) ReflectliteValue.isNil #[.agg #[.pointer (some ⟨2, 107, none⟩), .pointer (some a), .int .u64 150]]).run Tryz.prog W = (ReflectliteValue.isNil 107 a 150 22).run Tryz.prog W := by kernel_rfl
theorem isNilP (a p:Addr) (W:World) (ha:W.cell? a=some (.pointer (some p))) :
 (ReflectliteValue.method (ReflectliteValue.valueError "reflectlite.Value.IsNil" 0) ReflectliteValue.isNil #[.agg #[.pointer (some ⟨2, 107, none⟩), .pointer (some a), .int .u64 150]]).run Tryz.prog W = .ok (.bool false) W := by
 rw [Af];simp [ReflectliteValue.isNil,loadVar,isAgg,underlying,Tryz.underlying107,ha,Result.andThen]
theorem methodElem (h : Value) (w : World) : (Go.method 416 160 (.agg #[h]) "Elem").run Tryz.prog w = .ok (250, .agg #[h]) w := by kernel_rfl
theorem methodImplements (h : Value) (w : World) : (Go.method 416 160 (.agg #[h]) "Implements").run Tryz.prog w = .ok (251, .agg #[h]) w := by kernel_rfl
theorem methodAssignableTo (h : Value) (w : World) : (Go.method 416 160 (.agg #[h]) "AssignableTo").run Tryz.prog w = .ok (248, .agg #[h]) w := by kernel_rfl
theorem elemP (w:World):(ReflectliteType.method ReflectliteType.elem #[.agg #[.pointer (some ⟨2,107,none⟩)]]).run Tryz.prog w=.ok (.iface 160 (.agg #[.pointer (some ⟨2,68,none⟩)])) w:=by kernel_rfl
theorem implementsE (w : World) : (ReflectliteType.relation "Implements" ReflectliteType.implements_ #[.agg #[.pointer (some ⟨2, 68, none⟩)], .iface 160 (.agg #[.pointer (some ⟨2, 41, none⟩)])]).run Tryz.prog w = .ok (.bool true) w := by kernel_rfl
theorem typeOfE (v:Value) (w:World):(ReflectliteType.typeOf #[.iface 68 v]).run Tryz.prog w=.ok (.iface 160 (.agg #[.pointer (some ⟨2,68,none⟩)])) w:=by kernel_rfl
theorem typeOfA (v:Value) (w:World):(ReflectliteType.typeOf #[.iface 84 v]).run Tryz.prog w=.ok (.iface 160 (.agg #[.pointer (some ⟨2,84,none⟩)])) w:=by kernel_rfl
theorem assignableE (w : World) : (ReflectliteType.relation "AssignableTo" ReflectliteType.assignableTo #[.agg #[.pointer (some ⟨2, 68, none⟩)], .iface 160 (.agg #[.pointer (some ⟨2, 68, none⟩)])]).run Tryz.prog w = .ok (.bool true) w := by kernel_rfl
theorem assignableA (w : World) : (ReflectliteType.relation "AssignableTo" ReflectliteType.assignableTo #[.agg #[.pointer (some ⟨2, 84, none⟩)], .iface 160 (.agg #[.pointer (some ⟨2, 68, none⟩)])]).run Tryz.prog w = .ok (.bool false) w := by kernel_rfl
theorem valueOfE (e:Int) (w:World):(ReflectliteValue.unpack (.iface 68 (.int .i64 e))).run Tryz.prog w
 = .ok (.agg #[.pointer (some ⟨2,68,none⟩),.pointer (some ⟨w.heap.size,0,none⟩),.int .u64 130]) (w.alloc (.cells #[.int .i64 e] 68)):=by kernel_rfl
theorem yU (w:World):(Rtype.elem? 107).run Tryz.prog w=.ok (some 68) w:=by kernel_rfl
theorem mkE (p:Addr) (w:World):(ReflectliteValue.mk 68 p ReflectliteValue.flagAddr).run Tryz.prog w=.ok (.agg #[.pointer (some ⟨2,68,none⟩),.pointer (some p),.int .u64 386]) w:=by kernel_rfl
theorem yT (a : Addr) (W : World) : (ReflectliteValue.method (ReflectliteValue.valueError "reflectlite.Value.Elem" 0) ReflectliteValue.elem #[.agg #[.pointer (some ⟨2, 107, none⟩), .pointer (some a), .int .u64 150]]).run Tryz.prog W = (ReflectliteValue.elem 107 a 150 22).run Tryz.prog W := by kernel_rfl
theorem elemVP (a p:Addr) (W:World) (ha:W.cell? a=some (.pointer (some p))) :
 (ReflectliteValue.method (ReflectliteValue.valueError "reflectlite.Value.Elem" 0) ReflectliteValue.elem #[.agg #[.pointer (some ⟨2, 107, none⟩), .pointer (some a), .int .u64 150]]).run Tryz.prog W
  = .ok (.agg #[.pointer (some ⟨2,68,none⟩),.pointer (some p),.int .u64 386]) W:=by
 rw [yT];simp [ReflectliteValue.elem,loadVar,isAgg,underlying,Tryz.underlying107,ha,Result.andThen,yU,mkE]
theorem DM (ta b:Addr) (W:World):(ReflectliteValue.set #[.agg #[.pointer (some ⟨2,68,none⟩),.pointer (some ta),.int .u64 386],.agg #[.pointer (some ⟨2,68,none⟩),.pointer (some b),.int .u64 130]]).run Tryz.prog W
 = (do let val ←loadVar 68 b;storeVar 68 ta val;pure (Value.tuple #[]):Sem Value).run Tryz.prog W:=by kernel_rfl
theorem setE (ta b:Addr) (e:Int) (old:Value) (W:World) (hb:W.cell? b=some (.int .i64 e)) (ht:W.cell? ta=some old) (hf:W.frozen? ta=false) :
 (ReflectliteValue.set #[.agg #[.pointer (some ⟨2,68,none⟩),.pointer (some ta),.int .u64 386],.agg #[.pointer (some ⟨2,68,none⟩),.pointer (some b),.int .u64 130]]).run Tryz.prog W
  = .ok (.tuple #[]) (W.setCell ta (.int .i64 e)):=by
 rw [DM];simp [loadVar,isAgg,underlying,Tryz.underlying68,hb,Result.andThen,storeVar,Value.cells,storeCells,Addr.add]
 rw [run_store Tryz.prog W ta _ _ (by rfl)];simp [ht,hf]
theorem noAsA (v:Value) (xT:TypeId) (w:World):(Instr.typeAssert (.iface 84 v) xT 165 true).run Tryz.prog w=.ok (.tuple #[.nilIface,.bool false]) w:=run_typeAssert_lacksB Tryz.underlying165 (by kernel_rfl) (by kernel_rfl) v xT w
theorem unwrapA (v:Value) (xT:TypeId) (w:World):(Instr.typeAssert (.iface 84 v) xT 168 true).run Tryz.prog w=.ok (.tuple #[.iface 84 v,.bool true]) w:=run_typeAssert_hasB Tryz.underlying168 (by kernel_rfl) v xT w
theorem isAtA (v:Value) (xT:TypeId) (w:World):(Instr.typeAssert (.iface 84 v) xT 84 true).run Tryz.prog w=.ok (.tuple #[v,.bool true]) w:=by kernel_rfl
end As
end
