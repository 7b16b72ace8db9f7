import Derived.Test.YtagoidpkbloflaaGreatDoorKlq
import Derived.WalkKit
import Derived.RegionTactic
import Derived.Deep.RegionHeld3
import Derived.Lib.Hide
import Derived.Test.YtagoidpkbloflaaGreatDoorProg
import Derived.KernelRfl
import Derived.Deep.Slices
import Derived.Deep.Fields
import Derived.ChangeSame
import Derived.SizedLaws
import Derived.Below
import Derived.ProofKit
import Derived.OpenShut
import Derived.Handy
import Derived.Laws.IdiomStrings
import Derived.LaidEql
import Derived.Stop.Asserts
import Derived.RowKitTokens
namespace Go.Proofs.YtagoidpkbloflaaGreatDoor
open Lib (hid)
set_option maxRecDepth 100000
set_option maxHeartbeats 8000000
section
open Go.RowKit
end
section
def putL (n:Nat):List UInt8:=if n<128 then [UInt8.ofNat n] else UInt8.ofNat (n % 128+128)::putL (n / 128)
termination_by n
decreasing_by omega
def valL:List UInt8→Nat
 | []=>0
 | c::r=>c.toNat % 128+128 * valL r
def scan:Nat→List UInt8→Nat ⊕ Nat
 | _,[]=>.inl 7
 | i,c::r=>if i=9∧1<c.toNat then .inl 4 else if 0<i∧c.toNat=0 then .inl 3 else if c.toNat<128 then .inr (i+1) else scan (i+1) r
def getL (l:List UInt8):Nat×Nat×Nat:=match scan 0 l with
 | .inl e=>(0,0,e)
 | .inr k=>(valL (l.take k),k,0)
theorem fL {n:Nat} (h:n<128):putL n=[UInt8.ofNat n]:=by rw [putL,if_pos h]
theorem ex {n:Nat} (h:¬ n<128):putL n=UInt8.ofNat (n % 128+128)::putL (n / 128):=by rw [putL,if_neg h]
theorem iB (n:Nat):0<(putL n).length:=by
 by_cases h:n<128
 ·rw [fL h];simp
 ·rw [ex h];simp
theorem nm {n:Nat} (h:n<256):(UInt8.ofNat n).toNat=n:=by simp;omega
theorem il (c:UInt8):UInt8.ofNat c.toNat=c:=by simp
theorem mL (j:Nat):∀ n,n<128 ^ j→0<j→(putL n).length≤j:=by
 induction j with
 | zero=>intro n _ h;omega
 | succ j ih =>
  intro n hn _;by_cases h:n<128
  ·rw [fL h];simp
  ·rw [ex h,DM];have hj:0<j:=by
    rcases Nat.eq_zero_or_pos j with rfl | h'
    ·simp at hn;omega
    ·exact h'
   have h2:n / 128<128 ^ j:=by
    rw [Eb] at hn;exact Nat.div_lt_of_lt_mul (by rw [Es];exact hn)
   have:=ih (n / 128) h2 hj;omega
theorem aK {n:Nat} (h:n<18446744073709551616):(putL n).length≤10 :=
 mL 10 n (Dv h (by decide)) (by decide)
theorem pow9:128 ^ 9=9223372036854775808:=by decide
theorem AA (l:List UInt8):∀ i k,scan i l=.inr k→∃ j,k=i+j∧1≤j∧j≤l.length∧putL (valL (l.take j))=l.take j∧(0<i→0<valL (l.take j)):=by
 induction l with
 | nil=>intro i k h;simp [scan] at h
 | cons c r ih =>
  intro i k h;have hc:=c.toNat_lt;rw [scan] at h;by_cases h1:i=9∧1<c.toNat
  ·rw [if_pos h1] at h;cases h
  ·rw [if_neg h1] at h;by_cases h2:0<i∧c.toNat=0
   ·rw [if_pos h2] at h;cases h
   ·rw [if_neg h2] at h;by_cases h3:c.toNat<128
    ·rw [if_pos h3] at h;injection h with h
     have hv:valL [c]=c.toNat:=by rw [valL,valL];omega
     refine ⟨1,h.symm,by omega,by simp,?_,?_⟩
     ·rw [EV,List.take_zero,hv,fL h3,il]
     ·intro hi;rw [EV,List.take_zero,hv];omega
    ·rw [if_neg h3] at h;obtain ⟨j,e1,e2,e3,e4,e5⟩:=ih (i+1) k h;have hp:=e5 (by omega);refine ⟨j+1,by omega,by omega,by simp;omega,?_,?_⟩
     ·rw [EV,valL,ex (by omega)];rw [show (c.toNat % 128+128 * valL (List.take j r)) / 128=valL (List.take j r) by omega,show (c.toNat % 128+128 * valL (List.take j r)) % 128+128=c.toNat by omega,e4,il]
     ·intro _;rw [EV,valL];omega
theorem fD {l:List UInt8} {n k:Nat} (h:getL l=(n,k,0)):1≤k∧k≤l.length∧putL n=l.take k:=by
 unfold getL at h;split at h
 ·rename_i e he;simp only [Dz] at h
  obtain ⟨_,_,rfl⟩:=h
  exfalso
  have:∀ (l:List UInt8) (i:Nat),scan i l≠.inl 0:=by
   intro l
   induction l with
   | nil=>intro i h;simp [scan] at h
   | cons c r ih =>
    intro i h;rw [scan] at h;split at h
    ·cases h
    ·split at h
     ·cases h
     ·split at h
      ·cases h
      ·exact ih _ h
  exact this _ _ he
 ·rename_i k' hk;simp only [Dz] at h
  obtain ⟨rfl,rfl,_⟩:=h;obtain ⟨j,e1,e2,e3,e4,_⟩:=AA l 0 k' hk;obtain rfl:k'=j:=by omega
  exact ⟨e2,e3,e4⟩
theorem ro (l:List UInt8):∀ (i e:Nat),scan i l=.inl e→e=7∨e=4∨e=3:=by
 induction l with
 | nil=>intro i e h;simp [scan] at h;omega
 | cons c r ih =>
  intro i e h;rw [scan] at h;split at h
  ·injection h with h;omega
  ·split at h
   ·injection h with h;omega
   ·split at h
    ·cases h
    ·exact ih _ _ h
theorem vW {l:List UInt8} (h:(getL l).2.2≠0):(getL l).1=0∧(getL l).2.1=0∧((getL l).2.2=7∨(getL l).2.2=4∨(getL l).2.2=3):=by
 unfold getL at h ⊢;split
 ·rename_i e he;exact ⟨rfl,rfl,ro _ _ _ he⟩
 ·rename_i k hk;simp [hk] at h
theorem vX (l:List UInt8):(getL l).2.2=0∨(getL l).2.2=7∨(getL l).2.2=4∨(getL l).2.2=3:=by
 by_cases h:(getL l).2.2=0
 ·exact .inl h
 ·exact .inr (vW h).2.2
theorem BX (a:List UInt8) (c:UInt8):valL (a++[c])=valL a+c.toNat % 128 * 128 ^ a.length:=by
 induction a with
 | nil=>simp [valL]
 | cons d r ih =>
  rw [List.cons_append,valL,ih,valL,DM,Eb,Nat.mul_add,←Nat.add_assoc]
  congr 1
  rw [Es,Nat.mul_assoc]
theorem nZ (a:List UInt8):valL a<128 ^ a.length:=by
 induction a with
 | nil=>simp [valL]
 | cons d r ih =>
  rw [valL,DM,Eb];have:d.toNat % 128<128:=Nat.mod_lt _ (by decide);have h2:128 * (valL r+1)≤128 * 128 ^ r.length:=Nat.mul_le_mul_left 128 ih;rw [Es (128 ^ r.length)];omega
theorem ss (l:List UInt8) (k:Nat) (h:k<l.length):valL (l.take (k+1))=valL (l.take k)+l[k].toNat % 128 * 128 ^ k:=by
 rw [E8 h,BX]
 congr 3
 simp;omega
theorem Az (l:List UInt8) (i:Nat) (h:i<l.length):scan i (l.drop i)=if i=9∧1<l[i].toNat then .inl 4 else if 0<i∧l[i].toNat=0 then .inl 3 else if l[i].toNat<128 then .inr (i+1) else scan (i+1) (l.drop (i+1)):=by
 rw [DA h,scan]
def fg (n:Nat):Nat:=if n<128 then 1 else fg (n / 128)+1
termination_by n
decreasing_by omega
theorem iK {n:Nat} (h:n<128):fg n=1:=by rw [fg,if_pos h]
theorem kz {n:Nat} (h:¬ n<128):fg n=fg (n / 128)+1:=by rw [fg,if_neg h]
theorem qL (n:Nat):(putL n).length=fg n:=by
 induction n using Nat.strongRecOn with
 | ind n ih =>
  by_cases h:n<128
  ·rw [fL h,iK h];rfl
  ·rw [ex h,kz h,DM,ih (n / 128) (by omega)]
theorem AB (l:List UInt8):∀ (i k:Nat),i≤9→scan i l=.inr k→k≤10∧i<k∧k-i≤l.length∧(k=10→∀ c,l[9-i]? = some c→c.toNat≤1):=by
 induction l with
 | nil=>intro i k _ h;simp [scan] at h
 | cons c r ih =>
  intro i k hi h;rw [scan] at h;by_cases h1:i=9∧1<c.toNat
  ·rw [if_pos h1] at h;cases h
  ·rw [if_neg h1] at h;by_cases h2:0<i∧c.toNat=0
   ·rw [if_pos h2] at h;cases h
   ·rw [if_neg h2] at h;by_cases h3:c.toNat<128
    ·rw [if_pos h3] at h;injection h with h
     subst h;refine ⟨by omega,by omega,by simp,?_⟩;intro h9 d hd;obtain rfl:i=9:=by omega
     simp at hd;subst hd;omega
    ·rw [if_neg h3] at h;obtain ⟨a,b,c',d⟩:=ih (i+1) k (by omega) h;refine ⟨a,by omega,by simp;omega,?_⟩;intro h9 e he;rw [show 9-i=(9-(i+1))+1 by omega,List.getElem?_cons_succ] at he;exact d h9 e he
theorem rq {l:List UInt8} {k:Nat} (h:scan 0 l=.inr k):1≤k∧k≤10∧k≤l.length∧valL (l.take k)<18446744073709551616:=by
 obtain ⟨a,b,c,d⟩:=AB l 0 k (by omega) h;refine ⟨by omega,a,by omega,?_⟩;by_cases h10:k=10
 ·subst h10;have hl:9<l.length:=by omega
  rw [ss l 9 hl];have h1:=nZ (l.take 9);have h2:=d rfl l[9] (by rw [Di hl]);have h3:(l.take 9).length=9:=by simp;omega
  rw [h3,pow9] at h1;rw [pow9];have h4:l[9].toNat % 128≤1:=by omega
  have:=Nat.mul_le_mul_right 9223372036854775808 h4;omega
 ·have h1:=nZ (l.take k);have h3:(l.take k).length=k:=by simp;omega
  have h4:128 ^ k≤128 ^ 9:=Nat.pow_le_pow_right (by decide) (by omega);rw [h3] at h1;rw [pow9] at h4;omega
end
section
open Go.ChangeShapes Go.WideShapes Go.ChangeAt Go.RowKit
structure Wr where
 time:Int
 rep:Int
 kind:Int
 key:ByteArray
 value:ByteArray
 n:Int
def wrC (x:Wr):List Value:=[.int .i64 x.time,.int .i64 x.rep,.int .i64 x.kind,.string x.key,.string x.value,.int .i64 x.n]
def WrOk (x:Wr):Prop:=-9223372036854775808≤x.n∧x.n≤9223372036854775807∧x.key.size≤140737488351232∧x.value.size≤140737488351232
end
section
structure Ent where
 rep:Int
 time:Int
deriving DecidableEq
def wrE (e:Ent) (last:Int):Nat:=if e.rep<0∨200<e.rep∨e.time<1∨1099511627776<e.time then 2 else if e.rep≤last then 10 else 0
def vr:List Ent→Nat→Int→Nat×Int
 | [],_,_=>(0,-1)
 | e::r,i,last=>if wrE e last≠0 then (wrE e last,i) else vr r (i+1) e.rep
def au (l:List Ent):Nat×Int:=if 16<l.length then (4,-1) else vr l 0 (-1)
theorem sO {e:Ent} {last:Int} (h:e.rep<0∨200<e.rep∨e.time<1∨1099511627776<e.time):wrE e last=2:=by unfold wrE;rw [if_pos h]
theorem sN {e:Ent} {last:Int} (h:¬ (e.rep<0∨200<e.rep∨e.time<1∨1099511627776<e.time)) (h2:e.rep≤last):wrE e last=10:=by unfold wrE;rw [if_neg h,if_pos h2]
theorem og {e:Ent} {last:Int} (h:¬ (e.rep<0∨200<e.rep∨e.time<1∨1099511627776<e.time)) (h2:¬ e.rep≤last):wrE e last=0:=by unfold wrE;rw [if_neg h,if_neg h2]
theorem lm {e:Ent} {last:Int}:wrE e last=0↔0≤e.rep∧e.rep≤200∧1≤e.time∧e.time≤1099511627776∧last<e.rep:=by
 unfold wrE;split
 ·constructor
  ·intro h;omega
  ·intro h;omega
 ·split
  ·constructor
   ·intro h;omega
   ·intro h;omega
  ·constructor
   ·intro _;omega
   ·intro _;rfl
theorem iX {e:Ent} {r:List Ent} {i:Nat} {last:Int} (h:wrE e last≠0):vr (e::r) i last=(wrE e last,(i:Int)):=by rw [vr,if_pos h]
theorem l9 {e:Ent} {r:List Ent} {i:Nat} {last:Int} (h:wrE e last=0):vr (e::r) i last=vr r (i+1) e.rep:=by rw [vr,if_neg (by simpa using h)]
def okV:Int→List Ent→Prop
 | _,[]=>True
 | last,e::r=>wrE e last=0∧okV e.rep r
def cG (l:List Ent):Prop:=l.length≤16∧okV (-1) l
theorem Ch (l:List Ent):∀ i last,(vr l i last).1=0↔okV last l:=by
 induction l with
 | nil=>intro i last;simp [vr,okV]
 | cons e r ih =>
  intro i last;by_cases h:wrE e last=0
  ·rw [l9 h,ih];exact ⟨fun h2=>⟨h,h2⟩,fun h2=>h2.2⟩
  ·rw [iX h];exact ⟨fun h2=>absurd h2 h,fun h2=>absurd h2.1 h⟩
theorem ec (l:List Ent):(au l).1=0↔cG l:=by
 unfold au cG;split
 ·constructor
  ·intro h;cases h
  ·intro h;omega
 ·rw [Ch];exact ⟨fun h=>⟨by omega,h⟩,fun h=>h.2⟩
theorem Cg (l:List Ent):∀ i last,(vr l i last).1=0→vr l i last=(0,-1):=by
 induction l with
 | nil=>intro i last _;rfl
 | cons e r ih =>
  intro i last h;by_cases hw:wrE e last=0
  ·rw [l9 hw] at h ⊢;exact ih _ _ h
  ·rw [iX hw] at h;exact absurd h hw
theorem oc {l:List Ent} (h:(au l).1=0):au l=(0,-1):=by
 unfold au at h ⊢;split
 ·rename_i h2;rw [if_pos h2] at h;cases h
 ·rename_i h2;rw [if_neg h2] at h;exact Cg _ _ _ h
theorem Cm {l:List Ent} (h:cG l):au l=(0,-1):=oc ((ec l).2 h)
theorem gh {l:List Ent}:∀ {last:Int},okV last l→∀ e∈l,0≤e.rep∧e.rep≤200∧1≤e.time∧e.time≤1099511627776∧last<e.rep:=by
 induction l with
 | nil=>intro last _ e h;cases h
 | cons d r ih =>
  intro last h e he;obtain ⟨h1,h2⟩:=h;rw [lm] at h1;rcases Et.1 he with rfl | he
  ·exact h1
  ·have:=ih h2 e he;omega
def ofF:List Ent→Int→Int
 | [],_=>0
 | e::r,x=>if e.rep=x then e.time else ofF r x
theorem xO {e:Ent} {r:List Ent} {x:Int} (h:e.rep=x):ofF (e::r) x=e.time:=by rw [ofF,if_pos h]
theorem xQ {e:Ent} {r:List Ent} {x:Int} (h:e.rep≠x):ofF (e::r) x=ofF r x:=by rw [ofF,if_neg h]
theorem xP {l:List Ent} {x:Int} (h:ofF l x≠0):∃ e∈l,e.rep=x∧e.time=ofF l x:=by
 induction l with
 | nil=>exact absurd rfl h
 | cons d r ih =>
  by_cases hd:d.rep=x
  ·exact ⟨d,EO,hd,by rw [xO hd]⟩
  ·rw [xQ hd] at h ⊢;obtain ⟨e,he,h1,h2⟩:=ih h;exact ⟨e,Eu _ he,h1,h2⟩
def covA (a b:List Ent):Bool:=b.all fun e=>decide (e.time≤ofF a e.rep)
def covB (a b:List Ent):Bool:=decide ((au a).1=0) && decide ((au b).1=0) && covA a b
end
section
open Go.RowKit
theorem aQ (n lo hi:Int) (w:World) (h1:lo≤n) (h2:n≤hi) :
 Calls Tryz.prog 27 #[.int .i64 n,.int .i64 lo,.int .i64 hi] w fun e w'=>e=.returned (.bool true)∧w=w':=by
 go_enter Tryz.func27,Tryz.ntmps27
 go_wp2;go_ret;exact ⟨rfl,rfl⟩
theorem bV (n lo hi:Int) (w:World) (h1:n<lo) :
 Calls Tryz.prog 27 #[.int .i64 n,.int .i64 lo,.int .i64 hi] w fun e w'=>e=.returned (.bool false)∧w=w':=by
 go_enter Tryz.func27,Tryz.ntmps27
 go_wp2;go_ret;exact ⟨rfl,rfl⟩
theorem bU (n lo hi:Int) (w:World) (h1:lo≤n) (h2:hi<n) :
 Calls Tryz.prog 27 #[.int .i64 n,.int .i64 lo,.int .i64 hi] w fun e w'=>e=.returned (.bool false)∧w=w':=by
 have h3:decide (n≤hi)=false:=by simp;omega
 go_enter Tryz.func27,Tryz.ntmps27
 go_wp2;go_ret;exact ⟨rfl,rfl⟩
end
section
open Go.RowKit
def dj (c:UInt8):Value:=.int .u8 (c.toNat:Int)
theorem fF:(Tryz.prog.info? 5).map (fun i=>(i.zero,i.size,i.bytes))=some (some (.int .u8 0),1,1):=by kernel_rfl
def aY (w:World) (base:Nat) (v:Value) (l:List UInt8):Prop:=w.ownsRow base 5 1 v l.length (l.map dj)
theorem yE (w:World) (base:Nat):aY w base (.slice none 0 0) []:=Ev _ _ _ _
theorem aY.alloc {w:World} {base:Nat} {v:Value} {l:List UInt8} (h:aY w base v l) (o:Obj):aY (w.alloc o) base v l:=EI h o
theorem lg {w:World} {ops:Array Oper} {rest:List Oper} {o:Oper} {a:Act} {Q:Exit→Act→World→Prop} (hgd:o.guard=none) (s x:Operand)
 (ho:o.op=.call { callee:=.builtin .append,args:=#[s,x],argTypes:=#[94,94] })
 (base:Nat) (v:Value) (l:List UInt8) (hs:a.eval s=v) (hown:aY w base v l)
 (ad:Addr) (c:Nat) (hx:a.eval x=.slice (some ad) 1 c) (b:Int) (d:UInt8) (hcell:w.cell? (ad.add 0)=some (.int .u8 b)) (hb:b=(d.toNat:Int))
 (hlen:l.length+1≤140737488355328) (hbase:base≤w.heap.size)
 (h:∀ v' w',aY w' base v' (l++[d])→w.grownBy w' v.ownBlock→v'≠.slice none 0 0→wpList Tryz.prog ops Q rest (a.put o.dst v') w'):wpList Tryz.prog ops Q (o::rest) a w:=by
 obtain ⟨i0,hi,hz0,hz1,hz2⟩:=DU fF;refine wpList_append_own w hgd s x 94 ho base 5 i0 (.int .u8 0) 1 1 Tryz.underlying94 hi hz0 hz1 hz2 rfl (by decide) v l.length (l.map dj) hs hown ad 1 c [dj d] hx rfl ?_ ?_ (by unfold maxLen;omega) (by omega) hbase ?_
 ·intro j u hj
  match j,hj with
  | 0,hj=>simp at hj;subst hj;rw [hcell,hb];rfl
 ·intro u hu;simp at hu;subst hu;rfl
 ·intro v' w' h1 h2 h3;refine h v' w' ?_ h2 ?_
  ·unfold aY;rw [Df,En];exact h1
  ·intro e;have:=(h3.1 e).2;omega
theorem mX {w:World} {base:Nat} {v:Value} {l:List UInt8} (h:aY w base v l) :
 (convert 94 9 v).run Tryz.prog w=.ok (.string ⟨l.toArray⟩) w:=by
 have hall:=h;obtain ⟨h0,h1⟩:=h;rcases h1 with ⟨rfl,hn⟩ | ⟨g,cap,cur,rfl,hb,hh,hc,hm,hs,ht⟩
 ·have:l=[]:=E0.1 hn;subst this;rw [run_convert_bytes_string w _ _ _ _ _ _ Tryz.underlying94 Tryz.underlying5 Tryz.underlying9]
  rfl
 ·refine EW w _ _ _ _ _ _ Tryz.underlying94 Tryz.underlying5 Tryz.underlying9 fun j hj=>?_
  exact World.ownsRow.cells hall rfl j (dj l[j]) (by simp [Di hj])
end
section
open Go.RowKit
theorem pG (x:Int) (h0 : -9223372036854775808≤x) (h1:x≤9223372036854775807):bits .xor .i64 (-1) x=-x-1:=by
 show IntKind.i64.wrap ((BitVec.ofInt 64 (-1) ^^^ BitVec.ofInt 64 x).toNat:Int)=_
 have e1:BitVec.ofInt 64 (-1)=BitVec.allOnes 64:=by decide
 have e2:(BitVec.ofInt 64 x).toNat=(x % 18446744073709551616).toNat:=by rw [BitVec.toNat_ofInt];rfl
 rw [e1,BitVec.allOnes_xor,BitVec.toNat_not,e2,IntKind.wrap_i64];omega
theorem fe {k:IntKind} {a b:Int} (h:a=b):Ending.returned (.int k a)=.returned (.int k b):=by rw [h]
def zigN (n:Int):Int:=if n<0 then -2 * n-1 else 2 * n
def zagN (u:Int):Int:=if u % 2=1 then -(u / 2)-1 else u / 2
theorem D9 (n:Int) (w:World) (h0 : -9223372036854775808≤n) (h1:n≤9223372036854775807) :
 Calls Tryz.prog 200 #[.int .i64 n] w fun e w'=>e=.returned (.int .u64 (zigN n))∧w=w':=by
 by_cases hneg:n<0
 ·have hn:Hid (bits .xor .i64 (-1) n=-n-1):=hid (pG n h0 h1);go_enter Tryz.func200,Tryz.ntmps200
  go_wp2;go_ret;refine ⟨fe ?_,rfl⟩;rw [hn.out,zigN,if_pos hneg];simp only [IntKind.wrap_u64];omega
 ·have h':0≤n:=by omega
  go_enter Tryz.func200,Tryz.ntmps200
  go_wp2;go_ret;exact ⟨fe (by rw [zigN,if_neg (by omega)]),rfl⟩
theorem D5 (n:Int) (w:World) (h0:0≤n) (h1:n≤18446744073709551615) :
 Calls Tryz.prog 190 #[.int .u64 n] w fun e w'=>e=.returned (.int .i64 (zagN n))∧w=w':=by
 by_cases h:n % 2=1
 ·have hb:(n % 2 == 1)=true:=by simpa using h
  have hn:Hid (bits .xor .i64 (-1) (n / 2)=-(n / 2)-1):=hid (pG (n / 2) (by omega) (by omega));have hh:=hid h;clear h;go_enter Tryz.func190,Tryz.ntmps190
  go_wp2;go_ret;exact ⟨fe (by show bits .xor .i64 (-1) (n / 2)=_;rw [hn.out,zagN,if_pos hh.out]),rfl⟩
 ·have hb:(n % 2 == 1)=false:=by simpa using h
  have hh:=hid h;clear h;go_enter Tryz.func190,Tryz.ntmps190
  go_wp2;go_ret;exact ⟨fe (by rw [zagN,if_neg hh.out]),rfl⟩
end
section
open Go.RowKit Go.Extern.Stop Go.Stop Go.Extern
namespace As
theorem valueOfP (t:Addr) (w:World):(ReflectliteValue.unpack (.iface 151 (.pointer (some t)))).run Tryz.prog w
 = .ok (.agg #[.pointer (some ⟨5,151,none⟩),.pointer (some ⟨w.heap.size,0,none⟩),.int .u64 150]) (w.alloc (.cells #[.pointer (some t)] 151)):=by kernel_rfl
theorem typeP (a : Addr) (w : World) : (ReflectliteValue.methodAny (ReflectliteValue.valueError "reflectlite.Value.Type" 0) (fun t _ _ _ => ReflectliteType.toType t) #[.agg #[.pointer (some ⟨5, 151, none⟩), .pointer (some a), .int .u64 150]]).run Tryz.prog w
 = .ok (.iface 237 (.agg #[.pointer (some ⟨5,151,none⟩)])) w:=by kernel_rfl
theorem methodKind (h : Value) (w : World) : (Go.method 403 237 (.agg #[h]) "Kind").run Tryz.prog w = .ok (235, h) w := by kernel_rfl
theorem kindP (w:World):((ReflectliteType.abiMethod fun t=>(fun a:Nat=>Value.int IntKind.u8 (a:Int)) <$> Rtype.kind t) #[.pointer (some ⟨5,151,none⟩)]).run Tryz.prog w=.ok (.int .u8 22) w:=by kernel_rfl
theorem kindE (w:World):((ReflectliteType.abiMethod fun t=>(fun a:Nat=>Value.int IntKind.u8 (a:Int)) <$> Rtype.kind t) #[.pointer (some ⟨5,26,none⟩)]).run Tryz.prog w=.ok (.int .u8 2) w:=by kernel_rfl
theorem wN (a : Addr) (W : World) : (ReflectliteValue.method (ReflectliteValue.valueError "reflectlite.Value.IsNil" 0) ReflectliteValue.isNil #[.agg #[.pointer (some ⟨5, 151, none⟩), .pointer (some a), .int .u64 150]]).run Tryz.prog W = (ReflectliteValue.isNil 151 a 150 22).run Tryz.prog W := by kernel_rfl
theorem isNilP (a p:Addr) (W:World) (ha:W.cell? a=some (.pointer (some p))) :
 (ReflectliteValue.method (ReflectliteValue.valueError "reflectlite.Value.IsNil" 0) ReflectliteValue.isNil #[.agg #[.pointer (some ⟨5, 151, none⟩), .pointer (some a), .int .u64 150]]).run Tryz.prog W = .ok (.bool false) W := by
 rw [wN];simp [ReflectliteValue.isNil,loadVar,isAgg,underlying,Tryz.underlying151,ha,Result.andThen]
theorem methodElem (h : Value) (w : World) : (Go.method 403 237 (.agg #[h]) "Elem").run Tryz.prog w = .ok (248, .agg #[h]) w := by kernel_rfl
theorem methodImplements (h : Value) (w : World) : (Go.method 403 237 (.agg #[h]) "Implements").run Tryz.prog w = .ok (249, .agg #[h]) w := by kernel_rfl
theorem methodAssignableTo (h : Value) (w : World) : (Go.method 403 237 (.agg #[h]) "AssignableTo").run Tryz.prog w = .ok (246, .agg #[h]) w := by kernel_rfl
theorem elemP (w:World):(ReflectliteType.method ReflectliteType.elem #[.agg #[.pointer (some ⟨5,151,none⟩)]]).run Tryz.prog w=.ok (.iface 237 (.agg #[.pointer (some ⟨5,26,none⟩)])) w:=by kernel_rfl
theorem implementsE (w : World) : (ReflectliteType.relation "Implements" ReflectliteType.implements_ #[.agg #[.pointer (some ⟨5, 26, none⟩)], .iface 237 (.agg #[.pointer (some ⟨5, 32, none⟩)])]).run Tryz.prog w = .ok (.bool true) w := by kernel_rfl
theorem typeOfE (v:Value) (w:World):(ReflectliteType.typeOf #[.iface 26 v]).run Tryz.prog w=.ok (.iface 237 (.agg #[.pointer (some ⟨5,26,none⟩)])) w:=by kernel_rfl
theorem typeOfA (v:Value) (w:World):(ReflectliteType.typeOf #[.iface 103 v]).run Tryz.prog w=.ok (.iface 237 (.agg #[.pointer (some ⟨5,103,none⟩)])) w:=by kernel_rfl
theorem assignableE (w : World) : (ReflectliteType.relation "AssignableTo" ReflectliteType.assignableTo #[.agg #[.pointer (some ⟨5, 26, none⟩)], .iface 237 (.agg #[.pointer (some ⟨5, 26, none⟩)])]).run Tryz.prog w = .ok (.bool true) w := by kernel_rfl
theorem assignableA (w : World) : (ReflectliteType.relation "AssignableTo" ReflectliteType.assignableTo #[.agg #[.pointer (some ⟨5, 103, none⟩)], .iface 237 (.agg #[.pointer (some ⟨5, 26, none⟩)])]).run Tryz.prog w = .ok (.bool false) w := by kernel_rfl
theorem valueOfE (e:Int) (w:World):(ReflectliteValue.unpack (.iface 26 (.int .i64 e))).run Tryz.prog w
 = .ok (.agg #[.pointer (some ⟨5,26,none⟩),.pointer (some ⟨w.heap.size,0,none⟩),.int .u64 130]) (w.alloc (.cells #[.int .i64 e] 26)):=by kernel_rfl
theorem vp (w:World):(Rtype.elem? 151).run Tryz.prog w=.ok (some 26) w:=by kernel_rfl
theorem mkE (p:Addr) (w:World):(ReflectliteValue.mk 26 p ReflectliteValue.flagAddr).run Tryz.prog w=.ok (.agg #[.pointer (some ⟨5,26,none⟩),.pointer (some p),.int .u64 386]) w:=by kernel_rfl
theorem vo (a : Addr) (W : World) : (ReflectliteValue.method (ReflectliteValue.valueError "reflectlite.Value.Elem" 0) ReflectliteValue.elem #[.agg #[.pointer (some ⟨5, 151, none⟩), .pointer (some a), .int .u64 150]]).run Tryz.prog W = (ReflectliteValue.elem 151 a 150 22).run Tryz.prog W := by kernel_rfl
theorem elemVP (a p:Addr) (W:World) (ha:W.cell? a=some (.pointer (some p))) :
 (ReflectliteValue.method (ReflectliteValue.valueError "reflectlite.Value.Elem" 0) ReflectliteValue.elem #[.agg #[.pointer (some ⟨5, 151, none⟩), .pointer (some a), .int .u64 150]]).run Tryz.prog W
  = .ok (.agg #[.pointer (some ⟨5,26,none⟩),.pointer (some p),.int .u64 386]) W:=by
 rw [vo];simp [ReflectliteValue.elem,loadVar,isAgg,underlying,Tryz.underlying151,ha,Result.andThen,vp,mkE]
theorem AH (ta b:Addr) (W:World):(ReflectliteValue.set #[.agg #[.pointer (some ⟨5,26,none⟩),.pointer (some ta),.int .u64 386],.agg #[.pointer (some ⟨5,26,none⟩),.pointer (some b),.int .u64 130]]).run Tryz.prog W
 = (do let val ←loadVar 26 b;storeVar 26 ta val;pure (Value.tuple #[]):Sem Value).run Tryz.prog W:=by kernel_rfl
theorem setE (ta b:Addr) (e:Int) (old:Value) (W:World) (hb:W.cell? b=some (.int .i64 e)) (ht:W.cell? ta=some old) (hf:W.frozen? ta=false) :
 (ReflectliteValue.set #[.agg #[.pointer (some ⟨5,26,none⟩),.pointer (some ta),.int .u64 386],.agg #[.pointer (some ⟨5,26,none⟩),.pointer (some b),.int .u64 130]]).run Tryz.prog W
  = .ok (.tuple #[]) (W.setCell ta (.int .i64 e)):=by
 rw [AH];simp [loadVar,isAgg,underlying,Tryz.underlying26,hb,Result.andThen,storeVar,Value.cells,storeCells,Addr.add]
 rw [run_store Tryz.prog W ta _ _ (by rfl)];simp [ht,hf]
theorem noAsA (v:Value) (xT:TypeId) (w:World):(Instr.typeAssert (.iface 103 v) xT 242 true).run Tryz.prog w=.ok (.tuple #[.nilIface,.bool false]) w:=run_typeAssert_lacksB Tryz.underlying242 (by kernel_rfl) (by kernel_rfl) v xT w
theorem unwrapA (v:Value) (xT:TypeId) (w:World):(Instr.typeAssert (.iface 103 v) xT 107 true).run Tryz.prog w=.ok (.tuple #[.iface 103 v,.bool true]) w:=run_typeAssert_hasB Tryz.underlying107 (by kernel_rfl) v xT w
theorem noUnwrapE (v:Value) (xT:TypeId) (w:World):(Instr.typeAssert (.iface 26 v) xT 107 true).run Tryz.prog w=.ok (.tuple #[.nilIface,.bool false]) w:=run_typeAssert_lacksB Tryz.underlying107 (by kernel_rfl) (by kernel_rfl) v xT w
theorem noAtE (v:Value) (xT:TypeId) (w:World):(Instr.typeAssert (.iface 26 v) xT 103 true).run Tryz.prog w=.ok (.tuple #[.pointer none,.bool false]) w:=by kernel_rfl
theorem isAtA (v:Value) (xT:TypeId) (w:World):(Instr.typeAssert (.iface 103 v) xT 103 true).run Tryz.prog w=.ok (.tuple #[v,.bool true]) w:=by kernel_rfl
end As
end
section
theorem jk (l:List UInt8):(⟨l.toArray⟩:ByteArray).data.toList=l:=rfl
theorem bm (l:List UInt8):(⟨l.toArray⟩:ByteArray).size=l.length:=by simp [ByteArray.size]
theorem ac (s:ByteArray):s.size=s.data.toList.length:=(Array.length_toList (xs:=s.data)).symm
theorem cX {a b:ByteArray} (h:a.data.toList=b.data.toList):a=b:=by
 cases a;cases b;simp at h;subst h;rfl
theorem bF (s:ByteArray):(⟨s.data.toList.toArray⟩:ByteArray)=s:=by cases s;simp
theorem bE (a b:ByteArray):(a++b).data.toList=a.data.toList++b.data.toList:=by simp
theorem eO (a b:ByteArray):(a++b).size=a.size+b.size:=by simp
theorem cE (s:ByteArray) (i j:Nat):(s.extract i j).data.toList=(s.data.toList.take j).drop i:=by
 simp [List.drop_take]
end
section
theorem oF (a:ByteArray):(a.toList == a.toList)=true:=by simp
theorem oE {a b:ByteArray} (h:a≠b):(a.toList == b.toList)=false:=by
 refine EB.2 fun e=>h ?_
 rw [Ew,Ew] at e;cases a;cases b;simp_all
instance memB (s : ByteArray) (t : List ByteArray) : Decidable (s ∈ t) := decidable_of_iff (t.any (fun x => decide (x = s)) = true) (by simp)
def idxB (t:List ByteArray) (s:ByteArray):Nat:=t.findIdx (fun x=>decide (x=s))
def addK (t:List ByteArray) (s:ByteArray):List ByteArray:=if s∈t then t else t++[s]
def tabK:List ByteArray→List ByteArray→List ByteArray
 | t,[]=>t
 | t,s::r=>tabK (addK t s) r
def atK:List ByteArray→List ByteArray→List Nat
 | _,[]=>[]
 | t,s::r=>idxB t s::atK (addK t s) r
theorem mp {t:List ByteArray} {s:ByteArray} (h:s∈t):idxB t s<t.length:=by
 unfold idxB;exact List.findIdx_lt_length_of_exists ⟨s,h,by simp⟩
theorem jJ {t:List ByteArray} {s:ByteArray} (h:s∈t):t[idxB t s]? = some s:=by
 have h1:=mp h;have h2:=List.findIdx_getElem (xs:=t) (p:=fun x=>decide (x=s)) (w:=h1);rw [Di h1];simp only [Eo] at h2
 exact congrArg some h2
theorem ia {t:List ByteArray} {s:ByteArray} (h:s ∉ t):idxB t s=t.length:=by
 unfold idxB;rw [List.findIdx_eq_length];intro x hx;simp only [Ei]
 rintro rfl;exact h hx
theorem jI {t:List ByteArray} (hn:t.Nodup) {j:Nat} {s:ByteArray} (h:t[j]? = some s):idxB t s=j:=by
 have hm:s∈t:=DB h;have h1:=jJ hm;obtain ⟨hj,ej⟩:=Do.1 h;obtain ⟨hi,ei⟩:=Do.1 h1;exact (List.getElem_inj hn).1 (ei.trans ej.symm)
theorem je {t:List ByteArray} {s:ByteArray} (h:s∈t):addK t s=t:=if_pos h
theorem fW {t:List ByteArray} {s:ByteArray} (h:s ∉ t):addK t s=t++[s]:=if_neg h
theorem ow {t:List ByteArray} {s:ByteArray} (h:t.Nodup):(addK t s).Nodup:=by
 unfold addK;split
 ·exact h
 ·rename_i hs;rw [List.nodup_append];exact ⟨h,by simp,fun a ha b hb=>by simp at hb;subst hb;rintro rfl;exact hs ha⟩
theorem tt (t:List ByteArray) (s:ByteArray):t <+: addK t s:=by
 unfold addK;split
 ·exact List.prefix_rfl
 ·exact List.prefix_append _ _
theorem B6 (r:List ByteArray):∀ t,t <+: tabK t r:=by
 induction r with
 | nil=>intro t;exact List.prefix_rfl
 | cons s r ih=>intro t;exact (tt t s).trans (ih _)
theorem B4 (r:List ByteArray):∀ t,(tabK t r).length≤t.length+r.length:=by
 induction r with
 | nil=>intro t;simp [tabK]
 | cons s r ih =>
  intro t;have:=ih (addK t s);have h2:(addK t s).length≤t.length+1:=by unfold addK;split <;> simp
  simp [tabK];omega
theorem B7 (r:List ByteArray):∀ t x,x∈tabK t r→x∈t∨x∈r:=by
 induction r with
 | nil=>intro t x h;exact .inl h
 | cons s r ih =>
  intro t x h;rcases ih _ _ h with h1 | h1
  ·unfold addK at h1;split at h1
   ·exact .inl h1
   ·rcases Ef.1 h1 with h2 | h2
    ·exact .inl h2
    ·simp at h2;subst h2;exact .inr (by simp)
  ·exact .inr (Eu _ h1)
theorem rS {l t:List ByteArray} {k:Nat} {s:ByteArray} (h:l[k]? = some s) (hs:s∈t):tabK t (l.drop k)=tabK t (l.drop (k+1)):=by
 obtain ⟨hk,e⟩:=Do.1 h;rw [DA hk,e,tabK,je hs]
theorem rT {l t:List ByteArray} {k:Nat} {s:ByteArray} (h:l[k]? = some s) (hs:s ∉ t):tabK t (l.drop k)=tabK (t++[s]) (l.drop (k+1)):=by
 obtain ⟨hk,e⟩:=Do.1 h;rw [DA hk,e,tabK,fW hs]
theorem oz {l t:List ByteArray} {k:Nat} {s:ByteArray} (h:l[k]? = some s) (hs:s∈t):atK t (l.drop k)=idxB t s::atK t (l.drop (k+1)):=by
 obtain ⟨hk,e⟩:=Do.1 h;rw [DA hk,e,atK,je hs]
theorem oA {l t:List ByteArray} {k:Nat} {s:ByteArray} (h:l[k]? = some s) (hs:s ∉ t):atK t (l.drop k)=t.length::atK (t++[s]) (l.drop (k+1)):=by
 obtain ⟨hk,e⟩:=Do.1 h;rw [DA hk,e,atK,fW hs,ia hs]
def dupG:List ByteArray→List ByteArray→Nat→Option Nat
 | _,[],_=>none
 | seen,s::r,i=>if s∈seen then some i else dupG (seen++[s]) r (i+1)
def ordG (K:Nat):Nat→List Int→Nat→Nat×Int
 | told,[],_=>if told<K then (8,-1) else (0,-1)
 | told,n::r,i=>if n<0∨(K:Int)≤n then (2,(i:Int)) else if (told:Int)<n then (13,(i:Int)) else ordG K (if n=told then told+1 else told) r (i+1)
def outG (T:List ByteArray) (l:List Int):List ByteArray:=l.map fun n=>T.getD n.toNat ByteArray.empty
def aT (T:List ByteArray) (l:List Int):List ByteArray×Nat×Int :=
 match dupG [] T 0 with
 | some i=>([],9,(i:Int))
 | none=>if (ordG T.length 0 l 0).1=0 then (outG T l,0,-1) else ([],ordG T.length 0 l 0)
theorem vm (r:List ByteArray):∀ seen i,seen.Nodup→(dupG seen r i=none↔(seen++r).Nodup):=by
 induction r with
 | nil=>intro seen i h;simp [dupG,h]
 | cons s r ih =>
  intro seen i h;unfold dupG;split
  ·rename_i hs;simp only [reduceCtorEq,false_iff]
   intro hc;rw [List.nodup_append] at hc;exact hc.2.2 s hs s (by simp) rfl
  ·rename_i hs;have hn:(seen++[s]).Nodup:=by have:=ow (s:=s) h;rwa [fW hs] at this
   rw [ih _ _ hn];simp
theorem yg (T:List ByteArray) (hn:T.Nodup) (l:List Int):∀ told i,told≤T.length→(ordG T.length told l i).1=0 →
 tabK (T.take told) (outG T l)=T∧(atK (T.take told) (outG T l)).map Int.ofNat=l:=by
 induction l with
 | nil =>
  intro told i ht h;unfold ordG at h;split at h
  ·simp at h
  ·refine ⟨?_,rfl⟩;simp only [outG,List.map_nil,tabK]
   exact DL (by omega)
 | cons n r ih =>
  intro told i ht h;unfold ordG at h;split at h
  ·simp at h
  ·split at h
   ·simp at h
   ·rename_i h1 h2;obtain ⟨j,rfl⟩:∃ j:Nat,n=j:=⟨n.toNat,by omega⟩;have hjl:j<T.length:=by omega
    have hout:outG T ((j:Int)::r)=T[j]::outG T r:=by simp [outG,hjl]
    have hat:T[j]? = some T[j]:=Di hjl;rw [hout,tabK,atK,List.map_cons];by_cases hjt:j=told
    ·subst hjt;rw [if_pos rfl] at h;have hne:T[j] ∉ T.take j:=by
      intro hc;obtain ⟨m,hm⟩:=List.mem_iff_getElem?.1 hc;have hmj:m<j:=by have:=(Do.1 hm).1;simp at this;omega
      rw [EP hmj] at hm;have e1:=jI hn hm;have e2:=jI hn hat;omega
     have e:addK (T.take j) T[j]=T.take (j+1):=by rw [fW hne,EC hjl]
     have ei:idxB (T.take j) T[j]=j:=by rw [ia hne,DK];omega
     rw [e,ei];obtain ⟨q1,q2⟩:=ih (j+1) (i+1) (by omega) h;exact ⟨q1,by rw [q2];rfl⟩
    ·rw [if_neg (by omega)] at h;have hjt2:j<told:=by omega
     have hm:(T.take told)[j]? = some T[j]:=by rw [EP hjt2];exact hat
     have hin:T[j]∈T.take told:=DB hm;have ei:idxB (T.take told) T[j]=j:=jI (hn.sublist (List.take_sublist _ _)) hm;rw [je hin,ei];obtain ⟨q1,q2⟩:=ih told (i+1) ht h;exact ⟨q1,by rw [q2];rfl⟩
theorem xu {T:List ByteArray} {l:List Int} (h:(aT T l).2.1=0):aT T l=(outG T l,0,-1)∧tabK [] (outG T l)=T∧(atK [] (outG T l)).map Int.ofNat=l:=by
 unfold aT at h ⊢;split at h
 ·simp at h
 ·rename_i hd;have hn:T.Nodup:=by simpa using (vm T [] 0 (by simp)).1 hd
  split at h
  ·rename_i ho;rw [if_pos ho];have:=yg T hn l 0 0 (Ds _) ho;simp only [List.take_zero] at this
   exact ⟨rfl,this.1,this.2⟩
  ·rename_i ho;exact absurd h ho
end
