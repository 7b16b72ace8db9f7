import Derived.WalkKit
import Derived.Test.YtjkbmfpomgcblaaGreatDoorProg
import Derived.KernelRfl
import Derived.Deep.Slices
import Derived.Deep.Fields
import Derived.ChangeSame
import Derived.SizedLaws
import Derived.Below
import Derived.ProofKit
import Derived.OpenShut
import Derived.Handy
import Derived.Laws.IdiomStrings
import Derived.Lib.Hide
import Derived.LaidEql
import Derived.Stop.Asserts
import Derived.RowKitTokens
namespace Go.Proofs.YtjkbmfpomgcblaaGreatDoor
def putL (n:Nat):List UInt8:=if n < 128 then [UInt8.ofNat n] else UInt8.ofNat (n % 128 + 128) :: putL (n / 128)
termination_by n
decreasing_by omega
def valL:List UInt8→Nat
 | []=>0
 | c :: r=>c.toNat % 128 + 128 * valL r
def scan:Nat→List UInt8→Nat ⊕ Nat
 | _,[]=>.inl 7
 | i,c :: r=>if i=9∧1 < c.toNat then .inl 4 else if 0 < i∧c.toNat=0 then .inl 3 else if c.toNat < 128 then .inr (i + 1) else scan (i + 1) r
def getL (l:List UInt8):Nat×Nat×Nat:=match scan 0 l with
 | .inl e=>(0,0,e)
 | .inr k=>(valL (l.take k),k,0)
theorem putL_small {n:Nat} (h:n < 128):putL n=[UInt8.ofNat n]:=by rw [putL,if_pos h]
theorem putL_big {n:Nat} (h:¬ n < 128):putL n=UInt8.ofNat (n % 128 + 128) :: putL (n / 128):=by rw [putL,if_neg h]
theorem putL_pos (n:Nat):0 < (putL n).length:=by
 by_cases h:n < 128
 · rw [putL_small h];simp
 · rw [putL_big h];simp
theorem toNat_ofNat_lt {n:Nat} (h:n < 256):(UInt8.ofNat n).toNat=n:=by simp;omega
theorem ofNat_toNat (c:UInt8):UInt8.ofNat c.toNat=c:=by simp
theorem valL_putL (n:Nat):valL (putL n)=n:=by
 induction n using Nat.strongRecOn with
 | ind n ih =>
   by_cases h:n < 128
   · rw [putL_small h,valL,valL,toNat_ofNat_lt (by omega)];omega
   · rw [putL_big h,valL,toNat_ofNat_lt (by omega),ih (n / 128) (by omega)];omega
theorem putL_len (j:Nat):∀ n,n < 128 ^ j→0 < j→(putL n).length≤j:=by
 induction j with
 | zero=>intro n _ h;omega
 | succ j ih =>
   intro n hn _
   by_cases h:n < 128
   · rw [putL_small h];simp
   · rw [putL_big h,List.length_cons]
     have hj:0 < j:=by
       rcases Nat.eq_zero_or_pos j with rfl | h'
       · simp at hn;omega
       · exact h'
     have h2:n / 128 < 128 ^ j:=by
       rw [Nat.pow_succ] at hn
       exact Nat.div_lt_of_lt_mul (by rw [Nat.mul_comm];exact hn)
     have:=ih (n / 128) h2 hj
     omega
theorem putL_le10 {n:Nat} (h:n < 18446744073709551616):(putL n).length≤10 :=
 putL_len 10 n (Nat.lt_of_lt_of_le h (by decide)) (by decide)
theorem pow9:128 ^ 9=9223372036854775808:=by decide
theorem scan_put (more:List UInt8) (m:Nat):∀ i,m * 128 ^ i < 18446744073709551616→(0 < i→0 < m)→i≤9→scan i (putL m ++ more)=.inr (i + (putL m).length):=by
 induction m using Nat.strongRecOn with
 | ind m ih =>
   intro i hm hi h9
   by_cases h:m < 128
   · rw [putL_small h,List.cons_append,List.nil_append,scan,toNat_ofNat_lt (by omega)]
     have n1:¬ (i=9∧1 < m):=by
       rintro ⟨rfl,h1⟩
       rw [pow9] at hm;omega
     rw [if_neg n1,if_neg (by omega),if_pos h];rfl
   · rw [putL_big h,List.cons_append,scan,toNat_ofNat_lt (by omega)]
     have n9:i≠9:=by rintro rfl;rw [pow9] at hm;omega
     rw [if_neg (by omega),if_neg (by omega),if_neg (by omega)]
     have hm2:m / 128 * 128 ^ (i + 1) < 18446744073709551616:=by
       rw [Nat.pow_succ,Nat.mul_comm (128 ^ i),←Nat.mul_assoc]
       exact Nat.lt_of_le_of_lt (Nat.mul_le_mul_right _ (Nat.div_mul_le_self m 128)) hm
     rw [ih (m / 128) (by omega) (i + 1) hm2 (by omega) (by omega),List.length_cons]
     congr 1;omega
theorem getL_put (m:Nat) (more:List UInt8) (hm:m < 18446744073709551616):getL (putL m ++ more)=(m,(putL m).length,0):=by
 unfold getL
 rw [scan_put more m 0 (by simpa using hm) (by omega) (by omega)]
 simp [valL_putL]
theorem scan_only (l:List UInt8):∀ i k,scan i l=.inr k→∃ j,k=i + j∧1≤j∧j≤l.length∧putL (valL (l.take j))=l.take j∧(0 < i→0 < valL (l.take j)):=by
 induction l with
 | nil=>intro i k h;simp [scan] at h
 | cons c r ih =>
   intro i k h
   have hc:=c.toNat_lt
   rw [scan] at h
   by_cases h1:i=9∧1 < c.toNat
   · rw [if_pos h1] at h;cases h
   · rw [if_neg h1] at h
     by_cases h2:0 < i∧c.toNat=0
     · rw [if_pos h2] at h;cases h
     · rw [if_neg h2] at h
       by_cases h3:c.toNat < 128
       · rw [if_pos h3] at h
         injection h with h
         have hv:valL [c]=c.toNat:=by rw [valL,valL];omega
         refine ⟨1,h.symm,by omega,by simp,?_,?_⟩
         · rw [List.take_succ_cons,List.take_zero,hv,putL_small h3,ofNat_toNat]
         · intro hi;rw [List.take_succ_cons,List.take_zero,hv];omega
       · rw [if_neg h3] at h
         obtain ⟨j,e1,e2,e3,e4,e5⟩:=ih (i + 1) k h
         have hp:=e5 (by omega)
         refine ⟨j + 1,by omega,by omega,by simp;omega,?_,?_⟩
         · rw [List.take_succ_cons,valL,putL_big (by omega)]
           rw [show (c.toNat % 128 + 128 * valL (List.take j r)) / 128=valL (List.take j r) by omega,show (c.toNat % 128 + 128 * valL (List.take j r)) % 128 + 128=c.toNat by omega,e4,ofNat_toNat]
         · intro _;rw [List.take_succ_cons,valL];omega
theorem getL_only {l:List UInt8} {n k:Nat} (h:getL l=(n,k,0)):1≤k∧k≤l.length∧putL n=l.take k:=by
 unfold getL at h
 split at h
 · rename_i e he
   simp only [Prod.mk.injEq] at h
   obtain ⟨_,_,rfl⟩:=h
   exfalso
   have:∀ (l:List UInt8) (i:Nat),scan i l≠.inl 0:=by
     intro l
     induction l with
     | nil=>intro i h;simp [scan] at h
     | cons c r ih =>
       intro i h
       rw [scan] at h
       split at h
       · cases h
       · split at h
         · cases h
         · split at h
           · cases h
           · exact ih _ h
   exact this _ _ he
 · rename_i k' hk
   simp only [Prod.mk.injEq] at h
   obtain ⟨rfl,rfl,_⟩:=h
   obtain ⟨j,e1,e2,e3,e4,_⟩:=scan_only l 0 k' hk
   obtain rfl:k'=j:=by omega
   exact ⟨e2,e3,e4⟩
theorem scan_err (l:List UInt8):∀ (i e:Nat),scan i l=.inl e→e=7∨e=4∨e=3:=by
 induction l with
 | nil=>intro i e h;simp [scan] at h;omega
 | cons c r ih =>
   intro i e h
   rw [scan] at h
   split at h
   · injection h with h;omega
   · split at h
     · injection h with h;omega
     · split at h
       · cases h
       · exact ih _ _ h
theorem getL_bad {l:List UInt8} (h:(getL l).2.2≠0):(getL l).1=0∧(getL l).2.1=0∧((getL l).2.2=7∨(getL l).2.2=4∨(getL l).2.2=3):=by
 unfold getL at h ⊢
 split
 · rename_i e he;exact ⟨rfl,rfl,scan_err _ _ _ he⟩
 · rename_i k hk;simp [hk] at h
theorem getL_err (l:List UInt8):(getL l).2.2=0∨(getL l).2.2=7∨(getL l).2.2=4∨(getL l).2.2=3:=by
 by_cases h:(getL l).2.2=0
 · exact .inl h
 · exact .inr (getL_bad h).2.2
theorem valL_append (a:List UInt8) (c:UInt8):valL (a ++ [c])=valL a + c.toNat % 128 * 128 ^ a.length:=by
 induction a with
 | nil=>simp [valL]
 | cons d r ih =>
   rw [List.cons_append,valL,ih,valL,List.length_cons,Nat.pow_succ,Nat.mul_add,←Nat.add_assoc]
   congr 1
   rw [Nat.mul_comm,Nat.mul_assoc]
theorem valL_lt (a:List UInt8):valL a < 128 ^ a.length:=by
 induction a with
 | nil=>simp [valL]
 | cons d r ih =>
   rw [valL,List.length_cons,Nat.pow_succ]
   have:d.toNat % 128 < 128:=Nat.mod_lt _ (by decide)
   have h2:128 * (valL r + 1)≤128 * 128 ^ r.length:=Nat.mul_le_mul_left 128 ih
   rw [Nat.mul_comm (128 ^ r.length)]
   omega
theorem valL_take_succ (l:List UInt8) (k:Nat) (h:k < l.length):valL (l.take (k + 1))=valL (l.take k) + l[k].toNat % 128 * 128 ^ k:=by
 rw [List.take_succ_eq_append_getElem h,valL_append]
 congr 3
 simp;omega
theorem scan_drop (l:List UInt8) (i:Nat) (h:i < l.length):scan i (l.drop i)=if i=9∧1 < l[i].toNat then .inl 4 else if 0 < i∧l[i].toNat=0 then .inl 3 else if l[i].toNat < 128 then .inr (i + 1) else scan (i + 1) (l.drop (i + 1)):=by
 rw [List.drop_eq_getElem_cons h,scan]
def sevens (n:Nat):Nat:=if n < 128 then 1 else sevens (n / 128) + 1
termination_by n
decreasing_by omega
theorem sevens_small {n:Nat} (h:n < 128):sevens n=1:=by rw [sevens,if_pos h]
theorem sevens_big {n:Nat} (h:¬ n < 128):sevens n=sevens (n / 128) + 1:=by rw [sevens,if_neg h]
theorem putL_sevens (n:Nat):(putL n).length=sevens n:=by
 induction n using Nat.strongRecOn with
 | ind n ih =>
   by_cases h:n < 128
   · rw [putL_small h,sevens_small h];rfl
   · rw [putL_big h,sevens_big h,List.length_cons,ih (n / 128) (by omega)]
theorem scan_ten (l:List UInt8):∀ (i k:Nat),i≤9→scan i l=.inr k→k≤10∧i < k∧k - i≤l.length∧(k=10→∀ c,l[9 - i]? = some c→c.toNat≤1):=by
 induction l with
 | nil=>intro i k _ h;simp [scan] at h
 | cons c r ih =>
   intro i k hi h
   rw [scan] at h
   by_cases h1:i=9∧1 < c.toNat
   · rw [if_pos h1] at h;cases h
   · rw [if_neg h1] at h
     by_cases h2:0 < i∧c.toNat=0
     · rw [if_pos h2] at h;cases h
     · rw [if_neg h2] at h
       by_cases h3:c.toNat < 128
       · rw [if_pos h3] at h
         injection h with h
         subst h
         refine ⟨by omega,by omega,by simp,?_⟩
         intro h9 d hd
         obtain rfl:i=9:=by omega
         simp at hd;subst hd;omega
       · rw [if_neg h3] at h
         obtain ⟨a,b,c',d⟩:=ih (i + 1) k (by omega) h
         refine ⟨a,by omega,by simp;omega,?_⟩
         intro h9 e he
         rw [show 9 - i=(9 - (i + 1)) + 1 by omega,List.getElem?_cons_succ] at he
         exact d h9 e he
theorem scan_lt {l:List UInt8} {k:Nat} (h:scan 0 l=.inr k):1≤k∧k≤10∧k≤l.length∧valL (l.take k) < 18446744073709551616:=by
 obtain ⟨a,b,c,d⟩:=scan_ten l 0 k (by omega) h
 refine ⟨by omega,a,by omega,?_⟩
 by_cases h10:k=10
 · subst h10
   have hl:9 < l.length:=by omega
   rw [valL_take_succ l 9 hl]
   have h1:=valL_lt (l.take 9)
   have h2:=d rfl l[9] (by rw [List.getElem?_eq_getElem hl])
   have h3:(l.take 9).length=9:=by simp;omega
   rw [h3,pow9] at h1
   rw [pow9]
   have h4:l[9].toNat % 128≤1:=by omega
   have:=Nat.mul_le_mul_right 9223372036854775808 h4
   omega
 · have h1:=valL_lt (l.take k)
   have h3:(l.take k).length=k:=by simp;omega
   have h4:128 ^ k≤128 ^ 9:=Nat.pow_le_pow_right (by decide) (by omega)
   rw [h3] at h1
   rw [pow9] at h4
   omega
end Go.Proofs.YtjkbmfpomgcblaaGreatDoor
namespace Go.Proofs.YtjkbmfpomgcblaaGreatDoor
open Go.ChangeShapes Go.WideShapes Go.ChangeAt Go.RowKit
structure Wr where
 time:Int
 rep:Int
 kind:Int
 key:ByteArray
 value:ByteArray
 n:Int
def wrC (x:Wr):List Value:=[.int .i64 x.time,.int .i64 x.rep,.int .i64 x.kind,.string x.key,.string x.value,.int .i64 x.n]
def WrOk (x:Wr):Prop:=-9223372036854775808≤x.n∧x.n≤9223372036854775807∧x.key.size≤140737488351232∧x.value.size≤140737488351232
theorem pair_fields {H:Type} {enc:TypeId×Value→H} {P:Program} {W:World} {spare:Nat→Bool} {held:Bool} {n:Nat} {t:TypeId} {cs:List Value} {x:DataW H×List MemPlace} {p q:Field}
   (ht:P.underlying t=some (.struct #[p,q])) (h1:Go.Deep.oneCellFields P #[p,q]=true) (h3:P.cellsOf t=2)
   (h:DataW.trod enc P W 0 spare held n t cs=some x) :
   ∃ (a b:Value) (u v:DataW H×List MemPlace) (m:Nat),cs=[a,b]∧x.1=.agg [u.1,v.1] ∧
     DataW.trod enc P W 0 spare held m p.type [a]=some u∧DataW.trod enc P W 0 spare held m q.type [b]=some v:=by
 obtain ⟨xs,m,_,hx,hl,hxl,hf⟩:=DataW.trod_struct ht h
 rw [h3] at hl
 have hxl':xs.length=2:=hxl
 match cs,hl with
 | [a,b],_ =>
   match xs,hxl' with
   | [u,v],_ =>
     have one:=Go.Deep.hone_of h1
     have g0:=hf 0 p rfl
     have g1:=hf 1 q rfl
     rw [(one 0 p rfl).1,(one 0 p rfl).2] at g0
     rw [(one 1 q rfl).1,(one 1 q rfl).2] at g1
     exact ⟨a,b,u,v,m,rfl,by rw [hx];rfl,g0,g1⟩
def wrD {H:Type} (x:Wr):DataW H:=.agg [.agg [.lit (.int .i64 x.time),.lit (.int .i64 x.rep)],.lit (.int .i64 x.kind),.lit (.string x.key.data.toList),.lit (.string x.value.data.toList),.lit (.int .i64 x.n)]
set_option maxRecDepth 100000 in
theorem wr_elem {H:Type} {enc:TypeId×Value→H} {W:World} {spare:Nat→Bool} {held:Bool} {n:Nat} {cs:List Value} {x:DataW H×List MemPlace}
   (h:DataW.trod enc Tryz.prog W 0 spare held n 59 cs=some x):∃ t:Wr,cs=wrC t∧x.1=wrD t∧-9223372036854775808≤t.n∧t.n≤9223372036854775807:=by
 obtain ⟨xs,m,_,hx,hl,hxl,hf⟩:=DataW.trod_struct Tryz.underlying59 h
 have c6:Tryz.prog.cellsOf 59=6:=by kernel_rfl
 have c2:Tryz.prog.cellsOf 57=2:=by kernel_rfl
 have cI:Tryz.prog.cellsOf 3=1:=by kernel_rfl
 have cS:Tryz.prog.cellsOf 9=1:=by kernel_rfl
 rw [c6] at hl
 have hxl':xs.length=5:=hxl
 match cs,hl with
 | [a,b,c,d,e,f],_ =>
   match xs,hxl' with
   | [u0,u1,u2,u3,u4],_ =>
     have g0:=hf 0 _ rfl
     have g1:=hf 1 _ rfl
     have g2:=hf 2 _ rfl
     have g3:=hf 3 _ rfl
     have g4:=hf 4 _ rfl
     simp [c2,cI,cS] at g0 g1 g2 g3 g4
     obtain ⟨a',b',y0,y1,m',hab,hy,t0,t1⟩:=pair_fields Tryz.underlying57 (by kernel_rfl) (by kernel_rfl) g0
     simp at hab
     obtain ⟨rfl,rfl⟩:=hab
     obtain ⟨T,e0,f0,_⟩:=DataW.trod_int Tryz.underlying3 t0
     obtain ⟨R,e1,f1,_⟩:=DataW.trod_int Tryz.underlying3 t1
     obtain ⟨K,e2,f2,_⟩:=DataW.trod_int Tryz.underlying3 g1
     obtain ⟨key,e3,f3,_⟩:=DataW.trod_string Tryz.underlying9 g2
     obtain ⟨val,e4,f4,_⟩:=DataW.trod_string Tryz.underlying9 g3
     obtain ⟨N,e5,f5,w5⟩:=DataW.trod_int Tryz.underlying3 g4
     obtain rfl:=List.head_eq_of_cons_eq e0
     obtain rfl:=List.head_eq_of_cons_eq e1
     obtain rfl:=List.head_eq_of_cons_eq e2
     obtain rfl:=List.head_eq_of_cons_eq e3
     obtain rfl:=List.head_eq_of_cons_eq e4
     obtain rfl:=List.head_eq_of_cons_eq e5
     have b5:=bounds_i64 w5
     refine ⟨⟨T,R,K,key,val,N⟩,rfl,?_,b5.1,b5.2⟩
     rw [hx]
     simp only [List.map_cons,List.map_nil,hy,f0,f1,f2,f3,f4,f5]
     rfl
end Go.Proofs.YtjkbmfpomgcblaaGreatDoor
namespace Go.Proofs.YtjkbmfpomgcblaaGreatDoor
structure Ent where
 rep:Int
 time:Int
deriving DecidableEq
def wrE (e:Ent) (last:Int):Nat:=if e.rep < 0∨200 < e.rep∨e.time < 1∨1099511627776 < e.time then 2 else if e.rep≤last then 10 else 0
def vr:List Ent→Nat→Int→Nat×Int
 | [],_,_=>(0,-1)
 | e :: r,i,last=>if wrE e last≠0 then (wrE e last,i) else vr r (i + 1) e.rep
def vrightF (l:List Ent):Nat×Int:=if 16 < l.length then (4,-1) else vr l 0 (-1)
theorem wrE_range {e:Ent} {last:Int} (h:e.rep < 0∨200 < e.rep∨e.time < 1∨1099511627776 < e.time):wrE e last=2:=by unfold wrE;rw [if_pos h]
theorem wrE_order {e:Ent} {last:Int} (h:¬ (e.rep < 0∨200 < e.rep∨e.time < 1∨1099511627776 < e.time)) (h2:e.rep≤last):wrE e last=10:=by unfold wrE;rw [if_neg h,if_pos h2]
theorem wrE_fine {e:Ent} {last:Int} (h:¬ (e.rep < 0∨200 < e.rep∨e.time < 1∨1099511627776 < e.time)) (h2:¬ e.rep≤last):wrE e last=0:=by unfold wrE;rw [if_neg h,if_neg h2]
theorem wrE_ok {e:Ent} {last:Int}:wrE e last=0↔0≤e.rep∧e.rep≤200∧1≤e.time∧e.time≤1099511627776∧last < e.rep:=by
 unfold wrE;split
 · constructor
   · intro h;omega
   · intro h;omega
 · split
   · constructor
     · intro h;omega
     · intro h;omega
   · constructor
     · intro _;omega
     · intro _;rfl
theorem vr_bad {e:Ent} {r:List Ent} {i:Nat} {last:Int} (h:wrE e last≠0):vr (e :: r) i last=(wrE e last,(i:Int)):=by rw [vr,if_pos h]
theorem vr_good {e:Ent} {r:List Ent} {i:Nat} {last:Int} (h:wrE e last=0):vr (e :: r) i last=vr r (i + 1) e.rep:=by rw [vr,if_neg (by simpa using h)]
def okV:Int→List Ent→Prop
 | _,[]=>True
 | last,e :: r=>wrE e last=0∧okV e.rep r
def rightV (l:List Ent):Prop:=l.length≤16∧okV (-1) l
theorem vr_ok (l:List Ent):∀ i last,(vr l i last).1=0↔okV last l:=by
 induction l with
 | nil=>intro i last;simp [vr,okV]
 | cons e r ih =>
   intro i last
   by_cases h:wrE e last=0
   · rw [vr_good h,ih];exact ⟨fun h2=>⟨h,h2⟩,fun h2=>h2.2⟩
   · rw [vr_bad h];exact ⟨fun h2=>absurd h2 h,fun h2=>absurd h2.1 h⟩
theorem vright_ok (l:List Ent):(vrightF l).1=0↔rightV l:=by
 unfold vrightF rightV
 split
 · constructor
   · intro h;cases h
   · intro h;omega
 · rw [vr_ok];exact ⟨fun h=>⟨by omega,h⟩,fun h=>h.2⟩
theorem vr_good_place (l:List Ent):∀ i last,(vr l i last).1=0→vr l i last=(0,-1):=by
 induction l with
 | nil=>intro i last _;rfl
 | cons e r ih =>
   intro i last h
   by_cases hw:wrE e last=0
   · rw [vr_good hw] at h ⊢;exact ih _ _ h
   · rw [vr_bad hw] at h;exact absurd h hw
theorem vright_good {l:List Ent} (h:(vrightF l).1=0):vrightF l=(0,-1):=by
 unfold vrightF at h ⊢
 split
 · rename_i h2;rw [if_pos h2] at h;cases h
 · rename_i h2;rw [if_neg h2] at h;exact vr_good_place _ _ _ h
theorem okV_mem {l:List Ent}:∀ {last:Int},okV last l→∀ e∈l,0≤e.rep∧e.rep≤200∧1≤e.time∧e.time≤1099511627776∧last < e.rep:=by
 induction l with
 | nil=>intro last _ e h;cases h
 | cons d r ih =>
   intro last h e he
   obtain ⟨h1,h2⟩:=h
   rw [wrE_ok] at h1
   rcases List.mem_cons.1 he with rfl | he
   · exact h1
   · have:=ih h2 e he;omega
def ofF:List Ent→Int→Int
 | [],_=>0
 | e :: r,x=>if e.rep=x then e.time else ofF r x
theorem ofF_at {e:Ent} {r:List Ent} {x:Int} (h:e.rep=x):ofF (e :: r) x=e.time:=by rw [ofF,if_pos h]
theorem ofF_on {e:Ent} {r:List Ent} {x:Int} (h:e.rep≠x):ofF (e :: r) x=ofF r x:=by rw [ofF,if_neg h]
theorem ofF_has {l:List Ent} {x:Int} (h:ofF l x≠0):∃ e∈l,e.rep=x∧e.time=ofF l x:=by
 induction l with
 | nil=>exact absurd rfl h
 | cons d r ih =>
   by_cases hd:d.rep=x
   · exact ⟨d,List.mem_cons_self,hd,by rw [ofF_at hd]⟩
   · rw [ofF_on hd] at h ⊢
     obtain ⟨e,he,h1,h2⟩:=ih h
     exact ⟨e,List.mem_cons_of_mem _ he,h1,h2⟩
def covA (a b:List Ent):Bool:=b.all fun e=>decide (e.time≤ofF a e.rep)
def covB (a b:List Ent):Bool:=decide ((vrightF a).1=0) && decide ((vrightF b).1=0) && covA a b
end Go.Proofs.YtjkbmfpomgcblaaGreatDoor
namespace Go.Proofs.YtjkbmfpomgcblaaGreatDoor
open Go.RowKit
def byteV (c:UInt8):Value:=.int .u8 (c.toNat:Int)
theorem info_u8:(Tryz.prog.info? 5).map (fun i=>(i.zero,i.size,i.bytes))=some (some (.int .u8 0),1,1):=by kernel_rfl
def ownsB (w:World) (base:Nat) (v:Value) (l:List UInt8):Prop:=w.ownsRow base 5 1 v l.length (l.map byteV)
theorem ownsB_nil (w:World) (base:Nat):ownsB w base (.slice none 0 0) []:=World.ownsRow_nil _ _ _ _
theorem ownsB.alloc {w:World} {base:Nat} {v:Value} {l:List UInt8} (h:ownsB w base v l) (o:Obj):ownsB (w.alloc o) base v l:=World.ownsRow.alloc h o
theorem wpList_append_byte {w:World} {ops:Array Oper} {rest:List Oper} {o:Oper} {a:Act} {Q:Exit→Act→World→Prop} (hgd:o.guard=none) (s x:Operand)
   (ho:o.op=.call { callee:=.builtin .append,args:=#[s,x],argTypes:=#[60,60] })
   (base:Nat) (v:Value) (l:List UInt8) (hs:a.eval s=v) (hown:ownsB w base v l)
   (ad:Addr) (c:Nat) (hx:a.eval x=.slice (some ad) 1 c) (b:Int) (d:UInt8) (hcell:w.cell? (ad.add 0)=some (.int .u8 b)) (hb:b=(d.toNat:Int))
   (hlen:l.length + 1≤140737488355328) (hbase:base≤w.heap.size)
   (h:∀ v' w',ownsB w' base v' (l ++ [d])→w.grownBy w' v.ownBlock→v'≠.slice none 0 0→wpList Tryz.prog ops Q rest (a.put o.dst v') w'):wpList Tryz.prog ops Q (o :: rest) a w:=by
 obtain ⟨i0,hi,hz0,hz1,hz2⟩:=info_parts info_u8
 refine wpList_append_own w hgd s x 60 ho base 5 i0 (.int .u8 0) 1 1 Tryz.underlying60 hi hz0 hz1 hz2 rfl (by decide) v l.length (l.map byteV) hs hown ad 1 c [byteV d] hx rfl ?_ ?_ (by unfold maxLen;omega) (by omega) hbase ?_
 · intro j u hj
   match j,hj with
   | 0,hj=>simp at hj;subst hj;rw [hcell,hb];rfl
 · intro u hu;simp at hu;subst hu;rfl
 · intro v' w' h1 h2 h3
   refine h v' w' ?_ h2 ?_
   · unfold ownsB
     rw [List.length_append,List.map_append]
     exact h1
   · intro e;have:=(h3.1 e).2;omega
theorem run_string_ownsB {w:World} {base:Nat} {v:Value} {l:List UInt8} (h:ownsB w base v l) :
   (convert 60 9 v).run Tryz.prog w=.ok (.string ⟨l.toArray⟩) w:=by
 have hall:=h
 obtain ⟨h0,h1⟩:=h
 rcases h1 with ⟨rfl,hn⟩ | ⟨g,cap,cur,rfl,hb,hh,hc,hm,hs,ht⟩
 · have:l=[]:=List.length_eq_zero_iff.1 hn
   subst this
   rw [run_convert_bytes_string w _ _ _ _ _ _ Tryz.underlying60 Tryz.underlying5 Tryz.underlying9]
   rfl
 · refine run_convert_bytes_back w _ _ _ _ _ _ Tryz.underlying60 Tryz.underlying5 Tryz.underlying9 fun j hj=>?_
   exact World.ownsRow.cells hall rfl j (byteV l[j]) (by simp [List.getElem?_eq_getElem hj])
end Go.Proofs.YtjkbmfpomgcblaaGreatDoor
namespace Go.Proofs.YtjkbmfpomgcblaaGreatDoor
open Go.RowKit
theorem i64_not_any (x:Int) (h0 : -9223372036854775808≤x) (h1:x≤9223372036854775807):bits .xor .i64 (-1) x=-x - 1:=by
 show IntKind.i64.wrap ((BitVec.ofInt 64 (-1) ^^^ BitVec.ofInt 64 x).toNat:Int)=_
 have e1:BitVec.ofInt 64 (-1)=BitVec.allOnes 64:=by decide
 have e2:(BitVec.ofInt 64 x).toNat=(x % 18446744073709551616).toNat:=by rw [BitVec.toNat_ofInt];rfl
 rw [e1,BitVec.allOnes_xor,BitVec.toNat_not,e2,IntKind.wrap_i64]
 omega
theorem ret_int {k:IntKind} {a b:Int} (h:a=b):Ending.returned (.int k a)=.returned (.int k b):=by rw [h]
def zigN (n:Int):Int:=if n < 0 then -2 * n - 1 else 2 * n
def zagN (u:Int):Int:=if u % 2=1 then -(u / 2) - 1 else u / 2
theorem zig_any (n:Int) (w:World) (h0 : -9223372036854775808≤n) (h1:n≤9223372036854775807) :
   Calls Tryz.prog 202 #[.int .i64 n] w fun e w'=>e=.returned (.int .u64 (zigN n))∧w=w':=by
 by_cases hneg:n < 0
 · have hn:Hid (bits .xor .i64 (-1) n=-n - 1):=Lib.hid (i64_not_any n h0 h1)
   go_enter Tryz.func202,Tryz.ntmps202
   go_wp2
   go_ret
   refine ⟨ret_int ?_,rfl⟩
   rw [hn.out,zigN,if_pos hneg]
   simp only [IntKind.wrap_u64];omega
 · have h':0≤n:=by omega
   go_enter Tryz.func202,Tryz.ntmps202
   go_wp2
   go_ret
   exact ⟨ret_int (by rw [zigN,if_neg (by omega)]),rfl⟩
theorem zag_any (n:Int) (w:World) (h0:0≤n) (h1:n≤18446744073709551615) :
   Calls Tryz.prog 229 #[.int .u64 n] w fun e w'=>e=.returned (.int .i64 (zagN n))∧w=w':=by
 by_cases h:n % 2=1
 · have hb:(n % 2 == 1)=true:=by simpa using h
   have hn:Hid (bits .xor .i64 (-1) (n / 2)=-(n / 2) - 1):=Lib.hid (i64_not_any (n / 2) (by omega) (by omega))
   have hh:=Lib.hid h
   clear h
   go_enter Tryz.func229,Tryz.ntmps229
   go_wp2
   go_ret
   exact ⟨ret_int (by show bits .xor .i64 (-1) (n / 2)=_;rw [hn.out,zagN,if_pos hh.out]),rfl⟩
 · have hb:(n % 2 == 1)=false:=by simpa using h
   have hh:=Lib.hid h
   clear h
   go_enter Tryz.func229,Tryz.ntmps229
   go_wp2
   go_ret
   exact ⟨ret_int (by rw [zagN,if_neg hh.out]),rfl⟩
end Go.Proofs.YtjkbmfpomgcblaaGreatDoor
namespace Go.Proofs.YtjkbmfpomgcblaaGreatDoor
open Go.RowKit Go.Extern.Stop Go.Stop Go.Extern
namespace As
theorem valueOfP (t:Addr) (w:World):(ReflectliteValue.unpack (.iface 109 (.pointer (some t)))).run Tryz.prog w
   = .ok (.agg #[.pointer (some ⟨5,109,none⟩),.pointer (some ⟨w.heap.size,0,none⟩),.int .u64 150]) (w.alloc (.cells #[.pointer (some t)] 109)):=by kernel_rfl
theorem typeP (a : Addr) (w : World) : (ReflectliteValue.methodAny (ReflectliteValue.valueError "reflectlite.Value.Type" 0) (fun t _ _ _ => ReflectliteType.toType t) #[.agg #[.pointer (some ⟨5, 109, none⟩), .pointer (some a), .int .u64 150]]).run Tryz.prog w
   = .ok (.iface 229 (.agg #[.pointer (some ⟨5,109,none⟩)])) w:=by kernel_rfl
theorem methodKind (h : Value) (w : World) : (Go.method 409 229 (.agg #[h]) "Kind").run Tryz.prog w = .ok (263, h) w := by kernel_rfl
theorem kindP (w:World):((ReflectliteType.abiMethod fun t=>(fun a:Nat=>Value.int IntKind.u8 (a:Int)) <$> Rtype.kind t) #[.pointer (some ⟨5,109,none⟩)]).run Tryz.prog w=.ok (.int .u8 22) w:=by kernel_rfl
theorem kindE (w:World):((ReflectliteType.abiMethod fun t=>(fun a:Nat=>Value.int IntKind.u8 (a:Int)) <$> Rtype.kind t) #[.pointer (some ⟨5,44,none⟩)]).run Tryz.prog w=.ok (.int .u8 2) w:=by kernel_rfl
theorem isNilForm (a : Addr) (W : World) : (ReflectliteValue.method (ReflectliteValue.valueError "reflectlite.Value.IsNil" 0) ReflectliteValue.isNil #[.agg #[.pointer (some ⟨5, 109, none⟩), .pointer (some a), .int .u64 150]]).run Tryz.prog W = (ReflectliteValue.isNil 109 a 150 22).run Tryz.prog W := by kernel_rfl
theorem isNilP (a p:Addr) (W:World) (ha:W.cell? a=some (.pointer (some p))) :
   (ReflectliteValue.method (ReflectliteValue.valueError "reflectlite.Value.IsNil" 0) ReflectliteValue.isNil #[.agg #[.pointer (some ⟨5, 109, none⟩), .pointer (some a), .int .u64 150]]).run Tryz.prog W = .ok (.bool false) W := by
 rw [isNilForm]
 simp [ReflectliteValue.isNil,loadVar,isAgg,underlying,Tryz.underlying109,ha,Result.andThen]
theorem methodElem (h : Value) (w : World) : (Go.method 409 229 (.agg #[h]) "Elem").run Tryz.prog w = .ok (276, .agg #[h]) w := by kernel_rfl
theorem methodImplements (h : Value) (w : World) : (Go.method 409 229 (.agg #[h]) "Implements").run Tryz.prog w = .ok (277, .agg #[h]) w := by kernel_rfl
theorem methodAssignableTo (h : Value) (w : World) : (Go.method 409 229 (.agg #[h]) "AssignableTo").run Tryz.prog w = .ok (274, .agg #[h]) w := by kernel_rfl
theorem elemP (w:World):(ReflectliteType.method ReflectliteType.elem #[.agg #[.pointer (some ⟨5,109,none⟩)]]).run Tryz.prog w=.ok (.iface 229 (.agg #[.pointer (some ⟨5,44,none⟩)])) w:=by kernel_rfl
theorem implementsE (w : World) : (ReflectliteType.relation "Implements" ReflectliteType.implements_ #[.agg #[.pointer (some ⟨5, 44, none⟩)], .iface 229 (.agg #[.pointer (some ⟨5, 29, none⟩)])]).run Tryz.prog w = .ok (.bool true) w := by kernel_rfl
theorem typeOfE (v:Value) (w:World):(ReflectliteType.typeOf #[.iface 44 v]).run Tryz.prog w=.ok (.iface 229 (.agg #[.pointer (some ⟨5,44,none⟩)])) w:=by kernel_rfl
theorem typeOfA (v:Value) (w:World):(ReflectliteType.typeOf #[.iface 111 v]).run Tryz.prog w=.ok (.iface 229 (.agg #[.pointer (some ⟨5,111,none⟩)])) w:=by kernel_rfl
theorem assignableE (w : World) : (ReflectliteType.relation "AssignableTo" ReflectliteType.assignableTo #[.agg #[.pointer (some ⟨5, 44, none⟩)], .iface 229 (.agg #[.pointer (some ⟨5, 44, none⟩)])]).run Tryz.prog w = .ok (.bool true) w := by kernel_rfl
theorem assignableA (w : World) : (ReflectliteType.relation "AssignableTo" ReflectliteType.assignableTo #[.agg #[.pointer (some ⟨5, 111, none⟩)], .iface 229 (.agg #[.pointer (some ⟨5, 44, none⟩)])]).run Tryz.prog w = .ok (.bool false) w := by kernel_rfl
theorem valueOfE (e:Int) (w:World):(ReflectliteValue.unpack (.iface 44 (.int .i64 e))).run Tryz.prog w
   = .ok (.agg #[.pointer (some ⟨5,44,none⟩),.pointer (some ⟨w.heap.size,0,none⟩),.int .u64 130]) (w.alloc (.cells #[.int .i64 e] 44)):=by kernel_rfl
theorem elemOfP (w:World):(Rtype.elem? 109).run Tryz.prog w=.ok (some 44) w:=by kernel_rfl
theorem mkE (p:Addr) (w:World):(ReflectliteValue.mk 44 p ReflectliteValue.flagAddr).run Tryz.prog w=.ok (.agg #[.pointer (some ⟨5,44,none⟩),.pointer (some p),.int .u64 386]) w:=by kernel_rfl
theorem elemForm (a : Addr) (W : World) : (ReflectliteValue.method (ReflectliteValue.valueError "reflectlite.Value.Elem" 0) ReflectliteValue.elem #[.agg #[.pointer (some ⟨5, 109, none⟩), .pointer (some a), .int .u64 150]]).run Tryz.prog W = (ReflectliteValue.elem 109 a 150 22).run Tryz.prog W := by kernel_rfl
theorem elemVP (a p:Addr) (W:World) (ha:W.cell? a=some (.pointer (some p))) :
   (ReflectliteValue.method (ReflectliteValue.valueError "reflectlite.Value.Elem" 0) ReflectliteValue.elem #[.agg #[.pointer (some ⟨5, 109, none⟩), .pointer (some a), .int .u64 150]]).run Tryz.prog W
     = .ok (.agg #[.pointer (some ⟨5,44,none⟩),.pointer (some p),.int .u64 386]) W:=by
 rw [elemForm]
 simp [ReflectliteValue.elem,loadVar,isAgg,underlying,Tryz.underlying109,ha,Result.andThen,elemOfP,mkE]
theorem setForm (ta b:Addr) (W:World):(ReflectliteValue.set #[.agg #[.pointer (some ⟨5,44,none⟩),.pointer (some ta),.int .u64 386],.agg #[.pointer (some ⟨5,44,none⟩),.pointer (some b),.int .u64 130]]).run Tryz.prog W
   = (do let val ←loadVar 44 b;storeVar 44 ta val;pure (Value.tuple #[]):Sem Value).run Tryz.prog W:=by kernel_rfl
theorem setE (ta b:Addr) (e:Int) (old:Value) (W:World) (hb:W.cell? b=some (.int .i64 e)) (ht:W.cell? ta=some old) (hf:W.frozen? ta=false) :
   (ReflectliteValue.set #[.agg #[.pointer (some ⟨5,44,none⟩),.pointer (some ta),.int .u64 386],.agg #[.pointer (some ⟨5,44,none⟩),.pointer (some b),.int .u64 130]]).run Tryz.prog W
     = .ok (.tuple #[]) (W.setCell ta (.int .i64 e)):=by
 rw [setForm]
 simp [loadVar,isAgg,underlying,Tryz.underlying44,hb,Result.andThen,storeVar,Value.cells,storeCells,Addr.add]
 rw [run_store Tryz.prog W ta _ _ (by rfl)]
 simp [ht,hf]
theorem noAsA (v:Value) (xT:TypeId) (w:World):(Instr.typeAssert (.iface 111 v) xT 234 true).run Tryz.prog w=.ok (.tuple #[.nilIface,.bool false]) w:=run_typeAssert_lacksB Tryz.underlying234 (by kernel_rfl) (by kernel_rfl) v xT w
theorem unwrapA (v:Value) (xT:TypeId) (w:World):(Instr.typeAssert (.iface 111 v) xT 148 true).run Tryz.prog w=.ok (.tuple #[.iface 111 v,.bool true]) w:=run_typeAssert_hasB Tryz.underlying148 (by kernel_rfl) v xT w
theorem isAtA (v:Value) (xT:TypeId) (w:World):(Instr.typeAssert (.iface 111 v) xT 111 true).run Tryz.prog w=.ok (.tuple #[v,.bool true]) w:=by kernel_rfl
end As
end Go.Proofs.YtjkbmfpomgcblaaGreatDoor
namespace Go.Proofs.YtjkbmfpomgcblaaGreatDoor
theorem bs_data (l:List UInt8):(⟨l.toArray⟩:ByteArray).data.toList=l:=rfl
theorem bs_size (l:List UInt8):(⟨l.toArray⟩:ByteArray).size=l.length:=by simp [ByteArray.size]
theorem size_data (s:ByteArray):s.size=s.data.toList.length:=(Array.length_toList (xs:=s.data)).symm
theorem bs_ext {a b:ByteArray} (h:a.data.toList=b.data.toList):a=b:=by
 cases a;cases b;simp at h;subst h;rfl
theorem bs_of (s:ByteArray):(⟨s.data.toList.toArray⟩:ByteArray)=s:=by cases s;simp
theorem app_data (a b:ByteArray):(a ++ b).data.toList=a.data.toList ++ b.data.toList:=by simp
theorem app_size (a b:ByteArray):(a ++ b).size=a.size + b.size:=by simp
theorem ext_data (s:ByteArray) (i j:Nat):(s.extract i j).data.toList=(s.data.toList.take j).drop i:=by
 simp [List.drop_take]
end Go.Proofs.YtjkbmfpomgcblaaGreatDoor
