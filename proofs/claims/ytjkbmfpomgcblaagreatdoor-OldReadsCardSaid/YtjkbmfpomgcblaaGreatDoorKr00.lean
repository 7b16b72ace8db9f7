import Derived.WalkKit
import Derived.Test.YtjkbmfpomgcblaaGreatDoorProg
import Derived.KernelRfl
import Derived.Deep.Slices
import Derived.Deep.Fields
import Derived.ChangeSame
import Derived.SizedLaws
import Derived.Below
import Derived.ProofKit
import Derived.OpenShut
import Derived.Handy
import Derived.Laws.IdiomStrings
import Derived.Lib.Hide
import Derived.LaidEql
import Derived.Stop.Asserts
import Derived.RowKitTokens
import Derived.Shelf.Strings.Builder1
import Derived.Shelf.Strings.Builder2
import Derived.Shelf.Strings.OnBuilder
import Derived.Shelf.Small.Wraps
import Derived.Shelf.Strings.BuilderF
import Derived.Shelf.Strings.BuilderK
import Derived.Shelf.Strconv.Itoa0
import Derived.Shelf.Strconv.Itoa1
import Derived.Shelf.LaysM
import Derived.Shelf.Strconv.Itoa2
import Derived.Shelf.Strconv.Itoa3
import Derived.Shelf.Strconv.Clone
import Derived.Shelf.Strings.Search1
import Derived.Shelf.Strings.Search2
import Derived.Shelf.Strings.Search3
import Derived.Shelf.Strings.Shaped
import Derived.Shelf.Strings.Prefix
import Derived.Ground.Names2Prog
import Derived.Shelf.Slices.SearchI
namespace Go.Proofs.YtjkbmfpomgcblaaGreatDoor
def putL (n:Nat):List UInt8:=if n < 128 then [UInt8.ofNat n] else UInt8.ofNat (n % 128 + 128) :: putL (n / 128)
termination_by n
decreasing_by omega
def valL:List UInt8→Nat
 | []=>0
 | c :: r=>c.toNat % 128 + 128 * valL r
def scan:Nat→List UInt8→Nat ⊕ Nat
 | _,[]=>.inl 7
 | i,c :: r=>if i=9∧1 < c.toNat then .inl 4 else if 0 < i∧c.toNat=0 then .inl 3 else if c.toNat < 128 then .inr (i + 1) else scan (i + 1) r
def getL (l:List UInt8):Nat×Nat×Nat:=match scan 0 l with
 | .inl e=>(0,0,e)
 | .inr k=>(valL (l.take k),k,0)
theorem putL_small {n:Nat} (h:n < 128):putL n=[UInt8.ofNat n]:=by rw [putL,if_pos h]
theorem putL_big {n:Nat} (h:¬ n < 128):putL n=UInt8.ofNat (n % 128 + 128) :: putL (n / 128):=by rw [putL,if_neg h]
theorem ofNat_toNat (c:UInt8):UInt8.ofNat c.toNat=c:=by simp
theorem putL_len (j:Nat):∀ n,n < 128 ^ j→0 < j→(putL n).length≤j:=by
 induction j with
 | zero=>intro n _ h;omega
 | succ j ih =>
   intro n hn _
   by_cases h:n < 128
   · rw [putL_small h];simp
   · rw [putL_big h,List.length_cons]
     have hj:0 < j:=by
       rcases Nat.eq_zero_or_pos j with rfl | h'
       · simp at hn;omega
       · exact h'
     have h2:n / 128 < 128 ^ j:=by
       rw [Nat.pow_succ] at hn
       exact Nat.div_lt_of_lt_mul (by rw [Nat.mul_comm];exact hn)
     have:=ih (n / 128) h2 hj
     omega
theorem putL_le10 {n:Nat} (h:n < 18446744073709551616):(putL n).length≤10 :=
 putL_len 10 n (Nat.lt_of_lt_of_le h (by decide)) (by decide)
theorem pow9:128 ^ 9=9223372036854775808:=by decide
theorem scan_only (l:List UInt8):∀ i k,scan i l=.inr k→∃ j,k=i + j∧1≤j∧j≤l.length∧putL (valL (l.take j))=l.take j∧(0 < i→0 < valL (l.take j)):=by
 induction l with
 | nil=>intro i k h;simp [scan] at h
 | cons c r ih =>
   intro i k h
   have hc:=c.toNat_lt
   rw [scan] at h
   by_cases h1:i=9∧1 < c.toNat
   · rw [if_pos h1] at h;cases h
   · rw [if_neg h1] at h
     by_cases h2:0 < i∧c.toNat=0
     · rw [if_pos h2] at h;cases h
     · rw [if_neg h2] at h
       by_cases h3:c.toNat < 128
       · rw [if_pos h3] at h
         injection h with h
         have hv:valL [c]=c.toNat:=by rw [valL,valL];omega
         refine ⟨1,h.symm,by omega,by simp,?_,?_⟩
         · rw [List.take_succ_cons,List.take_zero,hv,putL_small h3,ofNat_toNat]
         · intro hi;rw [List.take_succ_cons,List.take_zero,hv];omega
       · rw [if_neg h3] at h
         obtain ⟨j,e1,e2,e3,e4,e5⟩:=ih (i + 1) k h
         have hp:=e5 (by omega)
         refine ⟨j + 1,by omega,by omega,by simp;omega,?_,?_⟩
         · rw [List.take_succ_cons,valL,putL_big (by omega)]
           rw [show (c.toNat % 128 + 128 * valL (List.take j r)) / 128=valL (List.take j r) by omega,show (c.toNat % 128 + 128 * valL (List.take j r)) % 128 + 128=c.toNat by omega,e4,ofNat_toNat]
         · intro _;rw [List.take_succ_cons,valL];omega
theorem getL_only {l:List UInt8} {n k:Nat} (h:getL l=(n,k,0)):1≤k∧k≤l.length∧putL n=l.take k:=by
 unfold getL at h
 split at h
 · rename_i e he
   simp only [Prod.mk.injEq] at h
   obtain ⟨_,_,rfl⟩:=h
   exfalso
   have:∀ (l:List UInt8) (i:Nat),scan i l≠.inl 0:=by
     intro l
     induction l with
     | nil=>intro i h;simp [scan] at h
     | cons c r ih =>
       intro i h
       rw [scan] at h
       split at h
       · cases h
       · split at h
         · cases h
         · split at h
           · cases h
           · exact ih _ h
   exact this _ _ he
 · rename_i k' hk
   simp only [Prod.mk.injEq] at h
   obtain ⟨rfl,rfl,_⟩:=h
   obtain ⟨j,e1,e2,e3,e4,_⟩:=scan_only l 0 k' hk
   obtain rfl:k'=j:=by omega
   exact ⟨e2,e3,e4⟩
theorem scan_err (l:List UInt8):∀ (i e:Nat),scan i l=.inl e→e=7∨e=4∨e=3:=by
 induction l with
 | nil=>intro i e h;simp [scan] at h;omega
 | cons c r ih =>
   intro i e h
   rw [scan] at h
   split at h
   · injection h with h;omega
   · split at h
     · injection h with h;omega
     · split at h
       · cases h
       · exact ih _ _ h
theorem getL_bad {l:List UInt8} (h:(getL l).2.2≠0):(getL l).1=0∧(getL l).2.1=0∧((getL l).2.2=7∨(getL l).2.2=4∨(getL l).2.2=3):=by
 unfold getL at h ⊢
 split
 · rename_i e he;exact ⟨rfl,rfl,scan_err _ _ _ he⟩
 · rename_i k hk;simp [hk] at h
theorem getL_err (l:List UInt8):(getL l).2.2=0∨(getL l).2.2=7∨(getL l).2.2=4∨(getL l).2.2=3:=by
 by_cases h:(getL l).2.2=0
 · exact .inl h
 · exact .inr (getL_bad h).2.2
theorem valL_append (a:List UInt8) (c:UInt8):valL (a ++ [c])=valL a + c.toNat % 128 * 128 ^ a.length:=by
 induction a with
 | nil=>simp [valL]
 | cons d r ih =>
   rw [List.cons_append,valL,ih,valL,List.length_cons,Nat.pow_succ,Nat.mul_add,←Nat.add_assoc]
   congr 1
   rw [Nat.mul_comm,Nat.mul_assoc]
theorem valL_lt (a:List UInt8):valL a < 128 ^ a.length:=by
 induction a with
 | nil=>simp [valL]
 | cons d r ih =>
   rw [valL,List.length_cons,Nat.pow_succ]
   have:d.toNat % 128 < 128:=Nat.mod_lt _ (by decide)
   have h2:128 * (valL r + 1)≤128 * 128 ^ r.length:=Nat.mul_le_mul_left 128 ih
   rw [Nat.mul_comm (128 ^ r.length)]
   omega
theorem valL_take_succ (l:List UInt8) (k:Nat) (h:k < l.length):valL (l.take (k + 1))=valL (l.take k) + l[k].toNat % 128 * 128 ^ k:=by
 rw [List.take_succ_eq_append_getElem h,valL_append]
 congr 3
 simp;omega
theorem scan_drop (l:List UInt8) (i:Nat) (h:i < l.length):scan i (l.drop i)=if i=9∧1 < l[i].toNat then .inl 4 else if 0 < i∧l[i].toNat=0 then .inl 3 else if l[i].toNat < 128 then .inr (i + 1) else scan (i + 1) (l.drop (i + 1)):=by
 rw [List.drop_eq_getElem_cons h,scan]
theorem scan_ten (l:List UInt8):∀ (i k:Nat),i≤9→scan i l=.inr k→k≤10∧i < k∧k - i≤l.length∧(k=10→∀ c,l[9 - i]? = some c→c.toNat≤1):=by
 induction l with
 | nil=>intro i k _ h;simp [scan] at h
 | cons c r ih =>
   intro i k hi h
   rw [scan] at h
   by_cases h1:i=9∧1 < c.toNat
   · rw [if_pos h1] at h;cases h
   · rw [if_neg h1] at h
     by_cases h2:0 < i∧c.toNat=0
     · rw [if_pos h2] at h;cases h
     · rw [if_neg h2] at h
       by_cases h3:c.toNat < 128
       · rw [if_pos h3] at h
         injection h with h
         subst h
         refine ⟨by omega,by omega,by simp,?_⟩
         intro h9 d hd
         obtain rfl:i=9:=by omega
         simp at hd;subst hd;omega
       · rw [if_neg h3] at h
         obtain ⟨a,b,c',d⟩:=ih (i + 1) k (by omega) h
         refine ⟨a,by omega,by simp;omega,?_⟩
         intro h9 e he
         rw [show 9 - i=(9 - (i + 1)) + 1 by omega,List.getElem?_cons_succ] at he
         exact d h9 e he
theorem scan_lt {l:List UInt8} {k:Nat} (h:scan 0 l=.inr k):1≤k∧k≤10∧k≤l.length∧valL (l.take k) < 18446744073709551616:=by
 obtain ⟨a,b,c,d⟩:=scan_ten l 0 k (by omega) h
 refine ⟨by omega,a,by omega,?_⟩
 by_cases h10:k=10
 · subst h10
   have hl:9 < l.length:=by omega
   rw [valL_take_succ l 9 hl]
   have h1:=valL_lt (l.take 9)
   have h2:=d rfl l[9] (by rw [List.getElem?_eq_getElem hl])
   have h3:(l.take 9).length=9:=by simp;omega
   rw [h3,pow9] at h1
   rw [pow9]
   have h4:l[9].toNat % 128≤1:=by omega
   have:=Nat.mul_le_mul_right 9223372036854775808 h4
   omega
 · have h1:=valL_lt (l.take k)
   have h3:(l.take k).length=k:=by simp;omega
   have h4:128 ^ k≤128 ^ 9:=Nat.pow_le_pow_right (by decide) (by omega)
   rw [h3] at h1
   rw [pow9] at h4
   omega
end Go.Proofs.YtjkbmfpomgcblaaGreatDoor
namespace Go.Proofs.YtjkbmfpomgcblaaGreatDoor
open Go.ChangeShapes Go.WideShapes Go.ChangeAt Go.RowKit
structure Wr where
 time:Int
 rep:Int
 kind:Int
 key:ByteArray
 value:ByteArray
 n:Int
def wrC (x:Wr):List Value:=[.int .i64 x.time,.int .i64 x.rep,.int .i64 x.kind,.string x.key,.string x.value,.int .i64 x.n]
def WrOk (x:Wr):Prop:=-9223372036854775808≤x.n∧x.n≤9223372036854775807∧x.key.size≤140737488351232∧x.value.size≤140737488351232
end Go.Proofs.YtjkbmfpomgcblaaGreatDoor
namespace Go.Proofs.YtjkbmfpomgcblaaGreatDoor
structure Ent where
 rep:Int
 time:Int
deriving DecidableEq
def wrE (e:Ent) (last:Int):Nat:=if e.rep < 0∨200 < e.rep∨e.time < 1∨1099511627776 < e.time then 2 else if e.rep≤last then 10 else 0
def vr:List Ent→Nat→Int→Nat×Int
 | [],_,_=>(0,-1)
 | e :: r,i,last=>if wrE e last≠0 then (wrE e last,i) else vr r (i + 1) e.rep
def vrightF (l:List Ent):Nat×Int:=if 16 < l.length then (4,-1) else vr l 0 (-1)
theorem wrE_range {e:Ent} {last:Int} (h:e.rep < 0∨200 < e.rep∨e.time < 1∨1099511627776 < e.time):wrE e last=2:=by unfold wrE;rw [if_pos h]
theorem wrE_order {e:Ent} {last:Int} (h:¬ (e.rep < 0∨200 < e.rep∨e.time < 1∨1099511627776 < e.time)) (h2:e.rep≤last):wrE e last=10:=by unfold wrE;rw [if_neg h,if_pos h2]
theorem wrE_fine {e:Ent} {last:Int} (h:¬ (e.rep < 0∨200 < e.rep∨e.time < 1∨1099511627776 < e.time)) (h2:¬ e.rep≤last):wrE e last=0:=by unfold wrE;rw [if_neg h,if_neg h2]
theorem wrE_ok {e:Ent} {last:Int}:wrE e last=0↔0≤e.rep∧e.rep≤200∧1≤e.time∧e.time≤1099511627776∧last < e.rep:=by
 unfold wrE;split
 · constructor
   · intro h;omega
   · intro h;omega
 · split
   · constructor
     · intro h;omega
     · intro h;omega
   · constructor
     · intro _;omega
     · intro _;rfl
theorem vr_bad {e:Ent} {r:List Ent} {i:Nat} {last:Int} (h:wrE e last≠0):vr (e :: r) i last=(wrE e last,(i:Int)):=by rw [vr,if_pos h]
theorem vr_good {e:Ent} {r:List Ent} {i:Nat} {last:Int} (h:wrE e last=0):vr (e :: r) i last=vr r (i + 1) e.rep:=by rw [vr,if_neg (by simpa using h)]
def okV:Int→List Ent→Prop
 | _,[]=>True
 | last,e :: r=>wrE e last=0∧okV e.rep r
def rightV (l:List Ent):Prop:=l.length≤16∧okV (-1) l
theorem vr_ok (l:List Ent):∀ i last,(vr l i last).1=0↔okV last l:=by
 induction l with
 | nil=>intro i last;simp [vr,okV]
 | cons e r ih =>
   intro i last
   by_cases h:wrE e last=0
   · rw [vr_good h,ih];exact ⟨fun h2=>⟨h,h2⟩,fun h2=>h2.2⟩
   · rw [vr_bad h];exact ⟨fun h2=>absurd h2 h,fun h2=>absurd h2.1 h⟩
theorem vright_ok (l:List Ent):(vrightF l).1=0↔rightV l:=by
 unfold vrightF rightV
 split
 · constructor
   · intro h;cases h
   · intro h;omega
 · rw [vr_ok];exact ⟨fun h=>⟨by omega,h⟩,fun h=>h.2⟩
theorem okV_mem {l:List Ent}:∀ {last:Int},okV last l→∀ e∈l,0≤e.rep∧e.rep≤200∧1≤e.time∧e.time≤1099511627776∧last < e.rep:=by
 induction l with
 | nil=>intro last _ e h;cases h
 | cons d r ih =>
   intro last h e he
   obtain ⟨h1,h2⟩:=h
   rw [wrE_ok] at h1
   rcases List.mem_cons.1 he with rfl | he
   · exact h1
   · have:=ih h2 e he;omega
def ofF:List Ent→Int→Int
 | [],_=>0
 | e :: r,x=>if e.rep=x then e.time else ofF r x
def covA (a b:List Ent):Bool:=b.all fun e=>decide (e.time≤ofF a e.rep)
def covB (a b:List Ent):Bool:=decide ((vrightF a).1=0) && decide ((vrightF b).1=0) && covA a b
end Go.Proofs.YtjkbmfpomgcblaaGreatDoor
namespace Go.Proofs.YtjkbmfpomgcblaaGreatDoor
open Go.RowKit
theorem within_yes (n lo hi:Int) (w:World) (h1:lo≤n) (h2:n≤hi) :
   Calls Tryz.prog 78 #[.int .i64 n,.int .i64 lo,.int .i64 hi] w fun e w'=>e=.returned (.bool true)∧w=w':=by
 go_enter Tryz.func78,Tryz.ntmps78
 go_wp2
 go_ret
 exact ⟨rfl,rfl⟩
theorem within_low (n lo hi:Int) (w:World) (h1:n < lo) :
   Calls Tryz.prog 78 #[.int .i64 n,.int .i64 lo,.int .i64 hi] w fun e w'=>e=.returned (.bool false)∧w=w':=by
 go_enter Tryz.func78,Tryz.ntmps78
 go_wp2
 go_ret
 exact ⟨rfl,rfl⟩
theorem within_high (n lo hi:Int) (w:World) (h1:lo≤n) (h2:hi < n) :
   Calls Tryz.prog 78 #[.int .i64 n,.int .i64 lo,.int .i64 hi] w fun e w'=>e=.returned (.bool false)∧w=w':=by
 have h3:decide (n≤hi)=false:=by simp;omega
 go_enter Tryz.func78,Tryz.ntmps78
 go_wp2
 go_ret
 exact ⟨rfl,rfl⟩
end Go.Proofs.YtjkbmfpomgcblaaGreatDoor
namespace Go.Proofs.YtjkbmfpomgcblaaGreatDoor
open Go.RowKit
def byteV (c:UInt8):Value:=.int .u8 (c.toNat:Int)
def ownsB (w:World) (base:Nat) (v:Value) (l:List UInt8):Prop:=w.ownsRow base 5 1 v l.length (l.map byteV)
theorem ownsB.alloc {w:World} {base:Nat} {v:Value} {l:List UInt8} (h:ownsB w base v l) (o:Obj):ownsB (w.alloc o) base v l:=World.ownsRow.alloc h o
end Go.Proofs.YtjkbmfpomgcblaaGreatDoor
namespace Go.Proofs.YtjkbmfpomgcblaaGreatDoor
open Go.RowKit
theorem i64_not_any (x:Int) (h0 : -9223372036854775808≤x) (h1:x≤9223372036854775807):bits .xor .i64 (-1) x=-x - 1:=by
 show IntKind.i64.wrap ((BitVec.ofInt 64 (-1) ^^^ BitVec.ofInt 64 x).toNat:Int)=_
 have e1:BitVec.ofInt 64 (-1)=BitVec.allOnes 64:=by decide
 have e2:(BitVec.ofInt 64 x).toNat=(x % 18446744073709551616).toNat:=by rw [BitVec.toNat_ofInt];rfl
 rw [e1,BitVec.allOnes_xor,BitVec.toNat_not,e2,IntKind.wrap_i64]
 omega
theorem ret_int {k:IntKind} {a b:Int} (h:a=b):Ending.returned (.int k a)=.returned (.int k b):=by rw [h]
def zigN (n:Int):Int:=if n < 0 then -2 * n - 1 else 2 * n
def zagN (u:Int):Int:=if u % 2=1 then -(u / 2) - 1 else u / 2
theorem zag_any (n:Int) (w:World) (h0:0≤n) (h1:n≤18446744073709551615) :
   Calls Tryz.prog 229 #[.int .u64 n] w fun e w'=>e=.returned (.int .i64 (zagN n))∧w=w':=by
 by_cases h:n % 2=1
 · have hb:(n % 2 == 1)=true:=by simpa using h
   have hn:Hid (bits .xor .i64 (-1) (n / 2)=-(n / 2) - 1):=Lib.hid (i64_not_any (n / 2) (by omega) (by omega))
   have hh:=Lib.hid h
   clear h
   go_enter Tryz.func229,Tryz.ntmps229
   go_wp2
   go_ret
   exact ⟨ret_int (by show bits .xor .i64 (-1) (n / 2)=_;rw [hn.out,zagN,if_pos hh.out]),rfl⟩
 · have hb:(n % 2 == 1)=false:=by simpa using h
   have hh:=Lib.hid h
   clear h
   go_enter Tryz.func229,Tryz.ntmps229
   go_wp2
   go_ret
   exact ⟨ret_int (by rw [zagN,if_neg hh.out]),rfl⟩
end Go.Proofs.YtjkbmfpomgcblaaGreatDoor
namespace Go.Proofs.YtjkbmfpomgcblaaGreatDoor
open Go.RowKit Go.Extern.Stop Go.Stop Go.Extern
namespace As
theorem valueOfP (t:Addr) (w:World):(ReflectliteValue.unpack (.iface 109 (.pointer (some t)))).run Tryz.prog w
   = .ok (.agg #[.pointer (some ⟨5,109,none⟩),.pointer (some ⟨w.heap.size,0,none⟩),.int .u64 150]) (w.alloc (.cells #[.pointer (some t)] 109)):=by kernel_rfl
theorem typeP (a : Addr) (w : World) : (ReflectliteValue.methodAny (ReflectliteValue.valueError "reflectlite.Value.Type" 0) (fun t _ _ _ => ReflectliteType.toType t) #[.agg #[.pointer (some ⟨5, 109, none⟩), .pointer (some a), .int .u64 150]]).run Tryz.prog w
   = .ok (.iface 229 (.agg #[.pointer (some ⟨5,109,none⟩)])) w:=by kernel_rfl
theorem methodKind (h : Value) (w : World) : (Go.method 409 229 (.agg #[h]) "Kind").run Tryz.prog w = .ok (263, h) w := by kernel_rfl
theorem kindP (w:World):((ReflectliteType.abiMethod fun t=>(fun a:Nat=>Value.int IntKind.u8 (a:Int)) <$> Rtype.kind t) #[.pointer (some ⟨5,109,none⟩)]).run Tryz.prog w=.ok (.int .u8 22) w:=by kernel_rfl
theorem kindE (w:World):((ReflectliteType.abiMethod fun t=>(fun a:Nat=>Value.int IntKind.u8 (a:Int)) <$> Rtype.kind t) #[.pointer (some ⟨5,44,none⟩)]).run Tryz.prog w=.ok (.int .u8 2) w:=by kernel_rfl
theorem isNilForm (a : Addr) (W : World) : (ReflectliteValue.method (ReflectliteValue.valueError "reflectlite.Value.IsNil" 0) ReflectliteValue.isNil #[.agg #[.pointer (some ⟨5, 109, none⟩), .pointer (some a), .int .u64 150]]).run Tryz.prog W = (ReflectliteValue.isNil 109 a 150 22).run Tryz.prog W := by kernel_rfl
theorem isNilP (a p:Addr) (W:World) (ha:W.cell? a=some (.pointer (some p))) :
   (ReflectliteValue.method (ReflectliteValue.valueError "reflectlite.Value.IsNil" 0) ReflectliteValue.isNil #[.agg #[.pointer (some ⟨5, 109, none⟩), .pointer (some a), .int .u64 150]]).run Tryz.prog W = .ok (.bool false) W := by
 rw [isNilForm]
 simp [ReflectliteValue.isNil,loadVar,isAgg,underlying,Tryz.underlying109,ha,Result.andThen]
theorem methodElem (h : Value) (w : World) : (Go.method 409 229 (.agg #[h]) "Elem").run Tryz.prog w = .ok (276, .agg #[h]) w := by kernel_rfl
theorem methodImplements (h : Value) (w : World) : (Go.method 409 229 (.agg #[h]) "Implements").run Tryz.prog w = .ok (277, .agg #[h]) w := by kernel_rfl
theorem methodAssignableTo (h : Value) (w : World) : (Go.method 409 229 (.agg #[h]) "AssignableTo").run Tryz.prog w = .ok (274, .agg #[h]) w := by kernel_rfl
theorem elemP (w:World):(ReflectliteType.method ReflectliteType.elem #[.agg #[.pointer (some ⟨5,109,none⟩)]]).run Tryz.prog w=.ok (.iface 229 (.agg #[.pointer (some ⟨5,44,none⟩)])) w:=by kernel_rfl
theorem implementsE (w : World) : (ReflectliteType.relation "Implements" ReflectliteType.implements_ #[.agg #[.pointer (some ⟨5, 44, none⟩)], .iface 229 (.agg #[.pointer (some ⟨5, 29, none⟩)])]).run Tryz.prog w = .ok (.bool true) w := by kernel_rfl
theorem typeOfE (v:Value) (w:World):(ReflectliteType.typeOf #[.iface 44 v]).run Tryz.prog w=.ok (.iface 229 (.agg #[.pointer (some ⟨5,44,none⟩)])) w:=by kernel_rfl
theorem typeOfA (v:Value) (w:World):(ReflectliteType.typeOf #[.iface 111 v]).run Tryz.prog w=.ok (.iface 229 (.agg #[.pointer (some ⟨5,111,none⟩)])) w:=by kernel_rfl
theorem assignableE (w : World) : (ReflectliteType.relation "AssignableTo" ReflectliteType.assignableTo #[.agg #[.pointer (some ⟨5, 44, none⟩)], .iface 229 (.agg #[.pointer (some ⟨5, 44, none⟩)])]).run Tryz.prog w = .ok (.bool true) w := by kernel_rfl
theorem assignableA (w : World) : (ReflectliteType.relation "AssignableTo" ReflectliteType.assignableTo #[.agg #[.pointer (some ⟨5, 111, none⟩)], .iface 229 (.agg #[.pointer (some ⟨5, 44, none⟩)])]).run Tryz.prog w = .ok (.bool false) w := by kernel_rfl
theorem valueOfE (e:Int) (w:World):(ReflectliteValue.unpack (.iface 44 (.int .i64 e))).run Tryz.prog w
   = .ok (.agg #[.pointer (some ⟨5,44,none⟩),.pointer (some ⟨w.heap.size,0,none⟩),.int .u64 130]) (w.alloc (.cells #[.int .i64 e] 44)):=by kernel_rfl
theorem elemOfP (w:World):(Rtype.elem? 109).run Tryz.prog w=.ok (some 44) w:=by kernel_rfl
theorem mkE (p:Addr) (w:World):(ReflectliteValue.mk 44 p ReflectliteValue.flagAddr).run Tryz.prog w=.ok (.agg #[.pointer (some ⟨5,44,none⟩),.pointer (some p),.int .u64 386]) w:=by kernel_rfl
theorem elemForm (a : Addr) (W : World) : (ReflectliteValue.method (ReflectliteValue.valueError "reflectlite.Value.Elem" 0) ReflectliteValue.elem #[.agg #[.pointer (some ⟨5, 109, none⟩), .pointer (some a), .int .u64 150]]).run Tryz.prog W = (ReflectliteValue.elem 109 a 150 22).run Tryz.prog W := by kernel_rfl
theorem elemVP (a p:Addr) (W:World) (ha:W.cell? a=some (.pointer (some p))) :
   (ReflectliteValue.method (ReflectliteValue.valueError "reflectlite.Value.Elem" 0) ReflectliteValue.elem #[.agg #[.pointer (some ⟨5, 109, none⟩), .pointer (some a), .int .u64 150]]).run Tryz.prog W
     = .ok (.agg #[.pointer (some ⟨5,44,none⟩),.pointer (some p),.int .u64 386]) W:=by
 rw [elemForm]
 simp [ReflectliteValue.elem,loadVar,isAgg,underlying,Tryz.underlying109,ha,Result.andThen,elemOfP,mkE]
theorem setForm (ta b:Addr) (W:World):(ReflectliteValue.set #[.agg #[.pointer (some ⟨5,44,none⟩),.pointer (some ta),.int .u64 386],.agg #[.pointer (some ⟨5,44,none⟩),.pointer (some b),.int .u64 130]]).run Tryz.prog W
   = (do let val ←loadVar 44 b;storeVar 44 ta val;pure (Value.tuple #[]):Sem Value).run Tryz.prog W:=by kernel_rfl
theorem setE (ta b:Addr) (e:Int) (old:Value) (W:World) (hb:W.cell? b=some (.int .i64 e)) (ht:W.cell? ta=some old) (hf:W.frozen? ta=false) :
   (ReflectliteValue.set #[.agg #[.pointer (some ⟨5,44,none⟩),.pointer (some ta),.int .u64 386],.agg #[.pointer (some ⟨5,44,none⟩),.pointer (some b),.int .u64 130]]).run Tryz.prog W
     = .ok (.tuple #[]) (W.setCell ta (.int .i64 e)):=by
 rw [setForm]
 simp [loadVar,isAgg,underlying,Tryz.underlying44,hb,Result.andThen,storeVar,Value.cells,storeCells,Addr.add]
 rw [run_store Tryz.prog W ta _ _ (by rfl)]
 simp [ht,hf]
theorem noAsA (v:Value) (xT:TypeId) (w:World):(Instr.typeAssert (.iface 111 v) xT 234 true).run Tryz.prog w=.ok (.tuple #[.nilIface,.bool false]) w:=run_typeAssert_lacksB Tryz.underlying234 (by kernel_rfl) (by kernel_rfl) v xT w
theorem unwrapA (v:Value) (xT:TypeId) (w:World):(Instr.typeAssert (.iface 111 v) xT 148 true).run Tryz.prog w=.ok (.tuple #[.iface 111 v,.bool true]) w:=run_typeAssert_hasB Tryz.underlying148 (by kernel_rfl) v xT w
theorem noUnwrapE (v:Value) (xT:TypeId) (w:World):(Instr.typeAssert (.iface 44 v) xT 148 true).run Tryz.prog w=.ok (.tuple #[.nilIface,.bool false]) w:=run_typeAssert_lacksB Tryz.underlying148 (by kernel_rfl) (by kernel_rfl) v xT w
theorem noAtE (v:Value) (xT:TypeId) (w:World):(Instr.typeAssert (.iface 44 v) xT 111 true).run Tryz.prog w=.ok (.tuple #[.pointer none,.bool false]) w:=by kernel_rfl
theorem isAtA (v:Value) (xT:TypeId) (w:World):(Instr.typeAssert (.iface 111 v) xT 111 true).run Tryz.prog w=.ok (.tuple #[v,.bool true]) w:=by kernel_rfl
end As
end Go.Proofs.YtjkbmfpomgcblaaGreatDoor
namespace Go.Proofs.YtjkbmfpomgcblaaGreatDoor
theorem bs_data (l:List UInt8):(⟨l.toArray⟩:ByteArray).data.toList=l:=rfl
theorem bs_size (l:List UInt8):(⟨l.toArray⟩:ByteArray).size=l.length:=by simp [ByteArray.size]
theorem size_data (s:ByteArray):s.size=s.data.toList.length:=(Array.length_toList (xs:=s.data)).symm
theorem bs_ext {a b:ByteArray} (h:a.data.toList=b.data.toList):a=b:=by
 cases a;cases b;simp at h;subst h;rfl
theorem bs_of (s:ByteArray):(⟨s.data.toList.toArray⟩:ByteArray)=s:=by cases s;simp
theorem app_data (a b:ByteArray):(a ++ b).data.toList=a.data.toList ++ b.data.toList:=by simp
theorem app_size (a b:ByteArray):(a ++ b).size=a.size + b.size:=by simp
theorem ext_data (s:ByteArray) (i j:Nat):(s.extract i j).data.toList=(s.data.toList.take j).drop i:=by
 simp [List.drop_take]
end Go.Proofs.YtjkbmfpomgcblaaGreatDoor
namespace Go.Proofs.YtjkbmfpomgcblaaGreatDoor
theorem beq_same (a:ByteArray):(a.toList == a.toList)=true:=by simp
theorem beq_diff {a b:ByteArray} (h:a≠b):(a.toList == b.toList)=false:=by
 refine beq_eq_false_iff_ne.2 fun e=>h ?_
 rw [ByteArray.toList_eq,ByteArray.toList_eq] at e
 cases a;cases b;simp_all
instance memB (s : ByteArray) (t : List ByteArray) : Decidable (s ∈ t) := decidable_of_iff (t.any (fun x => decide (x = s)) = true) (by simp)
def dupG:List ByteArray→List ByteArray→Nat→Option Nat
 | _,[],_=>none
 | seen,s :: r,i=>if s∈seen then some i else dupG (seen ++ [s]) r (i + 1)
def ordG (K:Nat):Nat→List Int→Nat→Nat×Int
 | told,[],_=>if told < K then (8,-1) else (0,-1)
 | told,n :: r,i=>if n < 0∨(K:Int)≤n then (2,(i:Int)) else if (told:Int) < n then (13,(i:Int)) else ordG K (if n=told then told + 1 else told) r (i + 1)
def outG (T:List ByteArray) (l:List Int):List ByteArray:=l.map fun n=>T.getD n.toNat ByteArray.empty
def listF (T:List ByteArray) (l:List Int):List ByteArray×Nat×Int :=
 match dupG [] T 0 with
 | some i=>([],9,(i:Int))
 | none=>if (ordG T.length 0 l 0).1=0 then (outG T l,0,-1) else ([],ordG T.length 0 l 0)
end Go.Proofs.YtjkbmfpomgcblaaGreatDoor
namespace Go.Proofs
open Go.Shelf
def Tryz.lays171_ren:Go.Shelf.Ren:=⟨fun | 171=>171 | 243=>217 | 246=>228 | 283=>236 | 284=>237 | 285=>238 | 286=>239 | 129=>117 | 317=>243 | 318=>244 | 319=>245 | 320=>246 | 337=>247 | 338=>248 | n=>n,fun | 3=>3 | 9=>9 | 2=>2 | 4=>4 | 171=>269 | 0=>0 | 53=>83 | 37=>60 | 5=>5 | 173=>271 | 212=>277 | 51=>38 | 20=>20 | 213=>278 | 46=>76 | 232=>281 | 233=>282 | n=>n,fun | 17=>2 | 18=>3 | 19=>4 | n=>n⟩
theorem Tryz.lays171:Go.Proofs.Lays.n171 Tryz.prog Tryz.lays171_ren:={
 mixed:=by kernel_rfl
 f129:=Tryz.func117.trans (congrArg some (by kernel_rfl))
 f171:=Tryz.func171.trans (congrArg some (by kernel_rfl))
 f243:=Tryz.func217.trans (congrArg some (by kernel_rfl))
 f246:=Tryz.func228.trans (congrArg some (by kernel_rfl))
 f283:=Tryz.func236.trans (congrArg some (by kernel_rfl))
 f284:=Tryz.func237.trans (congrArg some (by kernel_rfl))
 f285:=Tryz.func238.trans (congrArg some (by kernel_rfl))
 f286:=Tryz.func239.trans (congrArg some (by kernel_rfl))
 f317:=Tryz.func243.trans (congrArg some (by kernel_rfl))
 f318:=Tryz.func244.trans (congrArg some (by kernel_rfl))
 f319:=Tryz.func245.trans (congrArg some (by kernel_rfl))
 f320:=Tryz.func246.trans (congrArg some (by kernel_rfl))
 f337:=Tryz.func247.trans (congrArg some (by kernel_rfl))
 f338:=Tryz.func248.trans (congrArg some (by kernel_rfl))
 t0:=Tryz.underlying0
 a0:=Tryz.isAgg0
 z0:=Tryz.sizeOf0
 v0:=Tryz.zeroValue0
 t2:=Tryz.underlying2
 a2:=Tryz.isAgg2
 z2:=Tryz.sizeOf2
 v2:=Tryz.zeroValue2
 t3:=Tryz.underlying3
 a3:=Tryz.isAgg3
 z3:=Tryz.sizeOf3
 v3:=Tryz.zeroValue3
 t4:=Tryz.underlying4
 a4:=Tryz.isAgg4
 z4:=Tryz.sizeOf4
 v4:=Tryz.zeroValue4
 t5:=Tryz.underlying5
 a5:=Tryz.isAgg5
 z5:=Tryz.sizeOf5
 v5:=Tryz.zeroValue5
 t9:=Tryz.underlying9
 a9:=Tryz.isAgg9
 z9:=Tryz.sizeOf9
 v9:=Tryz.zeroValue9
 t20:=Tryz.underlying20
 a20:=Tryz.isAgg20
 z20:=Tryz.sizeOf20
 v20:=Tryz.zeroValue20
 t37:=Tryz.underlying60
 a37:=Tryz.isAgg60
 z37:=Tryz.sizeOf60
 v37:=Tryz.zeroValue60
 t46:=Tryz.underlying76
 a46:=Tryz.isAgg76
 z46:=Tryz.sizeOf76
 v46:=Tryz.zeroValue76
 t51:=Tryz.underlying38
 a51:=Tryz.isAgg38
 z51:=Tryz.sizeOf38
 v51:=Tryz.zeroValue38
 t53:=Tryz.underlying83
 a53:=Tryz.isAgg83
 z53:=Tryz.sizeOf83
 v53:=Tryz.zeroValue83
 t171:=Tryz.underlying269
 a171:=Tryz.isAgg269
 z171:=Tryz.sizeOf269
 v171:=Tryz.zeroValue269
 t173:=Tryz.underlying271
 a173:=Tryz.isAgg271
 z173:=Tryz.sizeOf271
 v173:=Tryz.zeroValue271
 t212:=Tryz.underlying277
 a212:=Tryz.isAgg277
 z212:=Tryz.sizeOf277
 v212:=Tryz.zeroValue277
 t213:=Tryz.underlying278
 a213:=Tryz.isAgg278
 z213:=Tryz.sizeOf278
 t232:=Tryz.underlying281
 a232:=Tryz.isAgg281
 z232:=Tryz.sizeOf281
 v232:=Tryz.zeroValue281
 t233:=Tryz.underlying282
 a233:=Tryz.isAgg282
 z233:=Tryz.sizeOf282
 v233:=Tryz.zeroValue282
 g17:=by kernel_rfl
 g18:=by kernel_rfl
 g19:=by kernel_rfl }
open Go.RowKit Go.Sort Go.Lib in
theorem Tryz.strconv_Itoa_small (i:Nat) (hi:i < 100) (w:World) :
   Calls Tryz.prog 171 #[.int .i64 i] w fun e w'=>e=.returned (.string ⟨(Lib.decDigits i).toArray⟩)∧w'=w:=Any.strconv_Itoa_small Tryz.lays171 i hi w
def Tryz.laysM316_ren:Go.Shelf.Ren:=⟨fun | 316=>203 | n=>n,fun | 9=>9 | 3=>3 | 4=>4 | 37=>60 | 0=>0 | 127=>114 | 5=>5 | n=>n,fun | n=>n⟩
theorem Tryz.laysM316:Go.Proofs.LaysM.n316 Tryz.prog Tryz.laysM316_ren:={
 mixed:=by kernel_rfl
 f316:=Tryz.func203.trans (congrArg some (by kernel_rfl))
 t0:=Tryz.underlying0
 a0:=Tryz.isAgg0
 z0:=Tryz.sizeOf0
 v0:=Tryz.zeroValue0
 t3:=Tryz.underlying3
 a3:=Tryz.isAgg3
 z3:=Tryz.sizeOf3
 v3:=Tryz.zeroValue3
 t4:=Tryz.underlying4
 a4:=Tryz.isAgg4
 z4:=Tryz.sizeOf4
 v4:=Tryz.zeroValue4
 t9:=Tryz.underlying9
 a9:=Tryz.isAgg9
 z9:=Tryz.sizeOf9
 v9:=Tryz.zeroValue9
 t37:=Tryz.underlying60
 a37:=Tryz.isAgg60
 z37:=Tryz.sizeOf60
 v37:=Tryz.zeroValue60
 t127:=Tryz.underlying114
 a127:=Tryz.isAgg114
 z127:=Tryz.sizeOf114
 v127:=Tryz.zeroValue114
 t5:=Tryz.underlying5
 a5:=Tryz.isAgg5
 z5:=Tryz.sizeOf5
 v5:=Tryz.zeroValue5
 i0:=by kernel_rfl
 i3:=by kernel_rfl
 i4:=by kernel_rfl
 i5:=by kernel_rfl
 i9:=by kernel_rfl
 i37:=by kernel_rfl
 i127:=by kernel_rfl }
open Go.RowKit in
theorem Tryz.stringslite_Clone (s:ByteArray) (w:World) (hlim:s.size≤281474976710656) :
   Calls Tryz.prog 203 #[.string s] w fun e w'=>e=.returned (.string s)∧Below w.heap.size w w':=Any.stringslite_Clone Tryz.laysM316 s w hlim
def Tryz.lays144_ren:Go.Shelf.Ren:=⟨fun | 144=>170 | 143=>216 | 219=>227 | 217=>232 | 225=>233 | 224=>234 | 267=>235 | 266=>241 | 314=>242 | n=>n,fun | 9=>9 | 4=>4 | 3=>3 | 5=>5 | 46=>76 | 146=>274 | 51=>38 | n=>n,fun | 1=>1 | n=>n⟩
theorem Tryz.lays144:Go.Proofs.Lays.n144 Tryz.prog Tryz.lays144_ren:={
 mixed:=by kernel_rfl
 f143:=Tryz.func216.trans (congrArg some (by kernel_rfl))
 f144:=Tryz.func170.trans (congrArg some (by kernel_rfl))
 f217:=Tryz.func232.trans (congrArg some (by kernel_rfl))
 f219:=Tryz.func227.trans (congrArg some (by kernel_rfl))
 f224:=Tryz.func234.trans (congrArg some (by kernel_rfl))
 f225:=Tryz.func233.trans (congrArg some (by kernel_rfl))
 f266:=Tryz.func241.trans (congrArg some (by kernel_rfl))
 f267:=Tryz.func235.trans (congrArg some (by kernel_rfl))
 f314:=Tryz.func242.trans (congrArg some (by kernel_rfl))
 t3:=Tryz.underlying3
 a3:=Tryz.isAgg3
 z3:=Tryz.sizeOf3
 v3:=Tryz.zeroValue3
 t4:=Tryz.underlying4
 a4:=Tryz.isAgg4
 z4:=Tryz.sizeOf4
 v4:=Tryz.zeroValue4
 t5:=Tryz.underlying5
 a5:=Tryz.isAgg5
 z5:=Tryz.sizeOf5
 v5:=Tryz.zeroValue5
 t9:=Tryz.underlying9
 a9:=Tryz.isAgg9
 z9:=Tryz.sizeOf9
 v9:=Tryz.zeroValue9
 t46:=Tryz.underlying76
 a46:=Tryz.isAgg76
 z46:=Tryz.sizeOf76
 v46:=Tryz.zeroValue76
 t51:=Tryz.underlying38
 a51:=Tryz.isAgg38
 z51:=Tryz.sizeOf38
 v51:=Tryz.zeroValue38
 t146:=Tryz.underlying274
 a146:=Tryz.isAgg274
 z146:=Tryz.sizeOf274
 v146:=Tryz.zeroValue274
 g1:=by kernel_rfl }
open Go.RowKit Go.Lib in
theorem Tryz.strings_Contains_one (s:ByteArray) (c:UInt8) (w:World) :
   Calls Tryz.prog 170 #[.string s,.string ⟨#[c]⟩] w fun e w'=>e=.returned (.bool (decide (0≤Lib.indexByte s.data.toList c)))∧w'=w:=Any.strings_Contains_one Tryz.lays144 s c w
def Tryz.lays99_ren:Go.Shelf.Ren:=⟨fun | 99=>41 | 206=>87 | n=>n,fun | 9=>9 | 4=>4 | 3=>3 | n=>n,fun | n=>n⟩
theorem Tryz.lays99:Go.Proofs.Lays.n99 Tryz.prog Tryz.lays99_ren:={
 mixed:=by kernel_rfl
 f99:=Tryz.func41.trans (congrArg some (by kernel_rfl))
 f206:=Tryz.func87.trans (congrArg some (by kernel_rfl))
 t3:=Tryz.underlying3
 a3:=Tryz.isAgg3
 z3:=Tryz.sizeOf3
 v3:=Tryz.zeroValue3
 t4:=Tryz.underlying4
 a4:=Tryz.isAgg4
 z4:=Tryz.sizeOf4
 v4:=Tryz.zeroValue4
 t9:=Tryz.underlying9
 a9:=Tryz.isAgg9
 z9:=Tryz.sizeOf9
 v9:=Tryz.zeroValue9 }
open Go.RowKit Go.Lib in
theorem Tryz.strings_HasPrefix (s p:ByteArray) (w:World) :
   Calls Tryz.prog 41 #[.string s,.string p] w fun e w'=>e=.returned (.bool (Lib.hasPrefix s.data.toList p.data.toList))∧w'=w:=Any.strings_HasPrefix Tryz.lays99 s p w
end Go.Proofs
namespace Go.Proofs.YtjkbmfpomgcblaaGreatDoor
open Go.RowKit
def idRW (x:Int×Int):Bool:=decide (1≤x.1∧x.1≤1099511627776∧0≤x.2∧x.2≤200)
set_option maxRecDepth 100000 in
theorem idrightW_any (x1 x2:Int) (b:Bool) (w:World) (hb:idRW (x1,x2)=b) :
   Calls Tryz.prog 197 #[.agg #[.int .i64 x1,.int .i64 x2]] w fun e w'=>e=.returned (.bool b)∧Below w.heap.size w w':=by
 subst hb
 unfold idRW
 by_cases h1:1≤x1
 · by_cases h2:x1≤1099511627776
   · by_cases h3:0≤x2
     · by_cases h4:x2≤200
       · rw [decide_eq_true (show 1≤(x1,x2).1∧(x1,x2).1≤1099511627776∧0≤(x1,x2).2∧(x1,x2).2≤200 from ⟨h1,h2,h3,h4⟩)]
         go_enter Tryz.func197,Tryz.ntmps197
         go_wp2
         go_ret
         exact ⟨rfl,(Below.refl _ _).alloc (Nat.le_refl _) _⟩
       · rw [decide_eq_false (show ¬ (1≤(x1,x2).1∧(x1,x2).1≤1099511627776∧0≤(x1,x2).2∧(x1,x2).2≤200) from fun h=>h4 h.2.2.2)]
         have d:decide (x2≤200)=false:=decide_eq_false h4
         go_enter Tryz.func197,Tryz.ntmps197
         go_wp2
         go_ret
         exact ⟨by first | rfl | (show Ending.returned (Value.bool (decide _))=_;rw [d]),(Below.refl _ _).alloc (Nat.le_refl _) _⟩
     · rw [decide_eq_false (show ¬ (1≤(x1,x2).1∧(x1,x2).1≤1099511627776∧0≤(x1,x2).2∧(x1,x2).2≤200) from fun h=>h3 h.2.2.1)]
       have d:decide (0≤x2)=false:=decide_eq_false h3
       go_enter Tryz.func197,Tryz.ntmps197
       go_wp2
       go_ret
       exact ⟨by first | rfl | simp,(Below.refl _ _).alloc (Nat.le_refl _) _⟩
   · rw [decide_eq_false (show ¬ (1≤(x1,x2).1∧(x1,x2).1≤1099511627776∧0≤(x1,x2).2∧(x1,x2).2≤200) from fun h=>h2 h.2.1)]
     have d:decide (x1≤1099511627776)=false:=decide_eq_false h2
     go_enter Tryz.func197,Tryz.ntmps197
     go_wp2
     go_ret
     exact ⟨by first | rfl | simp,(Below.refl _ _).alloc (Nat.le_refl _) _⟩
 · rw [decide_eq_false (show ¬ (1≤(x1,x2).1∧(x1,x2).1≤1099511627776∧0≤(x1,x2).2∧(x1,x2).2≤200) from fun h=>h1 h.1)]
   have d:decide (1≤x1)=false:=decide_eq_false h1
   go_enter Tryz.func197,Tryz.ntmps197
   go_wp2
   go_ret
   exact ⟨by first | rfl | simp,(Below.refl _ _).alloc (Nat.le_refl _) _⟩
end Go.Proofs.YtjkbmfpomgcblaaGreatDoor
