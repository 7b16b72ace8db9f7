import Derived.WalkKit
import Derived.Test.YtgfinhehgfbdgaaGreatDoorProg
import Derived.KernelRfl
import Derived.Deep.Slices
import Derived.Deep.Fields
import Derived.ChangeSame
import Derived.SizedLaws
import Derived.Below
import Derived.ProofKit
import Derived.OpenShut
import Derived.Handy
import Derived.Laws.IdiomStrings
import Derived.Lib.Hide
import Derived.LaidEql
import Derived.Stop.Asserts
import Derived.RowKitTokens
import Derived.Shelf.Strings.Builder1
import Derived.Shelf.Strings.Builder2
import Derived.Shelf.Strings.OnBuilder
import Derived.Shelf.Strings.BuilderF
import Derived.Shelf.Strings.BuilderK
import Derived.Shelf.Strconv.Itoa0
import Derived.Shelf.Strconv.Itoa1
import Derived.Shelf.LaysM
import Derived.Shelf.Strconv.Itoa2
import Derived.Shelf.Strconv.Itoa3
import Derived.Shelf.Strconv.Clone
import Derived.Shelf.Strings.Search1
import Derived.Shelf.Strings.Search2
import Derived.Shelf.Strings.Search3
import Derived.Shelf.Strings.Shaped
import Derived.Shelf.Strings.Prefix
namespace Go.Proofs.YtgfinhehgfbdgaaGreatDoor
def putL (n:Nat):List UInt8:=if n<128 then [UInt8.ofNat n] else UInt8.ofNat (n % 128+128)::putL (n / 128)
termination_by n
decreasing_by omega
def valL:List UInt8→Nat
 | []=>0
 | c::r=>c.toNat % 128+128 * valL r
def scan:Nat→List UInt8→Nat ⊕ Nat
 | _,[]=>.inl 7
 | i,c::r=>if i=9∧1<c.toNat then .inl 4 else if 0<i∧c.toNat=0 then .inl 3 else if c.toNat<128 then .inr (i+1) else scan (i+1) r
def getL (l:List UInt8):Nat×Nat×Nat:=match scan 0 l with
 | .inl e=>(0,0,e)
 | .inr k=>(valL (l.take k),k,0)
theorem putL_small {n:Nat} (h:n<128):putL n=[UInt8.ofNat n]:=by rw [putL,if_pos h]
theorem putL_big {n:Nat} (h:¬ n<128):putL n=UInt8.ofNat (n % 128+128)::putL (n / 128):=by rw [putL,if_neg h]
theorem putL_pos (n:Nat):0<(putL n).length:=by
 by_cases h:n<128
 · rw [putL_small h];simp
 · rw [putL_big h];simp
theorem toNat_ofNat_lt {n:Nat} (h:n<256):(UInt8.ofNat n).toNat=n:=by simp;omega
theorem ofNat_toNat (c:UInt8):UInt8.ofNat c.toNat=c:=by simp
theorem putL_len (j:Nat):∀ n,n<128 ^ j→0<j→(putL n).length≤j:=by
 induction j with
 | zero=>intro n _ h;omega
 | succ j ih =>
   intro n hn _;by_cases h:n<128
   · rw [putL_small h];simp
   · rw [putL_big h,List.length_cons];have hj:0<j:=by
       rcases Nat.eq_zero_or_pos j with rfl | h'
       · simp at hn;omega
       · exact h'
     have h2:n / 128<128 ^ j:=by
       rw [Nat.pow_succ] at hn;exact Nat.div_lt_of_lt_mul (by rw [Nat.mul_comm];exact hn)
     have:=ih (n / 128) h2 hj;omega
theorem putL_le10 {n:Nat} (h:n<18446744073709551616):(putL n).length≤10 :=
 putL_len 10 n (Nat.lt_of_lt_of_le h (by decide)) (by decide)
theorem pow9:128 ^ 9=9223372036854775808:=by decide
theorem scan_only (l:List UInt8):∀ i k,scan i l=.inr k→∃ j,k=i+j∧1≤j∧j≤l.length∧putL (valL (l.take j))=l.take j∧(0<i→0<valL (l.take j)):=by
 induction l with
 | nil=>intro i k h;simp [scan] at h
 | cons c r ih =>
   intro i k h;have hc:=c.toNat_lt;rw [scan] at h;by_cases h1:i=9∧1<c.toNat
   · rw [if_pos h1] at h;cases h
   · rw [if_neg h1] at h;by_cases h2:0<i∧c.toNat=0
     · rw [if_pos h2] at h;cases h
     · rw [if_neg h2] at h;by_cases h3:c.toNat<128
       · rw [if_pos h3] at h;injection h with h
         have hv:valL [c]=c.toNat:=by rw [valL,valL];omega
         refine ⟨1,h.symm,by omega,by simp,?_,?_⟩
         · rw [List.take_succ_cons,List.take_zero,hv,putL_small h3,ofNat_toNat]
         · intro hi;rw [List.take_succ_cons,List.take_zero,hv];omega
       · rw [if_neg h3] at h;obtain ⟨j,e1,e2,e3,e4,e5⟩:=ih (i+1) k h;have hp:=e5 (by omega);refine ⟨j+1,by omega,by omega,by simp;omega,?_,?_⟩
         · rw [List.take_succ_cons,valL,putL_big (by omega)];rw [show (c.toNat % 128+128 * valL (List.take j r)) / 128=valL (List.take j r) by omega,show (c.toNat % 128+128 * valL (List.take j r)) % 128+128=c.toNat by omega,e4,ofNat_toNat]
         · intro _;rw [List.take_succ_cons,valL];omega
theorem getL_only {l:List UInt8} {n k:Nat} (h:getL l=(n,k,0)):1≤k∧k≤l.length∧putL n=l.take k:=by
 unfold getL at h;split at h
 · rename_i e he;simp only [Prod.mk.injEq] at h
   obtain ⟨_,_,rfl⟩:=h
   exfalso
   have:∀ (l:List UInt8) (i:Nat),scan i l≠.inl 0:=by
     intro l
     induction l with
     | nil=>intro i h;simp [scan] at h
     | cons c r ih =>
       intro i h;rw [scan] at h;split at h
       · cases h
       · split at h
         · cases h
         · split at h
           · cases h
           · exact ih _ h
   exact this _ _ he
 · rename_i k' hk;simp only [Prod.mk.injEq] at h
   obtain ⟨rfl,rfl,_⟩:=h;obtain ⟨j,e1,e2,e3,e4,_⟩:=scan_only l 0 k' hk;obtain rfl:k'=j:=by omega
   exact ⟨e2,e3,e4⟩
theorem scan_err (l:List UInt8):∀ (i e:Nat),scan i l=.inl e→e=7∨e=4∨e=3:=by
 induction l with
 | nil=>intro i e h;simp [scan] at h;omega
 | cons c r ih =>
   intro i e h;rw [scan] at h;split at h
   · injection h with h;omega
   · split at h
     · injection h with h;omega
     · split at h
       · cases h
       · exact ih _ _ h
theorem getL_bad {l:List UInt8} (h:(getL l).2.2≠0):(getL l).1=0∧(getL l).2.1=0∧((getL l).2.2=7∨(getL l).2.2=4∨(getL l).2.2=3):=by
 unfold getL at h ⊢;split
 · rename_i e he;exact ⟨rfl,rfl,scan_err _ _ _ he⟩
 · rename_i k hk;simp [hk] at h
theorem getL_err (l:List UInt8):(getL l).2.2=0∨(getL l).2.2=7∨(getL l).2.2=4∨(getL l).2.2=3:=by
 by_cases h:(getL l).2.2=0
 · exact .inl h
 · exact .inr (getL_bad h).2.2
theorem valL_append (a:List UInt8) (c:UInt8):valL (a++[c])=valL a+c.toNat % 128 * 128 ^ a.length:=by
 induction a with
 | nil=>simp [valL]
 | cons d r ih =>
   rw [List.cons_append,valL,ih,valL,List.length_cons,Nat.pow_succ,Nat.mul_add,←Nat.add_assoc]
   congr 1
   rw [Nat.mul_comm,Nat.mul_assoc]
theorem valL_lt (a:List UInt8):valL a<128 ^ a.length:=by
 induction a with
 | nil=>simp [valL]
 | cons d r ih =>
   rw [valL,List.length_cons,Nat.pow_succ];have:d.toNat % 128<128:=Nat.mod_lt _ (by decide);have h2:128 * (valL r+1)≤128 * 128 ^ r.length:=Nat.mul_le_mul_left 128 ih;rw [Nat.mul_comm (128 ^ r.length)];omega
theorem valL_take_succ (l:List UInt8) (k:Nat) (h:k<l.length):valL (l.take (k+1))=valL (l.take k)+l[k].toNat % 128 * 128 ^ k:=by
 rw [List.take_succ_eq_append_getElem h,valL_append]
 congr 3
 simp;omega
theorem scan_drop (l:List UInt8) (i:Nat) (h:i<l.length):scan i (l.drop i)=if i=9∧1<l[i].toNat then .inl 4 else if 0<i∧l[i].toNat=0 then .inl 3 else if l[i].toNat<128 then .inr (i+1) else scan (i+1) (l.drop (i+1)):=by
 rw [List.drop_eq_getElem_cons h,scan]
def sevens (n:Nat):Nat:=if n<128 then 1 else sevens (n / 128)+1
termination_by n
decreasing_by omega
theorem sevens_small {n:Nat} (h:n<128):sevens n=1:=by rw [sevens,if_pos h]
theorem sevens_big {n:Nat} (h:¬ n<128):sevens n=sevens (n / 128)+1:=by rw [sevens,if_neg h]
theorem putL_sevens (n:Nat):(putL n).length=sevens n:=by
 induction n using Nat.strongRecOn with
 | ind n ih =>
   by_cases h:n<128
   · rw [putL_small h,sevens_small h];rfl
   · rw [putL_big h,sevens_big h,List.length_cons,ih (n / 128) (by omega)]
theorem scan_ten (l:List UInt8):∀ (i k:Nat),i≤9→scan i l=.inr k→k≤10∧i<k∧k-i≤l.length∧(k=10→∀ c,l[9-i]? = some c→c.toNat≤1):=by
 induction l with
 | nil=>intro i k _ h;simp [scan] at h
 | cons c r ih =>
   intro i k hi h;rw [scan] at h;by_cases h1:i=9∧1<c.toNat
   · rw [if_pos h1] at h;cases h
   · rw [if_neg h1] at h;by_cases h2:0<i∧c.toNat=0
     · rw [if_pos h2] at h;cases h
     · rw [if_neg h2] at h;by_cases h3:c.toNat<128
       · rw [if_pos h3] at h;injection h with h
         subst h;refine ⟨by omega,by omega,by simp,?_⟩;intro h9 d hd;obtain rfl:i=9:=by omega
         simp at hd;subst hd;omega
       · rw [if_neg h3] at h;obtain ⟨a,b,c',d⟩:=ih (i+1) k (by omega) h;refine ⟨a,by omega,by simp;omega,?_⟩;intro h9 e he;rw [show 9-i=(9-(i+1))+1 by omega,List.getElem?_cons_succ] at he;exact d h9 e he
theorem scan_lt {l:List UInt8} {k:Nat} (h:scan 0 l=.inr k):1≤k∧k≤10∧k≤l.length∧valL (l.take k)<18446744073709551616:=by
 obtain ⟨a,b,c,d⟩:=scan_ten l 0 k (by omega) h;refine ⟨by omega,a,by omega,?_⟩;by_cases h10:k=10
 · subst h10;have hl:9<l.length:=by omega
   rw [valL_take_succ l 9 hl];have h1:=valL_lt (l.take 9);have h2:=d rfl l[9] (by rw [List.getElem?_eq_getElem hl]);have h3:(l.take 9).length=9:=by simp;omega
   rw [h3,pow9] at h1;rw [pow9];have h4:l[9].toNat % 128≤1:=by omega
   have:=Nat.mul_le_mul_right 9223372036854775808 h4;omega
 · have h1:=valL_lt (l.take k);have h3:(l.take k).length=k:=by simp;omega
   have h4:128 ^ k≤128 ^ 9:=Nat.pow_le_pow_right (by decide) (by omega);rw [h3] at h1;rw [pow9] at h4;omega
end Go.Proofs.YtgfinhehgfbdgaaGreatDoor
namespace Go.Proofs.YtgfinhehgfbdgaaGreatDoor
open Go.ChangeShapes Go.WideShapes Go.ChangeAt Go.RowKit
structure Wr where
 time:Int
 rep:Int
 kind:Int
 key:ByteArray
 value:ByteArray
 n:Int
def wrC (x:Wr):List Value:=[.int .i64 x.time,.int .i64 x.rep,.int .i64 x.kind,.string x.key,.string x.value,.int .i64 x.n]
def WrOk (x:Wr):Prop:=-9223372036854775808≤x.n∧x.n≤9223372036854775807∧x.key.size≤140737488351232∧x.value.size≤140737488351232
end Go.Proofs.YtgfinhehgfbdgaaGreatDoor
namespace Go.Proofs.YtgfinhehgfbdgaaGreatDoor
structure Ent where
 rep:Int
 time:Int
deriving DecidableEq
def wrE (e:Ent) (last:Int):Nat:=if e.rep<0∨200<e.rep∨e.time<1∨1099511627776<e.time then 2 else if e.rep≤last then 10 else 0
def vr:List Ent→Nat→Int→Nat×Int
 | [],_,_=>(0,-1)
 | e::r,i,last=>if wrE e last≠0 then (wrE e last,i) else vr r (i+1) e.rep
def vrightF (l:List Ent):Nat×Int:=if 16<l.length then (4,-1) else vr l 0 (-1)
theorem wrE_range {e:Ent} {last:Int} (h:e.rep<0∨200<e.rep∨e.time<1∨1099511627776<e.time):wrE e last=2:=by unfold wrE;rw [if_pos h]
theorem wrE_order {e:Ent} {last:Int} (h:¬ (e.rep<0∨200<e.rep∨e.time<1∨1099511627776<e.time)) (h2:e.rep≤last):wrE e last=10:=by unfold wrE;rw [if_neg h,if_pos h2]
theorem wrE_fine {e:Ent} {last:Int} (h:¬ (e.rep<0∨200<e.rep∨e.time<1∨1099511627776<e.time)) (h2:¬ e.rep≤last):wrE e last=0:=by unfold wrE;rw [if_neg h,if_neg h2]
theorem wrE_ok {e:Ent} {last:Int}:wrE e last=0↔0≤e.rep∧e.rep≤200∧1≤e.time∧e.time≤1099511627776∧last<e.rep:=by
 unfold wrE;split
 · constructor
   · intro h;omega
   · intro h;omega
 · split
   · constructor
     · intro h;omega
     · intro h;omega
   · constructor
     · intro _;omega
     · intro _;rfl
theorem vr_bad {e:Ent} {r:List Ent} {i:Nat} {last:Int} (h:wrE e last≠0):vr (e::r) i last=(wrE e last,(i:Int)):=by rw [vr,if_pos h]
theorem vr_good {e:Ent} {r:List Ent} {i:Nat} {last:Int} (h:wrE e last=0):vr (e::r) i last=vr r (i+1) e.rep:=by rw [vr,if_neg (by simpa using h)]
def okV:Int→List Ent→Prop
 | _,[]=>True
 | last,e::r=>wrE e last=0∧okV e.rep r
def rightV (l:List Ent):Prop:=l.length≤16∧okV (-1) l
theorem vr_ok (l:List Ent):∀ i last,(vr l i last).1=0↔okV last l:=by
 induction l with
 | nil=>intro i last;simp [vr,okV]
 | cons e r ih =>
   intro i last;by_cases h:wrE e last=0
   · rw [vr_good h,ih];exact ⟨fun h2=>⟨h,h2⟩,fun h2=>h2.2⟩
   · rw [vr_bad h];exact ⟨fun h2=>absurd h2 h,fun h2=>absurd h2.1 h⟩
theorem vright_ok (l:List Ent):(vrightF l).1=0↔rightV l:=by
 unfold vrightF rightV;split
 · constructor
   · intro h;cases h
   · intro h;omega
 · rw [vr_ok];exact ⟨fun h=>⟨by omega,h⟩,fun h=>h.2⟩
theorem vr_good_place (l:List Ent):∀ i last,(vr l i last).1=0→vr l i last=(0,-1):=by
 induction l with
 | nil=>intro i last _;rfl
 | cons e r ih =>
   intro i last h;by_cases hw:wrE e last=0
   · rw [vr_good hw] at h ⊢;exact ih _ _ h
   · rw [vr_bad hw] at h;exact absurd h hw
theorem vright_good {l:List Ent} (h:(vrightF l).1=0):vrightF l=(0,-1):=by
 unfold vrightF at h ⊢;split
 · rename_i h2;rw [if_pos h2] at h;cases h
 · rename_i h2;rw [if_neg h2] at h;exact vr_good_place _ _ _ h
theorem vright_of {l:List Ent} (h:rightV l):vrightF l=(0,-1):=vright_good ((vright_ok l).2 h)
theorem okV_mem {l:List Ent}:∀ {last:Int},okV last l→∀ e∈l,0≤e.rep∧e.rep≤200∧1≤e.time∧e.time≤1099511627776∧last<e.rep:=by
 induction l with
 | nil=>intro last _ e h;cases h
 | cons d r ih =>
   intro last h e he;obtain ⟨h1,h2⟩:=h;rw [wrE_ok] at h1;rcases List.mem_cons.1 he with rfl | he
   · exact h1
   · have:=ih h2 e he;omega
def ofF:List Ent→Int→Int
 | [],_=>0
 | e::r,x=>if e.rep=x then e.time else ofF r x
theorem ofF_at {e:Ent} {r:List Ent} {x:Int} (h:e.rep=x):ofF (e::r) x=e.time:=by rw [ofF,if_pos h]
theorem ofF_on {e:Ent} {r:List Ent} {x:Int} (h:e.rep≠x):ofF (e::r) x=ofF r x:=by rw [ofF,if_neg h]
theorem ofF_has {l:List Ent} {x:Int} (h:ofF l x≠0):∃ e∈l,e.rep=x∧e.time=ofF l x:=by
 induction l with
 | nil=>exact absurd rfl h
 | cons d r ih =>
   by_cases hd:d.rep=x
   · exact ⟨d,List.mem_cons_self,hd,by rw [ofF_at hd]⟩
   · rw [ofF_on hd] at h ⊢;obtain ⟨e,he,h1,h2⟩:=ih h;exact ⟨e,List.mem_cons_of_mem _ he,h1,h2⟩
def covA (a b:List Ent):Bool:=b.all fun e=>decide (e.time≤ofF a e.rep)
def covB (a b:List Ent):Bool:=decide ((vrightF a).1=0) && decide ((vrightF b).1=0) && covA a b
end Go.Proofs.YtgfinhehgfbdgaaGreatDoor
namespace Go.Proofs.YtgfinhehgfbdgaaGreatDoor
open Go.RowKit
theorem within_yes (n lo hi:Int) (w:World) (h1:lo≤n) (h2:n≤hi) :
   Calls Tryz.prog 52 #[.int .i64 n,.int .i64 lo,.int .i64 hi] w fun e w'=>e=.returned (.bool true)∧w=w':=by
 go_enter Tryz.func52,Tryz.ntmps52
 go_wp2;go_ret;exact ⟨rfl,rfl⟩
theorem within_low (n lo hi:Int) (w:World) (h1:n<lo) :
   Calls Tryz.prog 52 #[.int .i64 n,.int .i64 lo,.int .i64 hi] w fun e w'=>e=.returned (.bool false)∧w=w':=by
 go_enter Tryz.func52,Tryz.ntmps52
 go_wp2;go_ret;exact ⟨rfl,rfl⟩
theorem within_high (n lo hi:Int) (w:World) (h1:lo≤n) (h2:hi<n) :
   Calls Tryz.prog 52 #[.int .i64 n,.int .i64 lo,.int .i64 hi] w fun e w'=>e=.returned (.bool false)∧w=w':=by
 have h3:decide (n≤hi)=false:=by simp;omega
 go_enter Tryz.func52,Tryz.ntmps52
 go_wp2;go_ret;exact ⟨rfl,rfl⟩
end Go.Proofs.YtgfinhehgfbdgaaGreatDoor
namespace Go.Proofs.YtgfinhehgfbdgaaGreatDoor
open Go.RowKit
def byteV (c:UInt8):Value:=.int .u8 (c.toNat:Int)
theorem info_u8:(Tryz.prog.info? 5).map (fun i=>(i.zero,i.size,i.bytes))=some (some (.int .u8 0),1,1):=by kernel_rfl
def ownsB (w:World) (base:Nat) (v:Value) (l:List UInt8):Prop:=w.ownsRow base 5 1 v l.length (l.map byteV)
theorem ownsB_nil (w:World) (base:Nat):ownsB w base (.slice none 0 0) []:=World.ownsRow_nil _ _ _ _
theorem ownsB.alloc {w:World} {base:Nat} {v:Value} {l:List UInt8} (h:ownsB w base v l) (o:Obj):ownsB (w.alloc o) base v l:=World.ownsRow.alloc h o
theorem wpList_append_byte {w:World} {ops:Array Oper} {rest:List Oper} {o:Oper} {a:Act} {Q:Exit→Act→World→Prop} (hgd:o.guard=none) (s x:Operand)
   (ho:o.op=.call { callee:=.builtin .append,args:=#[s,x],argTypes:=#[56,56] })
   (base:Nat) (v:Value) (l:List UInt8) (hs:a.eval s=v) (hown:ownsB w base v l)
   (ad:Addr) (c:Nat) (hx:a.eval x=.slice (some ad) 1 c) (b:Int) (d:UInt8) (hcell:w.cell? (ad.add 0)=some (.int .u8 b)) (hb:b=(d.toNat:Int))
   (hlen:l.length+1≤140737488355328) (hbase:base≤w.heap.size)
   (h:∀ v' w',ownsB w' base v' (l++[d])→w.grownBy w' v.ownBlock→v'≠.slice none 0 0→wpList Tryz.prog ops Q rest (a.put o.dst v') w'):wpList Tryz.prog ops Q (o::rest) a w:=by
 obtain ⟨i0,hi,hz0,hz1,hz2⟩:=info_parts info_u8;refine wpList_append_own w hgd s x 56 ho base 5 i0 (.int .u8 0) 1 1 Tryz.underlying56 hi hz0 hz1 hz2 rfl (by decide) v l.length (l.map byteV) hs hown ad 1 c [byteV d] hx rfl ?_ ?_ (by unfold maxLen;omega) (by omega) hbase ?_
 · intro j u hj
   match j,hj with
   | 0,hj=>simp at hj;subst hj;rw [hcell,hb];rfl
 · intro u hu;simp at hu;subst hu;rfl
 · intro v' w' h1 h2 h3;refine h v' w' ?_ h2 ?_
   · unfold ownsB;rw [List.length_append,List.map_append];exact h1
   · intro e;have:=(h3.1 e).2;omega
theorem run_string_ownsB {w:World} {base:Nat} {v:Value} {l:List UInt8} (h:ownsB w base v l) :
   (convert 56 9 v).run Tryz.prog w=.ok (.string ⟨l.toArray⟩) w:=by
 have hall:=h;obtain ⟨h0,h1⟩:=h;rcases h1 with ⟨rfl,hn⟩ | ⟨g,cap,cur,rfl,hb,hh,hc,hm,hs,ht⟩
 · have:l=[]:=List.length_eq_zero_iff.1 hn;subst this;rw [run_convert_bytes_string w _ _ _ _ _ _ Tryz.underlying56 Tryz.underlying5 Tryz.underlying9]
   rfl
 · refine run_convert_bytes_back w _ _ _ _ _ _ Tryz.underlying56 Tryz.underlying5 Tryz.underlying9 fun j hj=>?_
   exact World.ownsRow.cells hall rfl j (byteV l[j]) (by simp [List.getElem?_eq_getElem hj])
end Go.Proofs.YtgfinhehgfbdgaaGreatDoor
namespace Go.Proofs.YtgfinhehgfbdgaaGreatDoor
open Go.RowKit
theorem i64_not_any (x:Int) (h0 : -9223372036854775808≤x) (h1:x≤9223372036854775807):bits .xor .i64 (-1) x=-x-1:=by
 show IntKind.i64.wrap ((BitVec.ofInt 64 (-1) ^^^ BitVec.ofInt 64 x).toNat:Int)=_
 have e1:BitVec.ofInt 64 (-1)=BitVec.allOnes 64:=by decide
 have e2:(BitVec.ofInt 64 x).toNat=(x % 18446744073709551616).toNat:=by rw [BitVec.toNat_ofInt];rfl
 rw [e1,BitVec.allOnes_xor,BitVec.toNat_not,e2,IntKind.wrap_i64];omega
theorem ret_int {k:IntKind} {a b:Int} (h:a=b):Ending.returned (.int k a)=.returned (.int k b):=by rw [h]
def zigN (n:Int):Int:=if n<0 then -2 * n-1 else 2 * n
def zagN (u:Int):Int:=if u % 2=1 then -(u / 2)-1 else u / 2
theorem zig_any (n:Int) (w:World) (h0 : -9223372036854775808≤n) (h1:n≤9223372036854775807) :
   Calls Tryz.prog 199 #[.int .i64 n] w fun e w'=>e=.returned (.int .u64 (zigN n))∧w=w':=by
 by_cases hneg:n<0
 · have hn:Hid (bits .xor .i64 (-1) n=-n-1):=Lib.hid (i64_not_any n h0 h1);go_enter Tryz.func199,Tryz.ntmps199
   go_wp2;go_ret;refine ⟨ret_int ?_,rfl⟩;rw [hn.out,zigN,if_pos hneg];simp only [IntKind.wrap_u64];omega
 · have h':0≤n:=by omega
   go_enter Tryz.func199,Tryz.ntmps199
   go_wp2;go_ret;exact ⟨ret_int (by rw [zigN,if_neg (by omega)]),rfl⟩
theorem zag_any (n:Int) (w:World) (h0:0≤n) (h1:n≤18446744073709551615) :
   Calls Tryz.prog 209 #[.int .u64 n] w fun e w'=>e=.returned (.int .i64 (zagN n))∧w=w':=by
 by_cases h:n % 2=1
 · have hb:(n % 2 == 1)=true:=by simpa using h
   have hn:Hid (bits .xor .i64 (-1) (n / 2)=-(n / 2)-1):=Lib.hid (i64_not_any (n / 2) (by omega) (by omega));have hh:=Lib.hid h;clear h;go_enter Tryz.func209,Tryz.ntmps209
   go_wp2;go_ret;exact ⟨ret_int (by show bits .xor .i64 (-1) (n / 2)=_;rw [hn.out,zagN,if_pos hh.out]),rfl⟩
 · have hb:(n % 2 == 1)=false:=by simpa using h
   have hh:=Lib.hid h;clear h;go_enter Tryz.func209,Tryz.ntmps209
   go_wp2;go_ret;exact ⟨ret_int (by rw [zagN,if_neg hh.out]),rfl⟩
end Go.Proofs.YtgfinhehgfbdgaaGreatDoor
namespace Go.Proofs.YtgfinhehgfbdgaaGreatDoor
open Go.RowKit Go.Extern.Stop Go.Stop Go.Extern
namespace As
theorem valueOfP (t:Addr) (w:World):(ReflectliteValue.unpack (.iface 96 (.pointer (some t)))).run Tryz.prog w
   = .ok (.agg #[.pointer (some ⟨5,96,none⟩),.pointer (some ⟨w.heap.size,0,none⟩),.int .u64 150]) (w.alloc (.cells #[.pointer (some t)] 96)):=by kernel_rfl
theorem typeP (a : Addr) (w : World) : (ReflectliteValue.methodAny (ReflectliteValue.valueError "reflectlite.Value.Type" 0) (fun t _ _ _ => ReflectliteType.toType t) #[.agg #[.pointer (some ⟨5, 96, none⟩), .pointer (some a), .int .u64 150]]).run Tryz.prog w
   = .ok (.iface 226 (.agg #[.pointer (some ⟨5,96,none⟩)])) w:=by kernel_rfl
theorem methodKind (h : Value) (w : World) : (Go.method 400 226 (.agg #[h]) "Kind").run Tryz.prog w = .ok (240, h) w := by kernel_rfl
theorem kindP (w:World):((ReflectliteType.abiMethod fun t=>(fun a:Nat=>Value.int IntKind.u8 (a:Int)) <$> Rtype.kind t) #[.pointer (some ⟨5,96,none⟩)]).run Tryz.prog w=.ok (.int .u8 22) w:=by kernel_rfl
theorem kindE (w:World):((ReflectliteType.abiMethod fun t=>(fun a:Nat=>Value.int IntKind.u8 (a:Int)) <$> Rtype.kind t) #[.pointer (some ⟨5,27,none⟩)]).run Tryz.prog w=.ok (.int .u8 2) w:=by kernel_rfl
theorem isNilForm (a : Addr) (W : World) : (ReflectliteValue.method (ReflectliteValue.valueError "reflectlite.Value.IsNil" 0) ReflectliteValue.isNil #[.agg #[.pointer (some ⟨5, 96, none⟩), .pointer (some a), .int .u64 150]]).run Tryz.prog W = (ReflectliteValue.isNil 96 a 150 22).run Tryz.prog W := by kernel_rfl
theorem isNilP (a p:Addr) (W:World) (ha:W.cell? a=some (.pointer (some p))) :
   (ReflectliteValue.method (ReflectliteValue.valueError "reflectlite.Value.IsNil" 0) ReflectliteValue.isNil #[.agg #[.pointer (some ⟨5, 96, none⟩), .pointer (some a), .int .u64 150]]).run Tryz.prog W = .ok (.bool false) W := by
 rw [isNilForm];simp [ReflectliteValue.isNil,loadVar,isAgg,underlying,Tryz.underlying96,ha,Result.andThen]
theorem methodElem (h : Value) (w : World) : (Go.method 400 226 (.agg #[h]) "Elem").run Tryz.prog w = .ok (253, .agg #[h]) w := by kernel_rfl
theorem methodImplements (h : Value) (w : World) : (Go.method 400 226 (.agg #[h]) "Implements").run Tryz.prog w = .ok (254, .agg #[h]) w := by kernel_rfl
theorem methodAssignableTo (h : Value) (w : World) : (Go.method 400 226 (.agg #[h]) "AssignableTo").run Tryz.prog w = .ok (251, .agg #[h]) w := by kernel_rfl
theorem elemP (w:World):(ReflectliteType.method ReflectliteType.elem #[.agg #[.pointer (some ⟨5,96,none⟩)]]).run Tryz.prog w=.ok (.iface 226 (.agg #[.pointer (some ⟨5,27,none⟩)])) w:=by kernel_rfl
theorem implementsE (w : World) : (ReflectliteType.relation "Implements" ReflectliteType.implements_ #[.agg #[.pointer (some ⟨5, 27, none⟩)], .iface 226 (.agg #[.pointer (some ⟨5, 33, none⟩)])]).run Tryz.prog w = .ok (.bool true) w := by kernel_rfl
theorem typeOfE (v:Value) (w:World):(ReflectliteType.typeOf #[.iface 27 v]).run Tryz.prog w=.ok (.iface 226 (.agg #[.pointer (some ⟨5,27,none⟩)])) w:=by kernel_rfl
theorem typeOfA (v:Value) (w:World):(ReflectliteType.typeOf #[.iface 82 v]).run Tryz.prog w=.ok (.iface 226 (.agg #[.pointer (some ⟨5,82,none⟩)])) w:=by kernel_rfl
theorem assignableE (w : World) : (ReflectliteType.relation "AssignableTo" ReflectliteType.assignableTo #[.agg #[.pointer (some ⟨5, 27, none⟩)], .iface 226 (.agg #[.pointer (some ⟨5, 27, none⟩)])]).run Tryz.prog w = .ok (.bool true) w := by kernel_rfl
theorem assignableA (w : World) : (ReflectliteType.relation "AssignableTo" ReflectliteType.assignableTo #[.agg #[.pointer (some ⟨5, 82, none⟩)], .iface 226 (.agg #[.pointer (some ⟨5, 27, none⟩)])]).run Tryz.prog w = .ok (.bool false) w := by kernel_rfl
theorem valueOfE (e:Int) (w:World):(ReflectliteValue.unpack (.iface 27 (.int .i64 e))).run Tryz.prog w
   = .ok (.agg #[.pointer (some ⟨5,27,none⟩),.pointer (some ⟨w.heap.size,0,none⟩),.int .u64 130]) (w.alloc (.cells #[.int .i64 e] 27)):=by kernel_rfl
theorem elemOfP (w:World):(Rtype.elem? 96).run Tryz.prog w=.ok (some 27) w:=by kernel_rfl
theorem mkE (p:Addr) (w:World):(ReflectliteValue.mk 27 p ReflectliteValue.flagAddr).run Tryz.prog w=.ok (.agg #[.pointer (some ⟨5,27,none⟩),.pointer (some p),.int .u64 386]) w:=by kernel_rfl
theorem elemForm (a : Addr) (W : World) : (ReflectliteValue.method (ReflectliteValue.valueError "reflectlite.Value.Elem" 0) ReflectliteValue.elem #[.agg #[.pointer (some ⟨5, 96, none⟩), .pointer (some a), .int .u64 150]]).run Tryz.prog W = (ReflectliteValue.elem 96 a 150 22).run Tryz.prog W := by kernel_rfl
theorem elemVP (a p:Addr) (W:World) (ha:W.cell? a=some (.pointer (some p))) :
   (ReflectliteValue.method (ReflectliteValue.valueError "reflectlite.Value.Elem" 0) ReflectliteValue.elem #[.agg #[.pointer (some ⟨5, 96, none⟩), .pointer (some a), .int .u64 150]]).run Tryz.prog W
     = .ok (.agg #[.pointer (some ⟨5,27,none⟩),.pointer (some p),.int .u64 386]) W:=by
 rw [elemForm];simp [ReflectliteValue.elem,loadVar,isAgg,underlying,Tryz.underlying96,ha,Result.andThen,elemOfP,mkE]
theorem setForm (ta b:Addr) (W:World):(ReflectliteValue.set #[.agg #[.pointer (some ⟨5,27,none⟩),.pointer (some ta),.int .u64 386],.agg #[.pointer (some ⟨5,27,none⟩),.pointer (some b),.int .u64 130]]).run Tryz.prog W
   = (do let val ←loadVar 27 b;storeVar 27 ta val;pure (Value.tuple #[]):Sem Value).run Tryz.prog W:=by kernel_rfl
theorem setE (ta b:Addr) (e:Int) (old:Value) (W:World) (hb:W.cell? b=some (.int .i64 e)) (ht:W.cell? ta=some old) (hf:W.frozen? ta=false) :
   (ReflectliteValue.set #[.agg #[.pointer (some ⟨5,27,none⟩),.pointer (some ta),.int .u64 386],.agg #[.pointer (some ⟨5,27,none⟩),.pointer (some b),.int .u64 130]]).run Tryz.prog W
     = .ok (.tuple #[]) (W.setCell ta (.int .i64 e)):=by
 rw [setForm];simp [loadVar,isAgg,underlying,Tryz.underlying27,hb,Result.andThen,storeVar,Value.cells,storeCells,Addr.add]
 rw [run_store Tryz.prog W ta _ _ (by rfl)];simp [ht,hf]
theorem noAsA (v:Value) (xT:TypeId) (w:World):(Instr.typeAssert (.iface 82 v) xT 231 true).run Tryz.prog w=.ok (.tuple #[.nilIface,.bool false]) w:=run_typeAssert_lacksB Tryz.underlying231 (by kernel_rfl) (by kernel_rfl) v xT w
theorem unwrapA (v:Value) (xT:TypeId) (w:World):(Instr.typeAssert (.iface 82 v) xT 111 true).run Tryz.prog w=.ok (.tuple #[.iface 82 v,.bool true]) w:=run_typeAssert_hasB Tryz.underlying111 (by kernel_rfl) v xT w
theorem noUnwrapE (v:Value) (xT:TypeId) (w:World):(Instr.typeAssert (.iface 27 v) xT 111 true).run Tryz.prog w=.ok (.tuple #[.nilIface,.bool false]) w:=run_typeAssert_lacksB Tryz.underlying111 (by kernel_rfl) (by kernel_rfl) v xT w
theorem noAtE (v:Value) (xT:TypeId) (w:World):(Instr.typeAssert (.iface 27 v) xT 82 true).run Tryz.prog w=.ok (.tuple #[.pointer none,.bool false]) w:=by kernel_rfl
theorem isAtA (v:Value) (xT:TypeId) (w:World):(Instr.typeAssert (.iface 82 v) xT 82 true).run Tryz.prog w=.ok (.tuple #[v,.bool true]) w:=by kernel_rfl
end As
end Go.Proofs.YtgfinhehgfbdgaaGreatDoor
namespace Go.Proofs.YtgfinhehgfbdgaaGreatDoor
theorem bs_data (l:List UInt8):(⟨l.toArray⟩:ByteArray).data.toList=l:=rfl
theorem bs_size (l:List UInt8):(⟨l.toArray⟩:ByteArray).size=l.length:=by simp [ByteArray.size]
theorem size_data (s:ByteArray):s.size=s.data.toList.length:=(Array.length_toList (xs:=s.data)).symm
theorem bs_ext {a b:ByteArray} (h:a.data.toList=b.data.toList):a=b:=by
 cases a;cases b;simp at h;subst h;rfl
theorem bs_of (s:ByteArray):(⟨s.data.toList.toArray⟩:ByteArray)=s:=by cases s;simp
theorem app_data (a b:ByteArray):(a++b).data.toList=a.data.toList++b.data.toList:=by simp
theorem app_size (a b:ByteArray):(a++b).size=a.size+b.size:=by simp
theorem ext_data (s:ByteArray) (i j:Nat):(s.extract i j).data.toList=(s.data.toList.take j).drop i:=by
 simp [List.drop_take]
end Go.Proofs.YtgfinhehgfbdgaaGreatDoor
namespace Go.Proofs.YtgfinhehgfbdgaaGreatDoor
theorem beq_same (a:ByteArray):(a.toList == a.toList)=true:=by simp
theorem beq_diff {a b:ByteArray} (h:a≠b):(a.toList == b.toList)=false:=by
 refine beq_eq_false_iff_ne.2 fun e=>h ?_
 rw [ByteArray.toList_eq,ByteArray.toList_eq] at e;cases a;cases b;simp_all
instance memB (s:ByteArray) (t:List ByteArray):Decidable (s∈t):=decidable_of_iff (t.any (fun x=>decide (x=s))=true) (by simp)
def idxB (t:List ByteArray) (s:ByteArray):Nat:=t.findIdx (fun x=>decide (x=s))
def addK (t:List ByteArray) (s:ByteArray):List ByteArray:=if s∈t then t else t++[s]
def tabK:List ByteArray→List ByteArray→List ByteArray
 | t,[]=>t
 | t,s::r=>tabK (addK t s) r
def atK:List ByteArray→List ByteArray→List Nat
 | _,[]=>[]
 | t,s::r=>idxB t s::atK (addK t s) r
theorem idxB_lt {t:List ByteArray} {s:ByteArray} (h:s∈t):idxB t s<t.length:=by
 unfold idxB;exact List.findIdx_lt_length_of_exists ⟨s,h,by simp⟩
theorem idxB_get {t:List ByteArray} {s:ByteArray} (h:s∈t):t[idxB t s]? = some s:=by
 have h1:=idxB_lt h;have h2:=List.findIdx_getElem (xs:=t) (p:=fun x=>decide (x=s)) (w:=h1);rw [List.getElem?_eq_getElem h1];simp only [decide_eq_true_eq] at h2
 exact congrArg some h2
theorem idxB_new {t:List ByteArray} {s:ByteArray} (h:s ∉ t):idxB t s=t.length:=by
 unfold idxB;rw [List.findIdx_eq_length];intro x hx;simp only [decide_eq_false_iff_not]
 rintro rfl;exact h hx
theorem idxB_at {t:List ByteArray} (hn:t.Nodup) {j:Nat} {s:ByteArray} (h:t[j]? = some s):idxB t s=j:=by
 have hm:s∈t:=List.mem_of_getElem? h;have h1:=idxB_get hm;obtain ⟨hj,ej⟩:=List.getElem?_eq_some_iff.1 h;obtain ⟨hi,ei⟩:=List.getElem?_eq_some_iff.1 h1;exact (List.getElem_inj hn).1 (ei.trans ej.symm)
theorem addK_in {t:List ByteArray} {s:ByteArray} (h:s∈t):addK t s=t:=if_pos h
theorem addK_new {t:List ByteArray} {s:ByteArray} (h:s ∉ t):addK t s=t++[s]:=if_neg h
theorem addK_nodup {t:List ByteArray} {s:ByteArray} (h:t.Nodup):(addK t s).Nodup:=by
 unfold addK;split
 · exact h
 · rename_i hs;rw [List.nodup_append];exact ⟨h,by simp,fun a ha b hb=>by simp at hb;subst hb;rintro rfl;exact hs ha⟩
theorem addK_pre (t:List ByteArray) (s:ByteArray):t <+: addK t s:=by
 unfold addK;split
 · exact List.prefix_rfl
 · exact List.prefix_append _ _
theorem tabK_pre (r:List ByteArray):∀ t,t <+: tabK t r:=by
 induction r with
 | nil=>intro t;exact List.prefix_rfl
 | cons s r ih=>intro t;exact (addK_pre t s).trans (ih _)
theorem tabK_len (r:List ByteArray):∀ t,(tabK t r).length≤t.length+r.length:=by
 induction r with
 | nil=>intro t;simp [tabK]
 | cons s r ih =>
   intro t;have:=ih (addK t s);have h2:(addK t s).length≤t.length+1:=by unfold addK;split <;> simp
   simp [tabK];omega
theorem tabK_sub (r:List ByteArray):∀ t x,x∈tabK t r→x∈t∨x∈r:=by
 induction r with
 | nil=>intro t x h;exact .inl h
 | cons s r ih =>
   intro t x h;rcases ih _ _ h with h1 | h1
   · unfold addK at h1;split at h1
     · exact .inl h1
     · rcases List.mem_append.1 h1 with h2 | h2
       · exact .inl h2
       · simp at h2;subst h2;exact .inr (by simp)
   · exact .inr (List.mem_cons_of_mem _ h1)
theorem tabK_in {l t:List ByteArray} {k:Nat} {s:ByteArray} (h:l[k]? = some s) (hs:s∈t):tabK t (l.drop k)=tabK t (l.drop (k+1)):=by
 obtain ⟨hk,e⟩:=List.getElem?_eq_some_iff.1 h;rw [List.drop_eq_getElem_cons hk,e,tabK,addK_in hs]
theorem tabK_new {l t:List ByteArray} {k:Nat} {s:ByteArray} (h:l[k]? = some s) (hs:s ∉ t):tabK t (l.drop k)=tabK (t++[s]) (l.drop (k+1)):=by
 obtain ⟨hk,e⟩:=List.getElem?_eq_some_iff.1 h;rw [List.drop_eq_getElem_cons hk,e,tabK,addK_new hs]
theorem atK_in {l t:List ByteArray} {k:Nat} {s:ByteArray} (h:l[k]? = some s) (hs:s∈t):atK t (l.drop k)=idxB t s::atK t (l.drop (k+1)):=by
 obtain ⟨hk,e⟩:=List.getElem?_eq_some_iff.1 h;rw [List.drop_eq_getElem_cons hk,e,atK,addK_in hs]
theorem atK_new {l t:List ByteArray} {k:Nat} {s:ByteArray} (h:l[k]? = some s) (hs:s ∉ t):atK t (l.drop k)=t.length::atK (t++[s]) (l.drop (k+1)):=by
 obtain ⟨hk,e⟩:=List.getElem?_eq_some_iff.1 h;rw [List.drop_eq_getElem_cons hk,e,atK,addK_new hs,idxB_new hs]
def dupG:List ByteArray→List ByteArray→Nat→Option Nat
 | _,[],_=>none
 | seen,s::r,i=>if s∈seen then some i else dupG (seen++[s]) r (i+1)
def ordG (K:Nat):Nat→List Int→Nat→Nat×Int
 | told,[],_=>if told<K then (8,-1) else (0,-1)
 | told,n::r,i=>if n<0∨(K:Int)≤n then (2,(i:Int)) else if (told:Int)<n then (13,(i:Int)) else ordG K (if n=told then told+1 else told) r (i+1)
def outG (T:List ByteArray) (l:List Int):List ByteArray:=l.map fun n=>T.getD n.toNat ByteArray.empty
def listF (T:List ByteArray) (l:List Int):List ByteArray×Nat×Int :=
 match dupG [] T 0 with
 | some i=>([],9,(i:Int))
 | none=>if (ordG T.length 0 l 0).1=0 then (outG T l,0,-1) else ([],ordG T.length 0 l 0)
theorem dupG_nodup (r:List ByteArray):∀ seen i,seen.Nodup→(dupG seen r i=none↔(seen++r).Nodup):=by
 induction r with
 | nil=>intro seen i h;simp [dupG,h]
 | cons s r ih =>
   intro seen i h;unfold dupG;split
   · rename_i hs;simp only [reduceCtorEq,false_iff]
     intro hc;rw [List.nodup_append] at hc;exact hc.2.2 s hs s (by simp) rfl
   · rename_i hs;have hn:(seen++[s]).Nodup:=by have:=addK_nodup (s:=s) h;rwa [addK_new hs] at this
     rw [ih _ _ hn];simp
theorem only_at (T:List ByteArray) (hn:T.Nodup) (l:List Int):∀ told i,told≤T.length→(ordG T.length told l i).1=0 →
   tabK (T.take told) (outG T l)=T∧(atK (T.take told) (outG T l)).map Int.ofNat=l:=by
 induction l with
 | nil =>
   intro told i ht h;unfold ordG at h;split at h
   · simp at h
   · refine ⟨?_,rfl⟩;simp only [outG,List.map_nil,tabK]
     exact List.take_of_length_le (by omega)
 | cons n r ih =>
   intro told i ht h;unfold ordG at h;split at h
   · simp at h
   · split at h
     · simp at h
     · rename_i h1 h2;obtain ⟨j,rfl⟩:∃ j:Nat,n=j:=⟨n.toNat,by omega⟩;have hjl:j<T.length:=by omega
       have hout:outG T ((j:Int)::r)=T[j]::outG T r:=by simp [outG,hjl]
       have hat:T[j]? = some T[j]:=List.getElem?_eq_getElem hjl;rw [hout,tabK,atK,List.map_cons];by_cases hjt:j=told
       · subst hjt;rw [if_pos rfl] at h;have hne:T[j] ∉ T.take j:=by
           intro hc;obtain ⟨m,hm⟩:=List.mem_iff_getElem?.1 hc;have hmj:m<j:=by have:=(List.getElem?_eq_some_iff.1 hm).1;simp at this;omega
           rw [List.getElem?_take_of_lt hmj] at hm;have e1:=idxB_at hn hm;have e2:=idxB_at hn hat;omega
         have e:addK (T.take j) T[j]=T.take (j+1):=by rw [addK_new hne,List.take_append_getElem hjl]
         have ei:idxB (T.take j) T[j]=j:=by rw [idxB_new hne,List.length_take];omega
         rw [e,ei];obtain ⟨q1,q2⟩:=ih (j+1) (i+1) (by omega) h;exact ⟨q1,by rw [q2];rfl⟩
       · rw [if_neg (by omega)] at h;have hjt2:j<told:=by omega
         have hm:(T.take told)[j]? = some T[j]:=by rw [List.getElem?_take_of_lt hjt2];exact hat
         have hin:T[j]∈T.take told:=List.mem_of_getElem? hm;have ei:idxB (T.take told) T[j]=j:=idxB_at (hn.sublist (List.take_sublist _ _)) hm;rw [addK_in hin,ei];obtain ⟨q1,q2⟩:=ih told (i+1) ht h;exact ⟨q1,by rw [q2];rfl⟩
theorem listF_ok {T:List ByteArray} {l:List Int} (h:(listF T l).2.1=0):listF T l=(outG T l,0,-1)∧tabK [] (outG T l)=T∧(atK [] (outG T l)).map Int.ofNat=l:=by
 unfold listF at h ⊢;split at h
 · simp at h
 · rename_i hd;have hn:T.Nodup:=by simpa using (dupG_nodup T [] 0 (by simp)).1 hd
   split at h
   · rename_i ho;rw [if_pos ho];have:=only_at T hn l 0 0 (Nat.zero_le _) ho;simp only [List.take_zero] at this
     exact ⟨rfl,this.1,this.2⟩
   · rename_i ho;exact absurd h ho
end Go.Proofs.YtgfinhehgfbdgaaGreatDoor
namespace Go.Proofs
open Go.Shelf
def Tryz.lays169_ren:Go.Shelf.Ren:=⟨fun | 169=>120 | n=>n,fun | 70=>148 | 9=>9 | 0=>0 | 72=>150 | 37=>56 | 127=>221 | 3=>3 | 5=>5 | n=>n,fun | n=>n⟩
theorem Tryz.lays169:Go.Proofs.Lays.n169 Tryz.prog Tryz.lays169_ren:={
 mixed:=by kernel_rfl
 f169:=Tryz.func120.trans (congrArg some (by kernel_rfl))
 t0:=Tryz.underlying0
 a0:=Tryz.isAgg0
 z0:=Tryz.sizeOf0
 v0:=Tryz.zeroValue0
 t3:=Tryz.underlying3
 a3:=Tryz.isAgg3
 z3:=Tryz.sizeOf3
 v3:=Tryz.zeroValue3
 t9:=Tryz.underlying9
 a9:=Tryz.isAgg9
 z9:=Tryz.sizeOf9
 v9:=Tryz.zeroValue9
 t37:=Tryz.underlying56
 a37:=Tryz.isAgg56
 z37:=Tryz.sizeOf56
 v37:=Tryz.zeroValue56
 t70:=Tryz.underlying148
 a70:=Tryz.isAgg148
 z70:=Tryz.sizeOf148
 v70:=Tryz.zeroValue148
 t72:=Tryz.underlying150
 a72:=Tryz.isAgg150
 z72:=Tryz.sizeOf150
 v72:=Tryz.zeroValue150
 t127:=Tryz.underlying221
 a127:=Tryz.isAgg221
 z127:=Tryz.sizeOf221
 v127:=Tryz.zeroValue221 }
theorem Tryz.Builder_Extra_169:Builder.Extra Tryz.prog Tryz.lays169_ren:={
 sizeBuilder:=by kernel_rfl
 liesBuilder:=by kernel_rfl
 t5:=Tryz.underlying5
 a5:=Tryz.isAgg5
 z5:=Tryz.sizeOf5
 v5:=Tryz.zeroValue5
 infoByte:=by kernel_rfl
 cellsByte:=by kernel_rfl
 sizeByte:=by kernel_rfl
 neB5:=by decide }
open Go.RowKit in
theorem Tryz.Builder_String_any (B b:Nat) (l:List UInt8) (w:World) (h:Lib.IsBuilder 150 5 B b (Lib.byteCells l) w) (hBw:B≤w.heap.size) :
   Calls Tryz.prog 120 #[.pointer (some ⟨b,0,none⟩)] w fun e w'=>e=.returned (.string ⟨l.toArray⟩)∧Below B w w':=Any.Builder_String_any Tryz.lays169 Tryz.Builder_Extra_169 B b l w h hBw
def Tryz.lays156_ren:Go.Shelf.Ren:=⟨fun | 156=>138 | 165=>182 | 166=>122 | 169=>120 | 240=>168 | 241=>203 | 276=>198 | 277=>208 | n=>n,fun | 31=>98 | 9=>9 | 3=>3 | 4=>4 | 0=>0 | 20=>20 | 72=>150 | 76=>43 | 70=>148 | 37=>56 | 75=>33 | 127=>221 | 164=>169 | 5=>5 | 80=>87 | n=>n,fun | n=>n⟩
theorem Tryz.lays156:Go.Proofs.Lays.n156 Tryz.prog Tryz.lays156_ren:={
 mixed:=by kernel_rfl
 f156:=Tryz.func138.trans (congrArg some (by kernel_rfl))
 f165:=Tryz.func182.trans (congrArg some (by kernel_rfl))
 f166:=Tryz.func122.trans (congrArg some (by kernel_rfl))
 f169:=Tryz.func120.trans (congrArg some (by kernel_rfl))
 f240:=Tryz.func168.trans (congrArg some (by kernel_rfl))
 f241:=Tryz.func203.trans (congrArg some (by kernel_rfl))
 f276:=Tryz.func198.trans (congrArg some (by kernel_rfl))
 f277:=Tryz.func208.trans (congrArg some (by kernel_rfl))
 t0:=Tryz.underlying0
 a0:=Tryz.isAgg0
 z0:=Tryz.sizeOf0
 v0:=Tryz.zeroValue0
 t3:=Tryz.underlying3
 a3:=Tryz.isAgg3
 z3:=Tryz.sizeOf3
 v3:=Tryz.zeroValue3
 t4:=Tryz.underlying4
 a4:=Tryz.isAgg4
 z4:=Tryz.sizeOf4
 v4:=Tryz.zeroValue4
 t9:=Tryz.underlying9
 a9:=Tryz.isAgg9
 z9:=Tryz.sizeOf9
 v9:=Tryz.zeroValue9
 t20:=Tryz.underlying20
 a20:=Tryz.isAgg20
 z20:=Tryz.sizeOf20
 v20:=Tryz.zeroValue20
 t31:=Tryz.underlying98
 a31:=Tryz.isAgg98
 z31:=Tryz.sizeOf98
 v31:=Tryz.zeroValue98
 t37:=Tryz.underlying56
 a37:=Tryz.isAgg56
 z37:=Tryz.sizeOf56
 v37:=Tryz.zeroValue56
 t70:=Tryz.underlying148
 a70:=Tryz.isAgg148
 z70:=Tryz.sizeOf148
 v70:=Tryz.zeroValue148
 t72:=Tryz.underlying150
 a72:=Tryz.isAgg150
 z72:=Tryz.sizeOf150
 v72:=Tryz.zeroValue150
 t75:=Tryz.underlying33
 a75:=Tryz.isAgg33
 z75:=Tryz.sizeOf33
 v75:=Tryz.zeroValue33
 t76:=Tryz.underlying43
 a76:=Tryz.isAgg43
 z76:=Tryz.sizeOf43
 v76:=Tryz.zeroValue43
 t127:=Tryz.underlying221
 a127:=Tryz.isAgg221
 z127:=Tryz.sizeOf221
 v127:=Tryz.zeroValue221
 t164:=Tryz.underlying169
 a164:=Tryz.isAgg169
 z164:=Tryz.sizeOf169
 v164:=Tryz.zeroValue169 }
theorem Tryz.Builder_Extra_156:Builder.Extra Tryz.prog Tryz.lays156_ren:={
 sizeBuilder:=by kernel_rfl
 liesBuilder:=by kernel_rfl
 t5:=Tryz.underlying5
 a5:=Tryz.isAgg5
 z5:=Tryz.sizeOf5
 v5:=Tryz.zeroValue5
 infoByte:=by kernel_rfl
 cellsByte:=by kernel_rfl
 sizeByte:=by kernel_rfl
 neB5:=by decide }
open Go.RowKit in
theorem Tryz.strings_Join_none (a:Option Addr) (c:Nat) (sep:ByteArray) (w:World) :
   Calls Tryz.prog 138 #[.slice a 0 c,.string sep] w fun e w'=>e=.returned (.string ⟨#[]⟩)∧w'=w:=Any.strings_Join_none Tryz.lays156 Tryz.Builder_Extra_156 a c sep w
open Go.RowKit in
theorem Tryz.strings_Join (bk o c:Nat) (xs:List ByteArray) (sep:ByteArray) (w:World) (hcells:∀ (j:Nat) x,xs[j]? = some x→w.cell? ⟨bk,o+j,none⟩=some (.string x)) (hbk:bk<w.heap.size) (hN:xs.length≤140737488355328) (hcap:xs.length≤c) (hlen:(Lib.join (xs.map (·.data.toList)) sep.data.toList).length≤140737488355328) :
   Calls Tryz.prog 138 #[.slice (some ⟨bk,o,none⟩) xs.length c,.string sep] w fun e w'=>e=.returned (.string ⟨(Lib.join (xs.map (·.data.toList)) sep.data.toList).toArray⟩)∧Below w.heap.size w w':=Any.strings_Join Tryz.lays156 Tryz.Builder_Extra_156 bk o c xs sep w hcells hbk hN hcap hlen
def Tryz.lays171_ren:Go.Shelf.Ren:=⟨fun | 171=>181 | 243=>202 | 246=>207 | 283=>214 | 284=>215 | 285=>216 | 286=>217 | 129=>81 | 317=>220 | 318=>221 | 319=>222 | 320=>223 | 337=>224 | 338=>225 | n=>n,fun | 3=>3 | 9=>9 | 2=>2 | 4=>4 | 171=>261 | 0=>0 | 53=>64 | 37=>56 | 5=>5 | 173=>263 | 212=>268 | 51=>92 | 20=>20 | 213=>269 | 46=>91 | 232=>272 | 233=>273 | n=>n,fun | 17=>2 | 18=>3 | 19=>4 | n=>n⟩
theorem Tryz.lays171:Go.Proofs.Lays.n171 Tryz.prog Tryz.lays171_ren:={
 mixed:=by kernel_rfl
 f129:=Tryz.func81.trans (congrArg some (by kernel_rfl))
 f171:=Tryz.func181.trans (congrArg some (by kernel_rfl))
 f243:=Tryz.func202.trans (congrArg some (by kernel_rfl))
 f246:=Tryz.func207.trans (congrArg some (by kernel_rfl))
 f283:=Tryz.func214.trans (congrArg some (by kernel_rfl))
 f284:=Tryz.func215.trans (congrArg some (by kernel_rfl))
 f285:=Tryz.func216.trans (congrArg some (by kernel_rfl))
 f286:=Tryz.func217.trans (congrArg some (by kernel_rfl))
 f317:=Tryz.func220.trans (congrArg some (by kernel_rfl))
 f318:=Tryz.func221.trans (congrArg some (by kernel_rfl))
 f319:=Tryz.func222.trans (congrArg some (by kernel_rfl))
 f320:=Tryz.func223.trans (congrArg some (by kernel_rfl))
 f337:=Tryz.func224.trans (congrArg some (by kernel_rfl))
 f338:=Tryz.func225.trans (congrArg some (by kernel_rfl))
 t0:=Tryz.underlying0
 a0:=Tryz.isAgg0
 z0:=Tryz.sizeOf0
 v0:=Tryz.zeroValue0
 t2:=Tryz.underlying2
 a2:=Tryz.isAgg2
 z2:=Tryz.sizeOf2
 v2:=Tryz.zeroValue2
 t3:=Tryz.underlying3
 a3:=Tryz.isAgg3
 z3:=Tryz.sizeOf3
 v3:=Tryz.zeroValue3
 t4:=Tryz.underlying4
 a4:=Tryz.isAgg4
 z4:=Tryz.sizeOf4
 v4:=Tryz.zeroValue4
 t5:=Tryz.underlying5
 a5:=Tryz.isAgg5
 z5:=Tryz.sizeOf5
 v5:=Tryz.zeroValue5
 t9:=Tryz.underlying9
 a9:=Tryz.isAgg9
 z9:=Tryz.sizeOf9
 v9:=Tryz.zeroValue9
 t20:=Tryz.underlying20
 a20:=Tryz.isAgg20
 z20:=Tryz.sizeOf20
 v20:=Tryz.zeroValue20
 t37:=Tryz.underlying56
 a37:=Tryz.isAgg56
 z37:=Tryz.sizeOf56
 v37:=Tryz.zeroValue56
 t46:=Tryz.underlying91
 a46:=Tryz.isAgg91
 z46:=Tryz.sizeOf91
 v46:=Tryz.zeroValue91
 t51:=Tryz.underlying92
 a51:=Tryz.isAgg92
 z51:=Tryz.sizeOf92
 v51:=Tryz.zeroValue92
 t53:=Tryz.underlying64
 a53:=Tryz.isAgg64
 z53:=Tryz.sizeOf64
 v53:=Tryz.zeroValue64
 t171:=Tryz.underlying261
 a171:=Tryz.isAgg261
 z171:=Tryz.sizeOf261
 v171:=Tryz.zeroValue261
 t173:=Tryz.underlying263
 a173:=Tryz.isAgg263
 z173:=Tryz.sizeOf263
 v173:=Tryz.zeroValue263
 t212:=Tryz.underlying268
 a212:=Tryz.isAgg268
 z212:=Tryz.sizeOf268
 v212:=Tryz.zeroValue268
 t213:=Tryz.underlying269
 a213:=Tryz.isAgg269
 z213:=Tryz.sizeOf269
 t232:=Tryz.underlying272
 a232:=Tryz.isAgg272
 z232:=Tryz.sizeOf272
 v232:=Tryz.zeroValue272
 t233:=Tryz.underlying273
 a233:=Tryz.isAgg273
 z233:=Tryz.sizeOf273
 v233:=Tryz.zeroValue273
 g17:=by kernel_rfl
 g18:=by kernel_rfl
 g19:=by kernel_rfl }
open Go.RowKit Go.Sort Go.Lib in
theorem Tryz.strconv_Itoa_small (i:Nat) (hi:i<100) (w:World) :
   Calls Tryz.prog 181 #[.int .i64 i] w fun e w'=>e=.returned (.string ⟨(Lib.decDigits i).toArray⟩)∧w'=w:=Any.strconv_Itoa_small Tryz.lays171 i hi w
def Tryz.laysM316_ren:Go.Shelf.Ren:=⟨fun | 316=>183 | n=>n,fun | 9=>9 | 3=>3 | 4=>4 | 37=>56 | 0=>0 | 127=>221 | 5=>5 | n=>n,fun | n=>n⟩
theorem Tryz.laysM316:Go.Proofs.LaysM.n316 Tryz.prog Tryz.laysM316_ren:={
 mixed:=by kernel_rfl
 f316:=Tryz.func183.trans (congrArg some (by kernel_rfl))
 t0:=Tryz.underlying0
 a0:=Tryz.isAgg0
 z0:=Tryz.sizeOf0
 v0:=Tryz.zeroValue0
 t3:=Tryz.underlying3
 a3:=Tryz.isAgg3
 z3:=Tryz.sizeOf3
 v3:=Tryz.zeroValue3
 t4:=Tryz.underlying4
 a4:=Tryz.isAgg4
 z4:=Tryz.sizeOf4
 v4:=Tryz.zeroValue4
 t9:=Tryz.underlying9
 a9:=Tryz.isAgg9
 z9:=Tryz.sizeOf9
 v9:=Tryz.zeroValue9
 t37:=Tryz.underlying56
 a37:=Tryz.isAgg56
 z37:=Tryz.sizeOf56
 v37:=Tryz.zeroValue56
 t127:=Tryz.underlying221
 a127:=Tryz.isAgg221
 z127:=Tryz.sizeOf221
 v127:=Tryz.zeroValue221
 t5:=Tryz.underlying5
 a5:=Tryz.isAgg5
 z5:=Tryz.sizeOf5
 v5:=Tryz.zeroValue5
 i0:=by kernel_rfl
 i3:=by kernel_rfl
 i4:=by kernel_rfl
 i5:=by kernel_rfl
 i9:=by kernel_rfl
 i37:=by kernel_rfl
 i127:=by kernel_rfl }
open Go.RowKit in
theorem Tryz.stringslite_Clone (s:ByteArray) (w:World) (hlim:s.size≤281474976710656) :
   Calls Tryz.prog 183 #[.string s] w fun e w'=>e=.returned (.string s)∧Below w.heap.size w w':=Any.stringslite_Clone Tryz.laysM316 s w hlim
def Tryz.lays144_ren:Go.Shelf.Ren:=⟨fun | 144=>180 | 143=>201 | 219=>206 | 217=>210 | 225=>211 | 224=>212 | 267=>213 | 266=>218 | 314=>219 | n=>n,fun | 9=>9 | 4=>4 | 3=>3 | 5=>5 | 46=>91 | 146=>265 | 51=>92 | n=>n,fun | 1=>1 | n=>n⟩
theorem Tryz.lays144:Go.Proofs.Lays.n144 Tryz.prog Tryz.lays144_ren:={
 mixed:=by kernel_rfl
 f143:=Tryz.func201.trans (congrArg some (by kernel_rfl))
 f144:=Tryz.func180.trans (congrArg some (by kernel_rfl))
 f217:=Tryz.func210.trans (congrArg some (by kernel_rfl))
 f219:=Tryz.func206.trans (congrArg some (by kernel_rfl))
 f224:=Tryz.func212.trans (congrArg some (by kernel_rfl))
 f225:=Tryz.func211.trans (congrArg some (by kernel_rfl))
 f266:=Tryz.func218.trans (congrArg some (by kernel_rfl))
 f267:=Tryz.func213.trans (congrArg some (by kernel_rfl))
 f314:=Tryz.func219.trans (congrArg some (by kernel_rfl))
 t3:=Tryz.underlying3
 a3:=Tryz.isAgg3
 z3:=Tryz.sizeOf3
 v3:=Tryz.zeroValue3
 t4:=Tryz.underlying4
 a4:=Tryz.isAgg4
 z4:=Tryz.sizeOf4
 v4:=Tryz.zeroValue4
 t5:=Tryz.underlying5
 a5:=Tryz.isAgg5
 z5:=Tryz.sizeOf5
 v5:=Tryz.zeroValue5
 t9:=Tryz.underlying9
 a9:=Tryz.isAgg9
 z9:=Tryz.sizeOf9
 v9:=Tryz.zeroValue9
 t46:=Tryz.underlying91
 a46:=Tryz.isAgg91
 z46:=Tryz.sizeOf91
 v46:=Tryz.zeroValue91
 t51:=Tryz.underlying92
 a51:=Tryz.isAgg92
 z51:=Tryz.sizeOf92
 v51:=Tryz.zeroValue92
 t146:=Tryz.underlying265
 a146:=Tryz.isAgg265
 z146:=Tryz.sizeOf265
 v146:=Tryz.zeroValue265
 g1:=by kernel_rfl }
open Go.RowKit Go.Lib in
theorem Tryz.strings_Contains_one (s:ByteArray) (c:UInt8) (w:World) :
   Calls Tryz.prog 180 #[.string s,.string ⟨#[c]⟩] w fun e w'=>e=.returned (.bool (decide (0≤Lib.indexByte s.data.toList c)))∧w'=w:=Any.strings_Contains_one Tryz.lays144 s c w
def Tryz.lays99_ren:Go.Shelf.Ren:=⟨fun | 99=>51 | 206=>100 | n=>n,fun | 9=>9 | 4=>4 | 3=>3 | n=>n,fun | n=>n⟩
theorem Tryz.lays99:Go.Proofs.Lays.n99 Tryz.prog Tryz.lays99_ren:={
 mixed:=by kernel_rfl
 f99:=Tryz.func51.trans (congrArg some (by kernel_rfl))
 f206:=Tryz.func100.trans (congrArg some (by kernel_rfl))
 t3:=Tryz.underlying3
 a3:=Tryz.isAgg3
 z3:=Tryz.sizeOf3
 v3:=Tryz.zeroValue3
 t4:=Tryz.underlying4
 a4:=Tryz.isAgg4
 z4:=Tryz.sizeOf4
 v4:=Tryz.zeroValue4
 t9:=Tryz.underlying9
 a9:=Tryz.isAgg9
 z9:=Tryz.sizeOf9
 v9:=Tryz.zeroValue9 }
open Go.RowKit Go.Lib in
theorem Tryz.strings_HasPrefix (s p:ByteArray) (w:World) :
   Calls Tryz.prog 51 #[.string s,.string p] w fun e w'=>e=.returned (.bool (Lib.hasPrefix s.data.toList p.data.toList))∧w'=w:=Any.strings_HasPrefix Tryz.lays99 s p w
end Go.Proofs
