import Derived.WalkKit
import Derived.Test.YtjkbmfpomgcblaaGreatDoorProg
import Derived.KernelRfl
import Derived.Deep.Slices
import Derived.Deep.Fields
import Derived.ChangeSame
import Derived.SizedLaws
import Derived.Below
import Derived.ProofKit
import Derived.OpenShut
import Derived.Handy
import Derived.Laws.IdiomStrings
import Derived.Lib.Hide
import Derived.LaidEql
import Derived.Stop.Asserts
import Derived.RowKitTokens
namespace Go.Proofs.YtjkbmfpomgcblaaGreatDoor
def putL (n:Nat):List UInt8:=if n < 128 then [UInt8.ofNat n] else UInt8.ofNat (n % 128 + 128) :: putL (n / 128)
termination_by n
decreasing_by omega
theorem putL_small {n:Nat} (h:n < 128):putL n=[UInt8.ofNat n]:=by rw [putL,if_pos h]
theorem putL_big {n:Nat} (h:¬ n < 128):putL n=UInt8.ofNat (n % 128 + 128) :: putL (n / 128):=by rw [putL,if_neg h]
theorem putL_pos (n:Nat):0 < (putL n).length:=by
 by_cases h:n < 128
 · rw [putL_small h];simp
 · rw [putL_big h];simp
theorem toNat_ofNat_lt {n:Nat} (h:n < 256):(UInt8.ofNat n).toNat=n:=by simp;omega
theorem putL_len (j:Nat):∀ n,n < 128 ^ j→0 < j→(putL n).length≤j:=by
 induction j with
 | zero=>intro n _ h;omega
 | succ j ih =>
   intro n hn _
   by_cases h:n < 128
   · rw [putL_small h];simp
   · rw [putL_big h,List.length_cons]
     have hj:0 < j:=by
       rcases Nat.eq_zero_or_pos j with rfl | h'
       · simp at hn;omega
       · exact h'
     have h2:n / 128 < 128 ^ j:=by
       rw [Nat.pow_succ] at hn
       exact Nat.div_lt_of_lt_mul (by rw [Nat.mul_comm];exact hn)
     have:=ih (n / 128) h2 hj
     omega
theorem putL_le10 {n:Nat} (h:n < 18446744073709551616):(putL n).length≤10 :=
 putL_len 10 n (Nat.lt_of_lt_of_le h (by decide)) (by decide)
theorem pow9:128 ^ 9=9223372036854775808:=by decide
def sevens (n:Nat):Nat:=if n < 128 then 1 else sevens (n / 128) + 1
termination_by n
decreasing_by omega
theorem sevens_small {n:Nat} (h:n < 128):sevens n=1:=by rw [sevens,if_pos h]
theorem sevens_big {n:Nat} (h:¬ n < 128):sevens n=sevens (n / 128) + 1:=by rw [sevens,if_neg h]
theorem putL_sevens (n:Nat):(putL n).length=sevens n:=by
 induction n using Nat.strongRecOn with
 | ind n ih =>
   by_cases h:n < 128
   · rw [putL_small h,sevens_small h];rfl
   · rw [putL_big h,sevens_big h,List.length_cons,ih (n / 128) (by omega)]
end Go.Proofs.YtjkbmfpomgcblaaGreatDoor
namespace Go.Proofs.YtjkbmfpomgcblaaGreatDoor
open Go.ChangeShapes Go.WideShapes Go.ChangeAt Go.RowKit
structure Wr where
 time:Int
 rep:Int
 kind:Int
 key:ByteArray
 value:ByteArray
 n:Int
def wrC (x:Wr):List Value:=[.int .i64 x.time,.int .i64 x.rep,.int .i64 x.kind,.string x.key,.string x.value,.int .i64 x.n]
def WrOk (x:Wr):Prop:=-9223372036854775808≤x.n∧x.n≤9223372036854775807∧x.key.size≤140737488351232∧x.value.size≤140737488351232
theorem pair_fields {H:Type} {enc:TypeId×Value→H} {P:Program} {W:World} {spare:Nat→Bool} {held:Bool} {n:Nat} {t:TypeId} {cs:List Value} {x:DataW H×List MemPlace} {p q:Field}
   (ht:P.underlying t=some (.struct #[p,q])) (h1:Go.Deep.oneCellFields P #[p,q]=true) (h3:P.cellsOf t=2)
   (h:DataW.trod enc P W 0 spare held n t cs=some x) :
   ∃ (a b:Value) (u v:DataW H×List MemPlace) (m:Nat),cs=[a,b]∧x.1=.agg [u.1,v.1] ∧
     DataW.trod enc P W 0 spare held m p.type [a]=some u∧DataW.trod enc P W 0 spare held m q.type [b]=some v:=by
 obtain ⟨xs,m,_,hx,hl,hxl,hf⟩:=DataW.trod_struct ht h
 rw [h3] at hl
 have hxl':xs.length=2:=hxl
 match cs,hl with
 | [a,b],_ =>
   match xs,hxl' with
   | [u,v],_ =>
     have one:=Go.Deep.hone_of h1
     have g0:=hf 0 p rfl
     have g1:=hf 1 q rfl
     rw [(one 0 p rfl).1,(one 0 p rfl).2] at g0
     rw [(one 1 q rfl).1,(one 1 q rfl).2] at g1
     exact ⟨a,b,u,v,m,rfl,by rw [hx];rfl,g0,g1⟩
def wrD {H:Type} (x:Wr):DataW H:=.agg [.agg [.lit (.int .i64 x.time),.lit (.int .i64 x.rep)],.lit (.int .i64 x.kind),.lit (.string x.key.data.toList),.lit (.string x.value.data.toList),.lit (.int .i64 x.n)]
set_option maxRecDepth 100000 in
theorem wr_elem {H:Type} {enc:TypeId×Value→H} {W:World} {spare:Nat→Bool} {held:Bool} {n:Nat} {cs:List Value} {x:DataW H×List MemPlace}
   (h:DataW.trod enc Tryz.prog W 0 spare held n 59 cs=some x):∃ t:Wr,cs=wrC t∧x.1=wrD t∧-9223372036854775808≤t.n∧t.n≤9223372036854775807:=by
 obtain ⟨xs,m,_,hx,hl,hxl,hf⟩:=DataW.trod_struct Tryz.underlying59 h
 have c6:Tryz.prog.cellsOf 59=6:=by kernel_rfl
 have c2:Tryz.prog.cellsOf 57=2:=by kernel_rfl
 have cI:Tryz.prog.cellsOf 3=1:=by kernel_rfl
 have cS:Tryz.prog.cellsOf 9=1:=by kernel_rfl
 rw [c6] at hl
 have hxl':xs.length=5:=hxl
 match cs,hl with
 | [a,b,c,d,e,f],_ =>
   match xs,hxl' with
   | [u0,u1,u2,u3,u4],_ =>
     have g0:=hf 0 _ rfl
     have g1:=hf 1 _ rfl
     have g2:=hf 2 _ rfl
     have g3:=hf 3 _ rfl
     have g4:=hf 4 _ rfl
     simp [c2,cI,cS] at g0 g1 g2 g3 g4
     obtain ⟨a',b',y0,y1,m',hab,hy,t0,t1⟩:=pair_fields Tryz.underlying57 (by kernel_rfl) (by kernel_rfl) g0
     simp at hab
     obtain ⟨rfl,rfl⟩:=hab
     obtain ⟨T,e0,f0,_⟩:=DataW.trod_int Tryz.underlying3 t0
     obtain ⟨R,e1,f1,_⟩:=DataW.trod_int Tryz.underlying3 t1
     obtain ⟨K,e2,f2,_⟩:=DataW.trod_int Tryz.underlying3 g1
     obtain ⟨key,e3,f3,_⟩:=DataW.trod_string Tryz.underlying9 g2
     obtain ⟨val,e4,f4,_⟩:=DataW.trod_string Tryz.underlying9 g3
     obtain ⟨N,e5,f5,w5⟩:=DataW.trod_int Tryz.underlying3 g4
     obtain rfl:=List.head_eq_of_cons_eq e0
     obtain rfl:=List.head_eq_of_cons_eq e1
     obtain rfl:=List.head_eq_of_cons_eq e2
     obtain rfl:=List.head_eq_of_cons_eq e3
     obtain rfl:=List.head_eq_of_cons_eq e4
     obtain rfl:=List.head_eq_of_cons_eq e5
     have b5:=bounds_i64 w5
     refine ⟨⟨T,R,K,key,val,N⟩,rfl,?_,b5.1,b5.2⟩
     rw [hx]
     simp only [List.map_cons,List.map_nil,hy,f0,f1,f2,f3,f4,f5]
     rfl
end Go.Proofs.YtjkbmfpomgcblaaGreatDoor
namespace Go.Proofs.YtjkbmfpomgcblaaGreatDoor
structure Ent where
 rep:Int
 time:Int
deriving DecidableEq
def wrE (e:Ent) (last:Int):Nat:=if e.rep < 0∨200 < e.rep∨e.time < 1∨1099511627776 < e.time then 2 else if e.rep≤last then 10 else 0
def vr:List Ent→Nat→Int→Nat×Int
 | [],_,_=>(0,-1)
 | e :: r,i,last=>if wrE e last≠0 then (wrE e last,i) else vr r (i + 1) e.rep
def vrightF (l:List Ent):Nat×Int:=if 16 < l.length then (4,-1) else vr l 0 (-1)
theorem wrE_range {e:Ent} {last:Int} (h:e.rep < 0∨200 < e.rep∨e.time < 1∨1099511627776 < e.time):wrE e last=2:=by unfold wrE;rw [if_pos h]
theorem wrE_order {e:Ent} {last:Int} (h:¬ (e.rep < 0∨200 < e.rep∨e.time < 1∨1099511627776 < e.time)) (h2:e.rep≤last):wrE e last=10:=by unfold wrE;rw [if_neg h,if_pos h2]
theorem wrE_fine {e:Ent} {last:Int} (h:¬ (e.rep < 0∨200 < e.rep∨e.time < 1∨1099511627776 < e.time)) (h2:¬ e.rep≤last):wrE e last=0:=by unfold wrE;rw [if_neg h,if_neg h2]
theorem wrE_ok {e:Ent} {last:Int}:wrE e last=0↔0≤e.rep∧e.rep≤200∧1≤e.time∧e.time≤1099511627776∧last < e.rep:=by
 unfold wrE;split
 · constructor
   · intro h;omega
   · intro h;omega
 · split
   · constructor
     · intro h;omega
     · intro h;omega
   · constructor
     · intro _;omega
     · intro _;rfl
theorem vr_bad {e:Ent} {r:List Ent} {i:Nat} {last:Int} (h:wrE e last≠0):vr (e :: r) i last=(wrE e last,(i:Int)):=by rw [vr,if_pos h]
theorem vr_good {e:Ent} {r:List Ent} {i:Nat} {last:Int} (h:wrE e last=0):vr (e :: r) i last=vr r (i + 1) e.rep:=by rw [vr,if_neg (by simpa using h)]
def okV:Int→List Ent→Prop
 | _,[]=>True
 | last,e :: r=>wrE e last=0∧okV e.rep r
def rightV (l:List Ent):Prop:=l.length≤16∧okV (-1) l
theorem vr_ok (l:List Ent):∀ i last,(vr l i last).1=0↔okV last l:=by
 induction l with
 | nil=>intro i last;simp [vr,okV]
 | cons e r ih =>
   intro i last
   by_cases h:wrE e last=0
   · rw [vr_good h,ih];exact ⟨fun h2=>⟨h,h2⟩,fun h2=>h2.2⟩
   · rw [vr_bad h];exact ⟨fun h2=>absurd h2 h,fun h2=>absurd h2.1 h⟩
theorem vright_ok (l:List Ent):(vrightF l).1=0↔rightV l:=by
 unfold vrightF rightV
 split
 · constructor
   · intro h;cases h
   · intro h;omega
 · rw [vr_ok];exact ⟨fun h=>⟨by omega,h⟩,fun h=>h.2⟩
theorem vr_good_place (l:List Ent):∀ i last,(vr l i last).1=0→vr l i last=(0,-1):=by
 induction l with
 | nil=>intro i last _;rfl
 | cons e r ih =>
   intro i last h
   by_cases hw:wrE e last=0
   · rw [vr_good hw] at h ⊢;exact ih _ _ h
   · rw [vr_bad hw] at h;exact absurd h hw
theorem vright_good {l:List Ent} (h:(vrightF l).1=0):vrightF l=(0,-1):=by
 unfold vrightF at h ⊢
 split
 · rename_i h2;rw [if_pos h2] at h;cases h
 · rename_i h2;rw [if_neg h2] at h;exact vr_good_place _ _ _ h
theorem vright_of {l:List Ent} (h:rightV l):vrightF l=(0,-1):=vright_good ((vright_ok l).2 h)
theorem okV_mem {l:List Ent}:∀ {last:Int},okV last l→∀ e∈l,0≤e.rep∧e.rep≤200∧1≤e.time∧e.time≤1099511627776∧last < e.rep:=by
 induction l with
 | nil=>intro last _ e h;cases h
 | cons d r ih =>
   intro last h e he
   obtain ⟨h1,h2⟩:=h
   rw [wrE_ok] at h1
   rcases List.mem_cons.1 he with rfl | he
   · exact h1
   · have:=ih h2 e he;omega
def ofF:List Ent→Int→Int
 | [],_=>0
 | e :: r,x=>if e.rep=x then e.time else ofF r x
theorem ofF_at {e:Ent} {r:List Ent} {x:Int} (h:e.rep=x):ofF (e :: r) x=e.time:=by rw [ofF,if_pos h]
theorem ofF_on {e:Ent} {r:List Ent} {x:Int} (h:e.rep≠x):ofF (e :: r) x=ofF r x:=by rw [ofF,if_neg h]
theorem ofF_has {l:List Ent} {x:Int} (h:ofF l x≠0):∃ e∈l,e.rep=x∧e.time=ofF l x:=by
 induction l with
 | nil=>exact absurd rfl h
 | cons d r ih =>
   by_cases hd:d.rep=x
   · exact ⟨d,List.mem_cons_self,hd,by rw [ofF_at hd]⟩
   · rw [ofF_on hd] at h ⊢
     obtain ⟨e,he,h1,h2⟩:=ih h
     exact ⟨e,List.mem_cons_of_mem _ he,h1,h2⟩
def covA (a b:List Ent):Bool:=b.all fun e=>decide (e.time≤ofF a e.rep)
def covB (a b:List Ent):Bool:=decide ((vrightF a).1=0) && decide ((vrightF b).1=0) && covA a b
end Go.Proofs.YtjkbmfpomgcblaaGreatDoor
namespace Go.Proofs.YtjkbmfpomgcblaaGreatDoor
open Go.RowKit
theorem within_yes (n lo hi:Int) (w:World) (h1:lo≤n) (h2:n≤hi) :
   Calls Tryz.prog 78 #[.int .i64 n,.int .i64 lo,.int .i64 hi] w fun e w'=>e=.returned (.bool true)∧w=w':=by
 go_enter Tryz.func78,Tryz.ntmps78
 go_wp2
 go_ret
 exact ⟨rfl,rfl⟩
theorem within_low (n lo hi:Int) (w:World) (h1:n < lo) :
   Calls Tryz.prog 78 #[.int .i64 n,.int .i64 lo,.int .i64 hi] w fun e w'=>e=.returned (.bool false)∧w=w':=by
 go_enter Tryz.func78,Tryz.ntmps78
 go_wp2
 go_ret
 exact ⟨rfl,rfl⟩
theorem within_high (n lo hi:Int) (w:World) (h1:lo≤n) (h2:hi < n) :
   Calls Tryz.prog 78 #[.int .i64 n,.int .i64 lo,.int .i64 hi] w fun e w'=>e=.returned (.bool false)∧w=w':=by
 have h3:decide (n≤hi)=false:=by simp;omega
 go_enter Tryz.func78,Tryz.ntmps78
 go_wp2
 go_ret
 exact ⟨rfl,rfl⟩
end Go.Proofs.YtjkbmfpomgcblaaGreatDoor
namespace Go.Proofs.YtjkbmfpomgcblaaGreatDoor
open Go.RowKit
def byteV (c:UInt8):Value:=.int .u8 (c.toNat:Int)
theorem info_u8:(Tryz.prog.info? 5).map (fun i=>(i.zero,i.size,i.bytes))=some (some (.int .u8 0),1,1):=by kernel_rfl
def ownsB (w:World) (base:Nat) (v:Value) (l:List UInt8):Prop:=w.ownsRow base 5 1 v l.length (l.map byteV)
theorem ownsB.alloc {w:World} {base:Nat} {v:Value} {l:List UInt8} (h:ownsB w base v l) (o:Obj):ownsB (w.alloc o) base v l:=World.ownsRow.alloc h o
theorem wpList_append_byte {w:World} {ops:Array Oper} {rest:List Oper} {o:Oper} {a:Act} {Q:Exit→Act→World→Prop} (hgd:o.guard=none) (s x:Operand)
   (ho:o.op=.call { callee:=.builtin .append,args:=#[s,x],argTypes:=#[60,60] })
   (base:Nat) (v:Value) (l:List UInt8) (hs:a.eval s=v) (hown:ownsB w base v l)
   (ad:Addr) (c:Nat) (hx:a.eval x=.slice (some ad) 1 c) (b:Int) (d:UInt8) (hcell:w.cell? (ad.add 0)=some (.int .u8 b)) (hb:b=(d.toNat:Int))
   (hlen:l.length + 1≤140737488355328) (hbase:base≤w.heap.size)
   (h:∀ v' w',ownsB w' base v' (l ++ [d])→w.grownBy w' v.ownBlock→v'≠.slice none 0 0→wpList Tryz.prog ops Q rest (a.put o.dst v') w'):wpList Tryz.prog ops Q (o :: rest) a w:=by
 obtain ⟨i0,hi,hz0,hz1,hz2⟩:=info_parts info_u8
 refine wpList_append_own w hgd s x 60 ho base 5 i0 (.int .u8 0) 1 1 Tryz.underlying60 hi hz0 hz1 hz2 rfl (by decide) v l.length (l.map byteV) hs hown ad 1 c [byteV d] hx rfl ?_ ?_ (by unfold maxLen;omega) (by omega) hbase ?_
 · intro j u hj
   match j,hj with
   | 0,hj=>simp at hj;subst hj;rw [hcell,hb];rfl
 · intro u hu;simp at hu;subst hu;rfl
 · intro v' w' h1 h2 h3
   refine h v' w' ?_ h2 ?_
   · unfold ownsB
     rw [List.length_append,List.map_append]
     exact h1
   · intro e;have:=(h3.1 e).2;omega
theorem run_string_ownsB {w:World} {base:Nat} {v:Value} {l:List UInt8} (h:ownsB w base v l) :
   (convert 60 9 v).run Tryz.prog w=.ok (.string ⟨l.toArray⟩) w:=by
 have hall:=h
 obtain ⟨h0,h1⟩:=h
 rcases h1 with ⟨rfl,hn⟩ | ⟨g,cap,cur,rfl,hb,hh,hc,hm,hs,ht⟩
 · have:l=[]:=List.length_eq_zero_iff.1 hn
   subst this
   rw [run_convert_bytes_string w _ _ _ _ _ _ Tryz.underlying60 Tryz.underlying5 Tryz.underlying9]
   rfl
 · refine run_convert_bytes_back w _ _ _ _ _ _ Tryz.underlying60 Tryz.underlying5 Tryz.underlying9 fun j hj=>?_
   exact World.ownsRow.cells hall rfl j (byteV l[j]) (by simp [List.getElem?_eq_getElem hj])
end Go.Proofs.YtjkbmfpomgcblaaGreatDoor
namespace Go.Proofs.YtjkbmfpomgcblaaGreatDoor
open Go.RowKit
theorem i64_not_any (x:Int) (h0 : -9223372036854775808≤x) (h1:x≤9223372036854775807):bits .xor .i64 (-1) x=-x - 1:=by
 show IntKind.i64.wrap ((BitVec.ofInt 64 (-1) ^^^ BitVec.ofInt 64 x).toNat:Int)=_
 have e1:BitVec.ofInt 64 (-1)=BitVec.allOnes 64:=by decide
 have e2:(BitVec.ofInt 64 x).toNat=(x % 18446744073709551616).toNat:=by rw [BitVec.toNat_ofInt];rfl
 rw [e1,BitVec.allOnes_xor,BitVec.toNat_not,e2,IntKind.wrap_i64]
 omega
theorem ret_int {k:IntKind} {a b:Int} (h:a=b):Ending.returned (.int k a)=.returned (.int k b):=by rw [h]
def zigN (n:Int):Int:=if n < 0 then -2 * n - 1 else 2 * n
theorem zig_any (n:Int) (w:World) (h0 : -9223372036854775808≤n) (h1:n≤9223372036854775807) :
   Calls Tryz.prog 202 #[.int .i64 n] w fun e w'=>e=.returned (.int .u64 (zigN n))∧w=w':=by
 by_cases hneg:n < 0
 · have hn:Hid (bits .xor .i64 (-1) n=-n - 1):=Lib.hid (i64_not_any n h0 h1)
   go_enter Tryz.func202,Tryz.ntmps202
   go_wp2
   go_ret
   refine ⟨ret_int ?_,rfl⟩
   rw [hn.out,zigN,if_pos hneg]
   simp only [IntKind.wrap_u64];omega
 · have h':0≤n:=by omega
   go_enter Tryz.func202,Tryz.ntmps202
   go_wp2
   go_ret
   exact ⟨ret_int (by rw [zigN,if_neg (by omega)]),rfl⟩
end Go.Proofs.YtjkbmfpomgcblaaGreatDoor
namespace Go.Proofs.YtjkbmfpomgcblaaGreatDoor
open Go.RowKit Go.Extern.Stop Go.Stop Go.Extern
namespace As
theorem valueOfP (t:Addr) (w:World):(ReflectliteValue.unpack (.iface 109 (.pointer (some t)))).run Tryz.prog w
   = .ok (.agg #[.pointer (some ⟨5,109,none⟩),.pointer (some ⟨w.heap.size,0,none⟩),.int .u64 150]) (w.alloc (.cells #[.pointer (some t)] 109)):=by kernel_rfl
theorem typeP (a : Addr) (w : World) : (ReflectliteValue.methodAny (ReflectliteValue.valueError "reflectlite.Value.Type" 0) (fun t _ _ _ => ReflectliteType.toType t) #[.agg #[.pointer (some ⟨5, 109, none⟩), .pointer (some a), .int .u64 150]]).run Tryz.prog w
   = .ok (.iface 229 (.agg #[.pointer (some ⟨5,109,none⟩)])) w:=by kernel_rfl
theorem methodKind (h : Value) (w : World) : (Go.method 409 229 (.agg #[h]) "Kind").run Tryz.prog w = .ok (263, h) w := by kernel_rfl
theorem kindP (w:World):((ReflectliteType.abiMethod fun t=>(fun a:Nat=>Value.int IntKind.u8 (a:Int)) <$> Rtype.kind t) #[.pointer (some ⟨5,109,none⟩)]).run Tryz.prog w=.ok (.int .u8 22) w:=by kernel_rfl
theorem kindE (w:World):((ReflectliteType.abiMethod fun t=>(fun a:Nat=>Value.int IntKind.u8 (a:Int)) <$> Rtype.kind t) #[.pointer (some ⟨5,44,none⟩)]).run Tryz.prog w=.ok (.int .u8 2) w:=by kernel_rfl
theorem isNilForm (a : Addr) (W : World) : (ReflectliteValue.method (ReflectliteValue.valueError "reflectlite.Value.IsNil" 0) ReflectliteValue.isNil #[.agg #[.pointer (some ⟨5, 109, none⟩), .pointer (some a), .int .u64 150]]).run Tryz.prog W = (ReflectliteValue.isNil 109 a 150 22).run Tryz.prog W := by kernel_rfl
theorem isNilP (a p:Addr) (W:World) (ha:W.cell? a=some (.pointer (some p))) :
   (ReflectliteValue.method (ReflectliteValue.valueError "reflectlite.Value.IsNil" 0) ReflectliteValue.isNil #[.agg #[.pointer (some ⟨5, 109, none⟩), .pointer (some a), .int .u64 150]]).run Tryz.prog W = .ok (.bool false) W := by
 rw [isNilForm]
 simp [ReflectliteValue.isNil,loadVar,isAgg,underlying,Tryz.underlying109,ha,Result.andThen]
theorem methodElem (h : Value) (w : World) : (Go.method 409 229 (.agg #[h]) "Elem").run Tryz.prog w = .ok (276, .agg #[h]) w := by kernel_rfl
theorem methodImplements (h : Value) (w : World) : (Go.method 409 229 (.agg #[h]) "Implements").run Tryz.prog w = .ok (277, .agg #[h]) w := by kernel_rfl
theorem methodAssignableTo (h : Value) (w : World) : (Go.method 409 229 (.agg #[h]) "AssignableTo").run Tryz.prog w = .ok (274, .agg #[h]) w := by kernel_rfl
theorem elemP (w:World):(ReflectliteType.method ReflectliteType.elem #[.agg #[.pointer (some ⟨5,109,none⟩)]]).run Tryz.prog w=.ok (.iface 229 (.agg #[.pointer (some ⟨5,44,none⟩)])) w:=by kernel_rfl
theorem implementsE (w : World) : (ReflectliteType.relation "Implements" ReflectliteType.implements_ #[.agg #[.pointer (some ⟨5, 44, none⟩)], .iface 229 (.agg #[.pointer (some ⟨5, 29, none⟩)])]).run Tryz.prog w = .ok (.bool true) w := by kernel_rfl
theorem typeOfE (v:Value) (w:World):(ReflectliteType.typeOf #[.iface 44 v]).run Tryz.prog w=.ok (.iface 229 (.agg #[.pointer (some ⟨5,44,none⟩)])) w:=by kernel_rfl
theorem typeOfA (v:Value) (w:World):(ReflectliteType.typeOf #[.iface 111 v]).run Tryz.prog w=.ok (.iface 229 (.agg #[.pointer (some ⟨5,111,none⟩)])) w:=by kernel_rfl
theorem assignableE (w : World) : (ReflectliteType.relation "AssignableTo" ReflectliteType.assignableTo #[.agg #[.pointer (some ⟨5, 44, none⟩)], .iface 229 (.agg #[.pointer (some ⟨5, 44, none⟩)])]).run Tryz.prog w = .ok (.bool true) w := by kernel_rfl
theorem assignableA (w : World) : (ReflectliteType.relation "AssignableTo" ReflectliteType.assignableTo #[.agg #[.pointer (some ⟨5, 111, none⟩)], .iface 229 (.agg #[.pointer (some ⟨5, 44, none⟩)])]).run Tryz.prog w = .ok (.bool false) w := by kernel_rfl
theorem valueOfE (e:Int) (w:World):(ReflectliteValue.unpack (.iface 44 (.int .i64 e))).run Tryz.prog w
   = .ok (.agg #[.pointer (some ⟨5,44,none⟩),.pointer (some ⟨w.heap.size,0,none⟩),.int .u64 130]) (w.alloc (.cells #[.int .i64 e] 44)):=by kernel_rfl
theorem elemOfP (w:World):(Rtype.elem? 109).run Tryz.prog w=.ok (some 44) w:=by kernel_rfl
theorem mkE (p:Addr) (w:World):(ReflectliteValue.mk 44 p ReflectliteValue.flagAddr).run Tryz.prog w=.ok (.agg #[.pointer (some ⟨5,44,none⟩),.pointer (some p),.int .u64 386]) w:=by kernel_rfl
theorem elemForm (a : Addr) (W : World) : (ReflectliteValue.method (ReflectliteValue.valueError "reflectlite.Value.Elem" 0) ReflectliteValue.elem #[.agg #[.pointer (some ⟨5, 109, none⟩), .pointer (some a), .int .u64 150]]).run Tryz.prog W = (ReflectliteValue.elem 109 a 150 22).run Tryz.prog W := by kernel_rfl
theorem elemVP (a p:Addr) (W:World) (ha:W.cell? a=some (.pointer (some p))) :
   (ReflectliteValue.method (ReflectliteValue.valueError "reflectlite.Value.Elem" 0) ReflectliteValue.elem #[.agg #[.pointer (some ⟨5, 109, none⟩), .pointer (some a), .int .u64 150]]).run Tryz.prog W
     = .ok (.agg #[.pointer (some ⟨5,44,none⟩),.pointer (some p),.int .u64 386]) W:=by
 rw [elemForm]
 simp [ReflectliteValue.elem,loadVar,isAgg,underlying,Tryz.underlying109,ha,Result.andThen,elemOfP,mkE]
theorem setForm (ta b:Addr) (W:World):(ReflectliteValue.set #[.agg #[.pointer (some ⟨5,44,none⟩),.pointer (some ta),.int .u64 386],.agg #[.pointer (some ⟨5,44,none⟩),.pointer (some b),.int .u64 130]]).run Tryz.prog W
   = (do let val ←loadVar 44 b;storeVar 44 ta val;pure (Value.tuple #[]):Sem Value).run Tryz.prog W:=by kernel_rfl
theorem setE (ta b:Addr) (e:Int) (old:Value) (W:World) (hb:W.cell? b=some (.int .i64 e)) (ht:W.cell? ta=some old) (hf:W.frozen? ta=false) :
   (ReflectliteValue.set #[.agg #[.pointer (some ⟨5,44,none⟩),.pointer (some ta),.int .u64 386],.agg #[.pointer (some ⟨5,44,none⟩),.pointer (some b),.int .u64 130]]).run Tryz.prog W
     = .ok (.tuple #[]) (W.setCell ta (.int .i64 e)):=by
 rw [setForm]
 simp [loadVar,isAgg,underlying,Tryz.underlying44,hb,Result.andThen,storeVar,Value.cells,storeCells,Addr.add]
 rw [run_store Tryz.prog W ta _ _ (by rfl)]
 simp [ht,hf]
theorem noAsA (v:Value) (xT:TypeId) (w:World):(Instr.typeAssert (.iface 111 v) xT 234 true).run Tryz.prog w=.ok (.tuple #[.nilIface,.bool false]) w:=run_typeAssert_lacksB Tryz.underlying234 (by kernel_rfl) (by kernel_rfl) v xT w
theorem unwrapA (v:Value) (xT:TypeId) (w:World):(Instr.typeAssert (.iface 111 v) xT 148 true).run Tryz.prog w=.ok (.tuple #[.iface 111 v,.bool true]) w:=run_typeAssert_hasB Tryz.underlying148 (by kernel_rfl) v xT w
theorem noUnwrapE (v:Value) (xT:TypeId) (w:World):(Instr.typeAssert (.iface 44 v) xT 148 true).run Tryz.prog w=.ok (.tuple #[.nilIface,.bool false]) w:=run_typeAssert_lacksB Tryz.underlying148 (by kernel_rfl) (by kernel_rfl) v xT w
theorem noAtE (v:Value) (xT:TypeId) (w:World):(Instr.typeAssert (.iface 44 v) xT 111 true).run Tryz.prog w=.ok (.tuple #[.pointer none,.bool false]) w:=by kernel_rfl
theorem isAtA (v:Value) (xT:TypeId) (w:World):(Instr.typeAssert (.iface 111 v) xT 111 true).run Tryz.prog w=.ok (.tuple #[v,.bool true]) w:=by kernel_rfl
end As
end Go.Proofs.YtjkbmfpomgcblaaGreatDoor
namespace Go.Proofs.YtjkbmfpomgcblaaGreatDoor
theorem bs_size (l:List UInt8):(⟨l.toArray⟩:ByteArray).size=l.length:=by simp [ByteArray.size]
theorem size_data (s:ByteArray):s.size=s.data.toList.length:=(Array.length_toList (xs:=s.data)).symm
theorem bs_ext {a b:ByteArray} (h:a.data.toList=b.data.toList):a=b:=by
 cases a;cases b;simp at h;subst h;rfl
theorem bs_of (s:ByteArray):(⟨s.data.toList.toArray⟩:ByteArray)=s:=by cases s;simp
theorem app_data (a b:ByteArray):(a ++ b).data.toList=a.data.toList ++ b.data.toList:=by simp
theorem app_size (a b:ByteArray):(a ++ b).size=a.size + b.size:=by simp
end Go.Proofs.YtjkbmfpomgcblaaGreatDoor
namespace Go.Proofs.YtjkbmfpomgcblaaGreatDoor
theorem beq_same (a:ByteArray):(a.toList == a.toList)=true:=by simp
theorem beq_diff {a b:ByteArray} (h:a≠b):(a.toList == b.toList)=false:=by
 refine beq_eq_false_iff_ne.2 fun e=>h ?_
 rw [ByteArray.toList_eq,ByteArray.toList_eq] at e
 cases a;cases b;simp_all
instance memB (s : ByteArray) (t : List ByteArray) : Decidable (s ∈ t) := decidable_of_iff (t.any (fun x => decide (x = s)) = true) (by simp)
def idxB (t:List ByteArray) (s:ByteArray):Nat:=t.findIdx (fun x=>decide (x=s))
def addK (t:List ByteArray) (s:ByteArray):List ByteArray:=if s∈t then t else t ++ [s]
def tabK:List ByteArray→List ByteArray→List ByteArray
 | t,[]=>t
 | t,s :: r=>tabK (addK t s) r
def atK:List ByteArray→List ByteArray→List Nat
 | _,[]=>[]
 | t,s :: r=>idxB t s :: atK (addK t s) r
theorem idxB_lt {t:List ByteArray} {s:ByteArray} (h:s∈t):idxB t s < t.length:=by
 unfold idxB;exact List.findIdx_lt_length_of_exists ⟨s,h,by simp⟩
theorem idxB_get {t:List ByteArray} {s:ByteArray} (h:s∈t):t[idxB t s]? = some s:=by
 have h1:=idxB_lt h
 have h2:=List.findIdx_getElem (xs:=t) (p:=fun x=>decide (x=s)) (w:=h1)
 rw [List.getElem?_eq_getElem h1]
 simp only [decide_eq_true_eq] at h2
 exact congrArg some h2
theorem idxB_new {t:List ByteArray} {s:ByteArray} (h:s ∉ t):idxB t s=t.length:=by
 unfold idxB
 rw [List.findIdx_eq_length]
 intro x hx
 simp only [decide_eq_false_iff_not]
 rintro rfl;exact h hx
theorem idxB_at {t:List ByteArray} (hn:t.Nodup) {j:Nat} {s:ByteArray} (h:t[j]? = some s):idxB t s=j:=by
 have hm:s∈t:=List.mem_of_getElem? h
 have h1:=idxB_get hm
 obtain ⟨hj,ej⟩:=List.getElem?_eq_some_iff.1 h
 obtain ⟨hi,ei⟩:=List.getElem?_eq_some_iff.1 h1
 exact (List.getElem_inj hn).1 (ei.trans ej.symm)
theorem addK_in {t:List ByteArray} {s:ByteArray} (h:s∈t):addK t s=t:=if_pos h
theorem addK_new {t:List ByteArray} {s:ByteArray} (h:s ∉ t):addK t s=t ++ [s]:=if_neg h
theorem addK_nodup {t:List ByteArray} {s:ByteArray} (h:t.Nodup):(addK t s).Nodup:=by
 unfold addK;split
 · exact h
 · rename_i hs
   rw [List.nodup_append]
   exact ⟨h,by simp,fun a ha b hb=>by simp at hb;subst hb;rintro rfl;exact hs ha⟩
theorem addK_pre (t:List ByteArray) (s:ByteArray):t <+: addK t s:=by
 unfold addK;split
 · exact List.prefix_rfl
 · exact List.prefix_append _ _
theorem tabK_pre (r:List ByteArray):∀ t,t <+: tabK t r:=by
 induction r with
 | nil=>intro t;exact List.prefix_rfl
 | cons s r ih=>intro t;exact (addK_pre t s).trans (ih _)
theorem tabK_len (r:List ByteArray):∀ t,(tabK t r).length≤t.length + r.length:=by
 induction r with
 | nil=>intro t;simp [tabK]
 | cons s r ih =>
   intro t
   have:=ih (addK t s)
   have h2:(addK t s).length≤t.length + 1:=by unfold addK;split <;> simp
   simp [tabK];omega
theorem tabK_sub (r:List ByteArray):∀ t x,x∈tabK t r→x∈t∨x∈r:=by
 induction r with
 | nil=>intro t x h;exact .inl h
 | cons s r ih =>
   intro t x h
   rcases ih _ _ h with h1 | h1
   · unfold addK at h1
     split at h1
     · exact .inl h1
     · rcases List.mem_append.1 h1 with h2 | h2
       · exact .inl h2
       · simp at h2;subst h2;exact .inr (by simp)
   · exact .inr (List.mem_cons_of_mem _ h1)
theorem tabK_in {l t:List ByteArray} {k:Nat} {s:ByteArray} (h:l[k]? = some s) (hs:s∈t):tabK t (l.drop k)=tabK t (l.drop (k + 1)):=by
 obtain ⟨hk,e⟩:=List.getElem?_eq_some_iff.1 h
 rw [List.drop_eq_getElem_cons hk,e,tabK,addK_in hs]
theorem tabK_new {l t:List ByteArray} {k:Nat} {s:ByteArray} (h:l[k]? = some s) (hs:s ∉ t):tabK t (l.drop k)=tabK (t ++ [s]) (l.drop (k + 1)):=by
 obtain ⟨hk,e⟩:=List.getElem?_eq_some_iff.1 h
 rw [List.drop_eq_getElem_cons hk,e,tabK,addK_new hs]
theorem atK_in {l t:List ByteArray} {k:Nat} {s:ByteArray} (h:l[k]? = some s) (hs:s∈t):atK t (l.drop k)=idxB t s :: atK t (l.drop (k + 1)):=by
 obtain ⟨hk,e⟩:=List.getElem?_eq_some_iff.1 h
 rw [List.drop_eq_getElem_cons hk,e,atK,addK_in hs]
theorem atK_new {l t:List ByteArray} {k:Nat} {s:ByteArray} (h:l[k]? = some s) (hs:s ∉ t):atK t (l.drop k)=t.length :: atK (t ++ [s]) (l.drop (k + 1)):=by
 obtain ⟨hk,e⟩:=List.getElem?_eq_some_iff.1 h
 rw [List.drop_eq_getElem_cons hk,e,atK,addK_new hs,idxB_new hs]
end Go.Proofs.YtjkbmfpomgcblaaGreatDoor
