import Derived.Test.YtgfinhehgfbdgaaGreatDoorProg
import Derived.WalkKit
import Derived.Handy
import Derived.LaidEql
import Derived.Stop.Asserts
import Derived.RowKitTokens
import Derived.Shelf.Strings.Builder1
import Derived.Shelf.Strings.Builder2
import Derived.Shelf.Strings.OnBuilder
import Derived.Shelf.Strings.BuilderF
import Derived.Shelf.Strings.BuilderK
import Derived.Shelf.Strconv.Itoa0
import Derived.Shelf.Strconv.Itoa1
import Derived.Shelf.LaysM
import Derived.Shelf.Strconv.Itoa2
import Derived.Shelf.Strconv.Itoa3
import Derived.Shelf.Strconv.Clone
import Derived.Shelf.Strings.Search1
import Derived.Shelf.Strings.Search2
import Derived.Shelf.Strings.Search3
import Derived.Shelf.Strings.Shaped
import Derived.Shelf.Strings.Prefix
import Derived.Below
namespace Go.Proofs.YtgfinhehgfbdgaaGreatDoor
open Go.RowKit Go.Extern.Stop Go.Stop Go.Extern
namespace As
theorem valueOfP (t:Addr) (w:World):(ReflectliteValue.unpack (.iface 96 (.pointer (some t)))).run Tryz.prog w
   = .ok (.agg #[.pointer (some ⟨5,96,none⟩),.pointer (some ⟨w.heap.size,0,none⟩),.int .u64 150]) (w.alloc (.cells #[.pointer (some t)] 96)):=by kernel_rfl
theorem typeP (a : Addr) (w : World) : (ReflectliteValue.methodAny (ReflectliteValue.valueError "reflectlite.Value.Type" 0) (fun t _ _ _ => ReflectliteType.toType t) #[.agg #[.pointer (some ⟨5, 96, none⟩), .pointer (some a), .int .u64 150]]).run Tryz.prog w
   = .ok (.iface 226 (.agg #[.pointer (some ⟨5,96,none⟩)])) w:=by kernel_rfl
theorem methodKind (h : Value) (w : World) : (Go.method 400 226 (.agg #[h]) "Kind").run Tryz.prog w = .ok (240, h) w := by kernel_rfl
theorem kindP (w:World):((ReflectliteType.abiMethod fun t=>(fun a:Nat=>Value.int IntKind.u8 (a:Int)) <$> Rtype.kind t) #[.pointer (some ⟨5,96,none⟩)]).run Tryz.prog w=.ok (.int .u8 22) w:=by kernel_rfl
theorem kindE (w:World):((ReflectliteType.abiMethod fun t=>(fun a:Nat=>Value.int IntKind.u8 (a:Int)) <$> Rtype.kind t) #[.pointer (some ⟨5,27,none⟩)]).run Tryz.prog w=.ok (.int .u8 2) w:=by kernel_rfl
theorem isNilForm (a : Addr) (W : World) : (ReflectliteValue.method (ReflectliteValue.valueError "reflectlite.Value.IsNil" 0) ReflectliteValue.isNil #[.agg #[.pointer (some ⟨5, 96, none⟩), .pointer (some a), .int .u64 150]]).run Tryz.prog W = (ReflectliteValue.isNil 96 a 150 22).run Tryz.prog W := by kernel_rfl
theorem isNilP (a p:Addr) (W:World) (ha:W.cell? a=some (.pointer (some p))) :
   (ReflectliteValue.method (ReflectliteValue.valueError "reflectlite.Value.IsNil" 0) ReflectliteValue.isNil #[.agg #[.pointer (some ⟨5, 96, none⟩), .pointer (some a), .int .u64 150]]).run Tryz.prog W = .ok (.bool false) W := by
 rw [isNilForm]
 simp [ReflectliteValue.isNil,loadVar,isAgg,underlying,Tryz.underlying96,ha,Result.andThen]
theorem methodElem (h : Value) (w : World) : (Go.method 400 226 (.agg #[h]) "Elem").run Tryz.prog w = .ok (253, .agg #[h]) w := by kernel_rfl
theorem methodImplements (h : Value) (w : World) : (Go.method 400 226 (.agg #[h]) "Implements").run Tryz.prog w = .ok (254, .agg #[h]) w := by kernel_rfl
theorem methodAssignableTo (h : Value) (w : World) : (Go.method 400 226 (.agg #[h]) "AssignableTo").run Tryz.prog w = .ok (251, .agg #[h]) w := by kernel_rfl
theorem elemP (w:World):(ReflectliteType.method ReflectliteType.elem #[.agg #[.pointer (some ⟨5,96,none⟩)]]).run Tryz.prog w=.ok (.iface 226 (.agg #[.pointer (some ⟨5,27,none⟩)])) w:=by kernel_rfl
theorem implementsE (w : World) : (ReflectliteType.relation "Implements" ReflectliteType.implements_ #[.agg #[.pointer (some ⟨5, 27, none⟩)], .iface 226 (.agg #[.pointer (some ⟨5, 33, none⟩)])]).run Tryz.prog w = .ok (.bool true) w := by kernel_rfl
theorem typeOfE (v:Value) (w:World):(ReflectliteType.typeOf #[.iface 27 v]).run Tryz.prog w=.ok (.iface 226 (.agg #[.pointer (some ⟨5,27,none⟩)])) w:=by kernel_rfl
theorem typeOfA (v:Value) (w:World):(ReflectliteType.typeOf #[.iface 82 v]).run Tryz.prog w=.ok (.iface 226 (.agg #[.pointer (some ⟨5,82,none⟩)])) w:=by kernel_rfl
theorem assignableE (w : World) : (ReflectliteType.relation "AssignableTo" ReflectliteType.assignableTo #[.agg #[.pointer (some ⟨5, 27, none⟩)], .iface 226 (.agg #[.pointer (some ⟨5, 27, none⟩)])]).run Tryz.prog w = .ok (.bool true) w := by kernel_rfl
theorem assignableA (w : World) : (ReflectliteType.relation "AssignableTo" ReflectliteType.assignableTo #[.agg #[.pointer (some ⟨5, 82, none⟩)], .iface 226 (.agg #[.pointer (some ⟨5, 27, none⟩)])]).run Tryz.prog w = .ok (.bool false) w := by kernel_rfl
theorem valueOfE (e:Int) (w:World):(ReflectliteValue.unpack (.iface 27 (.int .i64 e))).run Tryz.prog w
   = .ok (.agg #[.pointer (some ⟨5,27,none⟩),.pointer (some ⟨w.heap.size,0,none⟩),.int .u64 130]) (w.alloc (.cells #[.int .i64 e] 27)):=by kernel_rfl
theorem elemOfP (w:World):(Rtype.elem? 96).run Tryz.prog w=.ok (some 27) w:=by kernel_rfl
theorem mkE (p:Addr) (w:World):(ReflectliteValue.mk 27 p ReflectliteValue.flagAddr).run Tryz.prog w=.ok (.agg #[.pointer (some ⟨5,27,none⟩),.pointer (some p),.int .u64 386]) w:=by kernel_rfl
theorem elemForm (a : Addr) (W : World) : (ReflectliteValue.method (ReflectliteValue.valueError "reflectlite.Value.Elem" 0) ReflectliteValue.elem #[.agg #[.pointer (some ⟨5, 96, none⟩), .pointer (some a), .int .u64 150]]).run Tryz.prog W = (ReflectliteValue.elem 96 a 150 22).run Tryz.prog W := by kernel_rfl
theorem elemVP (a p:Addr) (W:World) (ha:W.cell? a=some (.pointer (some p))) :
   (ReflectliteValue.method (ReflectliteValue.valueError "reflectlite.Value.Elem" 0) ReflectliteValue.elem #[.agg #[.pointer (some ⟨5, 96, none⟩), .pointer (some a), .int .u64 150]]).run Tryz.prog W
     = .ok (.agg #[.pointer (some ⟨5,27,none⟩),.pointer (some p),.int .u64 386]) W:=by
 rw [elemForm]
 simp [ReflectliteValue.elem,loadVar,isAgg,underlying,Tryz.underlying96,ha,Result.andThen,elemOfP,mkE]
theorem setForm (ta b:Addr) (W:World):(ReflectliteValue.set #[.agg #[.pointer (some ⟨5,27,none⟩),.pointer (some ta),.int .u64 386],.agg #[.pointer (some ⟨5,27,none⟩),.pointer (some b),.int .u64 130]]).run Tryz.prog W
   = (do let val ←loadVar 27 b;storeVar 27 ta val;pure (Value.tuple #[]):Sem Value).run Tryz.prog W:=by kernel_rfl
theorem setE (ta b:Addr) (e:Int) (old:Value) (W:World) (hb:W.cell? b=some (.int .i64 e)) (ht:W.cell? ta=some old) (hf:W.frozen? ta=false) :
   (ReflectliteValue.set #[.agg #[.pointer (some ⟨5,27,none⟩),.pointer (some ta),.int .u64 386],.agg #[.pointer (some ⟨5,27,none⟩),.pointer (some b),.int .u64 130]]).run Tryz.prog W
     = .ok (.tuple #[]) (W.setCell ta (.int .i64 e)):=by
 rw [setForm]
 simp [loadVar,isAgg,underlying,Tryz.underlying27,hb,Result.andThen,storeVar,Value.cells,storeCells,Addr.add]
 rw [run_store Tryz.prog W ta _ _ (by rfl)]
 simp [ht,hf]
theorem noAsA (v:Value) (xT:TypeId) (w:World):(Instr.typeAssert (.iface 82 v) xT 231 true).run Tryz.prog w=.ok (.tuple #[.nilIface,.bool false]) w:=run_typeAssert_lacksB Tryz.underlying231 (by kernel_rfl) (by kernel_rfl) v xT w
theorem unwrapA (v:Value) (xT:TypeId) (w:World):(Instr.typeAssert (.iface 82 v) xT 111 true).run Tryz.prog w=.ok (.tuple #[.iface 82 v,.bool true]) w:=run_typeAssert_hasB Tryz.underlying111 (by kernel_rfl) v xT w
theorem isAtA (v:Value) (xT:TypeId) (w:World):(Instr.typeAssert (.iface 82 v) xT 82 true).run Tryz.prog w=.ok (.tuple #[v,.bool true]) w:=by kernel_rfl
end As
end Go.Proofs.YtgfinhehgfbdgaaGreatDoor
namespace Go.Proofs.YtgfinhehgfbdgaaGreatDoor
theorem bs_data (l:List UInt8):(⟨l.toArray⟩:ByteArray).data.toList=l:=rfl
theorem bs_size (l:List UInt8):(⟨l.toArray⟩:ByteArray).size=l.length:=by simp [ByteArray.size]
theorem size_data (s:ByteArray):s.size=s.data.toList.length:=(Array.length_toList (xs:=s.data)).symm
theorem bs_ext {a b:ByteArray} (h:a.data.toList=b.data.toList):a=b:=by
 cases a;cases b;simp at h;subst h;rfl
theorem bs_of (s:ByteArray):(⟨s.data.toList.toArray⟩:ByteArray)=s:=by cases s;simp
theorem app_data (a b:ByteArray):(a ++ b).data.toList=a.data.toList ++ b.data.toList:=by simp
theorem app_size (a b:ByteArray):(a ++ b).size=a.size + b.size:=by simp
theorem ext_data (s:ByteArray) (i j:Nat):(s.extract i j).data.toList=(s.data.toList.take j).drop i:=by
 simp [List.drop_take]
end Go.Proofs.YtgfinhehgfbdgaaGreatDoor
namespace Go.Proofs.YtgfinhehgfbdgaaGreatDoor
instance memB (s:ByteArray) (t:List ByteArray):Decidable (s∈t):=decidable_of_iff (t.any (fun x=>decide (x=s))=true) (by simp)
def idxB (t:List ByteArray) (s:ByteArray):Nat:=t.findIdx (fun x=>decide (x=s))
def addK (t:List ByteArray) (s:ByteArray):List ByteArray:=if s∈t then t else t ++ [s]
def tabK:List ByteArray→List ByteArray→List ByteArray
 | t,[]=>t
 | t,s :: r=>tabK (addK t s) r
def atK:List ByteArray→List ByteArray→List Nat
 | _,[]=>[]
 | t,s :: r=>idxB t s :: atK (addK t s) r
theorem idxB_lt {t:List ByteArray} {s:ByteArray} (h:s∈t):idxB t s < t.length:=by
 unfold idxB;exact List.findIdx_lt_length_of_exists ⟨s,h,by simp⟩
theorem idxB_get {t:List ByteArray} {s:ByteArray} (h:s∈t):t[idxB t s]? = some s:=by
 have h1:=idxB_lt h
 have h2:=List.findIdx_getElem (xs:=t) (p:=fun x=>decide (x=s)) (w:=h1)
 rw [List.getElem?_eq_getElem h1]
 simp only [decide_eq_true_eq] at h2
 exact congrArg some h2
theorem idxB_new {t:List ByteArray} {s:ByteArray} (h:s ∉ t):idxB t s=t.length:=by
 unfold idxB
 rw [List.findIdx_eq_length]
 intro x hx
 simp only [decide_eq_false_iff_not]
 rintro rfl;exact h hx
theorem idxB_at {t:List ByteArray} (hn:t.Nodup) {j:Nat} {s:ByteArray} (h:t[j]? = some s):idxB t s=j:=by
 have hm:s∈t:=List.mem_of_getElem? h
 have h1:=idxB_get hm
 obtain ⟨hj,ej⟩:=List.getElem?_eq_some_iff.1 h
 obtain ⟨hi,ei⟩:=List.getElem?_eq_some_iff.1 h1
 exact (List.getElem_inj hn).1 (ei.trans ej.symm)
theorem addK_in {t:List ByteArray} {s:ByteArray} (h:s∈t):addK t s=t:=if_pos h
theorem addK_new {t:List ByteArray} {s:ByteArray} (h:s ∉ t):addK t s=t ++ [s]:=if_neg h
theorem addK_nodup {t:List ByteArray} {s:ByteArray} (h:t.Nodup):(addK t s).Nodup:=by
 unfold addK;split
 · exact h
 · rename_i hs
   rw [List.nodup_append]
   exact ⟨h,by simp,fun a ha b hb=>by simp at hb;subst hb;rintro rfl;exact hs ha⟩
theorem addK_pre (t:List ByteArray) (s:ByteArray):t <+: addK t s:=by
 unfold addK;split
 · exact List.prefix_rfl
 · exact List.prefix_append _ _
theorem tabK_pre (r:List ByteArray):∀ t,t <+: tabK t r:=by
 induction r with
 | nil=>intro t;exact List.prefix_rfl
 | cons s r ih=>intro t;exact (addK_pre t s).trans (ih _)
theorem tabK_nodup (r:List ByteArray):∀ t,t.Nodup→(tabK t r).Nodup:=by
 induction r with
 | nil=>intro t h;exact h
 | cons s r ih=>intro t h;exact ih _ (addK_nodup h)
theorem tabK_len (r:List ByteArray):∀ t,(tabK t r).length≤t.length + r.length:=by
 induction r with
 | nil=>intro t;simp [tabK]
 | cons s r ih =>
   intro t
   have:=ih (addK t s)
   have h2:(addK t s).length≤t.length + 1:=by unfold addK;split <;> simp
   simp [tabK];omega
theorem tabK_sub (r:List ByteArray):∀ t x,x∈tabK t r→x∈t∨x∈r:=by
 induction r with
 | nil=>intro t x h;exact .inl h
 | cons s r ih =>
   intro t x h
   rcases ih _ _ h with h1 | h1
   · unfold addK at h1
     split at h1
     · exact .inl h1
     · rcases List.mem_append.1 h1 with h2 | h2
       · exact .inl h2
       · simp at h2;subst h2;exact .inr (by simp)
   · exact .inr (List.mem_cons_of_mem _ h1)
theorem tabK_in {l t:List ByteArray} {k:Nat} {s:ByteArray} (h:l[k]? = some s) (hs:s∈t):tabK t (l.drop k)=tabK t (l.drop (k + 1)):=by
 obtain ⟨hk,e⟩:=List.getElem?_eq_some_iff.1 h
 rw [List.drop_eq_getElem_cons hk,e,tabK,addK_in hs]
theorem tabK_new {l t:List ByteArray} {k:Nat} {s:ByteArray} (h:l[k]? = some s) (hs:s ∉ t):tabK t (l.drop k)=tabK (t ++ [s]) (l.drop (k + 1)):=by
 obtain ⟨hk,e⟩:=List.getElem?_eq_some_iff.1 h
 rw [List.drop_eq_getElem_cons hk,e,tabK,addK_new hs]
theorem atK_in {l t:List ByteArray} {k:Nat} {s:ByteArray} (h:l[k]? = some s) (hs:s∈t):atK t (l.drop k)=idxB t s :: atK t (l.drop (k + 1)):=by
 obtain ⟨hk,e⟩:=List.getElem?_eq_some_iff.1 h
 rw [List.drop_eq_getElem_cons hk,e,atK,addK_in hs]
theorem atK_new {l t:List ByteArray} {k:Nat} {s:ByteArray} (h:l[k]? = some s) (hs:s ∉ t):atK t (l.drop k)=t.length :: atK (t ++ [s]) (l.drop (k + 1)):=by
 obtain ⟨hk,e⟩:=List.getElem?_eq_some_iff.1 h
 rw [List.drop_eq_getElem_cons hk,e,atK,addK_new hs,idxB_new hs]
def dupG:List ByteArray→List ByteArray→Nat→Option Nat
 | _,[],_=>none
 | seen,s :: r,i=>if s∈seen then some i else dupG (seen ++ [s]) r (i + 1)
def ordG (K:Nat):Nat→List Int→Nat→Nat×Int
 | told,[],_=>if told < K then (8,-1) else (0,-1)
 | told,n :: r,i=>if n < 0∨(K:Int)≤n then (2,(i:Int)) else if (told:Int) < n then (13,(i:Int)) else ordG K (if n=told then told + 1 else told) r (i + 1)
def outG (T:List ByteArray) (l:List Int):List ByteArray:=l.map fun n=>T.getD n.toNat ByteArray.empty
def listF (T:List ByteArray) (l:List Int):List ByteArray×Nat×Int :=
 match dupG [] T 0 with
 | some i=>([],9,(i:Int))
 | none=>if (ordG T.length 0 l 0).1=0 then (outG T l,0,-1) else ([],ordG T.length 0 l 0)
theorem dupG_nodup (r:List ByteArray):∀ seen i,seen.Nodup→(dupG seen r i=none↔(seen ++ r).Nodup):=by
 induction r with
 | nil=>intro seen i h;simp [dupG,h]
 | cons s r ih =>
   intro seen i h
   unfold dupG
   split
   · rename_i hs
     simp only [reduceCtorEq,false_iff]
     intro hc
     rw [List.nodup_append] at hc
     exact hc.2.2 s hs s (by simp) rfl
   · rename_i hs
     have hn:(seen ++ [s]).Nodup:=by have:=addK_nodup (s:=s) h;rwa [addK_new hs] at this
     rw [ih _ _ hn]
     simp
theorem ordG_atK (K:Nat) (r:List ByteArray):∀ t i,(tabK t r).length=K→ordG K t.length ((atK t r).map Int.ofNat) i=(0,-1):=by
 induction r with
 | nil=>intro t i h;simp only [atK,List.map_nil,ordG];rw [if_neg (by simp [tabK] at h;omega)]
 | cons s r ih =>
   intro t i h
   have hp:(addK t s).length≤K:=by rw [←h];exact (tabK_pre r (addK t s)).length_le
   rw [atK,List.map_cons,ordG]
   by_cases hs:s∈t
   · have h1:=idxB_lt hs
     have e:=addK_in hs
     rw [e] at hp ⊢
     have hofN:Int.ofNat (idxB t s)=((idxB t s:Nat):Int):=rfl
     rw [hofN,if_neg (by omega),if_neg (by omega),if_neg (by omega)]
     have:=ih t (i + 1) (by rw [←h,tabK,e])
     exact this
   · have h1:=idxB_new hs
     have e:=addK_new hs
     rw [e] at hp ⊢
     have hofN:Int.ofNat (idxB t s)=((t.length:Nat):Int):=by rw [h1];rfl
     simp only [List.length_append,List.length_singleton] at hp
     rw [hofN,if_neg (by omega),if_neg (by omega),if_pos rfl]
     have:=ih (t ++ [s]) (i + 1) (by rw [←h,tabK,e])
     simpa using this
theorem outG_atK (r:List ByteArray):∀ t,outG (tabK t r) ((atK t r).map Int.ofNat)=r:=by
 induction r with
 | nil=>intro t;rfl
 | cons s r ih =>
   intro t
   have hh:=ih (addK t s)
   unfold outG at hh ⊢
   rw [atK,List.map_cons,List.map_cons,tabK]
   congr 1
   have hx:(addK t s)[idxB t s]? = some s:=by
     by_cases hs:s∈t
     · rw [addK_in hs];exact idxB_get hs
     · rw [addK_new hs,idxB_new hs];simp
   have hp:=tabK_pre r (addK t s)
   obtain ⟨z,hz⟩:=hp
   have hlt:idxB t s < (addK t s).length:=(List.getElem?_eq_some_iff.1 hx).1
   have:(tabK (addK t s) r)[idxB t s]? = some s:=by rw [←hz,List.getElem?_append_left hlt];exact hx
   simp [this]
theorem listF_table (l:List ByteArray):listF (tabK [] l) ((atK [] l).map Int.ofNat)=(l,0,-1):=by
 unfold listF
 have h1:dupG [] (tabK [] l) 0=none:=(dupG_nodup _ _ _ (by simp)).2 (by simpa using tabK_nodup l [] (by simp))
 have h2:=ordG_atK (tabK [] l).length l [] 0 rfl
 simp only [List.length_nil] at h2
 rw [h1,h2]
 simp [outG_atK]
theorem only_at (T:List ByteArray) (hn:T.Nodup) (l:List Int):∀ told i,told≤T.length→(ordG T.length told l i).1=0 →
   tabK (T.take told) (outG T l)=T∧(atK (T.take told) (outG T l)).map Int.ofNat=l:=by
 induction l with
 | nil =>
   intro told i ht h
   unfold ordG at h
   split at h
   · simp at h
   · refine ⟨?_,rfl⟩
     simp only [outG,List.map_nil,tabK]
     exact List.take_of_length_le (by omega)
 | cons n r ih =>
   intro told i ht h
   unfold ordG at h
   split at h
   · simp at h
   · split at h
     · simp at h
     · rename_i h1 h2
       obtain ⟨j,rfl⟩:∃ j:Nat,n=j:=⟨n.toNat,by omega⟩
       have hjl:j < T.length:=by omega
       have hout:outG T ((j:Int) :: r)=T[j] :: outG T r:=by simp [outG,hjl]
       have hat:T[j]? = some T[j]:=List.getElem?_eq_getElem hjl
       rw [hout,tabK,atK,List.map_cons]
       by_cases hjt:j=told
       · subst hjt
         rw [if_pos rfl] at h
         have hne:T[j] ∉ T.take j:=by
           intro hc
           obtain ⟨m,hm⟩:=List.mem_iff_getElem?.1 hc
           have hmj:m < j:=by have:=(List.getElem?_eq_some_iff.1 hm).1;simp at this;omega
           rw [List.getElem?_take_of_lt hmj] at hm
           have e1:=idxB_at hn hm
           have e2:=idxB_at hn hat
           omega
         have e:addK (T.take j) T[j]=T.take (j + 1):=by rw [addK_new hne,List.take_append_getElem hjl]
         have ei:idxB (T.take j) T[j]=j:=by rw [idxB_new hne,List.length_take];omega
         rw [e,ei]
         obtain ⟨q1,q2⟩:=ih (j + 1) (i + 1) (by omega) h
         exact ⟨q1,by rw [q2];rfl⟩
       · rw [if_neg (by omega)] at h
         have hjt2:j < told:=by omega
         have hm:(T.take told)[j]? = some T[j]:=by rw [List.getElem?_take_of_lt hjt2];exact hat
         have hin:T[j]∈T.take told:=List.mem_of_getElem? hm
         have ei:idxB (T.take told) T[j]=j:=idxB_at (hn.sublist (List.take_sublist _ _)) hm
         rw [addK_in hin,ei]
         obtain ⟨q1,q2⟩:=ih told (i + 1) ht h
         exact ⟨q1,by rw [q2];rfl⟩
theorem listF_ok {T:List ByteArray} {l:List Int} (h:(listF T l).2.1=0):listF T l=(outG T l,0,-1)∧tabK [] (outG T l)=T∧(atK [] (outG T l)).map Int.ofNat=l:=by
 unfold listF at h ⊢
 split at h
 · simp at h
 · rename_i hd
   have hn:T.Nodup:=by simpa using (dupG_nodup T [] 0 (by simp)).1 hd
   split at h
   · rename_i ho
     rw [if_pos ho]
     have:=only_at T hn l 0 0 (Nat.zero_le _) ho
     simp only [List.take_zero] at this
     exact ⟨rfl,this.1,this.2⟩
   · rename_i ho;exact absurd h ho
end Go.Proofs.YtgfinhehgfbdgaaGreatDoor
namespace Go.Proofs
open Go.Shelf
def Tryz.lays169_ren:Go.Shelf.Ren:=⟨fun | 169=>120 | n=>n,fun | 70=>148 | 9=>9 | 0=>0 | 72=>150 | 37=>56 | 127=>221 | 3=>3 | 5=>5 | n=>n,fun | n=>n⟩
theorem Tryz.lays169:Go.Proofs.Lays.n169 Tryz.prog Tryz.lays169_ren:={
 mixed:=by kernel_rfl
 f169:=Tryz.func120.trans (congrArg some (by kernel_rfl))
 t0:=Tryz.underlying0
 a0:=Tryz.isAgg0
 z0:=Tryz.sizeOf0
 v0:=Tryz.zeroValue0
 t3:=Tryz.underlying3
 a3:=Tryz.isAgg3
 z3:=Tryz.sizeOf3
 v3:=Tryz.zeroValue3
 t9:=Tryz.underlying9
 a9:=Tryz.isAgg9
 z9:=Tryz.sizeOf9
 v9:=Tryz.zeroValue9
 t37:=Tryz.underlying56
 a37:=Tryz.isAgg56
 z37:=Tryz.sizeOf56
 v37:=Tryz.zeroValue56
 t70:=Tryz.underlying148
 a70:=Tryz.isAgg148
 z70:=Tryz.sizeOf148
 v70:=Tryz.zeroValue148
 t72:=Tryz.underlying150
 a72:=Tryz.isAgg150
 z72:=Tryz.sizeOf150
 v72:=Tryz.zeroValue150
 t127:=Tryz.underlying221
 a127:=Tryz.isAgg221
 z127:=Tryz.sizeOf221
 v127:=Tryz.zeroValue221 }
theorem Tryz.Builder_Extra_169:Builder.Extra Tryz.prog Tryz.lays169_ren:={
 sizeBuilder:=by kernel_rfl
 liesBuilder:=by kernel_rfl
 t5:=Tryz.underlying5
 a5:=Tryz.isAgg5
 z5:=Tryz.sizeOf5
 v5:=Tryz.zeroValue5
 infoByte:=by kernel_rfl
 cellsByte:=by kernel_rfl
 sizeByte:=by kernel_rfl
 neB5:=by decide }
open Go.RowKit in
theorem Tryz.Builder_String_any (B b:Nat) (l:List UInt8) (w:World) (h:Lib.IsBuilder 150 5 B b (Lib.byteCells l) w) (hBw:B≤w.heap.size) :
   Calls Tryz.prog 120 #[.pointer (some ⟨b,0,none⟩)] w fun e w'=>e=.returned (.string ⟨l.toArray⟩)∧Below B w w':=Any.Builder_String_any Tryz.lays169 Tryz.Builder_Extra_169 B b l w h hBw
def Tryz.laysM316_ren:Go.Shelf.Ren:=⟨fun | 316=>183 | n=>n,fun | 9=>9 | 3=>3 | 4=>4 | 37=>56 | 0=>0 | 127=>221 | 5=>5 | n=>n,fun | n=>n⟩
theorem Tryz.laysM316:Go.Proofs.LaysM.n316 Tryz.prog Tryz.laysM316_ren:={
 mixed:=by kernel_rfl
 f316:=Tryz.func183.trans (congrArg some (by kernel_rfl))
 t0:=Tryz.underlying0
 a0:=Tryz.isAgg0
 z0:=Tryz.sizeOf0
 v0:=Tryz.zeroValue0
 t3:=Tryz.underlying3
 a3:=Tryz.isAgg3
 z3:=Tryz.sizeOf3
 v3:=Tryz.zeroValue3
 t4:=Tryz.underlying4
 a4:=Tryz.isAgg4
 z4:=Tryz.sizeOf4
 v4:=Tryz.zeroValue4
 t9:=Tryz.underlying9
 a9:=Tryz.isAgg9
 z9:=Tryz.sizeOf9
 v9:=Tryz.zeroValue9
 t37:=Tryz.underlying56
 a37:=Tryz.isAgg56
 z37:=Tryz.sizeOf56
 v37:=Tryz.zeroValue56
 t127:=Tryz.underlying221
 a127:=Tryz.isAgg221
 z127:=Tryz.sizeOf221
 v127:=Tryz.zeroValue221
 t5:=Tryz.underlying5
 a5:=Tryz.isAgg5
 z5:=Tryz.sizeOf5
 v5:=Tryz.zeroValue5
 i0:=by kernel_rfl
 i3:=by kernel_rfl
 i4:=by kernel_rfl
 i5:=by kernel_rfl
 i9:=by kernel_rfl
 i37:=by kernel_rfl
 i127:=by kernel_rfl }
open Go.RowKit in
theorem Tryz.stringslite_Clone (s:ByteArray) (w:World) (hlim:s.size≤281474976710656) :
   Calls Tryz.prog 183 #[.string s] w fun e w'=>e=.returned (.string s)∧Below w.heap.size w w':=Any.stringslite_Clone Tryz.laysM316 s w hlim
def Tryz.lays99_ren:Go.Shelf.Ren:=⟨fun | 99=>51 | 206=>100 | n=>n,fun | 9=>9 | 4=>4 | 3=>3 | n=>n,fun | n=>n⟩
theorem Tryz.lays99:Go.Proofs.Lays.n99 Tryz.prog Tryz.lays99_ren:={
 mixed:=by kernel_rfl
 f99:=Tryz.func51.trans (congrArg some (by kernel_rfl))
 f206:=Tryz.func100.trans (congrArg some (by kernel_rfl))
 t3:=Tryz.underlying3
 a3:=Tryz.isAgg3
 z3:=Tryz.sizeOf3
 v3:=Tryz.zeroValue3
 t4:=Tryz.underlying4
 a4:=Tryz.isAgg4
 z4:=Tryz.sizeOf4
 v4:=Tryz.zeroValue4
 t9:=Tryz.underlying9
 a9:=Tryz.isAgg9
 z9:=Tryz.sizeOf9
 v9:=Tryz.zeroValue9 }
open Go.RowKit Go.Lib in
theorem Tryz.strings_HasPrefix (s p:ByteArray) (w:World) :
   Calls Tryz.prog 51 #[.string s,.string p] w fun e w'=>e=.returned (.bool (Lib.hasPrefix s.data.toList p.data.toList))∧w'=w:=Any.strings_HasPrefix Tryz.lays99 s p w
end Go.Proofs
namespace Go.Proofs.YtgfinhehgfbdgaaGreatDoor
open Go.RowKit
def idRW (x:Int×Int):Bool:=decide (1≤x.1∧x.1≤1099511627776∧0≤x.2∧x.2≤200)
set_option maxRecDepth 100000 in
theorem idrightW_any (x1 x2:Int) (b:Bool) (w:World) (hb:idRW (x1,x2)=b) :
   Calls Tryz.prog 157 #[.agg #[.int .i64 x1,.int .i64 x2]] w fun e w'=>e=.returned (.bool b)∧Below w.heap.size w w':=by
 subst hb
 unfold idRW
 by_cases h1:1≤x1
 · by_cases h2:x1≤1099511627776
   · by_cases h3:0≤x2
     · by_cases h4:x2≤200
       · rw [decide_eq_true (show 1≤(x1,x2).1∧(x1,x2).1≤1099511627776∧0≤(x1,x2).2∧(x1,x2).2≤200 from ⟨h1,h2,h3,h4⟩)]
         go_enter Tryz.func157,Tryz.ntmps157
         go_wp2
         go_ret
         exact ⟨rfl,(Below.refl _ _).alloc (Nat.le_refl _) _⟩
       · rw [decide_eq_false (show ¬ (1≤(x1,x2).1∧(x1,x2).1≤1099511627776∧0≤(x1,x2).2∧(x1,x2).2≤200) from fun h=>h4 h.2.2.2)]
         have d:decide (x2≤200)=false:=decide_eq_false h4
         go_enter Tryz.func157,Tryz.ntmps157
         go_wp2
         go_ret
         exact ⟨by first | rfl | (show Ending.returned (Value.bool (decide _))=_;rw [d]),(Below.refl _ _).alloc (Nat.le_refl _) _⟩
     · rw [decide_eq_false (show ¬ (1≤(x1,x2).1∧(x1,x2).1≤1099511627776∧0≤(x1,x2).2∧(x1,x2).2≤200) from fun h=>h3 h.2.2.1)]
       have d:decide (0≤x2)=false:=decide_eq_false h3
       go_enter Tryz.func157,Tryz.ntmps157
       go_wp2
       go_ret
       exact ⟨by first | rfl | simp,(Below.refl _ _).alloc (Nat.le_refl _) _⟩
   · rw [decide_eq_false (show ¬ (1≤(x1,x2).1∧(x1,x2).1≤1099511627776∧0≤(x1,x2).2∧(x1,x2).2≤200) from fun h=>h2 h.2.1)]
     have d:decide (x1≤1099511627776)=false:=decide_eq_false h2
     go_enter Tryz.func157,Tryz.ntmps157
     go_wp2
     go_ret
     exact ⟨by first | rfl | simp,(Below.refl _ _).alloc (Nat.le_refl _) _⟩
 · rw [decide_eq_false (show ¬ (1≤(x1,x2).1∧(x1,x2).1≤1099511627776∧0≤(x1,x2).2∧(x1,x2).2≤200) from fun h=>h1 h.1)]
   have d:decide (1≤x1)=false:=decide_eq_false h1
   go_enter Tryz.func157,Tryz.ntmps157
   go_wp2
   go_ret
   exact ⟨by first | rfl | simp,(Below.refl _ _).alloc (Nat.le_refl _) _⟩
end Go.Proofs.YtgfinhehgfbdgaaGreatDoor
