import Derived.WalkKit
import Derived.Handy
import Derived.Below
import Derived.Laws.OwnMore
import Derived.Lib.Hide
import Derived.Test.YtddbpnplbcjpgaaGreatDoorProg
import Derived.KernelRfl
import Derived.LaidEql
import Derived.Stop.Asserts
import Derived.RowKitTokens
import Derived.Shelf.Small.Bits
import Derived.Shelf.Small.Strs
import Derived.Shelf.Small.Wraps
import Derived.Shelf.Strconv.Itoa0
import Derived.Shelf.Strconv.Itoa1
import Derived.Shelf.LaysM
import Derived.Shelf.Strconv.Itoa2
import Derived.Shelf.Strconv.Itoa3
import Derived.Shelf.Strconv.Clone
import Derived.Shelf.Strings.Search1
import Derived.Shelf.Strings.Search2
import Derived.Shelf.Strings.Search3
import Derived.Shelf.Strings.Shaped
import Derived.Shelf.Sort.Plain
import Derived.Ground.GgsProg
import Derived.Shelf.GgSortFunc.Insertion
import Derived.Shelf.GgSortFunc.InsertionK
import Derived.Shelf.GgSortFunc.Tiny
import Derived.Shelf.GgSortFunc.Compose
import Derived.Ground.GgtProg
import Derived.Shelf.GgSortMore.Stable
import Derived.Shelf.Slices.Equal
import Derived.Ground.Names2Prog
import Derived.Shelf.Slices.ReverseS
import Derived.Shelf.Slices.Clone
import Derived.Shelf.Slices.SearchI
import Derived.Shelf.Slices.Cells
import Derived.Shelf.Slices.In.SortNone
import Derived.Shelf.Slices.In.SortNone2
import Derived.Shelf.Slices.Empties2
import Derived.Shelf.SlSortFuncK.ComposeK
import Derived.Ground.SlgnProg
import Derived.Shelf.SlicesE.Clone
import Derived.Deep.RegionHeld
namespace Go.Proofs.YtddbpnplbcjpgaaGreatDoor
open Go.RowKit
structure But (F:Nat→Prop) (w w':World):Prop where
 os:w'.os=w.os
 tape:w'.tape=w.tape
 output:w'.output=w.output
 size:w.heap.size≤w'.heap.size
 block:∀ k,k < w.heap.size→¬ F k→w'.heap[k]? = w.heap[k]?
theorem But.refl (F:Nat→Prop) (w:World):But F w w:=⟨rfl,rfl,rfl,Nat.le_refl _,fun _ _ _=>rfl⟩
theorem But.trans {F:Nat→Prop} {a b c:World} (h:But F a b) (k:But F b c):But F a c :=
 ⟨k.os.trans h.os,k.tape.trans h.tape,k.output.trans h.output,Nat.le_trans h.size k.size,fun i hi hn=>(k.block i (Nat.lt_of_lt_of_le hi h.size) hn).trans (h.block i hi hn)⟩
theorem But.mono {F G:Nat→Prop} {w w':World} (h:But F w w') (hF:∀ k,F k→G k):But G w w' :=
 ⟨h.os,h.tape,h.output,h.size,fun k hk hn=>h.block k hk (fun e=>hn (hF k e))⟩
theorem But.of_below {F:Nat→Prop} {w w':World} (h:Below w.heap.size w w'):But F w w':=⟨h.os,h.tape,h.output,h.size,fun k hk _=>h.block k hk⟩
theorem But.below {F:Nat→Prop} {w w':World} {B:Nat} (h:But F w w') (hB:B≤w.heap.size) (hF:∀ k,F k→B≤k):Below B w w' :=
 ⟨h.os,h.tape,h.output,h.size,fun k hk=>h.block k (Nat.lt_of_lt_of_le hk hB) (fun e=>by have:=hF k e;omega)⟩
theorem But.setCell {F:Nat→Prop} {a w:World} (h:But F a w) {p:Addr} (hp:F p.block∨a.heap.size≤p.block) (u:Value):But F a (w.setCell p u) :=
 ⟨h.os,h.tape,h.output,by simpa [World.setCell] using h.size,fun k hk hn=>(Below.heap_setCell _ _ _ _ (fun e=>by
   subst e
   rcases hp with hp | hp
   · exact hn hp
   · omega)).trans (h.block k hk hn)⟩
theorem But.below_on {F:Nat→Prop} {a b c:World} (h:But F a b) (k:Below b.heap.size b c):But F a c:=h.trans (But.of_below k)
theorem But.drew {F:Nat→Prop} {a w:World} (h:But F a w):But F a w.drew:=⟨h.os,h.tape,h.output,h.size,h.block⟩
theorem But.alloc {F:Nat→Prop} {a w:World} (h:But F a w) (o:Obj):But F a (w.alloc o):=h.below_on ((Below.refl _ _).alloc (Nat.le_refl _) o)
theorem But.grown {F:Nat→Prop} {a w w':World} {row:Option Nat} (h:But F a w) (hg:w.grownBy w' row) (hr:∀ k,row=some k→F k∨a.heap.size≤k):But F a w' :=
 ⟨hg.os.trans h.os,hg.tape.trans h.tape,hg.output.trans h.output,Nat.le_trans h.size hg.size,fun k hk hn=>(hg.block k (Nat.lt_of_lt_of_le hk h.size) (fun e=>by
   rcases hr k e.symm with e | e
   · exact hn e
   · omega)).trans (h.block k hk hn)⟩
theorem But.cell {F:Nat→Prop} {w w':World} (h:But F w w') {p:Addr} (hp:p.block < w.heap.size) (hn:¬ F p.block):w'.cell? p=w.cell? p:=World.cell?_of_block (w:=w) (h.block p.block hp hn)
theorem But.on {F:Nat→Prop} {W w w':World} {B:Nat} (h:Below B W w) (k:But F w w') (hB:B≤w.heap.size) (hF:∀ i,F i→B≤i):Below B W w':=h.trans (k.below hB hF)
theorem ownsRow_but {F:Nat→Prop} {w w':World} {base:Nat} {e:TypeId} {size n:Nat} {v:Value} {xs:List Value} (h:w.ownsRow base e size v n xs) (hb:But F w w') (hn:∀ k,v.ownBlock=some k→¬ F k):w'.ownsRow base e size v n xs:=by
 refine ⟨h.1,?_⟩
 rcases h.2 with h1 | ⟨g,cap,cur,hv,hg,hh,r⟩
 · exact .inl h1
 · exact .inr ⟨g,cap,cur,hv,hg,(hb.block g (Array.getElem?_eq_some_iff.1 hh).1 (hn g (by rw [hv];rfl))).trans hh,r⟩
theorem ownsRow_row {w:World} {base:Nat} {e t:TypeId} {size n:Nat} {v:Value} {xs:List Value} (h:w.ownsRow base e size v n xs) {P:Nat} {c:Array Value} {z:Nat×Nat} (hP:w.heap[P]? = some (.cells c t z)) (he:e≠t):v.ownBlock≠some P:=by
 intro k
 rcases h.2 with ⟨rfl,_⟩ | ⟨g,cap,cur,rfl,_,hh,_⟩
 · cases k
 have e1:g=P:=Option.some.inj k
 subst e1
 rw [hh] at hP
 simp only [Option.some.injEq,Obj.cells.injEq] at hP
 exact he hP.2.1
end Go.Proofs.YtddbpnplbcjpgaaGreatDoor
namespace Go.Proofs.YtddbpnplbcjpgaaGreatDoor
open Go.RowKit
def idRW (x:Int×Int):Bool:=decide (1≤x.1∧x.1≤1099511627776∧0≤x.2∧x.2≤200)
set_option maxRecDepth 100000 in
theorem idrightW_any (x1 x2:Int) (b:Bool) (w:World) (hb:idRW (x1,x2)=b) :
   Calls Tryz.prog 62 #[.agg #[.int .i64 x1,.int .i64 x2]] w fun e w'=>e=.returned (.bool b)∧Below w.heap.size w w':=by
 subst hb
 unfold idRW
 by_cases h1:1≤x1
 · by_cases h2:x1≤1099511627776
   · by_cases h3:0≤x2
     · by_cases h4:x2≤200
       · rw [decide_eq_true (show 1≤(x1,x2).1∧(x1,x2).1≤1099511627776∧0≤(x1,x2).2∧(x1,x2).2≤200 from ⟨h1,h2,h3,h4⟩)]
         go_enter Tryz.func62,Tryz.ntmps62
         go_wp2
         go_ret
         exact ⟨rfl,(Below.refl _ _).alloc (Nat.le_refl _) _⟩
       · rw [decide_eq_false (show ¬ (1≤(x1,x2).1∧(x1,x2).1≤1099511627776∧0≤(x1,x2).2∧(x1,x2).2≤200) from fun h=>h4 h.2.2.2)]
         have d:decide (x2≤200)=false:=decide_eq_false h4
         go_enter Tryz.func62,Tryz.ntmps62
         go_wp2
         go_ret
         exact ⟨by first | rfl | (show Ending.returned (Value.bool (decide _))=_;rw [d]),(Below.refl _ _).alloc (Nat.le_refl _) _⟩
     · rw [decide_eq_false (show ¬ (1≤(x1,x2).1∧(x1,x2).1≤1099511627776∧0≤(x1,x2).2∧(x1,x2).2≤200) from fun h=>h3 h.2.2.1)]
       have d:decide (0≤x2)=false:=decide_eq_false h3
       go_enter Tryz.func62,Tryz.ntmps62
       go_wp2
       go_ret
       exact ⟨by first | rfl | simp,(Below.refl _ _).alloc (Nat.le_refl _) _⟩
   · rw [decide_eq_false (show ¬ (1≤(x1,x2).1∧(x1,x2).1≤1099511627776∧0≤(x1,x2).2∧(x1,x2).2≤200) from fun h=>h2 h.2.1)]
     have d:decide (x1≤1099511627776)=false:=decide_eq_false h2
     go_enter Tryz.func62,Tryz.ntmps62
     go_wp2
     go_ret
     exact ⟨by first | rfl | simp,(Below.refl _ _).alloc (Nat.le_refl _) _⟩
 · rw [decide_eq_false (show ¬ (1≤(x1,x2).1∧(x1,x2).1≤1099511627776∧0≤(x1,x2).2∧(x1,x2).2≤200) from fun h=>h1 h.1)]
   have d:decide (1≤x1)=false:=decide_eq_false h1
   go_enter Tryz.func62,Tryz.ntmps62
   go_wp2
   go_ret
   exact ⟨by first | rfl | simp,(Below.refl _ _).alloc (Nat.le_refl _) _⟩
end Go.Proofs.YtddbpnplbcjpgaaGreatDoor
namespace Go.Proofs.YtddbpnplbcjpgaaGreatDoor
open Go.RowKit
def atIs (w:World) (v:Value) (r:Nat×Int):Prop :=
 (r=(0,-1)∧v=.nilIface)∨(r.1≠0∧∃ b,v=.iface 114 (.pointer (some ⟨b,0,none⟩))∧b < w.heap.size∧w.cell? ⟨b,0,none⟩=some (.int .i64 (r.1:Nat))∧w.cell? ⟨b,1,none⟩=some (.int .i64 r.2))
theorem atIs.below {w w':World} {v:Value} {r:Nat×Int} (h:atIs w v r) (hb:Below w.heap.size w w'):atIs w' v r:=by
 rcases h with h | ⟨h0,b,h1,h2,h3,h4⟩
 · exact .inl h
 · exact .inr ⟨h0,b,h1,Nat.lt_of_lt_of_le h2 hb.size,(hb.cell (p:=⟨b,0,none⟩) h2).trans h3,(hb.cell (p:=⟨b,1,none⟩) h2).trans h4⟩
theorem atIs.new (w:World) (e:Nat) (pl:Int) (he:e≠0):atIs (w.alloc (.cells #[.int .i64 e,.int .i64 pl] 117)) (.iface 114 (.pointer (some ⟨w.heap.size,0,none⟩))) (e,pl) :=
 .inr ⟨he,_,rfl,by simp,by simp,by simp⟩
def RightIs (w:World) (r:Nat×Int) (e:Ending) (w':World):Prop :=
 ∃ v,e=.returned v∧atIs w' v r∧Below w.heap.size w w'
end Go.Proofs.YtddbpnplbcjpgaaGreatDoor
namespace Go.Proofs.YtddbpnplbcjpgaaGreatDoor
open Go.RowKit Go.Extern.Stop Go.Stop Go.Extern
namespace As
theorem valueOfP (t:Addr) (w:World):(ReflectliteValue.unpack (.iface 137 (.pointer (some t)))).run Tryz.prog w
   = .ok (.agg #[.pointer (some ⟨5,137,none⟩),.pointer (some ⟨w.heap.size,0,none⟩),.int .u64 150]) (w.alloc (.cells #[.pointer (some t)] 137)):=by kernel_rfl
theorem typeP (a : Addr) (w : World) : (ReflectliteValue.methodAny (ReflectliteValue.valueError "reflectlite.Value.Type" 0) (fun t _ _ _ => ReflectliteType.toType t) #[.agg #[.pointer (some ⟨5, 137, none⟩), .pointer (some a), .int .u64 150]]).run Tryz.prog w
   = .ok (.iface 162 (.agg #[.pointer (some ⟨5,137,none⟩)])) w:=by kernel_rfl
theorem methodKind (h : Value) (w : World) : (Go.method 364 162 (.agg #[h]) "Kind").run Tryz.prog w = .ok (197, h) w := by kernel_rfl
theorem kindP (w:World):((ReflectliteType.abiMethod fun t=>(fun a:Nat=>Value.int IntKind.u8 (a:Int)) <$> Rtype.kind t) #[.pointer (some ⟨5,137,none⟩)]).run Tryz.prog w=.ok (.int .u8 22) w:=by kernel_rfl
theorem kindE (w:World):((ReflectliteType.abiMethod fun t=>(fun a:Nat=>Value.int IntKind.u8 (a:Int)) <$> Rtype.kind t) #[.pointer (some ⟨5,40,none⟩)]).run Tryz.prog w=.ok (.int .u8 2) w:=by kernel_rfl
theorem isNilForm (a : Addr) (W : World) : (ReflectliteValue.method (ReflectliteValue.valueError "reflectlite.Value.IsNil" 0) ReflectliteValue.isNil #[.agg #[.pointer (some ⟨5, 137, none⟩), .pointer (some a), .int .u64 150]]).run Tryz.prog W = (ReflectliteValue.isNil 137 a 150 22).run Tryz.prog W := by kernel_rfl
theorem isNilP (a p:Addr) (W:World) (ha:W.cell? a=some (.pointer (some p))) :
   (ReflectliteValue.method (ReflectliteValue.valueError "reflectlite.Value.IsNil" 0) ReflectliteValue.isNil #[.agg #[.pointer (some ⟨5, 137, none⟩), .pointer (some a), .int .u64 150]]).run Tryz.prog W = .ok (.bool false) W := by
 rw [isNilForm]
 simp [ReflectliteValue.isNil,loadVar,isAgg,underlying,Tryz.underlying137,ha,Result.andThen]
theorem methodElem (h : Value) (w : World) : (Go.method 364 162 (.agg #[h]) "Elem").run Tryz.prog w = .ok (209, .agg #[h]) w := by kernel_rfl
theorem methodImplements (h : Value) (w : World) : (Go.method 364 162 (.agg #[h]) "Implements").run Tryz.prog w = .ok (210, .agg #[h]) w := by kernel_rfl
theorem methodAssignableTo (h : Value) (w : World) : (Go.method 364 162 (.agg #[h]) "AssignableTo").run Tryz.prog w = .ok (207, .agg #[h]) w := by kernel_rfl
theorem elemP (w:World):(ReflectliteType.method ReflectliteType.elem #[.agg #[.pointer (some ⟨5,137,none⟩)]]).run Tryz.prog w=.ok (.iface 162 (.agg #[.pointer (some ⟨5,40,none⟩)])) w:=by kernel_rfl
theorem implementsE (w : World) : (ReflectliteType.relation "Implements" ReflectliteType.implements_ #[.agg #[.pointer (some ⟨5, 40, none⟩)], .iface 162 (.agg #[.pointer (some ⟨5, 36, none⟩)])]).run Tryz.prog w = .ok (.bool true) w := by kernel_rfl
theorem typeOfE (v:Value) (w:World):(ReflectliteType.typeOf #[.iface 40 v]).run Tryz.prog w=.ok (.iface 162 (.agg #[.pointer (some ⟨5,40,none⟩)])) w:=by kernel_rfl
theorem typeOfA (v:Value) (w:World):(ReflectliteType.typeOf #[.iface 114 v]).run Tryz.prog w=.ok (.iface 162 (.agg #[.pointer (some ⟨5,114,none⟩)])) w:=by kernel_rfl
theorem assignableE (w : World) : (ReflectliteType.relation "AssignableTo" ReflectliteType.assignableTo #[.agg #[.pointer (some ⟨5, 40, none⟩)], .iface 162 (.agg #[.pointer (some ⟨5, 40, none⟩)])]).run Tryz.prog w = .ok (.bool true) w := by kernel_rfl
theorem assignableA (w : World) : (ReflectliteType.relation "AssignableTo" ReflectliteType.assignableTo #[.agg #[.pointer (some ⟨5, 114, none⟩)], .iface 162 (.agg #[.pointer (some ⟨5, 40, none⟩)])]).run Tryz.prog w = .ok (.bool false) w := by kernel_rfl
theorem valueOfE (e:Int) (w:World):(ReflectliteValue.unpack (.iface 40 (.int .i64 e))).run Tryz.prog w
   = .ok (.agg #[.pointer (some ⟨5,40,none⟩),.pointer (some ⟨w.heap.size,0,none⟩),.int .u64 130]) (w.alloc (.cells #[.int .i64 e] 40)):=by kernel_rfl
theorem elemOfP (w:World):(Rtype.elem? 137).run Tryz.prog w=.ok (some 40) w:=by kernel_rfl
theorem mkE (p:Addr) (w:World):(ReflectliteValue.mk 40 p ReflectliteValue.flagAddr).run Tryz.prog w=.ok (.agg #[.pointer (some ⟨5,40,none⟩),.pointer (some p),.int .u64 386]) w:=by kernel_rfl
theorem elemForm (a : Addr) (W : World) : (ReflectliteValue.method (ReflectliteValue.valueError "reflectlite.Value.Elem" 0) ReflectliteValue.elem #[.agg #[.pointer (some ⟨5, 137, none⟩), .pointer (some a), .int .u64 150]]).run Tryz.prog W = (ReflectliteValue.elem 137 a 150 22).run Tryz.prog W := by kernel_rfl
theorem elemVP (a p:Addr) (W:World) (ha:W.cell? a=some (.pointer (some p))) :
   (ReflectliteValue.method (ReflectliteValue.valueError "reflectlite.Value.Elem" 0) ReflectliteValue.elem #[.agg #[.pointer (some ⟨5, 137, none⟩), .pointer (some a), .int .u64 150]]).run Tryz.prog W
     = .ok (.agg #[.pointer (some ⟨5,40,none⟩),.pointer (some p),.int .u64 386]) W:=by
 rw [elemForm]
 simp [ReflectliteValue.elem,loadVar,isAgg,underlying,Tryz.underlying137,ha,Result.andThen,elemOfP,mkE]
theorem setForm (ta b:Addr) (W:World):(ReflectliteValue.set #[.agg #[.pointer (some ⟨5,40,none⟩),.pointer (some ta),.int .u64 386],.agg #[.pointer (some ⟨5,40,none⟩),.pointer (some b),.int .u64 130]]).run Tryz.prog W
   = (do let val ←loadVar 40 b;storeVar 40 ta val;pure (Value.tuple #[]):Sem Value).run Tryz.prog W:=by kernel_rfl
theorem setE (ta b:Addr) (e:Int) (old:Value) (W:World) (hb:W.cell? b=some (.int .i64 e)) (ht:W.cell? ta=some old) (hf:W.frozen? ta=false) :
   (ReflectliteValue.set #[.agg #[.pointer (some ⟨5,40,none⟩),.pointer (some ta),.int .u64 386],.agg #[.pointer (some ⟨5,40,none⟩),.pointer (some b),.int .u64 130]]).run Tryz.prog W
     = .ok (.tuple #[]) (W.setCell ta (.int .i64 e)):=by
 rw [setForm]
 simp [loadVar,isAgg,underlying,Tryz.underlying40,hb,Result.andThen,storeVar,Value.cells,storeCells,Addr.add]
 rw [run_store Tryz.prog W ta _ _ (by rfl)]
 simp [ht,hf]
theorem noAsA (v:Value) (xT:TypeId) (w:World):(Instr.typeAssert (.iface 114 v) xT 185 true).run Tryz.prog w=.ok (.tuple #[.nilIface,.bool false]) w:=run_typeAssert_lacksB Tryz.underlying185 (by kernel_rfl) (by kernel_rfl) v xT w
theorem unwrapA (v:Value) (xT:TypeId) (w:World):(Instr.typeAssert (.iface 114 v) xT 118 true).run Tryz.prog w=.ok (.tuple #[.iface 114 v,.bool true]) w:=run_typeAssert_hasB Tryz.underlying118 (by kernel_rfl) v xT w
theorem noUnwrapE (v:Value) (xT:TypeId) (w:World):(Instr.typeAssert (.iface 40 v) xT 118 true).run Tryz.prog w=.ok (.tuple #[.nilIface,.bool false]) w:=run_typeAssert_lacksB Tryz.underlying118 (by kernel_rfl) (by kernel_rfl) v xT w
theorem noAtE (v:Value) (xT:TypeId) (w:World):(Instr.typeAssert (.iface 40 v) xT 114 true).run Tryz.prog w=.ok (.tuple #[.pointer none,.bool false]) w:=by kernel_rfl
theorem isAtA (v:Value) (xT:TypeId) (w:World):(Instr.typeAssert (.iface 114 v) xT 114 true).run Tryz.prog w=.ok (.tuple #[v,.bool true]) w:=by kernel_rfl
end As
end Go.Proofs.YtddbpnplbcjpgaaGreatDoor
namespace Go.Proofs.YtddbpnplbcjpgaaGreatDoor
open Go.RowKit
theorem good_any (w:World):Calls Tryz.prog 34 #[] w fun e w'=>e=.returned (.agg #[.int .i64 0,.int .i64 (-1)])∧Below w.heap.size w w':=by
 go_enter Tryz.func34,Tryz.ntmps34
 go_wp2
 refine bodyPost_ret (v:=.agg #[.int .i64 0,.int .i64 (-1)]) (by simp [results,Tryz.results34,go_sem]) rfl ?_
 exact ⟨rfl,(Below.refl _ _).alloc (Nat.le_refl _) _⟩
theorem is_any (e pl:Int) (w:World):Calls Tryz.prog 31 #[.agg #[.int .i64 e,.int .i64 pl]] w fun r w'=>r=.returned (.bool (e == 0))∧Below w.heap.size w w':=by
 go_enter Tryz.func31,Tryz.ntmps31
 go_wp2
 go_ret
 exact ⟨rfl,(Below.refl _ _).alloc (Nat.le_refl _) _⟩
def faultV (r:Nat×Int):Value:=.agg #[.int .i64 (r.1:Nat),.int .i64 r.2]
end Go.Proofs.YtddbpnplbcjpgaaGreatDoor
namespace Go.Proofs
open Go.Shelf
def Tryz.lays125_ren:Go.Shelf.Ren:=⟨fun | 125=>115 | 128=>138 | 129=>139 | n=>n,fun | 46=>176 | 3=>3 | 51=>202 | 53=>204 | 4=>4 | 5=>5 | 9=>9 | n=>n,fun | n=>n⟩
theorem Tryz.lays125:Go.Proofs.Lays.n125 Tryz.prog Tryz.lays125_ren:={
 mixed:=by kernel_rfl
 f125:=Tryz.func115.trans (congrArg some (by kernel_rfl))
 f128:=Tryz.func138.trans (congrArg some (by kernel_rfl))
 f129:=Tryz.func139.trans (congrArg some (by kernel_rfl))
 t3:=Tryz.underlying3
 a3:=Tryz.isAgg3
 z3:=Tryz.sizeOf3
 v3:=Tryz.zeroValue3
 t4:=Tryz.underlying4
 a4:=Tryz.isAgg4
 z4:=Tryz.sizeOf4
 v4:=Tryz.zeroValue4
 t5:=Tryz.underlying5
 a5:=Tryz.isAgg5
 z5:=Tryz.sizeOf5
 v5:=Tryz.zeroValue5
 t9:=Tryz.underlying9
 a9:=Tryz.isAgg9
 z9:=Tryz.sizeOf9
 v9:=Tryz.zeroValue9
 t46:=Tryz.underlying176
 a46:=Tryz.isAgg176
 z46:=Tryz.sizeOf176
 v46:=Tryz.zeroValue176
 t51:=Tryz.underlying202
 a51:=Tryz.isAgg202
 z51:=Tryz.sizeOf202
 v51:=Tryz.zeroValue202
 t53:=Tryz.underlying204
 a53:=Tryz.isAgg204
 z53:=Tryz.sizeOf204
 v53:=Tryz.zeroValue204 }
theorem Tryz.bits_Len (x:Int) (w:World) (h0:0≤x) (h1:x≤18446744073709551615) :
   Calls Tryz.prog 115 #[.int .u64 x] w fun e w'=>e=.returned (.int .i64 (Lib.bitLen x.toNat))∧w'=w:=Any.bits_Len Tryz.lays125 x w h0 h1
def Tryz.lays106_ren:Go.Shelf.Ren:=⟨fun | 106=>113 | 213=>128 | 265=>161 | n=>n,fun | 9=>9 | 3=>3 | n=>n,fun | n=>n⟩
theorem Tryz.lays106:Go.Proofs.Lays.n106 Tryz.prog Tryz.lays106_ren:={
 mixed:=by kernel_rfl
 f106:=Tryz.func113.trans (congrArg some (by kernel_rfl))
 f213:=Tryz.func128.trans (congrArg some (by kernel_rfl))
 f265:=Tryz.func161.trans (congrArg some (by kernel_rfl))
 t3:=Tryz.underlying3
 a3:=Tryz.isAgg3
 z3:=Tryz.sizeOf3
 v3:=Tryz.zeroValue3
 t9:=Tryz.underlying9
 a9:=Tryz.isAgg9
 z9:=Tryz.sizeOf9
 v9:=Tryz.zeroValue9 }
open Go.RowKit in
theorem Tryz.strings_Compare (a b:ByteArray) (w:World) :
   Calls Tryz.prog 113 #[.string a,.string b] w fun e w'=>e=.returned (.int .i64 (Lib.compareBytes a.data.toList b.data.toList))∧w'=w:=Any.strings_Compare Tryz.lays106 a b w
def Tryz.lays171_ren:Go.Shelf.Ren:=⟨fun | 171=>61 | 243=>86 | 246=>117 | 283=>144 | 284=>145 | 285=>146 | 286=>147 | 129=>139 | 317=>170 | 318=>171 | 319=>172 | 320=>173 | 337=>179 | 338=>180 | n=>n,fun | 3=>3 | 9=>9 | 2=>2 | 4=>4 | 171=>206 | 0=>0 | 53=>204 | 37=>178 | 5=>5 | 173=>208 | 212=>227 | 51=>202 | 20=>20 | 213=>228 | 46=>176 | 232=>235 | 233=>236 | n=>n,fun | 17=>2 | 18=>3 | 19=>4 | n=>n⟩
theorem Tryz.lays171:Go.Proofs.Lays.n171 Tryz.prog Tryz.lays171_ren:={
 mixed:=by kernel_rfl
 f129:=Tryz.func139.trans (congrArg some (by kernel_rfl))
 f171:=Tryz.func61.trans (congrArg some (by kernel_rfl))
 f243:=Tryz.func86.trans (congrArg some (by kernel_rfl))
 f246:=Tryz.func117.trans (congrArg some (by kernel_rfl))
 f283:=Tryz.func144.trans (congrArg some (by kernel_rfl))
 f284:=Tryz.func145.trans (congrArg some (by kernel_rfl))
 f285:=Tryz.func146.trans (congrArg some (by kernel_rfl))
 f286:=Tryz.func147.trans (congrArg some (by kernel_rfl))
 f317:=Tryz.func170.trans (congrArg some (by kernel_rfl))
 f318:=Tryz.func171.trans (congrArg some (by kernel_rfl))
 f319:=Tryz.func172.trans (congrArg some (by kernel_rfl))
 f320:=Tryz.func173.trans (congrArg some (by kernel_rfl))
 f337:=Tryz.func179.trans (congrArg some (by kernel_rfl))
 f338:=Tryz.func180.trans (congrArg some (by kernel_rfl))
 t0:=Tryz.underlying0
 a0:=Tryz.isAgg0
 z0:=Tryz.sizeOf0
 v0:=Tryz.zeroValue0
 t2:=Tryz.underlying2
 a2:=Tryz.isAgg2
 z2:=Tryz.sizeOf2
 v2:=Tryz.zeroValue2
 t3:=Tryz.underlying3
 a3:=Tryz.isAgg3
 z3:=Tryz.sizeOf3
 v3:=Tryz.zeroValue3
 t4:=Tryz.underlying4
 a4:=Tryz.isAgg4
 z4:=Tryz.sizeOf4
 v4:=Tryz.zeroValue4
 t5:=Tryz.underlying5
 a5:=Tryz.isAgg5
 z5:=Tryz.sizeOf5
 v5:=Tryz.zeroValue5
 t9:=Tryz.underlying9
 a9:=Tryz.isAgg9
 z9:=Tryz.sizeOf9
 v9:=Tryz.zeroValue9
 t20:=Tryz.underlying20
 a20:=Tryz.isAgg20
 z20:=Tryz.sizeOf20
 v20:=Tryz.zeroValue20
 t37:=Tryz.underlying178
 a37:=Tryz.isAgg178
 z37:=Tryz.sizeOf178
 v37:=Tryz.zeroValue178
 t46:=Tryz.underlying176
 a46:=Tryz.isAgg176
 z46:=Tryz.sizeOf176
 v46:=Tryz.zeroValue176
 t51:=Tryz.underlying202
 a51:=Tryz.isAgg202
 z51:=Tryz.sizeOf202
 v51:=Tryz.zeroValue202
 t53:=Tryz.underlying204
 a53:=Tryz.isAgg204
 z53:=Tryz.sizeOf204
 v53:=Tryz.zeroValue204
 t171:=Tryz.underlying206
 a171:=Tryz.isAgg206
 z171:=Tryz.sizeOf206
 v171:=Tryz.zeroValue206
 t173:=Tryz.underlying208
 a173:=Tryz.isAgg208
 z173:=Tryz.sizeOf208
 v173:=Tryz.zeroValue208
 t212:=Tryz.underlying227
 a212:=Tryz.isAgg227
 z212:=Tryz.sizeOf227
 v212:=Tryz.zeroValue227
 t213:=Tryz.underlying228
 a213:=Tryz.isAgg228
 z213:=Tryz.sizeOf228
 t232:=Tryz.underlying235
 a232:=Tryz.isAgg235
 z232:=Tryz.sizeOf235
 v232:=Tryz.zeroValue235
 t233:=Tryz.underlying236
 a233:=Tryz.isAgg236
 z233:=Tryz.sizeOf236
 v233:=Tryz.zeroValue236
 g17:=by kernel_rfl
 g18:=by kernel_rfl
 g19:=by kernel_rfl }
open Go.RowKit Go.Sort Go.Lib in
theorem Tryz.strconv_Itoa_small (i:Nat) (hi:i < 100) (w:World) :
   Calls Tryz.prog 61 #[.int .i64 i] w fun e w'=>e=.returned (.string ⟨(Lib.decDigits i).toArray⟩)∧w'=w:=Any.strconv_Itoa_small Tryz.lays171 i hi w
def Tryz.laysM316_ren:Go.Shelf.Ren:=⟨fun | 316=>87 | n=>n,fun | 9=>9 | 3=>3 | 4=>4 | 37=>178 | 0=>0 | 127=>179 | 5=>5 | n=>n,fun | n=>n⟩
theorem Tryz.laysM316:Go.Proofs.LaysM.n316 Tryz.prog Tryz.laysM316_ren:={
 mixed:=by kernel_rfl
 f316:=Tryz.func87.trans (congrArg some (by kernel_rfl))
 t0:=Tryz.underlying0
 a0:=Tryz.isAgg0
 z0:=Tryz.sizeOf0
 v0:=Tryz.zeroValue0
 t3:=Tryz.underlying3
 a3:=Tryz.isAgg3
 z3:=Tryz.sizeOf3
 v3:=Tryz.zeroValue3
 t4:=Tryz.underlying4
 a4:=Tryz.isAgg4
 z4:=Tryz.sizeOf4
 v4:=Tryz.zeroValue4
 t9:=Tryz.underlying9
 a9:=Tryz.isAgg9
 z9:=Tryz.sizeOf9
 v9:=Tryz.zeroValue9
 t37:=Tryz.underlying178
 a37:=Tryz.isAgg178
 z37:=Tryz.sizeOf178
 v37:=Tryz.zeroValue178
 t127:=Tryz.underlying179
 a127:=Tryz.isAgg179
 z127:=Tryz.sizeOf179
 v127:=Tryz.zeroValue179
 t5:=Tryz.underlying5
 a5:=Tryz.isAgg5
 z5:=Tryz.sizeOf5
 v5:=Tryz.zeroValue5
 i0:=by kernel_rfl
 i3:=by kernel_rfl
 i4:=by kernel_rfl
 i5:=by kernel_rfl
 i9:=by kernel_rfl
 i37:=by kernel_rfl
 i127:=by kernel_rfl }
open Go.RowKit in
theorem Tryz.stringslite_Clone (s:ByteArray) (w:World) (hlim:s.size≤281474976710656) :
   Calls Tryz.prog 87 #[.string s] w fun e w'=>e=.returned (.string s)∧Below w.heap.size w w':=Any.stringslite_Clone Tryz.laysM316 s w hlim
def Tryz.lays144_ren:Go.Shelf.Ren:=⟨fun | 144=>60 | 143=>85 | 219=>116 | 217=>140 | 225=>141 | 224=>142 | 267=>143 | 266=>168 | 314=>169 | n=>n,fun | 9=>9 | 4=>4 | 3=>3 | 5=>5 | 46=>176 | 146=>224 | 51=>202 | n=>n,fun | 1=>1 | n=>n⟩
theorem Tryz.lays144:Go.Proofs.Lays.n144 Tryz.prog Tryz.lays144_ren:={
 mixed:=by kernel_rfl
 f143:=Tryz.func85.trans (congrArg some (by kernel_rfl))
 f144:=Tryz.func60.trans (congrArg some (by kernel_rfl))
 f217:=Tryz.func140.trans (congrArg some (by kernel_rfl))
 f219:=Tryz.func116.trans (congrArg some (by kernel_rfl))
 f224:=Tryz.func142.trans (congrArg some (by kernel_rfl))
 f225:=Tryz.func141.trans (congrArg some (by kernel_rfl))
 f266:=Tryz.func168.trans (congrArg some (by kernel_rfl))
 f267:=Tryz.func143.trans (congrArg some (by kernel_rfl))
 f314:=Tryz.func169.trans (congrArg some (by kernel_rfl))
 t3:=Tryz.underlying3
 a3:=Tryz.isAgg3
 z3:=Tryz.sizeOf3
 v3:=Tryz.zeroValue3
 t4:=Tryz.underlying4
 a4:=Tryz.isAgg4
 z4:=Tryz.sizeOf4
 v4:=Tryz.zeroValue4
 t5:=Tryz.underlying5
 a5:=Tryz.isAgg5
 z5:=Tryz.sizeOf5
 v5:=Tryz.zeroValue5
 t9:=Tryz.underlying9
 a9:=Tryz.isAgg9
 z9:=Tryz.sizeOf9
 v9:=Tryz.zeroValue9
 t46:=Tryz.underlying176
 a46:=Tryz.isAgg176
 z46:=Tryz.sizeOf176
 v46:=Tryz.zeroValue176
 t51:=Tryz.underlying202
 a51:=Tryz.isAgg202
 z51:=Tryz.sizeOf202
 v51:=Tryz.zeroValue202
 t146:=Tryz.underlying224
 a146:=Tryz.isAgg224
 z146:=Tryz.sizeOf224
 v146:=Tryz.zeroValue224
 g1:=by kernel_rfl }
open Go.RowKit Go.Lib in
theorem Tryz.strings_Contains_one (s:ByteArray) (c:UInt8) (w:World) :
   Calls Tryz.prog 60 #[.string s,.string ⟨#[c]⟩] w fun e w'=>e=.returned (.bool (decide (0≤Lib.indexByte s.data.toList c)))∧w'=w:=Any.strings_Contains_one Tryz.lays144 s c w
def Tryz.lays192_ren:Go.Shelf.Ren:=⟨fun | 192=>57 | 190=>84 | 125=>115 | 258=>114 | 128=>138 | 129=>139 | 302=>129 | 303=>130 | 304=>131 | 305=>132 | 306=>133 | 307=>134 | 308=>135 | 309=>136 | 310=>137 | 333=>162 | 329=>163 | 330=>164 | 334=>165 | 335=>166 | 336=>167 | 344=>178 | n=>n,fun | 31=>103 | 0=>0 | 9=>9 | 3=>3 | 46=>176 | 51=>202 | 53=>204 | 4=>4 | 183=>196 | 182=>195 | 131=>132 | 5=>5 | 218=>217 | 222=>221 | 228=>231 | 229=>232 | n=>n,fun | n=>n⟩
theorem Tryz.lays192:Go.Proofs.Lays.n192 Tryz.prog Tryz.lays192_ren:={
 mixed:=by kernel_rfl
 f125:=Tryz.func115.trans (congrArg some (by kernel_rfl))
 f128:=Tryz.func138.trans (congrArg some (by kernel_rfl))
 f129:=Tryz.func139.trans (congrArg some (by kernel_rfl))
 f190:=Tryz.func84.trans (congrArg some (by kernel_rfl))
 f192:=Tryz.func57.trans (congrArg some (by kernel_rfl))
 f258:=Tryz.func114.trans (congrArg some (by kernel_rfl))
 f302:=Tryz.func129.trans (congrArg some (by kernel_rfl))
 f303:=Tryz.func130.trans (congrArg some (by kernel_rfl))
 f304:=Tryz.func131.trans (congrArg some (by kernel_rfl))
 f305:=Tryz.func132.trans (congrArg some (by kernel_rfl))
 f306:=Tryz.func133.trans (congrArg some (by kernel_rfl))
 f307:=Tryz.func134.trans (congrArg some (by kernel_rfl))
 f308:=Tryz.func135.trans (congrArg some (by kernel_rfl))
 f309:=Tryz.func136.trans (congrArg some (by kernel_rfl))
 f310:=Tryz.func137.trans (congrArg some (by kernel_rfl))
 f329:=Tryz.func163.trans (congrArg some (by kernel_rfl))
 f330:=Tryz.func164.trans (congrArg some (by kernel_rfl))
 f333:=Tryz.func162.trans (congrArg some (by kernel_rfl))
 f334:=Tryz.func165.trans (congrArg some (by kernel_rfl))
 f335:=Tryz.func166.trans (congrArg some (by kernel_rfl))
 f336:=Tryz.func167.trans (congrArg some (by kernel_rfl))
 f344:=Tryz.func178.trans (congrArg some (by kernel_rfl))
 t0:=Tryz.underlying0
 a0:=Tryz.isAgg0
 z0:=Tryz.sizeOf0
 v0:=Tryz.zeroValue0
 t3:=Tryz.underlying3
 a3:=Tryz.isAgg3
 z3:=Tryz.sizeOf3
 v3:=Tryz.zeroValue3
 t4:=Tryz.underlying4
 a4:=Tryz.isAgg4
 z4:=Tryz.sizeOf4
 v4:=Tryz.zeroValue4
 t5:=Tryz.underlying5
 a5:=Tryz.isAgg5
 z5:=Tryz.sizeOf5
 v5:=Tryz.zeroValue5
 t9:=Tryz.underlying9
 a9:=Tryz.isAgg9
 z9:=Tryz.sizeOf9
 v9:=Tryz.zeroValue9
 t31:=Tryz.underlying103
 a31:=Tryz.isAgg103
 z31:=Tryz.sizeOf103
 v31:=Tryz.zeroValue103
 t46:=Tryz.underlying176
 a46:=Tryz.isAgg176
 z46:=Tryz.sizeOf176
 v46:=Tryz.zeroValue176
 t51:=Tryz.underlying202
 a51:=Tryz.isAgg202
 z51:=Tryz.sizeOf202
 v51:=Tryz.zeroValue202
 t53:=Tryz.underlying204
 a53:=Tryz.isAgg204
 z53:=Tryz.sizeOf204
 v53:=Tryz.zeroValue204
 t131:=Tryz.underlying132
 a131:=Tryz.isAgg132
 z131:=Tryz.sizeOf132
 v131:=Tryz.zeroValue132
 t182:=Tryz.underlying195
 a182:=Tryz.isAgg195
 z182:=Tryz.sizeOf195
 v182:=Tryz.zeroValue195
 t183:=Tryz.underlying196
 a183:=Tryz.isAgg196
 z183:=Tryz.sizeOf196
 v183:=Tryz.zeroValue196
 t218:=Tryz.underlying217
 a218:=Tryz.isAgg217
 z218:=Tryz.sizeOf217
 v218:=Tryz.zeroValue217
 t222:=Tryz.underlying221
 a222:=Tryz.isAgg221
 z222:=Tryz.sizeOf221
 v222:=Tryz.zeroValue221
 t228:=Tryz.underlying231
 a228:=Tryz.isAgg231
 z228:=Tryz.sizeOf231
 v228:=Tryz.zeroValue231
 t229:=Tryz.underlying232
 a229:=Tryz.isAgg232
 z229:=Tryz.sizeOf232
 v229:=Tryz.zeroValue232 }
open Go.Sort Go.RowKit in
theorem Tryz.sort_Strings (blk off cap:Nat) (ss:List (List UInt8)) (w:World) (hH:Holds encStr w blk off ss.toArray) (hblk:blk < w.heap.size) (hsz:ss.length < 4611686018427387904) :
   Calls Tryz.prog 57 #[.slice (some ⟨blk,off,none⟩) ss.length cap] w fun e w' =>
     e=.returned (.tuple #[])∧∃ n os,w'=grow (putRow encStr (Sort.ahead w n) blk off (ss.mergeSort fun x y=>decide (x≤y)).toArray) os:=Any.sort_Strings Tryz.lays192 blk off cap ss w hH hblk hsz
def Tryz.lays193_ren:Go.Shelf.Ren:=⟨fun | 193=>54 | n=>n,fun | 31=>103 | 9=>9 | 4=>4 | 3=>3 | 0=>0 | n=>n,fun | n=>n⟩
theorem Tryz.lays193:Go.Proofs.Lays.n193 Tryz.prog Tryz.lays193_ren:={
 mixed:=by kernel_rfl
 f193:=Tryz.func54.trans (congrArg some (by kernel_rfl))
 t0:=Tryz.underlying0
 a0:=Tryz.isAgg0
 z0:=Tryz.sizeOf0
 v0:=Tryz.zeroValue0
 t3:=Tryz.underlying3
 a3:=Tryz.isAgg3
 z3:=Tryz.sizeOf3
 v3:=Tryz.zeroValue3
 t4:=Tryz.underlying4
 a4:=Tryz.isAgg4
 z4:=Tryz.sizeOf4
 v4:=Tryz.zeroValue4
 t9:=Tryz.underlying9
 a9:=Tryz.isAgg9
 z9:=Tryz.sizeOf9
 v9:=Tryz.zeroValue9
 t31:=Tryz.underlying103
 a31:=Tryz.isAgg103
 z31:=Tryz.sizeOf103
 v31:=Tryz.zeroValue103 }
open Go.RowKit Go.Lib in
theorem Tryz.slices_Equal_string (b1 o1 n c b2 o2 m d:Nat) (xs ys:List ByteArray) (w:World) (hx:n≤xs.length) (hy:m≤ys.length) (hbig:n≤9223372036854775807) (hbig2:m≤9223372036854775807) (hc1:∀ j,j < xs.length→w.cell? ⟨b1,o1 + j,none⟩=some (.string (xs.getD j ByteArray.empty))) (hc2:∀ j,j < ys.length→w.cell? ⟨b2,o2 + j,none⟩=some (.string (ys.getD j ByteArray.empty))) :
   Calls Tryz.prog 54 #[.slice (some ⟨b1,o1,none⟩) n c,.slice (some ⟨b2,o2,none⟩) m d] w fun e w'=>e=.returned (.bool (decide (xs.take n=ys.take m)))∧∃ q,w'=w.drewN q:=Any.slices_Equal_string Tryz.lays193 b1 o1 n c b2 o2 m d xs ys w hx hy hbig hbig2 hc1 hc2
open Go.RowKit Go.Lib in
theorem Tryz.slices_Equal_string_empty (a1 a2:Option Addr) (c m d:Nat) (w:World) (hbig2:m≤9223372036854775807) :
   Calls Tryz.prog 54 #[.slice a1 0 c,.slice a2 m d] w fun e w'=>e=.returned (.bool (decide (m=0)))∧w'=w:=Any.slices_Equal_string_empty Tryz.lays193 a1 a2 c m d w hbig2
def Tryz.laysNm216_ren:Go.Shelf.Ren:=⟨fun | 16=>126 | n=>n,fun | 24=>103 | 9=>9 | 4=>4 | n=>n,fun | n=>n⟩
theorem Tryz.laysNm216:Go.Proofs.Lays2.n16 Tryz.prog Tryz.laysNm216_ren:={
 mixed:=by kernel_rfl
 f16:=Tryz.func126.trans (congrArg some (by kernel_rfl))
 t4:=Tryz.underlying4
 a4:=Tryz.isAgg4
 z4:=Tryz.sizeOf4
 v4:=Tryz.zeroValue4
 t9:=Tryz.underlying9
 a9:=Tryz.isAgg9
 z9:=Tryz.sizeOf9
 v9:=Tryz.zeroValue9
 t24:=Tryz.underlying103
 a24:=Tryz.isAgg103
 z24:=Tryz.sizeOf103
 v24:=Tryz.zeroValue103
 i9:=by kernel_rfl }
open Go.RowKit Go.Lib in
theorem Tryz.slices_Clone_string (b off n c:Nat) (zs:List ByteArray) (w:World) (hz:n≤zs.length) (hbig:n * 16≤140737488355328) (hc:∀ j,j < zs.length→w.cell? ⟨b,off + j,none⟩=some (.string (zs.getD j ByteArray.empty))) :
   Calls Tryz.prog 126 #[.slice (some ⟨b,off,none⟩) n c] w fun e w'=>∃ v',e=.returned v'∧w'.ownsRow w.heap.size 9 1 v' n ((zs.take n).map (Value.string))∧v'≠.slice none 0 0∧Below w.heap.size w w':=Any.slices_Clone_string Tryz.laysNm216 b off n c zs w hz hbig hc
open Go.RowKit Go.Lib in
theorem Tryz.slices_Clone_string_nil (n c:Nat) (w:World) :
   Calls Tryz.prog 126 #[.slice none n c] w fun e w'=>e=.returned (.slice none 0 0)∧w'=w:=Any.slices_Clone_string_nil Tryz.laysNm216 n c w
open Go.RowKit Go.Lib in
theorem Tryz.slices_Clone_string_zero (a:Addr) (c:Nat) (w:World) :
   Calls Tryz.prog 126 #[.slice (some a) 0 c] w fun e w'=>∃ v',e=.returned v'∧w'.ownsRow w.heap.size 9 1 v' 0 []∧v'≠.slice none 0 0∧Below w.heap.size w w':=Any.slices_Clone_string_zero Tryz.laysNm216 a c w
open Go.RowKit Go.Sort in
theorem Tryz.sort_Strings_none (p:Option Addr) (cap:Nat) (w:World) :
   Calls Tryz.prog 57 #[.slice p 0 cap] w fun e w'=>e=.returned (.tuple #[])∧w'=w:=Any.sort_Strings_none Tryz.lays192 p cap w
open Go.RowKit Go.Lib in
theorem Tryz.slices_Equal_string_lens (a1 a2:Option Addr) (n c m d:Nat) (w:World) (hnm:n≠m) :
   Calls Tryz.prog 54 #[.slice a1 n c,.slice a2 m d] w fun e w'=>e=.returned (.bool false)∧w'=w:=Any.slices_Equal_string_lens Tryz.lays193 a1 a2 n c m d w hnm
end Go.Proofs
namespace Go.Proofs.YtddbpnplbcjpgaaGreatDoor
theorem bytes_ext {a b:ByteArray} (h:a.data.toList=b.data.toList):a=b:=by
 cases a;cases b;simp_all
end Go.Proofs.YtddbpnplbcjpgaaGreatDoor
namespace Go.Proofs.YtddbpnplbcjpgaaGreatDoor
open Go
section
variable {P:Program} {ops:Array Oper} {Q:Exit→Act→World→Prop} {md:Region.Mode} {S:World→Prop} {z:Nat}
def wpAnyZ (P:Program) (md:Region.Mode) (ops:Array Oper) (Q:Exit→Act→World→Prop) (S:World→Prop) (z:Nat):Nat→Array Bool→Act→World→Prop
 | 0,L,a,w=>Region.ready md ops L=[]∧Q .normal a w
 | n + 1,L,a,w=>(Region.ready md ops L=[]→Q .normal a w) ∧
   ∀ i∈Region.ready md ops L,wpOp P ops Q i (fun a' w'=>((L.setIfInBounds i true).getD z true=false→S w')∧wpAnyZ P md ops Q S z n (L.setIfInBounds i true) a' w') a w
theorem wpAny_of_Z:∀ (n:Nat) (L:Array Bool) (a:Act) (w:World),wpAnyZ P md ops Q S z n L a w→wpAny P md ops Q n L a w
 | 0,_,_,_,h=>h
 | n + 1,_,_,_,h=>⟨h.1,fun i hi=>wpOp_mono (fun a' w' h'=>wpAny_of_Z n _ a' w' h'.2) (h.2 i hi)⟩
def waitsZ (md:Region.Mode) (ops:Array Oper) (z i:Nat):Bool:=match ops[z]? with
 | some o=>o.after.any (fun e=>Region.binds md e && e.on == i)
 | none=>false
theorem waitsZ_spec {i:Nat} (h:waitsZ md ops z i=true):∃ o,ops[z]? = some o∧∃ e∈o.after,Region.binds md e=true∧e.on=i:=by
 unfold waitsZ at h
 split at h
 · rename_i o ho
   obtain ⟨e,he,hb⟩:=Array.any_eq_true'.1 h
   simp only [Bool.and_eq_true,beq_iff_eq] at hb
   exact ⟨o,ho,e,he,hb⟩
 · cases h
theorem not_readyZ {i:Nat} {L:Array Bool} (hw:waitsZ md ops z i=true) (hi:i∈Region.ready md ops L):z ∉ Region.ready md ops L:=fun hz=>by
 obtain ⟨o,ho,e,he,hb,rfl⟩:=waitsZ_spec hw
 obtain ⟨_,o2,ho2,hall⟩:=mem_ready.1 hz
 rw [ho] at ho2
 cases ho2
 have h1:=hall e he hb
 have h0:=(mem_ready.1 hi).1
 rcases Nat.lt_or_ge e.on L.size with h' | h'
 · simp [h'] at h0 h1;rw [h0] at h1;cases h1
 · simp [Array.getElem?_eq_none h'] at h1
theorem wpAnyZ_first {i:Nat} {oi:Oper} {v:Value} (hi:ops[i]? = some oi) (hsel:∀ (j:Nat) (o:Oper) cs b,ops[j]? = some o→o.op≠.select cs b) (hw:waitsZ md ops z i=true)
   (hQ:∀ c a w,Q (.panic c) (a.put oi.dst v) w→Q (.panic c) a w):∀ (n:Nat) (L:Array Bool) (a:Act) (w:World),
     (∀ j oj,ops[j]? = some oj→j≠i→L.getD j true=false→(∀ e∈oj.after,Region.binds md e=true→e.on≠i)→oi.apart ops oj=true) →
     i∈Region.ready md ops L→YieldsIf P ops S oi v a→S w→L.getD z true=false →
     wpAnyZ P md ops Q S z n (L.setIfInBounds i true) (a.put oi.dst v) w→wpAnyZ P md ops Q S z (n + 1) L a w:=by
 intro n
 induction n with
 | zero =>
   intro L a w _ hr hy hS hz H
   refine ⟨fun h=>(by rw [h] at hr;cases hr),fun j hj=>?_⟩
   by_cases hji:j=i
   · subst hji;exact hy.wpOp hi hS ⟨fun _=>hS,H⟩
   · have:=ready_mono hj hji
     rw [H.1] at this
     cases this
 | succ n ih =>
   intro L a w hfree hr hy hS hz H
   refine ⟨fun h=>(by rw [h] at hr;cases hr),fun j hj=>?_⟩
   by_cases hji:j=i
   · subst hji;exact hy.wpOp hi hS ⟨fun _=>hS,H⟩
   · have h1:=H.2 j (ready_mono hj hji)
     have hjz:j≠z:=fun e=>not_readyZ hw hr (e ▸ hj)
     have hiz:i≠z:=fun e=>not_readyZ hw hr (e ▸ hr)
     obtain ⟨hjun,oj,hoj,hall⟩:=mem_ready.1 hj
     have hnot:∀ e∈oj.after,Region.binds md e=true→e.on≠i:=fun e he hb heq=>by
       have h1:=hall e he hb
       have h0:=(mem_ready.1 hr).1
       rw [heq] at h1
       rcases Nat.lt_or_ge i L.size with h' | h'
       · simp [h'] at h0 h1;rw [h0] at h1;cases h1
       · simp [Array.getElem?_eq_none h'] at h1
     have h2:=wpOp_putIf hoj (hfree j oj hoj hji hjun hnot) (fun cs b=>hsel i oi cs b hi) (fun cs b=>hsel j oj cs b hoj) hQ hy h1
     have hfree':∀ k ok,ops[k]? = some ok→k≠i→(L.setIfInBounds j true).getD k true=false→(∀ e∈ok.after,Region.binds md e=true→e.on≠i)→oi.apart ops ok=true:=fun k ok hk hki hun hno=>by
       refine hfree k ok hk hki ?_ hno
       by_cases hjk:j=k
       · subst hjk;exact hjun
       · rw [getD_set_ne true hjk] at hun;exact hun
     have hz1:(L.setIfInBounds j true).getD z true=false:=by rw [getD_set_ne true hjz];exact hz
     have hz2:((L.setIfInBounds i true).setIfInBounds j true).getD z true=false:=by rw [getD_set_ne true hjz,getD_set_ne true hiz];exact hz
     refine wpOp_mono (fun a' w' h3=>⟨fun _=>h3.2.1 hz2,ih (L.setIfInBounds j true) a' w' hfree' (ready_mono hr (Ne.symm hji)) h3.1 (h3.2.1 hz2) hz1 ?_⟩) h2
     rw [Array.setIfInBounds_comm _ _ hji]
     exact h3.2.2
theorem wpAnyZ_take {i:Nat} {oi:Oper} {v:Value} {n:Nat} {L:Array Bool} {a:Act} {w:World} (hi:ops[i]? = some oi) (hs:Region.noSelect ops=true) (hf:Region.free md ops L i=true)
   (hr:((Region.ready md ops L).contains i && waitsZ md ops z i && !(L.getD z true))=true) (hQ:∀ c a w,Q (.panic c) (a.put oi.dst v) w→Q (.panic c) a w) (hy:YieldsIf P ops S oi v a) (hS:S w)
   (h:wpAnyZ P md ops Q S z n (L.setIfInBounds i true) (a.put oi.dst v) w):wpAnyZ P md ops Q S z (n + 1) L a w:=by
 simp only [Bool.and_eq_true,Bool.not_eq_true'] at hr
 exact wpAnyZ_first hi (Region.noSelect_spec hs) hr.1.2 hQ n L a w (Region.free_spec hi hf) (by simpa using hr.1.1) hy hS hr.2 h
def AllReadyZ (P:Program) (md:Region.Mode) (ops:Array Oper) (Q:Exit→Act→World→Prop) (S:World→Prop) (z n:Nat) (L:Array Bool) (a:Act) (w:World) (rs:List Nat):Prop :=
 ∀ i∈rs,wpOp P ops Q i (fun a' w'=>((L.setIfInBounds i true).getD z true=false→S w')∧wpAnyZ P md ops Q S z n (L.setIfInBounds i true) a' w') a w
theorem AllReadyZ.nil {n:Nat} {L:Array Bool} {a:Act} {w:World}:AllReadyZ P md ops Q S z n L a w []:=fun _ h=>by cases h
theorem AllReadyZ.cons {n:Nat} {L:Array Bool} {a:Act} {w:World} {i:Nat} {o:Oper} {rs:List Nat} (ho:ops[i]? = some o)
   (h:∀ K':Act→World→Prop,Shut (∀ a w,S w→(S w→wpAnyZ P md ops Q S z n (L.setIfInBounds i true) a w)→K' a w)→if Region.wanted o (yielded ops a.tmps)=true then Oper.wp P o a w K' Q else K' (a.put o.dst undef) w)
   (hs:AllReadyZ P md ops Q S z n L a w rs):AllReadyZ P md ops Q S z n L a w (i :: rs):=fun j hj=>by
 rcases List.mem_cons.1 hj with rfl | hj
 · exact wpOp_step ho (fun K' hK=>h K' (fun a w hS hW=>hK a w ⟨fun _=>hS,hW hS⟩))
 · exact hs j hj
theorem AllReadyZ.last {n:Nat} {L:Array Bool} {a:Act} {w:World} {o:Oper} (ho:ops[z]? = some o) (hl:z < L.size)
   (h:∀ K':Act→World→Prop,Shut (∀ a w,wpAnyZ P md ops Q S z n (L.setIfInBounds z true) a w→K' a w)→if Region.wanted o (yielded ops a.tmps)=true then Oper.wp P o a w K' Q else K' (a.put o.dst undef) w):AllReadyZ P md ops Q S z n L a w [z]:=fun j hj=>by
 obtain rfl:=List.mem_singleton.1 hj
 exact wpOp_step ho (fun K' hK=>h K' (fun a w hW=>hK a w ⟨fun e=>by simp [hl] at e,hW⟩))
theorem wpAnyZ_ready {rs:List Nat} {n:Nat} {L:Array Bool} {a:Act} {w:World} (hr:Region.ready md ops L=rs) (hne:rs≠[]) (h:AllReadyZ P md ops Q S z n L a w rs):wpAnyZ P md ops Q S z (n + 1) L a w :=
 ⟨fun h0=>absurd (hr ▸ h0) hne,hr ▸ h⟩
theorem wpAnyZ_done {L:Array Bool} {a:Act} {w:World} (hr:Region.ready md ops L=[]) (h:Q .normal a w):∀ n,wpAnyZ P md ops Q S z n L a w
 | 0=>⟨hr,h⟩
 | _ + 1=>⟨fun _=>h,by rw [hr];simp⟩
theorem wp_region_Z {id:Nat} {a:Act} {w:World} (z:Nat) (hm:P.follows .mixedOrders=true) (hS:S w.drew) (h:S w.drew→wpAnyZ P .any ops Q S z ops.size (Array.replicate ops.size false) a w.drew):(Code.region id ops true).wp P Q a w :=
 wp_region_any hm (wpAny_of_Z _ _ _ _ (h hS))
end
end Go.Proofs.YtddbpnplbcjpgaaGreatDoor
namespace Go.Proofs.YtddbpnplbcjpgaaGreatDoor
theorem beq_same (a:ByteArray):(a.toList == a.toList)=true:=by simp
theorem beq_diff {a b:ByteArray} (h:a≠b):(a.toList == b.toList)=false:=by
 refine beq_eq_false_iff_ne.2 fun e=>h ?_
 rw [ByteArray.toList_eq,ByteArray.toList_eq] at e
 cases a;cases b;simp_all
instance memB (s : ByteArray) (t : List ByteArray) : Decidable (s ∈ t) := decidable_of_iff (t.any (fun x => decide (x = s)) = true) (by simp)
def idxB (t:List ByteArray) (s:ByteArray):Nat:=t.findIdx (fun x=>decide (x=s))
def addK (t:List ByteArray) (s:ByteArray):List ByteArray:=if s∈t then t else t ++ [s]
def tabK:List ByteArray→List ByteArray→List ByteArray
 | t,[]=>t
 | t,s :: r=>tabK (addK t s) r
def atK:List ByteArray→List ByteArray→List Nat
 | _,[]=>[]
 | t,s :: r=>idxB t s :: atK (addK t s) r
theorem idxB_lt {t:List ByteArray} {s:ByteArray} (h:s∈t):idxB t s < t.length:=by
 unfold idxB;exact List.findIdx_lt_length_of_exists ⟨s,h,by simp⟩
theorem idxB_get {t:List ByteArray} {s:ByteArray} (h:s∈t):t[idxB t s]? = some s:=by
 have h1:=idxB_lt h
 have h2:=List.findIdx_getElem (xs:=t) (p:=fun x=>decide (x=s)) (w:=h1)
 rw [List.getElem?_eq_getElem h1]
 simp only [decide_eq_true_eq] at h2
 exact congrArg some h2
theorem idxB_new {t:List ByteArray} {s:ByteArray} (h:s ∉ t):idxB t s=t.length:=by
 unfold idxB
 rw [List.findIdx_eq_length]
 intro x hx
 simp only [decide_eq_false_iff_not]
 rintro rfl;exact h hx
theorem idxB_at {t:List ByteArray} (hn:t.Nodup) {j:Nat} {s:ByteArray} (h:t[j]? = some s):idxB t s=j:=by
 have hm:s∈t:=List.mem_of_getElem? h
 have h1:=idxB_get hm
 obtain ⟨hj,ej⟩:=List.getElem?_eq_some_iff.1 h
 obtain ⟨hi,ei⟩:=List.getElem?_eq_some_iff.1 h1
 exact (List.getElem_inj hn).1 (ei.trans ej.symm)
theorem addK_in {t:List ByteArray} {s:ByteArray} (h:s∈t):addK t s=t:=if_pos h
theorem addK_new {t:List ByteArray} {s:ByteArray} (h:s ∉ t):addK t s=t ++ [s]:=if_neg h
theorem addK_mem (t:List ByteArray) (s:ByteArray):s∈addK t s:=by
 unfold addK;split
 · assumption
 · simp
theorem addK_nodup {t:List ByteArray} {s:ByteArray} (h:t.Nodup):(addK t s).Nodup:=by
 unfold addK;split
 · exact h
 · rename_i hs
   rw [List.nodup_append]
   exact ⟨h,by simp,fun a ha b hb=>by simp at hb;subst hb;rintro rfl;exact hs ha⟩
theorem addK_pre (t:List ByteArray) (s:ByteArray):t <+: addK t s:=by
 unfold addK;split
 · exact List.prefix_rfl
 · exact List.prefix_append _ _
theorem tabK_pre (r:List ByteArray):∀ t,t <+: tabK t r:=by
 induction r with
 | nil=>intro t;exact List.prefix_rfl
 | cons s r ih=>intro t;exact (addK_pre t s).trans (ih _)
theorem tabK_nodup (r:List ByteArray):∀ t,t.Nodup→(tabK t r).Nodup:=by
 induction r with
 | nil=>intro t h;exact h
 | cons s r ih=>intro t h;exact ih _ (addK_nodup h)
theorem tabK_sub (r:List ByteArray):∀ t x,x∈tabK t r→x∈t∨x∈r:=by
 induction r with
 | nil=>intro t x h;exact .inl h
 | cons s r ih =>
   intro t x h
   rcases ih _ _ h with h1 | h1
   · unfold addK at h1
     split at h1
     · exact .inl h1
     · rcases List.mem_append.1 h1 with h2 | h2
       · exact .inl h2
       · simp at h2;subst h2;exact .inr (by simp)
   · exact .inr (List.mem_cons_of_mem _ h1)
theorem tabK_has (r:List ByteArray):∀ t x,x∈r→x∈tabK t r:=by
 induction r with
 | nil=>intro t x h;cases h
 | cons s r ih =>
   intro t x h
   rcases List.mem_cons.1 h with rfl | h
   · exact (tabK_pre r (addK t x)).subset (addK_mem t x)
   · exact ih _ _ h
theorem tabK_in {l t:List ByteArray} {k:Nat} {s:ByteArray} (h:l[k]? = some s) (hs:s∈t):tabK t (l.drop k)=tabK t (l.drop (k + 1)):=by
 obtain ⟨hk,e⟩:=List.getElem?_eq_some_iff.1 h
 rw [List.drop_eq_getElem_cons hk,e,tabK,addK_in hs]
theorem tabK_new {l t:List ByteArray} {k:Nat} {s:ByteArray} (h:l[k]? = some s) (hs:s ∉ t):tabK t (l.drop k)=tabK (t ++ [s]) (l.drop (k + 1)):=by
 obtain ⟨hk,e⟩:=List.getElem?_eq_some_iff.1 h
 rw [List.drop_eq_getElem_cons hk,e,tabK,addK_new hs]
theorem atK_in {l t:List ByteArray} {k:Nat} {s:ByteArray} (h:l[k]? = some s) (hs:s∈t):atK t (l.drop k)=idxB t s :: atK t (l.drop (k + 1)):=by
 obtain ⟨hk,e⟩:=List.getElem?_eq_some_iff.1 h
 rw [List.drop_eq_getElem_cons hk,e,atK,addK_in hs]
theorem atK_new {l t:List ByteArray} {k:Nat} {s:ByteArray} (h:l[k]? = some s) (hs:s ∉ t):atK t (l.drop k)=t.length :: atK (t ++ [s]) (l.drop (k + 1)):=by
 obtain ⟨hk,e⟩:=List.getElem?_eq_some_iff.1 h
 rw [List.drop_eq_getElem_cons hk,e,atK,addK_new hs,idxB_new hs]
end Go.Proofs.YtddbpnplbcjpgaaGreatDoor
