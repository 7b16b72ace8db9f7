import Derived.WalkKit
import Derived.Handy
import Derived.Below
import Derived.Laws.OwnMore
import Derived.Lib.Hide
import Derived.Deep.Slices
import Derived.Test.YtifbebhgeheooaaGreatDoorProg
import Derived.KernelRfl
import Derived.Deep.Fields
import Derived.ChangeSame
import Derived.SizedLaws
import Derived.ProofKit
import Derived.OpenShut
import Derived.LaidEql
import Derived.Stop.Asserts
import Derived.RowKitTokens
import Derived.Shelf.Strings.Builder1
import Derived.Shelf.Small.Bits
import Derived.Shelf.Small.Strs
import Derived.Shelf.Strings.BuilderF
import Derived.Shelf.Strings.BuilderK
import Derived.Shelf.Strconv.Itoa0
import Derived.Shelf.LaysM
import Derived.Shelf.Strconv.Clone
import Derived.Shelf.Strings.Search1
import Derived.Shelf.Strings.Search2
import Derived.Shelf.Strings.Search3
import Derived.Shelf.Strings.Shaped
import Derived.Shelf.Sort.Plain
import Derived.Ground.GgsProg
import Derived.Shelf.GgSortFunc.Insertion
import Derived.Shelf.GgSortFunc.InsertionK
import Derived.Shelf.GgSortFunc.Tiny
import Derived.Shelf.GgSortFunc.Compose
import Derived.Ground.GgtProg
import Derived.Shelf.GgSortMore.Stable
import Derived.Shelf.Slices.Equal
import Derived.Ground.Names2Prog
import Derived.Shelf.Slices.ReverseS
import Derived.Shelf.Slices.Clone
import Derived.Shelf.Slices.Cells
import Derived.Shelf.Slices.In.SortNone
import Derived.Shelf.Slices.In.SortNone2
import Derived.Shelf.Slices.Empties2
import Derived.Shelf.SlSortFuncK.ComposeK
namespace Go.Proofs.YtifbebhgeheooaaGreatDoor
open Go.RowKit
structure But (F:Nat→Prop) (w w':World):Prop where
 os:w'.os=w.os
 tape:w'.tape=w.tape
 output:w'.output=w.output
 size:w.heap.size≤w'.heap.size
 block:∀ k,k < w.heap.size→¬ F k→w'.heap[k]? = w.heap[k]?
theorem But.refl (F:Nat→Prop) (w:World):But F w w:=⟨rfl,rfl,rfl,Nat.le_refl _,fun _ _ _=>rfl⟩
theorem But.trans {F:Nat→Prop} {a b c:World} (h:But F a b) (k:But F b c):But F a c :=
 ⟨k.os.trans h.os,k.tape.trans h.tape,k.output.trans h.output,Nat.le_trans h.size k.size,fun i hi hn=>(k.block i (Nat.lt_of_lt_of_le hi h.size) hn).trans (h.block i hi hn)⟩
theorem But.mono {F G:Nat→Prop} {w w':World} (h:But F w w') (hF:∀ k,F k→G k):But G w w' :=
 ⟨h.os,h.tape,h.output,h.size,fun k hk hn=>h.block k hk (fun e=>hn (hF k e))⟩
theorem But.of_below {F:Nat→Prop} {w w':World} (h:Below w.heap.size w w'):But F w w':=⟨h.os,h.tape,h.output,h.size,fun k hk _=>h.block k hk⟩
theorem But.below {F:Nat→Prop} {w w':World} {B:Nat} (h:But F w w') (hB:B≤w.heap.size) (hF:∀ k,F k→B≤k):Below B w w' :=
 ⟨h.os,h.tape,h.output,h.size,fun k hk=>h.block k (Nat.lt_of_lt_of_le hk hB) (fun e=>by have:=hF k e;omega)⟩
theorem But.setCell {F:Nat→Prop} {a w:World} (h:But F a w) {p:Addr} (hp:F p.block∨a.heap.size≤p.block) (u:Value):But F a (w.setCell p u) :=
 ⟨h.os,h.tape,h.output,by simpa [World.setCell] using h.size,fun k hk hn=>(Below.heap_setCell _ _ _ _ (fun e=>by
   subst e
   rcases hp with hp | hp
   · exact hn hp
   · omega)).trans (h.block k hk hn)⟩
theorem But.below_on {F:Nat→Prop} {a b c:World} (h:But F a b) (k:Below b.heap.size b c):But F a c:=h.trans (But.of_below k)
theorem But.drew {F:Nat→Prop} {a w:World} (h:But F a w):But F a w.drew:=⟨h.os,h.tape,h.output,h.size,h.block⟩
theorem But.alloc {F:Nat→Prop} {a w:World} (h:But F a w) (o:Obj):But F a (w.alloc o):=h.below_on ((Below.refl _ _).alloc (Nat.le_refl _) o)
theorem But.grown {F:Nat→Prop} {a w w':World} {row:Option Nat} (h:But F a w) (hg:w.grownBy w' row) (hr:∀ k,row=some k→F k∨a.heap.size≤k):But F a w' :=
 ⟨hg.os.trans h.os,hg.tape.trans h.tape,hg.output.trans h.output,Nat.le_trans h.size hg.size,fun k hk hn=>(hg.block k (Nat.lt_of_lt_of_le hk h.size) (fun e=>by
   rcases hr k e.symm with e | e
   · exact hn e
   · omega)).trans (h.block k hk hn)⟩
theorem But.cell {F:Nat→Prop} {w w':World} (h:But F w w') {p:Addr} (hp:p.block < w.heap.size) (hn:¬ F p.block):w'.cell? p=w.cell? p:=World.cell?_of_block (w:=w) (h.block p.block hp hn)
theorem But.on {F:Nat→Prop} {W w w':World} {B:Nat} (h:Below B W w) (k:But F w w') (hB:B≤w.heap.size) (hF:∀ i,F i→B≤i):Below B W w':=h.trans (k.below hB hF)
theorem ownsRow_but {F:Nat→Prop} {w w':World} {base:Nat} {e:TypeId} {size n:Nat} {v:Value} {xs:List Value} (h:w.ownsRow base e size v n xs) (hb:But F w w') (hn:∀ k,v.ownBlock=some k→¬ F k):w'.ownsRow base e size v n xs:=by
 refine ⟨h.1,?_⟩
 rcases h.2 with h1 | ⟨g,cap,cur,hv,hg,hh,r⟩
 · exact .inl h1
 · exact .inr ⟨g,cap,cur,hv,hg,(hb.block g (Array.getElem?_eq_some_iff.1 hh).1 (hn g (by rw [hv];rfl))).trans hh,r⟩
theorem ownsRow_row {w:World} {base:Nat} {e t:TypeId} {size n:Nat} {v:Value} {xs:List Value} (h:w.ownsRow base e size v n xs) {P:Nat} {c:Array Value} {z:Nat×Nat} (hP:w.heap[P]? = some (.cells c t z)) (he:e≠t):v.ownBlock≠some P:=by
 intro k
 rcases h.2 with ⟨rfl,_⟩ | ⟨g,cap,cur,rfl,_,hh,_⟩
 · cases k
 have e1:g=P:=Option.some.inj k
 subst e1
 rw [hh] at hP
 simp only [Option.some.injEq,Obj.cells.injEq] at hP
 exact he hP.2.1
end Go.Proofs.YtifbebhgeheooaaGreatDoor
namespace Go.Proofs.YtifbebhgeheooaaGreatDoor
open Go.RowKit
def errV (e:Nat):Value:=if e=0 then .nilIface else .iface 42 (.int .i64 e)
def hasV (K:Int):Bool:=decide (K=1) || decide (K=4)
def hasN (K:Int):Bool:=decide (K=3) || decide (K=4)
def idOk (T R:Int):Bool:=decide (1≤T∧T≤1099511627776∧0≤R∧R≤200)
def fitsN (K N:Int):Bool:=if K=3 then decide (-1125899906842624≤N) && decide (N≤1125899906842624) else if K=4 then decide (0≤N) && decide (N≤1000) else true
def wriE (T R K:Int) (key val:ByteArray) (N:Int):Nat :=
 if K < 1∨4 < K then 1 else if idOk T R=false then 2 else if 40 < key.size∨300 < val.size then 4 else if (0 < val.size∧hasV K=false)∨(N≠0∧hasN K=false) then 3 else if fitsN K N=false then 2 else 0
theorem wriE_kind {T R K:Int} {key val:ByteArray} {N:Int} (h:K < 1∨4 < K):wriE T R K key val N=1:=if_pos h
theorem wriE_id {T R K:Int} {key val:ByteArray} {N:Int} (h:¬ (K < 1∨4 < K)) (h1:idOk T R=false):wriE T R K key val N=2:=by unfold wriE;rw [if_neg h,if_pos h1]
theorem wriE_size {T R K:Int} {key val:ByteArray} {N:Int} (h:¬ (K < 1∨4 < K)) (h1:idOk T R=true) (h2:40 < key.size∨300 < val.size):wriE T R K key val N=4:=by
 unfold wriE;rw [if_neg h,if_neg (by rw [h1];decide),if_pos h2]
theorem wriE_fits {T R K:Int} {key val:ByteArray} {N:Int} (h:¬ (K < 1∨4 < K)) (h1:idOk T R=true) (h2:¬ (40 < key.size∨300 < val.size)) (h3:¬ ((0 < val.size∧hasV K=false)∨(N≠0∧hasN K=false))) :
   wriE T R K key val N=if fitsN K N=false then 2 else 0:=by
 unfold wriE;rw [if_neg h,if_neg (by rw [h1];decide),if_neg h2,if_neg h3]
theorem wriE_rest {T R K:Int} {key val:ByteArray} {N:Int} (h:¬ (K < 1∨4 < K)) (h1:idOk T R=true) (h2:¬ (40 < key.size∨300 < val.size)) :
   wriE T R K key val N=if ((decide (0 < val.size) && !hasV K) || (decide (N≠0) && !hasN K))=true then 3 else if fitsN K N=true then 0 else 2:=by
 unfold wriE
 rw [if_neg h,if_neg (by rw [h1];decide),if_neg h2]
 cases hasV K <;> cases hasN K <;> cases fitsN K N <;> simp
theorem empty_of {s:ByteArray} (h:¬ 0 < s.size):s=⟨#[]⟩:=by
 cases s with
 | mk d => have : d.size = 0 := by have h2 : ¬ 0 < d.size := h; omega
           rw [Array.eq_empty_of_size_eq_zero this]
theorem bne_empty {s:ByteArray} (h:0 < s.size):(s.toList != [])=true:=by
 rw [ByteArray.toList_eq,bne_iff_ne]
 intro e
 have:s.data.toList.length=0:=by rw [e];rfl
 have h2:s.data.toList.length=s.size:=Array.length_toList
 omega
theorem wriE_good {T R K:Int} {key val:ByteArray} {N:Int} (h:wriE T R K key val N=0) :
   ¬ (K < 1∨4 < K)∧idOk T R=true∧key.size≤40∧val.size≤300∧¬ ((0 < val.size∧hasV K=false)∨(N≠0∧hasN K=false))∧fitsN K N=true:=by
 unfold wriE at h
 split at h
 · simp at h
 · split at h
   · simp at h
   · split at h
     · simp at h
     · split at h
       · simp at h
       · split at h
         · simp at h
         · rename_i h1 h2 h3 h4 h5
           exact ⟨h1,by simpa using h2,by omega,by omega,h4,by simpa using h5⟩
end Go.Proofs.YtifbebhgeheooaaGreatDoor
namespace Go.Proofs.YtifbebhgeheooaaGreatDoor
open Go.ChangeShapes Go.WideShapes Go.ChangeAt Go.RowKit
theorem laidOutW:laidOutB Tryz.prog=true:=by kernel_rfl
structure Wr where
 time:Int
 rep:Int
 kind:Int
 key:ByteArray
 value:ByteArray
 n:Int
def wrC (x:Wr):List Value:=[.int .i64 x.time,.int .i64 x.rep,.int .i64 x.kind,.string x.key,.string x.value,.int .i64 x.n]
def wrV (x:Wr):Value:=.agg (wrC x).toArray
def WrOk (x:Wr):Prop:=-9223372036854775808≤x.n∧x.n≤9223372036854775807∧x.key.size≤140737488351232∧x.value.size≤140737488351232
theorem pair_fields {H:Type} {enc:TypeId×Value→H} {P:Program} {W:World} {spare:Nat→Bool} {held:Bool} {n:Nat} {t:TypeId} {cs:List Value} {x:DataW H×List MemPlace} {p q:Field}
   (ht:P.underlying t=some (.struct #[p,q])) (h1:Go.Deep.oneCellFields P #[p,q]=true) (h3:P.cellsOf t=2)
   (h:DataW.trod enc P W 0 spare held n t cs=some x) :
   ∃ (a b:Value) (u v:DataW H×List MemPlace) (m:Nat),cs=[a,b]∧x.1=.agg [u.1,v.1] ∧
     DataW.trod enc P W 0 spare held m p.type [a]=some u∧DataW.trod enc P W 0 spare held m q.type [b]=some v:=by
 obtain ⟨xs,m,_,hx,hl,hxl,hf⟩:=DataW.trod_struct ht h
 rw [h3] at hl
 have hxl':xs.length=2:=hxl
 match cs,hl with
 | [a,b],_ =>
   match xs,hxl' with
   | [u,v],_ =>
     have one:=Go.Deep.hone_of h1
     have g0:=hf 0 p rfl
     have g1:=hf 1 q rfl
     rw [(one 0 p rfl).1,(one 0 p rfl).2] at g0
     rw [(one 1 q rfl).1,(one 1 q rfl).2] at g1
     exact ⟨a,b,u,v,m,rfl,by rw [hx];rfl,g0,g1⟩
def wrD {H:Type} (x:Wr):DataW H:=.agg [.agg [.lit (.int .i64 x.time),.lit (.int .i64 x.rep)],.lit (.int .i64 x.kind),.lit (.string x.key.data.toList),.lit (.string x.value.data.toList),.lit (.int .i64 x.n)]
set_option maxRecDepth 100000 in
theorem wr_elem {H:Type} {enc:TypeId×Value→H} {W:World} {spare:Nat→Bool} {held:Bool} {n:Nat} {cs:List Value} {x:DataW H×List MemPlace}
   (h:DataW.trod enc Tryz.prog W 0 spare held n 25 cs=some x):∃ t:Wr,cs=wrC t∧x.1=wrD t∧-9223372036854775808≤t.n∧t.n≤9223372036854775807:=by
 obtain ⟨xs,m,_,hx,hl,hxl,hf⟩:=DataW.trod_struct Tryz.underlying25 h
 have c6:Tryz.prog.cellsOf 25=6:=by kernel_rfl
 have c2:Tryz.prog.cellsOf 23=2:=by kernel_rfl
 have cI:Tryz.prog.cellsOf 3=1:=by kernel_rfl
 have cS:Tryz.prog.cellsOf 9=1:=by kernel_rfl
 rw [c6] at hl
 have hxl':xs.length=5:=hxl
 match cs,hl with
 | [a,b,c,d,e,f],_ =>
   match xs,hxl' with
   | [u0,u1,u2,u3,u4],_ =>
     have g0:=hf 0 _ rfl
     have g1:=hf 1 _ rfl
     have g2:=hf 2 _ rfl
     have g3:=hf 3 _ rfl
     have g4:=hf 4 _ rfl
     simp [c2,cI,cS] at g0 g1 g2 g3 g4
     obtain ⟨a',b',y0,y1,m',hab,hy,t0,t1⟩:=pair_fields Tryz.underlying23 (by kernel_rfl) (by kernel_rfl) g0
     simp at hab
     obtain ⟨rfl,rfl⟩:=hab
     obtain ⟨T,e0,f0,_⟩:=DataW.trod_int Tryz.underlying3 t0
     obtain ⟨R,e1,f1,_⟩:=DataW.trod_int Tryz.underlying3 t1
     obtain ⟨K,e2,f2,_⟩:=DataW.trod_int Tryz.underlying3 g1
     obtain ⟨key,e3,f3,_⟩:=DataW.trod_string Tryz.underlying9 g2
     obtain ⟨val,e4,f4,_⟩:=DataW.trod_string Tryz.underlying9 g3
     obtain ⟨N,e5,f5,w5⟩:=DataW.trod_int Tryz.underlying3 g4
     obtain rfl:=List.head_eq_of_cons_eq e0
     obtain rfl:=List.head_eq_of_cons_eq e1
     obtain rfl:=List.head_eq_of_cons_eq e2
     obtain rfl:=List.head_eq_of_cons_eq e3
     obtain rfl:=List.head_eq_of_cons_eq e4
     obtain rfl:=List.head_eq_of_cons_eq e5
     have b5:=bounds_i64 w5
     refine ⟨⟨T,R,K,key,val,N⟩,rfl,?_,b5.1,b5.2⟩
     rw [hx]
     simp only [List.map_cons,List.map_nil,hy,f0,f1,f2,f3,f4,f5]
     rfl
set_option maxRecDepth 100000 in
theorem writeArg {H:Type} {enc:TypeId×Value→H} {W:World} {spare:Nat→Bool} {held:Bool} {v:Value} {d:DataW H} {p:List MemPlace} {base:Nat}
   (hv:Value.okWide Tryz.prog W .any base 25 v) (h:DataW.Trod enc Tryz.prog W 0 spare held 25 v d p)
   (hw:∀ x∈DataW.weights Tryz.prog 25 d,x≤reachBytes):∃ x:Wr,v=wrV x∧WrOk x:=by
 obtain ⟨cs,rfl,hsz⟩:=okWide_struct Tryz.underlying25 hv
 obtain ⟨fuel,hf⟩:=h
 obtain ⟨x,hx,hd,h1,h2⟩:=wr_elem hf
 obtain rfl:d=wrD x:=hd
 refine ⟨x,?_,h1,h2,?_,?_⟩
 · unfold wrV;rw [←hx];simp [Value.cells]
 · have := hw x.key.size (by
     unfold wrD
     rw [DataW.weights,Tryz.underlying25]
     simp [DataW.weightsEach,DataW.weights,Tryz.underlying23])
   unfold reachBytes at this;omega
 · have := hw x.value.size (by
     unfold wrD
     rw [DataW.weights,Tryz.underlying25]
     simp [DataW.weightsEach,DataW.weights,Tryz.underlying23])
   unfold reachBytes at this;omega
end Go.Proofs.YtifbebhgeheooaaGreatDoor
namespace Go.Proofs.YtifbebhgeheooaaGreatDoor
structure Ent where
 rep:Int
 time:Int
deriving DecidableEq
def wrE (e:Ent) (last:Int):Nat:=if e.rep < 0∨200 < e.rep∨e.time < 1∨1099511627776 < e.time then 2 else if e.rep≤last then 10 else 0
def vr:List Ent→Nat→Int→Nat×Int
 | [],_,_=>(0,-1)
 | e :: r,i,last=>if wrE e last≠0 then (wrE e last,i) else vr r (i + 1) e.rep
def vrightF (l:List Ent):Nat×Int:=if 16 < l.length then (4,-1) else vr l 0 (-1)
theorem wrE_range {e:Ent} {last:Int} (h:e.rep < 0∨200 < e.rep∨e.time < 1∨1099511627776 < e.time):wrE e last=2:=by unfold wrE;rw [if_pos h]
theorem wrE_order {e:Ent} {last:Int} (h:¬ (e.rep < 0∨200 < e.rep∨e.time < 1∨1099511627776 < e.time)) (h2:e.rep≤last):wrE e last=10:=by unfold wrE;rw [if_neg h,if_pos h2]
theorem wrE_fine {e:Ent} {last:Int} (h:¬ (e.rep < 0∨200 < e.rep∨e.time < 1∨1099511627776 < e.time)) (h2:¬ e.rep≤last):wrE e last=0:=by unfold wrE;rw [if_neg h,if_neg h2]
theorem wrE_ok {e:Ent} {last:Int}:wrE e last=0↔0≤e.rep∧e.rep≤200∧1≤e.time∧e.time≤1099511627776∧last < e.rep:=by
 unfold wrE;split
 · constructor
   · intro h;omega
   · intro h;omega
 · split
   · constructor
     · intro h;omega
     · intro h;omega
   · constructor
     · intro _;omega
     · intro _;rfl
theorem vr_bad {e:Ent} {r:List Ent} {i:Nat} {last:Int} (h:wrE e last≠0):vr (e :: r) i last=(wrE e last,(i:Int)):=by rw [vr,if_pos h]
theorem vr_good {e:Ent} {r:List Ent} {i:Nat} {last:Int} (h:wrE e last=0):vr (e :: r) i last=vr r (i + 1) e.rep:=by rw [vr,if_neg (by simpa using h)]
def okV:Int→List Ent→Prop
 | _,[]=>True
 | last,e :: r=>wrE e last=0∧okV e.rep r
def rightV (l:List Ent):Prop:=l.length≤16∧okV (-1) l
theorem vr_ok (l:List Ent):∀ i last,(vr l i last).1=0↔okV last l:=by
 induction l with
 | nil=>intro i last;simp [vr,okV]
 | cons e r ih =>
   intro i last
   by_cases h:wrE e last=0
   · rw [vr_good h,ih];exact ⟨fun h2=>⟨h,h2⟩,fun h2=>h2.2⟩
   · rw [vr_bad h];exact ⟨fun h2=>absurd h2 h,fun h2=>absurd h2.1 h⟩
theorem vright_ok (l:List Ent):(vrightF l).1=0↔rightV l:=by
 unfold vrightF rightV
 split
 · constructor
   · intro h;cases h
   · intro h;omega
 · rw [vr_ok];exact ⟨fun h=>⟨by omega,h⟩,fun h=>h.2⟩
theorem vr_good_place (l:List Ent):∀ i last,(vr l i last).1=0→vr l i last=(0,-1):=by
 induction l with
 | nil=>intro i last _;rfl
 | cons e r ih =>
   intro i last h
   by_cases hw:wrE e last=0
   · rw [vr_good hw] at h ⊢;exact ih _ _ h
   · rw [vr_bad hw] at h;exact absurd h hw
theorem vright_good {l:List Ent} (h:(vrightF l).1=0):vrightF l=(0,-1):=by
 unfold vrightF at h ⊢
 split
 · rename_i h2;rw [if_pos h2] at h;cases h
 · rename_i h2;rw [if_neg h2] at h;exact vr_good_place _ _ _ h
theorem vright_of {l:List Ent} (h:rightV l):vrightF l=(0,-1):=vright_good ((vright_ok l).2 h)
theorem okV_mem {l:List Ent}:∀ {last:Int},okV last l→∀ e∈l,0≤e.rep∧e.rep≤200∧1≤e.time∧e.time≤1099511627776∧last < e.rep:=by
 induction l with
 | nil=>intro last _ e h;cases h
 | cons d r ih =>
   intro last h e he
   obtain ⟨h1,h2⟩:=h
   rw [wrE_ok] at h1
   rcases List.mem_cons.1 he with rfl | he
   · exact h1
   · have:=ih h2 e he;omega
theorem okV_snoc {l:List Ent} {e:Ent}:∀ {last:Int},okV last l→(∀ d∈l,d.rep < e.rep)→wrE e last=0→okV last (l ++ [e]):=by
 induction l with
 | nil=>intro last _ _ h;exact ⟨h,trivial⟩
 | cons d r ih =>
   intro last h hd he
   refine ⟨h.1,ih h.2 (fun x hx=>hd x (List.mem_cons_of_mem _ hx)) ?_⟩
   have:=hd d List.mem_cons_self
   rw [wrE_ok] at he ⊢;omega
def ofF:List Ent→Int→Int
 | [],_=>0
 | e :: r,x=>if e.rep=x then e.time else ofF r x
theorem ofF_at {e:Ent} {r:List Ent} {x:Int} (h:e.rep=x):ofF (e :: r) x=e.time:=by rw [ofF,if_pos h]
theorem ofF_on {e:Ent} {r:List Ent} {x:Int} (h:e.rep≠x):ofF (e :: r) x=ofF r x:=by rw [ofF,if_neg h]
theorem ofF_none {l:List Ent} {x:Int} (h:∀ e∈l,e.rep≠x):ofF l x=0:=by
 induction l with
 | nil=>rfl
 | cons e r ih=>rw [ofF_on (h e List.mem_cons_self)];exact ih fun d hd=>h d (List.mem_cons_of_mem _ hd)
theorem ofF_snoc {l:List Ent} {e:Ent} {x:Int} (h:∀ d∈l,d.rep≠e.rep):ofF (l ++ [e]) x=if e.rep=x then e.time else ofF l x:=by
 induction l with
 | nil=>simp [ofF]
 | cons d r ih =>
   have h1:=h d List.mem_cons_self
   have ih':=ih fun y hy=>h y (List.mem_cons_of_mem _ hy)
   rw [List.cons_append]
   by_cases hd:d.rep=x
   · rw [ofF_at hd,if_neg (by omega),ofF_at hd]
   · rw [ofF_on hd,ih',ofF_on hd]
theorem ofF_bd {l:List Ent} {last:Int} (h:okV last l) (x:Int):0≤ofF l x∧ofF l x≤1099511627776:=by
 induction l generalizing last with
 | nil=>exact ⟨Int.le_refl _,by show (0:Int)≤_;decide⟩
 | cons e r ih =>
   have hm:=okV_mem h e List.mem_cons_self
   by_cases hx:e.rep=x
   · rw [ofF_at hx];omega
   · rw [ofF_on hx];exact ih h.2
theorem ofF_low {l:List Ent} {last:Int} (h:okV last l) {x:Int} (hx:x≤last):ofF l x=0:=ofF_none fun e he=>by have:=okV_mem h e he;omega
theorem ofF_out {l:List Ent} {last:Int} (h:okV last l) {x:Int} (hx:x < 0∨200 < x):ofF l x=0:=ofF_none fun e he=>by have:=okV_mem h e he;omega
theorem ofF_mem {l:List Ent} {last:Int} (h:okV last l) {e:Ent} (he:e∈l):ofF l e.rep=e.time:=by
 induction l generalizing last with
 | nil=>cases he
 | cons d r ih =>
   rcases List.mem_cons.1 he with rfl | he
   · rw [ofF_at rfl]
   · have:=okV_mem h.2 e he
     rw [ofF_on (by omega)];exact ih h.2 he
theorem ofF_has {l:List Ent} {x:Int} (h:ofF l x≠0):∃ e∈l,e.rep=x∧e.time=ofF l x:=by
 induction l with
 | nil=>exact absurd rfl h
 | cons d r ih =>
   by_cases hd:d.rep=x
   · exact ⟨d,List.mem_cons_self,hd,by rw [ofF_at hd]⟩
   · rw [ofF_on hd] at h ⊢
     obtain ⟨e,he,h1,h2⟩:=ih h
     exact ⟨e,List.mem_cons_of_mem _ he,h1,h2⟩
theorem ok_ext {l m:List Ent} {a b:Int} (hl:okV a l) (hm:okV b m) (h:∀ x,ofF l x=ofF m x):l=m:=by
 induction l generalizing m a b with
 | nil =>
   cases m with
   | nil=>rfl
   | cons e r =>
     have:=okV_mem hm e List.mem_cons_self
     have h1:=h e.rep
     rw [ofF_at rfl] at h1
     have h2:ofF [] e.rep=0:=rfl
     omega
 | cons d r ih =>
   have hd:=okV_mem hl d List.mem_cons_self
   cases m with
   | nil =>
     have h1:=h d.rep
     rw [ofF_at rfl] at h1
     have h2:ofF [] d.rep=0:=rfl
     omega
   | cons e s =>
     have he:=okV_mem hm e List.mem_cons_self
     have hde:d.rep=e.rep:=by
       rcases Int.lt_trichotomy d.rep e.rep with hlt | heq | hgt
       · have h1:=h d.rep
         rw [ofF_at rfl,ofF_on (by omega),ofF_low hm.2 (by omega)] at h1
         omega
       · exact heq
       · have h1:=h e.rep
         rw [ofF_at (e:=e) rfl,ofF_on (by omega),ofF_low hl.2 (by omega)] at h1
         omega
     have hdt:d=e:=by
       have h1:=h d.rep
       rw [ofF_at rfl,ofF_at hde.symm] at h1
       cases d;cases e;simp_all
     subst hdt
     congr 1
     refine ih hl.2 hm.2 fun x=>?_
     by_cases hx:d.rep=x
     · subst hx
       rw [ofF_low hl.2 (Int.le_refl _),ofF_low hm.2 (Int.le_refl _)]
     · have h1:=h x
       rw [ofF_on hx,ofF_on hx] at h1
       exact h1
def tab (f:Nat→Int):Nat→List Ent
 | 0=>[]
 | n + 1=>if 0 < f n then tab f n ++ [⟨n,f n⟩] else tab f n
theorem tab_yes {f:Nat→Int} {n:Nat} (h:0 < f n):tab f (n + 1)=tab f n ++ [⟨n,f n⟩]:=by rw [tab,if_pos h]
theorem tab_no {f:Nat→Int} {n:Nat} (h:¬ 0 < f n):tab f (n + 1)=tab f n:=by rw [tab,if_neg h]
theorem tab_congr {f g:Nat→Int} {n:Nat} (h:∀ r,r < n→f r=g r):tab f n=tab g n:=by
 induction n with
 | zero=>rfl
 | succ n ih=>rw [tab,tab,ih fun r hr=>h r (by omega),h n (by omega)]
theorem tab_len (f:Nat→Int) (n:Nat):(tab f n).length≤n:=by
 induction n with
 | zero=>exact Nat.le_refl _
 | succ n ih =>
   by_cases h:0 < f n
   · rw [tab_yes h,List.length_append];simp;omega
   · rw [tab_no h];omega
theorem tab_lt (f:Nat→Int) (n:Nat):∀ e∈tab f n,0≤e.rep∧e.rep < (n:Int):=by
 induction n with
 | zero=>intro e h;cases h
 | succ n ih =>
   intro e he
   by_cases h:0 < f n
   · rw [tab_yes h] at he
     rcases List.mem_append.1 he with he | he
     · have:=ih e he;omega
     · rw [List.mem_singleton.1 he];simp only;omega
   · rw [tab_no h] at he
     have:=ih e he;omega
theorem tab_okV {f:Nat→Int} (hf:∀ r,f r≤1099511627776) {n:Nat} (hn:n≤201):okV (-1) (tab f n):=by
 induction n with
 | zero=>trivial
 | succ n ih =>
   by_cases h:0 < f n
   · rw [tab_yes h]
     refine okV_snoc (ih (by omega)) (fun d hd=>?_) ?_
     · have:=tab_lt f n d hd;simp only;omega
     · rw [wrE_ok];have:=hf n;simp only;omega
   · rw [tab_no h];exact ih (by omega)
theorem ofF_tab (f:Nat→Int) (n:Nat) (x:Int):ofF (tab f n) x=if 0≤x∧x < n∧0 < f x.toNat then f x.toNat else 0:=by
 induction n with
 | zero=>rw [if_neg (by omega)];rfl
 | succ n ih =>
   by_cases h:0 < f n
   · rw [tab_yes h,ofF_snoc (fun d hd=>by have:=tab_lt f n d hd;simp only;omega),ih]
     simp only
     by_cases hx:(n:Int)=x
     · subst hx
       rw [if_pos rfl,Int.toNat_natCast,if_pos ⟨by omega,by omega,h⟩]
     · rw [if_neg hx]
       by_cases h2:0≤x∧x < n∧0 < f x.toNat
       · rw [if_pos h2,if_pos ⟨h2.1,by omega,h2.2.2⟩]
       · rw [if_neg h2,if_neg (by omega)]
   · rw [tab_no h,ih]
     by_cases h2:0≤x∧x < n∧0 < f x.toNat
     · rw [if_pos h2,if_pos ⟨h2.1,by omega,h2.2.2⟩]
     · rw [if_neg h2,if_neg]
       rintro ⟨h3,h4,h5⟩
       by_cases hx:x=(n:Int)
       · subst hx;rw [Int.toNat_natCast] at h5;exact h h5
       · exact h2 ⟨h3,by omega,h5⟩
theorem tab_self {l:List Ent} {last:Int} (h:okV last l):tab (fun r=>ofF l (r:Int)) 201=l:=by
 refine ok_ext (a:=-1) (b:=last) (tab_okV (fun r=>(ofF_bd h _).2) (Nat.le_refl _)) h fun x=>?_
 rw [ofF_tab]
 by_cases h2:0≤x∧x < ((201:Nat):Int)∧0 < ofF l (x.toNat:Int)
 · rw [if_pos h2];congr 1;omega
 · rw [if_neg h2]
   have hb:=ofF_bd h x
   by_cases hx:0≤x∧x≤200
   · have e:(x.toNat:Int)=x:=by omega
     rw [e] at h2
     omega
   · rw [ofF_out h (by omega)]
def jF (a b:List Ent) (r:Nat):Int:=max (ofF a r) (ofF b r)
def joinL (a b:List Ent):List Ent:=tab (jF a b) 201
theorem jF_bd {a b:List Ent} {x y:Int} (ha:okV x a) (hb:okV y b) (r:Nat):0≤jF a b r∧jF a b r≤1099511627776:=by
 have:=ofF_bd ha r;have:=ofF_bd hb r;unfold jF;omega
theorem join_okV {a b:List Ent} {x y:Int} (ha:okV x a) (hb:okV y b):okV (-1) (joinL a b):=tab_okV (fun r=>(jF_bd ha hb r).2) (Nat.le_refl _)
theorem join_of {a b:List Ent} {x y:Int} (ha:okV x a) (hb:okV y b) (z:Int):ofF (joinL a b) z=max (ofF a z) (ofF b z):=by
 unfold joinL
 rw [ofF_tab]
 have h1:=ofF_bd ha z
 have h2:=ofF_bd hb z
 by_cases hz:0≤z∧z≤200
 · have e:(z.toNat:Int)=z:=by omega
   unfold jF
   rw [e]
   split
   · rfl
   · omega
 · rw [if_neg (by omega),ofF_out ha (by omega),ofF_out hb (by omega)];rfl
theorem join_self {a:List Ent} {x:Int} (ha:okV x a):joinL a a=a:=by
 rw [show joinL a a=tab (fun r=>ofF a (r:Int)) 201 from tab_congr fun r _=>by unfold jF;omega]
 exact tab_self ha
def joinR (a b:List Ent):Nat×List Ent :=
 if (vrightF a).1≠0 then ((vrightF a).1,[]) else if (vrightF b).1≠0 then ((vrightF b).1,[]) else if 16 < (joinL a b).length then (4,[]) else (0,joinL a b)
theorem joinR_a {a b:List Ent} (h:(vrightF a).1≠0):joinR a b=((vrightF a).1,[]):=by unfold joinR;rw [if_pos h]
theorem joinR_b {a b:List Ent} (h:(vrightF a).1=0) (h2:(vrightF b).1≠0):joinR a b=((vrightF b).1,[]):=by unfold joinR;rw [if_neg (by simpa using h),if_pos h2]
theorem joinR_many {a b:List Ent} (h:(vrightF a).1=0) (h2:(vrightF b).1=0) (h3:16 < (joinL a b).length):joinR a b=(4,[]):=by unfold joinR;rw [if_neg (by simpa using h),if_neg (by simpa using h2),if_pos h3]
theorem joinR_ok {a b:List Ent} (h:(vrightF a).1=0) (h2:(vrightF b).1=0) (h3:¬ 16 < (joinL a b).length):joinR a b=(0,joinL a b):=by unfold joinR;rw [if_neg (by simpa using h),if_neg (by simpa using h2),if_neg h3]
def covA (a b:List Ent):Bool:=b.all fun e=>decide (e.time≤ofF a e.rep)
def covB (a b:List Ent):Bool:=decide ((vrightF a).1=0) && decide ((vrightF b).1=0) && covA a b
theorem covA_iff {a b:List Ent} {x y:Int} (ha:okV x a) (hb:okV y b):covA a b=true↔∀ z,ofF b z≤ofF a z:=by
 unfold covA
 rw [List.all_eq_true]
 constructor
 · intro h z
   have h1:=ofF_bd ha z
   have h2:=ofF_bd hb z
   by_cases h0:ofF b z=0
   · omega
   · obtain ⟨e,he,rfl,h4⟩:=ofF_has h0
     have:=h e he
     simp only [decide_eq_true_eq] at this
     omega
 · intro h e he
   have:=h e.rep
   rw [ofF_mem hb he] at this
   simpa using this
theorem covB_iff {a b:List Ent} (ha:rightV a) (hb:rightV b):covB a b=true↔∀ z,ofF b z≤ofF a z:=by
 unfold covB
 rw [vright_of ha,vright_of hb,←covA_iff ha.2 hb.2];simp
end Go.Proofs.YtifbebhgeheooaaGreatDoor
namespace Go.Proofs.YtifbebhgeheooaaGreatDoor
open Go.RowKit
def atIs (w:World) (v:Value) (r:Nat×Int):Prop :=
 (r=(0,-1)∧v=.nilIface)∨(r.1≠0∧∃ b,v=.iface 130 (.pointer (some ⟨b,0,none⟩))∧b < w.heap.size∧w.cell? ⟨b,0,none⟩=some (.int .i64 (r.1:Nat))∧w.cell? ⟨b,1,none⟩=some (.int .i64 r.2))
theorem atIs.below {w w':World} {v:Value} {r:Nat×Int} (h:atIs w v r) (hb:Below w.heap.size w w'):atIs w' v r:=by
 rcases h with h | ⟨h0,b,h1,h2,h3,h4⟩
 · exact .inl h
 · exact .inr ⟨h0,b,h1,Nat.lt_of_lt_of_le h2 hb.size,(hb.cell (p:=⟨b,0,none⟩) h2).trans h3,(hb.cell (p:=⟨b,1,none⟩) h2).trans h4⟩
theorem atIs.new (w:World) (e:Nat) (pl:Int) (he:e≠0):atIs (w.alloc (.cells #[.int .i64 e,.int .i64 pl] 132)) (.iface 130 (.pointer (some ⟨w.heap.size,0,none⟩))) (e,pl) :=
 .inr ⟨he,_,rfl,by simp,by simp,by simp⟩
def RightIs (w:World) (r:Nat×Int) (e:Ending) (w':World):Prop :=
 ∃ v,e=.returned v∧atIs w' v r∧Below w.heap.size w w'
end Go.Proofs.YtifbebhgeheooaaGreatDoor
namespace Go.Proofs.YtifbebhgeheooaaGreatDoor
open Go.RowKit Go.Extern.Stop Go.Stop Go.Extern
namespace As
theorem valueOfP (t:Addr) (w:World):(ReflectliteValue.unpack (.iface 95 (.pointer (some t)))).run Tryz.prog w
   = .ok (.agg #[.pointer (some ⟨5,95,none⟩),.pointer (some ⟨w.heap.size,0,none⟩),.int .u64 150]) (w.alloc (.cells #[.pointer (some t)] 95)):=by kernel_rfl
theorem typeP (a : Addr) (w : World) : (ReflectliteValue.methodAny (ReflectliteValue.valueError "reflectlite.Value.Type" 0) (fun t _ _ _ => ReflectliteType.toType t) #[.agg #[.pointer (some ⟨5, 95, none⟩), .pointer (some a), .int .u64 150]]).run Tryz.prog w
   = .ok (.iface 182 (.agg #[.pointer (some ⟨5,95,none⟩)])) w:=by kernel_rfl
theorem methodKind (h : Value) (w : World) : (Go.method 380 182 (.agg #[h]) "Kind").run Tryz.prog w = .ok (220, h) w := by kernel_rfl
theorem kindP (w:World):((ReflectliteType.abiMethod fun t=>(fun a:Nat=>Value.int IntKind.u8 (a:Int)) <$> Rtype.kind t) #[.pointer (some ⟨5,95,none⟩)]).run Tryz.prog w=.ok (.int .u8 22) w:=by kernel_rfl
theorem kindE (w:World):((ReflectliteType.abiMethod fun t=>(fun a:Nat=>Value.int IntKind.u8 (a:Int)) <$> Rtype.kind t) #[.pointer (some ⟨5,42,none⟩)]).run Tryz.prog w=.ok (.int .u8 2) w:=by kernel_rfl
theorem isNilForm (a : Addr) (W : World) : (ReflectliteValue.method (ReflectliteValue.valueError "reflectlite.Value.IsNil" 0) ReflectliteValue.isNil #[.agg #[.pointer (some ⟨5, 95, none⟩), .pointer (some a), .int .u64 150]]).run Tryz.prog W = (ReflectliteValue.isNil 95 a 150 22).run Tryz.prog W := by kernel_rfl
theorem isNilP (a p:Addr) (W:World) (ha:W.cell? a=some (.pointer (some p))) :
   (ReflectliteValue.method (ReflectliteValue.valueError "reflectlite.Value.IsNil" 0) ReflectliteValue.isNil #[.agg #[.pointer (some ⟨5, 95, none⟩), .pointer (some a), .int .u64 150]]).run Tryz.prog W = .ok (.bool false) W := by
 rw [isNilForm]
 simp [ReflectliteValue.isNil,loadVar,isAgg,underlying,Tryz.underlying95,ha,Result.andThen]
theorem methodElem (h : Value) (w : World) : (Go.method 380 182 (.agg #[h]) "Elem").run Tryz.prog w = .ok (233, .agg #[h]) w := by kernel_rfl
theorem methodImplements (h : Value) (w : World) : (Go.method 380 182 (.agg #[h]) "Implements").run Tryz.prog w = .ok (234, .agg #[h]) w := by kernel_rfl
theorem methodAssignableTo (h : Value) (w : World) : (Go.method 380 182 (.agg #[h]) "AssignableTo").run Tryz.prog w = .ok (231, .agg #[h]) w := by kernel_rfl
theorem elemP (w:World):(ReflectliteType.method ReflectliteType.elem #[.agg #[.pointer (some ⟨5,95,none⟩)]]).run Tryz.prog w=.ok (.iface 182 (.agg #[.pointer (some ⟨5,42,none⟩)])) w:=by kernel_rfl
theorem implementsE (w : World) : (ReflectliteType.relation "Implements" ReflectliteType.implements_ #[.agg #[.pointer (some ⟨5, 42, none⟩)], .iface 182 (.agg #[.pointer (some ⟨5, 28, none⟩)])]).run Tryz.prog w = .ok (.bool true) w := by kernel_rfl
theorem typeOfE (v:Value) (w:World):(ReflectliteType.typeOf #[.iface 42 v]).run Tryz.prog w=.ok (.iface 182 (.agg #[.pointer (some ⟨5,42,none⟩)])) w:=by kernel_rfl
theorem typeOfA (v:Value) (w:World):(ReflectliteType.typeOf #[.iface 130 v]).run Tryz.prog w=.ok (.iface 182 (.agg #[.pointer (some ⟨5,130,none⟩)])) w:=by kernel_rfl
theorem assignableE (w : World) : (ReflectliteType.relation "AssignableTo" ReflectliteType.assignableTo #[.agg #[.pointer (some ⟨5, 42, none⟩)], .iface 182 (.agg #[.pointer (some ⟨5, 42, none⟩)])]).run Tryz.prog w = .ok (.bool true) w := by kernel_rfl
theorem assignableA (w : World) : (ReflectliteType.relation "AssignableTo" ReflectliteType.assignableTo #[.agg #[.pointer (some ⟨5, 130, none⟩)], .iface 182 (.agg #[.pointer (some ⟨5, 42, none⟩)])]).run Tryz.prog w = .ok (.bool false) w := by kernel_rfl
theorem valueOfE (e:Int) (w:World):(ReflectliteValue.unpack (.iface 42 (.int .i64 e))).run Tryz.prog w
   = .ok (.agg #[.pointer (some ⟨5,42,none⟩),.pointer (some ⟨w.heap.size,0,none⟩),.int .u64 130]) (w.alloc (.cells #[.int .i64 e] 42)):=by kernel_rfl
theorem elemOfP (w:World):(Rtype.elem? 95).run Tryz.prog w=.ok (some 42) w:=by kernel_rfl
theorem mkE (p:Addr) (w:World):(ReflectliteValue.mk 42 p ReflectliteValue.flagAddr).run Tryz.prog w=.ok (.agg #[.pointer (some ⟨5,42,none⟩),.pointer (some p),.int .u64 386]) w:=by kernel_rfl
theorem elemForm (a : Addr) (W : World) : (ReflectliteValue.method (ReflectliteValue.valueError "reflectlite.Value.Elem" 0) ReflectliteValue.elem #[.agg #[.pointer (some ⟨5, 95, none⟩), .pointer (some a), .int .u64 150]]).run Tryz.prog W = (ReflectliteValue.elem 95 a 150 22).run Tryz.prog W := by kernel_rfl
theorem elemVP (a p:Addr) (W:World) (ha:W.cell? a=some (.pointer (some p))) :
   (ReflectliteValue.method (ReflectliteValue.valueError "reflectlite.Value.Elem" 0) ReflectliteValue.elem #[.agg #[.pointer (some ⟨5, 95, none⟩), .pointer (some a), .int .u64 150]]).run Tryz.prog W
     = .ok (.agg #[.pointer (some ⟨5,42,none⟩),.pointer (some p),.int .u64 386]) W:=by
 rw [elemForm]
 simp [ReflectliteValue.elem,loadVar,isAgg,underlying,Tryz.underlying95,ha,Result.andThen,elemOfP,mkE]
theorem setForm (ta b:Addr) (W:World):(ReflectliteValue.set #[.agg #[.pointer (some ⟨5,42,none⟩),.pointer (some ta),.int .u64 386],.agg #[.pointer (some ⟨5,42,none⟩),.pointer (some b),.int .u64 130]]).run Tryz.prog W
   = (do let val ←loadVar 42 b;storeVar 42 ta val;pure (Value.tuple #[]):Sem Value).run Tryz.prog W:=by kernel_rfl
theorem setE (ta b:Addr) (e:Int) (old:Value) (W:World) (hb:W.cell? b=some (.int .i64 e)) (ht:W.cell? ta=some old) (hf:W.frozen? ta=false) :
   (ReflectliteValue.set #[.agg #[.pointer (some ⟨5,42,none⟩),.pointer (some ta),.int .u64 386],.agg #[.pointer (some ⟨5,42,none⟩),.pointer (some b),.int .u64 130]]).run Tryz.prog W
     = .ok (.tuple #[]) (W.setCell ta (.int .i64 e)):=by
 rw [setForm]
 simp [loadVar,isAgg,underlying,Tryz.underlying42,hb,Result.andThen,storeVar,Value.cells,storeCells,Addr.add]
 rw [run_store Tryz.prog W ta _ _ (by rfl)]
 simp [ht,hf]
theorem noAsA (v:Value) (xT:TypeId) (w:World):(Instr.typeAssert (.iface 130 v) xT 187 true).run Tryz.prog w=.ok (.tuple #[.nilIface,.bool false]) w:=run_typeAssert_lacksB Tryz.underlying187 (by kernel_rfl) (by kernel_rfl) v xT w
theorem unwrapA (v:Value) (xT:TypeId) (w:World):(Instr.typeAssert (.iface 130 v) xT 167 true).run Tryz.prog w=.ok (.tuple #[.iface 130 v,.bool true]) w:=run_typeAssert_hasB Tryz.underlying167 (by kernel_rfl) v xT w
end As
end Go.Proofs.YtifbebhgeheooaaGreatDoor
namespace Go.Proofs
open Go.Shelf
def Tryz.lays169_ren:Go.Shelf.Ren:=⟨fun | 169=>101 | n=>n,fun | 70=>154 | 9=>9 | 0=>0 | 72=>157 | 37=>155 | 127=>202 | 3=>3 | 5=>5 | n=>n,fun | n=>n⟩
theorem Tryz.lays169:Go.Proofs.Lays.n169 Tryz.prog Tryz.lays169_ren:={
 mixed:=by kernel_rfl
 f169:=Tryz.func101.trans (congrArg some (by kernel_rfl))
 t0:=Tryz.underlying0
 a0:=Tryz.isAgg0
 z0:=Tryz.sizeOf0
 v0:=Tryz.zeroValue0
 t3:=Tryz.underlying3
 a3:=Tryz.isAgg3
 z3:=Tryz.sizeOf3
 v3:=Tryz.zeroValue3
 t9:=Tryz.underlying9
 a9:=Tryz.isAgg9
 z9:=Tryz.sizeOf9
 v9:=Tryz.zeroValue9
 t37:=Tryz.underlying155
 a37:=Tryz.isAgg155
 z37:=Tryz.sizeOf155
 v37:=Tryz.zeroValue155
 t70:=Tryz.underlying154
 a70:=Tryz.isAgg154
 z70:=Tryz.sizeOf154
 v70:=Tryz.zeroValue154
 t72:=Tryz.underlying157
 a72:=Tryz.isAgg157
 z72:=Tryz.sizeOf157
 v72:=Tryz.zeroValue157
 t127:=Tryz.underlying202
 a127:=Tryz.isAgg202
 z127:=Tryz.sizeOf202
 v127:=Tryz.zeroValue202 }
theorem Tryz.Builder_Extra_169:Builder.Extra Tryz.prog Tryz.lays169_ren:={
 sizeBuilder:=by kernel_rfl
 liesBuilder:=by kernel_rfl
 t5:=Tryz.underlying5
 a5:=Tryz.isAgg5
 z5:=Tryz.sizeOf5
 v5:=Tryz.zeroValue5
 infoByte:=by kernel_rfl
 cellsByte:=by kernel_rfl
 sizeByte:=by kernel_rfl
 neB5:=by decide }
open Go.RowKit in
theorem Tryz.Builder_String_any (B b:Nat) (l:List UInt8) (w:World) (h:Lib.IsBuilder 157 5 B b (Lib.byteCells l) w) (hBw:B≤w.heap.size) :
   Calls Tryz.prog 101 #[.pointer (some ⟨b,0,none⟩)] w fun e w'=>e=.returned (.string ⟨l.toArray⟩)∧Below B w w':=Any.Builder_String_any Tryz.lays169 Tryz.Builder_Extra_169 B b l w h hBw
def Tryz.lays125_ren:Go.Shelf.Ren:=⟨fun | 125=>143 | 128=>162 | 129=>163 | n=>n,fun | 46=>96 | 3=>3 | 51=>220 | 53=>160 | 4=>4 | 5=>5 | 9=>9 | n=>n,fun | n=>n⟩
theorem Tryz.lays125:Go.Proofs.Lays.n125 Tryz.prog Tryz.lays125_ren:={
 mixed:=by kernel_rfl
 f125:=Tryz.func143.trans (congrArg some (by kernel_rfl))
 f128:=Tryz.func162.trans (congrArg some (by kernel_rfl))
 f129:=Tryz.func163.trans (congrArg some (by kernel_rfl))
 t3:=Tryz.underlying3
 a3:=Tryz.isAgg3
 z3:=Tryz.sizeOf3
 v3:=Tryz.zeroValue3
 t4:=Tryz.underlying4
 a4:=Tryz.isAgg4
 z4:=Tryz.sizeOf4
 v4:=Tryz.zeroValue4
 t5:=Tryz.underlying5
 a5:=Tryz.isAgg5
 z5:=Tryz.sizeOf5
 v5:=Tryz.zeroValue5
 t9:=Tryz.underlying9
 a9:=Tryz.isAgg9
 z9:=Tryz.sizeOf9
 v9:=Tryz.zeroValue9
 t46:=Tryz.underlying96
 a46:=Tryz.isAgg96
 z46:=Tryz.sizeOf96
 v46:=Tryz.zeroValue96
 t51:=Tryz.underlying220
 a51:=Tryz.isAgg220
 z51:=Tryz.sizeOf220
 v51:=Tryz.zeroValue220
 t53:=Tryz.underlying160
 a53:=Tryz.isAgg160
 z53:=Tryz.sizeOf160
 v53:=Tryz.zeroValue160 }
theorem Tryz.bits_Len (x:Int) (w:World) (h0:0≤x) (h1:x≤18446744073709551615) :
   Calls Tryz.prog 143 #[.int .u64 x] w fun e w'=>e=.returned (.int .i64 (Lib.bitLen x.toNat))∧w'=w:=Any.bits_Len Tryz.lays125 x w h0 h1
def Tryz.lays106_ren:Go.Shelf.Ren:=⟨fun | 106=>126 | 213=>148 | 265=>175 | n=>n,fun | 9=>9 | 3=>3 | n=>n,fun | n=>n⟩
theorem Tryz.lays106:Go.Proofs.Lays.n106 Tryz.prog Tryz.lays106_ren:={
 mixed:=by kernel_rfl
 f106:=Tryz.func126.trans (congrArg some (by kernel_rfl))
 f213:=Tryz.func148.trans (congrArg some (by kernel_rfl))
 f265:=Tryz.func175.trans (congrArg some (by kernel_rfl))
 t3:=Tryz.underlying3
 a3:=Tryz.isAgg3
 z3:=Tryz.sizeOf3
 v3:=Tryz.zeroValue3
 t9:=Tryz.underlying9
 a9:=Tryz.isAgg9
 z9:=Tryz.sizeOf9
 v9:=Tryz.zeroValue9 }
open Go.RowKit in
theorem Tryz.strings_Compare (a b:ByteArray) (w:World) :
   Calls Tryz.prog 126 #[.string a,.string b] w fun e w'=>e=.returned (.int .i64 (Lib.compareBytes a.data.toList b.data.toList))∧w'=w:=Any.strings_Compare Tryz.lays106 a b w
def Tryz.laysM316_ren:Go.Shelf.Ren:=⟨fun | 316=>120 | n=>n,fun | 9=>9 | 3=>3 | 4=>4 | 37=>155 | 0=>0 | 127=>202 | 5=>5 | n=>n,fun | n=>n⟩
theorem Tryz.laysM316:Go.Proofs.LaysM.n316 Tryz.prog Tryz.laysM316_ren:={
 mixed:=by kernel_rfl
 f316:=Tryz.func120.trans (congrArg some (by kernel_rfl))
 t0:=Tryz.underlying0
 a0:=Tryz.isAgg0
 z0:=Tryz.sizeOf0
 v0:=Tryz.zeroValue0
 t3:=Tryz.underlying3
 a3:=Tryz.isAgg3
 z3:=Tryz.sizeOf3
 v3:=Tryz.zeroValue3
 t4:=Tryz.underlying4
 a4:=Tryz.isAgg4
 z4:=Tryz.sizeOf4
 v4:=Tryz.zeroValue4
 t9:=Tryz.underlying9
 a9:=Tryz.isAgg9
 z9:=Tryz.sizeOf9
 v9:=Tryz.zeroValue9
 t37:=Tryz.underlying155
 a37:=Tryz.isAgg155
 z37:=Tryz.sizeOf155
 v37:=Tryz.zeroValue155
 t127:=Tryz.underlying202
 a127:=Tryz.isAgg202
 z127:=Tryz.sizeOf202
 v127:=Tryz.zeroValue202
 t5:=Tryz.underlying5
 a5:=Tryz.isAgg5
 z5:=Tryz.sizeOf5
 v5:=Tryz.zeroValue5
 i0:=by kernel_rfl
 i3:=by kernel_rfl
 i4:=by kernel_rfl
 i5:=by kernel_rfl
 i9:=by kernel_rfl
 i37:=by kernel_rfl
 i127:=by kernel_rfl }
open Go.RowKit in
theorem Tryz.stringslite_Clone (s:ByteArray) (w:World) (hlim:s.size≤281474976710656) :
   Calls Tryz.prog 120 #[.string s] w fun e w'=>e=.returned (.string s)∧Below w.heap.size w w':=Any.stringslite_Clone Tryz.laysM316 s w hlim
def Tryz.laysNm216_ren:Go.Shelf.Ren:=⟨fun | 16=>146 | n=>n,fun | 24=>57 | 9=>9 | 4=>4 | n=>n,fun | n=>n⟩
theorem Tryz.laysNm216:Go.Proofs.Lays2.n16 Tryz.prog Tryz.laysNm216_ren:={
 mixed:=by kernel_rfl
 f16:=Tryz.func146.trans (congrArg some (by kernel_rfl))
 t4:=Tryz.underlying4
 a4:=Tryz.isAgg4
 z4:=Tryz.sizeOf4
 v4:=Tryz.zeroValue4
 t9:=Tryz.underlying9
 a9:=Tryz.isAgg9
 z9:=Tryz.sizeOf9
 v9:=Tryz.zeroValue9
 t24:=Tryz.underlying57
 a24:=Tryz.isAgg57
 z24:=Tryz.sizeOf57
 v24:=Tryz.zeroValue57
 i9:=by kernel_rfl }
open Go.RowKit Go.Lib in
theorem Tryz.slices_Clone_string (b off n c:Nat) (zs:List ByteArray) (w:World) (hz:n≤zs.length) (hbig:n * 16≤140737488355328) (hc:∀ j,j < zs.length→w.cell? ⟨b,off + j,none⟩=some (.string (zs.getD j ByteArray.empty))) :
   Calls Tryz.prog 146 #[.slice (some ⟨b,off,none⟩) n c] w fun e w'=>∃ v',e=.returned v'∧w'.ownsRow w.heap.size 9 1 v' n ((zs.take n).map (Value.string))∧v'≠.slice none 0 0∧Below w.heap.size w w':=Any.slices_Clone_string Tryz.laysNm216 b off n c zs w hz hbig hc
open Go.RowKit Go.Lib in
theorem Tryz.slices_Clone_string_nil (n c:Nat) (w:World) :
   Calls Tryz.prog 146 #[.slice none n c] w fun e w'=>e=.returned (.slice none 0 0)∧w'=w:=Any.slices_Clone_string_nil Tryz.laysNm216 n c w
open Go.RowKit Go.Lib in
theorem Tryz.slices_Clone_string_zero (a:Addr) (c:Nat) (w:World) :
   Calls Tryz.prog 146 #[.slice (some a) 0 c] w fun e w'=>∃ v',e=.returned v'∧w'.ownsRow w.heap.size 9 1 v' 0 []∧v'≠.slice none 0 0∧Below w.heap.size w w':=Any.slices_Clone_string_zero Tryz.laysNm216 a c w
end Go.Proofs
namespace Go.Proofs.YtifbebhgeheooaaGreatDoor
theorem bytes_ext {a b:ByteArray} (h:a.data.toList=b.data.toList):a=b:=by
 cases a;cases b;simp_all
end Go.Proofs.YtifbebhgeheooaaGreatDoor
namespace Go.Proofs.YtifbebhgeheooaaGreatDoor
open Go.RowKit
def idRW (x:Int×Int):Bool:=decide (1≤x.1∧x.1≤1099511627776∧0≤x.2∧x.2≤200)
set_option maxRecDepth 100000 in
theorem idrightW_any (x1 x2:Int) (b:Bool) (w:World) (hb:idRW (x1,x2)=b) :
   Calls Tryz.prog 39 #[.agg #[.int .i64 x1,.int .i64 x2]] w fun e w'=>e=.returned (.bool b)∧Below w.heap.size w w':=by
 subst hb
 unfold idRW
 by_cases h1:1≤x1
 · by_cases h2:x1≤1099511627776
   · by_cases h3:0≤x2
     · by_cases h4:x2≤200
       · rw [decide_eq_true (show 1≤(x1,x2).1∧(x1,x2).1≤1099511627776∧0≤(x1,x2).2∧(x1,x2).2≤200 from ⟨h1,h2,h3,h4⟩)]
         go_enter Tryz.func39,Tryz.ntmps39
         go_wp2
         go_ret
         exact ⟨rfl,(Below.refl _ _).alloc (Nat.le_refl _) _⟩
       · rw [decide_eq_false (show ¬ (1≤(x1,x2).1∧(x1,x2).1≤1099511627776∧0≤(x1,x2).2∧(x1,x2).2≤200) from fun h=>h4 h.2.2.2)]
         have d:decide (x2≤200)=false:=decide_eq_false h4
         go_enter Tryz.func39,Tryz.ntmps39
         go_wp2
         go_ret
         exact ⟨by first | rfl | (show Ending.returned (Value.bool (decide _))=_;rw [d]),(Below.refl _ _).alloc (Nat.le_refl _) _⟩
     · rw [decide_eq_false (show ¬ (1≤(x1,x2).1∧(x1,x2).1≤1099511627776∧0≤(x1,x2).2∧(x1,x2).2≤200) from fun h=>h3 h.2.2.1)]
       have d:decide (0≤x2)=false:=decide_eq_false h3
       go_enter Tryz.func39,Tryz.ntmps39
       go_wp2
       go_ret
       exact ⟨by first | rfl | simp,(Below.refl _ _).alloc (Nat.le_refl _) _⟩
   · rw [decide_eq_false (show ¬ (1≤(x1,x2).1∧(x1,x2).1≤1099511627776∧0≤(x1,x2).2∧(x1,x2).2≤200) from fun h=>h2 h.2.1)]
     have d:decide (x1≤1099511627776)=false:=decide_eq_false h2
     go_enter Tryz.func39,Tryz.ntmps39
     go_wp2
     go_ret
     exact ⟨by first | rfl | simp,(Below.refl _ _).alloc (Nat.le_refl _) _⟩
 · rw [decide_eq_false (show ¬ (1≤(x1,x2).1∧(x1,x2).1≤1099511627776∧0≤(x1,x2).2∧(x1,x2).2≤200) from fun h=>h1 h.1)]
   have d:decide (1≤x1)=false:=decide_eq_false h1
   go_enter Tryz.func39,Tryz.ntmps39
   go_wp2
   go_ret
   exact ⟨by first | rfl | simp,(Below.refl _ _).alloc (Nat.le_refl _) _⟩
end Go.Proofs.YtifbebhgeheooaaGreatDoor
