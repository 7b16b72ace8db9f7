import Derived.Test.YtdhognaoejiglaaGreatDoorKb01
import Derived.Test.YtdhognaoejiglaaGreatDoorKb02
import Derived.Lib.Overlaps
import Derived.Lib.AppendZerosOnto
import Derived.Laws.IdiomCopy
import Derived.Deep.AppendSrc
import Derived.Deep.Upon
import Derived.Lib.JoinLaws
import Derived.Lib.SliceRun
import Derived.Lib.LazyBuf
import Derived.Deep.RegionLaw
import Derived.Laws.Externs
import Derived.Lib.Walk
import Derived.WalkSmall
import Derived.BigQuiet
import Derived.StringKeys
namespace Go.Proofs.YtdhognaoejiglaaGreatDoor
open Lib (hid)
set_option maxRecDepth 100000
set_option maxHeartbeats 8000000
section
open Go.RowKit
def dx (x:ByteArray):List Value:=[.string x]
def strC (l:List ByteArray):List Value:=l.flatMap dx
theorem gw (l:List ByteArray):strC l=l.map Value.string:=by
 induction l with
 | nil=>rfl
 | cons a r ih=>unfold strC at ih ⊢;rw [List.flatMap_cons,ih];rfl
theorem eO (l:List ByteArray):(strC l).length=l.length:=by rw [gw,List.length_map]
theorem tY (a b:List ByteArray):strC (a++b)=strC a++strC b:=by simp [strC]
theorem lT (l:List ByteArray) (i:Nat):strC (l.take i)=(strC l).take i:=by rw [gw,gw,List.map_take]
theorem ua (l:List ByteArray) (i:Nat):strC (l.drop i)=(strC l).drop i:=by rw [gw,gw,List.map_drop]
theorem oK (x:ByteArray):∀ u∈dx x,u.oneCell'=true:=by intro u hu;simp [dx] at hu;subst hu;rfl
theorem tZ (l:List ByteArray):∀ u∈strC l,u.oneCell'=true:=by intro u hu;obtain ⟨t,_,ht⟩:=List.mem_flatMap.1 hu;exact oK t u ht
def ff (w:World) (B:Nat) (x:ByteArray):Prop:=w.heap[B]? = some (.cells (dx x).toArray 9 (0,0))
theorem jo {g:Nat} {T:TypeId}:∀ (vs:List Value) (o:Nat) (w:World) (cs:Array Value),w.heap[g]? = some (.cells cs T (0,0))→∃ cs',(w.setCells g o vs).heap[g]? = some (.cells cs' T (0,0))∧cs'.size=cs.size
 | [],_,_,cs,h=>⟨cs,h,rfl⟩
 | v::r,o,w,cs,h=>by
  obtain ⟨cs',h1,h2⟩:=jo r (o+1) _ _ (heap_setCell_same w g o cs T v h);exact ⟨cs',h1,by rw [h2];simp⟩
theorem tI {g:Nat}:∀ (vs:List Value) (o:Nat) (w:World),(w.setCells g o vs).heap.size=w.heap.size
 | [],_,_=>rfl
 | v::r,o,w=>by rw [World.setCells,tI r (o+1)];simp
theorem fD {g:Nat} {a:World}:∀ (vs:List Value) (o:Nat) (w:World),a.grownBy w (some g)→a.grownBy (w.setCells g o vs) (some g)
 | [],_,_,h=>h
 | v :: r, o, w, h => fD r (o + 1) _ ⟨h.os, h.tape, h.output, by rw [show (w.setCell ⟨g, o, none⟩ v).heap.size = w.heap.size from by simp]; exact h.size, fun i hi hne => by
     rw [heap_setCell_other _ _ _ _ (fun e=>hne (by rw [e]))];exact h.block i hi hne⟩
theorem dE {a w:World} {o:Option Nat} (h:a.grownBy w o):a.grownBy w.drew o:=⟨h.os,by rw [←h.tape];rfl,h.output,h.size,h.block⟩
theorem tl {w:World} {base g cap:Nat} {cs:Array Value} {l:List ByteArray} (hb:base≤g) (hh:w.heap[g]? = some (.cells cs 9 (0,0))) (hs:cs.size=cap) (hl:l.length≤cap) (hc:cap≤maxLen)
 (hcell:∀ j u,(strC l)[j]? = some u→w.cell? ⟨g,j,none⟩=some u):ai w base (.slice (some ⟨g,0,none⟩) l.length cap) l:=by
 refine ⟨by simp,.inr ⟨g,cap,cs,rfl,hb,hh,hl,hc,by rw [hs,Nat.mul_one],?_⟩⟩;rw [Nat.mul_one];apply List.ext_getElem?
 intro j;by_cases hj:j<l.length
 ·rw [List.getElem?_take_of_lt hj,←gw];have h1 : (strC l)[j]? = some ((strC l)[j]'(by rw [eO]; exact hj)) := List.getElem?_eq_getElem _;have h2:=hcell j _ h1;rw [cell_of_row _ _ j _ _ (0,0) hh] at h2;rw [h1,←h2];exact Array.getElem?_toList
 ·rw [List.getElem?_eq_none (by rw [List.length_take];omega),List.getElem?_eq_none (by rw [List.length_map];omega)]
def InsR (w:World) (i g off cap:Nat) (l:List ByteArray) (x:ByteArray) (e:Ending) (w':World):Prop :=
 e=.returned (.slice (some ⟨g,off,none⟩) (l.length+1) cap)∧(∃ cs,w'.heap[g]? = some (.cells cs 9 (0,0))∧cs.size=cap)∧(∀ k u,(strC (l.take i++x::l.drop i))[k]? = some u→w'.cell? ⟨g,off+k,none⟩=some u)∧w.grownBy w' (some g)
def InsG (w:World) (i:Nat) (l:List ByteArray) (x:ByteArray) (e:Ending) (w':World):Prop :=
 ∃ G,e=.returned (.slice (some ⟨w.heap.size,0,none⟩) (l.length+1) G)∧l.length+1≤G∧G≤maxLen∧(∃ cs,w'.heap[w.heap.size]? = some (.cells cs 9 (0,0))∧cs.size=G)∧(∀ k u,(strC (l.take i++x::l.drop i))[k]? = some u→w'.cell? ⟨w.heap.size,k,none⟩=some u)∧w.grownBy w' none
def InsS (w:World) (base i:Nat) (v:Value) (l:List ByteArray) (x:ByteArray) (e:Ending) (w':World):Prop :=
 ∃ g cap,e=.returned (.slice (some ⟨g,0,none⟩) (l.length+1) cap)∧ai w' base (.slice (some ⟨g,0,none⟩) (l.length+1) cap) (l.take i++x::l.drop i)∧w.grownBy w' v.ownBlock∧(v.ownBlock=some g∨w.heap.size≤g)∧g<w'.heap.size
def rowS (w:World) (g off cap:Nat) (l:List ByteArray):Prop :=
 (∀ j u,(strC l)[j]? = some u→w.cell? ⟨g,off+j,none⟩=some u)∧(∀ j,j<cap→(w.cell? ⟨g,off+j,none⟩).isSome=true∧w.frozen? ⟨g,off+j,none⟩=false)
theorem ai.rowS {w:World} {base:Nat} {v:Value} {l:List ByteArray} (h:ai w base v l) (h0:0<l.length) :
 ∃ g cap,v=.slice (some ⟨g,0,none⟩) l.length cap∧base≤g∧g<w.heap.size∧l.length≤cap∧cap≤maxLen∧rowS w g 0 cap l∧∃ cs,w.heap[g]? = some (.cells cs 9 (0,0))∧cs.size=cap:=by
 have hall:=h;have hlt:=h.lt;obtain ⟨_,h1⟩:=h;rcases h1 with ⟨rfl,hn⟩ | ⟨g,cap,cur,rfl,hb,hh,hc,hm,hs,ht⟩
 ·omega
 ·refine ⟨g,cap,rfl,hb,(hlt g rfl).2,hc,hm,⟨fun j u hj=>?_,fun j hj=>⟨?_,?_⟩⟩,?_⟩
  ·have hjl:j<l.length:=by rw [←eO];exact (List.getElem?_eq_some_iff.1 hj).1
   rw [Nat.zero_add,World.ownsRow.cellAt hall j (by omega),←gw];exact hj
  ·rw [Nat.zero_add,cell_of_row _ _ j _ _ (0,0) hh,Array.getElem?_eq_getElem (by rw [hs];omega)];rfl
  ·simp [World.frozen?,hh]
  ·exact ⟨cur,hh,by rw [hs,Nat.mul_one]⟩
theorem lG {P:Program} (w:World) (dT sT ty elem:TypeId) (size:Nat) (b o dLen dCap:Nat) (a:Addr) (sLen sCap:Nat) (cs:List Value)
 (hu:P.underlying dT=some (.slice elem)) (hs:(P.info? elem).map (·.size)=some size) (hn:cs.length=Nat.min sLen dLen * size)
 (hsrc:∀ j v,cs[j]? = some v→w.cell? (a.add j)=some v) (hc:∀ j,j<cs.length→(w.cell? ⟨b,o+j,none⟩).isSome=true) (hf:∀ j,j<cs.length→w.frozen? ⟨b,o+j,none⟩=false) (h1:∀ v∈cs,v.oneCell'=true) :
 (Builtin.copy_ #[dT,sT] ty #[.slice (some ⟨b,o,none⟩) dLen dCap,.slice (some a) sLen sCap]).run P w=.ok (goInt (Nat.min sLen dLen)) (w.setCells b o cs):=by
 have hl:=run_loadCells_list (P:=P) w a cs hsrc;have hst:=run_storeCells_cells (P:=P) b o cs 0 w (by simpa using hc) (by simpa using hf) h1;cases hq:P.info? elem with
 | none=>simp [hq] at hs
 | some i =>
  have hi:i.size=size:=by simpa [hq] using hs
  simp [Builtin.copy_,run_underlying hu,Builtin.lenOf,Builtin.firstCells,sizeOf,typeInfo,hq,hi,←hn,hl,hst]
theorem rowS.drew {w:World} {g off cap:Nat} {l:List ByteArray} (h:rowS w g off cap l):rowS w.drew g off cap l:=h
theorem vO {P:Program} (w:World) {ops:Array Oper} {rest:List Oper} {o:Oper} {a:Act} {Q:Exit→Act→World→Prop} (hgd:o.guard=none) (d s:Operand) (t t':TypeId)
 (ho:o.op=.call { callee:=.builtin .copy,args:=#[d,s],argTypes:=#[t,t'] }) (v u:Value) (hd:a.eval d=v) (hs:a.eval s=u) {v':Value} {w':World}
 (hr:(Builtin.copy_ #[t,t'] o.type #[v,u]).run P w=.ok v' w') (h:wpList P ops Q rest (a.put o.dst v') w'):wpList P ops Q (o::rest) a w :=
 wpList_plain hgd fun K hK=>by
  unfold Oper.wp execOp;simp only [ho,resolve,invoke,builtin,Sem.run_bind,Sem.run_pure,Result.andThen_ok,List.map_toArray,List.map_cons,List.map_nil,hd,hs,hr]
  exact hK _ _ h
theorem tV {P:Program} {ops:Array Oper} {o:Oper} {a:Act} {w:World} {K:Act→World→Prop} {Q:Exit→Act→World→Prop} {E:Prop}
 (hg:o.guard=none) (d x:Operand) (dT sT:TypeId) (hop:o.op=Op.call { callee:=Callee.builtin Builtin.copy,args:=#[d,x],argTypes:=#[dT,sT] })
 (v u:Value) (hd:a.eval d=v) (hx:a.eval x=u) {v':Value} {w':World} (hr:(Builtin.copy_ #[dT,sT] o.type #[v,u]).run P w=.ok v' w') (hK:K (a.put o.dst v') w') :
 if Region.wanted o (yielded ops a.tmps)=true then Oper.wp P o a w K Q else E:=by
 have hw:Region.wanted o (yielded ops a.tmps)=true:=by simp [Region.wanted,hg]
 rw [if_pos hw];unfold Oper.wp;simp [execOp,hop,resolve,invoke,builtin,hd,hx,hr,Result.andThen]
 exact hK
theorem lL (b:Nat) (vs:List Value) (o:Nat) (w:World) (h:∀ j,j<vs.length→(w.cell? ⟨b,o+j,none⟩).isSome=true) (k:Nat) (hk:(w.cell? ⟨b,k,none⟩).isSome=true):((w.setCells b o vs).cell? ⟨b,k,none⟩).isSome=true:=by
 by_cases hin:o≤k∧k<o+vs.length
 ·have:=World.cell?_setCells_in b vs o w h (k-o) (by omega);rw [show o+(k-o)=k by omega] at this;rw [this];rfl
 ·rw [World.cell?_setCells_out b vs o w ⟨b,k,none⟩ (fun _ _=>by show k<o∨o+vs.length≤k;omega)];exact hk
theorem DX {w:World} {g off i:Nat} {l:List ByteArray} {x:ByteArray} (hi:i≤l.length) (hh:∀ j,j<i→∀ u,(strC l)[j]? = some u→w.cell? ⟨g,off+j,none⟩=some u) (hall:∀ j,j<(l.length+1)→(w.cell? ⟨g,off+j,none⟩).isSome=true) :
 ∀ k u,(strC (l.take i++x::l.drop i))[k]? = some u→((w.setCells g (off+(i+1)) (strC (l.drop i))).setCells g (off+i) (dx x)).cell? ⟨g,off+k,none⟩=some u:=by
 intro k u hk;have hdl:(strC (l.drop i)).length=(l.length-i):=by rw [eO,List.length_drop]
 have htl:(strC (l.take i)).length=i:=by rw [eO,List.length_take];omega
 have hxl:(dx x).length=1:=rfl;have hkl:k<(l.length+1):=by
  have:=(List.getElem?_eq_some_iff.1 hk).1;rw [eO,List.length_append,List.length_take,List.length_cons,List.length_drop] at this;omega
 have hS1:∀ j,j<(strC (l.drop i)).length→(w.cell? ⟨g,off+(i+1)+j,none⟩).isSome=true:=fun j hj=>by rw [Nat.add_assoc];exact hall _ (by omega)
 rw [tY,show strC (x::l.drop i)=dx x++strC (l.drop i) by simp [strC]] at hk;by_cases h1:k<i
 ·rw [World.cell?_setCells_out _ _ _ _ _ (fun _ _=>.inl (by show off+k<_;omega)),World.cell?_setCells_out _ _ _ _ _ (fun _ _=>.inl (by show off+k<_;omega))];rw [List.getElem?_append_left (by omega),lT,List.getElem?_take_of_lt h1] at hk;exact hh k h1 u hk
 ·rw [List.getElem?_append_right (by omega),htl] at hk;by_cases h2:k<(i+1)
  ·have := World.cell?_setCells_in g (dx x) (off + i) (w.setCells g (off + (i + 1)) (strC (l.drop i))) (fun t ht => by
    rw [Nat.add_assoc];exact lL g _ _ w hS1 _ (hall _ (by omega))) (k-i) (by omega)
   rw [show off+i+(k-i)=off+k by omega] at this;rw [List.getElem?_append_left (by omega)] at hk;rw [this,←hk,List.getElem?_eq_getElem]
  ·rw [List.getElem?_append_right (by omega),hxl] at hk;rw [World.cell?_setCells_out _ _ _ _ _ (fun _ _=>.inr (by show _≤off+k;omega))];have:=World.cell?_setCells_in g (strC (l.drop i)) (off+(i+1)) w hS1 (k-(i+1)) (by omega);rw [show off+(i+1)+(k-(i+1))=off+k by omega] at this;rw [this,←hk,show k-i-1=k-(i+1) by omega,List.getElem?_eq_getElem]
theorem E1 (g off cap i n vb vc:Nat) (l:List ByteArray) (x:ByteArray) (w:World) (h:rowS w g off cap l) (hrow:∃ cs,w.heap[g]? = some (.cells cs 9 (0,0))∧cs.size=cap) (hn:n=l.length) (hi:i<n) (hroom:n+1≤cap) (hm:cap≤9223372036854775807) (hvb:ff w vb x) (hne:vb≠g) :
 Calls Tryz.prog 102 #[.slice (some ⟨g,off,none⟩) n cap,.int .i64 (i:Int),.slice (some ⟨vb,0,none⟩) 1 vc] w (InsR w i g off cap l x):=by
 have hsh:w.shape? g=some (9,cap):=by obtain ⟨cs,h1,h2⟩:=hrow;simp [World.shape?,h1,h2]
 have hwrs:(Tryz.prog.info? 9).map (·.size)=some 1:=by kernel_rfl
 obtain ⟨q,hq⟩:∃ q,q=i+1:=⟨_,rfl⟩;obtain ⟨p,hp⟩:∃ p,p=n+1:=⟨_,rfl⟩;obtain ⟨xs,hxs⟩:∃ xs,xs=dx x:=⟨_,rfl⟩;have hxl:xs.length=1:=by rw [hxs];rfl
 have hx1:∀ v∈xs,v.oneCell'=true:=by rw [hxs];exact oK x
 have hvc:∀ j v,xs[j]? = some v→w.cell? ⟨vb,j,none⟩=some v:=fun j v hj=>by
  rw [cell_of_row _ _ j _ _ (0,0) hvb];rw [hxs] at hj;simpa using hj
 have hic:=DX (w:=w.drew) (g:=g) (off:=off) (i:=i) (l:=l) (x:=x) (by omega) (fun j _ u hj=>h.drew.1 j u hj) (fun j hj=>(h.drew.2 j (by omega)).1);obtain ⟨ds,hds⟩:∃ ds,ds=strC (l.drop i):=⟨_,rfl⟩;rw [←hds,←hxs,←hq] at hic;have hdl:ds.length=(n-i):=by rw [hds,eO,List.length_drop,hn]
 have hov:∀ lb cb,(callFunc 125 #[.slice (some ⟨vb,0,none⟩) 1 vc,.slice (some ⟨g,off+q,none⟩) lb cb]).run Tryz.prog w=.ok (.value (.bool false)) w:=fun lb cb=>by
  rw [run_callFunc_extern Tryz.func125 (by kernel_rfl) (by kernel_rfl) (by kernel_rfl) (e:=Extern.SlicesOverlaps.overlaps #[98,98] #[4]) (by kernel_rfl),
   Lib.run_overlaps_apart w 98 4 9 Tryz.underlying98 1 (fun w=>by kernel_rfl) ⟨vb,0,none⟩ ⟨g,off+q,none⟩ 1 vc lb cb hne 9 9 1 (cap) (by unfold ff at hvb;simp [World.shape?,hvb,dx]) hsh (by omega) (by unfold ff at hvb;simp [World.frozen?,hvb]) (by unfold ff at hvb;simp [World.frozen?,hvb])]
  rfl
 have hcp1:∀ ty dc sc,(Builtin.copy_ #[98,98] ty #[.slice (some ⟨g,off+q,none⟩) (p-q) dc,.slice (some ⟨g,off+i,none⟩) (p-i) sc]).run Tryz.prog w.drew=.ok (goInt (Nat.min (p-i) (p-q))) (w.drew.setCells g (off+q) ds):=fun ty dc sc =>
  lG w.drew _ _ ty 9 1 g (off+q) (p-q) dc ⟨g,off+i,none⟩ (p-i) sc ds Tryz.underlying98 hwrs (by rw [hdl];simp only [Nat.min_def];split <;> omega)
   (fun j v hj=>by rw [Addr.add_lit,Nat.add_assoc];refine h.drew.1 _ v ?_;rw [hds,ua,List.getElem?_drop] at hj;exact hj)
   (fun j hj=>by rw [Nat.add_assoc];exact (h.drew.2 _ (by omega)).1) (fun j hj=>by rw [Nat.add_assoc];exact (h.drew.2 _ (by omega)).2) (fun v hv=>by rw [hds] at hv;exact tZ _ v hv)
 obtain ⟨W1,hW1⟩:∃ W1,W1=w.drew.setCells g (off+q) ds:=⟨_,rfl⟩;have hsp1:∀ k,k<cap→(W1.cell? ⟨g,off+k,none⟩).isSome=true:=fun k hk=>by
  rw [hW1];exact lL g _ _ _ (fun j hj=>by rw [Nat.add_assoc];exact (h.drew.2 _ (by omega)).1) _ (h.drew.2 k hk).1
 have hcp2:∀ ty dc,(Builtin.copy_ #[98,98] ty #[.slice (some ⟨g,off+i,none⟩) (p-i) dc,.slice (some ⟨vb,0,none⟩) 1 vc]).run Tryz.prog W1=.ok (goInt (Nat.min 1 (p-i))) (W1.setCells g (off+i) xs):=fun ty dc =>
  lG W1 _ _ ty 9 1 g (off+i) (p-i) dc ⟨vb,0,none⟩ 1 vc xs Tryz.underlying98 hwrs (by rw [hxl];simp only [Nat.min_def];split <;> omega)
   (fun j v hj=>by
    rw [Addr.add_lit,hW1,World.cell?_setCells_out g _ _ _ _ (fun h _=>absurd h hne),Nat.zero_add];exact hvc j v hj)
   (fun j hj=>by rw [Nat.add_assoc];exact hsp1 _ (by omega)) (fun j hj=>by rw [hW1,World.frozen?_setCells,Nat.add_assoc];exact (h.drew.2 _ (by omega)).2) hx1
 rw [←hW1] at hcp1 hic;have hg1:w.grownBy W1 (some g):=by rw [hW1];exact fD ds (off+q) _ (dE ⟨rfl,rfl,rfl,Nat.le_refl _,fun _ _ _=>rfl⟩)
 have HG:=hid (fD xs (off+i) _ hg1);have HR:Hid (∃ cs,(W1.setCells g (off+i) xs).heap[g]? = some (.cells cs 9 (0,0))∧cs.size=cap):=by
  obtain ⟨cs,h1,h2⟩:=hrow;obtain ⟨cs2,h3,h4⟩:=jo (T:=9) ds (off+q) w.drew cs h1;rw [←hW1] at h3;obtain ⟨cs3,h5,h6⟩:=jo xs (off+i) W1 cs2 h3;exact hid ⟨cs3,h5,by rw [h6,h4,h2]⟩
 have HIC:=hid hic;have HN:=hid hn;have HP:=hid hp;have hin:i≤n:=by omega
 have hz2:¬ ((i:Int)=(n:Int)):=by omega
 have hz3:((i:Int) == (n:Int))=false:=by simp;omega
 have w1:IntKind.i64.wrap ((i:Int)+1)=(q:Int):=by rw [show (i:Int)+1=(q:Int) by omega];exact IntWalk.i64_in _ (by omega)
 have w2:(i:Int)+1=(q:Int):=by omega
 have w3:IntKind.i64.wrap (q:Int)=(q:Int):=IntWalk.i64_in _ (by omega);have w4:IntKind.i64.wrap ((n:Int)+1)=(p:Int):=by rw [show (n:Int)+1=(p:Int) by omega];exact IntWalk.i64_in _ (by omega)
 have w5:(n:Int)+1=(p:Int):=by omega
 have w6:IntKind.i64.wrap (p:Int)=(p:Int):=IntWalk.i64_in _ (by omega);have hpc:p≤cap:=by omega
 have hpc2:¬ (cap:Int)<(p:Int):=by omega
 have hpc3:decide ((cap:Int)<(p:Int))=false:=by simp;omega
 have hqp:q≤p:=by omega
 have hip:i≤p:=by omega
 have hcq:¬ cap=q:=by omega
 have hci:¬ cap=i:=by omega
 have hqc:q≤cap:=by omega
 have hicc:i≤cap:=by omega
 clear hwrs hxs hxl hx1 hvc hic hds hdl hW1 hsp1 hg1 hrow hn hp hq h hsh hvb hne hroom;go_enter Tryz.func102,Tryz.ntmps102
 go_wp2_with (simp only [hov])
 go_region_law (refine tV rfl _ _ 98 98 rfl _ _ (by simp [Act.eval,Act.put]) (by simp [Act.eval,Act.put]) (hcp1 _ _ _) ?_)
 go_wp2_with (at_builtin;refine vO _ rfl _ _ 98 98 rfl _ _ rfl rfl (hcp2 _ _) ?_)
 go_ret;exact ⟨by rw [←HN.out,←HP.out];rfl,HR.out,HIC.out,HG.out⟩
theorem DY {w:World} {g i:Nat} {l:List ByteArray} {x:ByteArray} (hi:i≤l.length) (hh:∀ j,j<i→∀ u,(strC l)[j]? = some u→w.cell? ⟨g,j,none⟩=some u) (hall:∀ j,j<(l.length+1)→(w.cell? ⟨g,j,none⟩).isSome=true) :
 ∀ k u,(strC (l.take i++x::l.drop i))[k]? = some u→((w.setCells g (i) (dx x)).drew.setCells g ((i+1)) (strC (l.drop i))).cell? ⟨g,k,none⟩=some u:=by
 obtain ⟨xs,hxs⟩:∃ xs,xs=dx x:=⟨_,rfl⟩;have hxl:xs.length=1:=by rw [hxs];rfl
 have hca:strC (l.take i++x::l.drop i)=strC (l.take i)++(xs++strC (l.drop i)):=by rw [tY,hxs];simp [strC]
 rw [←hxs,hca];intro k u hk;have hdl:(strC (l.drop i)).length=(l.length-i):=by rw [eO,List.length_drop]
 have htl:(strC (l.take i)).length=i:=by rw [eO,List.length_take];omega
 have hkl:k<(l.length+1):=by
  have:=(List.getElem?_eq_some_iff.1 hk).1;rw [List.length_append,List.length_append,htl,hxl,hdl] at this;omega
 have hS1:∀ j,j<xs.length→(w.cell? ⟨g,i+j,none⟩).isSome=true:=fun j hj=>hall _ (by omega)
 have hdr:∀ a:Addr,(w.setCells g (i) xs).drew.cell? a=(w.setCells g (i) xs).cell? a:=fun a=>rfl
 clear hca hxs;by_cases h1:k<i
 ·rw [World.cell?_setCells_out _ _ _ _ _ (fun _ _=>.inl (by show k<_;omega)),hdr,World.cell?_setCells_out _ _ _ _ _ (fun _ _=>.inl (by show k<_;omega))];rw [List.getElem?_append_left (by omega),lT,List.getElem?_take_of_lt h1] at hk;exact hh k h1 u hk
 ·rw [List.getElem?_append_right (by omega),htl] at hk;by_cases h2:k<(i+1)
  ·rw [World.cell?_setCells_out _ _ _ _ _ (fun _ _=>.inl (by show k<_;omega)),hdr];have:=World.cell?_setCells_in g xs (i) w hS1 (k-i) (by omega);rw [show i+(k-i)=k by omega] at this;rw [List.getElem?_append_left (by omega)] at hk;rw [this,←hk,List.getElem?_eq_getElem]
  ·rw [List.getElem?_append_right (by omega),hxl] at hk;have:=World.cell?_setCells_in g (strC (l.drop i)) ((i+1)) (w.setCells g (i) xs).drew (fun t ht=>by
    rw [hdr];exact lL g _ _ w hS1 _ (hall _ (by omega))) (k-(i+1)) (by omega)
   rw [show (i+1)+(k-(i+1))=k by omega] at this;rw [this,←hk,show k-i-1=k-(i+1) by omega,List.getElem?_eq_getElem]
theorem E0 (g off cap i n vb vc:Nat) (l:List ByteArray) (x:ByteArray) (w:World) (h:rowS w g off cap l) (hn:n=l.length) (hi:i<n) (hnc:n≤cap) (hroom:cap<n+1) (hm:n≤1000000) (hvb:ff w vb x) (hgs:g<w.heap.size) :
 Calls Tryz.prog 102 #[.slice (some ⟨g,off,none⟩) n cap,.int .i64 (i:Int),.slice (some ⟨vb,0,none⟩) 1 vc] w (InsG w i l x):=by
 obtain ⟨i0,hi0,hz0,hzs,hzb⟩:=info_parts nF;have hwrs:(Tryz.prog.info? 9).map (·.size)=some 1:=by kernel_rfl
 obtain ⟨q,hq⟩:∃ q,q=i+1:=⟨_,rfl⟩;obtain ⟨p,hp⟩:∃ p,p=n+1:=⟨_,rfl⟩;obtain ⟨xs,hxs⟩:∃ xs,xs=dx x:=⟨_,rfl⟩;have hxl:xs.length=1:=by rw [hxs];rfl
 have hx1:∀ v∈xs,v.oneCell'=true:=by rw [hxs];exact oK x
 have hvs:vb<w.heap.size:=(Array.getElem?_eq_some_iff.1 hvb).1;have hvc:∀ j v,xs[j]? = some v→w.cell? ⟨vb,j,none⟩=some v:=fun j v hj=>by
  rw [cell_of_row _ _ j _ _ (0,0) hvb];rw [hxs] at hj;simpa using hj
 obtain ⟨olds,hos⟩:∃ o,o=strC (l.take i):=⟨_,rfl⟩;have hol:olds.length=i:=by rw [hos,eO,List.length_take];omega
 obtain ⟨ds,hds⟩:∃ ds,ds=strC (l.drop i):=⟨_,rfl⟩;have hdl:ds.length=(n-i):=by rw [hds,eO,List.length_drop,hn]
 have hold:(Builtin.firstCells i0.size i (.slice (some ⟨g,off,none⟩) i cap)).run Tryz.prog w.drew=.ok olds.toArray w.drew:=by
  rw [hzs];refine run_firstCells_some w.drew 1 i ⟨g,off,none⟩ i cap olds (by omega) (fun j v hj=>?_);rw [Addr.add_lit];refine h.drew.1 j v ?_;rw [hos,lT,List.getElem?_take] at hj;split at hj
  ·exact hj
  ·cases hj
 have hkk:(p:Int)-(i:Int)=((p-i:Nat):Int):=by omega
 have hik:i+(p-i)=p:=by omega
 have hrz0 : ∀ ty, (Builtin.append_ #[98, 3] ty #[.slice (some ⟨g, off, none⟩) i cap, .int .i64 ((p : Int) - (i : Int))]).run Tryz.prog w =
     .ok (.slice (some ⟨w.heap.size,0,none⟩) p (grownCap w p cap 9)) (w.drew.alloc (.cells (olds.toArray++Builtin.zeroCells (Value.string ⟨#[]⟩).cells (p-i)++Builtin.zeroCells (Value.string ⟨#[]⟩).cells (grownCap w p cap 9-p)) 9)):=fun ty=>by
  have hx:=Lib.run_append_grow_zeros w 98 3 ty 9 i0 _ .i64 .i64 Tryz.underlying98 Tryz.underlying3 hi0 hz0 (some ⟨g,off,none⟩) i cap olds hold (p-i) (by omega) (by omega) (by omega) (by omega) (by rw [hzb];omega) (by rw [hzb,hik];exact growslice_fits (by omega) (by omega));rw [hik] at hx;rw [hkk];exact hx
 have hGn:p≤grownCap w p cap 9:=grownCap_ge w _ _ _;have hG63:grownCap w p cap 9≤9223372036854775807:=by
  have:=grownCap_le_maxLen w p cap 9 (by unfold maxLen;omega);unfold maxLen at this;omega
 obtain ⟨G,hG⟩:∃ G,G=grownCap w p cap 9:=⟨_,rfl⟩;rw [←hG] at hrz0 hGn hG63;obtain ⟨ROW,hROW⟩:∃ ROW:Array Value,ROW=olds.toArray++Builtin.zeroCells (Value.string ⟨#[]⟩).cells (p-i)++Builtin.zeroCells (Value.string ⟨#[]⟩).cells (G-p):=⟨_,rfl⟩;rw [←hROW] at hrz0;have hRl:p≤ROW.size:=by
  rw [hROW];simp [Builtin.zeroCells,Value.cells,hol]
  omega
 obtain ⟨H,hH⟩:∃ H,H=w.heap.size:=⟨_,rfl⟩;rw [←hH] at hrz0;obtain ⟨W1,hW1⟩:∃ W1,W1=w.drew.alloc (.cells ROW 9):=⟨_,rfl⟩;have hrz:∀ ty,(Builtin.append_ #[98,3] ty #[.slice (some ⟨g,off,none⟩) i cap,.int .i64 ((p:Int)-(i:Int))]).run Tryz.prog w=.ok (.slice (some ⟨H,0,none⟩) p G) W1:=fun ty=>by rw [hrz0,hW1]
 have hc1:∀ j,W1.cell? ⟨H,j,none⟩=ROW[j]? := fun j=>by
  rw [hW1,hH];have e:=World.cell?_alloc_at (w:=w.drew) ROW 9 w.heap.size j rfl;exact e
 have hN:∀ j,j<p→(W1.cell? ⟨H,j,none⟩).isSome=true:=fun j hj=>by
  rw [hc1,Array.getElem?_eq_getElem (by omega)];rfl
 have hNf:∀ j,W1.frozen? ⟨H,j,none⟩=false:=fun j=>by rw [hW1,hH];exact World.frozen?_alloc_at (w:=w.drew) ROW _ w.heap.size j rfl
 have hO:∀ B j v,B<w.heap.size→w.cell? ⟨B,j,none⟩=some v→W1.cell? ⟨B,j,none⟩=some v:=fun B j v hB hv=>by rw [hW1,World.cell?_alloc_past (w:=w.drew) _ B j hB];exact hv
 have hcpA:∀ ty dc,(Builtin.copy_ #[98,98] ty #[.slice (some ⟨H,i,none⟩) (p-i) dc,.slice (some ⟨vb,0,none⟩) 1 vc]).run Tryz.prog W1=.ok (goInt (Nat.min 1 (p-i))) (W1.setCells H (i) xs):=fun ty dc =>
  lG W1 _ _ ty 9 1 H (i) (p-i) dc ⟨vb,0,none⟩ 1 vc xs Tryz.underlying98 hwrs (by rw [hxl];simp only [Nat.min_def];split <;> omega)
   (fun j v hj=>by rw [Addr.add_lit,Nat.zero_add];exact hO _ _ v hvs (hvc j v hj)) (fun j hj=>hN _ (by omega)) (fun j hj=>hNf _) hx1
 obtain ⟨W2,hW2⟩:∃ W2,W2=W1.setCells H (i) xs:=⟨_,rfl⟩;rw [←hW2] at hcpA;have hN2:∀ j,j<p→(W2.drew.cell? ⟨H,j,none⟩).isSome=true:=fun j hj=>by
  show (W2.cell? _).isSome=true
  rw [hW2];exact lL H _ _ W1 (fun t ht=>hN _ (by omega)) _ (hN j hj)
 have hcpB:∀ ty dc sc,(Builtin.copy_ #[98,98] ty #[.slice (some ⟨H,q,none⟩) (p-q) dc,.slice (some ⟨g,off+i,none⟩) (n-i) sc]).run Tryz.prog W2.drew=.ok (goInt (Nat.min (n-i) (p-q))) (W2.drew.setCells H (q) ds):=fun ty dc sc =>
  lG W2.drew _ _ ty 9 1 H (q) (p-q) dc ⟨g,off+i,none⟩ (n-i) sc ds Tryz.underlying98 hwrs (by rw [hdl];simp only [Nat.min_def];split <;> omega)
   (fun j v hj=>by
    rw [Addr.add_lit,Nat.add_assoc];show W2.cell? _=_
    rw [hW2,World.cell?_setCells_out H _ _ _ _ (fun e _=>absurd e (by show g≠H;omega))];refine hO _ _ v hgs (h.1 _ v ?_);rw [hds,ua,List.getElem?_drop] at hj;exact hj)
   (fun j hj=>hN2 _ (by omega)) (fun j hj=>by show W2.frozen? _=false;rw [hW2,World.frozen?_setCells];exact hNf _) (fun v hv=>by rw [hds] at hv;exact tZ _ v hv)
 have hic := DY (w := W1) (g := H) (i := i) (l := l) (x := x) (by omega) (fun j hj u hu => by
     rw [hc1,hROW,Array.append_assoc,Array.getElem?_append_left (by simp [hol];omega)];rw [←hu,hos,lT];simp only [List.getElem?_toArray]
     rw [List.getElem?_take_of_lt hj]) (fun j hj=>hN j (by rw [hp,hn];exact hj))
 rw [←hxs,←hW2,←hds,←hq] at hic;have hb1:w.grownBy W1 none:=by rw [hW1];exact (dE ⟨rfl,rfl,rfl,Nat.le_refl _,fun _ _ _=>rfl⟩:w.grownBy w.drew none).trans (World.grownBy_alloc _ _ _)
 have hz1:W1.heap.size=w.heap.size+1:=by rw [hW1];simp
 have hz2:W2.drew.heap.size=w.heap.size+1:=by show W2.heap.size=_;rw [hW2,tI,hz1]
 have hb2:∀ k,k<w.heap.size→(W2.drew.setCells H q ds).heap[k]? = w.heap[k]? := fun k hk=>by
  rw [World.heap_setCells_other _ _ _ _ (by omega) (by omega)];show W2.heap[k]? = _
  rw [hW2,World.heap_setCells_other _ _ _ _ (by omega) (by omega)];exact hb1.block k hk (by simp)
 have HG:Hid (w.grownBy (W2.drew.setCells H q ds) none):=by
  have g1:W1.grownBy (W2.drew.setCells H q ds) (some H):=by
   refine fD ds q _ (dE ?_);rw [hW2];exact fD xs i _ ⟨rfl,rfl,rfl,Nat.le_refl _,fun _ _ _=>rfl⟩
  exact hid ⟨g1.os.trans hb1.os,g1.tape.trans hb1.tape,g1.output.trans hb1.output,Nat.le_trans hb1.size g1.size,fun k hk _=>hb2 k hk⟩
 have HR:Hid (∃ cs,(W2.drew.setCells H q ds).heap[H]? = some (.cells cs 9 (0,0))∧cs.size=G):=by
  have h1:W1.heap[H]? = some (.cells ROW 9 (0,0)):=by rw [hW1,hH];exact (MapKept.heap_alloc w.drew _).1
  obtain ⟨cs2,h3,h4⟩:=jo xs i W1 ROW h1;rw [←hW2] at h3;obtain ⟨cs3,h5,h6⟩:=jo (T:=9) ds q W2.drew cs2 h3;exact hid ⟨cs3,h5,by rw [h6,h4,hROW];simp [Builtin.zeroCells,Value.cells];omega⟩
 have HIC:Hid (∀ k u,(strC (l.take i++x::l.drop i))[k]? = some u→(W2.drew.setCells H q ds).cell? ⟨H,k,none⟩=some u):=hid hic;have HN:=hid hn;have HP:=hid hp;have HGN:=hid hGn;have hin:i≤n:=by omega
 have hz2:¬ ((i:Int)=(n:Int)):=by omega
 have hz3:((i:Int) == (n:Int))=false:=by simp;omega
 have w1:IntKind.i64.wrap ((i:Int)+1)=(q:Int):=by rw [show (i:Int)+1=(q:Int) by omega];exact IntWalk.i64_in _ (by omega)
 have w2:(i:Int)+1=(q:Int):=by omega
 have w3:IntKind.i64.wrap (q:Int)=(q:Int):=IntWalk.i64_in _ (by omega);have w4:IntKind.i64.wrap ((n:Int)+1)=(p:Int):=by rw [show (n:Int)+1=(p:Int) by omega];exact IntWalk.i64_in _ (by omega)
 have w5:(n:Int)+1=(p:Int):=by omega
 have w6:IntKind.i64.wrap (p:Int)=(p:Int):=IntWalk.i64_in _ (by omega);have w7:IntKind.i64.wrap ((p:Int)-(i:Int))=(p:Int)-(i:Int):=IntWalk.i64_in _ (by omega);have hpc2:(cap:Int)<(p:Int):=by omega
 have hpc3:decide ((cap:Int)<(p:Int))=true:=by simp;omega
 have hqp:q≤p:=by omega
 have hip:i≤p:=by omega
 have hGq:¬ G=q:=by omega
 have hGi:¬ G=i:=by omega
 have hci:¬ cap=i:=by omega
 have hicc:i≤cap:=by omega
 have hiG:i≤G:=by omega
 have hqG:q≤G:=by omega
 have HH:=hid hH;have HG63:=hid hG63;clear hH hi0 hz0 hzs hzb hwrs hxs hxl hx1 hvc hvs hos hol hds hdl hold hkk hik hrz0 hG hROW hRl hW1 hc1 hN hNf hO hW2 hN2 hic hb1 hb2 hz1 hz2 hn hp hq h hvb hgs hroom;go_enter Tryz.func102,Tryz.ntmps102
 go_wp2_with (first
  | (at_builtin;refine Lib.wpList_append_run _ rfl _ _ _ _ rfl _ _ rfl rfl _ _ (hrz _) ?_)
  | (at_builtin;refine vO _ rfl _ _ 98 98 rfl _ _ rfl rfl (hcpA _ _) ?_))
 go_region_law (refine tV rfl _ _ 98 98 rfl _ _ (by simp [Act.eval,Act.put]) (by simp [Act.eval,Act.put]) (hcpB _ _ _) ?_)
 go_wp2;go_ret;have e0:=HH.out;subst e0;exact ⟨G,by rw [←HN.out,←HP.out];rfl,by have:=HN.out;have:=HP.out;have:=HGN.out;omega,by have:=HG63.out;unfold maxLen;omega,HR.out,HIC.out,HG.out⟩
end
section
open Go.RowKit
def cD (w:World) (v:Value) (l:List ByteArray):Prop :=
 ∃ a cap,v=.slice a l.length cap∧l.length≤cap∧∀ k s,l[k]? = some s→∃ b off,a=some ⟨b,off,none⟩∧b<w.heap.size∧w.cell? ⟨b,off+k,none⟩=some (.string s)
def fO (w:World) (v:Value) (l:List Int):Prop :=
 ∃ a cap,v=.slice a l.length cap∧l.length≤cap∧∀ k n,l[k]? = some n→∃ b off,a=some ⟨b,off,none⟩∧b<w.heap.size∧w.cell? ⟨b,off+k,none⟩=some (.int .i64 n)
theorem cD.below {w w':World} {v:Value} {l:List ByteArray} (h:cD w v l) (hb:Below w.heap.size w w'):cD w' v l:=by
 obtain ⟨a,cap,h1,h2,h3⟩:=h;exact ⟨a,cap,h1,h2,fun k s hk=>by obtain ⟨b,off,e,hlt,hc⟩:=h3 k s hk;exact ⟨b,off,e,Nat.lt_of_lt_of_le hlt hb.size,(hb.cell hlt).trans hc⟩⟩
theorem fO.below {w w':World} {v:Value} {l:List Int} (h:fO w v l) (hb:Below w.heap.size w w'):fO w' v l:=by
 obtain ⟨a,cap,h1,h2,h3⟩:=h;exact ⟨a,cap,h1,h2,fun k s hk=>by obtain ⟨b,off,e,hlt,hc⟩:=h3 k s hk;exact ⟨b,off,e,Nat.lt_of_lt_of_le hlt hb.size,(hb.cell hlt).trans hc⟩⟩
theorem Ah (w:World):cD w (.slice none 0 0) []:=⟨none,0,rfl,Nat.le_refl _,fun k s h=>by simp at h⟩
theorem Ag (w:World):fO w (.slice none 0 0) []:=⟨none,0,rfl,Nat.le_refl _,fun k s h=>by simp at h⟩
theorem ai.isTexts {w:World} {base:Nat} {v:Value} {l:List ByteArray} (h:ai w base v l):cD w v l:=by
 rcases h.forms with ⟨rfl,rfl⟩ | ⟨g,cap,rfl,hb,hg,hc⟩
 ·exact Ah w
 ·have hcap : l.length ≤ cap := by
   rcases h.2 with ⟨e,_⟩ | ⟨_,_,_,e,_,_,hcl,_⟩
   ·simp at e
   ·obtain ⟨_,_,rfl⟩:=Value.slice.inj e;omega
  refine ⟨_,cap,rfl,hcap,fun k s hk=>⟨g,0,rfl,hg,?_⟩⟩;obtain ⟨hkl,e⟩:=List.getElem?_eq_some_iff.1 hk;have:=hc k hkl;rw [Nat.zero_add,this];simp [List.getD_eq_getElem?_getD,hk]
theorem aU.isNums {w:World} {base:Nat} {v:Value} {l:List Nat} (h:aU w base v l):fO w v (l.map Int.ofNat):=by
 rcases h.forms with ⟨rfl,rfl⟩ | ⟨g,cap,rfl,hb,hg,hc⟩
 ·exact Ag w
 ·have hcap : l.length ≤ cap := by
   rcases h.2 with ⟨e,_⟩ | ⟨_,_,_,e,_,_,hcl,_⟩
   ·simp at e
   ·obtain ⟨_,_,rfl⟩:=Value.slice.inj e;omega
  refine ⟨some ⟨g,0,none⟩,cap,by rw [List.length_map],by rw [List.length_map];exact hcap,fun k s hk=>⟨g,0,rfl,hg,?_⟩⟩;rw [List.getElem?_map] at hk;obtain ⟨n,hn,rfl⟩:=Option.map_eq_some_iff.1 hk;have hkl:=(List.getElem?_eq_some_iff.1 hn).1;have:=hc k hkl;rw [Nat.zero_add,this];simp [List.getD_eq_getElem?_getD,hn]
theorem lE {w:World} {base base':Nat} {e1 e2:TypeId} {k1 k2 n1 n2:Nat} {v1 v2:Value} {x1 x2:List Value} (h1:w.ownsRow base e1 k1 v1 n1 x1) (h2:w.ownsRow base' e2 k2 v2 n2 x2) (hne:e1≠e2) :
 v1.ownBlock=none∨v1.ownBlock≠v2.ownBlock:=by
 rcases h1.2 with ⟨rfl,_⟩ | ⟨g,cap,cur,rfl,_,hh,_⟩
 ·exact .inl rfl
 ·refine .inr ?_;rcases h2.2 with ⟨rfl,_⟩ | ⟨g',cap',cur',rfl,_,hh',_⟩
  ·simp [Value.ownBlock]
  ·intro e;have:g=g':=by simpa [Value.ownBlock] using e
   subst this;rw [hh] at hh';injection hh' with hh'
   injection hh' with _ ht
   exact hne ht
theorem ai.off {w:World} {base b:Nat} {v:Value} {l:List ByteArray} (h:ai w base v l) (hb:b<base):v.ownBlock≠some b:=fun e=>by have:=(h.lt b e).1;omega
theorem aU.off {w:World} {base b:Nat} {v:Value} {l:List Nat} (h:aU w base v l) (hb:b<base):v.ownBlock≠some b:=fun e=>by have:=(h.lt b e).1;omega
theorem ai.mono {w:World} {base b:Nat} {v:Value} {l:List ByteArray} (h:ai w base v l) (hb:b≤base):ai w b v l:=by
 refine ⟨h.1,?_⟩;rcases h.2 with h1 | ⟨g,cap,cur,e,h2,h3⟩
 ·exact .inl h1
 ·exact .inr ⟨g,cap,cur,e,Nat.le_trans hb h2,h3⟩
theorem aU.mono {w:World} {base b:Nat} {v:Value} {l:List Nat} (h:aU w base v l) (hb:b≤base):aU w b v l:=by
 refine ⟨h.1,?_⟩;rcases h.2 with h1 | ⟨g,cap,cur,e,h2,h3⟩
 ·exact .inl h1
 ·exact .inr ⟨g,cap,cur,e,Nat.le_trans hb h2,h3⟩
end
section
open Go.RowKit Go.Maps
theorem j0:Keyed Tryz.prog 9:=string_keyed Tryz.underlying9
theorem wc (w:World):(zeroValue 3).run Tryz.prog w=.ok (.int .i64 0) w:=by kernel_rfl
theorem keyS {s:ByteArray} (h:s.size≤maxLen):keyOf Tryz.prog 9 (.string s)=some (keyL s):=Go.WideMaps.keyOf_string_mk Tryz.underlying9 h
def bY (w:World) (b n:Nat) (t:List ByteArray):Prop:=∃ D,NumM D t∧w.ownsMap Tryz.prog 9 (plainElem Tryz.prog 3) b n D
theorem CJ (w:World):bY (w.alloc (.map #[] 0)) w.heap.size 0 []:=⟨_,BG,World.ownsMap_made _ _ _ _⟩
theorem bY.kept {w w':World} {b n:Nat} {t:List ByteArray} {row:Option Nat} (h:bY w b n t) (hg:w.grownBy w' row) (hne:some b≠row):bY w' b n t:=by
 obtain ⟨D,h1,h2⟩:=h;exact ⟨D,h1,h2.kept hg hne⟩
theorem bY.alloc {w:World} {b n:Nat} {t:List ByteArray} (h:bY w b n t) (o:Obj):bY (w.alloc o) b n t:=by
 obtain ⟨D,h1,h2⟩:=h;exact ⟨D,h1,h2.alloc o⟩
theorem bY.mono {w:World} {b n m:Nat} {t:List ByteArray} (h:bY w b n t) (hm:n≤m):bY w b m t:=by
 obtain ⟨D,h1,h2⟩:=h;exact ⟨D,h1,h2.mono hm⟩
theorem bY.below {w w':World} {b n:Nat} {t:List ByteArray} (h:bY w b n t) (hb:Below w.heap.size w w'):bY w' b n t :=
 h.kept (row:=none) ⟨hb.os,hb.tape,hb.output,hb.size,fun k hk _=>hb.block k hk⟩ (by simp)
section
variable {w:World} {ops:Array Oper} {rest:List Oper} {o:Oper} {a:Act} {Q:Exit→Act→World→Prop}
theorem Gl (hg:o.guard=none) (m x:Operand) (hop:o.op=Op.lookup 231 m x true) (b n:Nat) (t:List ByteArray)
 (hm:a.eval m=.map (some b)) (hown:bY w b n t) (s:ByteArray) (hx:a.eval x=.string s) (hs:s.size≤maxLen) (j:Nat) (hj:t[j]? = some s)
 (hK:wpList Tryz.prog ops Q rest (a.put o.dst (.tuple #[.int .i64 j,.bool true])) w):wpList Tryz.prog ops Q (o::rest) a w:=by
 obtain ⟨D,h1,h2⟩:=hown;refine wpList_lookup_own_ok_int w hg m x _ hop 9 3 .i64 j0 Tryz.underlying231 Tryz.underlying3 (wc w) b n D hm h2 _ _ hx (keyS hs) ?_;intro c hc _;rw [h1.at' s j hj] at hc;obtain rfl:(j:Int)=c:=by simpa using hc
 rw [h1.there s (List.mem_of_getElem? hj)];exact hK
theorem Gj (hg:o.guard=none) (m x:Operand) (hop:o.op=Op.lookup 231 m x true) (b n:Nat) (t:List ByteArray)
 (hm:a.eval m=.map (some b)) (hown:bY w b n t) (s:ByteArray) (hx:a.eval x=.string s) (hs:s.size≤maxLen) (hj:s ∉ t)
 (hK:∀ c,wpList Tryz.prog ops Q rest (a.put o.dst (.tuple #[.int .i64 c,.bool false])) w):wpList Tryz.prog ops Q (o::rest) a w:=by
 obtain ⟨D,h1,h2⟩:=hown;refine wpList_lookup_own_ok_int w hg m x _ hop 9 3 .i64 j0 Tryz.underlying231 Tryz.underlying3 (wc w) b n D hm h2 _ _ hx (keyS hs) ?_;intro c hc _;rw [h1.none s hj];exact hK c
theorem Gk (hg:o.guard=none) (m x v:Operand) (hop:o.op=Op.mapUpdate 231 m x v) (b n:Nat) (t:List ByteArray)
 (hm:a.eval m=.map (some b)) (hown:bY w b n t) (hn:n<maxLen) (s:ByteArray) (hx:a.eval x=.string s) (hv:a.eval v=.int .i64 (t.length:Nat)) (hs:s.size≤maxLen) (hj:s ∉ t) (ht:t.length≤maxLen)
 (hK:∀ w',bY w' b (n+1) (t++[s])→w.grownBy w' (some b)→wpList Tryz.prog ops Q rest (a.put o.dst undef) w'):wpList Tryz.prog ops Q (o::rest) a w:=by
 obtain ⟨D,h1,h2⟩:=hown;refine wpList_mapUpdate_own w hg m x v _ hop 9 3 j0 Tryz.underlying231 _ b n D hm h2 hn _ _ _ hx hv (keyS hs) (.lit (.int .i64 t.length)) [] (plainElem_int Tryz.underlying3 (WalkArith.wf_i64 (by unfold maxLen at ht;omega))) ?_;intro w' h3 h4;exact hK w' ⟨_,h1.put hj,h3⟩ h4
end
end
section
def aF (t:Tok) (a:Nat):Nat :=
 if t.own.size=0 then
  if t.size=0∧t.back=0 then 1
  else if t.size<4∨67<t.size∨t.back<1∨1024<t.back then 2
  else if (a:Int)<t.back then 7
  else if 20000<(a:Int)+t.size then 4 else 0
 else if t.size≠0∨t.back≠0 then 1
 else if 20000<a+t.own.size then 4 else 0
def lenT (t:Tok):Nat:=t.own.size+t.size.toNat
def am:List Tok→Nat→Nat→Nat×Int
 | [],_,_=>(0,-1)
 | t::r,i,a=>if aF t a=0 then am r (i+1) (a+lenT t) else (aF t a,(i:Int))
def repL (b:List UInt8) (back:Nat):Nat→List UInt8
 | 0=>b
 | n+1=>repL (b++[b.getD (b.length-back) 0]) back n
def eN (b:List UInt8) (t:Tok):List UInt8:=repL (b++t.own.data.toList) t.back.toNat t.size.toNat
def b7 (b:List UInt8) (l:List Tok):List UInt8:=l.foldl eN b
theorem Dl (b:List UInt8) (k n:Nat):(repL b k n).length=b.length+n:=by
 induction n generalizing b with
 | zero=>rfl
 | succ n ih=>rw [repL,ih];simp;omega
theorem tT (b:List UInt8) (t:Tok):(eN b t).length=b.length+lenT t:=by
 unfold eN lenT;rw [Dl,List.length_append,←aj];omega
theorem jG {t:Tok} {a:Nat} (h:aF t a=0) :
 (t.own.size≠0∧t.size=0∧t.back=0∧a+t.own.size≤20000) ∨
 (t.own.size=0∧4≤t.size∧t.size≤67∧1≤t.back∧t.back≤1024∧t.back≤(a:Int)∧(a:Int)+t.size≤20000):=by
 unfold aF at h;by_cases h0:t.own.size=0
 ·rw [if_pos h0] at h;by_cases h1:t.size=0∧t.back=0
  ·rw [if_pos h1] at h;omega
  ·rw [if_neg h1] at h;by_cases h2:t.size<4∨67<t.size∨t.back<1∨1024<t.back
   ·rw [if_pos h2] at h;omega
   ·rw [if_neg h2] at h;by_cases h3:(a:Int)<t.back
    ·rw [if_pos h3] at h;omega
    ·rw [if_neg h3] at h;by_cases h4:20000<(a:Int)+t.size
     ·rw [if_pos h4] at h;omega
     ·exact .inr ⟨h0,by omega,by omega,by omega,by omega,by omega,by omega⟩
 ·rw [if_neg h0] at h;by_cases h1:t.size≠0∨t.back≠0
  ·rw [if_pos h1] at h;omega
  ·rw [if_neg h1] at h;by_cases h4:20000<a+t.own.size
   ·rw [if_pos h4] at h;omega
   ·exact .inl ⟨h0,by omega,by omega,by omega⟩
theorem ml {t:Tok} {a:Nat} (h:aF t a=0):a+lenT t≤20000:=by
 unfold lenT;rcases jG h with ⟨_,h1,_,h2⟩ | ⟨h0,h1,_,_,_,_,h2⟩ <;> omega
theorem gm {t:Tok} {r:List Tok} {i a:Nat} (h:aF t a=0):am (t::r) i a=am r (i+1) (a+lenT t):=by rw [am,if_pos h]
theorem ov {t:Tok} {r:List Tok} {i a:Nat} (h:aF t a≠0):am (t::r) i a=(aF t a,(i:Int)):=by rw [am,if_neg h]
theorem jm {t:Tok} {r:List Tok} {i a:Nat} (h:(am (t::r) i a).1=0):aF t a=0∧(am r (i+1) (a+lenT t)).1=0:=by
 by_cases hw:aF t a=0
 ·rw [gm hw] at h;exact ⟨hw,h⟩
 ·rw [ov hw] at h;exact absurd h hw
theorem ou {l:List Tok} {i a:Nat} (h:(am l i a).1=0):am l i a=(0,-1):=by
 induction l generalizing i a with
 | nil=>rfl
 | cons t r ih =>
  obtain ⟨h1,h2⟩:=jm h;rw [gm h1];exact ih h2
theorem Dr {l:List Tok} {i a:Nat} (h:(am l i a).1=0) (n:Nat):(am (l.take n) i a).1=0:=by
 induction l generalizing i a n with
 | nil=>simp [am]
 | cons t r ih =>
  cases n with
  | zero=>rfl
  | succ n =>
   obtain ⟨h1,h2⟩:=jm h;rw [List.take_succ_cons,gm h1];exact ih h2 n
theorem EF {l:List Tok} {i a:Nat} {b:List UInt8} (h:(am l i a).1=0) (hb:b.length=a) (ha:a≤20000):(b7 b l).length≤20000:=by
 induction l generalizing i a b with
 | nil=>show b.length≤_;omega
 | cons t r ih =>
  obtain ⟨h1,h2⟩:=jm h;exact ih (b:=eN b t) h2 (by rw [tT,hb]) (ml h1)
end
