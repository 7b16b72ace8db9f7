import Derived.Test.YtdhognaoejiglaaGreatDoorKb07
import Derived.Maps.RangeWalk
import Derived.ChangeArms
namespace Go.Proofs.YtdhognaoejiglaaGreatDoor
open Lib (hid)
set_option maxRecDepth 100000
set_option maxHeartbeats 8000000
section
open Go.RowKit
def rowAt (w:World) (g off cap:Nat) (l:List Wr):Prop :=
 (∀ j u,(wrsC l)[j]? = some u→w.cell? ⟨g,off+j,none⟩=some u)∧(∀ j,j<cap * 6→(w.cell? ⟨g,off+j,none⟩).isSome=true∧w.frozen? ⟨g,off+j,none⟩=false)
theorem ak.rowAt {w:World} {base:Nat} {v:Value} {l:List Wr} (h:ak w base v l) (h0:0<l.length) :
 ∃ g cap,v=.slice (some ⟨g,0,none⟩) l.length cap∧base≤g∧g<w.heap.size∧l.length≤cap∧cap≤maxLen∧rowAt w g 0 cap l∧w.shape? g=some (38,cap * 6):=by
 have hall:=h;have hlt:=h.lt;obtain ⟨_,h1⟩:=h;rcases h1 with ⟨rfl,hn⟩ | ⟨g,cap,cur,rfl,hb,hh,hc,hm,hs,ht⟩
 ·omega
 ·refine ⟨g,cap,rfl,hb,(hlt g rfl).2,hc,hm,⟨fun j u hj=>?_,fun j hj=>⟨?_,?_⟩⟩,?_⟩
  ·have hjl:j<l.length * 6:=by rw [←dm];exact (List.getElem?_eq_some_iff.1 hj).1
   rw [Nat.zero_add,World.ownsRow.cellAt hall j hjl];exact hj
  ·rw [Nat.zero_add,cell_of_row _ _ j _ _ (0,0) hh,Array.getElem?_eq_getElem (by rw [hs];exact hj)];rfl
  ·simp [World.frozen?,hh]
  ·simp [World.shape?,hh,hs]
theorem lF {P:Program} (w:World) (dT sT ty elem:TypeId) (size:Nat) (b o dLen dCap:Nat) (a:Addr) (sLen sCap:Nat) (cs:List Value)
 (hu:P.underlying dT=some (.slice elem)) (hs:(P.info? elem).map (·.size)=some size) (hn:cs.length=Nat.min sLen dLen * size)
 (hsrc:∀ j v,cs[j]? = some v→w.cell? (a.add j)=some v) (hc:∀ j,j<cs.length→(w.cell? ⟨b,o+j,none⟩).isSome=true) (hf:∀ j,j<cs.length→w.frozen? ⟨b,o+j,none⟩=false) (h1:∀ v∈cs,v.oneCell'=true) :
 (Builtin.copy_ #[dT,sT] ty #[.slice (some ⟨b,o,none⟩) dLen dCap,.slice (some a) sLen sCap]).run P w=.ok (goInt (Nat.min sLen dLen)) (w.setCells b o cs):=by
 have hl:=run_loadCells_list (P:=P) w a cs hsrc;have hst:=run_storeCells_cells (P:=P) b o cs 0 w (by simpa using hc) (by simpa using hf) h1;cases hq:P.info? elem with
 | none=>simp [hq] at hs
 | some i =>
  have hi:i.size=size:=by simpa [hq] using hs
  simp [Builtin.copy_,run_underlying hu,Builtin.lenOf,Builtin.firstCells,sizeOf,typeInfo,hq,hi,←hn,hl,hst]
theorem rowAt.drew {w:World} {g off cap:Nat} {l:List Wr} (h:rowAt w g off cap l):rowAt w.drew g off cap l:=h
theorem fq {w wr:World} {base g:Nat} (h:Below base w wr) (hg:base≤g):∀ (vs:List Value) (o:Nat),Below base w (wr.setCells g o vs):=by
 intro vs
 induction vs generalizing wr with
 | nil=>intro o;exact h
 | cons v r ih=>intro o;exact ih (h.setCell hg _) (o+1)
theorem Gh {w:World} {ops:Array Oper} {rest:List Oper} {o:Oper} {a:Act} {Q:Exit→Act→World→Prop} (hgd:o.guard=none) (s x:Operand)
 (ho:o.op=.call { callee:=.builtin .append,args:=#[s,x],argTypes:=#[30,30] })
 (base:Nat) (v:Value) (l:List Wr) (hs:a.eval s=v) (hown:ak w base v l)
 (B off c n:Nat) (hx:a.eval x=.slice (some ⟨B,off,none⟩) n c) (m:List Wr) (hn:n=m.length) (hcell:∀ j u,(wrsC m)[j]? = some u→w.cell? ⟨B,off+j,none⟩=some u)
 (hm:0<m.length) (hlen:l.length+m.length≤1000000) (hbase:base≤w.heap.size)
 (h:∀ g cap w',ak w' base (.slice (some ⟨g,0,none⟩) (l.length+m.length) cap) (l++m)→w.grownBy w' v.ownBlock→wpList Tryz.prog ops Q rest (a.put o.dst (.slice (some ⟨g,0,none⟩) (l.length+m.length) cap)) w'):wpList Tryz.prog ops Q (o::rest) a w:=by
 subst hn;obtain ⟨i0,hi,hz0,hz1,hz2⟩:=info_parts iW;refine wpList_append_lies w hgd s x 30 ho base 38 i0 (.agg #[.int .i64 0,.int .i64 0,.int .i64 0,.string ⟨#[]⟩,.string ⟨#[]⟩,.int .i64 0]) 6 64 Tryz.underlying30 hi hz0 hz1 hz2 rfl (by decide) v l.length (wrsC l) hs hown ⟨B,off,none⟩ m.length c (wrsC m) hx (dm m) ?_ (pz m) hm (by unfold maxLen;omega) (by omega) hbase _ rfl ?_
 ·intro j u hj;have hadd:(⟨B,off,none⟩:Addr).add j=⟨B,off+j,none⟩:=by unfold Addr.add;split <;> simp_all
  rw [hadd];exact hcell j u hj
 ·intro g cap w' h1 h2 _ _;refine h g cap w' ?_ h2;unfold ak;rw [List.length_append,io];exact h1
theorem CM (w:World):ak (w.alloc (.cells #[] 38)) w.heap.size (.slice (some ⟨w.heap.size,0,none⟩) 0 0) [] :=
 ⟨rfl,.inr ⟨w.heap.size,0,#[],rfl,Nat.le_refl _,heap_alloc_new w _,Nat.le_refl _,Nat.zero_le _,rfl,rfl⟩⟩
theorem yt (v:Value) (l:List Wr) (w:World) (hv:az w v l) (h0:0<l.length) (h6:l.length≤1000000) :
 Calls Tryz.prog 67 #[v] w fun e w'=>∃ v',e=.returned v'∧ak w' w.heap.size v' l∧Below w.heap.size w w':=by
 rcases hv with ⟨a,c,rfl,rfl⟩ | ⟨b,off,c,rfl,h1,h2,h3⟩
 ·exact absurd h0 (Nat.lt_irrefl _)
 ·have H3:=hid h3;obtain ⟨n,hn⟩:∃ n,n=l.length:=⟨_,rfl⟩;rw [←hn] at h1 h0 h6 ⊢;have HN:=hid hn;clear h3 hn;have heq:∀ w:World,(binOp BinOp.eql 30 (.slice (some ⟨b,off,none⟩) n c) (.slice none 0 0)).run Tryz.prog w=.ok (.bool false) w:=fun w=>Go.Lib.run_eql_slice_nil w _ _ (some ⟨b,off,none⟩) n c 0 0 Tryz.underlying30
  go_enter Tryz.func67,Tryz.ntmps67
  go_wp2_with (at_builtin;refine Gh rfl _ _ rfl w.heap.size _ [] rfl (CM w) b off c n rfl l HN.out ?c1 ?c2 ?c3 ?c4 ?_)
  case c1=>exact fun j u hj=>(World.cell?_alloc_lt w _ (⟨b,off+j,none⟩:Addr) h2).trans (H3.out j u hj)
  case c2=>have:=HN.out;omega
  case c3=>have:=HN.out;simp;omega
  case c4=>simp
  intro g cap w' ho hg;have HO:=hid ho;have HB:Hid (Below w.heap.size w w'):=hid (((Below.refl _ _).alloc (Nat.le_refl _) _).grown hg (by simp) (fun k hk=>by
   have e:w.heap.size=k:=by simpa [Value.ownBlock] using hk
   omega))
  clear ho hg;go_wp2;go_ret;exact ⟨_,rfl,by simpa using HO.out,HB.out⟩
end
section
open Go.RowKit
instance : DecidableEq Wr := fun a b => decidable_of_iff (a.time = b.time ∧ a.rep = b.rep ∧ a.kind = b.kind ∧ a.key = b.key ∧ a.value = b.value ∧ a.n = b.n) (by cases a; cases b; simp)
theorem Gp {l m:List Wr} {k:Nat} (h:l.take k=m.take k) {t u:Wr} (hl:l[k]? = some t) (hm:m[k]? = some u) (e:t=u):l.take (k+1)=m.take (k+1):=by
 obtain ⟨h1,h2⟩:=List.getElem?_eq_some_iff.1 hl;obtain ⟨h3,h4⟩:=List.getElem?_eq_some_iff.1 hm;rw [List.take_succ_eq_append_getElem h1,List.take_succ_eq_append_getElem h3,h,h2,h4,e]
theorem zf (v1 v2:Value) (l m:List Wr) (w:World) (h1:az w v1 l) (h2:az w v2 m) (hl:l.length≤9223372036854775807) (hm:m.length≤9223372036854775807) :
 Calls Tryz.prog 24 #[v1,v2] w fun e w'=>e=.returned (.bool (decide (l=m)))∧∃ q,w'=w.drewN q:=by
 obtain ⟨a1,c1,rfl,f1⟩:=h1.form;obtain ⟨a2,c2,rfl,f2⟩:=h2.form;have F1:=hid f1;have F2:=hid f2;obtain ⟨n,hn⟩:∃ n,n=l.length:=⟨_,rfl⟩;obtain ⟨n2,hn2⟩:∃ n,n=m.length:=⟨_,rfl⟩;rw [←hn] at hl ⊢;rw [←hn2] at hm ⊢;have HN:=hid hn;have HN2:=hid hn2;clear h1 h2 f1 f2 hn hn2;by_cases hne:n=n2
 ·subst hne;go_enter Tryz.func24,Tryz.ntmps24
  go_wp2
  go_loopw [13] (fun i wr=>∃ k q:Nat,k≤n∧i=.int .i64 k∧l.take k=m.take k∧wr=w.drewN q) (fun i _=>n-(intOf i).toNat)
  case atStart=>exact ⟨0,0,by omega,rfl,rfl,rfl⟩
  case round =>
   obtain ⟨k,q,hk,rfl,htk,rfl⟩:=hrel;have HTK:=hid htk;clear htk;by_cases hlt:k<n
   ·obtain ⟨t, ht⟩ : ∃ t, l[k]? = some t := ⟨l[k]'(by have := HN.out; omega), List.getElem?_eq_getElem _⟩;obtain ⟨u, hu⟩ : ∃ u, m[k]? = some u := ⟨m[k]'(by have := HN2.out; omega), List.getElem?_eq_getElem _⟩;obtain ⟨b1,o1,rfl,_,p0,p1,p2,p3,p4,p5⟩:=F1.out k t ht;obtain ⟨b2,o2,rfl,_,q0,q1,q2,q3,q4,q5⟩:=F2.out k u hu;have HTT:=hid ht;have HUU:=hid hu;clear ht hu;obtain ⟨T1,R1,K1,key1,val1,N1⟩:=t;obtain ⟨T2,R2,K2,key2,val2,N2⟩:=u;simp only at p0 p1 p2 p3 p4 p5 q0 q1 q2 q3 q4 q5
    by_cases he0:T1=T2
    ·subst he0;by_cases he1:R1=R2
     ·subst he1;by_cases he2:K1=K2
      ·subst he2;by_cases he3:key1=key2
       ·subst he3;by_cases he4:val1=val2
        ·subst he4;by_cases he5:N1=N2
         ·subst he5;have HST:=hid (Gp HTK.out HTT.out HUU.out rfl);go_wp2
          go_quiet (fail)
          go_wp2;go_roundw
          case rel=>exact ⟨k+1,_,by omega,by go_num,HST.out,rfl⟩
          case measure=>simp [intOf];omega
         ·have HE : Hid (decide (l = m) = false) := hid (show decide (l = m) = false by
           rw [decide_eq_false_iff_not];rintro rfl;have:=HTT.out.symm.trans HUU.out;simp only [Option.some.injEq,Wr.mk.injEq] at this
           exact he5 this.2.2.2.2.2)
          have x1:(N1 == N2)=false:=by simpa using he5
          have x2:(N1 != N2)=true:=by simpa using he5
          go_wp2
          go_quiet (fail)
          go_wp2;go_ret;exact ⟨by rw [HE.out];rfl,by first | exact ⟨_,rfl⟩ | exact ⟨_,by rw [World.drewN_drewN]⟩⟩
        ·have HE : Hid (decide (l = m) = false) := hid (show decide (l = m) = false by
          rw [decide_eq_false_iff_not];rintro rfl;have:=HTT.out.symm.trans HUU.out;simp only [Option.some.injEq,Wr.mk.injEq] at this
          exact he4 this.2.2.2.2.1)
         have x1:(val1.toList == val2.toList)=false:=by rw [ByteArray.toList_eq,ByteArray.toList_eq,beq_eq_false_iff_ne];intro e9;exact he4 (cX e9)
         have x2:(val1.toList != val2.toList)=true:=by rw [bne,x1];rfl
         go_wp2
         go_quiet (fail)
         go_wp2;go_ret;exact ⟨by rw [HE.out];rfl,by first | exact ⟨_,rfl⟩ | exact ⟨_,by rw [World.drewN_drewN]⟩⟩
       ·have HE : Hid (decide (l = m) = false) := hid (show decide (l = m) = false by
         rw [decide_eq_false_iff_not];rintro rfl;have:=HTT.out.symm.trans HUU.out;simp only [Option.some.injEq,Wr.mk.injEq] at this
         exact he3 this.2.2.2.1)
        have x1:(key1.toList == key2.toList)=false:=by rw [ByteArray.toList_eq,ByteArray.toList_eq,beq_eq_false_iff_ne];intro e9;exact he3 (cX e9)
        have x2:(key1.toList != key2.toList)=true:=by rw [bne,x1];rfl
        go_wp2
        go_quiet (fail)
        go_wp2;go_ret;exact ⟨by rw [HE.out];rfl,by first | exact ⟨_,rfl⟩ | exact ⟨_,by rw [World.drewN_drewN]⟩⟩
      ·have HE : Hid (decide (l = m) = false) := hid (show decide (l = m) = false by
        rw [decide_eq_false_iff_not];rintro rfl;have:=HTT.out.symm.trans HUU.out;simp only [Option.some.injEq,Wr.mk.injEq] at this
        exact he2 this.2.2.1)
       have x1:(K1 == K2)=false:=by simpa using he2
       have x2:(K1 != K2)=true:=by simpa using he2
       go_wp2
       go_quiet (fail)
       go_wp2;go_ret;exact ⟨by rw [HE.out];rfl,by first | exact ⟨_,rfl⟩ | exact ⟨_,by rw [World.drewN_drewN]⟩⟩
     ·have HE : Hid (decide (l = m) = false) := hid (show decide (l = m) = false by
       rw [decide_eq_false_iff_not];rintro rfl;have:=HTT.out.symm.trans HUU.out;simp only [Option.some.injEq,Wr.mk.injEq] at this
       exact he1 this.2.1)
      have x1:(R1 == R2)=false:=by simpa using he1
      have x2:(R1 != R2)=true:=by simpa using he1
      go_wp2
      go_quiet (fail)
      go_wp2;go_ret;exact ⟨by rw [HE.out];rfl,by first | exact ⟨_,rfl⟩ | exact ⟨_,by rw [World.drewN_drewN]⟩⟩
    ·have HE : Hid (decide (l = m) = false) := hid (show decide (l = m) = false by
      rw [decide_eq_false_iff_not];rintro rfl;have:=HTT.out.symm.trans HUU.out;simp only [Option.some.injEq,Wr.mk.injEq] at this
      exact he0 this.1)
     have x1:(T1 == T2)=false:=by simpa using he0
     have x2:(T1 != T2)=true:=by simpa using he0
     go_wp2
     go_quiet (fail)
     go_wp2;go_ret;exact ⟨by rw [HE.out];rfl,by first | exact ⟨_,rfl⟩ | exact ⟨_,by rw [World.drewN_drewN]⟩⟩
   ·have HE : Hid (decide (l = m) = true) := hid (show decide (l = m) = true by
     rw [decide_eq_true_eq];have h:=HTK.out;rw [List.take_of_length_le (by have:=HN.out;omega),List.take_of_length_le (by have:=HN2.out;omega)] at h;exact h)
    go_wp2;go_ret;exact ⟨by rw [HE.out];rfl,by first | exact ⟨_,rfl⟩ | exact ⟨_,by rw [World.drewN_drewN]⟩⟩
 ·have HE : Hid (decide (l = m) = false) := hid (show decide (l = m) = false by
   rw [decide_eq_false_iff_not];rintro rfl;exact hne (HN.out.trans HN2.out.symm))
  have x1:((n:Int) == (n2:Int))=false:=by simp;omega
  have x2:((n:Int) != (n2:Int))=true:=by simp;omega
  rw [HE.out];go_enter Tryz.func24,Tryz.ntmps24
  go_wp2;go_ret;exact ⟨rfl,0,rfl⟩
theorem mY (v1 v2:Value) (l m:List Wr) (c:Bool) (w:World) (h1:az w v1 l) (h2:az w v2 m) (hl:l.length≤9223372036854775807) (hm:m.length≤9223372036854775807) (hc:decide (l=m)=c) :
 Calls Tryz.prog 24 #[v1,v2] w fun e w'=>e=.returned (.bool c)∧∃ q,w'=w.drewN q :=
 (zf v1 v2 l m w h1 h2 hl hm).mono fun _ _ ⟨h1,h2⟩=>⟨by rw [h1,hc],h2⟩
end
section
open Go.Maps
structure CV where
 key:ByteArray
 has:Bool
 text:ByteArray
 sum:Int
 list:Value
def cvC (c:CV):List Value:=[.string c.key,.bool c.has,.string c.text,.int .i64 c.sum,c.list]
def cvV (c:CV):Value:=.agg (cvC c).toArray
def cv0:CV:=⟨⟨#[]⟩,false,⟨#[]⟩,0,.slice none 0 0⟩
instance : Inhabited CV := ⟨cv0⟩
theorem kj {a b:CV} (h:cvV a=cvV b):a=b:=by
 cases a;cases b
 injection h with h
 cases h
 rfl
open Classical in
noncomputable def cF (v:Value):Option (DataW Value×List MemPlace):=if ∃ c,v=cvV c then some (.held v,[]) else none
theorem kg (c:CV):cF (cvV c)=some (.held (cvV c),[]):=by unfold cF;rw [if_pos ⟨c,rfl⟩]
theorem kf {v:Value} {z:DataW Value×List MemPlace} (h:cF v=some z):∃ c,v=cvV c∧z=(.held (cvV c),[]):=by
 unfold cF at h;split at h
 ·rename_i hc;obtain ⟨c,rfl⟩:=hc;exact ⟨c,rfl,(Option.some.inj h).symm⟩
 ·cases h
def upd {α:Type} (f:ByteArray→α) (k:ByteArray) (x:α):ByteArray→α:=fun j=>if j=k then x else f j
theorem bL {α:Type} (f:ByteArray→α) (k:ByteArray) (x:α):upd f k x k=x:=if_pos rfl
theorem bs {α:Type} (f:ByteArray→α) {k j:ByteArray} (x:α) (h:j≠k):upd f k x j=f j:=if_neg h
def cvOf (G:ByteArray→Cel) (L:ByteArray→Value) (k:ByteArray):CV:=if live (G k)=true then ⟨k,(G k).has,(G k).text,(G k).sum,L k⟩ else cv0
theorem mT {G:ByteArray→Cel} {L:ByteArray→Value} {k:ByteArray} (h:live (G k)=true):cvOf G L k=⟨k,(G k).has,(G k).text,(G k).sum,L k⟩:=if_pos h
theorem mS {G:ByteArray→Cel} {L:ByteArray→Value} {k:ByteArray} (h:live (G k)=false):cvOf G L k=cv0:=if_neg (by rw [h];simp)
structure StoD (D:DataW Value) (G:ByteArray→Cel) (L:ByteArray→Value):Prop where
 isMap:IsMap D
 has:∀ k,Maps.has D (keyL k)=live (G k)
 at':∀ k,D.atKey (keyL k) (.held (cvV cv0))=.held (cvV (cvOf G L k))
 dead:∀ k,live (G k)=false→G k=cel0
theorem Eh:StoD (.map []) (fun _=>cel0) (fun _=>.slice none 0 0):=⟨isMap_empty,fun _=>rfl,fun k=>by rw [mS (by rfl)];rfl,fun _ _=>rfl⟩
theorem StoD.put {D:DataW Value} {G:ByteArray→Cel} {L:ByteArray→Value} (h:StoD D G L) (k:ByteArray) (c:Cel) (v:Value) (hc:live c=true) :
 StoD (D.put (keyL k) (.held (cvV ⟨k,c.has,c.text,c.sum,v⟩))) (upd G k c) (upd L k v):=by
 refine ⟨h.isMap.put _ _,fun j=>?_,fun j=>?_,fun j hj=>?_⟩
 ·by_cases e:j=k
  ·subst e;rw [has_put_same h.isMap (iZ _),bL,hc]
  ·rw [has_put_other (fun e2=>e (eF e2)),bs _ _ e];exact h.has j
 ·by_cases e:j=k
  ·subst e;rw [atKey_put_same h.isMap (iZ _),mT (by rw [bL];exact hc),bL,bL]
  ·rw [atKey_put_other (fun e2=>e (eF e2)),h.at' j];unfold cvOf;rw [bs _ _ e,bs _ _ e]
 ·by_cases e:j=k
  ·subst e;rw [bL] at hj;rw [hj] at hc;cases hc
  ·rw [bs _ _ e] at hj ⊢;exact h.dead j hj
theorem StoD.del {D:DataW Value} {G:ByteArray→Cel} {L:ByteArray→Value} (h:StoD D G L) (k:ByteArray):StoD (D.del (keyL k)) (upd G k cel0) L:=by
 refine ⟨h.isMap.del _,fun j=>?_,fun j=>?_,fun j hj=>?_⟩
 ·by_cases e:j=k
  ·subst e;rw [has_del_same,bL];rfl
  ·rw [has_del_other (fun e2=>e (eF e2)),bs _ _ e];exact h.has j
 ·by_cases e:j=k
  ·subst e;rw [atKey_del_same,mS (by rw [bL];rfl)]
  ·rw [atKey_del_other (fun e2=>e (eF e2)),h.at' j];unfold cvOf;rw [bs _ _ e]
 ·by_cases e:j=k
  ·subst e;exact bL _ _ _
  ·rw [bs _ _ e] at hj ⊢;exact h.dead j hj
theorem StoD.entry {D:DataW Value} {G:ByteArray→Cel} {L:ByteArray→Value} (h:StoD D G L) {k:ByteArray} {c:CV} (hat:∀ zd,D.atKey (keyL k) zd=.held (cvV c)):live (G k)=true∧c=⟨k,(G k).has,(G k).text,(G k).sum,L k⟩:=by
 have h1:=has_true_of_atKey hat;rw [h.has] at h1;refine ⟨h1,?_⟩;have h2:=hat (.held (cvV cv0));rw [h.at',mT h1] at h2;exact (kj (DataW.held.inj h2)).symm
def gv (G:ByteArray→Cel) (x:Wr):ByteArray→Cel:=upd G x.key (cm (G x.key) x)
def Neat (c:Cel):Prop:=c.has=false→c.text=⟨#[]⟩
theorem nT:Neat cel0:=fun _=>rfl
theorem Neat.step {c:Cel} (h:Neat c) (x:Wr):Neat (cm c x):=by
 unfold cm;split
 ·intro e;cases e
 ·split
  ·exact nT
  ·split
   ·exact h
   ·split
    ·exact h
    ·exact h
theorem Neat.dead {c:Cel} (h:Neat c) (hd:live c=false):c=cel0:=by
 cases c with
 | mk ha te su li =>
  simp only [live,Bool.or_eq_false_iff,bne_eq_false_iff_eq,Bool.not_eq_false',List.isEmpty_iff] at hd
  obtain ⟨⟨rfl,rfl⟩,rfl⟩:=hd;have:=h rfl;simp only at this
  subst this
  rfl
theorem Ed (l:List Wr) (x:Wr):gv (cx l) x=cx (l++[x]):=by
 funext j
 unfold gv;by_cases e:j=x.key
 ·subst e;rw [bL];simp [cx,List.filter_append]
 ·rw [bs _ _ e];simp [cx,List.filter_append,Ne.symm e]
theorem yg:cx []=fun _=>cel0:=rfl
end
section
open Go.ChangeShapes Go.WideShapes Go.ChangeAt Go.RowKit
structure Actn where
 who:Int
 to:Int
 sends:Bool
 w:Wr
instance : Inhabited Actn := ⟨⟨0, 0, false, default⟩⟩
def actC (x:Actn):List Value:=.int .i64 x.who :: .int .i64 x.to :: .bool x.sends::wrC x.w
def fT (l:List Actn):List Value:=l.flatMap actC
theorem wV (l:List Actn):(fT l).length=l.length * 9:=by
 induction l with
 | nil=>rfl
 | cons t r ih=>simp only [fT,List.flatMap_cons,List.length_append,List.length_cons] at ih ⊢;rw [ih];simp [actC,wrC];omega
theorem ek (l:List Actn) (i j:Nat) (t:Actn) (h:l[i]? = some t) (hj:j<9):(fT l)[i * 9+j]? = (actC t)[j]? := by
 induction l generalizing i with
 | nil=>simp at h
 | cons u r ih =>
  have hc:fT (u::r)=actC u++fT r:=by simp [fT]
  have h3:(actC u).length=9:=rfl;rw [hc];cases i with
  | zero =>
   obtain rfl:u=t:=by simpa using h
   rw [List.getElem?_append_left (by omega)]
   congr 1;omega
  | succ i =>
   rw [List.getElem?_append_right (by omega),h3,show (i+1) * 9+j-9=i * 9+j by omega];exact ih i (by simpa using h)
def cV (w:World) (v:Value) (l:List Actn):Prop :=
 (∃ a c,v=.slice a 0 c∧l=[])∨∃ b off c,v=.slice (some ⟨b,off,none⟩) l.length c∧(0<l.length∧l.length≤c)∧b<w.heap.size∧∀ j u,(fT l)[j]? = some u→w.cell? ⟨b,off+j,none⟩=some u
theorem cV.below {w w':World} {v:Value} {l:List Actn} (h:cV w v l) (hb:Below w.heap.size w w'):cV w' v l:=by
 rcases h with ⟨a,c,h1,h2⟩ | ⟨b,off,c,h1,h0,h2,h3⟩
 ·exact .inl ⟨a,c,h1,h2⟩
 ·exact .inr ⟨b,off,c,h1,h0,Nat.lt_of_lt_of_le h2 hb.size,fun j u hj=>(hb.cell (p:=⟨b,off+j,none⟩) h2).trans (h3 j u hj)⟩
theorem cV.form {w:World} {v:Value} {l:List Actn} (h:cV w v l):∃ a c,v=.slice a l.length c∧∀ i t,l[i]? = some t→∃ b off,a=some ⟨b,off,none⟩∧b<w.heap.size ∧
 w.cell? ⟨b,off+i * 9,none⟩=some (.int .i64 t.who)∧w.cell? ⟨b,off+i * 9+1,none⟩=some (.int .i64 t.to)∧w.cell? ⟨b,off+i * 9+2,none⟩=some (.bool t.sends) ∧
 w.cell? ⟨b,off+i * 9+3,none⟩=some (.int .i64 t.w.time)∧w.cell? ⟨b,off+i * 9+4,none⟩=some (.int .i64 t.w.rep)∧w.cell? ⟨b,off+i * 9+5,none⟩=some (.int .i64 t.w.kind) ∧
 w.cell? ⟨b,off+i * 9+6,none⟩=some (.string t.w.key)∧w.cell? ⟨b,off+i * 9+7,none⟩=some (.string t.w.value)∧w.cell? ⟨b,off+i * 9+8,none⟩=some (.int .i64 t.w.n):=by
 rcases h with ⟨a,c,rfl,rfl⟩ | ⟨b,off,c,rfl,h0,h2,h3⟩
 ·exact ⟨a,c,rfl,fun i t h=>by simp at h⟩
 ·refine ⟨_,_,rfl,fun i t h=>⟨b,off,rfl,h2,?_,?_,?_,?_,?_,?_,?_,?_,?_⟩⟩
  ·exact h3 _ _ ((ek l i 0 t h (by omega)).trans rfl)
  ·exact h3 _ _ ((ek l i 1 t h (by omega)).trans rfl)
  ·exact h3 _ _ ((ek l i 2 t h (by omega)).trans rfl)
  ·exact h3 _ _ ((ek l i 3 t h (by omega)).trans rfl)
  ·exact h3 _ _ ((ek l i 4 t h (by omega)).trans rfl)
  ·exact h3 _ _ ((ek l i 5 t h (by omega)).trans rfl)
  ·exact h3 _ _ ((ek l i 6 t h (by omega)).trans rfl)
  ·exact h3 _ _ ((ek l i 7 t h (by omega)).trans rfl)
  ·exact h3 _ _ ((ek l i 8 t h (by omega)).trans rfl)
def actD {H:Type} (x:Actn):DataW H:=.agg [.lit (.int .i64 x.who),.lit (.int .i64 x.to),.lit (.bool x.sends),wrD x.w]
theorem wT {H:Type} {enc:TypeId×Value→H} {W:World} {spare:Nat→Bool} {held:Bool} {n:Nat} {cs:List Value} {x:DataW H×List MemPlace}
 (h:DataW.trod enc Tryz.prog W 0 spare held n 74 cs=some x):∃ t:Actn,cs=actC t∧x.1=actD t∧-9223372036854775808≤t.w.n∧t.w.n≤9223372036854775807:=by
 obtain ⟨xs,m,_,hx,hl,hxl,hf⟩:=DataW.trod_struct Tryz.underlying74 h;have c9:Tryz.prog.cellsOf 74=9:=by kernel_rfl
 have c6:Tryz.prog.cellsOf 38=6:=by kernel_rfl
 have cI:Tryz.prog.cellsOf 3=1:=by kernel_rfl
 have cB:Tryz.prog.cellsOf 4=1:=by kernel_rfl
 rw [c9] at hl;have hxl':xs.length=4:=hxl
 match cs,hl with
 | [a,b,c,d0,d1,d2,d3,d4,d5],_ =>
  match xs,hxl' with
  | [u0,u1,u2,u3],_ =>
   have g0:=hf 0 _ rfl;have g1:=hf 1 _ rfl;have g2:=hf 2 _ rfl;have g3:=hf 3 _ rfl;simp [c6,cI,cB] at g0 g1 g2 g3
   obtain ⟨T,e0,f0,_⟩:=DataW.trod_int Tryz.underlying3 g0;obtain ⟨R,e1,f1,_⟩:=DataW.trod_int Tryz.underlying3 g1;obtain ⟨B,e2,f2⟩:=DataW.trod_bool Tryz.underlying4 g2;obtain ⟨t,e3,f3,h1,h2⟩:=vU g3;obtain rfl:=List.head_eq_of_cons_eq e0;obtain rfl:=List.head_eq_of_cons_eq e1;obtain rfl:=List.head_eq_of_cons_eq e2;refine ⟨⟨T,R,B,t⟩,by rw [e3];rfl,?_,h1,h2⟩;rw [hx];simp only [List.map_cons,List.map_nil,f0,f1,f2,f3]
   rfl
theorem wU {H:Type} (ds:List (DataW H)) (t:Actn) (h:actD t∈ds):t.w.key.size∈DataW.weightsAll Tryz.prog 74 ds∧t.w.value.size∈DataW.weightsAll Tryz.prog 74 ds:=by
 induction ds with
 | nil=>cases h
 | cons d r ih =>
  rw [DataW.weightsAll];rcases List.mem_cons.1 h with h | h
  ·have g : t.w.key.size ∈ DataW.weights Tryz.prog 74 (actD t : DataW H) ∧ t.w.value.size ∈ DataW.weights Tryz.prog 74 (actD t : DataW H) := by
    constructor
    ·unfold actD wrD;rw [DataW.weights,Tryz.underlying74];simp [DataW.weightsEach,DataW.weights,Tryz.underlying38,Tryz.underlying36]
    ·unfold actD wrD;rw [DataW.weights,Tryz.underlying74];simp [DataW.weightsEach,DataW.weights,Tryz.underlying38,Tryz.underlying36]
   rw [←h];exact ⟨List.mem_append_left _ g.1,List.mem_append_left _ g.2⟩
  ·exact ⟨List.mem_append_right _ (ih h).1,List.mem_append_right _ (ih h).2⟩
theorem mx {H:Type} {enc:TypeId×Value→H} {W:World} {spare:Nat→Bool} {held:Bool} {a0:Option Addr} {len0 cap0 fuel:Nat} {d:DataW H} {p:List MemPlace}
 (hf:DataW.trod enc Tryz.prog W 0 spare held fuel 22 [.slice a0 len0 cap0]=some (d,p))
 (hw:∀ x∈DataW.weights Tryz.prog 22 d,x≤reachBytes) :
 ∃ l:List Actn,cV W (.slice a0 len0 cap0) l∧l.length=len0∧len0≤cap0∧cap0≤maxLen∧∀ t∈l,WrOk t.w:=by
 rcases Go.Deep.open_slice Tryz.underlying22 hf with ⟨hcs,_⟩ | ⟨a,ln,cp,m,n,D,Pl,hcs,_,hl,hm,hmm,hx,hi⟩
 ·simp only [List.cons.injEq,Value.slice.injEq,and_true] at hcs
  obtain ⟨rfl,rfl,rfl⟩:=hcs;exact ⟨[],.inl ⟨_,_,rfl,rfl⟩,rfl,Nat.le_refl _,by unfold maxLen;omega,fun t h=>by cases h⟩
 ·simp only [List.cons.injEq,Value.slice.injEq,and_true] at hcs
  obtain ⟨rfl,rfl,rfl⟩:=hcs;have h3:Tryz.prog.cellsOf 74=9:=by kernel_rfl
  rw [h3] at hi;have hle:len0≤m:=by rw [hmm];split <;> omega
  obtain ⟨f,hfc⟩:=Go.Deep.choose_lt (n:=len0) (p:=fun i (t:Actn)=>W.cells? 0 (a.add (i * 9)) 9=some (actC t)∧D i=actD t∧-9223372036854775808≤t.w.n∧t.w.n≤9223372036854775807) (fun i hlt=>by
   obtain ⟨cs',hc,ht⟩:=hi i (by omega);obtain ⟨t,h1,h2,h4⟩:=wT ht;exact ⟨t,by rw [hc,h1],h2,h4⟩)
  have hll:((List.range len0).map f).length=len0:=by simp
  refine ⟨(List.range len0).map f,?_,hll,hl,hm,fun t ht=>?_⟩
  ·by_cases hz:len0=0
   ·subst hz;exact .inl ⟨_,_,rfl,rfl⟩
   ·obtain ⟨b,off,spot⟩:=a;have hcell:∀ i,i<len0→∀ r,r<9→W.cell? ((⟨b,off,spot⟩:Addr).add (i * 9+r))=(actC (f i))[r]? := fun i hlt r hr=>by
     obtain ⟨_,_,hat⟩:=World.cells?_some (hfc i hlt).1;rw [←Go.Deep.add_add];exact hat r hr
    have h0:=hcell 0 (by omega) 0 (by omega);have hspot:spot=none:=by simpa [Addr.add] using World.cell?_spot (h0.trans rfl)
    subst hspot;refine .inr ⟨b,off,cap0,by rw [hll],by rw [hll];omega,block_lt_of_cell (h0.trans rfl),fun j u hj=>?_⟩;have hjl:j<len0 * 9:=by rw [←hll,←wV];exact (List.getElem?_eq_some_iff.1 hj).1
    have hc:=hcell (j / 9) (by omega) (j % 9) (Nat.mod_lt _ (by decide));have hti:((List.range len0).map f)[j / 9]? = some (f (j / 9)):=by
     rw [List.getElem?_map,List.getElem?_range (by omega)];rfl
    have h5:=ek _ _ (j % 9) _ hti (Nat.mod_lt _ (by decide));rw [show j / 9 * 9+j % 9=j by omega] at hc h5;rw [←h5,hj] at hc;rw [←hc];refine congrArg W.cell? ?_;unfold Addr.add;split
    ·rename_i e;rw [e];rfl
    ·rfl
  ·obtain ⟨i,hir,hit⟩:=List.mem_map.1 ht;have hil:=List.mem_range.1 hir;have hd:d=.slice ((List.range len0).map D) ((List.range (m-len0)).map fun j=>D (len0+j)):=(Prod.mk.inj hx).1;have hmem:actD t∈(List.range len0).map D:=List.mem_map.2 ⟨i,hir,by rw [(hfc i hil).2.1,hit]⟩;have hwt:=wU _ t hmem;have hin:∀ y∈DataW.weightsAll Tryz.prog 74 ((List.range len0).map D),y≤reachBytes:=fun y hy=>hw y (by
    rw [hd,DataW.weights,Tryz.underlying22];exact List.mem_cons_of_mem _ (List.mem_append_left _ hy))
   have g1:=hin _ hwt.1;have g2:=hin _ hwt.2;unfold reachBytes at g1 g2;have hn:=(hfc i hil).2.2;rw [hit] at hn;exact ⟨hn.1,hn.2,by omega,by omega⟩
end
section
open Go.RowKit Go.Maps
theorem fF:Keyed Tryz.prog 9:=string_keyed Tryz.underlying9
theorem gU {s:ByteArray} (h:s.size≤maxLen):keyOf Tryz.prog 9 (.string s)=some (keyL s):=Go.WideMaps.keyOf_string_mk Tryz.underlying9 h
theorem wb (w:World):(zeroValue 100).run Tryz.prog w=.ok (cvV cv0) w:=by kernel_rfl
structure bV (w:World) (R P M m:Nat) (D:DataW Value) (G:ByteArray→Cel) (L:ByteArray→Value):Prop where
 row:w.heap[P]? = some (.cells #[.map (some M)] 123 (0,0))
 map:w.ownsMap Tryz.prog 9 cF M m D
 sto:StoD D G L
 own:∀ k,live (G k)=true→ai w R (L k) (G k).list
 apart:∀ j k,live (G j)=true→live (G k)=true→j≠k→(L j).ownBlock=none∨(L j).ownBlock≠(L k).ownBlock
 len:∀ k,(G k).list.length≤m
 text:∀ k,(G k).text.size≤140737488351232∧∀ s∈(G k).list,s.size≤140737488351232
 neat:∀ k,Neat (G k)
 pr:P<R
 mr:M<R
 rw':R≤w.heap.size
 pm:P≠M
theorem bV.pw {w:World} {R P M m:Nat} {D:DataW Value} {G:ByteArray→Cel} {L:ByteArray→Value} (h:bV w R P M m D G L):P<w.heap.size:=Nat.lt_of_lt_of_le h.pr h.rw'
theorem bV.grown {w w':World} {R P M m:Nat} {D:DataW Value} {G:ByteArray→Cel} {L:ByteArray→Value} (h:bV w R P M m D G L) (hg:w.grownBy w' none):bV w' R P M m D G L :=
 { h with
  row:=(hg.block P h.pw (by simp)).trans h.row
  map:=h.map.kept hg (by simp)
  own:=fun k hk=>World.ownsRow.kept (h.own k hk) hg (by cases hv:(L k).ownBlock with
   | none=>exact .inl rfl
   | some g=>exact .inr (by simp))
  rw':=Nat.le_trans h.rw' hg.size }
structure gD (w:World) (R P M m:Nat) (D:DataW Value) (G:ByteArray→Cel) (L:ByteArray→Value) (k:ByteArray):Prop where
 row:w.heap[P]? = some (.cells #[.map (some M)] 123 (0,0))
 map:w.ownsMap Tryz.prog 9 cF M m D
 sto:StoD D G L
 own:∀ j,j≠k→live (G j)=true→ai w R (L j) (G j).list
 apart:∀ i j,i≠k→j≠k→live (G i)=true→live (G j)=true→i≠j→(L i).ownBlock=none∨(L i).ownBlock≠(L j).ownBlock
 len:∀ j,(G j).list.length≤m
 text:∀ k,(G k).text.size≤140737488351232∧∀ s∈(G k).list,s.size≤140737488351232
 neat:∀ k,Neat (G k)
 pr:P<R
 mr:M<R
 rw':R≤w.heap.size
 pm:P≠M
theorem bV.but {w w':World} {R P M m:Nat} {D:DataW Value} {G:ByteArray→Cel} {L:ByteArray→Value} (h:bV w R P M m D G L) (k:ByteArray) {o:Option Nat} (hg:w.grownBy w' o) (ho:∀ g,o=some g→R≤g)
 (hk:∀ j,j≠k→live (G j)=true→(L j).ownBlock=none∨(L j).ownBlock≠o):gD w' R P M m D G L k :=
 {
  row:=(hg.block P h.pw (fun e=>by have:=ho P e.symm;have:=h.pr;omega)).trans h.row
  map:=h.map.kept hg (fun e=>by have:=ho M e.symm;have:=h.mr;omega)
  sto:=h.sto
  own:=fun j hj hl=>World.ownsRow.kept (h.own j hl) hg (hk j hj hl)
  apart:=fun i j _ _=>h.apart i j
  len:=h.len
  text:=h.text
  neat:=h.neat
  pr:=h.pr,mr:=h.mr,rw':=Nat.le_trans h.rw' hg.size,pm:=h.pm }
theorem gD.del {w w':World} {R P M m:Nat} {D:DataW Value} {G:ByteArray→Cel} {L:ByteArray→Value} {k:ByteArray} (h:gD w R P M m D G L k) (hm:w'.ownsMap Tryz.prog 9 cF M m (D.del (keyL k))) (ht:w.mapTurned w' M) :
 bV w' R P M (m+1) (D.del (keyL k)) (upd G k cel0) L :=
 have hg:=ht.grown
 {
  row:=(hg.block P (Nat.lt_of_lt_of_le h.pr h.rw') (fun e=>h.pm (Option.some.inj e))).trans h.row
  map:=hm.mono (Nat.le_succ m)
  sto:=h.sto.del k
  own:=fun j hl=>by
   by_cases e:j=k
   ·subst e;rw [bL] at hl;cases hl
   ·rw [bs _ _ e] at hl ⊢;refine World.ownsRow.kept (h.own j e hl) hg ?_;cases hv:(L j).ownBlock with
    | none=>exact .inl rfl
    | some g=>exact .inr (fun e2=>by have:=((h.own j e hl).lt g hv).1;have:=h.mr;have e3:g=M:=Option.some.inj e2;omega)
  apart:=fun i j hi hj hne=>by
   have hi':i≠k:=fun e=>by subst e;rw [bL] at hi;cases hi
   have hj':j≠k:=fun e=>by subst e;rw [bL] at hj;cases hj
   rw [bs _ _ hi'] at hi;rw [bs _ _ hj'] at hj;exact h.apart i j hi' hj' hi hj hne
  len:=fun j=>by
   by_cases e:j=k
   ·subst e;rw [bL];exact Nat.zero_le _
   ·rw [bs _ _ e];exact Nat.le_succ_of_le (h.len j)
  text:=fun j=>by
   by_cases e:j=k
   ·subst e;rw [bL];exact ⟨Nat.zero_le _,fun s hs=>by cases hs⟩
   ·rw [bs _ _ e];exact h.text j
  neat:=fun j=>by
   by_cases e:j=k
   ·subst e;rw [bL];exact nT
   ·rw [bs _ _ e];exact h.neat j
  pr:=h.pr,mr:=h.mr,rw':=Nat.le_trans h.rw' hg.size,pm:=h.pm }
theorem gD.put {w w':World} {R P M m:Nat} {D:DataW Value} {G:ByteArray→Cel} {L:ByteArray→Value} {k:ByteArray} (h:gD w R P M m D G L k) (c:Cel) (v:Value) (hc:live c=true) (hn:Neat c) (hl:c.list.length≤m+1)
 (htx:c.text.size≤140737488351232∧∀ s∈c.list,s.size≤140737488351232) (hv:ai w R v c.list)
 (hap:∀ j,j≠k→live (G j)=true→(L j).ownBlock=none∨(L j).ownBlock≠v.ownBlock)
 (hm:w'.ownsMap Tryz.prog 9 cF M (m+1) (D.put (keyL k) (.held (cvV ⟨k,c.has,c.text,c.sum,v⟩)))) (hg:w.grownBy w' (some M)) :
 bV w' R P M (m+1) (D.put (keyL k) (.held (cvV ⟨k,c.has,c.text,c.sum,v⟩))) (upd G k c) (upd L k v) :=
 have hkeep:∀ (u:Value) (l:List ByteArray),ai w R u l→ai w' R u l:=fun u l hu=>by
  refine World.ownsRow.kept hu hg ?_;cases e:u.ownBlock with
  | none=>exact .inl rfl
  | some g=>exact .inr (fun e2=>by have:=(hu.lt g e).1;have:=h.mr;have e3:g=M:=Option.some.inj e2;omega)
 {
  row:=(hg.block P (Nat.lt_of_lt_of_le h.pr h.rw') (fun e=>h.pm (Option.some.inj e))).trans h.row
  map:=hm
  sto:=h.sto.put k c v hc
  own:=fun j hj=>by
   by_cases e:j=k
   ·subst e;rw [bL,bL];exact hkeep _ _ hv
   ·rw [bs _ _ e] at hj ⊢;rw [bs _ _ e];exact hkeep _ _ (h.own j e hj)
  apart:=fun i j hi hj hne=>by
   by_cases ei:i=k
   ·subst ei;have ej:j≠i:=Ne.symm hne;rw [bL,bs _ _ ej];rw [bs _ _ ej] at hj;rcases hap j ej hj with h1 | h1
    ·cases e:v.ownBlock with
     | none=>exact .inl rfl
     | some g=>exact .inr (by rw [h1];simp)
    ·exact .inr (Ne.symm h1)
   ·rw [bs _ _ ei] at hi;by_cases ej:j=k
    ·subst ej;rw [bL,bs _ _ ei];exact hap i ei hi
    ·rw [bs _ _ ej] at hj;rw [bs _ _ ei,bs _ _ ej];exact h.apart i j ei ej hi hj hne
  len:=fun j=>by
   by_cases e:j=k
   ·subst e;rw [bL];exact hl
   ·rw [bs _ _ e];exact Nat.le_succ_of_le (h.len j)
  text:=fun j=>by
   by_cases e:j=k
   ·subst e;rw [bL];exact htx
   ·rw [bs _ _ e];exact h.text j
  neat:=fun j=>by
   by_cases e:j=k
   ·subst e;rw [bL];exact hn
   ·rw [bs _ _ e];exact h.neat j
  pr:=h.pr,mr:=h.mr,rw':=Nat.le_trans h.rw' hg.size,pm:=h.pm }
theorem bV.look {w:World} {R P M m:Nat} {D:DataW Value} {G:ByteArray→Cel} {L:ByteArray→Value} (h:bV w R P M m D G L) (k:ByteArray) (hk:k.size≤maxLen) :
 (Instr.lookup 121 (.map (some M)) (.string k) false).run Tryz.prog w=.ok (cvV (cvOf G L k)) w:=by
 obtain ⟨v,ps,h1,h2⟩:=h.map.lookup fF Tryz.underlying121 (wb w) (kg cv0) (gU hk);rw [h.sto.at'] at h2;obtain ⟨c,rfl,hc⟩:=kf h2;rw [h1];simp only [Prod.mk.injEq] at hc
 rw [kj (DataW.held.inj hc.1)]
end
section
open Go.RowKit
theorem A1:(Tryz.prog.info? 100).map (fun i=>(i.zero,i.size,i.bytes))=some (some (.agg #[.string ⟨#[]⟩,.bool false,.string ⟨#[]⟩,.int .i64 0,.slice none 0 0]),5,72):=by kernel_rfl
def cvsC (l:List CV):List Value:=l.flatMap cvC
theorem yL (l:List CV):(cvsC l).length=l.length * 5:=by
 induction l with
 | nil=>rfl
 | cons t r ih=>simp only [cvsC,List.flatMap_cons,List.length_append,List.length_cons] at ih ⊢;rw [ih];simp [cvC];omega
theorem yK (a b:List CV):cvsC (a++b)=cvsC a++cvsC b:=by simp [cvsC]
theorem yM (a:CV):cvsC [a]=cvC a:=by simp [cvsC]
theorem gK (l:List CV) (i j:Nat) (t:CV) (h:l[i]? = some t) (hj:j<5):(cvsC l)[i * 5+j]? = (cvC t)[j]? := by
 induction l generalizing i with
 | nil=>simp at h
 | cons u r ih =>
  have hc:cvsC (u::r)=cvC u++cvsC r:=by simp [cvsC]
  have h3:(cvC u).length=5:=rfl;rw [hc];cases i with
  | zero =>
   obtain rfl:u=t:=by simpa using h
   rw [List.getElem?_append_left (by omega)]
   congr 1;omega
  | succ i =>
   rw [List.getElem?_append_right (by omega),h3,show (i+1) * 5+j-5=i * 5+j by omega];exact ih i (by simpa using h)
theorem qG {t:CV} (h:t.list.oneCell'=true):∀ u∈cvC t,u.oneCell'=true:=by
 intro u hu;simp [cvC] at hu
 rcases hu with rfl | rfl | rfl | rfl | rfl <;> first | rfl | exact h
def bE (w:World) (base:Nat) (v:Value) (l:List CV):Prop:=w.ownsRow base 100 5 v l.length (cvsC l)
theorem CH (w:World) (base:Nat):bE w base (.slice none 0 0) []:=World.ownsRow_nil _ _ _ _
theorem bE.alloc {w:World} {base:Nat} {v:Value} {l:List CV} (h:bE w base v l) (o:Obj):bE (w.alloc o) base v l:=World.ownsRow.alloc h o
theorem bE.lt {w:World} {base:Nat} {v:Value} {l:List CV} (h:bE w base v l):∀ k,v.ownBlock=some k→base≤k∧k<w.heap.size:=World.ownsRow.lt h
theorem bE.below {w w':World} {base:Nat} {v:Value} {l:List CV} (h:bE w base v l) (hb:Below w.heap.size w w'):bE w' base v l:=by
 refine World.ownsRow.kept h (row:=none) ⟨hb.os,hb.tape,hb.output,hb.size,fun k hk _=>hb.block k hk⟩ ?_;cases hv:v.ownBlock with
 | none=>exact .inl rfl
 | some g=>exact .inr (by simp)
def eT (w:World) (v:Value) (l:List CV):Prop :=
 (∃ a c,v=.slice a 0 c∧l=[])∨∃ b off c,v=.slice (some ⟨b,off,none⟩) l.length c∧(0<l.length∧l.length≤c)∧b<w.heap.size∧∀ j u,(cvsC l)[j]? = some u→w.cell? ⟨b,off+j,none⟩=some u
theorem eT.nil (w:World):eT w (.slice none 0 0) []:=.inl ⟨_,_,rfl,rfl⟩
theorem eT.form {w:World} {v:Value} {l:List CV} (h:eT w v l):∃ a c,v=.slice a l.length c∧∀ i t,l[i]? = some t→∃ b off,a=some ⟨b,off,none⟩∧b<w.heap.size ∧
 w.cell? ⟨b,off+i * 5,none⟩=some (.string t.key)∧w.cell? ⟨b,off+i * 5+1,none⟩=some (.bool t.has)∧w.cell? ⟨b,off+i * 5+2,none⟩=some (.string t.text) ∧
 w.cell? ⟨b,off+i * 5+3,none⟩=some (.int .i64 t.sum)∧w.cell? ⟨b,off+i * 5+4,none⟩=some t.list:=by
 rcases h with ⟨a,c,rfl,rfl⟩ | ⟨b,off,c,rfl,h0,h2,h3⟩
 ·exact ⟨a,c,rfl,fun i t h=>by simp at h⟩
 ·refine ⟨_,_,rfl,fun i t h=>⟨b,off,rfl,h2,?_,?_,?_,?_,?_⟩⟩
  ·exact h3 _ _ ((gK l i 0 t h (by omega)).trans rfl)
  ·exact h3 _ _ ((gK l i 1 t h (by omega)).trans rfl)
  ·exact h3 _ _ ((gK l i 2 t h (by omega)).trans rfl)
  ·exact h3 _ _ ((gK l i 3 t h (by omega)).trans rfl)
  ·exact h3 _ _ ((gK l i 4 t h (by omega)).trans rfl)
def yJ (w:World) (B:Nat) (t:CV):Prop:=w.heap[B]? = some (.cells (cvC t).toArray 100 (0,0))
theorem Gc {w:World} {ops:Array Oper} {rest:List Oper} {o:Oper} {a:Act} {Q:Exit→Act→World→Prop} (hgd:o.guard=none) (s x:Operand)
 (ho:o.op=.call { callee:=.builtin .append,args:=#[s,x],argTypes:=#[63,63] })
 (base:Nat) (v:Value) (l:List CV) (hs:a.eval s=v) (hown:bE w base v l)
 (B c:Nat) (hx:a.eval x=.slice (some ⟨B,0,none⟩) 1 c) (t:CV) (ht:t.list.oneCell'=true) (hcell:yJ w B t)
 (hlen:l.length+1≤1000000) (hbase:base≤w.heap.size)
 (h:∀ g cap w',bE w' base (.slice (some ⟨g,0,none⟩) (l.length+1) cap) (l++[t])→w.grownBy w' v.ownBlock→wpList Tryz.prog ops Q rest (a.put o.dst (.slice (some ⟨g,0,none⟩) (l.length+1) cap)) w'):wpList Tryz.prog ops Q (o::rest) a w:=by
 obtain ⟨i0,hi,hz0,hz1,hz2⟩:=info_parts A1;refine wpList_append_lies w hgd s x 63 ho base 100 i0 (.agg #[.string ⟨#[]⟩,.bool false,.string ⟨#[]⟩,.int .i64 0,.slice none 0 0]) 5 72 Tryz.underlying63 hi hz0 hz1 hz2 rfl (by decide) v l.length (cvsC l) hs hown ⟨B,0,none⟩ 1 c (cvC t) hx rfl ?_ (qG ht) (by decide) (by unfold maxLen;omega) (by omega) hbase _ rfl ?_
 ·intro j u hj;have hadd:(⟨B,0,none⟩:Addr).add j=⟨B,j,none⟩:=by unfold Addr.add;split <;> simp_all
  rw [hadd,cell_of_row _ _ _ _ _ _ hcell,←hj];simp
 ·intro g cap w' h1 h2 _ _;refine h g cap w' ?_ h2;unfold bE;rw [List.length_append,yK,yM];exact h1
end
