import Derived.Test.YtdhognaoejiglaaGreatDoorKb08
namespace Go.Proofs.YtdhognaoejiglaaGreatDoor
open Lib (hid)
set_option maxRecDepth 100000
set_option maxHeartbeats 8000000
section
open Go.RowKit
theorem ib (v:Value) (l:List Tok) (w:World) (hv:fP w v l) (hl:l.length≤9223372036854775807) (hz:∀ t∈l,t.own.size≤140737488351232) :
 Calls Tryz.prog 176 #[v] w (jO w (am l 0 0)):=by
 obtain ⟨a1,c1,rfl,f1⟩:=hv.form;have F1:=hid f1;have HZ:=hid hz;obtain ⟨n,hn⟩:∃ n,n=l.length:=⟨_,rfl⟩;rw [←hn] at hl ⊢;have HN:=hid hn;clear hv f1 hn hz;go_enter Tryz.func176,Tryz.ntmps176
 go_wp2
 go_loopw [3,9] (fun s i wr=>∃ k a:Nat,k≤n∧i=.int .i64 k∧s=.int .i64 a∧a≤20000∧am l 0 0=am (l.drop k) k a∧Below w.heap.size w wr) (fun _ i _=>n-(intOf i).toNat)
 case atStart=>exact ⟨0,0,by omega,rfl,rfl,by omega,rfl,Below.refl _ _⟩
 case round =>
  obtain ⟨k,a,hk,rfl,rfl,ha,heq,hbel⟩:=hrel;have HEQ:=hid heq;have HB:=hid hbel;clear heq hbel;by_cases hlt:k<n
  ·have hkl:k<l.length:=by have:=HN.out;omega
   obtain ⟨t,ht⟩:∃ t,l[k]? = some t:=⟨l[k],List.getElem?_eq_getElem hkl⟩;obtain ⟨b1,o1,rfl,hb1,p0,p1,p2⟩:=F1.out k t ht;have hd:l.drop k=t::l.drop (k+1):=by
    rw [List.drop_eq_getElem_cons hkl];congr 1;rw [List.getElem?_eq_getElem hkl] at ht;exact Option.some.inj ht
   have hmem:t∈l:=List.mem_of_getElem? ht;have HS:=hid (HZ.out t hmem);obtain ⟨own,back,size⟩:=t;simp only at p0 p1 p2
   have q0:=(HB.out.cell (p:=⟨b1,o1+k * 3,none⟩) hb1).trans p0;have q1:=(HB.out.cell (p:=⟨b1,o1+k * 3+1,none⟩) hb1).trans p1;have q2:=(HB.out.cell (p:=⟨b1,o1+k * 3+2,none⟩) hb1).trans p2;have hzr:=HB.out.size;obtain ⟨e,he⟩:∃ e,aF ⟨own,back,size⟩ a=e:=⟨_,rfl⟩;have HE:=hid he;have HD:=hid hd;clear p0 p1 p2 ht hmem hd hkl he;have hgap:wr.heap.size<(wr.alloc (.cells #[.string own,.int .i64 back,.int .i64 size] 237)).heap.size:=by simp
   by_cases h0:e=0
   ·subst h0;have hok:0≤size∧size≤1000:=by rcases jG HE.out with ⟨_,h,_⟩ | ⟨_,h1,h2,_⟩ <;> simp only at * <;> omega
    have hle:=ml HE.out;have HN2:Hid (am l 0 0=am (l.drop (k+1)) (k+1) (a+lenT ⟨own,back,size⟩)):=by
     have h:am l 0 0=am (l.drop (k+1)) (k+1) (a+lenT ⟨own,back,size⟩):=by rw [HEQ.out,HD.out,gm HE.out]
     exact h
    obtain ⟨m,hm⟩:∃ m,lenT ⟨own,back,size⟩=m:=⟨_,rfl⟩;rw [hm] at hle HN2;have HM:=hid hm;clear hm HEQ;go_wp2_with fail
    refine (vX own back size a _ HS.out ha).mono ?_;rintro r w1 ⟨rfl,hb1⟩;rw [HE.out];have c0:w1.cell? ⟨wr.heap.size,0,none⟩=some (.string own):=(hb1.cell (by simp)).trans (by simp);have c1:w1.cell? ⟨wr.heap.size,1,none⟩=some (.int .i64 back):=(hb1.cell (by simp)).trans (by simp);have c2:w1.cell? ⟨wr.heap.size,2,none⟩=some (.int .i64 size):=(hb1.cell (by simp)).trans (by simp);have HB1:Hid (Below w.heap.size w w1):=(HB.out.alloc hzr _).trans (hb1.mono (by omega));clear hb1 q0 q1 q2;go_wp2_with fail
    refine (j9 own back size _ HS.out hok.1 hok.2).mono ?_;rintro r w2 ⟨rfl,hb2⟩;rw [HM.out];have HB2:Hid (Below w.heap.size w w2):=HB1.out.trans (hb2.mono HB1.out.size);clear hb2 c0 c1 c2;go_wp2;go_roundw
    case rel=>exact ⟨k+1,a+m,by omega,by go_num,by go_num,by omega,HN2.out,HB2.out⟩
    case measure=>simp [intOf];omega
   ·have HN2 : Hid (am l 0 0 = (e, (k : Int))) := by
     have h:am l 0 0=(e,(k:Int)):=by rw [HEQ.out,HD.out,ov (by rw [HE.out];exact h0),HE.out]
     exact h
    have hne:((e:Int) != 0)=true:=by simp;omega
    have H0:=hid h0;clear HEQ h0;go_wp2_with fail
    refine (vX own back size a _ HS.out ha).mono ?_;rintro r w1 ⟨rfl,hb1⟩;rw [HE.out];have HB1:Hid (Below w.heap.size w w1):=(HB.out.alloc hzr _).trans (hb1.mono (by omega));have hz1:=HB1.out.size;clear hb1 q0 q1 q2;go_wp2;go_ret;rw [HN2.out];exact ⟨_,rfl,atIs.new w1 e k H0.out,HB1.out.alloc hz1 _⟩
  ·have HN2 : Hid (am l 0 0 = (0, -1)) := by
    have h:am l 0 0=(0,-1):=by rw [HEQ.out,List.drop_eq_nil_of_le (by have:=HN.out;omega)];rfl
    exact h
   go_wp2;go_ret;exact ⟨_,rfl,.inl ⟨HN2.out,rfl⟩,HB.out⟩
end
section
theorem eW (x1 x2 y1 y2:Int):cI (x1,x2) (y1,y2)=if x1<y1∨x1=y1∧x2<y2 then -1 else if x1=y1∧x2=y2 then 0 else 1:=by
 unfold cI orF cmpF;simp only
 repeat' split
 all_goals omega
theorem xW (x1 x2 y1 y2:Int):cI (y1,y2) (x1,x2)=- cI (x1,x2) (y1,y2):=by
 rw [eW,eW]
 repeat' split
 all_goals omega
theorem xX (x1 x2 y1 y2:Int):cI (x1,x2) (y1,y2)=-1∨cI (x1,x2) (y1,y2)=0∨cI (x1,x2) (y1,y2)=1:=by
 rw [eW]
 repeat' split
 all_goals omega
theorem xY {x1 x2 y1 y2 z1 z2:Int} (h1:cI (x1,x2) (y1,y2)=-1) (h2:cI (y1,y2) (z1,z2)=-1):cI (x1,x2) (z1,z2)=-1:=by
 rw [eW] at h1 h2 ⊢;split at h1
 ·split at h2
  ·rw [if_pos (by omega)]
  ·split at h2 <;> omega
 ·split at h1 <;> omega
end
section
open Go.RowKit
theorem vP {P:Program} (w:World) {ops:Array Oper} {rest:List Oper} {o:Oper} {a:Act} {Q:Exit→Act→World→Prop} (hgd:o.guard=none) (d s:Operand) (t t':TypeId)
 (ho:o.op=.call { callee:=.builtin .copy,args:=#[d,s],argTypes:=#[t,t'] }) (v u:Value) (hd:a.eval d=v) (hs:a.eval s=u) {v':Value} {w':World}
 (hr:(Builtin.copy_ #[t,t'] o.type #[v,u]).run P w=.ok v' w') (h:wpList P ops Q rest (a.put o.dst v') w'):wpList P ops Q (o::rest) a w :=
 wpList_plain hgd fun K hK=>by
  unfold Oper.wp execOp;simp only [ho,resolve,invoke,builtin,Sem.run_bind,Sem.run_pure,Result.andThen_ok,List.map_toArray,List.map_cons,List.map_nil,hd,hs,hr]
  exact hK _ _ h
theorem tW {P:Program} {ops:Array Oper} {o:Oper} {a:Act} {w:World} {K:Act→World→Prop} {Q:Exit→Act→World→Prop} {E:Prop}
 (hg:o.guard=none) (d x:Operand) (dT sT:TypeId) (hop:o.op=Op.call { callee:=Callee.builtin Builtin.copy,args:=#[d,x],argTypes:=#[dT,sT] })
 (v u:Value) (hd:a.eval d=v) (hx:a.eval x=u) {v':Value} {w':World} (hr:(Builtin.copy_ #[dT,sT] o.type #[v,u]).run P w=.ok v' w') (hK:K (a.put o.dst v') w') :
 if Region.wanted o (yielded ops a.tmps)=true then Oper.wp P o a w K Q else E:=by
 have hw:Region.wanted o (yielded ops a.tmps)=true:=by simp [Region.wanted,hg]
 rw [if_pos hw];unfold Oper.wp;simp [execOp,hop,resolve,invoke,builtin,hd,hx,hr,Result.andThen]
 exact hK
theorem lK (b:Nat) (vs:List Value) (o:Nat) (w:World) (h:∀ j,j<vs.length→(w.cell? ⟨b,o+j,none⟩).isSome=true) (k:Nat) (hk:(w.cell? ⟨b,k,none⟩).isSome=true):((w.setCells b o vs).cell? ⟨b,k,none⟩).isSome=true:=by
 by_cases hin:o≤k∧k<o+vs.length
 ·have:=World.cell?_setCells_in b vs o w h (k-o) (by omega);rw [show o+(k-o)=k by omega] at this;rw [this];rfl
 ·rw [World.cell?_setCells_out b vs o w ⟨b,k,none⟩ (fun _ _=>by show k<o∨o+vs.length≤k;omega)];exact hk
theorem A7 {w:World} {g off i:Nat} {l:List Wr} {x:Wr} (hi:i≤l.length) (hh:∀ j,j<i * 6→∀ u,(wrsC l)[j]? = some u→w.cell? ⟨g,off+j,none⟩=some u) (hall:∀ j,j<(l.length+1) * 6→(w.cell? ⟨g,off+j,none⟩).isSome=true) :
 ∀ k u,(wrsC (l.take i++x::l.drop i))[k]? = some u→((w.setCells g (off+(i+1) * 6) (wrsC (l.drop i))).setCells g (off+i * 6) (wrC x)).cell? ⟨g,off+k,none⟩=some u:=by
 intro k u hk;have hdl:(wrsC (l.drop i)).length=(l.length-i) * 6:=by rw [dm,List.length_drop]
 have htl:(wrsC (l.take i)).length=i * 6:=by rw [dm,List.length_take];omega
 have hxl:(wrC x).length=6:=rfl;have hkl:k<(l.length+1) * 6:=by
  have:=(List.getElem?_eq_some_iff.1 hk).1;rw [dm,List.length_append,List.length_take,List.length_cons,List.length_drop] at this;omega
 have hS1:∀ j,j<(wrsC (l.drop i)).length→(w.cell? ⟨g,off+(i+1) * 6+j,none⟩).isSome=true:=fun j hj=>by rw [Nat.add_assoc];exact hall _ (by omega)
 rw [io,show wrsC (x::l.drop i)=wrC x++wrsC (l.drop i) by simp [wrsC]] at hk;by_cases h1:k<i * 6
 ·rw [World.cell?_setCells_out _ _ _ _ _ (fun _ _=>.inl (by show off+k<_;omega)),World.cell?_setCells_out _ _ _ _ _ (fun _ _=>.inl (by show off+k<_;omega))];rw [List.getElem?_append_left (by omega),jH,List.getElem?_take_of_lt h1] at hk;exact hh k h1 u hk
 ·rw [List.getElem?_append_right (by omega),htl] at hk;by_cases h2:k<(i+1) * 6
  ·have := World.cell?_setCells_in g (wrC x) (off + i * 6) (w.setCells g (off + (i + 1) * 6) (wrsC (l.drop i))) (fun t ht => by
    rw [Nat.add_assoc];exact lK g _ _ w hS1 _ (hall _ (by omega))) (k-i * 6) (by omega)
   rw [show off+i * 6+(k-i * 6)=off+k by omega] at this;rw [List.getElem?_append_left (by omega)] at hk;rw [this,←hk,List.getElem?_eq_getElem]
  ·rw [List.getElem?_append_right (by omega),hxl] at hk;rw [World.cell?_setCells_out _ _ _ _ _ (fun _ _=>.inr (by show _≤off+k;omega))];have:=World.cell?_setCells_in g (wrsC (l.drop i)) (off+(i+1) * 6) w hS1 (k-(i+1) * 6) (by omega);rw [show off+(i+1) * 6+(k-(i+1) * 6)=off+k by omega] at this;rw [this,←hk,show k-i * 6-6=k-(i+1) * 6 by omega,List.getElem?_eq_getElem]
theorem l8 (g:Nat) (vs:List Value):∀ (o:Nat) (w:World) (cur:Array Value) (t:TypeId),w.heap[g]? = some (.cells cur t (0,0))→∃ cur',(w.setCells g o vs).heap[g]? = some (.cells cur' t (0,0))∧cur'.size=cur.size:=by
 induction vs with
 | nil=>intro o w cur t h;exact ⟨cur,h,rfl⟩
 | cons v r ih =>
  intro o w cur t h;obtain ⟨cur',h1,h2⟩:=ih (o+1) (w.setCell ⟨g,o,none⟩ v) _ t (heap_setCell_same _ _ o _ _ v h);exact ⟨cur',h1,by rw [h2];simp⟩
theorem CN {w:World} {base g cap:Nat} {l:List Wr} {cur:Array Value} (hh:w.heap[g]? = some (.cells cur 38 (0,0))) (hs:cur.size=cap * 6) (hc:l.length≤cap) (hm:cap≤maxLen) (hb:base≤g)
 (hcell:∀ k u,(wrsC l)[k]? = some u→w.cell? ⟨g,k,none⟩=some u):ak w base (.slice (some ⟨g,0,none⟩) l.length cap) l:=by
 refine ⟨dm l,.inr ⟨g,cap,cur,rfl,hb,hh,hc,hm,hs,?_⟩⟩;have hle:l.length * 6≤cur.size:=by rw [hs];omega
 apply List.ext_getElem?
 intro j;by_cases hj:j<l.length * 6
 ·have h1:j<(wrsC l).length:=by rw [dm];exact hj
  have h2:=hcell j _ (List.getElem?_eq_getElem h1);rw [cell_of_row _ _ j _ _ (0,0) hh] at h2;rw [List.getElem?_take_of_lt hj,Array.getElem?_toList,h2,List.getElem?_eq_getElem h1]
 ·have h3:cur.toList.length=cur.size:=Array.length_toList;rw [List.getElem?_eq_none (by rw [List.length_take,h3];omega),List.getElem?_eq_none (by rw [dm];omega)]
def fo (w:World) (base i:Nat) (l:List Wr) (x:Wr) (e:Ending) (w':World):Prop :=
 ∃ u,e=.returned u∧ak w' base u (l.take i++x::l.drop i)∧Below base w w'
theorem fo.mk {w w':World} {base i g cap:Nat} {l:List Wr} {x:Wr} {cur:Array Value} {e:Ending} (he:e=.returned (.slice (some ⟨g,0,none⟩) (l.length+1) cap)) (hi:i≤l.length) (hh:w'.heap[g]? = some (.cells cur 38 (0,0))) (hs:cur.size=cap * 6) (hc:l.length+1≤cap) (hm:cap≤maxLen) (hb:base≤g)
 (hcell:∀ k u,(wrsC (l.take i++x::l.drop i))[k]? = some u→w'.cell? ⟨g,k,none⟩=some u) (hB:Below base w w'):fo w base i l x e w':=by
 have hll:(l.take i++x::l.drop i).length=l.length+1:=by rw [List.length_append,List.length_take,List.length_cons,List.length_drop];omega
 refine ⟨_,he,?_,hB⟩;have:=CN hh hs (by rw [hll];exact hc) hm hb hcell
 rwa [hll] at this
theorem Aa (g off cap i n vb vc:Nat) (l:List Wr) (x:Wr) (w:World) (base:Nat) (cur:Array Value) (hcur:w.heap[g]? = some (.cells cur 38 (0,0))) (hcs:cur.size=cap * 6) (hcm:cap≤maxLen) (hoff:off=0) (h:rowAt w g off cap l) (hsh:w.shape? g=some (38,cap * 6)) (hn:n=l.length) (hi:i<n) (hroom:n+1≤cap) (hm:cap≤9223372036854775807) (hvb:cU w vb x) (hne:vb≠g) (hgb:base≤g) (hgs:g<w.heap.size) :
 Calls Tryz.prog 69 #[.slice (some ⟨g,off,none⟩) n cap,.int .i64 (i:Int),.slice (some ⟨vb,0,none⟩) 1 vc] w (fo w base i l x):=by
 have hwrs:(Tryz.prog.info? 38).map (·.size)=some 6:=by kernel_rfl
 obtain ⟨q,hq⟩:∃ q,q=i+1:=⟨_,rfl⟩;obtain ⟨p,hp⟩:∃ p,p=n+1:=⟨_,rfl⟩;obtain ⟨xs,hxs⟩:∃ xs,xs=wrC x:=⟨_,rfl⟩;have hxl:xs.length=6:=by rw [hxs];rfl
 have hx1:∀ v∈xs,v.oneCell'=true:=by rw [hxs];exact il x
 have hvc:∀ j v,xs[j]? = some v→w.cell? ⟨vb,j,none⟩=some v:=fun j v hj=>by
  rw [cell_of_row _ _ j _ _ (0,0) hvb];rw [hxs] at hj;simpa using hj
 have hic:=A7 (w:=w.drew) (g:=g) (off:=off) (i:=i) (l:=l) (x:=x) (by omega) (fun j _ u hj=>h.drew.1 j u hj) (fun j hj=>(h.drew.2 j (by omega)).1);obtain ⟨ds,hds⟩:∃ ds,ds=wrsC (l.drop i):=⟨_,rfl⟩;rw [←hds,←hxs,←hq] at hic;have hdl:ds.length=(n-i) * 6:=by rw [hds,dm,List.length_drop,hn]
 have hov:∀ lb cb,(callFunc 99 #[.slice (some ⟨vb,0,none⟩) 1 vc,.slice (some ⟨g,off+q * 6,none⟩) lb cb]).run Tryz.prog w=.ok (.value (.bool false)) w:=fun lb cb=>by
  rw [run_callFunc_extern Tryz.func99 (by kernel_rfl) (by kernel_rfl) (by kernel_rfl) (e:=Extern.SlicesOverlaps.overlaps #[30,30] #[4]) (by kernel_rfl),
   Lib.run_overlaps_apart w 30 4 38 Tryz.underlying30 6 (fun w=>by kernel_rfl) ⟨vb,0,none⟩ ⟨g,off+q * 6,none⟩ 1 vc lb cb hne 38 38 6 (cap * 6) (by unfold cU at hvb;simp [World.shape?,hvb,wrC]) hsh (by omega) (by unfold cU at hvb;simp [World.frozen?,hvb]) (by unfold cU at hvb;simp [World.frozen?,hvb])]
  rfl
 have hcp1:∀ ty dc sc,(Builtin.copy_ #[30,30] ty #[.slice (some ⟨g,off+q * 6,none⟩) (p-q) dc,.slice (some ⟨g,off+i * 6,none⟩) (p-i) sc]).run Tryz.prog w.drew=.ok (goInt (Nat.min (p-i) (p-q))) (w.drew.setCells g (off+q * 6) ds):=fun ty dc sc =>
  lF w.drew _ _ ty 38 6 g (off+q * 6) (p-q) dc ⟨g,off+i * 6,none⟩ (p-i) sc ds Tryz.underlying30 hwrs (by rw [hdl];simp only [Nat.min_def];split <;> omega)
   (fun j v hj=>by rw [Addr.add_lit,Nat.add_assoc];refine h.drew.1 _ v ?_;rw [hds,vY,List.getElem?_drop] at hj;exact hj)
   (fun j hj=>by rw [Nat.add_assoc];exact (h.drew.2 _ (by omega)).1) (fun j hj=>by rw [Nat.add_assoc];exact (h.drew.2 _ (by omega)).2) (fun v hv=>by rw [hds] at hv;exact pz _ v hv)
 obtain ⟨W1,hW1⟩:∃ W1,W1=w.drew.setCells g (off+q * 6) ds:=⟨_,rfl⟩;have hsp1:∀ k,k<cap * 6→(W1.cell? ⟨g,off+k,none⟩).isSome=true:=fun k hk=>by
  rw [hW1];exact lK g _ _ _ (fun j hj=>by rw [Nat.add_assoc];exact (h.drew.2 _ (by omega)).1) _ (h.drew.2 k hk).1
 have hcp2:∀ ty dc,(Builtin.copy_ #[30,30] ty #[.slice (some ⟨g,off+i * 6,none⟩) (p-i) dc,.slice (some ⟨vb,0,none⟩) 1 vc]).run Tryz.prog W1=.ok (goInt (Nat.min 1 (p-i))) (W1.setCells g (off+i * 6) xs):=fun ty dc =>
  lF W1 _ _ ty 38 6 g (off+i * 6) (p-i) dc ⟨vb,0,none⟩ 1 vc xs Tryz.underlying30 hwrs (by rw [hxl];simp only [Nat.min_def];split <;> omega)
   (fun j v hj=>by
    rw [Addr.add_lit,hW1,World.cell?_setCells_out g _ _ _ _ (fun h _=>absurd h hne),Nat.zero_add];exact hvc j v hj)
   (fun j hj=>by rw [Nat.add_assoc];exact hsp1 _ (by omega)) (fun j hj=>by rw [hW1,World.frozen?_setCells,Nat.add_assoc];exact (h.drew.2 _ (by omega)).2) hx1
 rw [←hW1] at hcp1 hic;have hb0:∀ B,B≤g→Below B w W1:=fun B hB=>by rw [hW1];exact fq (Below.drew (Below.refl B w)) hB ds (off+q * 6)
 obtain ⟨cur2,hc2,hs2⟩:=l8 g ds (off+q * 6) w.drew cur _ hcur;rw [←hW1] at hc2;obtain ⟨cur3,hc3,hs3⟩:=l8 g xs (off+i * 6) W1 cur2 _ hc2;have HC3:Hid ((W1.setCells g (off+i * 6) xs).heap[g]? = some (.cells cur3 38 (0,0))∧cur3.size=cap * 6):=hid ⟨hc3,by rw [hs3,hs2,hcs]⟩;have HCM:=hid hcm;have HOFF:=hid hoff;clear hc2 hs2 hc3 hs3 hcur hcs hcm hoff;have HB:=hid (fq (hb0 base hgb) hgb xs (off+i * 6));have HB0:=hid (fq (hb0 0 (Nat.zero_le g)) (Nat.zero_le g) xs (off+i * 6)).size;have HIC:=hid hic;have HN:=hid hn;have HP:=hid hp;have HGS:=hid hgs;have HGB:=hid hgb;have hin:i≤n:=by omega
 have hz2:¬ ((i:Int)=(n:Int)):=by omega
 have hz3:((i:Int) == (n:Int))=false:=by simp;omega
 have w1:IntKind.i64.wrap ((i:Int)+1)=(q:Int):=by rw [show (i:Int)+1=(q:Int) by omega];exact IntWalk.i64_in _ (by omega)
 have w2:(i:Int)+1=(q:Int):=by omega
 have w3:IntKind.i64.wrap (q:Int)=(q:Int):=IntWalk.i64_in _ (by omega);have w4:IntKind.i64.wrap ((n:Int)+1)=(p:Int):=by rw [show (n:Int)+1=(p:Int) by omega];exact IntWalk.i64_in _ (by omega)
 have w5:(n:Int)+1=(p:Int):=by omega
 have w6:IntKind.i64.wrap (p:Int)=(p:Int):=IntWalk.i64_in _ (by omega);have hpc:p≤cap:=by omega
 have hpc2:¬ (cap:Int)<(p:Int):=by omega
 have hpc3:decide ((cap:Int)<(p:Int))=false:=by simp;omega
 have hqp:q≤p:=by omega
 have hip:i≤p:=by omega
 have hcq:¬ cap=q:=by omega
 have hci:¬ cap=i:=by omega
 have hqc:q≤cap:=by omega
 have hicc:i≤cap:=by omega
 clear hwrs hxs hxl hx1 hvc hic hds hdl hW1 hsp1 hb0 hn hp hq h hsh hvb hne hgb hgs hroom;go_enter Tryz.func69,Tryz.ntmps69
 go_wp2_with (simp only [hov])
 go_region_law (refine tW rfl _ _ 30 30 rfl _ _ (by simp [Act.eval,Act.put]) (by simp [Act.eval,Act.put]) (hcp1 _ _ _) ?_)
 go_wp2_with (at_builtin;refine vP _ rfl _ _ 30 30 rfl _ _ rfl rfl (hcp2 _ _) ?_)
 go_ret;refine fo.mk (g:=g) (cap:=cap) (by rw [←HN.out,←HP.out,HOFF.out];rfl) (by have:=HN.out;omega) HC3.out.1 HC3.out.2 (by have:=HN.out;have:=HP.out;omega) HCM.out HGB.out (fun k u hu=>?_) HB.out;have:=HIC.out k u hu;rw [show off+k=k by rw [HOFF.out,Nat.zero_add]] at this;exact this
theorem A8 {w:World} {g i:Nat} {l:List Wr} {x:Wr} (hi:i≤l.length) (hh:∀ j,j<i * 6→∀ u,(wrsC l)[j]? = some u→w.cell? ⟨g,j,none⟩=some u) (hall:∀ j,j<(l.length+1) * 6→(w.cell? ⟨g,j,none⟩).isSome=true) :
 ∀ k u,(wrsC (l.take i++x::l.drop i))[k]? = some u→((w.setCells g (i * 6) (wrC x)).drew.setCells g ((i+1) * 6) (wrsC (l.drop i))).cell? ⟨g,k,none⟩=some u:=by
 obtain ⟨xs,hxs⟩:∃ xs,xs=wrC x:=⟨_,rfl⟩;have hxl:xs.length=6:=by rw [hxs];rfl
 have hca:wrsC (l.take i++x::l.drop i)=wrsC (l.take i)++(xs++wrsC (l.drop i)):=by rw [io,hxs];simp [wrsC]
 rw [←hxs,hca];intro k u hk;have hdl:(wrsC (l.drop i)).length=(l.length-i) * 6:=by rw [dm,List.length_drop]
 have htl:(wrsC (l.take i)).length=i * 6:=by rw [dm,List.length_take];omega
 have hkl:k<(l.length+1) * 6:=by
  have:=(List.getElem?_eq_some_iff.1 hk).1;rw [List.length_append,List.length_append,htl,hxl,hdl] at this;omega
 have hS1:∀ j,j<xs.length→(w.cell? ⟨g,i * 6+j,none⟩).isSome=true:=fun j hj=>hall _ (by omega)
 have hdr:∀ a:Addr,(w.setCells g (i * 6) xs).drew.cell? a=(w.setCells g (i * 6) xs).cell? a:=fun a=>rfl
 clear hca hxs;by_cases h1:k<i * 6
 ·rw [World.cell?_setCells_out _ _ _ _ _ (fun _ _=>.inl (by show k<_;omega)),hdr,World.cell?_setCells_out _ _ _ _ _ (fun _ _=>.inl (by show k<_;omega))];rw [List.getElem?_append_left (by omega),jH,List.getElem?_take_of_lt h1] at hk;exact hh k h1 u hk
 ·rw [List.getElem?_append_right (by omega),htl] at hk;by_cases h2:k<(i+1) * 6
  ·rw [World.cell?_setCells_out _ _ _ _ _ (fun _ _=>.inl (by show k<_;omega)),hdr];have:=World.cell?_setCells_in g xs (i * 6) w hS1 (k-i * 6) (by omega);rw [show i * 6+(k-i * 6)=k by omega] at this;rw [List.getElem?_append_left (by omega)] at hk;rw [this,←hk,List.getElem?_eq_getElem]
  ·rw [List.getElem?_append_right (by omega),hxl] at hk;have:=World.cell?_setCells_in g (wrsC (l.drop i)) ((i+1) * 6) (w.setCells g (i * 6) xs).drew (fun t ht=>by
    rw [hdr];exact lK g _ _ w hS1 _ (hall _ (by omega))) (k-(i+1) * 6) (by omega)
   rw [show (i+1) * 6+(k-(i+1) * 6)=k by omega] at this;rw [this,←hk,show k-i * 6-6=k-(i+1) * 6 by omega,List.getElem?_eq_getElem]
theorem A9 (g off cap i n vb vc:Nat) (l:List Wr) (x:Wr) (w:World) (base:Nat) (h:rowAt w g off cap l) (hn:n=l.length) (hi:i<n) (hnc:n≤cap) (hroom:cap<n+1) (hm:n≤1000000) (hvb:cU w vb x) (hbs:base≤w.heap.size) (hgs:g<w.heap.size) :
 Calls Tryz.prog 69 #[.slice (some ⟨g,off,none⟩) n cap,.int .i64 (i:Int),.slice (some ⟨vb,0,none⟩) 1 vc] w (fo w base i l x):=by
 obtain ⟨i0,hi0,hz0,hzs,hzb⟩:=info_parts iW;have hwrs:(Tryz.prog.info? 38).map (·.size)=some 6:=by kernel_rfl
 obtain ⟨q,hq⟩:∃ q,q=i+1:=⟨_,rfl⟩;obtain ⟨p,hp⟩:∃ p,p=n+1:=⟨_,rfl⟩;obtain ⟨xs,hxs⟩:∃ xs,xs=wrC x:=⟨_,rfl⟩;have hxl:xs.length=6:=by rw [hxs];rfl
 have hx1:∀ v∈xs,v.oneCell'=true:=by rw [hxs];exact il x
 have hvs:vb<w.heap.size:=(Array.getElem?_eq_some_iff.1 hvb).1;have hvc:∀ j v,xs[j]? = some v→w.cell? ⟨vb,j,none⟩=some v:=fun j v hj=>by
  rw [cell_of_row _ _ j _ _ (0,0) hvb];rw [hxs] at hj;simpa using hj
 obtain ⟨olds,hos⟩:∃ o,o=wrsC (l.take i):=⟨_,rfl⟩;have hol:olds.length=i * 6:=by rw [hos,dm,List.length_take];omega
 obtain ⟨ds,hds⟩:∃ ds,ds=wrsC (l.drop i):=⟨_,rfl⟩;have hdl:ds.length=(n-i) * 6:=by rw [hds,dm,List.length_drop,hn]
 have hold:(Builtin.firstCells i0.size i (.slice (some ⟨g,off,none⟩) i cap)).run Tryz.prog w.drew=.ok olds.toArray w.drew:=by
  rw [hzs];refine run_firstCells_some w.drew 6 i ⟨g,off,none⟩ i cap olds hol (fun j v hj=>?_);rw [Addr.add_lit];refine h.drew.1 j v ?_;rw [hos,jH,List.getElem?_take] at hj;split at hj
  ·exact hj
  ·cases hj
 have hkk:(p:Int)-(i:Int)=((p-i:Nat):Int):=by omega
 have hik:i+(p-i)=p:=by omega
 have hrz0 : ∀ ty, (Builtin.append_ #[30, 3] ty #[.slice (some ⟨g, off, none⟩) i cap, .int .i64 ((p : Int) - (i : Int))]).run Tryz.prog w =
     .ok (.slice (some ⟨w.heap.size,0,none⟩) p (grownCap w p cap 38)) (w.drew.alloc (.cells (olds.toArray++Builtin.zeroCells (Value.agg #[.int .i64 0,.int .i64 0,.int .i64 0,.string ⟨#[]⟩,.string ⟨#[]⟩,.int .i64 0]).cells (p-i)++Builtin.zeroCells (Value.agg #[.int .i64 0,.int .i64 0,.int .i64 0,.string ⟨#[]⟩,.string ⟨#[]⟩,.int .i64 0]).cells (grownCap w p cap 38-p)) 38)):=fun ty=>by
  have hx:=Lib.run_append_grow_zeros w 30 3 ty 38 i0 _ .i64 .i64 Tryz.underlying30 Tryz.underlying3 hi0 hz0 (some ⟨g,off,none⟩) i cap olds hold (p-i) (by omega) (by omega) (by omega) (by omega) (by rw [hzb];omega) (by rw [hzb,hik];exact growslice_fits (by omega) (by omega));rw [hik] at hx;rw [hkk];exact hx
 have hGn:p≤grownCap w p cap 38:=grownCap_ge w _ _ _;have hG63:grownCap w p cap 38≤9223372036854775807:=by
  have:=grownCap_le_maxLen w p cap 38 (by unfold maxLen;omega);unfold maxLen at this;omega
 obtain ⟨G,hG⟩:∃ G,G=grownCap w p cap 38:=⟨_,rfl⟩;rw [←hG] at hrz0 hGn hG63;obtain ⟨ROW,hROW⟩:∃ ROW:Array Value,ROW=olds.toArray++Builtin.zeroCells (Value.agg #[.int .i64 0,.int .i64 0,.int .i64 0,.string ⟨#[]⟩,.string ⟨#[]⟩,.int .i64 0]).cells (p-i)++Builtin.zeroCells (Value.agg #[.int .i64 0,.int .i64 0,.int .i64 0,.string ⟨#[]⟩,.string ⟨#[]⟩,.int .i64 0]).cells (G-p):=⟨_,rfl⟩;rw [←hROW] at hrz0;have hRl:p * 6≤ROW.size:=by
  rw [hROW];simp [Builtin.zeroCells,Value.cells,hol]
  omega
 have hRs:ROW.size=G * 6:=by
  rw [hROW];simp [Builtin.zeroCells,Value.cells,hol]
  omega
 have hGm:G≤maxLen:=by rw [hG];exact grownCap_le_maxLen w p cap 38 (by unfold maxLen;omega)
 obtain ⟨H,hH⟩:∃ H,H=w.heap.size:=⟨_,rfl⟩;rw [←hH] at hrz0;obtain ⟨W1,hW1⟩:∃ W1,W1=w.drew.alloc (.cells ROW 38):=⟨_,rfl⟩;have hrz:∀ ty,(Builtin.append_ #[30,3] ty #[.slice (some ⟨g,off,none⟩) i cap,.int .i64 ((p:Int)-(i:Int))]).run Tryz.prog w=.ok (.slice (some ⟨H,0,none⟩) p G) W1:=fun ty=>by rw [hrz0,hW1]
 have hc1:∀ j,W1.cell? ⟨H,j,none⟩=ROW[j]? := fun j=>by
  rw [hW1,hH];have e:=World.cell?_alloc_at (w:=w.drew) ROW 38 w.heap.size j rfl;exact e
 have hN:∀ j,j<p * 6→(W1.cell? ⟨H,j,none⟩).isSome=true:=fun j hj=>by
  rw [hc1,Array.getElem?_eq_getElem (by omega)];rfl
 have hNf:∀ j,W1.frozen? ⟨H,j,none⟩=false:=fun j=>by rw [hW1,hH];exact World.frozen?_alloc_at (w:=w.drew) ROW _ w.heap.size j rfl
 have hO:∀ B j v,B<w.heap.size→w.cell? ⟨B,j,none⟩=some v→W1.cell? ⟨B,j,none⟩=some v:=fun B j v hB hv=>by rw [hW1,World.cell?_alloc_past (w:=w.drew) _ B j hB];exact hv
 have hcpA:∀ ty dc,(Builtin.copy_ #[30,30] ty #[.slice (some ⟨H,i * 6,none⟩) (p-i) dc,.slice (some ⟨vb,0,none⟩) 1 vc]).run Tryz.prog W1=.ok (goInt (Nat.min 1 (p-i))) (W1.setCells H (i * 6) xs):=fun ty dc =>
  lF W1 _ _ ty 38 6 H (i * 6) (p-i) dc ⟨vb,0,none⟩ 1 vc xs Tryz.underlying30 hwrs (by rw [hxl];simp only [Nat.min_def];split <;> omega)
   (fun j v hj=>by rw [Addr.add_lit,Nat.zero_add];exact hO _ _ v hvs (hvc j v hj)) (fun j hj=>hN _ (by omega)) (fun j hj=>hNf _) hx1
 obtain ⟨W2,hW2⟩:∃ W2,W2=W1.setCells H (i * 6) xs:=⟨_,rfl⟩;rw [←hW2] at hcpA;have hN2:∀ j,j<p * 6→(W2.drew.cell? ⟨H,j,none⟩).isSome=true:=fun j hj=>by
  show (W2.cell? _).isSome=true
  rw [hW2];exact lK H _ _ W1 (fun t ht=>hN _ (by omega)) _ (hN j hj)
 have hcpB:∀ ty dc sc,(Builtin.copy_ #[30,30] ty #[.slice (some ⟨H,q * 6,none⟩) (p-q) dc,.slice (some ⟨g,off+i * 6,none⟩) (n-i) sc]).run Tryz.prog W2.drew=.ok (goInt (Nat.min (n-i) (p-q))) (W2.drew.setCells H (q * 6) ds):=fun ty dc sc =>
  lF W2.drew _ _ ty 38 6 H (q * 6) (p-q) dc ⟨g,off+i * 6,none⟩ (n-i) sc ds Tryz.underlying30 hwrs (by rw [hdl];simp only [Nat.min_def];split <;> omega)
   (fun j v hj=>by
    rw [Addr.add_lit,Nat.add_assoc];show W2.cell? _=_
    rw [hW2,World.cell?_setCells_out H _ _ _ _ (fun e _=>absurd e (by show g≠H;omega))];refine hO _ _ v hgs (h.1 _ v ?_);rw [hds,vY,List.getElem?_drop] at hj;exact hj)
   (fun j hj=>hN2 _ (by omega)) (fun j hj=>by show W2.frozen? _=false;rw [hW2,World.frozen?_setCells];exact hNf _) (fun v hv=>by rw [hds] at hv;exact pz _ v hv)
 have hic := A8 (w := W1) (g := H) (i := i) (l := l) (x := x) (by omega) (fun j hj u hu => by
     rw [hc1,hROW,Array.append_assoc,Array.getElem?_append_left (by simp [hol];omega)];rw [←hu,hos,jH];simp only [List.getElem?_toArray]
     rw [List.getElem?_take_of_lt hj]) (fun j hj=>hN j (by rw [hp,hn];exact hj))
 rw [←hxs,←hW2,←hds,←hq] at hic;have hr1:W1.heap[H]? = some (.cells ROW 38 (0,0)):=by rw [hW1,hH];exact heap_alloc_new w.drew _
 obtain ⟨cur2,hc2,hs2'⟩:=l8 H xs (i * 6) W1 ROW _ hr1;rw [←hW2] at hc2;obtain ⟨cur3,hc3,hs3'⟩:=l8 H ds (q * 6) W2.drew cur2 _ hc2;have HC3:Hid ((W2.drew.setCells H (q * 6) ds).heap[H]? = some (.cells cur3 38 (0,0))∧cur3.size=G * 6):=hid ⟨hc3,by rw [hs3',hs2',hRs]⟩;have HGM:=hid hGm;clear hr1 hc2 hs2' hc3 hs3' hRs hGm;have hb1:∀ B,B≤H→Below B w W1:=fun B hB=>by rw [hW1];exact (Below.drew (Below.refl B w)).alloc (by rw [hH] at hB;exact hB) _
 have hb2:∀ B,B≤H→Below B w W2:=fun B hB=>by rw [hW2];exact fq (hb1 B hB) hB xs (i * 6)
 have hHW:H<W1.heap.size:=by rw [hW1,hH];simp
 have hs1:=(fq (Below.refl 0 W1) (Nat.zero_le H) xs (i * 6)).size;rw [←hW2] at hs1;have hs2:=(fq (Below.drew (Below.refl 0 W2)) (Nat.zero_le H) ds (q * 6)).size;have HHB:Hid (base≤H):=hid (by omega);have HHS:Hid (H<(W2.drew.setCells H (q * 6) ds).heap.size):=hid (by omega);have HB:=hid (fq (hb2 base (by omega)).drew (show base≤H by omega) ds (q * 6));have HB0:=hid (fq (hb2 0 (Nat.zero_le H)).drew (Nat.zero_le H) ds (q * 6)).size;have HIC:Hid (∀ k u,(wrsC (l.take i++x::l.drop i))[k]? = some u→(W2.drew.setCells H (q * 6) ds).cell? ⟨H,k,none⟩=some u):=hid hic;have HN:=hid hn;have HP:=hid hp;have HGN:=hid hGn;have hin:i≤n:=by omega
 have hz2:¬ ((i:Int)=(n:Int)):=by omega
 have hz3:((i:Int) == (n:Int))=false:=by simp;omega
 have w1:IntKind.i64.wrap ((i:Int)+1)=(q:Int):=by rw [show (i:Int)+1=(q:Int) by omega];exact IntWalk.i64_in _ (by omega)
 have w2:(i:Int)+1=(q:Int):=by omega
 have w3:IntKind.i64.wrap (q:Int)=(q:Int):=IntWalk.i64_in _ (by omega);have w4:IntKind.i64.wrap ((n:Int)+1)=(p:Int):=by rw [show (n:Int)+1=(p:Int) by omega];exact IntWalk.i64_in _ (by omega)
 have w5:(n:Int)+1=(p:Int):=by omega
 have w6:IntKind.i64.wrap (p:Int)=(p:Int):=IntWalk.i64_in _ (by omega);have w7:IntKind.i64.wrap ((p:Int)-(i:Int))=(p:Int)-(i:Int):=IntWalk.i64_in _ (by omega);have hpc2:(cap:Int)<(p:Int):=by omega
 have hpc3:decide ((cap:Int)<(p:Int))=true:=by simp;omega
 have hqp:q≤p:=by omega
 have hip:i≤p:=by omega
 have hGq:¬ G=q:=by omega
 have hGi:¬ G=i:=by omega
 have hci:¬ cap=i:=by omega
 have hicc:i≤cap:=by omega
 have hiG:i≤G:=by omega
 have hqG:q≤G:=by omega
 clear hi0 hz0 hzs hzb hwrs hxs hxl hx1 hvc hvs hos hol hds hdl hold hkk hik hrz0 hG hROW hRl hW1 hc1 hN hNf hO hW2 hN2 hic hb1 hb2 hHW hs1 hs2 hn hp hq h hvb hgs hroom hbs hH;go_enter Tryz.func69,Tryz.ntmps69
 go_wp2_with (first
  | (at_builtin;refine Lib.wpList_append_run _ rfl _ _ _ _ rfl _ _ rfl rfl _ _ (hrz _) ?_)
  | (at_builtin;refine vP _ rfl _ _ 30 30 rfl _ _ rfl rfl (hcpA _ _) ?_))
 go_region_law (refine tW rfl _ _ 30 30 rfl _ _ (by simp [Act.eval,Act.put]) (by simp [Act.eval,Act.put]) (hcpB _ _ _) ?_)
 go_wp2;go_ret;exact fo.mk (g:=H) (cap:=G) (by rw [←HN.out,←HP.out];rfl) (by have:=HN.out;omega) HC3.out.1 HC3.out.2 (by have:=HN.out;have:=HP.out;have:=HGN.out;omega) HGM.out HHB.out HIC.out HB.out
theorem B7 (v:Value) (n vb vc:Nat) (l:List Wr) (x:Wr) (w:World) (base:Nat) (ho:ak w base v l) (hn:n=l.length) (hm:n≤100000) (hvb:cU w vb x) (hbs:base≤w.heap.size) :
 Calls Tryz.prog 69 #[v,.int .i64 (n:Int),.slice (some ⟨vb,0,none⟩) 1 vc] w (fo w base n l x):=by
 obtain ⟨a,c,hv,_⟩:=ho.is.form;have hnc:n≤c:=by
  rcases ho.2 with ⟨e,h0⟩ | ⟨g,cap,cur,e,_,_,h1,_⟩
  ·omega
  ·rw [e] at hv;obtain ⟨_,_,e3⟩:=Value.slice.inj hv;omega
 subst hv;rw [←hn] at ho ⊢;have HO:=hid ho;have HN:=hid hn;have HV:=hid hvb;have HBS:=hid hbs;clear ho hn hvb hbs;go_enter Tryz.func69,Tryz.ntmps69
 go_wp2_with (at_builtin;refine jE rfl _ _ rfl base _ l rfl HO.out vb vc rfl x HV.out (by have:=HN.out;omega) HBS.out ?_;intro g cap w' ho' hg';have HO':=hid ho';have HG':=hid hg';clear ho' hg')
 all_goals
  go_ret;refine ⟨_,rfl,?_,(Below.refl base w).grown HG'.out HBS.out (fun k e=>(HO.out.lt k e).1)⟩;rw [List.take_of_length_le (by rw [HN.out];exact Nat.le_refl _),List.drop_of_length_le (by rw [HN.out];exact Nat.le_refl _)];exact HO'.out
theorem B6 (v:Value) (i n vb:Nat) (l:List Wr) (x:Wr) (w:World) (base:Nat) (ho:ak w base v l) (hn:n=l.length) (hi:i≤n) (hm:n≤100000) (hvb:cU w vb x) (hne:v.ownBlock≠some vb) (hbs:base≤w.heap.size) :
 Calls Tryz.prog 69 #[v,.int .i64 (i:Int),.slice (some ⟨vb,0,none⟩) 1 1] w (fo w base i l x):=by
 by_cases hin:i=n
 ·subst hin;exact B7 v i vb 1 l x w base ho hn hm hvb hbs
 have hlt:i<n:=by omega
 obtain ⟨g,cap,rfl,hg,hgs,hlc,hcm,hrow,hsh⟩:=ho.rowAt (by omega);have hcm':=hcm;unfold maxLen at hcm';by_cases hroom:n+1≤cap
 ·obtain ⟨cur, hcur, hcs⟩ : ∃ cur, w.heap[g]? = some (.cells cur 38 (0, 0)) ∧ cur.size = cap * 6 := by
   rcases ho.2 with ⟨e,_⟩ | ⟨g',cap',cur,e,_,hh,_,_,hs,_⟩
   ·cases e
   ·obtain ⟨e1,_,e3⟩:=Value.slice.inj e;simp only [Option.some.injEq,Addr.mk.injEq,and_true] at e1
    subst e1 e3;exact ⟨cur,hh,hs⟩
  rw [←hn] at hne ⊢;exact Aa g 0 cap i n vb 1 l x w base cur hcur hcs hcm rfl hrow hsh hn hlt hroom (by omega) hvb (fun e=>hne (by rw [e];rfl)) hg hgs
 ·rw [←hn] at hne hlc ⊢;exact A9 g 0 cap i n vb 1 l x w base hrow hn hlt hlc (by omega) (by omega) hvb hbs hgs
end
