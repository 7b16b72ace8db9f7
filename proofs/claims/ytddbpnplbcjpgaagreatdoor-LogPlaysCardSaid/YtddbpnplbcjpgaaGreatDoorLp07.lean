import Derived.Test.YtddbpnplbcjpgaaGreatDoorLp06
namespace Go.Proofs.YtddbpnplbcjpgaaGreatDoor
open Go.RowKit
theorem wpList_copy_runW {P:Program} (w:World) {ops:Array Oper} {rest:List Oper} {o:Oper} {a:Act} {Q:Exit→Act→World→Prop} (hgd:o.guard=none) (d s:Operand) (t t':TypeId)
   (ho:o.op=.call { callee:=.builtin .copy,args:=#[d,s],argTypes:=#[t,t'] }) (v u:Value) (hd:a.eval d=v) (hs:a.eval s=u) {v':Value} {w':World}
   (hr:(Builtin.copy_ #[t,t'] o.type #[v,u]).run P w=.ok v' w') (h:wpList P ops Q rest (a.put o.dst v') w'):wpList P ops Q (o :: rest) a w :=
 wpList_plain hgd fun K hK=>by
   unfold Oper.wp execOp
   simp only [ho,resolve,invoke,builtin,Sem.run_bind,Sem.run_pure,Result.andThen_ok,List.map_toArray,List.map_cons,List.map_nil,hd,hs,hr]
   exact hK _ _ h
theorem step_copy_runW {P:Program} {ops:Array Oper} {o:Oper} {a:Act} {w:World} {K:Act→World→Prop} {Q:Exit→Act→World→Prop} {E:Prop}
   (hg:o.guard=none) (d x:Operand) (dT sT:TypeId) (hop:o.op=Op.call { callee:=Callee.builtin Builtin.copy,args:=#[d,x],argTypes:=#[dT,sT] })
   (v u:Value) (hd:a.eval d=v) (hx:a.eval x=u) {v':Value} {w':World} (hr:(Builtin.copy_ #[dT,sT] o.type #[v,u]).run P w=.ok v' w') (hK:K (a.put o.dst v') w') :
   if Region.wanted o (yielded ops a.tmps)=true then Oper.wp P o a w K Q else E:=by
 have hw:Region.wanted o (yielded ops a.tmps)=true:=by simp [Region.wanted,hg]
 rw [if_pos hw]
 unfold Oper.wp
 simp [execOp,hop,resolve,invoke,builtin,hd,hx,hr,Result.andThen]
 exact hK
theorem setCells_some (b:Nat) (vs:List Value) (o:Nat) (w:World) (h:∀ j,j < vs.length→(w.cell? ⟨b,o + j,none⟩).isSome=true) (k:Nat) (hk:(w.cell? ⟨b,k,none⟩).isSome=true):((w.setCells b o vs).cell? ⟨b,k,none⟩).isSome=true:=by
 by_cases hin:o≤k∧k < o + vs.length
 · have:=World.cell?_setCells_in b vs o w h (k - o) (by omega)
   rw [show o + (k - o)=k by omega] at this
   rw [this];rfl
 · rw [World.cell?_setCells_out b vs o w ⟨b,k,none⟩ (fun _ _=>by show k < o∨o + vs.length≤k;omega)]
   exact hk
theorem ins_cells {w:World} {g off i:Nat} {l:List Wr} {x:Wr} (hi:i≤l.length) (hh:∀ j,j < i * 6→∀ u,(wrsC l)[j]? = some u→w.cell? ⟨g,off + j,none⟩=some u) (hall:∀ j,j < (l.length + 1) * 6→(w.cell? ⟨g,off + j,none⟩).isSome=true) :
   ∀ k u,(wrsC (l.take i ++ x :: l.drop i))[k]? = some u→((w.setCells g (off + (i + 1) * 6) (wrsC (l.drop i))).setCells g (off + i * 6) (wrC x)).cell? ⟨g,off + k,none⟩=some u:=by
 intro k u hk
 have hdl:(wrsC (l.drop i)).length=(l.length - i) * 6:=by rw [wrsC_len,List.length_drop]
 have htl:(wrsC (l.take i)).length=i * 6:=by rw [wrsC_len,List.length_take];omega
 have hxl:(wrC x).length=6:=rfl
 have hkl:k < (l.length + 1) * 6:=by
   have:=(List.getElem?_eq_some_iff.1 hk).1
   rw [wrsC_len,List.length_append,List.length_take,List.length_cons,List.length_drop] at this
   omega
 have hS1:∀ j,j < (wrsC (l.drop i)).length→(w.cell? ⟨g,off + (i + 1) * 6 + j,none⟩).isSome=true:=fun j hj=>by rw [Nat.add_assoc];exact hall _ (by omega)
 rw [wrsC_app,show wrsC (x :: l.drop i)=wrC x ++ wrsC (l.drop i) by simp [wrsC]] at hk
 by_cases h1:k < i * 6
 · rw [World.cell?_setCells_out _ _ _ _ _ (fun _ _=>.inl (by show off + k < _;omega)),World.cell?_setCells_out _ _ _ _ _ (fun _ _=>.inl (by show off + k < _;omega))]
   rw [List.getElem?_append_left (by omega),wrsC_take,List.getElem?_take_of_lt h1] at hk
   exact hh k h1 u hk
 · rw [List.getElem?_append_right (by omega),htl] at hk
   by_cases h2:k < (i + 1) * 6
   · have := World.cell?_setCells_in g (wrC x) (off + i * 6) (w.setCells g (off + (i + 1) * 6) (wrsC (l.drop i))) (fun t ht => by
       rw [Nat.add_assoc]
       exact setCells_some g _ _ w hS1 _ (hall _ (by omega))) (k - i * 6) (by omega)
     rw [show off + i * 6 + (k - i * 6)=off + k by omega] at this
     rw [List.getElem?_append_left (by omega)] at hk
     rw [this,←hk,List.getElem?_eq_getElem]
   · rw [List.getElem?_append_right (by omega),hxl] at hk
     rw [World.cell?_setCells_out _ _ _ _ _ (fun _ _=>.inr (by show _≤off + k;omega))]
     have:=World.cell?_setCells_in g (wrsC (l.drop i)) (off + (i + 1) * 6) w hS1 (k - (i + 1) * 6) (by omega)
     rw [show off + (i + 1) * 6 + (k - (i + 1) * 6)=off + k by omega] at this
     rw [this,←hk,show k - i * 6 - 6=k - (i + 1) * 6 by omega,List.getElem?_eq_getElem]
theorem lsetCells_row (g:Nat) (vs:List Value):∀ (o:Nat) (w:World) (cur:Array Value) (t:TypeId),w.heap[g]? = some (.cells cur t (0,0))→∃ cur',(w.setCells g o vs).heap[g]? = some (.cells cur' t (0,0))∧cur'.size=cur.size:=by
 induction vs with
 | nil=>intro o w cur t h;exact ⟨cur,h,rfl⟩
 | cons v r ih =>
   intro o w cur t h
   obtain ⟨cur',h1,h2⟩:=ih (o + 1) (w.setCell ⟨g,o,none⟩ v) _ t (heap_setCell_same _ _ o _ _ v h)
   exact ⟨cur',h1,by rw [h2];simp⟩
theorem owns_of_cells {w:World} {base g cap:Nat} {l:List Wr} {cur:Array Value} (hh:w.heap[g]? = some (.cells cur 26 (0,0))) (hs:cur.size=cap * 6) (hc:l.length≤cap) (hm:cap≤maxLen) (hb:base≤g)
   (hcell:∀ k u,(wrsC l)[k]? = some u→w.cell? ⟨g,k,none⟩=some u):ownsW w base (.slice (some ⟨g,0,none⟩) l.length cap) l:=by
 refine ⟨wrsC_len l,.inr ⟨g,cap,cur,rfl,hb,hh,hc,hm,hs,?_⟩⟩
 have hle:l.length * 6≤cur.size:=by rw [hs];omega
 apply List.ext_getElem?
 intro j
 by_cases hj:j < l.length * 6
 · have h1:j < (wrsC l).length:=by rw [wrsC_len];exact hj
   have h2:=hcell j _ (List.getElem?_eq_getElem h1)
   rw [cell_of_row _ _ j _ _ (0,0) hh] at h2
   rw [List.getElem?_take_of_lt hj,Array.getElem?_toList,h2,List.getElem?_eq_getElem h1]
 · have h3:cur.toList.length=cur.size:=Array.length_toList
   rw [List.getElem?_eq_none (by rw [List.length_take,h3];omega),List.getElem?_eq_none (by rw [wrsC_len];omega)]
def InsIs (w:World) (base i:Nat) (l:List Wr) (x:Wr) (e:Ending) (w':World):Prop :=
 ∃ u,e=.returned u∧ownsW w' base u (l.take i ++ x :: l.drop i)∧Below base w w'
theorem InsIs.mk {w w':World} {base i g cap:Nat} {l:List Wr} {x:Wr} {cur:Array Value} {e:Ending} (he:e=.returned (.slice (some ⟨g,0,none⟩) (l.length + 1) cap)) (hi:i≤l.length) (hh:w'.heap[g]? = some (.cells cur 26 (0,0))) (hs:cur.size=cap * 6) (hc:l.length + 1≤cap) (hm:cap≤maxLen) (hb:base≤g)
   (hcell:∀ k u,(wrsC (l.take i ++ x :: l.drop i))[k]? = some u→w'.cell? ⟨g,k,none⟩=some u) (hB:Below base w w'):InsIs w base i l x e w':=by
 have hll:(l.take i ++ x :: l.drop i).length=l.length + 1:=by rw [List.length_append,List.length_take,List.length_cons,List.length_drop];omega
 refine ⟨_,he,?_,hB⟩
 have:=owns_of_cells hh hs (by rw [hll];exact hc) hm hb hcell
 rwa [hll] at this
set_option maxRecDepth 100000 in
set_option maxHeartbeats 4000000 in
theorem ins_room (g off cap i n vb vc:Nat) (l:List Wr) (x:Wr) (w:World) (base:Nat) (cur:Array Value) (hcur:w.heap[g]? = some (.cells cur 26 (0,0))) (hcs:cur.size=cap * 6) (hcm:cap≤maxLen) (hoff:off=0) (h:rowAt w g off cap l) (hsh:w.shape? g=some (26,cap * 6)) (hn:n=l.length) (hi:i < n) (hroom:n + 1≤cap) (hm:cap≤9223372036854775807) (hvb:wrBlk w vb x) (hne:vb≠g) (hgb:base≤g) (hgs:g < w.heap.size) :
   Calls Tryz.prog 74 #[.slice (some ⟨g,off,none⟩) n cap,.int .i64 (i:Int),.slice (some ⟨vb,0,none⟩) 1 vc] w (InsIs w base i l x):=by
 have hwrs:(Tryz.prog.info? 26).map (·.size)=some 6:=by kernel_rfl
 obtain ⟨q,hq⟩:∃ q,q=i + 1:=⟨_,rfl⟩
 obtain ⟨p,hp⟩:∃ p,p=n + 1:=⟨_,rfl⟩
 obtain ⟨xs,hxs⟩:∃ xs,xs=wrC x:=⟨_,rfl⟩
 have hxl:xs.length=6:=by rw [hxs];rfl
 have hx1:∀ v∈xs,v.oneCell'=true:=by rw [hxs];exact wrC_cell x
 have hvc:∀ j v,xs[j]? = some v→w.cell? ⟨vb,j,none⟩=some v:=fun j v hj=>by
   rw [cell_of_row _ _ j _ _ (0,0) hvb];rw [hxs] at hj;simpa using hj
 have hic:=ins_cells (w:=w.drew) (g:=g) (off:=off) (i:=i) (l:=l) (x:=x) (by omega) (fun j _ u hj=>h.drew.1 j u hj) (fun j hj=>(h.drew.2 j (by omega)).1)
 obtain ⟨ds,hds⟩:∃ ds,ds=wrsC (l.drop i):=⟨_,rfl⟩
 rw [←hds,←hxs,←hq] at hic
 have hdl:ds.length=(n - i) * 6:=by rw [hds,wrsC_len,List.length_drop,hn]
 have hov:∀ lb cb,(callFunc 92 #[.slice (some ⟨vb,0,none⟩) 1 vc,.slice (some ⟨g,off + q * 6,none⟩) lb cb]).run Tryz.prog w=.ok (.value (.bool false)) w:=fun lb cb=>by
   rw [run_callFunc_extern Tryz.func92 (by kernel_rfl) (by kernel_rfl) (by kernel_rfl) (e:=Extern.SlicesOverlaps.overlaps #[28,28] #[4]) (by kernel_rfl),
     Lib.run_overlaps_apart w 28 4 26 Tryz.underlying28 6 (fun w=>by kernel_rfl) ⟨vb,0,none⟩ ⟨g,off + q * 6,none⟩ 1 vc lb cb hne 26 26 6 (cap * 6) (by unfold wrBlk at hvb;simp [World.shape?,hvb,wrC]) hsh (by omega) (by unfold wrBlk at hvb;simp [World.frozen?,hvb]) (by unfold wrBlk at hvb;simp [World.frozen?,hvb])]
   rfl
 have hcp1:∀ ty dc sc,(Builtin.copy_ #[28,28] ty #[.slice (some ⟨g,off + q * 6,none⟩) (p - q) dc,.slice (some ⟨g,off + i * 6,none⟩) (p - i) sc]).run Tryz.prog w.drew=.ok (goInt (Nat.min (p - i) (p - q))) (w.drew.setCells g (off + q * 6) ds):=fun ty dc sc =>
   run_copyK w.drew _ _ ty 26 6 g (off + q * 6) (p - q) dc ⟨g,off + i * 6,none⟩ (p - i) sc ds Tryz.underlying28 hwrs (by rw [hdl];simp only [Nat.min_def];split <;> omega)
     (fun j v hj=>by rw [Addr.add_lit,Nat.add_assoc];refine h.drew.1 _ v ?_;rw [hds,wrsC_drop,List.getElem?_drop] at hj;exact hj)
     (fun j hj=>by rw [Nat.add_assoc];exact (h.drew.2 _ (by omega)).1) (fun j hj=>by rw [Nat.add_assoc];exact (h.drew.2 _ (by omega)).2) (fun v hv=>by rw [hds] at hv;exact wrsC_cell _ v hv)
 obtain ⟨W1,hW1⟩:∃ W1,W1=w.drew.setCells g (off + q * 6) ds:=⟨_,rfl⟩
 have hsp1:∀ k,k < cap * 6→(W1.cell? ⟨g,off + k,none⟩).isSome=true:=fun k hk=>by
   rw [hW1]
   exact setCells_some g _ _ _ (fun j hj=>by rw [Nat.add_assoc];exact (h.drew.2 _ (by omega)).1) _ (h.drew.2 k hk).1
 have hcp2:∀ ty dc,(Builtin.copy_ #[28,28] ty #[.slice (some ⟨g,off + i * 6,none⟩) (p - i) dc,.slice (some ⟨vb,0,none⟩) 1 vc]).run Tryz.prog W1=.ok (goInt (Nat.min 1 (p - i))) (W1.setCells g (off + i * 6) xs):=fun ty dc =>
   run_copyK W1 _ _ ty 26 6 g (off + i * 6) (p - i) dc ⟨vb,0,none⟩ 1 vc xs Tryz.underlying28 hwrs (by rw [hxl];simp only [Nat.min_def];split <;> omega)
     (fun j v hj=>by
       rw [Addr.add_lit,hW1,World.cell?_setCells_out g _ _ _ _ (fun h _=>absurd h hne),Nat.zero_add]
       exact hvc j v hj)
     (fun j hj=>by rw [Nat.add_assoc];exact hsp1 _ (by omega)) (fun j hj=>by rw [hW1,World.frozen?_setCells,Nat.add_assoc];exact (h.drew.2 _ (by omega)).2) hx1
 rw [←hW1] at hcp1 hic
 have hb0:∀ B,B≤g→Below B w W1:=fun B hB=>by rw [hW1];exact below_setCells (Below.drew (Below.refl B w)) hB ds (off + q * 6)
 obtain ⟨cur2,hc2,hs2⟩:=lsetCells_row g ds (off + q * 6) w.drew cur _ hcur
 rw [←hW1] at hc2
 obtain ⟨cur3,hc3,hs3⟩:=lsetCells_row g xs (off + i * 6) W1 cur2 _ hc2
 have HC3:Hid ((W1.setCells g (off + i * 6) xs).heap[g]? = some (.cells cur3 26 (0,0))∧cur3.size=cap * 6):=Lib.hid ⟨hc3,by rw [hs3,hs2,hcs]⟩
 have HCM:=Lib.hid hcm
 have HOFF:=Lib.hid hoff
 clear hc2 hs2 hc3 hs3 hcur hcs hcm hoff
 have HB:=Lib.hid (below_setCells (hb0 base hgb) hgb xs (off + i * 6))
 have HB0:=Lib.hid (below_setCells (hb0 0 (Nat.zero_le g)) (Nat.zero_le g) xs (off + i * 6)).size
 have HIC:=Lib.hid hic
 have HN:=Lib.hid hn
 have HP:=Lib.hid hp
 have HGS:=Lib.hid hgs
 have HGB:=Lib.hid hgb
 have hin:i≤n:=by omega
 have hz2:¬ ((i:Int)=(n:Int)):=by omega
 have hz3:((i:Int) == (n:Int))=false:=by simp;omega
 have w1:IntKind.i64.wrap ((i:Int) + 1)=(q:Int):=by rw [show (i:Int) + 1=(q:Int) by omega];exact IntWalk.i64_in _ (by omega)
 have w2:(i:Int) + 1=(q:Int):=by omega
 have w3:IntKind.i64.wrap (q:Int)=(q:Int):=IntWalk.i64_in _ (by omega)
 have w4:IntKind.i64.wrap ((n:Int) + 1)=(p:Int):=by rw [show (n:Int) + 1=(p:Int) by omega];exact IntWalk.i64_in _ (by omega)
 have w5:(n:Int) + 1=(p:Int):=by omega
 have w6:IntKind.i64.wrap (p:Int)=(p:Int):=IntWalk.i64_in _ (by omega)
 have hpc:p≤cap:=by omega
 have hpc2:¬ (cap:Int) < (p:Int):=by omega
 have hpc3:decide ((cap:Int) < (p:Int))=false:=by simp;omega
 have hqp:q≤p:=by omega
 have hip:i≤p:=by omega
 have hcq:¬ cap=q:=by omega
 have hci:¬ cap=i:=by omega
 have hqc:q≤cap:=by omega
 have hicc:i≤cap:=by omega
 clear hwrs hxs hxl hx1 hvc hic hds hdl hW1 hsp1 hb0 hn hp hq h hsh hvb hne hgb hgs hroom
 go_enter Tryz.func74,Tryz.ntmps74
 go_wp2_with (simp only [hov])
 go_region_law (refine step_copy_runW rfl _ _ 28 28 rfl _ _ (by simp [Act.eval,Act.put]) (by simp [Act.eval,Act.put]) (hcp1 _ _ _) ?_)
 go_wp2_with (at_builtin;refine wpList_copy_runW _ rfl _ _ 28 28 rfl _ _ rfl rfl (hcp2 _ _) ?_)
 go_ret
 refine InsIs.mk (g:=g) (cap:=cap) (by rw [←HN.out,←HP.out,HOFF.out];rfl) (by have:=HN.out;omega) HC3.out.1 HC3.out.2 (by have:=HN.out;have:=HP.out;omega) HCM.out HGB.out (fun k u hu=>?_) HB.out
 have:=HIC.out k u hu
 rw [show off + k=k by rw [HOFF.out,Nat.zero_add]] at this
 exact this
theorem ins_cells2 {w:World} {g i:Nat} {l:List Wr} {x:Wr} (hi:i≤l.length) (hh:∀ j,j < i * 6→∀ u,(wrsC l)[j]? = some u→w.cell? ⟨g,j,none⟩=some u) (hall:∀ j,j < (l.length + 1) * 6→(w.cell? ⟨g,j,none⟩).isSome=true) :
   ∀ k u,(wrsC (l.take i ++ x :: l.drop i))[k]? = some u→((w.setCells g (i * 6) (wrC x)).drew.setCells g ((i + 1) * 6) (wrsC (l.drop i))).cell? ⟨g,k,none⟩=some u:=by
 obtain ⟨xs,hxs⟩:∃ xs,xs=wrC x:=⟨_,rfl⟩
 have hxl:xs.length=6:=by rw [hxs];rfl
 have hca:wrsC (l.take i ++ x :: l.drop i)=wrsC (l.take i) ++ (xs ++ wrsC (l.drop i)):=by rw [wrsC_app,hxs];simp [wrsC]
 rw [←hxs,hca]
 intro k u hk
 have hdl:(wrsC (l.drop i)).length=(l.length - i) * 6:=by rw [wrsC_len,List.length_drop]
 have htl:(wrsC (l.take i)).length=i * 6:=by rw [wrsC_len,List.length_take];omega
 have hkl:k < (l.length + 1) * 6:=by
   have:=(List.getElem?_eq_some_iff.1 hk).1
   rw [List.length_append,List.length_append,htl,hxl,hdl] at this
   omega
 have hS1:∀ j,j < xs.length→(w.cell? ⟨g,i * 6 + j,none⟩).isSome=true:=fun j hj=>hall _ (by omega)
 have hdr:∀ a:Addr,(w.setCells g (i * 6) xs).drew.cell? a=(w.setCells g (i * 6) xs).cell? a:=fun a=>rfl
 clear hca hxs
 by_cases h1:k < i * 6
 · rw [World.cell?_setCells_out _ _ _ _ _ (fun _ _=>.inl (by show k < _;omega)),hdr,World.cell?_setCells_out _ _ _ _ _ (fun _ _=>.inl (by show k < _;omega))]
   rw [List.getElem?_append_left (by omega),wrsC_take,List.getElem?_take_of_lt h1] at hk
   exact hh k h1 u hk
 · rw [List.getElem?_append_right (by omega),htl] at hk
   by_cases h2:k < (i + 1) * 6
   · rw [World.cell?_setCells_out _ _ _ _ _ (fun _ _=>.inl (by show k < _;omega)),hdr]
     have:=World.cell?_setCells_in g xs (i * 6) w hS1 (k - i * 6) (by omega)
     rw [show i * 6 + (k - i * 6)=k by omega] at this
     rw [List.getElem?_append_left (by omega)] at hk
     rw [this,←hk,List.getElem?_eq_getElem]
   · rw [List.getElem?_append_right (by omega),hxl] at hk
     have:=World.cell?_setCells_in g (wrsC (l.drop i)) ((i + 1) * 6) (w.setCells g (i * 6) xs).drew (fun t ht=>by
       rw [hdr];exact setCells_some g _ _ w hS1 _ (hall _ (by omega))) (k - (i + 1) * 6) (by omega)
     rw [show (i + 1) * 6 + (k - (i + 1) * 6)=k by omega] at this
     rw [this,←hk,show k - i * 6 - 6=k - (i + 1) * 6 by omega,List.getElem?_eq_getElem]
set_option maxRecDepth 100000 in
set_option maxHeartbeats 4000000 in
theorem ins_grow (g off cap i n vb vc:Nat) (l:List Wr) (x:Wr) (w:World) (base:Nat) (h:rowAt w g off cap l) (hn:n=l.length) (hi:i < n) (hnc:n≤cap) (hroom:cap < n + 1) (hm:n≤1000000) (hvb:wrBlk w vb x) (hbs:base≤w.heap.size) (hgs:g < w.heap.size) :
   Calls Tryz.prog 74 #[.slice (some ⟨g,off,none⟩) n cap,.int .i64 (i:Int),.slice (some ⟨vb,0,none⟩) 1 vc] w (InsIs w base i l x):=by
 obtain ⟨i0,hi0,hz0,hzs,hzb⟩:=info_parts info_wr
 have hwrs:(Tryz.prog.info? 26).map (·.size)=some 6:=by kernel_rfl
 obtain ⟨q,hq⟩:∃ q,q=i + 1:=⟨_,rfl⟩
 obtain ⟨p,hp⟩:∃ p,p=n + 1:=⟨_,rfl⟩
 obtain ⟨xs,hxs⟩:∃ xs,xs=wrC x:=⟨_,rfl⟩
 have hxl:xs.length=6:=by rw [hxs];rfl
 have hx1:∀ v∈xs,v.oneCell'=true:=by rw [hxs];exact wrC_cell x
 have hvs:vb < w.heap.size:=(Array.getElem?_eq_some_iff.1 hvb).1
 have hvc:∀ j v,xs[j]? = some v→w.cell? ⟨vb,j,none⟩=some v:=fun j v hj=>by
   rw [cell_of_row _ _ j _ _ (0,0) hvb];rw [hxs] at hj;simpa using hj
 obtain ⟨olds,hos⟩:∃ o,o=wrsC (l.take i):=⟨_,rfl⟩
 have hol:olds.length=i * 6:=by rw [hos,wrsC_len,List.length_take];omega
 obtain ⟨ds,hds⟩:∃ ds,ds=wrsC (l.drop i):=⟨_,rfl⟩
 have hdl:ds.length=(n - i) * 6:=by rw [hds,wrsC_len,List.length_drop,hn]
 have hold:(Builtin.firstCells i0.size i (.slice (some ⟨g,off,none⟩) i cap)).run Tryz.prog w.drew=.ok olds.toArray w.drew:=by
   rw [hzs]
   refine run_firstCells_some w.drew 6 i ⟨g,off,none⟩ i cap olds hol (fun j v hj=>?_)
   rw [Addr.add_lit]
   refine h.drew.1 j v ?_
   rw [hos,wrsC_take,List.getElem?_take] at hj
   split at hj
   · exact hj
   · cases hj
 have hkk:(p:Int) - (i:Int)=((p - i:Nat):Int):=by omega
 have hik:i + (p - i)=p:=by omega
 have hrz0 : ∀ ty, (Builtin.append_ #[28, 3] ty #[.slice (some ⟨g, off, none⟩) i cap, .int .i64 ((p : Int) - (i : Int))]).run Tryz.prog w =
     .ok (.slice (some ⟨w.heap.size,0,none⟩) p (grownCap w p cap 26)) (w.drew.alloc (.cells (olds.toArray ++ Builtin.zeroCells (Value.agg #[.int .i64 0,.int .i64 0,.int .i64 0,.string ⟨#[]⟩,.string ⟨#[]⟩,.int .i64 0]).cells (p - i) ++ Builtin.zeroCells (Value.agg #[.int .i64 0,.int .i64 0,.int .i64 0,.string ⟨#[]⟩,.string ⟨#[]⟩,.int .i64 0]).cells (grownCap w p cap 26 - p)) 26)):=fun ty=>by
   have hx:=Lib.run_append_grow_zeros w 28 3 ty 26 i0 _ .i64 .i64 Tryz.underlying28 Tryz.underlying3 hi0 hz0 (some ⟨g,off,none⟩) i cap olds hold (p - i) (by omega) (by omega) (by omega) (by omega) (by rw [hzb];omega) (by rw [hzb,hik];exact growslice_fits (by omega) (by omega))
   rw [hik] at hx
   rw [hkk]
   exact hx
 have hGn:p≤grownCap w p cap 26:=grownCap_ge w _ _ _
 have hG63:grownCap w p cap 26≤9223372036854775807:=by
   have:=grownCap_le_maxLen w p cap 26 (by unfold maxLen;omega)
   unfold maxLen at this
   omega
 obtain ⟨G,hG⟩:∃ G,G=grownCap w p cap 26:=⟨_,rfl⟩
 rw [←hG] at hrz0 hGn hG63
 obtain ⟨ROW,hROW⟩:∃ ROW:Array Value,ROW=olds.toArray ++ Builtin.zeroCells (Value.agg #[.int .i64 0,.int .i64 0,.int .i64 0,.string ⟨#[]⟩,.string ⟨#[]⟩,.int .i64 0]).cells (p - i) ++ Builtin.zeroCells (Value.agg #[.int .i64 0,.int .i64 0,.int .i64 0,.string ⟨#[]⟩,.string ⟨#[]⟩,.int .i64 0]).cells (G - p):=⟨_,rfl⟩
 rw [←hROW] at hrz0
 have hRl:p * 6≤ROW.size:=by
   rw [hROW]
   simp [Builtin.zeroCells,Value.cells,hol]
   omega
 have hRs:ROW.size=G * 6:=by
   rw [hROW]
   simp [Builtin.zeroCells,Value.cells,hol]
   omega
 have hGm:G≤maxLen:=by rw [hG];exact grownCap_le_maxLen w p cap 26 (by unfold maxLen;omega)
 obtain ⟨H,hH⟩:∃ H,H=w.heap.size:=⟨_,rfl⟩
 rw [←hH] at hrz0
 obtain ⟨W1,hW1⟩:∃ W1,W1=w.drew.alloc (.cells ROW 26):=⟨_,rfl⟩
 have hrz:∀ ty,(Builtin.append_ #[28,3] ty #[.slice (some ⟨g,off,none⟩) i cap,.int .i64 ((p:Int) - (i:Int))]).run Tryz.prog w=.ok (.slice (some ⟨H,0,none⟩) p G) W1:=fun ty=>by rw [hrz0,hW1]
 have hc1:∀ j,W1.cell? ⟨H,j,none⟩=ROW[j]? := fun j=>by
   rw [hW1,hH]
   have e:=World.cell?_alloc_at (w:=w.drew) ROW 26 w.heap.size j rfl
   exact e
 have hN:∀ j,j < p * 6→(W1.cell? ⟨H,j,none⟩).isSome=true:=fun j hj=>by
   rw [hc1,Array.getElem?_eq_getElem (by omega)];rfl
 have hNf:∀ j,W1.frozen? ⟨H,j,none⟩=false:=fun j=>by rw [hW1,hH];exact World.frozen?_alloc_at (w:=w.drew) ROW _ w.heap.size j rfl
 have hO:∀ B j v,B < w.heap.size→w.cell? ⟨B,j,none⟩=some v→W1.cell? ⟨B,j,none⟩=some v:=fun B j v hB hv=>by rw [hW1,World.cell?_alloc_past (w:=w.drew) _ B j hB];exact hv
 have hcpA:∀ ty dc,(Builtin.copy_ #[28,28] ty #[.slice (some ⟨H,i * 6,none⟩) (p - i) dc,.slice (some ⟨vb,0,none⟩) 1 vc]).run Tryz.prog W1=.ok (goInt (Nat.min 1 (p - i))) (W1.setCells H (i * 6) xs):=fun ty dc =>
   run_copyK W1 _ _ ty 26 6 H (i * 6) (p - i) dc ⟨vb,0,none⟩ 1 vc xs Tryz.underlying28 hwrs (by rw [hxl];simp only [Nat.min_def];split <;> omega)
     (fun j v hj=>by rw [Addr.add_lit,Nat.zero_add];exact hO _ _ v hvs (hvc j v hj)) (fun j hj=>hN _ (by omega)) (fun j hj=>hNf _) hx1
 obtain ⟨W2,hW2⟩:∃ W2,W2=W1.setCells H (i * 6) xs:=⟨_,rfl⟩
 rw [←hW2] at hcpA
 have hN2:∀ j,j < p * 6→(W2.drew.cell? ⟨H,j,none⟩).isSome=true:=fun j hj=>by
   show (W2.cell? _).isSome=true
   rw [hW2];exact setCells_some H _ _ W1 (fun t ht=>hN _ (by omega)) _ (hN j hj)
 have hcpB:∀ ty dc sc,(Builtin.copy_ #[28,28] ty #[.slice (some ⟨H,q * 6,none⟩) (p - q) dc,.slice (some ⟨g,off + i * 6,none⟩) (n - i) sc]).run Tryz.prog W2.drew=.ok (goInt (Nat.min (n - i) (p - q))) (W2.drew.setCells H (q * 6) ds):=fun ty dc sc =>
   run_copyK W2.drew _ _ ty 26 6 H (q * 6) (p - q) dc ⟨g,off + i * 6,none⟩ (n - i) sc ds Tryz.underlying28 hwrs (by rw [hdl];simp only [Nat.min_def];split <;> omega)
     (fun j v hj=>by
       rw [Addr.add_lit,Nat.add_assoc]
       show W2.cell? _=_
       rw [hW2,World.cell?_setCells_out H _ _ _ _ (fun e _=>absurd e (by show g≠H;omega))]
       refine hO _ _ v hgs (h.1 _ v ?_)
       rw [hds,wrsC_drop,List.getElem?_drop] at hj;exact hj)
     (fun j hj=>hN2 _ (by omega)) (fun j hj=>by show W2.frozen? _=false;rw [hW2,World.frozen?_setCells];exact hNf _) (fun v hv=>by rw [hds] at hv;exact wrsC_cell _ v hv)
 have hic := ins_cells2 (w := W1) (g := H) (i := i) (l := l) (x := x) (by omega) (fun j hj u hu => by
     rw [hc1,hROW,Array.append_assoc,Array.getElem?_append_left (by simp [hol];omega)]
     rw [←hu,hos,wrsC_take]
     simp only [List.getElem?_toArray]
     rw [List.getElem?_take_of_lt hj]) (fun j hj=>hN j (by rw [hp,hn];exact hj))
 rw [←hxs,←hW2,←hds,←hq] at hic
 have hr1:W1.heap[H]? = some (.cells ROW 26 (0,0)):=by rw [hW1,hH];exact heap_alloc_new w.drew _
 obtain ⟨cur2,hc2,hs2'⟩:=lsetCells_row H xs (i * 6) W1 ROW _ hr1
 rw [←hW2] at hc2
 obtain ⟨cur3,hc3,hs3'⟩:=lsetCells_row H ds (q * 6) W2.drew cur2 _ hc2
 have HC3:Hid ((W2.drew.setCells H (q * 6) ds).heap[H]? = some (.cells cur3 26 (0,0))∧cur3.size=G * 6):=Lib.hid ⟨hc3,by rw [hs3',hs2',hRs]⟩
 have HGM:=Lib.hid hGm
 clear hr1 hc2 hs2' hc3 hs3' hRs hGm
 have hb1:∀ B,B≤H→Below B w W1:=fun B hB=>by rw [hW1];exact (Below.drew (Below.refl B w)).alloc (by rw [hH] at hB;exact hB) _
 have hb2:∀ B,B≤H→Below B w W2:=fun B hB=>by rw [hW2];exact below_setCells (hb1 B hB) hB xs (i * 6)
 have hHW:H < W1.heap.size:=by rw [hW1,hH];simp
 have hs1:=(below_setCells (Below.refl 0 W1) (Nat.zero_le H) xs (i * 6)).size
 rw [←hW2] at hs1
 have hs2:=(below_setCells (Below.drew (Below.refl 0 W2)) (Nat.zero_le H) ds (q * 6)).size
 have HHB:Hid (base≤H):=Lib.hid (by omega)
 have HHS:Hid (H < (W2.drew.setCells H (q * 6) ds).heap.size):=Lib.hid (by omega)
 have HB:=Lib.hid (below_setCells (hb2 base (by omega)).drew (show base≤H by omega) ds (q * 6))
 have HB0:=Lib.hid (below_setCells (hb2 0 (Nat.zero_le H)).drew (Nat.zero_le H) ds (q * 6)).size
 have HIC:Hid (∀ k u,(wrsC (l.take i ++ x :: l.drop i))[k]? = some u→(W2.drew.setCells H (q * 6) ds).cell? ⟨H,k,none⟩=some u):=Lib.hid hic
 have HN:=Lib.hid hn
 have HP:=Lib.hid hp
 have HGN:=Lib.hid hGn
 have hin:i≤n:=by omega
 have hz2:¬ ((i:Int)=(n:Int)):=by omega
 have hz3:((i:Int) == (n:Int))=false:=by simp;omega
 have w1:IntKind.i64.wrap ((i:Int) + 1)=(q:Int):=by rw [show (i:Int) + 1=(q:Int) by omega];exact IntWalk.i64_in _ (by omega)
 have w2:(i:Int) + 1=(q:Int):=by omega
 have w3:IntKind.i64.wrap (q:Int)=(q:Int):=IntWalk.i64_in _ (by omega)
 have w4:IntKind.i64.wrap ((n:Int) + 1)=(p:Int):=by rw [show (n:Int) + 1=(p:Int) by omega];exact IntWalk.i64_in _ (by omega)
 have w5:(n:Int) + 1=(p:Int):=by omega
 have w6:IntKind.i64.wrap (p:Int)=(p:Int):=IntWalk.i64_in _ (by omega)
 have w7:IntKind.i64.wrap ((p:Int) - (i:Int))=(p:Int) - (i:Int):=IntWalk.i64_in _ (by omega)
 have hpc2:(cap:Int) < (p:Int):=by omega
 have hpc3:decide ((cap:Int) < (p:Int))=true:=by simp;omega
 have hqp:q≤p:=by omega
 have hip:i≤p:=by omega
 have hGq:¬ G=q:=by omega
 have hGi:¬ G=i:=by omega
 have hci:¬ cap=i:=by omega
 have hicc:i≤cap:=by omega
 have hiG:i≤G:=by omega
 have hqG:q≤G:=by omega
 clear hi0 hz0 hzs hzb hwrs hxs hxl hx1 hvc hvs hos hol hds hdl hold hkk hik hrz0 hG hROW hRl hW1 hc1 hN hNf hO hW2 hN2 hic hb1 hb2 hHW hs1 hs2 hn hp hq h hvb hgs hroom hbs hH
 go_enter Tryz.func74,Tryz.ntmps74
 go_wp2_with (first
   | (at_builtin;refine Lib.wpList_append_run _ rfl _ _ _ _ rfl _ _ rfl rfl _ _ (hrz _) ?_)
   | (at_builtin;refine wpList_copy_runW _ rfl _ _ 28 28 rfl _ _ rfl rfl (hcpA _ _) ?_))
 go_region_law (refine step_copy_runW rfl _ _ 28 28 rfl _ _ (by simp [Act.eval,Act.put]) (by simp [Act.eval,Act.put]) (hcpB _ _ _) ?_)
 go_wp2
 go_ret
 exact InsIs.mk (g:=H) (cap:=G) (by rw [←HN.out,←HP.out];rfl) (by have:=HN.out;omega) HC3.out.1 HC3.out.2 (by have:=HN.out;have:=HP.out;have:=HGN.out;omega) HGM.out HHB.out HIC.out HB.out
set_option maxRecDepth 100000 in
set_option maxHeartbeats 4000000 in
theorem lins_end (v:Value) (n vb vc:Nat) (l:List Wr) (x:Wr) (w:World) (base:Nat) (ho:ownsW w base v l) (hn:n=l.length) (hm:n≤100000) (hvb:wrBlk w vb x) (hbs:base≤w.heap.size) :
   Calls Tryz.prog 74 #[v,.int .i64 (n:Int),.slice (some ⟨vb,0,none⟩) 1 vc] w (InsIs w base n l x):=by
 obtain ⟨a,c,hv,_⟩:=ho.is.form
 have hnc:n≤c:=by
   rcases ho.2 with ⟨e,h0⟩ | ⟨g,cap,cur,e,_,_,h1,_⟩
   · omega
   · rw [e] at hv
     obtain ⟨_,_,e3⟩:=Value.slice.inj hv
     omega
 subst hv
 rw [←hn] at ho ⊢
 have HO:=Lib.hid ho
 have HN:=Lib.hid hn
 have HV:=Lib.hid hvb
 have HBS:=Lib.hid hbs
 clear ho hn hvb hbs
 go_enter Tryz.func74,Tryz.ntmps74
 go_wp2_with (at_builtin;refine wpList_append_wr rfl _ _ rfl base _ l rfl HO.out vb vc rfl x HV.out (by have:=HN.out;omega) HBS.out ?_;intro g cap w' ho' hg';have HO':=Lib.hid ho';have HG':=Lib.hid hg';clear ho' hg')
 all_goals
   go_ret
   refine ⟨_,rfl,?_,(Below.refl base w).grown HG'.out HBS.out (fun k e=>(HO.out.lt k e).1)⟩
   rw [List.take_of_length_le (by rw [HN.out];exact Nat.le_refl _),List.drop_of_length_le (by rw [HN.out];exact Nat.le_refl _)]
   exact HO'.out
theorem lins_any (v:Value) (i n vb:Nat) (l:List Wr) (x:Wr) (w:World) (base:Nat) (ho:ownsW w base v l) (hn:n=l.length) (hi:i≤n) (hm:n≤100000) (hvb:wrBlk w vb x) (hne:v.ownBlock≠some vb) (hbs:base≤w.heap.size) :
   Calls Tryz.prog 74 #[v,.int .i64 (i:Int),.slice (some ⟨vb,0,none⟩) 1 1] w (InsIs w base i l x):=by
 by_cases hin:i=n
 · subst hin;exact lins_end v i vb 1 l x w base ho hn hm hvb hbs
 have hlt:i < n:=by omega
 obtain ⟨g,cap,rfl,hg,hgs,hlc,hcm,hrow,hsh⟩:=ho.rowAt (by omega)
 have hcm':=hcm
 unfold maxLen at hcm'
 by_cases hroom:n + 1≤cap
 · obtain ⟨cur, hcur, hcs⟩ : ∃ cur, w.heap[g]? = some (.cells cur 26 (0, 0)) ∧ cur.size = cap * 6 := by
     rcases ho.2 with ⟨e,_⟩ | ⟨g',cap',cur,e,_,hh,_,_,hs,_⟩
     · cases e
     · obtain ⟨e1,_,e3⟩:=Value.slice.inj e
       simp only [Option.some.injEq,Addr.mk.injEq,and_true] at e1
       subst e1 e3
       exact ⟨cur,hh,hs⟩
   rw [←hn] at hne ⊢
   exact ins_room g 0 cap i n vb 1 l x w base cur hcur hcs hcm rfl hrow hsh hn hlt hroom (by omega) hvb (fun e=>hne (by rw [e];rfl)) hg hgs
 · rw [←hn] at hne hlc ⊢
   exact ins_grow g 0 cap i n vb 1 l x w base hrow hn hlt hlc (by omega) (by omega) hvb hbs hgs
end Go.Proofs.YtddbpnplbcjpgaaGreatDoor
namespace Go.Proofs.YtddbpnplbcjpgaaGreatDoor
open Go.RowKit
set_option maxRecDepth 100000 in
set_option maxHeartbeats 4000000 in
theorem bigL_any (vf vh vw:Value) (f h:List Ent) (l:List Wr) (w:World) (hx:BatIs w vf vh vw f h l) :
   Calls Tryz.prog 4 #[.agg #[vf,vh,vw]] w fun e w'=>e=.returned (.bool (bigV 300 f h l))∧Below w.heap.size w w':=by
 obtain ⟨hf,hh,hv,hlf,hlh,hlw,hok⟩:=hx
 obtain ⟨af,cf,rfl,_⟩:=hf.form
 obtain ⟨ah,ch,rfl,_⟩:=hh.form
 obtain ⟨aw,cw,rfl,fw⟩:=hv.form
 have FW:=Lib.hid fw
 obtain ⟨nf,hnf⟩:∃ n,n=f.length:=⟨_,rfl⟩
 obtain ⟨nh,hnh⟩:∃ n,n=h.length:=⟨_,rfl⟩
 obtain ⟨n,hn⟩:∃ n,n=l.length:=⟨_,rfl⟩
 rw [←hnf,←hnh,←hn]
 rw [←hn] at hlw
 have HN:=Lib.hid hn
 have hbv:bigV 300 f h l=decide (300 < bigS (IntKind.i64.wrap (IntKind.i64.wrap ((nf:Int) + (nh:Int)) + (n:Int))) l):=by rw [hnf,hnh,hn];rfl
 obtain ⟨s1,hs1⟩:∃ s,IntKind.i64.wrap ((nf:Int) + (nh:Int))=s:=⟨_,rfl⟩
 obtain ⟨s2,hs2⟩:∃ s,IntKind.i64.wrap (s1 + (n:Int))=s:=⟨_,rfl⟩
 rw [hs1,hs2] at hbv
 have HBV:=Lib.hid hbv
 clear hf hh hv hlf hlh hnf hnh hn fw hok hbv
 go_enter Tryz.func4,Tryz.ntmps4
 go_wp2
 clear hs1 hs2
 go_loopw [3,20] (fun s i wr=>∃ (x:Int) (k:Nat),s=.int .i64 x∧k≤n∧i=.int .i64 k∧bigS s2 l=bigS x (l.drop k)∧Below w.heap.size w wr) (fun _ i _=>n - (intOf i).toNat)
 case atStart=>exact ⟨_,0,rfl,by omega,rfl,rfl,(Below.refl _ _).alloc (Nat.le_refl _) _⟩
 case round =>
   obtain ⟨x,k,rfl,hk,rfl,heq,hbel⟩:=hrel
   have HEQ:=Lib.hid heq
   clear heq
   have HB:=Lib.hid hbel
   have hzr:=hbel.size
   clear hbel
   by_cases hlt:k < n
   · obtain ⟨t, ht⟩ : ∃ t, l[k]? = some t := ⟨l[k]'(by have := HN.out; omega), List.getElem?_eq_getElem _⟩
     obtain ⟨b1,o1,rfl,hb1,p0,p1,p2,p3,p4,p5⟩:=FW.out k t ht
     have q0:=(HB.out.cell (p:=⟨b1,o1 + k * 6,none⟩) hb1).trans p0
     have q1:=(HB.out.cell (p:=⟨b1,o1 + k * 6 + 1,none⟩) hb1).trans p1
     have q2:=(HB.out.cell (p:=⟨b1,o1 + k * 6 + 2,none⟩) hb1).trans p2
     have q3:=(HB.out.cell (p:=⟨b1,o1 + k * 6 + 3,none⟩) hb1).trans p3
     have q4:=(HB.out.cell (p:=⟨b1,o1 + k * 6 + 4,none⟩) hb1).trans p4
     have q5:=(HB.out.cell (p:=⟨b1,o1 + k * 6 + 5,none⟩) hb1).trans p5
     have hd:=bigS_drop x ht
     obtain ⟨T,R,K,key,val,N⟩:=t
     simp only at q0 q1 q2 q3 q4 q5 hd
     obtain ⟨u,hu⟩:∃ u,IntKind.i64.wrap ((key.size:Int) + (val.size:Int))=u:=⟨_,rfl⟩
     obtain ⟨y,hy⟩:∃ y,IntKind.i64.wrap (u.tdiv 8)=y:=⟨_,rfl⟩
     obtain ⟨z,hz⟩:∃ z,IntKind.i64.wrap (x + y)=z:=⟨_,rfl⟩
     rw [hu,hy,hz] at hd
     have HD:Hid (bigS s2 l=bigS z (l.drop (k + 1))):=Lib.hid (HEQ.out.trans hd)
     clear hd
     clear p0 p1 p2 p3 p4 p5 ht
     go_wp2
     go_roundw
     case rel=>exact ⟨_,k + 1,rfl,by omega,by go_num,HD.out,HB.out.alloc hzr _⟩
     case measure=>simp [intOf];omega
   · have HD:Hid (bigV 300 f h l=decide (300 < x)):=Lib.hid (by rw [HBV.out,HEQ.out,List.drop_eq_nil_of_le (by have:=HN.out;omega)];rfl)
     go_wp2
     go_ret
     exact ⟨by rw [HD.out];rfl,HB.out⟩
theorem bigL_as (vf vh vw:Value) (f h:List Ent) (l:List Wr) (c:Bool) (w:World) (hx:BatIs w vf vh vw f h l) (hc:bigV 300 f h l=c) :
   Calls Tryz.prog 4 #[.agg #[vf,vh,vw]] w fun e w'=>e=.returned (.bool c)∧Below w.heap.size w w':=by
 subst hc;exact bigL_any vf vh vw f h l w hx
end Go.Proofs.YtddbpnplbcjpgaaGreatDoor
namespace Go.Proofs.YtddbpnplbcjpgaaGreatDoor
open Go.RowKit Go.Shelf Go.Lib Go.Sort
theorem cmpB_lt:∀ (a b:List UInt8),Lib.compareBytes a b < 0↔a < b
 | [],[]=>by simp [compareBytes]
 | [],_ :: _=>by simp [compareBytes]
 | _ :: _,[]=>by simp [compareBytes]
 | a :: r,b :: s=>by
   have ih:=cmpB_lt r s
   unfold compareBytes
   rw [List.cons_lt_cons_iff]
   by_cases h1:a < b
   · simp [h1]
   · by_cases h2:b < a
     · have h3:¬ a=b:=fun e=>by subst e;exact h1 h2
       simp [h1,h2,h3]
     · have h3:a=b:=UInt8.le_antisymm (UInt8.not_lt.1 h2) (UInt8.not_lt.1 h1)
       subst h3
       simp [ih]
def cfB (x y:ByteArray):Int:=Lib.compareBytes x.data.toList y.data.toList
theorem ltB (x y:ByteArray):ltOf cfB x y=decide (x.data.toList < y.data.toList):=by
 unfold ltOf cfB
 rw [Bool.eq_iff_iff]
 simp only [decide_eq_true_eq]
 exact cmpB_lt _ _
theorem swoB:SWO (ltOf cfB) where
 irrefl x:=by rw [ltB];simp [List.lt_irrefl]
 trans x y z h1 h2:=by rw [ltB] at *;simp only [decide_eq_true_eq] at *;exact List.lt_trans h1 h2
 ntrans x y z h1 h2:=by
   rw [ltB] at *
   simp only [decide_eq_false_iff_not] at *
   exact fun h=>(List.not_lt.1 (List.not_lt.2 (List.le_trans (List.not_lt.1 h2) (List.not_lt.1 h1)))) |> (fun hle=>absurd h (List.not_lt.2 hle))
theorem leB_of (x y:ByteArray) (h:ltOf cfB y x=false):leB x y=true:=by
 rw [ltB] at h
 simp only [decide_eq_false_iff_not] at h
 unfold leB
 exact decide_eq_true (List.not_lt.1 h)
def CmpC (g:Nat):Prop:=∀ (a b:CV) (W:World),Calls Tryz.prog g #[cvV a,cvV b] W fun e w'=>e=.returned (.int .i64 (cfB a.key b.key))∧∃ q os',w'=grow (W.drewN q) os'
theorem cvsC_get (l:List CV) (j:Nat) (hj:j < l.length * 5):(cvsC l)[j]? = some ((cvC l[j / 5]!)[j % 5]!):=by
 have h1:j / 5 < l.length:=by omega
 have h2:=cvsC_at l (j / 5) (j % 5) l[j / 5]! (by rw [List.getElem!_eq_getElem?_getD,List.getElem?_eq_getElem h1];rfl) (by omega)
 rw [show j / 5 * 5 + j % 5=j by omega] at h2
 rw [h2]
 have h3:j % 5 < (cvC l[j / 5]!).length:=by show _ < 5;omega
 generalize l[j / 5]! = c at h3 ⊢
 rw [getElem!_pos (cvC c) (j % 5) h3]
 exact List.getElem?_eq_getElem h3
theorem sort_any (g:Nat) (hcl:CmpC g) (eg:∀ args w,(callFunc g args).run Tryz.prog w=.ok (.enter g args) w) (F:ByteArray→CV) (hF:∀ k,(F k).key=k) (hl:∀ k,(F k).list.oneCell'=true) (ks:List ByteArray) (blk cap base:Nat) (w:World)
   (ho:ownsC w base (.slice (some ⟨blk,0,none⟩) ks.length cap) (ks.map F)) (hn:ks.length≤1000000) :
   Calls Tryz.prog 111 #[.slice (some ⟨blk,0,none⟩) ks.length cap,.func (.func g) #[] #[]] w fun e w' =>
     e=.returned (.tuple #[])∧∃ ks':List ByteArray,ks'.Perm ks∧ks'.Pairwise (fun a b=>leB a b=true)∧IsCvs w' (.slice (some ⟨blk,0,none⟩) ks.length cap) (ks'.map F)∧w.grownBy w' (some blk):=by
 have hblk:blk < w.heap.size:=(ho.lt blk rfl).2
 have hcap:ks.length≤cap:=by
   rcases ho.2 with ⟨e,_⟩ | ⟨_,_,_,e,_,_,h1,_⟩
   · simp at e
   · obtain ⟨_,_,rfl⟩:=Value.slice.inj e;simpa using h1
 have hfz:∀ j,w.frozen? ⟨blk,j,none⟩=false:=by
   rcases ho.2 with ⟨e,_⟩ | ⟨g',_,cur,e,_,hh,_⟩
   · simp at e
   · obtain ⟨e1,_⟩:=Value.slice.inj e
     simp only [Option.some.injEq,Addr.mk.injEq,and_true] at e1
     subst e1
     intro j;simp [World.frozen?,hh]
 have ho2:w.ownsRow base 105 5 (.slice (some ⟨blk,0,none⟩) ks.length cap) ks.length (cvsC (ks.map F)):=by have h:=ho;unfold ownsC at h;rwa [List.length_map] at h
 have hlen:∀ x,(cvC (F x)).length=5:=fun _=>rfl
 have hone:∀ x,∀ v∈cvC (F x),v.oneCell'=true:=fun x=>cvC_cell (hl x)
 have hH:HoldsK (fun k=>cvC (F k)) 5 w blk 0 ks.toArray:=by
   intro j hj
   rw [size_flatK] at hj
   simp only [List.size_toArray] at hj
   refine ⟨?_,by rw [Nat.zero_add];exact hfz j⟩
   rw [get_flatK _ _ _ _ (by simpa using hj),Nat.zero_add]
   have h1:w.cell? ⟨blk,j,none⟩=(cvsC (ks.map F))[j]? := World.ownsRow.cellAt ho2 j (by simpa using hj)
   rw [h1,cvsC_get _ _ (by simpa using hj)]
   have h2:j / 5 < ks.length:=by omega
   congr 2
   simp [h2]
 have hcmp:CmpLays Tryz.prog g #[] (fun k=>cvC (F k)) 5 cfB blk 0 ks.toArray.size w:=fun m os dk _ x y=>by
   have h:=hcl (F x) (F y) (sortWorldK (fun k=>cvC (F k)) 5 w blk 0 m dk os)
   rw [hF,hF] at h
   exact h
 have hcon:=AnyQ.slices_SortFunc Tryz.sortC 5 (fun w=>by kernel_rfl) (fun w=>by kernel_rfl) (fun k=>cvC (F k)) hlen hone cfB swoB g #[] blk 0 cap ks.toArray w eg hcmp hH hblk (by simp;omega)
 refine hcon.mono ?_
 rintro e w' ⟨rfl,d',n,os,hp,hs,rfl⟩
 obtain ⟨hsz,_,hperm⟩:=hp
 have e1:d'.extract 0 ks.toArray.size=d':=by rw [←hsz];exact Array.extract_size
 rw [e1,Array.extract_size] at hperm
 have hsz2:d'.toList.length=ks.length:=by simpa using hsz
 have hH2:=holdsK_sortWorldK_c (fun k=>cvC (F k)) 5 w blk 0 ks.toArray d' n os hH hblk hsz
 refine ⟨rfl,d'.toList,hperm,?_,?_,?_⟩
 · rw [List.pairwise_iff_getElem]
   intro i j hi hj hij
   have h:=hs i j (Nat.zero_le _) hij (by simp at hj ⊢;rw [hsz] at hj;simpa using hj)
   rw [getElem!_pos d' i (by simpa using hi),getElem!_pos d' j (by simpa using hj)] at h
   simpa using leB_of _ _ h
 · by_cases hz:ks.length=0
   · rw [hz]
     refine .inl ⟨_,_,rfl,?_⟩
     rw [List.length_eq_zero_iff.1 (hsz2.trans hz)];rfl
   · refine .inr ⟨blk,0,cap,by rw [List.length_map,hsz2],⟨by rw [List.length_map,hsz2];omega,by rw [List.length_map,hsz2];exact hcap⟩,?_,fun j u hj=>?_⟩
     · show blk < (grow _ os).heap.size
       rw [size_grow]
       unfold putRowK
       rw [size_putRow]
       have:(Sort.ahead w n).heap.size=w.heap.size:=rfl
       omega
     · have hjl:j < (d'.toList.map F).length * 5:=by rw [←cvsC_len];exact (List.getElem?_eq_some_iff.1 hj).1
       rw [List.length_map] at hjl
       have h3:=(hH2 j (by rw [size_flatK];simpa using hjl)).1
       rw [get_flatK _ _ _ _ (by simpa using hjl)] at h3
       rw [h3,←hj,cvsC_get _ _ (by rw [List.length_map];exact hjl)]
       have h2:j / 5 < d'.size:=by simp at hjl;omega
       congr 2
       simp [List.getElem!_eq_getElem?_getD,h2]
 · refine ⟨rfl,rfl,rfl,?_,fun k hk hne=>?_⟩
   · show w.heap.size≤(grow _ os).heap.size
     rw [size_grow]
     unfold putRowK
     rw [size_putRow]
     have:(Sort.ahead w n).heap.size=w.heap.size:=rfl
     omega
   · show (grow _ os).heap[k]? = _
     unfold putRowK
     rw [heap_grow_old _ _ (by rw [size_putRow];exact hk)]
     have h5:blk≠k:=fun e=>hne (by rw [e])
     simp [putRow,mapBlock,Sort.ahead,Array.getElem?_modify,h5]
end Go.Proofs.YtddbpnplbcjpgaaGreatDoor
