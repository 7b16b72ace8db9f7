import Derived.Test.YtifbebhgeheooaaGreatDoorKl16
import Derived.Test.YtifbebhgeheooaaGreatDoorKl09
namespace Go.Proofs.YtifbebhgeheooaaGreatDoor
open Go.RowKit
theorem LogIn.put {wr:World} {P m:Nat} {F:Nat→Prop} {s s':LogS} {vh vw vh' vw':Value} (h:LogIn wr P F s vh vw) (he:ownsE wr m vh' s'.hv) (ho:ownsW wr m vw' s'.ws) (hr:s'.rep=s.rep) (hz:s'.ws=[]→vw'=.slice none 0 0) :
   LogIn ((wr.setCell ⟨P,1,none⟩ vh').setCell ⟨P,2,none⟩ vw') P (fun k=>(F k∨m≤k)∧k < wr.heap.size) s' vh' vw':=by
 have r1:=heap_setCell_same _ _ 1 _ _ vh' h.row
 have r2:=heap_setCell_same _ _ 2 _ _ vw' r1
 have hB:But (fun k=>k=P) wr ((wr.setCell ⟨P,1,none⟩ vh').setCell ⟨P,2,none⟩ vw'):=((But.refl (fun k=>k=P) wr).setCell (.inl (show P=P from rfl)) _).setCell (.inl (show P=P from rfl)) _
 refine ⟨by rw [hr];exact r2,ownsRow_but (he.mono (Nat.zero_le _)) hB (fun k e e2=>?_),ownsRow_but (ho.mono (Nat.zero_le _)) hB (fun k e e2=>?_),⟨.inl h.inP,h.plt'⟩,fun k e=>⟨.inr (he.lt k e).1,(he.lt k e).2⟩,fun k e=>⟨.inr (ho.lt k e).1,(ho.lt k e).2⟩,fun k hk=>by simpa using hk.2,hz⟩
 · subst e2;exact ownsRow_row he h.row (Ne.symm log_ent) e
 · subst e2;exact ownsRow_row ho h.row (Ne.symm log_wr) e
structure AC (w W:World) (P:Nat) (F:Nat→Prop) (s:LogS) (vh vw uf uh uw:Value):Prop where
 rowb:W.heap[w.heap.size]? = some (.cells #[uf,uh,uw] 38 (0,0))
 log:LogIn W P F s vh vw
 bel:Below w.heap.size w W
 sz:w.heap.size + 1≤W.heap.size
 fl:∀ k,F k→k < w.heap.size
section
variable {w W:World} {P:Nat} {F:Nat→Prop} {s:LogS} {vh vw uf uh uw:Value}
theorem AC.call {W':World} (h:AC w W P F s vh vw uf uh uw) (hb:Below W.heap.size W W'):AC w W' P F s vh vw uf uh uw :=
 ⟨(hb.block _ (by have:=h.sz;omega)).trans h.rowb,h.log.below hb,h.bel.trans (hb.mono h.bel.size),Nat.le_trans h.sz hb.size,h.fl⟩
theorem AC.cb (h:AC w W P F s vh vw uf uh uw):W.cell? ⟨w.heap.size,0,none⟩=some uf∧W.cell? ⟨w.heap.size,1,none⟩=some uh∧W.cell? ⟨w.heap.size,2,none⟩=some uw :=
 ⟨cell_of_row _ _ 0 _ _ _ h.rowb,cell_of_row _ _ 1 _ _ _ h.rowb,cell_of_row _ _ 2 _ _ _ h.rowb⟩
end
def AccIs (w:World) (P:Nat) (F:Nat→Prop) (s:LogS) (f h:List Ent) (b:List Wr) (e:Ending) (w':World):Prop :=
 ((accE s f h b).1≠0∧∃ t u,e=.returned (.tuple #[.int .i64 0,.iface t u])∧anyErr w' (.iface t u) (accE s f h b)∧Below w.heap.size w w') ∨
 ((accE s f h b).1=0∧e=.returned (.tuple #[.int .i64 ((freshW s.ws b).length:Int),.nilIface])∧∃ F',(∀ k,F' k→F k∨w.heap.size≤k)∧LogAt w' P F' (accS s h b)∧But F w w')
theorem accE_b {s:LogS} {f h:List Ent} {b:List Wr} (h1:(batF f h b).1≠0):accE s f h b=batF f h b:=by unfold accE;rw [if_pos h1]
theorem accE_o {s:LogS} {f h:List Ent} {b:List Wr} (h1:(batF f h b).1=0) (h2:covB s.hv f=false):accE s f h b=(10,-1):=by unfold accE;rw [if_neg (by rw [h1];simp),if_pos h2]
theorem accE_j {s:LogS} {f h:List Ent} {b:List Wr} (h1:(batF f h b).1=0) (h2:covB s.hv f=true) (h3:(joinR s.hv h).1≠0):accE s f h b=((joinR s.hv h).1,-1):=by unfold accE;rw [if_neg (by rw [h1];simp),if_neg (by rw [h2];simp),if_pos h3]
theorem accE_t {s:LogS} {f h:List Ent} {b:List Wr} (h1:(batF f h b).1=0) (h2:covB s.hv f=true) (h3:(joinR s.hv h).1=0):accE s f h b=togE s.ws b:=by unfold accE togE;rw [if_neg (by rw [h1];simp),if_neg (by rw [h2];simp),if_neg (by rw [h3];simp)] <;> rfl
set_option maxRecDepth 100000 in
set_option maxHeartbeats 8000000 in
theorem laccept_any (P:Nat) (F:Nat→Prop) (s:LogS) (uf uh uw:Value) (f h:List Ent) (b:List Wr) (w:World) (hl:LogAt w P F s) (ok:LogOk s) (hx:BatIs w uf uh uw f h b) (hg:errT w) :
   Calls Tryz.prog 12 #[.pointer (some ⟨P,0,none⟩),.agg #[uf,uh,uw]] w (AccIs w P F s f h b):=by
 obtain ⟨vh,vw,hl⟩:=hl
 have HOK:=Lib.hid ok
 have HX:=Lib.hid hx
 have HG:=Lib.hid hg
 obtain ⟨af,cf,rfl,_⟩:=hx.1.form
 obtain ⟨ah,ch,rfl,_⟩:=hx.2.1.form
 obtain ⟨ab,cb,rfl,_⟩:=hx.2.2.1.form
 obtain ⟨av,cv,rfl,_⟩:=hl.ents.is.form
 obtain ⟨aw,cw,rfl,_⟩:=hl.ows.is.form
 have HLF:Hid (f.length≤9223372036854775807∧h.length≤9223372036854775807∧s.hv.length≤9223372036854775807):=Lib.hid ⟨hx.2.2.2.1,hx.2.2.2.2.1,by have:=ok.hv.1;omega⟩
 obtain ⟨nf,hnf⟩:∃ n,n=f.length:=⟨_,rfl⟩
 obtain ⟨nh,hnh⟩:∃ n,n=h.length:=⟨_,rfl⟩
 obtain ⟨nb,hnb⟩:∃ n,n=b.length:=⟨_,rfl⟩
 obtain ⟨nv,hnv⟩:∃ n,n=s.hv.length:=⟨_,rfl⟩
 obtain ⟨n,hn⟩:∃ n,n=s.ws.length:=⟨_,rfl⟩
 rw [←hnf,←hnh,←hnb] at HX ⊢
 rw [←hnv,←hn] at hl
 have HN:=Lib.hid hn
 have hn3:n≤300:=by rw [hn];exact ok.len
 have HA0:Hid (AC w (w.alloc (.cells #[.slice af nf cf,.slice ah nh ch,.slice ab nb cb] 38)) P F s (.slice av nv cv) (.slice aw n cw) (.slice af nf cf) (.slice ah nh ch) (.slice ab nb cb)):=Lib.hid
   ⟨heap_alloc_new _ _,hl.below ((Below.refl _ _).alloc (Nat.le_refl _) _),(Below.refl _ _).alloc (Nat.le_refl _) _,by simp,hl.lt⟩
 have HXF:Hid (∀ W',Below w.heap.size w W'→IsEnts W' (.slice af nf cf) f∧IsEnts W' (.slice ah nh ch) h∧IsWrs W' (.slice ab nb cb) b):=Lib.hid (fun W' hb=>⟨HX.out.1.below hb,HX.out.2.1.below hb,HX.out.2.2.1.below hb⟩)
 obtain ⟨eb,pb,hb⟩:∃ e pl,batF f h b=(e,pl):=⟨_,_,rfl⟩
 have HBF:=Lib.hid hb
 clear hl ok hx hg hnf hnh hnb hnv hn hb
 go_enter Tryz.func12,Tryz.ntmps12
 go_wp2_with fail
 obtain ⟨W,hW⟩:∃ W,W=w.alloc (.cells #[.slice af nf cf,.slice ah nh ch,.slice ab nb cb] 38):=⟨_,rfl⟩
 rw [←hW] at HA0 ⊢
 clear hW
 refine (bright_any _ _ _ f h b W (HX.out.below HA0.out.bel).1 (HX.out.below HA0.out.bel).2.1 (HX.out.below HA0.out.bel).2.2.1 HLF.out.1 HLF.out.2.1 (HX.out.below HA0.out.bel).2.2.2.2.2.2 (HG.out.below HA0.out.bel)).mono ?_
 rintro r w1 ⟨err,rfl,hat,hb1⟩
 rw [HBF.out] at hat
 have HA1:=Lib.hid (HA0.out.call hb1)
 have HAT:=Lib.hid hat
 clear hb1 hat HA0
 by_cases he:eb=0
 · subst he
   obtain rfl:=HAT.out.nil rfl
   have HBF2:Hid ((batF f h b).1=0):=Lib.hid (by rw [HBF.out])
   have HRB:=Lib.hid (batF_ok.1 HBF2.out)
   have p1:=HA1.out.log.c1
   obtain ⟨c0,c1,c2⟩:=HA1.out.cb
   go_wp2
   have k0:w1.drew.cell? ⟨P,1,none⟩=some (.slice av nv cv)∧w1.drew.cell? ⟨w.heap.size,0,none⟩=some (.slice af nf cf):=⟨p1,c0⟩
   have HD1:Hid (AC w w1.drew P F s (.slice av nv cv) (.slice aw n cw) (.slice af nf cf) (.slice ah nh ch) (.slice ab nb cb)):=Lib.hid (HA1.out.call (Below.refl _ _).drew)
   obtain ⟨cc,hcc⟩:∃ cc,covB s.hv f=cc:=⟨_,rfl⟩
   have HCC:=Lib.hid hcc
   clear hcc p1 c0 c1 c2
   go_region_held3 (fun w'=>w'.cell? ⟨P,1,none⟩=some (.slice av nv cv)∧w'.cell? ⟨w.heap.size,0,none⟩=some (.slice af nf cf)) (first | exact k0 | exact k1 | fail) (first
     | (go_at_call 18;((with_reducible refine (bcov_as (.slice av nv cv) (.slice af nf cf) s.hv f cc w1.drew HD1.out.log.ents.is (HXF.out _ HD1.out.bel).1 HLF.out.2.2 HLF.out.1 HCC.out).mono ?_);rintro r w2 ⟨rfl,hb2⟩;have HA2:=Lib.hid (HD1.out.call hb2);have k1:w2.cell? ⟨P,1,none⟩=some (.slice av nv cv)∧w2.cell? ⟨w.heap.size,0,none⟩=some (.slice af nf cf):=⟨HA2.out.log.c1,HA2.out.cb.1⟩;clear hb2))
     | fail)
   clear k0 k1 HD1 HA1
   cases cc with
   | false =>
     have HE:Hid (accE s f h b=(10,-1)):=Lib.hid (accE_o HBF2.out HCC.out)
     go_wp2
     go_ret2
     exact .inl (by rw [HE.out];exact ⟨by simp,_,_,rfl,.inr ⟨by simp,rfl,rfl⟩,HA2.out.bel⟩)
   | true =>
     obtain ⟨e4,j,hj⟩:∃ e4 j,joinR s.hv h=(e4,j):=⟨_,_,rfl⟩
     have HJ:=Lib.hid hj
     have p1:=HA2.out.log.c1
     obtain ⟨c0,c1,c2⟩:=HA2.out.cb
     clear hj
     go_wp2
     have k0:w2.drew.cell? ⟨P,1,none⟩=some (.slice av nv cv)∧w2.drew.cell? ⟨w.heap.size,1,none⟩=some (.slice ah nh ch):=⟨p1,c1⟩
     have HD2:Hid (AC w w2.drew P F s (.slice av nv cv) (.slice aw n cw) (.slice af nf cf) (.slice ah nh ch) (.slice ab nb cb)):=Lib.hid (HA2.out.call (Below.refl _ _).drew)
     clear p1 c0 c1 c2
     go_region_held3 (fun w'=>w'.cell? ⟨P,1,none⟩=some (.slice av nv cv)∧w'.cell? ⟨w.heap.size,1,none⟩=some (.slice ah nh ch)) (first | exact k0 | exact k1 | fail) (first
       | (go_at_call 44;((with_reducible refine (vjoin_any (.slice av nv cv) (.slice ah nh ch) s.hv h w2.drew HD2.out.log.ents.is (HXF.out _ HD2.out.bel).2.1 HLF.out.2.2 HLF.out.2.1 (HG.out.below HD2.out.bel)).mono ?_);rintro r w3 ⟨u,rfl,ho3,hb3⟩;rw [HJ.out] at ho3 ⊢;obtain ⟨au,cu,rfl,_⟩:=ho3.is.form;obtain ⟨nj,hnj⟩:∃ nj,nj=j.length:=⟨_,rfl⟩;dsimp only at ho3 ⊢;rw [←hnj] at ho3 ⊢;clear hnj;have HO3:Hid (ownsE w3 (w.heap.size + 1) (.slice au nj cu) j):=Lib.hid (ho3.mono HD2.out.sz);have HA3:=Lib.hid (HD2.out.call hb3);have k1:w3.cell? ⟨P,1,none⟩=some (.slice av nv cv)∧w3.cell? ⟨w.heap.size,1,none⟩=some (.slice ah nh ch):=⟨HA3.out.log.c1,HA3.out.cb.2.1⟩;clear hb3 ho3))
       | fail)
     clear k0 k1 HD2 HA2
     by_cases h4:e4=0
     · subst h4
       have HE0:Hid (accE s f h b=togE s.ws b):=Lib.hid (accE_t HBF2.out HCC.out (by rw [HJ.out]))
       rw [noV_0]
       obtain ⟨_,_,c2⟩:=HA3.out.cb
       have HSZ:Hid (∀ x∈b,x.key.size≤140737488351232∧x.value.size≤140737488351232):=Lib.hid (fun x hx=>by have:=HX.out.2.2.2.2.2.2 x hx;exact ⟨this.2.2.1,this.2.2.2⟩)
       go_wp2_with fail
       refine (together_any P F s (.slice ab nb cb) b w3 ⟨_,_,HA3.out.log⟩ HOK.out (HX.out.2.2.1.below HA3.out.bel) (okW_none.1 HRB.out.2.2).2 HRB.out.2.1 HSZ.out).mono ?_
       rintro r w4 (⟨ht,u,rfl,ho4,hz4,hb4⟩ | ⟨ht,err,rfl,hat4,hb4⟩)
       · obtain ⟨m,hm⟩:∃ m,m=(accW s.ws b).length:=⟨_,rfl⟩
         have hmf:m=n + (freshW s.ws b).length:=by rw [hm,accW_len,HN.out]
         obtain ⟨fr,hfr⟩:∃ fr,fr=(freshW s.ws b).length:=⟨_,rfl⟩
         rw [←hfr] at hmf
         have HFR:=Lib.hid hfr
         obtain ⟨a4,c4,rfl,_⟩:=ho4.is.form
         rw [←hm] at ho4 hz4 ⊢
         have HO4:Hid (ownsW w4 (w.heap.size + 1) (.slice a4 m c4) (accW s.ws b)):=Lib.hid (ho4.mono HA3.out.sz)
         have HZ4:=Lib.hid hz4
         have HA4:=Lib.hid (HA3.out.call hb4)
         have HO3B:Hid (ownsE w4 (w.heap.size + 1) (.slice au nj cu) j):=Lib.hid (HO3.out.below hb4)
         have HE:Hid (accE s f h b=(0,-1)):=Lib.hid (by rw [HE0.out,ht])
         have hmle:m≤400:=by
           have h1:(freshW s.ws b).length≤b.length:=List.length_filter_le _ _
           have h2:=HRB.out.2.1
           omega
         have hmn:(m:Int) - (n:Int)=(fr:Int):=by omega
         have hmn2:IntKind.i64.wrap ((m:Int) - (n:Int))=(fr:Int):=by rw [hmn];exact IntWalk.i64_in _ (by omega)
         have p1:=HA4.out.log.c1
         have p2:=HA4.out.log.c2
         have y1:=Lib.frozen_of_heap HA4.out.log.row 1
         have y2:=Lib.frozen_of_heap HA4.out.log.row 2
         clear ht ho4 hz4 hb4 hm hfr hmf c2
         go_wp2
         go_ret2
         refine .inr ⟨by rw [HE.out],by rw [←HFR.out];rfl,(fun k=>(F k∨w.heap.size + 1≤k)∧k < w4.heap.size),?_,?_,?_⟩
         · intro k hk
           rcases hk.1 with hk | hk
           · exact .inl hk
           · exact .inr (by omega)
         · have hS:accS s h b=⟨s.rep,j,accW s.ws b⟩:=by unfold accS;rw [HJ.out];rfl
           rw [hS]
           exact ⟨_,_,HA4.out.log.put (s':=⟨s.rep,j,accW s.ws b⟩) HO3B.out HO4.out rfl HZ4.out⟩
         · exact ((But.of_below HA4.out.bel).setCell (.inl HA4.out.log.inP) _).setCell (.inl HA4.out.log.inP) _
       · have HE:Hid (accE s f h b=togE s.ws b):=HE0
         obtain ⟨t,v,rfl⟩:=hat4.iface ht
         have HT:=Lib.hid ht
         have HAT4:=Lib.hid hat4
         have HB4:Hid (Below w.heap.size w w4):=Lib.hid (HA3.out.bel.trans (hb4.mono HA3.out.bel.size))
         clear ht hat4 hb4 c2
         go_wp2
         go_ret2
         exact .inl (by rw [HE.out];exact ⟨HT.out,_,_,rfl,HAT4.out,HB4.out⟩)
     · have HE:Hid (accE s f h b=(e4,-1)):=Lib.hid (by rw [accE_j HBF2.out HCC.out (by rw [HJ.out];exact h4),HJ.out])
       have H4:=Lib.hid h4
       rw [noV_e h4]
       clear h4
       go_wp2
       go_ret2
       exact .inl (by rw [HE.out];exact ⟨H4.out,_,_,rfl,.inr ⟨H4.out,rfl,rfl⟩,HA3.out.bel⟩)
 · have HE:Hid (accE s f h b=(eb,pb)):=Lib.hid (by rw [accE_b (by rw [HBF.out];exact he),HBF.out])
   obtain ⟨t,v,rfl⟩:=HAT.out.iface he
   have H4:=Lib.hid he
   clear he
   go_wp2
   go_ret2
   exact .inl (by rw [HE.out];exact ⟨H4.out,_,_,rfl,HAT.out,HA1.out.bel⟩)
end Go.Proofs.YtifbebhgeheooaaGreatDoor
namespace Go.Proofs.YtifbebhgeheooaaGreatDoor
open Go.RowKit
set_option maxRecDepth 100000 in
set_option maxHeartbeats 8000000 in
theorem lbehind_any (P:Nat) (F:Nat→Prop) (s:LogS) (v:Value) (f:List Ent) (w:World) (h:LogAt w P F s) (ok:LogOk s) (hf:IsEnts w v f) (hfl:f.length≤9223372036854775807) :
   Calls Tryz.prog 54 #[.pointer (some ⟨P,0,none⟩),v] w fun e w'=>∃ u,e=.returned u∧ownsW w' w.heap.size u (sinceW s f)∧Below w.heap.size w w':=by
 obtain ⟨vh,vw,h⟩:=h
 obtain ⟨aw,cw,rfl,hws⟩:=h.ows.is.form
 have HWS:=Lib.hid hws
 obtain ⟨af,cf,rfl,_⟩:=hf.form
 have HF:=Lib.hid hf
 have HFL:=Lib.hid hfl
 obtain ⟨nf,hnf⟩:∃ n,n=f.length:=⟨_,rfl⟩
 rw [←hnf] at HF ⊢
 obtain ⟨n,hn⟩:∃ n,n=s.ws.length:=⟨_,rfl⟩
 rw [←hn] at h
 have hn3:n≤300:=by rw [hn];exact ok.len
 have HN:=Lib.hid hn
 have p2:=h.c2
 have HSW:Hid (sinceW s f=s.ws.filter (fun x=>decide (ofF f x.rep < x.time))):=Lib.hid rfl
 rw [HSW.out]
 obtain ⟨ws,hw⟩:∃ ws,ws=s.ws:=⟨_,rfl⟩
 rw [←hw] at HWS HN ⊢
 clear h ok hws hf hfl hnf hn hw HSW
 go_enter Tryz.func54,Tryz.ntmps54
 go_wp2
 go_loopw [5,13] (fun lv i wr=>∃ k:Nat,k≤n∧i=.int .i64 k∧ownsW wr w.heap.size lv ((ws.take k).filter (fun x=>decide (ofF f x.rep < x.time)))∧Below w.heap.size w wr) (fun _ i _=>n - (intOf i).toNat)
 case atStart=>exact ⟨0,by omega,rfl,by rw [List.take_zero];exact ownsW_nil _ _,Below.refl _ _⟩
 case round =>
   obtain ⟨k,hk,rfl,ho,hb⟩:=hrel
   have HO:=Lib.hid ho
   have HB:=Lib.hid hb
   have HSR:=Lib.hid hb.size
   clear ho hb
   by_cases hlt:k < n
   · have b1:decide ((k:Int) < (n:Int))=true:=by simpa using hlt
     obtain ⟨x, hx⟩ : ∃ x, ws[k]? = some x := ⟨ws[k]'(by rw [← HN.out]; exact hlt), List.getElem?_eq_getElem _⟩
     obtain ⟨b,off,rfl,hbl,c0,c1,c2,c3,c4,c5⟩:=HWS.out k x hx
     obtain ⟨L,hL⟩:∃ L,L=(ws.take k).filter (fun x=>decide (ofF f x.rep < x.time)):=⟨_,rfl⟩
     have HTS:Hid ((ws.take (k + 1)).filter (fun x=>decide (ofF f x.rep < x.time))=L ++ [x].filter (fun x=>decide (ofF f x.rep < x.time))):=Lib.hid (by rw [List.take_add_one,hx,hL];show (ws.take k ++ [x]).filter _=_;rw [List.filter_append])
     have HKL:Hid (L.length≤300):=Lib.hid (by rw [hL];have h1:=List.length_filter_le (fun x:Wr=>decide (ofF f x.rep < x.time)) (ws.take k);rw [List.length_take] at h1;omega)
     rw [←hL] at HO
     obtain ⟨T,Re,K,key,val,N⟩:=x
     simp only at c0 c1 c2 c3 c4 c5
     have d:∀ j u,w.cell? ⟨b,j,none⟩=some u→wr.cell? ⟨b,j,none⟩=some u:=fun j u hu=>(HB.out.cell (p:=⟨b,j,none⟩) hbl).trans hu
     have e0:=d _ _ c0
     have e1:=d _ _ c1
     have e2:=d _ _ c2
     have e3:=d _ _ c3
     have e4:=d _ _ c4
     have e5:=d _ _ c5
     obtain ⟨y,hy⟩:∃ y,ofF f Re=y:=⟨_,rfl⟩
     have HY:=Lib.hid hy
     clear hx c0 c1 c2 c3 c4 c5 d hbl hL hy
     by_cases hgt:y < T
     · have b2:decide (y < T)=true:=by simpa using hgt
       have HTY:Hid ((ws.take (k + 1)).filter (fun x=>decide (ofF f x.rep < x.time))=L ++ [⟨T,Re,K,key,val,N⟩]):=Lib.hid (by rw [HTS.out];simp [HY.out,hgt])
       clear hgt
       go_wp2
       obtain ⟨wB,hwB⟩:∃ wB,wB=wr.alloc (.cells #[.int .i64 T,.int .i64 Re,.int .i64 K,.string key,.string val,.int .i64 N] 25):=⟨_,rfl⟩
       have HROW:Hid (wB.heap[wr.heap.size]? = some (.cells #[.int .i64 T,.int .i64 Re,.int .i64 K,.string key,.string val,.int .i64 N] 25 (0,0))):=Lib.hid (by rw [hwB];exact heap_alloc_new _ _)
       have HBB:Hid (Below wr.heap.size wr wB):=Lib.hid (by rw [hwB];exact (Below.refl _ _).alloc (Nat.le_refl _) _)
       have HSB:Hid (wr.heap.size < wB.heap.size):=Lib.hid (by rw [hwB];simp)
       rw [←hwB]
       clear hwB e0 e1 e2 e3 e4 e5
       have k0:wB.drew.cell? ⟨wr.heap.size,0,none⟩=some (.int .i64 T)∧wB.drew.cell? ⟨wr.heap.size,1,none⟩=some (.int .i64 Re):=⟨cell_of_row _ _ 0 _ _ _ HROW.out,cell_of_row _ _ 1 _ _ _ HROW.out⟩
       have HFD:Hid (IsEnts wB.drew (.slice af nf cf) f):=Lib.hid (HF.out.below ((HB.out.trans (HBB.out.mono HSR.out)).drew))
       go_region_held3 (fun w'=>w'.cell? ⟨wr.heap.size,0,none⟩=some (.int .i64 T)∧w'.cell? ⟨wr.heap.size,1,none⟩=some (.int .i64 Re)) (first | exact k0 | exact k1 | fail) (first
         | (go_at_call 52;((with_reducible refine (vof_as (.slice af nf cf) f Re y wB.drew HFD.out HFL.out HY.out).mono ?_);rintro r w2 ⟨rfl,hb2⟩;have HB2:Hid (Below wr.heap.size wr w2):=Lib.hid (HBB.out.drew.trans (hb2.mono HBB.out.size));have hrow2:w2.heap[wr.heap.size]? = some (.cells #[.int .i64 T,.int .i64 Re,.int .i64 K,.string key,.string val,.int .i64 N] 25 (0,0)):=(hb2.block _ HSB.out).trans HROW.out;have k1:w2.cell? ⟨wr.heap.size,0,none⟩=some (.int .i64 T)∧w2.cell? ⟨wr.heap.size,1,none⟩=some (.int .i64 Re):=⟨cell_of_row _ _ 0 _ _ _ hrow2,cell_of_row _ _ 1 _ _ _ hrow2⟩;have HR2:=Lib.hid hrow2;clear hb2 hrow2))
         | fail)
       clear k0 k1 HFD
       have g0:w2.cell? ⟨wr.heap.size,0,none⟩=some (.int .i64 T):=cell_of_row _ _ 0 _ _ _ HR2.out
       have g1:w2.cell? ⟨wr.heap.size,1,none⟩=some (.int .i64 Re):=cell_of_row _ _ 1 _ _ _ HR2.out
       have g2:w2.cell? ⟨wr.heap.size,2,none⟩=some (.int .i64 K):=cell_of_row _ _ 2 _ _ _ HR2.out
       have g3:w2.cell? ⟨wr.heap.size,3,none⟩=some (.string key):=cell_of_row _ _ 3 _ _ _ HR2.out
       have g4:w2.cell? ⟨wr.heap.size,4,none⟩=some (.string val):=cell_of_row _ _ 4 _ _ _ HR2.out
       have g5:w2.cell? ⟨wr.heap.size,5,none⟩=some (.int .i64 N):=cell_of_row _ _ 5 _ _ _ HR2.out
       go_wp2_with (at_builtin;refine wpList_append_wr rfl _ _ rfl w.heap.size _ L rfl ((HO.out.below HB2.out).alloc _) w2.heap.size 1 rfl ⟨T,Re,K,key,val,N⟩ (heap_alloc_new _ _) (by have:=HKL.out;omega) (by have:=HSR.out;have:=HB2.out.size;simp;omega) ?_;intro g cap w4 ho4 hg4;have HO4:=Lib.hid ho4;have HG4:=Lib.hid hg4;clear ho4 hg4)
       go_roundw
       · refine ⟨k + 1,by omega,by simp,?_,?_⟩
         · rw [HTY.out];exact HO4.out
         · exact ((HB.out.trans (HB2.out.mono HSR.out)).alloc (Nat.le_trans HSR.out HB2.out.size) _).grown HG4.out (by have:=HSR.out;have:=HB2.out.size;simp;omega) (fun g hg=>(HO.out.lt g hg).1)
       · simp [intOf];omega
     · have b2:decide (y < T)=false:=by simpa using hgt
       have HTY:Hid ((ws.take (k + 1)).filter (fun x=>decide (ofF f x.rep < x.time))=L):=Lib.hid (by rw [HTS.out];simp [HY.out,hgt])
       clear hgt
       go_wp2
       obtain ⟨wB,hwB⟩:∃ wB,wB=wr.alloc (.cells #[.int .i64 T,.int .i64 Re,.int .i64 K,.string key,.string val,.int .i64 N] 25):=⟨_,rfl⟩
       have HROW:Hid (wB.heap[wr.heap.size]? = some (.cells #[.int .i64 T,.int .i64 Re,.int .i64 K,.string key,.string val,.int .i64 N] 25 (0,0))):=Lib.hid (by rw [hwB];exact heap_alloc_new _ _)
       have HBB:Hid (Below wr.heap.size wr wB):=Lib.hid (by rw [hwB];exact (Below.refl _ _).alloc (Nat.le_refl _) _)
       have HSB:Hid (wr.heap.size < wB.heap.size):=Lib.hid (by rw [hwB];simp)
       rw [←hwB]
       clear hwB e0 e1 e2 e3 e4 e5
       have k0:wB.drew.cell? ⟨wr.heap.size,0,none⟩=some (.int .i64 T)∧wB.drew.cell? ⟨wr.heap.size,1,none⟩=some (.int .i64 Re):=⟨cell_of_row _ _ 0 _ _ _ HROW.out,cell_of_row _ _ 1 _ _ _ HROW.out⟩
       have HFD:Hid (IsEnts wB.drew (.slice af nf cf) f):=Lib.hid (HF.out.below ((HB.out.trans (HBB.out.mono HSR.out)).drew))
       go_region_held3 (fun w'=>w'.cell? ⟨wr.heap.size,0,none⟩=some (.int .i64 T)∧w'.cell? ⟨wr.heap.size,1,none⟩=some (.int .i64 Re)) (first | exact k0 | exact k1 | fail) (first
         | (go_at_call 52;((with_reducible refine (vof_as (.slice af nf cf) f Re y wB.drew HFD.out HFL.out HY.out).mono ?_);rintro r w2 ⟨rfl,hb2⟩;have HB2:Hid (Below wr.heap.size wr w2):=Lib.hid (HBB.out.drew.trans (hb2.mono HBB.out.size));have hrow2:w2.heap[wr.heap.size]? = some (.cells #[.int .i64 T,.int .i64 Re,.int .i64 K,.string key,.string val,.int .i64 N] 25 (0,0)):=(hb2.block _ HSB.out).trans HROW.out;have k1:w2.cell? ⟨wr.heap.size,0,none⟩=some (.int .i64 T)∧w2.cell? ⟨wr.heap.size,1,none⟩=some (.int .i64 Re):=⟨cell_of_row _ _ 0 _ _ _ hrow2,cell_of_row _ _ 1 _ _ _ hrow2⟩;have HR2:=Lib.hid hrow2;clear hb2 hrow2))
         | fail)
       clear k0 k1 HFD
       have g0:w2.cell? ⟨wr.heap.size,0,none⟩=some (.int .i64 T):=cell_of_row _ _ 0 _ _ _ HR2.out
       have g1:w2.cell? ⟨wr.heap.size,1,none⟩=some (.int .i64 Re):=cell_of_row _ _ 1 _ _ _ HR2.out
       have g2:w2.cell? ⟨wr.heap.size,2,none⟩=some (.int .i64 K):=cell_of_row _ _ 2 _ _ _ HR2.out
       have g3:w2.cell? ⟨wr.heap.size,3,none⟩=some (.string key):=cell_of_row _ _ 3 _ _ _ HR2.out
       have g4:w2.cell? ⟨wr.heap.size,4,none⟩=some (.string val):=cell_of_row _ _ 4 _ _ _ HR2.out
       have g5:w2.cell? ⟨wr.heap.size,5,none⟩=some (.int .i64 N):=cell_of_row _ _ 5 _ _ _ HR2.out
       go_wp2
       go_roundw
       · exact ⟨k + 1,by omega,by simp,by rw [HTY.out];exact HO.out.below HB2.out,HB.out.trans (HB2.out.mono HSR.out)⟩
       · simp [intOf];omega
   · have b1:decide ((k:Int) < (n:Int))=false:=by simp;omega
     obtain rfl:k=n:=by omega
     have HT:Hid (ownsW wr w.heap.size u5 (ws.filter (fun x=>decide (ofF f x.rep < x.time)))):=Lib.hid (by have:=HO.out;rwa [List.take_of_length_le (by rw [HN.out];exact Nat.le_refl _)] at this)
     go_wp2
     go_ret
     exact ⟨_,rfl,HT.out,HB.out⟩
set_option maxRecDepth 100000 in
set_option maxHeartbeats 8000000 in
theorem lreached_any (v vl:Value) (hv f:List Ent) (l:List Wr) (w:World) (hf:IsEnts w v f) (hl:IsWrs w vl l) (hll:l.length≤100) (hh:rightV hv) (hr:rightV f) (hc:∀ r,ofF f r≤ofF hv r) (hin:InV hv l) (hg:errT w) :
   Calls Tryz.prog 55 #[v,vl] w fun e w'=>∃ u,e=.returned (.tuple #[u,.nilIface])∧ownsE w' w.heap.size u (reachL f l)∧Below w.heap.size w w':=by
 obtain ⟨a,c,rfl,hws⟩:=hl.form
 have HWS:=Lib.hid hws
 have HF:=Lib.hid hf
 have HFL:Hid (f.length≤1000000):=Lib.hid (by have:=hr.1;omega)
 obtain ⟨n,hn⟩:∃ n,n=l.length:=⟨_,rfl⟩
 rw [←hn] at hll ⊢
 have HN:=Lib.hid hn
 have HRE:Hid (∀ k x,l[k]? = some x→joinR (reachL f (l.take k)) [⟨x.rep,x.time⟩]=(0,reachL f (l.take (k + 1)))):=Lib.hid (fun k x hx=>by
   have e:l.take (k + 1)=l.take k ++ [x]:=by rw [List.take_add_one,hx];rfl
   rw [e]
   exact reach_step hh hr hc (by rw [←e];exact fun y hy=>hin y (List.mem_of_mem_take hy)))
 have HR0:Hid (reachL f (l.take 0)=f):=Lib.hid (by rw [List.take_zero];exact reach_nil hr)
 have HLEN:Hid (∀ k,(reachL f (l.take k)).length≤16):=Lib.hid (fun k=>(reach_of hh hr hc (l:=l.take k) (fun y hy=>hin y (List.mem_of_mem_take hy))).2.2.1)
 have HG:=Lib.hid hg
 clear hws hl hf hn hh hr hc hin hg
 go_enter Tryz.func55,Tryz.ntmps55
 go_wp2_with (go_at_call 53;refine (clone_ents v f _ HF.out HFL.out).mono ?_;rintro r w1 ⟨u,rfl,ho1,hb1⟩;have HO1:Hid (ownsE w1 w.heap.size u (reachL f (l.take 0))):=Lib.hid (by rw [HR0.out];exact ho1);have HB1:=Lib.hid hb1;clear ho1 hb1)
 go_loopw [6,15] (fun lv i wr=>∃ k:Nat,k≤n∧i=.int .i64 k∧ownsE wr w.heap.size lv (reachL f (l.take k))∧Below w.heap.size w wr) (fun _ i _=>n - (intOf i).toNat)
 case atStart=>exact ⟨0,by omega,rfl,HO1.out,HB1.out⟩
 case round =>
   obtain ⟨k,hk,rfl,ho,hb⟩:=hrel
   have HO:=Lib.hid ho
   have HB:=Lib.hid hb
   have HSR:=Lib.hid hb.size
   clear ho hb HO1 HB1
   by_cases hlt:k < n
   · have b1:decide ((k:Int) < (n:Int))=true:=by simpa using hlt
     obtain ⟨x, hx⟩ : ∃ x, l[k]? = some x := ⟨l[k]'(by rw [← HN.out]; exact hlt), List.getElem?_eq_getElem _⟩
     obtain ⟨b,off,rfl,hbl,c0,c1,c2,c3,c4,c5⟩:=HWS.out k x hx
     have HST:=Lib.hid (HRE.out k x hx)
     obtain ⟨T,Re,K,key,val,N⟩:=x
     simp only at c0 c1 c2 c3 c4 c5 HST
     have d:∀ j u,w.cell? ⟨b,j,none⟩=some u→wr.cell? ⟨b,j,none⟩=some u:=fun j u hu=>(HB.out.cell (p:=⟨b,j,none⟩) hbl).trans hu
     have e0:=d _ _ c0
     have e1:=d _ _ c1
     have e2:=d _ _ c2
     have e3:=d _ _ c3
     have e4:=d _ _ c4
     have e5:=d _ _ c5
     obtain ⟨av,cv,rfl,_⟩:=HO.out.is.form
     obtain ⟨m,hm⟩:∃ m,m=(reachL f (l.take k)).length:=⟨_,rfl⟩
     rw [←hm] at HO ⊢
     clear hx c0 c1 c2 c3 c4 c5 d hbl hm
     go_wp2_with (go_at_call 49;refine (land_any (.slice av m cv) (reachL f (l.take k)) T Re _ (HO.out.is.alloc _) (by have:=HLEN.out k;omega) ((HG.out.below HB.out).alloc _) 0 _ HST.out).mono ?_;rintro r w3 ⟨u,rfl,ho3,hb3⟩;rw [noV_0];have HO3:Hid (ownsE w3 w.heap.size u (reachL f (l.take (k + 1)))):=Lib.hid (ownsE.mono ho3 (by have:=HSR.out;simp;omega));have HB3:Hid (Below w.heap.size w w3):=Lib.hid ((HB.out.alloc HSR.out _).trans (hb3.mono (by have:=HSR.out;simp;omega)));clear ho3 hb3)
     go_roundw
     · exact ⟨k + 1,by omega,by simp,HO3.out,HB3.out⟩
     · simp [intOf];omega
   · have b1:decide ((k:Int) < (n:Int))=false:=by simp;omega
     obtain rfl:k=n:=by omega
     have HT:Hid (ownsE wr w.heap.size u6 (reachL f l)):=Lib.hid (by have:=HO.out;rwa [List.take_of_length_le (by rw [HN.out];exact Nat.le_refl _)] at this)
     go_wp2
     go_ret2
     exact ⟨_,rfl,HT.out,HB.out⟩
end Go.Proofs.YtifbebhgeheooaaGreatDoor
namespace Go.Proofs.YtifbebhgeheooaaGreatDoor
open Go.RowKit
theorem IsEnts.none {w:World} {v:Value} (h:IsEnts w v []):∃ a c,v=.slice a 0 c:=by
 obtain ⟨a,c,h,_⟩:=h.form;exact ⟨a,c,h⟩
end Go.Proofs.YtifbebhgeheooaaGreatDoor
namespace Go.Proofs.YtifbebhgeheooaaGreatDoor
open Go.RowKit
def oneH:List Ent:=[⟨3,7⟩]
def oneW:List Wr:=[⟨7,3,1,⟨#[107]⟩,⟨#[118]⟩,0⟩]
theorem one_right:batF [] oneH oneW=(0,-1):=by decide +kernel
theorem one_state:batF oneH oneH oneW=(6,0):=by decide +kernel
theorem one_same:sameV [] oneH oneW [] oneH oneW=true:=sameV_self _ _ _
theorem one_other:sameV [] oneH oneW oneH oneH oneW=false:=by decide +kernel
theorem one_ok:∀ t∈oneW,WrOk t:=by
 intro t ht
 simp only [oneW,List.mem_singleton] at ht
 subst ht
 refine ⟨by decide,by decide,?_,?_⟩
 · show (1:Nat)≤_;decide
 · show (1:Nat)≤_;decide
theorem ents_one {w:World} {B:Nat} {t:Ent} (h:w.heap[B]? = some (.cells #[.int .i64 t.rep,.int .i64 t.time] 34 (0,0))):IsEnts w (.slice (some ⟨B,0,none⟩) 1 1) [t]:=by
 refine .inr ⟨B,0,1,rfl,⟨Nat.zero_lt_one,Nat.le_refl 1⟩,(Array.getElem?_eq_some_iff.1 h).1,fun j u hj=>?_⟩
 rw [Nat.zero_add,cell_of_row _ _ j _ _ (0,0) h]
 simpa [entsC,entC] using hj
theorem bat_one {w:World} {P Q:Nat} (hp:w.heap[P]? = some (.cells #[.int .i64 3,.int .i64 7] 34 (0,0))) (hq:w.heap[Q]? = some (.cells #[.int .i64 7,.int .i64 3,.int .i64 1,.string ⟨#[107]⟩,.string ⟨#[118]⟩,.int .i64 0] 25 (0,0))) :
   BatIs w (.slice none 0 0) (.slice (some ⟨P,0,none⟩) 1 1) (.slice (some ⟨Q,0,none⟩) 1 1) [] oneH oneW :=
 ⟨IsEnts.nil _,ents_one hp,wrBlk_is hq,by decide,by decide,by decide,one_ok⟩
set_option maxRecDepth 100000 in
set_option maxHeartbeats 4000000 in
theorem one_any (w:World):Calls Tryz.prog 57 #[] w fun e w'=>∃ P Q,e=.returned (.agg #[.slice none 0 0,.slice (some ⟨P,0,none⟩) 1 1,.slice (some ⟨Q,0,none⟩) 1 1])∧BatIs w' (.slice none 0 0) (.slice (some ⟨P,0,none⟩) 1 1) (.slice (some ⟨Q,0,none⟩) 1 1) [] oneH oneW∧Below w.heap.size w w':=by
 go_enter Tryz.func57,Tryz.ntmps57
 go_wp2
 refine bodyPost_ret (v:=.agg #[.slice none 0 0,.slice (some ⟨w.heap.size + 1,0,none⟩) 1 1,.slice (some ⟨w.heap.size + 1 + 1,0,none⟩) 1 1]) (by simp [results,Tryz.results57,go_sem]) rfl ?_
 refine ⟨_,_,rfl,bat_one ?_ ?_,(((Below.refl _ _).alloc (Nat.le_refl _) _).alloc (by simp) _).alloc (by simp;omega) _⟩
 · have h:=heap_alloc2_old (w.alloc (.cells #[.slice none 0 0,.slice (some ⟨w.heap.size + 1,0,none⟩) 1 1,.slice (some ⟨w.heap.size + 1 + 1,0,none⟩) 1 1] 38)) (.cells #[.int .i64 3,.int .i64 7] 34) (.cells #[.int .i64 7,.int .i64 3,.int .i64 1,.string ⟨#[107]⟩,.string ⟨#[118]⟩,.int .i64 0] 25)
   rw [World.size_alloc] at h
   exact h
 · have h:=heap_alloc2_new (w.alloc (.cells #[.slice none 0 0,.slice (some ⟨w.heap.size + 1,0,none⟩) 1 1,.slice (some ⟨w.heap.size + 1 + 1,0,none⟩) 1 1] 38)) (.cells #[.int .i64 3,.int .i64 7] 34) (.cells #[.int .i64 7,.int .i64 3,.int .i64 1,.string ⟨#[107]⟩,.string ⟨#[118]⟩,.int .i64 0] 25)
   rw [World.size_alloc] at h
   exact h
def two2 (w:World) (B C:Nat) (a b c d e g:Value):Prop :=
 w.cell? ⟨B,0,none⟩=some a∧w.cell? ⟨B,1,none⟩=some b∧w.cell? ⟨B,2,none⟩=some c∧w.cell? ⟨C,0,none⟩=some d∧w.cell? ⟨C,1,none⟩=some e∧w.cell? ⟨C,2,none⟩=some g
theorem two2.below {w w':World} {B C:Nat} {a b c d e g:Value} {m:Nat} (h:two2 w B C a b c d e g) (hb:Below m w w') (hm:B < m) (hm2:C < m):two2 w' B C a b c d e g :=
 ⟨(hb.cell hm).trans h.1,(hb.cell hm).trans h.2.1,(hb.cell hm).trans h.2.2.1,(hb.cell hm2).trans h.2.2.2.1,(hb.cell hm2).trans h.2.2.2.2.1,(hb.cell hm2).trans h.2.2.2.2.2⟩
theorem two2_of {w:World} {B C:Nat} {a b c d e g:Value} (h1:batAt w B a b c) (h2:batAt w C d e g):two2 w B C a b c d e g:=⟨h1.1,h1.2.1,h1.2.2,h2⟩
theorem brightB_as (vf vh vw:Value) (f h:List Ent) (l:List Wr) (e:Nat) (pl:Int) (w:World) (hx:BatIs w vf vh vw f h l) (hg:errT w) (hb:batF f h l=(e,pl)) :
   Calls Tryz.prog 43 #[.agg #[vf,vh,vw]] w (VRightIs w (e,pl)):=by
 rw [←hb];exact brightB vf vh vw f h l w hx hg
set_option maxRecDepth 100000 in
set_option maxHeartbeats 8000000 in
theorem gathered_any (w:World) (hg:errT w):Calls Tryz.prog 22 #[] w fun e w'=>e=.returned (.bool true)∧Below w.heap.size w w':=by
 have HG:=Lib.hid hg
 clear hg
 go_enter Tryz.func22,Tryz.ntmps22
 go_wp2_with fail
 refine (one_any _).mono ?_
 rintro r w1 ⟨P1,Q1,rfl,hx1,hb1⟩
 have HX1:=Lib.hid hx1
 have HB1:=Lib.hid hb1
 clear hx1 hb1
 go_wp2_with fail
 refine (one_any _).mono ?_
 rintro r w2 ⟨P2,Q2,rfl,hx2,hb2⟩
 have hA1:batAt w2 w1.heap.size (.slice none 0 0) (.slice (some ⟨P1,0,none⟩) 1 1) (.slice (some ⟨Q1,0,none⟩) 1 1):=(batAt_new w1 _ _ _ 38).below hb2 (by simp)
 have HA1:=Lib.hid hA1
 have HX1b:=Lib.hid ((HX1.out.alloc (.cells #[.slice none 0 0,.slice (some ⟨P1,0,none⟩) 1 1,.slice (some ⟨Q1,0,none⟩) 1 1] 38)).below hb2)
 have HX2:=Lib.hid hx2
 have HB2:Hid (Below w.heap.size w w2):=Lib.hid ((HB1.out.alloc HB1.out.size _).trans (hb2.mono (by have:=HB1.out.size;simp;omega)))
 have HZ2:Hid (w1.heap.size < w2.heap.size):=Lib.hid (by have:=hb2.size;simp at this;exact this)
 clear hx2 hb2 hA1
 go_wp2
 have HA:Hid (two2 (w2.alloc (.cells #[.slice (some ⟨P2,0,none⟩) 1 1,.slice (some ⟨P2,0,none⟩) 1 1,.slice (some ⟨Q2,0,none⟩) 1 1] 38)) w1.heap.size w2.heap.size (.slice none 0 0) (.slice (some ⟨P1,0,none⟩) 1 1) (.slice (some ⟨Q1,0,none⟩) 1 1) (.slice (some ⟨P2,0,none⟩) 1 1) (.slice (some ⟨P2,0,none⟩) 1 1) (.slice (some ⟨Q2,0,none⟩) 1 1)):=Lib.hid (two2_of (HA1.out.below ((Below.refl _ _).alloc (Nat.le_refl _) _) HZ2.out) (batAt_new _ _ _ _ _))
 have HX:Hid (BatIs (w2.alloc (.cells #[.slice (some ⟨P2,0,none⟩) 1 1,.slice (some ⟨P2,0,none⟩) 1 1,.slice (some ⟨Q2,0,none⟩) 1 1] 38)) (.slice none 0 0) (.slice (some ⟨P1,0,none⟩) 1 1) (.slice (some ⟨Q1,0,none⟩) 1 1) [] oneH oneW):=Lib.hid (HX1b.out.alloc _)
 have HY:Hid (BatIs (w2.alloc (.cells #[.slice (some ⟨P2,0,none⟩) 1 1,.slice (some ⟨P2,0,none⟩) 1 1,.slice (some ⟨Q2,0,none⟩) 1 1] 38)) (.slice (some ⟨P2,0,none⟩) 1 1) (.slice (some ⟨P2,0,none⟩) 1 1) (.slice (some ⟨Q2,0,none⟩) 1 1) oneH oneH oneW):=Lib.hid ((show BatIs w2 (.slice (some ⟨P2,0,none⟩) 1 1) (.slice (some ⟨P2,0,none⟩) 1 1) (.slice (some ⟨Q2,0,none⟩) 1 1) oneH oneH oneW from ⟨HX2.out.2.1,HX2.out.2.1,HX2.out.2.2.1,by decide,by decide,by decide,one_ok⟩).alloc _)
 have HW0:Hid (Below w.heap.size w (w2.alloc (.cells #[.slice (some ⟨P2,0,none⟩) 1 1,.slice (some ⟨P2,0,none⟩) 1 1,.slice (some ⟨Q2,0,none⟩) 1 1] 38))):=Lib.hid (HB2.out.alloc HB2.out.size _)
 have HZB:Hid (w1.heap.size < (w2.alloc (.cells #[.slice (some ⟨P2,0,none⟩) 1 1,.slice (some ⟨P2,0,none⟩) 1 1,.slice (some ⟨Q2,0,none⟩) 1 1] 38)).heap.size):=Lib.hid (by have:=HZ2.out;simp;omega)
 have HZC:Hid (w2.heap.size < (w2.alloc (.cells #[.slice (some ⟨P2,0,none⟩) 1 1,.slice (some ⟨P2,0,none⟩) 1 1,.slice (some ⟨Q2,0,none⟩) 1 1] 38)).heap.size):=Lib.hid (by simp)
 clear HA1 HX1 HX1b HX2 HB1 HB2 HZ2
 generalize w2.alloc (.cells #[.slice (some ⟨P2,0,none⟩) 1 1,.slice (some ⟨P2,0,none⟩) 1 1,.slice (some ⟨Q2,0,none⟩) 1 1] 38)=W at HA HX HY HW0 HZB HZC ⊢
 generalize w1.heap.size=B at HA HZB ⊢
 generalize w2.heap.size=C at HA HZC ⊢
 have HB0:Hid (Below W.heap.size W W.drew):=Lib.hid (Below.refl _ _).drew
 have HE:Hid (∀ w',Below W.heap.size W w'→Below w.heap.size w w'):=Lib.hid (fun w' hx=>HW0.out.trans (hx.mono HW0.out.size))
 have hA0:=HA.out
 unfold two2 at hA0
 go_region_held3 (fun w'=>w'.cell? ⟨B,0,none⟩=some (.slice none 0 0)∧w'.cell? ⟨B,1,none⟩=some (.slice (some ⟨P1,0,none⟩) 1 1)∧w'.cell? ⟨B,2,none⟩=some (.slice (some ⟨Q1,0,none⟩) 1 1)∧w'.cell? ⟨C,0,none⟩=some (.slice (some ⟨P2,0,none⟩) 1 1)∧w'.cell? ⟨C,1,none⟩=some (.slice (some ⟨P2,0,none⟩) 1 1)∧w'.cell? ⟨C,2,none⟩=some (.slice (some ⟨Q2,0,none⟩) 1 1)) (first | exact hA0 | exact k1 | exact k2 | exact k3 | exact k4 | exact k5 | exact k6 | fail) (first
   | (go_at_call 43;((with_reducible refine (brightB_as _ _ _ [] oneH oneW 0 (-1) W.drew (HX.out.below HB0.out) (HG.out.below (HE.out _ HB0.out)) one_right).mono ?_);rintro r w3 ⟨err,rfl,hat,hb3⟩;have HB3:Hid (Below W.heap.size W w3):=Lib.hid (undrew3 hb3);obtain rfl:=hat.nil rfl;have k1:=HA.out.below HB3.out HZB.out HZC.out;unfold two2 at k1;clear hb3 hat))
   | (go_at_call 43;((with_reducible refine (brightB_as _ _ _ oneH oneH oneW 6 0 w3 (HY.out.below HB3.out) (HG.out.below (HE.out _ HB3.out)) one_state).mono ?_);rintro r w4 ⟨err,rfl,hat,hb4⟩;have HB4:Hid (Below W.heap.size W w4):=HB3.out.trans (hb4.mono HB3.out.size);have HER:=Lib.hid (hat.isErr (by decide));obtain ⟨t,u,rfl⟩:=hat.iface (by decide);have k2:=HA.out.below HB4.out HZB.out HZC.out;unfold two2 at k2;clear hb4 hat))
   | (go_at_call 13;((with_reducible refine (tell_err _ _ w4 (HG.out.below (HE.out _ HB4.out)) HER.out).mono ?_);rintro r w5 ⟨rfl,hb5⟩;have HB5:Hid (Below W.heap.size W w5):=HB4.out.trans (hb5.mono HB4.out.size);have k3:=HA.out.below HB5.out HZB.out HZC.out;unfold two2 at k3;clear hb5))
   | (go_at_call 57;((with_reducible refine (one_any w5).mono ?_);rintro r w6 ⟨P3,Q3,rfl,hx6,hb6⟩;have HX6:=Lib.hid hx6;have HB6:Hid (Below W.heap.size W w6):=HB5.out.trans (hb6.mono HB5.out.size);have k4:=HA.out.below HB6.out HZB.out HZC.out;unfold two2 at k4;clear hb6 hx6))
   | (go_at_call 58;((with_reducible refine (bsame_as _ _ _ _ _ _ [] oneH oneW [] oneH oneW true w6 (HX.out.below HB6.out) HX6.out one_same).mono ?_);rintro r w7 ⟨rfl,hb7⟩;have HB7:Hid (Below W.heap.size W w7):=HB6.out.trans (hb7.mono HB6.out.size);have k5:=HA.out.below HB7.out HZB.out HZC.out;unfold two2 at k5;clear hb7))
   | (go_at_call 58;((with_reducible refine (bsame_as _ _ _ _ _ _ [] oneH oneW oneH oneH oneW false w7 (HX.out.below HB7.out) (HY.out.below HB7.out) one_other).mono ?_);rintro r w8 ⟨rfl,hb8⟩;have HB8:Hid (Below W.heap.size W w8):=HB7.out.trans (hb8.mono HB7.out.size);have k6:=HA.out.below HB8.out HZB.out HZC.out;unfold two2 at k6;clear hb8))
   | fail)
 go_wp2
 go_ret
 exact ⟨rfl,HE.out _ HB8.out⟩
end Go.Proofs.YtifbebhgeheooaaGreatDoor
