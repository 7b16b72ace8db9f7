import Derived.Test.YtdhognaoejiglaaGreatDoorKbq
import Derived.Test.YtdhognaoejiglaaGreatDoorKb30
namespace Go.Proofs.YtdhognaoejiglaaGreatDoor
open Lib (hid)
set_option maxRecDepth 100000
set_option maxHeartbeats 8000000
section
open Go.RowKit
theorem bk.put {wr:World} {P m:Nat} {F:Nat→Prop} {s s':LogS} {vh vw vh' vw':Value} (h:bk wr P F s vh vw) (he:ag wr m vh' s'.hv) (ho:ak wr m vw' s'.ws) (hr:s'.rep=s.rep) (hz:s'.ws=[]→vw'=.slice none 0 0) :
 bk ((wr.setCell ⟨P,1,none⟩ vh').setCell ⟨P,2,none⟩ vw') P (fun k=>(F k∨m≤k)∧k<wr.heap.size) s' vh' vw':=by
 have r1:=heap_setCell_same _ _ 1 _ _ vh' h.row;have r2:=heap_setCell_same _ _ 2 _ _ vw' r1;have hB:But (fun k=>k=P) wr ((wr.setCell ⟨P,1,none⟩ vh').setCell ⟨P,2,none⟩ vw'):=((But.refl (fun k=>k=P) wr).setCell (.inl (show P=P from rfl)) _).setCell (.inl (show P=P from rfl)) _;refine ⟨by rw [hr];exact r2,cT (he.mono (Nat.zero_le _)) hB (fun k e e2=>?_),cT (ho.mono (Nat.zero_le _)) hB (fun k e e2=>?_),⟨.inl h.inP,h.plt'⟩,fun k e=>⟨.inr (he.lt k e).1,(he.lt k e).2⟩,fun k e=>⟨.inr (ho.lt k e).1,(ho.lt k e).2⟩,fun k hk=>by simpa using hk.2,hz⟩
 ·subst e2;exact i7 he h.row (Ne.symm ss) e
 ·subst e2;exact i7 ho h.row (Ne.symm l7) e
structure AC (w W:World) (P:Nat) (F:Nat→Prop) (s:LogS) (vh vw uf uh uw:Value):Prop where
 rowb:W.heap[w.heap.size]? = some (.cells #[uf,uh,uw] 47 (0,0))
 log:bk W P F s vh vw
 bel:Below w.heap.size w W
 sz:w.heap.size+1≤W.heap.size
 fl:∀ k,F k→k<w.heap.size
section
variable {w W:World} {P:Nat} {F:Nat→Prop} {s:LogS} {vh vw uf uh uw:Value}
theorem AC.call {W':World} (h:AC w W P F s vh vw uf uh uw) (hb:Below W.heap.size W W'):AC w W' P F s vh vw uf uh uw :=
 ⟨(hb.block _ (by have:=h.sz;omega)).trans h.rowb,h.log.below hb,h.bel.trans (hb.mono h.bel.size),Nat.le_trans h.sz hb.size,h.fl⟩
theorem AC.cb (h:AC w W P F s vh vw uf uh uw):W.cell? ⟨w.heap.size,0,none⟩=some uf∧W.cell? ⟨w.heap.size,1,none⟩=some uh∧W.cell? ⟨w.heap.size,2,none⟩=some uw :=
 ⟨cell_of_row _ _ 0 _ _ _ h.rowb,cell_of_row _ _ 1 _ _ _ h.rowb,cell_of_row _ _ 2 _ _ _ h.rowb⟩
end
def wd (w:World) (P:Nat) (F:Nat→Prop) (s:LogS) (f h:List Ent) (b:List Wr) (e:Ending) (w':World):Prop :=
 ((accE s f h b).1≠0∧∃ t u,e=.returned (.tuple #[.int .i64 0,.iface t u])∧ax w' (.iface t u) (accE s f h b)∧Below w.heap.size w w') ∨
 ((accE s f h b).1=0∧e=.returned (.tuple #[.int .i64 ((bd s.ws b).length:Int),.nilIface])∧∃ F',(∀ k,F' k→F k∨w.heap.size≤k)∧aQ w' P F' (accS s h b)∧But F w w')
theorem wK {s:LogS} {f h:List Ent} {b:List Wr} (h1:(batF f h b).1≠0):accE s f h b=batF f h b:=by unfold accE;rw [if_pos h1]
theorem wM {s:LogS} {f h:List Ent} {b:List Wr} (h1:(batF f h b).1=0) (h2:covB s.hv f=false):accE s f h b=(10,-1):=by unfold accE;rw [if_neg (by rw [h1];simp),if_pos h2]
theorem wL {s:LogS} {f h:List Ent} {b:List Wr} (h1:(batF f h b).1=0) (h2:covB s.hv f=true) (h3:(aR s.hv h).1≠0):accE s f h b=((aR s.hv h).1,-1):=by unfold accE;rw [if_neg (by rw [h1];simp),if_neg (by rw [h2];simp),if_pos h3]
theorem wO {s:LogS} {f h:List Ent} {b:List Wr} (h1:(batF f h b).1=0) (h2:covB s.hv f=true) (h3:(aR s.hv h).1=0):accE s f h b=togE s.ws b:=by unfold accE togE;rw [if_neg (by rw [h1];simp),if_neg (by rw [h2];simp),if_neg (by rw [h3];simp)] <;> rfl
theorem AB (P:Nat) (F:Nat→Prop) (s:LogS) (uf uh uw:Value) (f h:List Ent) (b:List Wr) (w:World) (hl:aQ w P F s) (ok:aM s) (hx:aC w uf uh uw f h b) (hg:errT w) :
 Calls Tryz.prog 23 #[.pointer (some ⟨P,0,none⟩),.agg #[uf,uh,uw]] w (wd w P F s f h b):=by
 obtain ⟨vh,vw,hl⟩:=hl;have HOK:=hid ok;have HX:=hid hx;have HG:=hid hg;obtain ⟨af,cf,rfl,_⟩:=hx.1.form;obtain ⟨ah,ch,rfl,_⟩:=hx.2.1.form;obtain ⟨ab,cb,rfl,_⟩:=hx.2.2.1.form;obtain ⟨av,cv,rfl,_⟩:=hl.ents.is.form;obtain ⟨aw,cw,rfl,_⟩:=hl.ows.is.form;have HLF:Hid (f.length≤9223372036854775807∧h.length≤9223372036854775807∧s.hv.length≤9223372036854775807):=hid ⟨hx.2.2.2.1,hx.2.2.2.2.1,by have:=ok.hv.1;omega⟩;obtain ⟨nf,hnf⟩:∃ n,n=f.length:=⟨_,rfl⟩;obtain ⟨nh,hnh⟩:∃ n,n=h.length:=⟨_,rfl⟩;obtain ⟨nb,hnb⟩:∃ n,n=b.length:=⟨_,rfl⟩;obtain ⟨nv,hnv⟩:∃ n,n=s.hv.length:=⟨_,rfl⟩;obtain ⟨n,hn⟩:∃ n,n=s.ws.length:=⟨_,rfl⟩;rw [←hnf,←hnh,←hnb] at HX ⊢;rw [←hnv,←hn] at hl;have HN:=hid hn;have hn3:n≤300:=by rw [hn];exact ok.len
 have HA0:Hid (AC w (w.alloc (.cells #[.slice af nf cf,.slice ah nh ch,.slice ab nb cb] 47)) P F s (.slice av nv cv) (.slice aw n cw) (.slice af nf cf) (.slice ah nh ch) (.slice ab nb cb)):=hid
  ⟨heap_alloc_new _ _,hl.below ((Below.refl _ _).alloc (Nat.le_refl _) _),(Below.refl _ _).alloc (Nat.le_refl _) _,by simp,hl.lt⟩
 have HXF:Hid (∀ W',Below w.heap.size w W'→ae W' (.slice af nf cf) f∧ae W' (.slice ah nh ch) h∧az W' (.slice ab nb cb) b):=hid (fun W' hb=>⟨HX.out.1.below hb,HX.out.2.1.below hb,HX.out.2.2.1.below hb⟩);obtain ⟨eb,pb,hb⟩:∃ e pl,batF f h b=(e,pl):=⟨_,_,rfl⟩;have HBF:=hid hb;clear hl ok hx hg hnf hnh hnb hnv hn hb;go_enter Tryz.func23,Tryz.ntmps23
 go_wp2_with fail
 obtain ⟨W,hW⟩:∃ W,W=w.alloc (.cells #[.slice af nf cf,.slice ah nh ch,.slice ab nb cb] 47):=⟨_,rfl⟩;rw [←hW] at HA0 ⊢;clear hW;refine (mJ _ _ _ f h b W (HX.out.below HA0.out.bel).1 (HX.out.below HA0.out.bel).2.1 (HX.out.below HA0.out.bel).2.2.1 HLF.out.1 HLF.out.2.1 (HX.out.below HA0.out.bel).2.2.2.2.2.2 (HG.out.below HA0.out.bel)).mono ?_;rintro r w1 ⟨err,rfl,hat,hb1⟩;rw [HBF.out] at hat;have HA1:=hid (HA0.out.call hb1);have HAT:=hid hat;clear hb1 hat HA0;by_cases he:eb=0
 ·subst he;obtain rfl:=HAT.out.nil rfl;have HBF2:Hid ((batF f h b).1=0):=hid (by rw [HBF.out]);have HRB:=hid (pX.1 HBF2.out);have p1:=HA1.out.log.c1;obtain ⟨c0,c1,c2⟩:=HA1.out.cb;go_wp2;have k0:w1.drew.cell? ⟨P,1,none⟩=some (.slice av nv cv)∧w1.drew.cell? ⟨w.heap.size,0,none⟩=some (.slice af nf cf):=⟨p1,c0⟩;have HD1:Hid (AC w w1.drew P F s (.slice av nv cv) (.slice aw n cw) (.slice af nf cf) (.slice ah nh ch) (.slice ab nb cb)):=hid (HA1.out.call (Below.refl _ _).drew);obtain ⟨cc,hcc⟩:∃ cc,covB s.hv f=cc:=⟨_,rfl⟩;have HCC:=hid hcc;clear hcc p1 c0 c1 c2;go_region_held3 (fun w'=>w'.cell? ⟨P,1,none⟩=some (.slice av nv cv)∧w'.cell? ⟨w.heap.size,0,none⟩=some (.slice af nf cf)) (first | exact k0 | exact k1 | fail) (first
   | (go_at_call 26;((with_reducible refine (dn (.slice av nv cv) (.slice af nf cf) s.hv f cc w1.drew HD1.out.log.ents.is (HXF.out _ HD1.out.bel).1 HLF.out.2.2 HLF.out.1 HCC.out).mono ?_);rintro r w2 ⟨rfl,hb2⟩;have HA2:=hid (HD1.out.call hb2);have k1:w2.cell? ⟨P,1,none⟩=some (.slice av nv cv)∧w2.cell? ⟨w.heap.size,0,none⟩=some (.slice af nf cf):=⟨HA2.out.log.c1,HA2.out.cb.1⟩;clear hb2))
   | fail)
  clear k0 k1 HD1 HA1;cases cc with
  | false =>
   have HE:Hid (accE s f h b=(10,-1)):=hid (wM HBF2.out HCC.out);go_wp2;go_ret2;exact .inl (by rw [HE.out];exact ⟨by simp,_,_,rfl,.inr ⟨by simp,rfl,rfl⟩,HA2.out.bel⟩)
  | true =>
   obtain ⟨e4,j,hj⟩:∃ e4 j,aR s.hv h=(e4,j):=⟨_,_,rfl⟩;have HJ:=hid hj;have p1:=HA2.out.log.c1;obtain ⟨c0,c1,c2⟩:=HA2.out.cb;clear hj;go_wp2;have k0:w2.drew.cell? ⟨P,1,none⟩=some (.slice av nv cv)∧w2.drew.cell? ⟨w.heap.size,1,none⟩=some (.slice ah nh ch):=⟨p1,c1⟩;have HD2:Hid (AC w w2.drew P F s (.slice av nv cv) (.slice aw n cw) (.slice af nf cf) (.slice ah nh ch) (.slice ab nb cb)):=hid (HA2.out.call (Below.refl _ _).drew);clear p1 c0 c1 c2;go_region_held3 (fun w'=>w'.cell? ⟨P,1,none⟩=some (.slice av nv cv)∧w'.cell? ⟨w.heap.size,1,none⟩=some (.slice ah nh ch)) (first | exact k0 | exact k1 | fail) (first
    | (go_at_call 46;((with_reducible refine (vA (.slice av nv cv) (.slice ah nh ch) s.hv h w2.drew HD2.out.log.ents.is (HXF.out _ HD2.out.bel).2.1 HLF.out.2.2 HLF.out.2.1 (HG.out.below HD2.out.bel)).mono ?_);rintro r w3 ⟨u,rfl,ho3,hb3⟩;rw [HJ.out] at ho3 ⊢;obtain ⟨au,cu,rfl,_⟩:=ho3.is.form;obtain ⟨nj,hnj⟩:∃ nj,nj=j.length:=⟨_,rfl⟩;dsimp only at ho3 ⊢;rw [←hnj] at ho3 ⊢;clear hnj;have HO3:Hid (ag w3 (w.heap.size+1) (.slice au nj cu) j):=hid (ho3.mono HD2.out.sz);have HA3:=hid (HD2.out.call hb3);have k1:w3.cell? ⟨P,1,none⟩=some (.slice av nv cv)∧w3.cell? ⟨w.heap.size,1,none⟩=some (.slice ah nh ch):=⟨HA3.out.log.c1,HA3.out.cb.2.1⟩;clear hb3 ho3))
    | fail)
   clear k0 k1 HD2 HA2;by_cases h4:e4=0
   ·subst h4;have HE0:Hid (accE s f h b=togE s.ws b):=hid (wO HBF2.out HCC.out (by rw [HJ.out]));rw [gW];obtain ⟨_,_,c2⟩:=HA3.out.cb;have HSZ:Hid (∀ x∈b,x.key.size≤140737488351232∧x.value.size≤140737488351232):=hid (fun x hx=>by have:=HX.out.2.2.2.2.2.2 x hx;exact ⟨this.2.2.1,this.2.2.2⟩);go_wp2_with fail
    refine (EU P F s (.slice ab nb cb) b w3 ⟨_,_,HA3.out.log⟩ HOK.out (HX.out.2.2.1.below HA3.out.bel) (sR.1 HRB.out.2.2).2 HRB.out.2.1 HSZ.out).mono ?_;rintro r w4 (⟨ht,u,rfl,ho4,hz4,hb4⟩ | ⟨ht,err,rfl,hat4,hb4⟩)
    ·obtain ⟨m,hm⟩:∃ m,m=(accW s.ws b).length:=⟨_,rfl⟩;have hmf:m=n+(bd s.ws b).length:=by rw [hm,mw,HN.out]
     obtain ⟨fr,hfr⟩:∃ fr,fr=(bd s.ws b).length:=⟨_,rfl⟩;rw [←hfr] at hmf;have HFR:=hid hfr;obtain ⟨a4,c4,rfl,_⟩:=ho4.is.form;rw [←hm] at ho4 hz4 ⊢;have HO4:Hid (ak w4 (w.heap.size+1) (.slice a4 m c4) (accW s.ws b)):=hid (ho4.mono HA3.out.sz);have HZ4:=hid hz4;have HA4:=hid (HA3.out.call hb4);have HO3B:Hid (ag w4 (w.heap.size+1) (.slice au nj cu) j):=hid (HO3.out.below hb4);have HE:Hid (accE s f h b=(0,-1)):=hid (by rw [HE0.out,ht]);have hmle:m≤400:=by
      have h1:(bd s.ws b).length≤b.length:=List.length_filter_le _ _;have h2:=HRB.out.2.1;omega
     have hmn:(m:Int)-(n:Int)=(fr:Int):=by omega
     have hmn2:IntKind.i64.wrap ((m:Int)-(n:Int))=(fr:Int):=by rw [hmn];exact IntWalk.i64_in _ (by omega)
     have p1:=HA4.out.log.c1;have p2:=HA4.out.log.c2;have y1:=Lib.frozen_of_heap HA4.out.log.row 1;have y2:=Lib.frozen_of_heap HA4.out.log.row 2;clear ht ho4 hz4 hb4 hm hfr hmf c2;go_wp2;go_ret2;refine .inr ⟨by rw [HE.out],by rw [←HFR.out];rfl,(fun k=>(F k∨w.heap.size+1≤k)∧k<w4.heap.size),?_,?_,?_⟩
     ·intro k hk;rcases hk.1 with hk | hk
      ·exact .inl hk
      ·exact .inr (by omega)
     ·have hS:accS s h b=⟨s.rep,j,accW s.ws b⟩:=by unfold accS;rw [HJ.out];rfl
      rw [hS];exact ⟨_,_,HA4.out.log.put (s':=⟨s.rep,j,accW s.ws b⟩) HO3B.out HO4.out rfl HZ4.out⟩
     ·exact ((But.of_below HA4.out.bel).setCell (.inl HA4.out.log.inP) _).setCell (.inl HA4.out.log.inP) _
    ·have HE:Hid (accE s f h b=togE s.ws b):=HE0;obtain ⟨t,v,rfl⟩:=hat4.iface ht;have HT:=hid ht;have HAT4:=hid hat4;have HB4:Hid (Below w.heap.size w w4):=hid (HA3.out.bel.trans (hb4.mono HA3.out.bel.size));clear ht hat4 hb4 c2;go_wp2;go_ret2;exact .inl (by rw [HE.out];exact ⟨HT.out,_,_,rfl,HAT4.out,HB4.out⟩)
   ·have HE:Hid (accE s f h b=(e4,-1)):=hid (by rw [wL HBF2.out HCC.out (by rw [HJ.out];exact h4),HJ.out]);have H4:=hid h4;rw [eZ h4];clear h4;go_wp2;go_ret2;exact .inl (by rw [HE.out];exact ⟨H4.out,_,_,rfl,.inr ⟨H4.out,rfl,rfl⟩,HA3.out.bel⟩)
 ·have HE:Hid (accE s f h b=(eb,pb)):=hid (by rw [wK (by rw [HBF.out];exact he),HBF.out]);obtain ⟨t,v,rfl⟩:=HAT.out.iface he;have H4:=hid he;clear he;go_wp2;go_ret2;exact .inl (by rw [HE.out];exact ⟨H4.out,_,_,rfl,HAT.out,HA1.out.bel⟩)
end
section
open Go.RowKit
theorem sk (P:Nat) (F:Nat→Prop) (s:LogS) (v:Value) (f:List Ent) (w:World) (h:aQ w P F s) (ok:aM s) (hf:ae w v f) (hfl:f.length≤9223372036854775807) :
 Calls Tryz.prog 44 #[.pointer (some ⟨P,0,none⟩),v] w fun e w'=>∃ u,e=.returned u∧ak w' w.heap.size u (aO s f)∧Below w.heap.size w w':=by
 obtain ⟨vh,vw,h⟩:=h;obtain ⟨aw,cw,rfl,hws⟩:=h.ows.is.form;have HWS:=hid hws;obtain ⟨af,cf,rfl,_⟩:=hf.form;have HF:=hid hf;have HFL:=hid hfl;obtain ⟨nf,hnf⟩:∃ n,n=f.length:=⟨_,rfl⟩;rw [←hnf] at HF ⊢;obtain ⟨n,hn⟩:∃ n,n=s.ws.length:=⟨_,rfl⟩;rw [←hn] at h;have hn3:n≤300:=by rw [hn];exact ok.len
 have HN:=hid hn;have p2:=h.c2;have HSW:Hid (aO s f=s.ws.filter (fun x=>decide (ofF f x.rep<x.time))):=hid rfl;rw [HSW.out];obtain ⟨ws,hw⟩:∃ ws,ws=s.ws:=⟨_,rfl⟩;rw [←hw] at HWS HN ⊢;clear h ok hws hf hfl hnf hn hw HSW;go_enter Tryz.func44,Tryz.ntmps44
 go_wp2
 go_loopw [5,13] (fun lv i wr=>∃ k:Nat,k≤n∧i=.int .i64 k∧ak wr w.heap.size lv ((ws.take k).filter (fun x=>decide (ofF f x.rep<x.time)))∧Below w.heap.size w wr) (fun _ i _=>n-(intOf i).toNat)
 case atStart=>exact ⟨0,by omega,rfl,by rw [List.take_zero];exact eK _ _,Below.refl _ _⟩
 case round =>
  obtain ⟨k,hk,rfl,ho,hb⟩:=hrel;have HO:=hid ho;have HB:=hid hb;have HSR:=hid hb.size;clear ho hb;by_cases hlt:k<n
  ·have b1:decide ((k:Int)<(n:Int))=true:=by simpa using hlt
   obtain ⟨x, hx⟩ : ∃ x, ws[k]? = some x := ⟨ws[k]'(by rw [← HN.out]; exact hlt), List.getElem?_eq_getElem _⟩;obtain ⟨b,off,rfl,hbl,c0,c1,c2,c3,c4,c5⟩:=HWS.out k x hx;obtain ⟨L,hL⟩:∃ L,L=(ws.take k).filter (fun x=>decide (ofF f x.rep<x.time)):=⟨_,rfl⟩;have HTS:Hid ((ws.take (k+1)).filter (fun x=>decide (ofF f x.rep<x.time))=L++[x].filter (fun x=>decide (ofF f x.rep<x.time))):=hid (by rw [List.take_add_one,hx,hL];show (ws.take k++[x]).filter _=_;rw [List.filter_append]);have HKL:Hid (L.length≤300):=hid (by rw [hL];have h1:=List.length_filter_le (fun x:Wr=>decide (ofF f x.rep<x.time)) (ws.take k);rw [List.length_take] at h1;omega);rw [←hL] at HO;obtain ⟨T,Re,K,key,val,N⟩:=x;simp only at c0 c1 c2 c3 c4 c5
   have d:∀ j u,w.cell? ⟨b,j,none⟩=some u→wr.cell? ⟨b,j,none⟩=some u:=fun j u hu=>(HB.out.cell (p:=⟨b,j,none⟩) hbl).trans hu
   have e0:=d _ _ c0;have e1:=d _ _ c1;have e2:=d _ _ c2;have e3:=d _ _ c3;have e4:=d _ _ c4;have e5:=d _ _ c5;obtain ⟨y,hy⟩:∃ y,ofF f Re=y:=⟨_,rfl⟩;have HY:=hid hy;clear hx c0 c1 c2 c3 c4 c5 d hbl hL hy;by_cases hgt:y<T
   ·have b2:decide (y<T)=true:=by simpa using hgt
    have HTY:Hid ((ws.take (k+1)).filter (fun x=>decide (ofF f x.rep<x.time))=L++[⟨T,Re,K,key,val,N⟩]):=hid (by rw [HTS.out];simp [HY.out,hgt]);clear hgt;go_wp2;obtain ⟨wB,hwB⟩:∃ wB,wB=wr.alloc (.cells #[.int .i64 T,.int .i64 Re,.int .i64 K,.string key,.string val,.int .i64 N] 38):=⟨_,rfl⟩;have HROW:Hid (wB.heap[wr.heap.size]? = some (.cells #[.int .i64 T,.int .i64 Re,.int .i64 K,.string key,.string val,.int .i64 N] 38 (0,0))):=hid (by rw [hwB];exact heap_alloc_new _ _);have HBB:Hid (Below wr.heap.size wr wB):=hid (by rw [hwB];exact (Below.refl _ _).alloc (Nat.le_refl _) _);have HSB:Hid (wr.heap.size<wB.heap.size):=hid (by rw [hwB];simp);rw [←hwB];clear hwB e0 e1 e2 e3 e4 e5;have k0:wB.drew.cell? ⟨wr.heap.size,0,none⟩=some (.int .i64 T)∧wB.drew.cell? ⟨wr.heap.size,1,none⟩=some (.int .i64 Re):=⟨cell_of_row _ _ 0 _ _ _ HROW.out,cell_of_row _ _ 1 _ _ _ HROW.out⟩;have HFD:Hid (ae wB.drew (.slice af nf cf) f):=hid (HF.out.below ((HB.out.trans (HBB.out.mono HSR.out)).drew));go_region_held3 (fun w'=>w'.cell? ⟨wr.heap.size,0,none⟩=some (.int .i64 T)∧w'.cell? ⟨wr.heap.size,1,none⟩=some (.int .i64 Re)) (first | exact k0 | exact k1 | fail) (first
     | (go_at_call 19;((with_reducible refine (m9 (.slice af nf cf) f Re y wB.drew HFD.out HFL.out HY.out).mono ?_);rintro r w2 ⟨rfl,hb2⟩;have HB2:Hid (Below wr.heap.size wr w2):=hid (HBB.out.drew.trans (hb2.mono HBB.out.size));have hrow2:w2.heap[wr.heap.size]? = some (.cells #[.int .i64 T,.int .i64 Re,.int .i64 K,.string key,.string val,.int .i64 N] 38 (0,0)):=(hb2.block _ HSB.out).trans HROW.out;have k1:w2.cell? ⟨wr.heap.size,0,none⟩=some (.int .i64 T)∧w2.cell? ⟨wr.heap.size,1,none⟩=some (.int .i64 Re):=⟨cell_of_row _ _ 0 _ _ _ hrow2,cell_of_row _ _ 1 _ _ _ hrow2⟩;have HR2:=hid hrow2;clear hb2 hrow2))
     | fail)
    clear k0 k1 HFD;have g0:w2.cell? ⟨wr.heap.size,0,none⟩=some (.int .i64 T):=cell_of_row _ _ 0 _ _ _ HR2.out;have g1:w2.cell? ⟨wr.heap.size,1,none⟩=some (.int .i64 Re):=cell_of_row _ _ 1 _ _ _ HR2.out;have g2:w2.cell? ⟨wr.heap.size,2,none⟩=some (.int .i64 K):=cell_of_row _ _ 2 _ _ _ HR2.out;have g3:w2.cell? ⟨wr.heap.size,3,none⟩=some (.string key):=cell_of_row _ _ 3 _ _ _ HR2.out;have g4:w2.cell? ⟨wr.heap.size,4,none⟩=some (.string val):=cell_of_row _ _ 4 _ _ _ HR2.out;have g5:w2.cell? ⟨wr.heap.size,5,none⟩=some (.int .i64 N):=cell_of_row _ _ 5 _ _ _ HR2.out;go_wp2_with (at_builtin;refine jE rfl _ _ rfl w.heap.size _ L rfl ((HO.out.below HB2.out).alloc _) w2.heap.size 1 rfl ⟨T,Re,K,key,val,N⟩ (heap_alloc_new _ _) (by have:=HKL.out;omega) (by have:=HSR.out;have:=HB2.out.size;simp;omega) ?_;intro g cap w4 ho4 hg4;have HO4:=hid ho4;have HG4:=hid hg4;clear ho4 hg4)
    go_roundw
    ·refine ⟨k+1,by omega,by simp,?_,?_⟩
     ·rw [HTY.out];exact HO4.out
     ·exact ((HB.out.trans (HB2.out.mono HSR.out)).alloc (Nat.le_trans HSR.out HB2.out.size) _).grown HG4.out (by have:=HSR.out;have:=HB2.out.size;simp;omega) (fun g hg=>(HO.out.lt g hg).1)
    ·simp [intOf];omega
   ·have b2:decide (y<T)=false:=by simpa using hgt
    have HTY:Hid ((ws.take (k+1)).filter (fun x=>decide (ofF f x.rep<x.time))=L):=hid (by rw [HTS.out];simp [HY.out,hgt]);clear hgt;go_wp2;obtain ⟨wB,hwB⟩:∃ wB,wB=wr.alloc (.cells #[.int .i64 T,.int .i64 Re,.int .i64 K,.string key,.string val,.int .i64 N] 38):=⟨_,rfl⟩;have HROW:Hid (wB.heap[wr.heap.size]? = some (.cells #[.int .i64 T,.int .i64 Re,.int .i64 K,.string key,.string val,.int .i64 N] 38 (0,0))):=hid (by rw [hwB];exact heap_alloc_new _ _);have HBB:Hid (Below wr.heap.size wr wB):=hid (by rw [hwB];exact (Below.refl _ _).alloc (Nat.le_refl _) _);have HSB:Hid (wr.heap.size<wB.heap.size):=hid (by rw [hwB];simp);rw [←hwB];clear hwB e0 e1 e2 e3 e4 e5;have k0:wB.drew.cell? ⟨wr.heap.size,0,none⟩=some (.int .i64 T)∧wB.drew.cell? ⟨wr.heap.size,1,none⟩=some (.int .i64 Re):=⟨cell_of_row _ _ 0 _ _ _ HROW.out,cell_of_row _ _ 1 _ _ _ HROW.out⟩;have HFD:Hid (ae wB.drew (.slice af nf cf) f):=hid (HF.out.below ((HB.out.trans (HBB.out.mono HSR.out)).drew));go_region_held3 (fun w'=>w'.cell? ⟨wr.heap.size,0,none⟩=some (.int .i64 T)∧w'.cell? ⟨wr.heap.size,1,none⟩=some (.int .i64 Re)) (first | exact k0 | exact k1 | fail) (first
     | (go_at_call 19;((with_reducible refine (m9 (.slice af nf cf) f Re y wB.drew HFD.out HFL.out HY.out).mono ?_);rintro r w2 ⟨rfl,hb2⟩;have HB2:Hid (Below wr.heap.size wr w2):=hid (HBB.out.drew.trans (hb2.mono HBB.out.size));have hrow2:w2.heap[wr.heap.size]? = some (.cells #[.int .i64 T,.int .i64 Re,.int .i64 K,.string key,.string val,.int .i64 N] 38 (0,0)):=(hb2.block _ HSB.out).trans HROW.out;have k1:w2.cell? ⟨wr.heap.size,0,none⟩=some (.int .i64 T)∧w2.cell? ⟨wr.heap.size,1,none⟩=some (.int .i64 Re):=⟨cell_of_row _ _ 0 _ _ _ hrow2,cell_of_row _ _ 1 _ _ _ hrow2⟩;have HR2:=hid hrow2;clear hb2 hrow2))
     | fail)
    clear k0 k1 HFD;have g0:w2.cell? ⟨wr.heap.size,0,none⟩=some (.int .i64 T):=cell_of_row _ _ 0 _ _ _ HR2.out;have g1:w2.cell? ⟨wr.heap.size,1,none⟩=some (.int .i64 Re):=cell_of_row _ _ 1 _ _ _ HR2.out;have g2:w2.cell? ⟨wr.heap.size,2,none⟩=some (.int .i64 K):=cell_of_row _ _ 2 _ _ _ HR2.out;have g3:w2.cell? ⟨wr.heap.size,3,none⟩=some (.string key):=cell_of_row _ _ 3 _ _ _ HR2.out;have g4:w2.cell? ⟨wr.heap.size,4,none⟩=some (.string val):=cell_of_row _ _ 4 _ _ _ HR2.out;have g5:w2.cell? ⟨wr.heap.size,5,none⟩=some (.int .i64 N):=cell_of_row _ _ 5 _ _ _ HR2.out;go_wp2;go_roundw
    ·exact ⟨k+1,by omega,by simp,by rw [HTY.out];exact HO.out.below HB2.out,HB.out.trans (HB2.out.mono HSR.out)⟩
    ·simp [intOf];omega
  ·have b1:decide ((k:Int)<(n:Int))=false:=by simp;omega
   obtain rfl:k=n:=by omega
   have HT:Hid (ak wr w.heap.size u5 (ws.filter (fun x=>decide (ofF f x.rep<x.time)))):=hid (by have:=HO.out;rwa [List.take_of_length_le (by rw [HN.out];exact Nat.le_refl _)] at this);go_wp2;go_ret;exact ⟨_,rfl,HT.out,HB.out⟩
theorem Bi (v vl:Value) (hv f:List Ent) (l:List Wr) (w:World) (hf:ae w v f) (hl:az w vl l) (hll:l.length≤100) (hh:aB hv) (hr:aB f) (hc:∀ r,ofF f r≤ofF hv r) (hin:InV hv l) (hg:errT w) :
 Calls Tryz.prog 45 #[v,vl] w fun e w'=>∃ u,e=.returned (.tuple #[u,.nilIface])∧ag w' w.heap.size u (bz f l)∧Below w.heap.size w w':=by
 obtain ⟨a,c,rfl,hws⟩:=hl.form;have HWS:=hid hws;have HF:=hid hf;have HFL:Hid (f.length≤1000000):=hid (by have:=hr.1;omega);obtain ⟨n,hn⟩:∃ n,n=l.length:=⟨_,rfl⟩;rw [←hn] at hll ⊢;have HN:=hid hn;have HRE:Hid (∀ k x,l[k]? = some x→aR (bz f (l.take k)) [⟨x.rep,x.time⟩]=(0,bz f (l.take (k+1)))):=hid (fun k x hx=>by
  have e:l.take (k+1)=l.take k++[x]:=by rw [List.take_add_one,hx];rfl
  rw [e];exact Df hh hr hc (by rw [←e];exact fun y hy=>hin y (List.mem_of_mem_take hy)))
 have HR0:Hid (bz f (l.take 0)=f):=hid (by rw [List.take_zero];exact De hr);have HLEN:Hid (∀ k,(bz f (l.take k)).length≤16):=hid (fun k=>(om hh hr hc (l:=l.take k) (fun y hy=>hin y (List.mem_of_mem_take hy))).2.2.1);have HG:=hid hg;clear hws hl hf hn hh hr hc hin hg;go_enter Tryz.func45,Tryz.ntmps45
 go_wp2_with (go_at_call 40;refine (ki v f _ HF.out HFL.out).mono ?_;rintro r w1 ⟨u,rfl,ho1,hb1⟩;have HO1:Hid (ag w1 w.heap.size u (bz f (l.take 0))):=hid (by rw [HR0.out];exact ho1);have HB1:=hid hb1;clear ho1 hb1)
 go_loopw [6,15] (fun lv i wr=>∃ k:Nat,k≤n∧i=.int .i64 k∧ag wr w.heap.size lv (bz f (l.take k))∧Below w.heap.size w wr) (fun _ i _=>n-(intOf i).toNat)
 case atStart=>exact ⟨0,by omega,rfl,HO1.out,HB1.out⟩
 case round =>
  obtain ⟨k,hk,rfl,ho,hb⟩:=hrel;have HO:=hid ho;have HB:=hid hb;have HSR:=hid hb.size;clear ho hb HO1 HB1;by_cases hlt:k<n
  ·have b1:decide ((k:Int)<(n:Int))=true:=by simpa using hlt
   obtain ⟨x, hx⟩ : ∃ x, l[k]? = some x := ⟨l[k]'(by rw [← HN.out]; exact hlt), List.getElem?_eq_getElem _⟩;obtain ⟨b,off,rfl,hbl,c0,c1,c2,c3,c4,c5⟩:=HWS.out k x hx;have HST:=hid (HRE.out k x hx);obtain ⟨T,Re,K,key,val,N⟩:=x;simp only at c0 c1 c2 c3 c4 c5 HST
   have d:∀ j u,w.cell? ⟨b,j,none⟩=some u→wr.cell? ⟨b,j,none⟩=some u:=fun j u hu=>(HB.out.cell (p:=⟨b,j,none⟩) hbl).trans hu
   have e0:=d _ _ c0;have e1:=d _ _ c1;have e2:=d _ _ c2;have e3:=d _ _ c3;have e4:=d _ _ c4;have e5:=d _ _ c5;obtain ⟨av,cv,rfl,_⟩:=HO.out.is.form;obtain ⟨m,hm⟩:∃ m,m=(bz f (l.take k)).length:=⟨_,rfl⟩;rw [←hm] at HO ⊢;clear hx c0 c1 c2 c3 c4 c5 d hbl hm;go_wp2_with (go_at_call 52;refine (sg (.slice av m cv) (bz f (l.take k)) T Re _ (HO.out.is.alloc _) (by have:=HLEN.out k;omega) ((HG.out.below HB.out).alloc _) 0 _ HST.out).mono ?_;rintro r w3 ⟨u,rfl,ho3,hb3⟩;rw [gW];have HO3:Hid (ag w3 w.heap.size u (bz f (l.take (k+1)))):=hid (ag.mono ho3 (by have:=HSR.out;simp;omega));have HB3:Hid (Below w.heap.size w w3):=hid ((HB.out.alloc HSR.out _).trans (hb3.mono (by have:=HSR.out;simp;omega)));clear ho3 hb3)
   go_roundw
   ·exact ⟨k+1,by omega,by simp,HO3.out,HB3.out⟩
   ·simp [intOf];omega
  ·have b1:decide ((k:Int)<(n:Int))=false:=by simp;omega
   obtain rfl:k=n:=by omega
   have HT:Hid (ag wr w.heap.size u6 (bz f l)):=hid (by have:=HO.out;rwa [List.take_of_length_le (by rw [HN.out];exact Nat.le_refl _)] at this);go_wp2;go_ret2;exact ⟨_,rfl,HT.out,HB.out⟩
end
section
open Go.RowKit
def Rd (w:World) (R:Nat) (s:ByteArray) (a:Nat):Prop:=w.heap[R]? = some (.cells #[.string s,.int .i64 (a:Int)] 249 (0,0))
theorem Rd.cells {w:World} {R:Nat} {s:ByteArray} {a:Nat} (h:Rd w R s a):w.cell? ⟨R,0,none⟩=some (.string s)∧w.cell? ⟨R,1,none⟩=some (.int .i64 (a:Int))∧w.frozen? ⟨R,1,none⟩=false∧R<w.heap.size:=by
 refine ⟨cell_of_row _ _ 0 _ _ (0,0) h,cell_of_row _ _ 1 _ _ (0,0) h,Lib.frozen_of_heap h 1,?_⟩;exact (Array.getElem?_eq_some_iff.1 h).1
theorem Rd.below {w w':World} {R:Nat} {s:ByteArray} {a:Nat} (h:Rd w R s a) (hb:Below w.heap.size w w'):Rd w' R s a:=(hb.block R h.cells.2.2.2).trans h
theorem Rd.moved {w:World} {R:Nat} {s:ByteArray} {a b:Nat} (h:Rd w R s a):Rd (w.setCell ⟨R,1,none⟩ (.int .i64 (b:Int))) R s b:=by
 unfold Rd at h ⊢;simp [World.setCell,Array.getElem?_modify,h]
theorem grownR {w w1:World} {R:Nat} (h:Below w.heap.size w w1) (v:Value):w.grownBy (w1.setCell ⟨R,1,none⟩ v) (some R) :=
 ⟨h.os,h.tape,h.output,by simpa using h.size,fun k hk hne=>by
  have hk2:R≠k:=fun e=>hne (by rw [e])
  simp only [World.setCell,Array.getElem?_modify,if_neg hk2]
  exact h.block k hk⟩
theorem fC {w w1:World} {R:Nat} (h:Below w.heap.size w w1):w.grownBy w1 (some R):=⟨h.os,h.tape,h.output,h.size,fun k hk _=>h.block k hk⟩
def eh (r:Nat×Int) (e:Ending) (w':World):Prop:=∃ t v,e=.panicked [{ v:=.iface t v,recovered:=false }]∧r.1≠0∧ax w' (.iface t v) r
theorem ft (R:Nat) (w:World):Calls Tryz.prog 191 #[.pointer (some ⟨R,0,none⟩),.nilIface] w fun e w'=>e=.returned (.tuple #[])∧w=w':=by
 go_enter Tryz.func191,Tryz.ntmps191
 go_wp2
 go_end0
 exact ⟨rfl,rfl⟩
theorem fs (R:Nat) (s:ByteArray) (a:Nat) (v:Value) (x:Nat) (w:World) (h:Rd w R s a) (hg:errT w) (hv:isErr w v (x:Int)) (hx:x≠0) :
 Calls Tryz.prog 191 #[.pointer (some ⟨R,0,none⟩),v] w fun e w'=>eh (x,(a:Int)) e w'∧Below w.heap.size w w':=by
 have H:=hid h;have HG:=hid hg;have HV:=hid hv;obtain ⟨t,u,rfl⟩:=hv.iface;obtain ⟨_,c1,_,_⟩:=h.cells;have HB0:Hid (Below w.heap.size w w.drew):=hid (Below.refl _ _).drew;clear h hg hv;go_enter Tryz.func191,Tryz.ntmps191
 go_wp2;refine wp_region_held_drew (S:=fun w'=>w'.cell? ⟨R,1,none⟩=some (.int .i64 (a:Int))) (by kernel_rfl) c1 (fun hHeld=>?_);refine tkO 0 ?_
 refine tkO 2 ?_
 refine tkO 3 ?_
 refine tkO 4 ?_
 refine tkO 5 ?_
 refine wpAnyH_ready (rs:=[1]) (by kernel_rfl) (by simp) ?_;refine AllReadyH.cons rfl (fun K hK=>?_) AllReadyH.nil
 go_simp
 refine (dM _ (x:Int) _ (HG.out.below HB0.out) (HV.out.below HB0.out)).mono ?_;rintro r w1 ⟨rfl,hb1⟩;have HB1:Hid (Below w.heap.size w w1):=hid (cd hb1);have k1:=(H.out.below HB1.out).cells.2.1;have k2:=((H.out.below HB1.out).below ((Below.refl _ _).alloc (Nat.le_refl _) (.cells #[.int .i64 (x:Int),.int .i64 (a:Int)] 86))).cells.2.1;clear hb1;refine hK.out _ _ k1 (fun hHeld1=>sp ?_);clear hK hHeld
 refine tkO 6 ?_
 refine wpAnyH_ready (rs:=[7]) (by kernel_rfl) (by simp) ?_;refine AllReadyH.cons rfl (fun K hK=>?_) AllReadyH.nil
 go_simp
 refine hK.out _ _ k2 (fun hHeld7=>sp ?_);clear hK hHeld1
 refine tkO 8 ?_
 refine wpAnyH_ready (rs:=[9]) (by kernel_rfl) (by simp) ?_;refine AllReadyH.cons rfl (fun K hK=>?_) AllReadyH.nil
 go_simp
 refine (jY _ _ _).mono ?_;rintro r w2 ⟨rfl,rfl⟩;refine And.intro rfl ⟨⟨_,_,rfl,hx,.inl (atIs.new w1 x a hx)⟩,HB1.out.alloc HB1.out.size _⟩
end
section
open Go.RowKit
theorem ql {f h:List Ent} {l:List Wr} {s:List UInt8} {pl:Int} (hb:aJ f h l=(s,0,pl)):s.length≤20000:=by
 by_cases hr:(batF f h l).1=0
 ·by_cases hbg:20000<(aK f h l).length
  ·rw [jW hr hbg] at hb;injection hb with _ hb;injection hb with hb _;cases hb
  ·rw [gI hr hbg] at hb;injection hb with hb _;rw [←hb];omega
 ·rw [mH hr] at hb;injection hb with _ hb;exact absurd (by rw [hb]) hr
theorem zz (S P T:ByteArray) (hP:db S.data.toList=P.data.toList) (hT:frmL S.data.toList=T.data.toList):ie ((⟨#[80,84]⟩:ByteArray)++⟨#[3]⟩++P)=T:=by
 apply cX
 rw [tD,←hT];unfold frmL;rw [hP];simp
theorem ni (vf vh vw:Value) (f h:List Ent) (l:List Wr) (T:ByteArray) (e:Nat) (pl:Int) (w:World) (hx:aC w vf vh vw f h l) (hg:errT w) (hb:frmF f h l=(T.data.toList,e,pl)) :
 Calls Tryz.prog 61 #[.agg #[vf,vh,vw]] w fun r w'=>∃ err,r=.returned (.tuple #[.string T,err])∧ax w' err (e,pl)∧Below w.heap.size w w':=by
 have HX:=hid hx;have HG:=hid hg;obtain ⟨hf,hh,hv,_⟩:=hx;obtain ⟨af,cf,rfl,_⟩:=hf.form;obtain ⟨ah,ch,rfl,_⟩:=hh.form;obtain ⟨aw,cw,rfl,_⟩:=hv.form;obtain ⟨S,x,q,hbf⟩:∃ (S:ByteArray) (x:Nat) (q:Int),aJ f h l=(S.data.toList,x,q):=⟨⟨(aJ f h l).1.toArray⟩,(aJ f h l).2.1,(aJ f h l).2.2,by simp⟩;have HBF:=hid hbf;obtain ⟨d0,d1,d2⟩:=eV w (.slice af f.length cf) (.slice ah h.length ch) (.slice aw l.length cw) 47;have HW:Hid (Below w.heap.size w (w.alloc (.cells #[.slice af f.length cf,.slice ah h.length ch,.slice aw l.length cw] 47))):=hid ((Below.refl _ _).alloc (Nat.le_refl _) _);generalize f.length=nf at HX HW d0 d1 d2 ⊢;generalize h.length=nh at HX HW d0 d1 d2 ⊢;generalize l.length=n at HX HW d0 d1 d2 ⊢;clear hf hh hv hg;by_cases hx0:x=0
 ·subst hx0;rw [rk hbf] at hb;injection hb with hT hb
  injection hb with h1 h2
  subst h1 h2;have hsz:S.size≤20000:=by rw [aj];exact ql hbf
  obtain ⟨P,hP⟩:∃ P:ByteArray,db S.data.toList=P.data.toList:=⟨⟨(db S.data.toList).toArray⟩,by simp⟩;have hpz:P.size≤20004:=by
   rw [aj,←hP,oc,←aj,ol hsz];split <;> split <;> omega
  obtain ⟨B,hB⟩:∃ B:ByteArray,B=⟨#[3]⟩:=⟨_,rfl⟩;obtain ⟨A,hA⟩:∃ A:ByteArray,A=⟨#[80,84]⟩:=⟨_,rfl⟩;have hsl:ie (A++B++P)=T:=by rw [hA,hB];exact zz S P T hP hT
  have hAz:A.size=2:=by rw [hA];rfl
  have hBz:B.size=1:=by rw [hB];rfl
  have HSL:=hid hsl;have HPK:=hid (fun w'=>CO S P w' hsz hP);have HBB:=hid hB;have ha1:¬ (9223372036854775807<A.size+B.size):=by omega
  have ha2:¬ (9223372036854775807<(A++B).size+P.size):=by rw [ByteArray.size_append];omega
  have ha3:¬ (9223372036854775807<A.size+B.size+P.size):=by omega
  have HSZ:Hid ((A++B++P).size≤140737488351232):=hid (by rw [ByteArray.size_append,ByteArray.size_append];omega);have hA2:(⟨#[80,84]⟩:ByteArray)=A:=hA.symm;clear hbf hT hP hB hsl hA;go_enter Tryz.func61,Tryz.ntmps61
  rw [hA2];go_wp2_with fail
  refine (jZ _ _ _ f h l _ (HX.out.below HW.out) (HG.out.below HW.out)).mono ?_;rintro r w1 ⟨err,rfl,hat,hb1⟩;rw [HBF.out] at hat ⊢;obtain rfl:=hat.nil rfl;rw [bW];have HB1:Hid (Below w.heap.size w w1):=HW.out.trans (hb1.mono HW.out.size);clear hb1 hat d0 d1 d2;go_wp2;have hcA:=cE 3 3 B rfl HBB.out (by omega) (w1.alloc (.cells #[.int .u8 3] 5)) w1.heap.size (heap_alloc_new w1 _);have hcD:=cE 3 3 B rfl HBB.out (by omega) (w1.alloc (.cells #[.int .u8 3] 5)).drew w1.heap.size (heap_alloc_new w1 _);have HBA:Hid (Below w1.heap.size w1 (w1.alloc (.cells #[.int .u8 3] 5))):=hid ((Below.refl _ _).alloc (Nat.le_refl _) _)
  go_region_with (first
   | (go_at_call 87;((with_reducible refine (HPK.out w1.drew).mono ?_);rintro r w2 ⟨rfl,hb2⟩;have HB2:Hid (Below w1.heap.size w1 w2):=hid (ec hb2);have HB3:Hid (Below w1.heap.size w1 (w2.alloc (.cells #[.int .u8 3] 5))):=hid (HB2.out.alloc HB2.out.size _);have hcB:=cE 3 3 B rfl HBB.out (by omega) (w2.alloc (.cells #[.int .u8 3] 5)) w2.heap.size (heap_alloc_new w2 _);clear hb2))
   | (go_at_call 87;((with_reducible refine (HPK.out (w1.alloc (.cells #[.int .u8 3] 5)).drew).mono ?_);rintro r w2 ⟨rfl,hb2⟩;have HB3:Hid (Below w1.heap.size w1 w2):=hid (HBA.out.trans ((ec hb2).mono (by simp)));have hcB:=cE 3 3 B rfl HBB.out (by omega) w2 w1.heap.size (((ec hb2).block _ (by simp)).trans (heap_alloc_new w1 _));clear hb2))
   | (go_at_call 86;((refine (tE _ _ HSZ.out).mono ?_);rintro r w4 ⟨rfl,hb4⟩;have HB4:Hid (Below w1.heap.size w1 w4):=hid (HB3.out.trans (hb4.mono HB3.out.size));clear hb4)))
  all_goals
   clear hcA hcB hcD;go_wp2;go_ret2;exact ⟨.nilIface,by rw [←HSL.out];rfl,.inl (.inl ⟨rfl,rfl⟩),HB1.out.trans (HB4.out.mono HB1.out.size)⟩
 ·rw [rj hbf hx0] at hb;injection hb with hT hb
  injection hb with h1 h2
  subst h1 h2;have hTe:T=⟨#[]⟩:=by rw [←bW T,←hT]
  subst hTe;clear hbf hT;go_enter Tryz.func61,Tryz.ntmps61
  go_wp2_with fail
  refine (jZ _ _ _ f h l _ (HX.out.below HW.out) (HG.out.below HW.out)).mono ?_;rintro r w1 ⟨err,rfl,hat,hb1⟩;rw [HBF.out] at hat ⊢;have HAT:=hid hat;obtain ⟨t,u,rfl⟩:=hat.iface hx0;have HB1:Hid (Below w.heap.size w w1):=HW.out.trans (hb1.mono HW.out.size);clear hb1 hat d0 d1 d2;go_wp2;go_ret2;exact ⟨.iface t u,rfl,HAT.out,HB1.out⟩
end
