import Derived.Test.YtddbpnplbcjpgaaGreatDoorLp22
import Derived.Test.YtddbpnplbcjpgaaGreatDoorLp23
namespace Go.Proofs.YtddbpnplbcjpgaaGreatDoor
open Go.RowKit
structure RSC (w W:World) (R:Nat) (G:Nat→Prop) (s:LogS) (u:List Wr) (vh vl:Value):Prop where
 rowr:W.heap[w.heap.size]? = some (.cells #[.slice none 0 0,.slice none 0 0,.slice none 0 0] 30 (0,0))
 log:RefIn W R G s u vh vl
 bel:Below w.heap.size w W
 sz:w.heap.size + 1≤W.heap.size
section
variable {w W W':World} {R:Nat} {G:Nat→Prop} {s:LogS} {u:List Wr} {vh vl:Value}
theorem RSC.call (h:RSC w W R G s u vh vl) (hb:Below W.heap.size W W'):RSC w W' R G s u vh vl :=
 ⟨(hb.block _ (by have:=h.sz;omega)).trans h.rowr,h.log.below hb,h.bel.trans (hb.mono h.bel.size),Nat.le_trans h.sz hb.size⟩
theorem RSC.out (h:RSC w W R G s u vh vl) (a b c:Value):(((W.setCell ⟨w.heap.size,0,none⟩ a).setCell ⟨w.heap.size,1,none⟩ b).setCell ⟨w.heap.size,2,none⟩ c).heap[w.heap.size]? = some (.cells #[a,b,c] 30 (0,0))∧Below w.heap.size w (((W.setCell ⟨w.heap.size,0,none⟩ a).setCell ⟨w.heap.size,1,none⟩ b).setCell ⟨w.heap.size,2,none⟩ c) :=
 ⟨heap_setCell_same _ _ 2 _ _ c (heap_setCell_same _ _ 1 _ _ b (heap_setCell_same _ _ 0 _ _ a h.rowr)),((h.bel.setCell (Nat.le_refl _) _).setCell (Nat.le_refl _) _).setCell (Nat.le_refl _) _⟩
theorem RSC.cr (h:RSC w W R G s u vh vl):(W.cell? ⟨w.heap.size,0,none⟩=some (.slice none 0 0)∧W.cell? ⟨w.heap.size,1,none⟩=some (.slice none 0 0)∧W.cell? ⟨w.heap.size,2,none⟩=some (.slice none 0 0))∧W.frozen? ⟨w.heap.size,0,none⟩=false∧W.frozen? ⟨w.heap.size,1,none⟩=false∧W.frozen? ⟨w.heap.size,2,none⟩=false :=
 ⟨⟨cell_of_row _ _ 0 _ _ _ h.rowr,cell_of_row _ _ 1 _ _ _ h.rowr,cell_of_row _ _ 2 _ _ _ h.rowr⟩,Lib.frozen_of_heap h.rowr 0,Lib.frozen_of_heap h.rowr 1,Lib.frozen_of_heap h.rowr 2⟩
end
theorem isWrs_takeR {w:World} {a:Option Addr} {n k c:Nat} {l:List Wr} (h:IsWrs w (.slice a n c) l) (hn:n=l.length) (hk:k≤n) (h0:0 < k):IsWrs w (.slice a k c) (l.take k):=by
 rcases h with ⟨a',c',e,rfl⟩ | ⟨b,off,c',e,h1,h2,h3⟩
 · simp at hn;omega
 · obtain ⟨e1,e2,e3⟩:=Value.slice.inj e
   subst e1 e3
   have hl:(l.take k).length=k:=by rw [List.length_take];omega
   refine .inr ⟨b,off,c,by rw [hl],by omega,h2,fun j u hj=>h3 j u ?_⟩
   rw [wrsC_take,List.getElem?_take] at hj
   split at hj
   · exact hj
   · cases hj
theorem isWrs_but {w w2:World} {F:Nat→Prop} {v:Value} {l:List Wr} (h:IsWrs w v l) (hb:But F w w2) (hd:∀ k,v.ownBlock=some k→¬ F k):IsWrs w2 v l:=by
 rcases h with ⟨a,c,e,rfl⟩ | ⟨b,off,c,rfl,h1,h2,h3⟩
 · exact .inl ⟨a,c,e,rfl⟩
 · exact .inr ⟨b,off,c,rfl,h1,Nat.lt_of_lt_of_le h2 hb.size,fun j u hj=>(World.cell?_of_block (hb.block b h2 (hd b rfl))).trans (h3 j u hj)⟩
theorem topT_take {f:List Ent} {l:List Wr} {q:Nat} {x:Wr} (h:l[q]? = some x) (r:Int):topT f (l.take (q + 1)) r=if x.rep=r then max (topT f (l.take q) r) x.time else topT f (l.take q) r:=by
 unfold topT
 rw [List.take_add_one,h]
 show List.foldl _ _ (l.take q ++ [x])=_
 rw [List.foldl_append];rfl
def RSinIs (w:World) (s:LogS) (v:Value) (f:List Ent) (e:Ending) (w':World):Prop :=
 Below w.heap.size w w' ∧
 ((sinceE s f≠0∧e=.returned (.tuple #[.agg #[.slice none 0 0,.slice none 0 0,.slice none 0 0],.int .i64 (sinceE s f:Nat)])) ∨
  (sinceE s f=0∧∃ vh vw,e=.returned (.tuple #[.agg #[v,vh,vw],.int .i64 0])∧IsEnts w' vh (sinceH s f)∧IsWrs w' vw (sinceB s f)))
set_option maxRecDepth 100000 in
set_option maxHeartbeats 8000000 in
theorem rsince_any (R:Nat) (G:Nat→Prop) (s:LogS) (v:Value) (f:List Ent) (w:World) (h:RefAt w R G s) (ok:LogOk s) (hf:IsEnts w v f) (hfl:f.length≤9223372036854775807) :
   Calls Tryz.prog 12 #[.pointer (some ⟨R,0,none⟩),v] w (RSinIs w s v f):=by
 obtain ⟨u,vh,vl,h⟩:=h
 have HOK:=Lib.hid ok
 obtain ⟨af,cf,rfl,_⟩:=hf.form
 have HF:=Lib.hid hf
 have HFL:=Lib.hid hfl
 obtain ⟨nf,hnf⟩:∃ n,n=f.length:=⟨_,rfl⟩
 rw [←hnf] at HF ⊢
 obtain ⟨ef,pf,hrf⟩:∃ e pl,vrightF f=(e,pl):=⟨_,_,rfl⟩
 have HRF:=Lib.hid hrf
 obtain ⟨c,hc⟩:∃ c,covB s.hv f=c:=⟨_,rfl⟩
 have HC:=Lib.hid hc
 have HHL:Hid (s.hv.length≤9223372036854775807):=Lib.hid (by have:=ok.hv.1;omega)
 have HG:Hid (∀ k,G k→k < w.heap.size):=Lib.hid h.lt
 have HR:Hid (RSC w (w.alloc (.cells #[.slice none 0 0,.slice none 0 0,.slice none 0 0] 30)) R G s u vh vl):=Lib.hid
   ⟨heap_alloc_new _ _,h.below ((Below.refl _ _).alloc (Nat.le_refl _) _),(Below.refl _ _).alloc (Nat.le_refl _) _,by simp⟩
 obtain ⟨a,ch,rfl,_⟩:=h.ents.is.form
 obtain ⟨nh,hnh⟩:∃ n,n=s.hv.length:=⟨_,rfl⟩
 rw [←hnh] at HR
 have hpb:=h.plt
 have hne:¬ w.heap.size=R:=by omega
 have hne2:¬ R=w.heap.size:=by omega
 clear h ok hf hfl hnf hrf hc hnh
 go_enter Tryz.func12,Tryz.ntmps12
 go_wp2_with fail
 generalize w.alloc (.cells #[.slice none 0 0,.slice none 0 0,.slice none 0 0] 30)=W at HR ⊢
 refine (rvright_as _ f ef pf _ (HF.out.below HR.out.bel) HFL.out HRF.out).mono ?_
 rintro r w1 ⟨rfl,hb1⟩
 have HR1:=Lib.hid (HR.out.call hb1)
 clear HR hb1
 go_wp2_with fail
 have HR1b:=Lib.hid (HR1.out.call ((Below.refl _ _).alloc (Nat.le_refl _) (.cells #[.int .i64 (ef:Int),.int .i64 pf] 49)))
 refine (is_any ef pf _).mono ?_
 rintro r w2 ⟨rfl,hb2⟩
 have HR2:=Lib.hid (HR1b.out.call hb2)
 have k0:w2.cell? ⟨w1.heap.size,0,none⟩=some (.int .i64 (ef:Int)):=(hb2.cell (by simp)).trans (by simp)
 clear hb2 HR1b
 by_cases h1:ef=0
 · subst h1
   clear k0
   have p1:=HR2.out.log.c1
   go_wp2_with fail
   refine (rcov_as _ _ s.hv f c _ HR2.out.log.ents.is (HF.out.below HR2.out.bel) HHL.out HFL.out HC.out).mono ?_
   rintro r w3 ⟨rfl,hb3⟩
   have HR3:=Lib.hid (HR2.out.call hb3)
   clear hb3 p1 HR2 HR1
   cases c with
   | false =>
     have HE:Hid (sinceE s f=13):=Lib.hid (by unfold sinceE;rw [HRF.out,HC.out];rfl)
     obtain ⟨⟨r0,r1,r2⟩,g0,g1,g2⟩:=HR3.out.cr
     go_wp2
     obtain ⟨hR,hbR⟩:=HR3.out.out (.slice none 0 0) (.slice none 0 0) (.slice none 0 0)
     obtain ⟨V,hV⟩:∃ V,V=((w3.setCell ⟨w.heap.size,0,none⟩ (.slice none 0 0)).setCell ⟨w.heap.size,1,none⟩ (.slice none 0 0)).setCell ⟨w.heap.size,2,none⟩ (.slice none 0 0):=⟨_,rfl⟩
     rw [←hV] at hR hbR ⊢
     clear hV
     have q0:=cell_of_row _ _ 0 _ _ _ hR
     have q1:=cell_of_row _ _ 1 _ _ _ hR
     have q2:=cell_of_row _ _ 2 _ _ _ hR
     refine bodyPost_ret (v:=.tuple #[.agg #[.slice none 0 0,.slice none 0 0,.slice none 0 0],.int .i64 13]) (by simp [results,Tryz.results12,go_sem,q0,q1,q2]) rfl ?_
     exact ⟨hbR,.inl (by rw [HE.out];exact ⟨by first | exact h1 | simp,rfl⟩)⟩
   | true =>
     have HE:Hid (sinceE s f=0):=Lib.hid (by unfold sinceE;rw [HRF.out,HC.out];rfl)
     go_wp2_with fail
     refine (rwrites_any R G s u _ vl w3 HR3.out.log HOK.out).mono ?_
     rintro e w4 ⟨aw,cw,rfl,hw4,hb4⟩
     have HR4:=Lib.hid (HR3.out.call hb4)
     obtain ⟨n,hn⟩:∃ n,n=s.ws.length:=⟨_,rfl⟩
     rw [←hn] at hw4 ⊢
     have hn3:n≤300:=by rw [hn];exact HOK.out.len
     have HN:=Lib.hid hn
     obtain ⟨aw2,cw2,e9,hws⟩:=hw4.form
     obtain rfl:aw2=aw:=(Value.slice.inj e9).1.symm
     obtain rfl:cw2=cw:=(Value.slice.inj e9).2.2.symm
     have HWS:=Lib.hid hws
     clear hn hw4 hws e9 hb4 HR3
     have HS4:Hid (∀ k,G k→k < w4.heap.size):=Lib.hid HR4.out.log.lt
     go_wp2
     have HBW:Hid (∀ wr,Below w4.heap.size w4 wr→RSC w wr R G s u (.slice a nh ch) vl):=Lib.hid (fun wr hb=>HR4.out.call hb)
     have HW4:Hid (w.heap.size < w4.heap.size):=Lib.hid (by have:=HR4.out.sz;omega)
     go_loopw [7,34] (fun lv i wr=>∃ k:Nat,k≤n∧i=.int .i64 k∧ownsW wr w4.heap.size lv ((s.ws.take k).filter (fun x=>decide (ofF f x.rep < x.time)))∧Below w4.heap.size w4 wr) (fun _ i _=>n - (intOf i).toNat)
     case atStart=>exact ⟨0,by omega,rfl,by rw [List.take_zero];exact ownsW_nil _ _,Below.refl _ _⟩
     case round =>
       obtain ⟨k,hk,rfl,ho,hb⟩:=hrel
       have HO:=Lib.hid ho
       have HB:=Lib.hid hb
       have HSR:=Lib.hid hb.size
       clear ho hb
       by_cases hlt:k < n
       · have b1:decide ((k:Int) < (n:Int))=true:=by simpa using hlt
         obtain ⟨x, hx⟩ : ∃ x, s.ws[k]? = some x := ⟨s.ws[k]'(by rw [← HN.out]; exact hlt), List.getElem?_eq_getElem _⟩
         obtain ⟨b,off,rfl,hbl,c0,c1,c2,c3,c4,c5⟩:=HWS.out k x hx
         obtain ⟨L,hL⟩:∃ L,L=(s.ws.take k).filter (fun x=>decide (ofF f x.rep < x.time)):=⟨_,rfl⟩
         have HTS:Hid ((s.ws.take (k + 1)).filter (fun x=>decide (ofF f x.rep < x.time))=L ++ [x].filter (fun x=>decide (ofF f x.rep < x.time))):=Lib.hid (by rw [List.take_add_one,hx,hL];show (s.ws.take k ++ [x]).filter _=_;rw [List.filter_append])
         have HKL:Hid (L.length≤300):=Lib.hid (by rw [hL];have h1:=List.length_filter_le (fun x:Wr=>decide (ofF f x.rep < x.time)) (s.ws.take k);rw [List.length_take] at h1;omega)
         rw [←hL] at HO
         obtain ⟨T,Re,K,key,val,N⟩:=x
         simp only at c0 c1 c2 c3 c4 c5
         have d:∀ j u,w4.cell? ⟨b,j,none⟩=some u→wr.cell? ⟨b,j,none⟩=some u:=fun j u hu=>(HB.out.cell (p:=⟨b,j,none⟩) hbl).trans hu
         have e0:=d _ _ c0
         have e1:=d _ _ c1
         have e2:=d _ _ c2
         have e3:=d _ _ c3
         have e4:=d _ _ c4
         have e5:=d _ _ c5
         obtain ⟨y,hy⟩:∃ y,ofF f Re=y:=⟨_,rfl⟩
         have HY:=Lib.hid hy
         have HFR:Hid (IsEnts wr (.slice af nf cf) f):=Lib.hid (HF.out.below (HBW.out wr HB.out).bel)
         clear hx c0 c1 c2 c3 c4 c5 d hbl hL hy
         by_cases hgt:y < T
         · have b2:decide (y < T)=true:=by simpa using hgt
           have HTY:Hid ((s.ws.take (k + 1)).filter (fun x=>decide (ofF f x.rep < x.time))=L ++ [⟨T,Re,K,key,val,N⟩]):=Lib.hid (by rw [HTS.out];simp [HY.out,hgt])
           clear hgt
           go_wp2
           obtain ⟨wB,hwB⟩:∃ wB,wB=wr.alloc (.cells #[.int .i64 T,.int .i64 Re,.int .i64 K,.string key,.string val,.int .i64 N] 26):=⟨_,rfl⟩
           have HROW:Hid (wB.heap[wr.heap.size]? = some (.cells #[.int .i64 T,.int .i64 Re,.int .i64 K,.string key,.string val,.int .i64 N] 26 (0,0))):=Lib.hid (by rw [hwB];exact heap_alloc_new _ _)
           have HBB:Hid (Below wr.heap.size wr wB):=Lib.hid (by rw [hwB];exact (Below.refl _ _).alloc (Nat.le_refl _) _)
           have HSB:Hid (wr.heap.size < wB.heap.size):=Lib.hid (by rw [hwB];simp)
           rw [←hwB]
           clear hwB e0 e1 e2 e3 e4 e5
           have g0:wB.cell? ⟨wr.heap.size,0,none⟩=some (.int .i64 T):=cell_of_row _ _ 0 _ _ _ HROW.out
           have g1:wB.cell? ⟨wr.heap.size,1,none⟩=some (.int .i64 Re):=cell_of_row _ _ 1 _ _ _ HROW.out
           have g2:wB.cell? ⟨wr.heap.size,2,none⟩=some (.int .i64 K):=cell_of_row _ _ 2 _ _ _ HROW.out
           have g3:wB.cell? ⟨wr.heap.size,3,none⟩=some (.string key):=cell_of_row _ _ 3 _ _ _ HROW.out
           have g4:wB.cell? ⟨wr.heap.size,4,none⟩=some (.string val):=cell_of_row _ _ 4 _ _ _ HROW.out
           have g5:wB.cell? ⟨wr.heap.size,5,none⟩=some (.int .i64 N):=cell_of_row _ _ 5 _ _ _ HROW.out
           have HFD:Hid (IsEnts wB (.slice af nf cf) f):=Lib.hid (HFR.out.below HBB.out)
           go_quiet ((first | (go_at_call 40;with_reducible exact rofI_q (.slice af nf cf) f Re y _ _ HFD.out HFL.out HY.out)))
           have HBD:Hid (Below wr.heap.size wr (wB.drewN nq)):=Lib.hid (below_drewN HBB.out nq)
           go_wp2_with (at_builtin;refine wpList_append_wr rfl _ _ rfl w4.heap.size _ L rfl ((HO.out.below HBD.out).alloc _) _ 1 rfl ⟨T,Re,K,key,val,N⟩ (heap_alloc_new _ _) (by have:=HKL.out;omega) (by have:=HSR.out;have:=HBD.out.size;rw [World.size_alloc];omega) ?_;intro g cap w6 ho6 hg6;have HO6:=Lib.hid ho6;have HG6:=Lib.hid hg6;clear ho6 hg6)
           go_roundw
           · refine ⟨k + 1,by omega,by simp,?_,?_⟩
             · rw [HTY.out];exact HO6.out
             · exact ((HB.out.trans (HBD.out.mono HSR.out)).alloc (Nat.le_trans HSR.out HBD.out.size) _).grown HG6.out (by have:=HSR.out;have:=HBD.out.size;rw [World.size_alloc];omega) (fun g hg=>(HO.out.lt g hg).1)
           · simp [intOf];omega
         · have b2:decide (y < T)=false:=by simpa using hgt
           have HTY:Hid ((s.ws.take (k + 1)).filter (fun x=>decide (ofF f x.rep < x.time))=L):=Lib.hid (by rw [HTS.out];simp [HY.out,hgt])
           clear hgt
           go_wp2
           obtain ⟨wB,hwB⟩:∃ wB,wB=wr.alloc (.cells #[.int .i64 T,.int .i64 Re,.int .i64 K,.string key,.string val,.int .i64 N] 26):=⟨_,rfl⟩
           have HROW:Hid (wB.heap[wr.heap.size]? = some (.cells #[.int .i64 T,.int .i64 Re,.int .i64 K,.string key,.string val,.int .i64 N] 26 (0,0))):=Lib.hid (by rw [hwB];exact heap_alloc_new _ _)
           have HBB:Hid (Below wr.heap.size wr wB):=Lib.hid (by rw [hwB];exact (Below.refl _ _).alloc (Nat.le_refl _) _)
           have HSB:Hid (wr.heap.size < wB.heap.size):=Lib.hid (by rw [hwB];simp)
           rw [←hwB]
           clear hwB e0 e1 e2 e3 e4 e5
           have g0:wB.cell? ⟨wr.heap.size,0,none⟩=some (.int .i64 T):=cell_of_row _ _ 0 _ _ _ HROW.out
           have g1:wB.cell? ⟨wr.heap.size,1,none⟩=some (.int .i64 Re):=cell_of_row _ _ 1 _ _ _ HROW.out
           have g2:wB.cell? ⟨wr.heap.size,2,none⟩=some (.int .i64 K):=cell_of_row _ _ 2 _ _ _ HROW.out
           have g3:wB.cell? ⟨wr.heap.size,3,none⟩=some (.string key):=cell_of_row _ _ 3 _ _ _ HROW.out
           have g4:wB.cell? ⟨wr.heap.size,4,none⟩=some (.string val):=cell_of_row _ _ 4 _ _ _ HROW.out
           have g5:wB.cell? ⟨wr.heap.size,5,none⟩=some (.int .i64 N):=cell_of_row _ _ 5 _ _ _ HROW.out
           have HFD:Hid (IsEnts wB (.slice af nf cf) f):=Lib.hid (HFR.out.below HBB.out)
           go_quiet ((first | (go_at_call 40;with_reducible exact rofI_q (.slice af nf cf) f Re y _ _ HFD.out HFL.out HY.out)))
           go_wp2
           go_roundw
           · exact ⟨k + 1,by omega,by simp,by rw [HTY.out];exact HO.out.below (below_drewN HBB.out _),HB.out.trans ((below_drewN HBB.out _).mono HSR.out)⟩
           · simp [intOf];omega
       · have b1:decide ((k:Int) < (n:Int))=false:=by simp;omega
         obtain rfl:k=n:=by omega
         rename World=>w5
         have HT0:Hid (ownsW w5 w4.heap.size u7 (sinceW s f)):=Lib.hid (by have:=HO.out;rwa [List.take_of_length_le (by rw [HN.out];exact Nat.le_refl _)] at this)
         obtain ⟨a7,c7,rfl,_⟩:=HT0.out.is.form
         obtain ⟨m,hm⟩:∃ m,m=(sinceW s f).length:=⟨_,rfl⟩
         rw [←hm] at HT0 ⊢
         have HM:=Lib.hid hm
         have HR5:=Lib.hid (HBW.out w5 HB.out)
         obtain ⟨⟨r0,r1,r2⟩,g0,g1,g2⟩:=HR5.out.cr
         clear hm HO
         by_cases h60:m≤60
         · have h60b:decide ((m:Int)≤60)=true:=by simp;omega
           have HSB:Hid (sinceB s f=sinceW s f∧sinceH s f=s.hv):=Lib.hid (by unfold sinceB sinceH;rw [if_pos (by rw [←HM.out];exact h60),if_pos (by rw [←HM.out];exact h60)];exact ⟨rfl,rfl⟩)
           have p1:=HR5.out.log.c1
           go_wp2
           obtain ⟨hR,hbR⟩:=HR5.out.out (.slice af nf cf) (.slice a nh ch) (.slice a7 m c7)
           have hbu:But (fun k=>k=w.heap.size) w5 (((w5.setCell ⟨w.heap.size,0,none⟩ (.slice af nf cf)).setCell ⟨w.heap.size,1,none⟩ (.slice a nh ch)).setCell ⟨w.heap.size,2,none⟩ (.slice a7 m c7)):=(((But.refl (fun k=>k=w.heap.size) w5).setCell (.inl (show w.heap.size=w.heap.size from rfl)) _).setCell (.inl (show w.heap.size=w.heap.size from rfl)) _).setCell (.inl (show w.heap.size=w.heap.size from rfl)) _
           obtain ⟨V,hV⟩:∃ V,V=((w5.setCell ⟨w.heap.size,0,none⟩ (.slice af nf cf)).setCell ⟨w.heap.size,1,none⟩ (.slice a nh ch)).setCell ⟨w.heap.size,2,none⟩ (.slice a7 m c7):=⟨_,rfl⟩
           rw [←hV] at hR hbR hbu ⊢
           clear hV
           have q0:=cell_of_row _ _ 0 _ _ _ hR
           have q1:=cell_of_row _ _ 1 _ _ _ hR
           have q2:=cell_of_row _ _ 2 _ _ _ hR
           refine bodyPost_ret (v:=.tuple #[.agg #[.slice af nf cf,.slice a nh ch,.slice a7 m c7],.int .i64 0]) (by simp [results,Tryz.results12,go_sem,q0,q1,q2]) rfl ?_
           refine ⟨hbR,.inr ⟨HE.out,_,_,rfl,?_,?_⟩⟩
           · rw [HSB.out.2]
             have x1:ownsE V 0 (.slice a nh ch) s.hv:=ownsRow_but HR5.out.log.ents hbu (fun k e e2=>by have:=HG.out k (HR5.out.log.inE k e);omega)
             exact x1.is
           · rw [HSB.out.1]
             have x1:ownsW V w4.heap.size (.slice a7 m c7) (sinceW s f):=ownsRow_but HT0.out hbu (fun k e e2=>by have:=(HT0.out.lt k e).1;have:=HW4.out;omega)
             exact x1.is
         · have h60b:decide ((m:Int)≤60)=false:=by simp;omega
           have HSB:Hid (sinceB s f=(sinceW s f).take 60∧sinceH s f=tab (fun r=>topT f ((sinceW s f).take 60) (r:Int)) 201):=Lib.hid (by unfold sinceB sinceH;rw [if_neg (by rw [←HM.out];exact h60),if_neg (by rw [←HM.out];exact h60)];exact ⟨rfl,rfl⟩)
           obtain ⟨B7,rfl,hB7,hc7⟩:∃ B7,a7=some ⟨B7,0,none⟩∧w4.heap.size≤B7∧m≤c7:=by
             rcases HT0.out.2 with ⟨e,h0⟩ | ⟨g,cap,cur,e,hb,hh,h1,_⟩
             · exact absurd h0 (by have:=HM.out;omega)
             · obtain ⟨rfl,_,rfl⟩:=Value.slice.inj e
               exact ⟨g,rfl,hb,by rw [HM.out];simpa using h1⟩
           have hc60:60≤c7:=by omega
           obtain ⟨l6,hl6⟩:∃ l6,l6=(sinceW s f).take 60:=⟨_,rfl⟩
           rw [←hl6] at HSB
           have HL6:Hid (l6.length=60):=Lib.hid (by rw [hl6,List.length_take,←HM.out];omega)
           have HW6:Hid (IsWrs w5 (.slice (some ⟨B7,0,none⟩) 60 c7) l6):=Lib.hid (by rw [hl6];exact isWrs_takeR HT0.out.is HM.out (by omega) (by omega))
           obtain ⟨a6,c6,e9,hws6⟩:=HW6.out.form
           obtain rfl:a6=some ⟨B7,0,none⟩:=(Value.slice.inj e9).1.symm
           have HWS6:=Lib.hid hws6
           clear hl6 e9 hws6
           have HFR:Hid (IsEnts w5 (.slice af nf cf) f):=Lib.hid (HF.out.below HR5.out.bel)
           clear hc7 h60 r0 r1 r2 g0 g1 g2
           go_wp2
           go_loopw [10,64] (fun lv i wz=>∃ k:Nat,k≤201∧i=.int .i64 k∧ownsE wz w5.heap.size lv (tab (fun r=>topT f l6 (r:Int)) k)∧Below w5.heap.size w5 wz) (fun _ i _=>201 - (intOf i).toNat)
           case atStart=>exact ⟨0,by omega,rfl,ownsE_nil _ _,Below.refl _ _⟩
           case round =>
             obtain ⟨r,hr,rfl,ho,hb⟩:=hrel
             have HO:=Lib.hid ho
             have HB6:=Lib.hid hb
             have HSZ:=Lib.hid hb.size
             clear ho hb
             by_cases hlt:r < 201
             · have hlt':(r:Int) < 201:=by omega
               have hlb:decide ((r:Int) < 201)=true:=by simpa using hlt'
               obtain ⟨x,hx⟩:∃ x,ofF f (r:Int)=x:=⟨_,rfl⟩
               have HX:=Lib.hid hx
               clear hx
               go_wp2_with fail
               refine (rof_as _ f r x _ (HFR.out.below HB6.out) HFL.out HX.out).mono ?_
               rintro z w9 ⟨rfl,rfl⟩
               rename World=>w9
               go_wp2
               go_loopw [12,72] (fun y j wi=>∃ q:Nat,q≤60∧j=.int .i64 q∧y=.int .i64 (topT f (l6.take q) (r:Int))∧Below w9.heap.size w9 wi) (fun _ j _=>60 - (intOf j).toNat)
               case atStart=>exact ⟨0,by omega,rfl,by rw [List.take_zero,←HX.out];rfl,Below.refl _ _⟩
               case round =>
                 obtain ⟨q,hq,rfl,rfl,hb⟩:=hrel
                 have HB7:=Lib.hid hb
                 have HSZ7:=Lib.hid hb.size
                 clear hb
                 obtain ⟨y,hy⟩:∃ y,y=topT f (l6.take q) (r:Int):=⟨_,rfl⟩
                 have HY:=Lib.hid hy
                 rw [←hy]
                 clear hy
                 by_cases hq6:q < 60
                 · have hqb:decide ((q:Int) < 60)=true:=by simp;omega
                   obtain ⟨t, ht⟩ : ∃ t, l6[q]? = some t := ⟨l6[q]'(by have := HL6.out; omega), List.getElem?_eq_getElem _⟩
                   obtain ⟨b,off,eb,hbl,c0,c1,c2,c3,c4,c5⟩:=HWS6.out q t ht
                   have HTS:=Lib.hid (topT_take (f:=f) ht (r:Int))
                   rw [←HY.out] at HTS
                   obtain ⟨T,Re,K,key,val,N⟩:=t
                   simp only at c0 c1 c2 c3 c4 c5 HTS
                   obtain ⟨rfl,rfl⟩:B7=b∧off=0:=by
                     have e11:=eb
                     simp only [Option.some.injEq,Addr.mk.injEq,and_true] at e11
                     exact ⟨e11.1,e11.2.symm⟩
                   simp only [Nat.zero_add] at c0 c1 c2 c3 c4 c5
                   have d:∀ j u,w5.cell? ⟨B7,j,none⟩=some u→wr.cell? ⟨B7,j,none⟩=some u:=fun j u hu=>((HB6.out.trans (HB7.out.mono HSZ.out)).cell (p:=⟨B7,j,none⟩) hbl).trans hu
                   have e0:=d _ _ c0
                   have e1:=d _ _ c1
                   have e2:=d _ _ c2
                   have e3:=d _ _ c3
                   have e4:=d _ _ c4
                   have e5:=d _ _ c5
                   clear ht c0 c1 c2 c3 c4 c5 d eb
                   by_cases hrr:Re=(r:Int)
                   · subst hrr
                     obtain ⟨z,hz⟩:∃ z,z=max y T:=⟨_,rfl⟩
                     have hz2:max y T=z:=hz.symm
                     have hz3:(if y < T then T else y)=z:=by rw [hz];split <;> omega
                     have HZ:Hid (topT f (l6.take (q + 1)) (r:Int)=z):=Lib.hid (by rw [HTS.out,if_pos rfl,hz])
                     clear HTS hz
                     go_wp2
                     go_roundw
                     · exact ⟨q + 1,by omega,by simp,by rw [HZ.out],HB7.out.alloc HSZ7.out _⟩
                     · simp [intOf];omega
                   · have b2:(Re == (r:Int))=false:=by simpa using hrr
                     have HZ:Hid (topT f (l6.take (q + 1)) (r:Int)=y):=Lib.hid (by rw [HTS.out,if_neg hrr])
                     clear HTS
                     go_wp2
                     go_roundw
                     · exact ⟨q + 1,by omega,by simp,by rw [HZ.out],HB7.out.alloc HSZ7.out _⟩
                     · simp [intOf];omega
                 · have hqb:decide ((q:Int) < 60)=false:=by simp;omega
                   obtain rfl:q=60:=by omega
                   have HYF:Hid (topT f l6 (r:Int)=y):=Lib.hid (by rw [HY.out,List.take_of_length_le (by rw [HL6.out];exact Nat.le_refl _)])
                   have hlen:=tab_len (fun r:Nat=>topT f l6 (r:Int)) r
                   by_cases hp:0 < y
                   · have b3:decide (0 < y)=true:=by simpa using hp
                     have HT:Hid (tab (fun r:Nat=>topT f l6 (r:Int)) (r + 1)=tab (fun r:Nat=>topT f l6 (r:Int)) r ++ [⟨r,y⟩]):=Lib.hid (by rw [tab_yes (by rw [HYF.out];exact hp),HYF.out])
                     go_wp2_with (at_builtin;refine wpList_append_ent rfl _ _ rfl w5.heap.size _ (tab (fun r:Nat=>topT f l6 (r:Int)) r) rfl ((HO.out.below HB7.out).alloc _) wr.heap.size 1 rfl ⟨r,y⟩ ?c1 ?c2 ?c3 ?_)
                     case c1=>exact entBlk_new _ _ _
                     case c2=>omega
                     case c3=>have:=HSZ.out;have:=HSZ7.out;rw [World.size_alloc];omega
                     · intro g cap w2 ho2 hg2
                       have HO2:Hid (ownsE w2 w5.heap.size (.slice (some ⟨g,0,none⟩) ((tab (fun r:Nat=>topT f l6 (r:Int)) r).length + 1) cap) (tab (fun r:Nat=>topT f l6 (r:Int)) (r + 1))):=Lib.hid (by rw [HT.out];exact ho2)
                       have HB3:Hid (Below w5.heap.size w5 w2):=Lib.hid (((HB6.out.trans (HB7.out.mono HSZ.out)).alloc (Nat.le_trans HSZ.out HSZ7.out) _).grown hg2 (by have:=HSZ.out;have:=HSZ7.out;rw [World.size_alloc];omega) (fun g hg=>(HO.out.lt g hg).1))
                       clear ho2 hg2
                       go_wp2
                       go_roundw
                       case rel=>first | exact ⟨r + 1,by omega,by go_num,HO2.out,HB3.out⟩ | exact ⟨_,_,_,_,_,⟨r + 1,by omega,rfl,HO2.out,HB3.out⟩,rfl,rfl,rfl,rfl,by simp⟩ | (refine ⟨_,_,_,_,_,⟨r + 1,by omega,rfl,HO2.out,HB3.out⟩,?_⟩;simp)
                       case measure=>simp [intOf];omega
                   · have b3:decide (0 < y)=false:=by simpa using hp
                     have HT:Hid (tab (fun r:Nat=>topT f l6 (r:Int)) (r + 1)=tab (fun r:Nat=>topT f l6 (r:Int)) r):=Lib.hid (tab_no (by rw [HYF.out];exact hp))
                     go_wp2
                     go_roundw
                     case rel=>first | exact ⟨r + 1,by omega,by go_num,by rw [HT.out];exact HO.out.below HB7.out,HB6.out.trans (HB7.out.mono HSZ.out)⟩ | exact ⟨_,_,_,_,_,⟨r + 1,by omega,rfl,by rw [HT.out];exact HO.out.below HB7.out,HB6.out.trans (HB7.out.mono HSZ.out)⟩,rfl,rfl,rfl,rfl,by simp⟩
                     case measure=>simp [intOf];omega
             · have hlb:decide ((r:Int) < 201)=false:=by simp;omega
               obtain rfl:r=201:=by omega
               obtain ⟨av,cv,hv,_⟩:=HO.out.is.form
               subst hv
               obtain ⟨m2,hm2⟩:∃ m2,m2=(tab (fun r:Nat=>topT f l6 (r:Int)) 201).length:=⟨_,rfl⟩
               rw [←hm2] at HO ⊢
               have HR6:=Lib.hid (HR5.out.call HB6.out)
               have HZ5:=Lib.hid HR5.out.sz
               have HW7:=Lib.hid (HW6.out.below HB6.out)
               obtain ⟨⟨r0,r1,r2⟩,g0,g1,g2⟩:=HR6.out.cr
               clear hm2
               go_wp2
               obtain ⟨hR,hbR⟩:=HR6.out.out (.slice af nf cf) (.slice av m2 cv) (.slice (some ⟨B7,0,none⟩) 60 c7)
               have hbu:But (fun k=>k=w.heap.size) wr (((wr.setCell ⟨w.heap.size,0,none⟩ (.slice af nf cf)).setCell ⟨w.heap.size,1,none⟩ (.slice av m2 cv)).setCell ⟨w.heap.size,2,none⟩ (.slice (some ⟨B7,0,none⟩) 60 c7)):=(((But.refl (fun k=>k=w.heap.size) wr).setCell (.inl (show w.heap.size=w.heap.size from rfl)) _).setCell (.inl (show w.heap.size=w.heap.size from rfl)) _).setCell (.inl (show w.heap.size=w.heap.size from rfl)) _
               obtain ⟨V,hV⟩:∃ V,V=((wr.setCell ⟨w.heap.size,0,none⟩ (.slice af nf cf)).setCell ⟨w.heap.size,1,none⟩ (.slice av m2 cv)).setCell ⟨w.heap.size,2,none⟩ (.slice (some ⟨B7,0,none⟩) 60 c7):=⟨_,rfl⟩
               rw [←hV] at hR hbR hbu ⊢
               clear hV
               have q0:=cell_of_row _ _ 0 _ _ _ hR
               have q1:=cell_of_row _ _ 1 _ _ _ hR
               have q2:=cell_of_row _ _ 2 _ _ _ hR
               refine bodyPost_ret (v:=.tuple #[.agg #[.slice af nf cf,.slice av m2 cv,.slice (some ⟨B7,0,none⟩) 60 c7],.int .i64 0]) (by simp [results,Tryz.results12,go_sem,q0,q1,q2]) rfl ?_
               refine ⟨hbR,.inr ⟨HE.out,_,_,rfl,?_,?_⟩⟩
               · rw [HSB.out.2]
                 have x1:ownsE V w5.heap.size (.slice av m2 cv) (tab (fun r:Nat=>topT f l6 (r:Int)) 201):=ownsRow_but HO.out hbu (fun k e e2=>by have:=(HO.out.lt k e).1;have:=HZ5.out;omega)
                 exact x1.is
               · rw [HSB.out.1]
                 exact isWrs_but HW7.out hbu (fun k e e2=>by have:B7=k:=Option.some.inj e;have:=HW4.out;omega)
 · have HE:Hid (sinceE s f=ef):=Lib.hid (by unfold sinceE;rw [HRF.out,if_pos h1])
   have e2n:(((ef:Nat):Int) == 0)=false:=by simpa using h1
   obtain ⟨⟨r0,r1,r2⟩,g0,g1,g2⟩:=HR2.out.cr
   have hz1:¬ w1.heap.size=w.heap.size:=by have:=HR1.out.sz;omega
   have hz2:¬ w.heap.size=w1.heap.size:=by omega
   go_wp2
   go_region
   go_wp2
   obtain ⟨hR,hbR⟩:=HR2.out.out (.slice none 0 0) (.slice none 0 0) (.slice none 0 0)
   obtain ⟨V,hV⟩:∃ V,V=((w2.setCell ⟨w.heap.size,0,none⟩ (.slice none 0 0)).setCell ⟨w.heap.size,1,none⟩ (.slice none 0 0)).setCell ⟨w.heap.size,2,none⟩ (.slice none 0 0):=⟨_,rfl⟩
   rw [←hV] at hR hbR ⊢
   clear hV
   have q0:V.drew.cell? ⟨w.heap.size,0,none⟩=some (.slice none 0 0):=cell_of_row _ _ 0 _ _ _ hR
   have q1:V.drew.cell? ⟨w.heap.size,1,none⟩=some (.slice none 0 0):=cell_of_row _ _ 1 _ _ _ hR
   have q2:V.drew.cell? ⟨w.heap.size,2,none⟩=some (.slice none 0 0):=cell_of_row _ _ 2 _ _ _ hR
   refine bodyPost_ret (v:=.tuple #[.agg #[.slice none 0 0,.slice none 0 0,.slice none 0 0],.int .i64 ef]) (by simp [results,Tryz.results12,go_sem,q0,q1,q2]) rfl ?_
   exact ⟨hbR.drew,.inl (by rw [HE.out];exact ⟨by first | exact h1 | simp,rfl⟩)⟩
end Go.Proofs.YtddbpnplbcjpgaaGreatDoor
