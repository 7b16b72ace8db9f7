import Derived.Test.YtifbebhgeheooaaGreatDoorKl19
import Derived.Test.YtifbebhgeheooaaGreatDoorKl17
namespace Go.Proofs.YtifbebhgeheooaaGreatDoor
open Go.RowKit Go.Maps
set_option maxRecDepth 100000 in
set_option maxHeartbeats 8000000 in
theorem of_new (v:Value) (l:List Wr) (w:World) (h:IsWrs w v l) (hr:∀ x∈l,wrF x=0) (hl:l.length≤100000) :
   Calls Tryz.prog 56 #[v] w fun e w'=>∃ u,e=.returned (.tuple #[u,.nilIface])∧IsCells w' u (cellsF l)∧Below w.heap.size w w'∧∀ k,u.ownBlock=some k→w.heap.size≤k:=by
 obtain ⟨a,c,rfl,hf⟩:=h.form
 have HI:=Lib.hid h
 have HF:=Lib.hid hf
 have HR:=Lib.hid hr
 obtain ⟨n,hn⟩:∃ n,n=l.length:=⟨_,rfl⟩
 rw [←hn] at hl ⊢
 have HN:=Lib.hid hn
 clear h hf hr hn
 obtain ⟨P,hP⟩:∃ P,P=w.heap.size + 1:=⟨_,rfl⟩
 have HP:=Lib.hid hP
 clear hP
 go_enter Tryz.func56,Tryz.ntmps56
 go_wp2_with (go_at_call 93;refine (new_any _).mono ?_;rintro r w1 ⟨rfl,hs1,hb1⟩;have HS1:Hid (StoB w1 w.heap.size (w.heap.size + 2) P 0 (fun _=>cel0)):=Lib.hid (by rw [HP.out];exact hs1);have HB1:=Lib.hid hb1;clear hs1 hb1;rw [←HP.out])
 go_loopw [11] (fun i wr=>∃ k:Nat,k≤n∧i=.int .i64 k∧StoB wr w.heap.size (w.heap.size + 2) P k (cellK (l.take k))∧Below w.heap.size w wr) (fun i _=>n - (intOf i).toNat)
 case atStart=>exact ⟨0,by omega,rfl,by rw [List.take_zero,cellK_nil];exact HS1.out,HB1.out⟩
 case round =>
   obtain ⟨k,hk,rfl,hs,hb⟩:=hrel
   have HS:=Lib.hid hs
   have HB:=Lib.hid hb
   clear hs hb HS1 HB1
   by_cases hlt:k < n
   · have b1:decide ((k:Int) < (n:Int))=true:=by simpa using hlt
     obtain ⟨x, hx⟩ : ∃ x, l[k]? = some x := ⟨l[k]'(by rw [← HN.out]; exact hlt), List.getElem?_eq_getElem _⟩
     obtain ⟨b,off,rfl,hbl,c0,c1,c2,c3,c4,c5⟩:=HF.out k x hx
     have HX:=Lib.hid hx
     have hx0:wrF x=0:=HR.out x (List.mem_of_getElem? hx)
     obtain ⟨T,Re,K,key,val,N⟩:=x
     simp only at c0 c1 c2 c3 c4 c5
     have HX0:=Lib.hid hx0
     have HBL:=Lib.hid hbl
     have d:∀ j u,w.cell? ⟨b,j,none⟩=some u→wr.cell? ⟨b,j,none⟩=some u:=fun j u hu=>(HB.out.cell (p:=⟨b,j,none⟩) HBL.out).trans hu
     have e0:=d _ _ c0
     have e1:=d _ _ c1
     have e2:=d _ _ c2
     have e3:=d _ _ c3
     have e4:=d _ _ c4
     have e5:=d _ _ c5
     have HSR:Hid (w.heap.size≤wr.heap.size):=Lib.hid HB.out.size
     clear hx hx0 c0 c1 c2 c3 c4 c5 d hbl
     go_wp2_with (go_at_call 94;obtain ⟨M,D,L,hs,hBP,hBM⟩:=HS.out.grown (grown_alloc (grown_refl _ none) (.cells #[.int .i64 T,.int .i64 Re,.int .i64 K,.string key,.string val,.int .i64 N] 25));refine (do_good _ w.heap.size (w.heap.size + 2) P M k D _ L T Re K key val N hs HX0.out (by omega) hBP hBM).mono ?_;rintro r w3 ⟨rfl,hs3,hb3,_⟩;have HS3:=Lib.hid hs3;have HB3:=Lib.hid hb3;clear hs hBP hBM hs3 hb3)
     go_roundw
     · refine ⟨k + 1,by omega,by simp,?_,?_⟩
       · rw [List.take_add_one,HX.out]
         show StoB _ _ _ _ _ (cellK (l.take k ++ [_]))
         rw [←stepG_cellK]
         exact HS3.out
       · exact (HB.out.alloc HSR.out _).trans HB3.out
     · simp [intOf];omega
   · have b1:decide ((k:Int) < (n:Int))=false:=by simp;omega
     obtain rfl:k=n:=by omega
     have HT:Hid (StoB wr w.heap.size (w.heap.size + 2) P k (cellK l)):=Lib.hid (by have:=HS.out;rwa [List.take_of_length_le (by rw [HN.out];exact Nat.le_refl _)] at this)
     clear HS
     go_wp2_with (go_at_call 95;obtain ⟨M,D,L,hs,hBP,hBM⟩:=HT.out;refine (cells_new _ (w.heap.size + 2) P M k D _ L hs (by omega) (keys_ok HR.out)).mono ?_;rintro r w3 ⟨u,z,rfl,hz,hu,hb3,hfr⟩;have HFR:=Lib.hid hfr;have HU:Hid (IsCells w3 u (cellsF l)):=Lib.hid (by rw [←hz.is];exact hu);have HB3:=Lib.hid hb3;clear hs hBP hBM hz hu hb3 hfr)
     go_ret2
     exact ⟨u,rfl,HU.out,HB.out.trans (HB3.out.mono HB.out.size),fun k e=>Nat.le_trans HB.out.size (HFR.out k e)⟩
end Go.Proofs.YtifbebhgeheooaaGreatDoor
namespace Go.Proofs.YtifbebhgeheooaaGreatDoor
open Go.RowKit
theorem isWrs_take {w:World} {a:Option Addr} {n k c:Nat} {l:List Wr} (h:IsWrs w (.slice a n c) l) (hn:n=l.length) (hk:k≤n) (h0:0 < k):IsWrs w (.slice a k c) (l.take k):=by
 rcases h with ⟨a',c',e,rfl⟩ | ⟨b,off,c',e,h1,h2,h3⟩
 · simp at hn;omega
 · obtain ⟨e1,e2,e3⟩:=Value.slice.inj e
   subst e1 e3
   have hl:(l.take k).length=k:=by rw [List.length_take];omega
   refine .inr ⟨b,off,c,by rw [hl],by omega,h2,fun j u hj=>h3 j u ?_⟩
   rw [wrsC_take,List.getElem?_take] at hj
   split at hj
   · exact hj
   · cases hj
theorem isWrs_cap {w:World} {B n c:Nat} {a:Option Addr} {l:List Wr} (h:ownsW w B (.slice a n c) l):n≤c:=by
 rcases h.2 with ⟨e,_⟩ | ⟨g,cap,cur,e,_,_,hc,_⟩
 · obtain ⟨_,e2,_⟩:=Value.slice.inj e
   omega
 · obtain ⟨_,e2,e3⟩:=Value.slice.inj e
   omega
structure NC (w W:World) (P:Nat) (F:Nat→Prop) (s:LogS) (vh vw:Value):Prop where
 rowr:W.heap[w.heap.size]? = some (.cells #[.slice none 0 0,.slice none 0 0,.slice none 0 0] 38 (0,0))
 log:LogIn W P F s vh vw
 bel:Below w.heap.size w W
 sz:w.heap.size + 1≤W.heap.size
section
variable {w W:World} {P:Nat} {F:Nat→Prop} {s:LogS} {vh vw:Value}
theorem NC.call {W':World} (h:NC w W P F s vh vw) (hb:Below W.heap.size W W'):NC w W' P F s vh vw :=
 ⟨(hb.block _ (by have:=h.sz;omega)).trans h.rowr,h.log.below hb,h.bel.trans (hb.mono h.bel.size),Nat.le_trans h.sz hb.size⟩
theorem NC.cr (h:NC w W P F s vh vw):(W.cell? ⟨w.heap.size,0,none⟩=some (.slice none 0 0)∧W.cell? ⟨w.heap.size,1,none⟩=some (.slice none 0 0)∧W.cell? ⟨w.heap.size,2,none⟩=some (.slice none 0 0))∧W.frozen? ⟨w.heap.size,0,none⟩=false∧W.frozen? ⟨w.heap.size,1,none⟩=false∧W.frozen? ⟨w.heap.size,2,none⟩=false :=
 ⟨⟨cell_of_row _ _ 0 _ _ _ h.rowr,cell_of_row _ _ 1 _ _ _ h.rowr,cell_of_row _ _ 2 _ _ _ h.rowr⟩,Lib.frozen_of_heap h.rowr 0,Lib.frozen_of_heap h.rowr 1,Lib.frozen_of_heap h.rowr 2⟩
theorem NC.out (h:NC w W P F s vh vw) (a b c:Value):(((W.setCell ⟨w.heap.size,0,none⟩ a).setCell ⟨w.heap.size,1,none⟩ b).setCell ⟨w.heap.size,2,none⟩ c).heap[w.heap.size]? = some (.cells #[a,b,c] 38 (0,0))∧Below w.heap.size w (((W.setCell ⟨w.heap.size,0,none⟩ a).setCell ⟨w.heap.size,1,none⟩ b).setCell ⟨w.heap.size,2,none⟩ c) ∧
   But (fun k=>k=w.heap.size) W (((W.setCell ⟨w.heap.size,0,none⟩ a).setCell ⟨w.heap.size,1,none⟩ b).setCell ⟨w.heap.size,2,none⟩ c) :=
 ⟨heap_setCell_same _ _ 2 _ _ c (heap_setCell_same _ _ 1 _ _ b (heap_setCell_same _ _ 0 _ _ a h.rowr)),((h.bel.setCell (Nat.le_refl _) _).setCell (Nat.le_refl _) _).setCell (Nat.le_refl _) _,
   (((But.refl (fun k=>k=w.heap.size) W).setCell (.inl (show w.heap.size=w.heap.size from rfl)) _).setCell (.inl (show w.heap.size=w.heap.size from rfl)) _).setCell (.inl (show w.heap.size=w.heap.size from rfl)) _⟩
end
def SinIs (w:World) (s:LogS) (f:List Ent) (e:Ending) (w':World):Prop :=
 (sinceE s f≠0∧e=.returned (.tuple #[.agg #[.slice none 0 0,.slice none 0 0,.slice none 0 0],.iface 42 (.int .i64 (sinceE s f:Nat))])∧Below w.heap.size w w') ∨
 (sinceE s f=0∧∃ uf uh uw,e=.returned (.tuple #[.agg #[uf,uh,uw],.nilIface])∧ownsE w' w.heap.size uf f∧ownsE w' w.heap.size uh (sinceH s f)∧ownsW w' w.heap.size uw (sinceB s f)∧Below w.heap.size w w')
theorem sinE_1 {s:LogS} {f:List Ent} (h:(vrightF f).1≠0):sinceE s f=(vrightF f).1:=by unfold sinceE;rw [if_pos h]
theorem sinE_2 {s:LogS} {f:List Ent} (h:(vrightF f).1=0) (h2:covB s.hv f=false):sinceE s f=13:=by unfold sinceE;rw [if_neg (by rw [h];simp),if_pos h2]
theorem sinE_0 {s:LogS} {f:List Ent} (h:(vrightF f).1=0) (h2:covB s.hv f=true):sinceE s f=0:=by unfold sinceE;rw [if_neg (by rw [h];simp),if_neg (by rw [h2];simp)]
theorem sinB_few {s:LogS} {f:List Ent} (h:¬ 60 < (sinceW s f).length):sinceB s f=sinceW s f∧sinceH s f=s.hv:=by
 unfold sinceB sinceH;rw [if_pos (by omega),if_pos (by omega)];exact ⟨rfl,rfl⟩
theorem sinB_many {s:LogS} {f:List Ent} (h:60 < (sinceW s f).length):sinceB s f=(sinceW s f).take 60∧sinceH s f=reachL f ((sinceW s f).take 60):=by
 unfold sinceB sinceH reachL;rw [if_neg (by omega),if_neg (by omega)];exact ⟨rfl,rfl⟩
set_option maxRecDepth 100000 in
set_option maxHeartbeats 8000000 in
theorem lsince_any (P:Nat) (F:Nat→Prop) (s:LogS) (v:Value) (f:List Ent) (w:World) (h:LogAt w P F s) (ok:LogOk s) (hf:IsEnts w v f) (hfl:f.length≤9223372036854775807) (hg:errT w) :
   Calls Tryz.prog 20 #[.pointer (some ⟨P,0,none⟩),v] w (SinIs w s f):=by
 obtain ⟨vh,vw,h⟩:=h
 have HOK:=Lib.hid ok
 obtain ⟨af,cf,rfl,_⟩:=hf.form
 have HF:=Lib.hid hf
 have HFL:=Lib.hid hfl
 have HG:=Lib.hid hg
 obtain ⟨nf,hnf⟩:∃ n,n=f.length:=⟨_,rfl⟩
 rw [←hnf] at HF ⊢
 obtain ⟨ah,ch,rfl,_⟩:=h.ents.is.form
 have HHL:Hid (s.hv.length≤16):=Lib.hid ok.hv.1
 obtain ⟨nh,hnh⟩:∃ n,n=s.hv.length:=⟨_,rfl⟩
 rw [←hnh] at h
 obtain ⟨eb,pb,hb⟩:∃ e pl,vrightF f=(e,pl):=⟨_,_,rfl⟩
 have HBF:=Lib.hid hb
 have HA0:Hid (NC w (w.alloc (.cells #[.slice none 0 0,.slice none 0 0,.slice none 0 0] 38)) P F s (.slice ah nh ch) vw):=Lib.hid ⟨heap_alloc_new _ _,h.below ((Below.refl _ _).alloc (Nat.le_refl _) _),(Below.refl _ _).alloc (Nat.le_refl _) _,by simp⟩
 clear ok hf hfl hg hnf hnh hb h
 go_enter Tryz.func20,Tryz.ntmps20
 go_wp2_with fail
 obtain ⟨W,hW⟩:∃ W,W=w.alloc (.cells #[.slice none 0 0,.slice none 0 0,.slice none 0 0] 38):=⟨_,rfl⟩
 rw [←hW] at HA0 ⊢
 clear hW
 refine (vright_any _ f W (HF.out.below HA0.out.bel) HFL.out).mono ?_
 rintro r w1 ⟨err,rfl,hat,hb1⟩
 rw [HBF.out] at hat
 have HA1:=Lib.hid (HA0.out.call hb1)
 have HAT:=Lib.hid hat
 clear hb1 hat HA0
 by_cases he:eb=0
 · subst he
   obtain rfl:=HAT.out.nil rfl
   have HV0:Hid ((vrightF f).1=0):=Lib.hid (by rw [HBF.out])
   have HRF:Hid (rightV f):=Lib.hid ((vright_ok f).1 HV0.out)
   have p1:=HA1.out.log.c1
   obtain ⟨cc,hcc⟩:∃ cc,covB s.hv f=cc:=⟨_,rfl⟩
   have HCC:=Lib.hid hcc
   clear hcc
   cases cc with
   | false =>
     have HE:Hid (sinceE s f=13):=Lib.hid (sinE_2 HV0.out HCC.out)
     go_wp2_with (go_at_call 18;refine (bcov_as _ _ s.hv f false w1 HA1.out.log.ents.is (HF.out.below HA1.out.bel) (by have:=HHL.out;omega) HFL.out HCC.out).mono ?_;rintro r w2 ⟨rfl,hb2⟩;have HA2:=Lib.hid (HA1.out.call hb2);obtain ⟨⟨r0,r1,r2⟩,g0,g1,g2⟩:=HA2.out.cr;clear hb2)
     obtain ⟨hR,hbR,_⟩:=HA2.out.out (.slice none 0 0) (.slice none 0 0) (.slice none 0 0)
     obtain ⟨V,hV⟩:∃ V,V=((w2.setCell ⟨w.heap.size,0,none⟩ (.slice none 0 0)).setCell ⟨w.heap.size,1,none⟩ (.slice none 0 0)).setCell ⟨w.heap.size,2,none⟩ (.slice none 0 0):=⟨_,rfl⟩
     rw [←hV] at hR hbR ⊢
     clear hV
     have q0:=cell_of_row _ _ 0 _ _ _ hR
     have q1:=cell_of_row _ _ 1 _ _ _ hR
     have q2:=cell_of_row _ _ 2 _ _ _ hR
     refine bodyPost_ret (v:=.tuple #[.agg #[.slice none 0 0,.slice none 0 0,.slice none 0 0],.iface 42 (.int .i64 13)]) (by simp [results,Tryz.results20,go_sem,q0,q1,q2]) rfl ?_
     exact .inl (by rw [HE.out];exact ⟨by simp,rfl,hbR⟩)
   | true =>
     have HE:Hid (sinceE s f=0):=Lib.hid (sinE_0 HV0.out HCC.out)
     obtain ⟨m,hm⟩:∃ m,m=(sinceW s f).length:=⟨_,rfl⟩
     have HM:=Lib.hid hm
     have HSZ:Hid (∀ x∈sinceB s f,x.key.size≤140737488351232∧x.value.size≤140737488351232):=Lib.hid (fun x hx=>HOK.out.size (sinceW_mem.1 ((sinceB_sub s f).subset hx)).1)
     have hm3:m≤300:=by rw [hm];exact Nat.le_trans (List.length_filter_le _ _) HOK.out.len
     have HCV:Hid (∀ r,ofF f r≤ofF s.hv r):=Lib.hid ((covB_iff HOK.out.hv HRF.out).1 HCC.out)
     have HIN:Hid (InV s.hv ((sinceW s f).take 60)):=Lib.hid (inV_of HOK.out (fun x hx=>(sinceW_mem.1 (List.mem_of_mem_take hx)).1))
     clear hm
     by_cases h6:60 < m
     · have b6:decide ((60:Int) < (m:Int))=true:=by simp;omega
       have HMANY:=Lib.hid (sinB_many (s:=s) (f:=f) (by rw [←HM.out];exact h6))
       go_wp2_with (first
         | (go_at_call 18;refine (bcov_as _ _ s.hv f true w1 HA1.out.log.ents.is (HF.out.below HA1.out.bel) (by have:=HHL.out;omega) HFL.out HCC.out).mono ?_;rintro r w2 ⟨rfl,hb2⟩;have HA2:=Lib.hid (HA1.out.call hb2);clear hb2)
         | (go_at_call 19;refine (lhave_any P s F w2 ⟨_,_,HA2.out.log⟩ HOK.out).mono ?_;rintro r w3 ⟨u3,rfl,ho3,hb3⟩;have HA3:=Lib.hid (HA2.out.call hb3);have HO3:=Lib.hid (ho3.mono HA2.out.sz);obtain ⟨a3,c3,rfl,_⟩:=HO3.out.is.form;obtain ⟨n3,hn3⟩:∃ n3,n3=s.hv.length:=⟨_,rfl⟩;rw [←hn3] at HO3 ⊢;clear hn3;clear ho3 hb3)
         | (go_at_call 54;refine (lbehind_any P F s _ f w3 ⟨_,_,HA3.out.log⟩ HOK.out (HF.out.below HA3.out.bel) HFL.out).mono ?_;rintro r w4 ⟨u4,rfl,ho4,hb4⟩;obtain ⟨a4,c4,rfl,_⟩:=ho4.is.form;rw [←HM.out] at ho4 ⊢;have HA4:=Lib.hid (HA3.out.call hb4);have HO4:=Lib.hid (ho4.mono HA3.out.sz);have HO3B:Hid (ownsE w4 (w.heap.size + 1) (.slice a3 n3 c3) s.hv):=Lib.hid (HO3.out.below hb4);have hc4:m≤c4:=isWrs_cap HO4.out;have hc60:60≤c4:=(by omega);have HWT:Hid (IsWrs w4 (.slice a4 60 c4) ((sinceW s f).take 60)):=Lib.hid (isWrs_take HO4.out.is HM.out (by omega) (by omega));clear ho4 hb4)
         | (go_at_call 55;refine (lreached_any _ _ s.hv f ((sinceW s f).take 60) w4 (HF.out.below HA4.out.bel) HWT.out (by rw [List.length_take];omega) HOK.out.hv HRF.out HCV.out HIN.out (HG.out.below HA4.out.bel)).mono ?_;rintro r w7 ⟨u7,rfl,ho7,hb7⟩;obtain ⟨a7,c7,rfl,_⟩:=ho7.is.form;obtain ⟨n7,hn7⟩:∃ n7,n7=(reachL f ((sinceW s f).take 60)).length:=⟨_,rfl⟩;rw [←hn7] at ho7 ⊢;clear hn7;have HA7:=Lib.hid (HA4.out.call hb7);have HOHX:Hid (ownsE w7 (w.heap.size + 1) (.slice a7 n7 c7) (sinceH s f)):=Lib.hid (by rw [HMANY.out.2];exact ho7.mono HA4.out.sz);have HOWX:Hid (IsWrs w7 (.slice a4 60 c4) (sinceB s f)):=Lib.hid (by rw [HMANY.out.1];exact HWT.out.below hb7);clear ho7 hb7)
         | (go_at_call 53;refine (clone_ents _ f w7 (HF.out.below HA7.out.bel) (by have:=HRF.out.1;omega)).mono ?_;rintro r w5 ⟨u5,rfl,ho5,hb5⟩;have HA5:=Lib.hid (HA7.out.call hb5);have HO5:=Lib.hid (ho5.mono HA7.out.sz);obtain ⟨a5,c5,rfl,_⟩:=HO5.out.is.form;obtain ⟨n5,hn5⟩:∃ n5,n5=f.length:=⟨_,rfl⟩;rw [←hn5] at HO5 ⊢;clear hn5;have HOH5:Hid (ownsE w5 (w.heap.size + 1) (.slice a7 n7 c7) (sinceH s f)):=Lib.hid (HOHX.out.below hb5);have HOW5:Hid (IsWrs w5 (.slice a4 60 c4) (sinceB s f)):=Lib.hid (HOWX.out.below hb5);clear ho5 hb5)
         | (go_at_call 47;refine (allapart_any _ (sinceB s f) w5 HOW5.out (by have:=sinceB_len s f;omega) HSZ.out).mono ?_;rintro r w6 ⟨u6,rfl,ho6,hb6,_⟩;have HA6:=Lib.hid (HA5.out.call hb6);have HO6:=Lib.hid (ho6.mono HA5.out.sz);obtain ⟨a6,c6,rfl,_⟩:=HO6.out.is.form;obtain ⟨n6,hn6⟩:∃ n6,n6=(sinceB s f).length:=⟨_,rfl⟩;rw [←hn6] at HO6 ⊢;clear hn6;have HOH6:Hid (ownsE w6 (w.heap.size + 1) (.slice a7 n7 c7) (sinceH s f)):=Lib.hid (HOH5.out.below hb6);have HO56:Hid (ownsE w6 (w.heap.size + 1) (.slice a5 n5 c5) f):=Lib.hid (HO5.out.below hb6);obtain ⟨⟨r0,r1,r2⟩,g0,g1,g2⟩:=HA6.out.cr;clear ho6 hb6)
         | fail)
       obtain ⟨hR,hbR,hBU⟩:=HA6.out.out (.slice a5 n5 c5) (.slice a7 n7 c7) (.slice a6 n6 c6)
       obtain ⟨V,hV⟩:∃ V,V=((w6.setCell ⟨w.heap.size,0,none⟩ (.slice a5 n5 c5)).setCell ⟨w.heap.size,1,none⟩ (.slice a7 n7 c7)).setCell ⟨w.heap.size,2,none⟩ (.slice a6 n6 c6):=⟨_,rfl⟩
       rw [←hV] at hR hbR hBU ⊢
       clear hV
       have q0:=cell_of_row _ _ 0 _ _ _ hR
       have q1:=cell_of_row _ _ 1 _ _ _ hR
       have q2:=cell_of_row _ _ 2 _ _ _ hR
       refine bodyPost_ret (v:=.tuple #[.agg #[.slice a5 n5 c5,(.slice a7 n7 c7),.slice a6 n6 c6],.nilIface]) (by simp [results,Tryz.results20,go_sem,q0,q1,q2]) rfl ?_
       exact .inr ⟨HE.out,_,_,_,rfl,ownsE.mono (ownsRow_but HO56.out hBU (fun k e e2=>by have:=(HO56.out.lt k e).1;omega)) (by omega),ownsE.mono (ownsRow_but HOH6.out hBU (fun k e e2=>by have:=(HOH6.out.lt k e).1;omega)) (by omega),ownsW.mono (ownsRow_but HO6.out hBU (fun k e e2=>by have:=(HO6.out.lt k e).1;omega)) (by omega),hbR⟩
     · have b6:decide ((60:Int) < (m:Int))=false:=by simp;omega
       have HFEW:=Lib.hid (sinB_few (s:=s) (f:=f) (by rw [←HM.out];exact h6))
       go_wp2_with (first
         | (go_at_call 18;refine (bcov_as _ _ s.hv f true w1 HA1.out.log.ents.is (HF.out.below HA1.out.bel) (by have:=HHL.out;omega) HFL.out HCC.out).mono ?_;rintro r w2 ⟨rfl,hb2⟩;have HA2:=Lib.hid (HA1.out.call hb2);clear hb2)
         | (go_at_call 19;refine (lhave_any P s F w2 ⟨_,_,HA2.out.log⟩ HOK.out).mono ?_;rintro r w3 ⟨u3,rfl,ho3,hb3⟩;have HA3:=Lib.hid (HA2.out.call hb3);have HO3:=Lib.hid (ho3.mono HA2.out.sz);obtain ⟨a3,c3,rfl,_⟩:=HO3.out.is.form;obtain ⟨n3,hn3⟩:∃ n3,n3=s.hv.length:=⟨_,rfl⟩;rw [←hn3] at HO3 ⊢;clear hn3;clear ho3 hb3)
         | (go_at_call 54;refine (lbehind_any P F s _ f w3 ⟨_,_,HA3.out.log⟩ HOK.out (HF.out.below HA3.out.bel) HFL.out).mono ?_;rintro r w4 ⟨u4,rfl,ho4,hb4⟩;obtain ⟨a4,c4,rfl,_⟩:=ho4.is.form;rw [←HM.out] at ho4 ⊢;have HA4:=Lib.hid (HA3.out.call hb4);have HO4:=Lib.hid (ho4.mono HA3.out.sz);have HO3B:Hid (ownsE w4 (w.heap.size + 1) (.slice a3 n3 c3) s.hv):=Lib.hid (HO3.out.below hb4);have HOHX:Hid (ownsE w4 (w.heap.size + 1) (.slice a3 n3 c3) (sinceH s f)):=Lib.hid (by rw [HFEW.out.2];exact HO3B.out);have HOWX:Hid (IsWrs w4 (.slice a4 m c4) (sinceB s f)):=Lib.hid (by rw [HFEW.out.1];exact HO4.out.is);clear ho4 hb4)
         | (go_at_call 53;refine (clone_ents _ f w4 (HF.out.below HA4.out.bel) (by have:=HRF.out.1;omega)).mono ?_;rintro r w5 ⟨u5,rfl,ho5,hb5⟩;have HA5:=Lib.hid (HA4.out.call hb5);have HO5:=Lib.hid (ho5.mono HA4.out.sz);obtain ⟨a5,c5,rfl,_⟩:=HO5.out.is.form;obtain ⟨n5,hn5⟩:∃ n5,n5=f.length:=⟨_,rfl⟩;rw [←hn5] at HO5 ⊢;clear hn5;have HOH5:Hid (ownsE w5 (w.heap.size + 1) (.slice a3 n3 c3) (sinceH s f)):=Lib.hid (HOHX.out.below hb5);have HOW5:Hid (IsWrs w5 (.slice a4 m c4) (sinceB s f)):=Lib.hid (HOWX.out.below hb5);clear ho5 hb5)
         | (go_at_call 47;refine (allapart_any _ (sinceB s f) w5 HOW5.out (by have:=sinceB_len s f;omega) HSZ.out).mono ?_;rintro r w6 ⟨u6,rfl,ho6,hb6,_⟩;have HA6:=Lib.hid (HA5.out.call hb6);have HO6:=Lib.hid (ho6.mono HA5.out.sz);obtain ⟨a6,c6,rfl,_⟩:=HO6.out.is.form;obtain ⟨n6,hn6⟩:∃ n6,n6=(sinceB s f).length:=⟨_,rfl⟩;rw [←hn6] at HO6 ⊢;clear hn6;have HOH6:Hid (ownsE w6 (w.heap.size + 1) (.slice a3 n3 c3) (sinceH s f)):=Lib.hid (HOH5.out.below hb6);have HO56:Hid (ownsE w6 (w.heap.size + 1) (.slice a5 n5 c5) f):=Lib.hid (HO5.out.below hb6);obtain ⟨⟨r0,r1,r2⟩,g0,g1,g2⟩:=HA6.out.cr;clear ho6 hb6)
         | fail)
       obtain ⟨hR,hbR,hBU⟩:=HA6.out.out (.slice a5 n5 c5) (.slice a3 n3 c3) (.slice a6 n6 c6)
       obtain ⟨V,hV⟩:∃ V,V=((w6.setCell ⟨w.heap.size,0,none⟩ (.slice a5 n5 c5)).setCell ⟨w.heap.size,1,none⟩ (.slice a3 n3 c3)).setCell ⟨w.heap.size,2,none⟩ (.slice a6 n6 c6):=⟨_,rfl⟩
       rw [←hV] at hR hbR hBU ⊢
       clear hV
       have q0:=cell_of_row _ _ 0 _ _ _ hR
       have q1:=cell_of_row _ _ 1 _ _ _ hR
       have q2:=cell_of_row _ _ 2 _ _ _ hR
       refine bodyPost_ret (v:=.tuple #[.agg #[.slice a5 n5 c5,(.slice a3 n3 c3),.slice a6 n6 c6],.nilIface]) (by simp [results,Tryz.results20,go_sem,q0,q1,q2]) rfl ?_
       exact .inr ⟨HE.out,_,_,_,rfl,ownsE.mono (ownsRow_but HO56.out hBU (fun k e e2=>by have:=(HO56.out.lt k e).1;omega)) (by omega),ownsE.mono (ownsRow_but HOH6.out hBU (fun k e e2=>by have:=(HOH6.out.lt k e).1;omega)) (by omega),ownsW.mono (ownsRow_but HO6.out hBU (fun k e e2=>by have:=(HO6.out.lt k e).1;omega)) (by omega),hbR⟩
 · have HE:Hid (sinceE s f=eb):=Lib.hid (by rw [sinE_1 (by rw [HBF.out];exact he),HBF.out])
   have HIS:=Lib.hid (HAT.out.isErr he)
   obtain ⟨t,v,rfl⟩:=HAT.out.iface he
   have H4:=Lib.hid he
   clear he
   go_wp2_with (go_at_call 13;refine (tell_err _ eb w1 (HG.out.below HA1.out.bel) HIS.out).mono ?_;rintro r w2 ⟨rfl,hb2⟩;have HA2:=Lib.hid (HA1.out.call hb2);obtain ⟨⟨r0,r1,r2⟩,g0,g1,g2⟩:=HA2.out.cr;clear hb2)
   obtain ⟨hR,hbR,_⟩:=HA2.out.out (.slice none 0 0) (.slice none 0 0) (.slice none 0 0)
   obtain ⟨V,hV⟩:∃ V,V=((w2.setCell ⟨w.heap.size,0,none⟩ (.slice none 0 0)).setCell ⟨w.heap.size,1,none⟩ (.slice none 0 0)).setCell ⟨w.heap.size,2,none⟩ (.slice none 0 0):=⟨_,rfl⟩
   rw [←hV] at hR hbR ⊢
   clear hV
   have q0:=cell_of_row _ _ 0 _ _ _ hR
   have q1:=cell_of_row _ _ 1 _ _ _ hR
   have q2:=cell_of_row _ _ 2 _ _ _ hR
   refine bodyPost_ret (v:=.tuple #[.agg #[.slice none 0 0,.slice none 0 0,.slice none 0 0],.iface 42 (.int .i64 (eb:Nat))]) (by simp [results,Tryz.results20,go_sem,q0,q1,q2]) rfl ?_
   exact .inl (by rw [HE.out];exact ⟨H4.out,rfl,hbR⟩)
theorem LogOk.wr {s:LogS} (ok:LogOk s):∀ x∈s.ws,wrF x=0:=fun x hx=>(ok.mem x hx).1
set_option maxRecDepth 100000 in
theorem lcells_any (P:Nat) (s:LogS) (F:Nat→Prop) (w:World) (h:LogAt w P F s) (ok:LogOk s) :
   Calls Tryz.prog 21 #[.pointer (some ⟨P,0,none⟩)] w fun e w'=>∃ u,e=.returned u∧IsCells w' u (cellsF s.ws)∧Below w.heap.size w w'∧∀ k,u.ownBlock=some k→w.heap.size≤k:=by
 obtain ⟨vh,vw,h⟩:=h
 have p2:=h.c2
 have HI:=Lib.hid h.ows.is
 have HL:Hid (s.ws.length≤100000):=Lib.hid (by have:=ok.len;omega)
 have HS:=Lib.hid ok.wr
 clear h ok
 go_enter Tryz.func21,Tryz.ntmps21
 go_wp2_with (go_at_call 56;refine (of_new vw s.ws _ HI.out HS.out HL.out).mono ?_;rintro r w2 ⟨u,rfl,hu,hb,hfr⟩;have HU:=Lib.hid hu;have HB:=Lib.hid hb;have HFR:=Lib.hid hfr;clear hu hb hfr)
 go_ret
 exact ⟨_,rfl,HU.out,HB.out,HFR.out⟩
end Go.Proofs.YtifbebhgeheooaaGreatDoor
namespace Go.Proofs.YtifbebhgeheooaaGreatDoor
open Go.RowKit
structure Logs (W w:World) (D:Nat→Prop) (L:List (Nat×LogS)):Prop where
 ex:∃ Fs:Nat→Nat→Prop,(∀ i P s,L[i]? = some (P,s)→LogAt w P (Fs i) s∧∀ k,Fs i k→W.heap.size≤k)∧(∀ i j k,i < L.length→j < L.length→i≠j→Fs i k→¬ Fs j k)∧(∀ i k,i < L.length→D k→¬ Fs i k)
 data:∀ k,D k→k < w.heap.size
 ok:∀ p∈L,LogOk p.2
 bel:Below W.heap.size W w
theorem Logs.nil (W:World):Logs W W (fun _=>False) []:=⟨⟨fun _ _=>False,fun i P s h=>(by simp at h),fun i j k h=>(by simp at h),fun i k h=>(by simp at h)⟩,fun k h=>h.elim,fun p h=>(by cases h),Below.refl _ _⟩
theorem Logs.call {W w w':World} {D D':Nat→Prop} {L:List (Nat×LogS)} (h:Logs W w D L) (hb:Below w.heap.size w w') (hD:∀ k,D' k→D k∨(w.heap.size≤k∧k < w'.heap.size)):Logs W w' D' L:=by
 obtain ⟨⟨Fs,h1,h2,h3⟩,h4,h5,h6⟩:=h
 refine ⟨⟨Fs,fun i P s hi=>⟨(h1 i P s hi).1.below hb,(h1 i P s hi).2⟩,h2,fun i k hi hk hf=>?_⟩,fun k hk=>?_,h5,h6.trans (hb.mono h6.size)⟩
 · rcases hD k hk with h | ⟨h,_⟩
   · exact h3 i k hi h hf
   · obtain ⟨⟨P,s⟩,hL⟩:∃ p,L[i]? = some p:=⟨_,List.getElem?_eq_getElem hi⟩
     have:=(h1 i P s hL).1.lt k hf
     omega
 · rcases hD k hk with h | ⟨_,h⟩
   · exact Nat.lt_of_lt_of_le (h4 k h) hb.size
   · exact h
theorem Logs.keep {W w w':World} {D:Nat→Prop} {L:List (Nat×LogS)} (h:Logs W w D L) (hb:Below w.heap.size w w'):Logs W w' D L:=h.call hb (fun _ h=>.inl h)
theorem Logs.all {W w w':World} {D:Nat→Prop} {L:List (Nat×LogS)} (h:Logs W w D L) (hb:Below w.heap.size w w'):Logs W w' (fun k=>D k∨(w.heap.size≤k∧k < w'.heap.size)) L:=h.call hb (fun _ h=>h)
theorem Logs.new {W w w':World} {D:Nat→Prop} {L:List (Nat×LogS)} {P:Nat} {s:LogS} (h:Logs W w D L) (hb:Below w.heap.size w w') (hP:P=w.heap.size) (hl:LogAt w' P (fun k=>k=P) s) (ok:LogOk s):Logs W w' D (L ++ [(P,s)]):=by
 obtain ⟨⟨Fs,h1,h2,h3⟩,h4,h5,h6⟩:=h
 have hlt:∀ i k,i < L.length→Fs i k→k < w.heap.size:=fun i k hi hk=>by
   obtain ⟨⟨P',s'⟩,hL⟩:∃ p,L[i]? = some p:=⟨_,List.getElem?_eq_getElem hi⟩
   exact (h1 i P' s' hL).1.lt k hk
 refine ⟨⟨fun i=>if i < L.length then Fs i else fun k=>k=P,fun i P' s' hi=>?_,fun i j k hi hj hij hk=>?_,fun i k hi hk=>?_⟩,fun k hk=>Nat.lt_of_lt_of_le (h4 k hk) hb.size,fun p hp=>?_,h6.trans (hb.mono h6.size)⟩
 · by_cases hl':i < L.length
   · rw [List.getElem?_append_left hl'] at hi
     show LogAt w' P' (if i < L.length then Fs i else _) s'∧∀ k,(if i < L.length then Fs i else _) k→_
     rw [if_pos hl']
     exact ⟨(h1 i P' s' hi).1.below hb,(h1 i P' s' hi).2⟩
   · rw [List.getElem?_append_right (by omega)] at hi
     have hi0:i - L.length=0:=by
       have:=(List.getElem?_eq_some_iff.1 hi).1
       simp at this;omega
     rw [hi0] at hi
     simp only [List.getElem?_cons_zero,Option.some.injEq,Prod.mk.injEq] at hi
     obtain ⟨rfl,rfl⟩:=hi
     show LogAt w' P (if i < L.length then Fs i else _) s∧∀ k,(if i < L.length then Fs i else _) k→_
     rw [if_neg hl']
     exact ⟨hl,fun k (e:k=P)=>by have:=h6.size;omega⟩
 · rw [List.length_append] at hi hj
   simp only [List.length_cons,List.length_nil] at hi hj
   dsimp only at hk ⊢
   by_cases hi':i < L.length
   · rw [if_pos hi'] at hk
     by_cases hj':j < L.length
     · rw [if_pos hj'];exact h2 i j k hi' hj' hij hk
     · rw [if_neg hj']
       intro (e:k=P)
       have:=hlt i k hi' hk;omega
   · rw [if_neg hi'] at hk
     have hk':k=P:=hk
     by_cases hj':j < L.length
     · rw [if_pos hj']
       intro e
       have:=hlt j k hj' e;omega
     · omega
 · have:=h4 k hk
   dsimp only
   by_cases hi':i < L.length
   · rw [if_pos hi'];exact h3 i k hi' hk
   · rw [if_neg hi']
     intro (e:k=P)
     omega
 · rcases List.mem_append.1 hp with hp | hp
   · exact h5 p hp
   · rw [List.mem_singleton.1 hp];exact ok
theorem Logs.at {W w:World} {D:Nat→Prop} {L:List (Nat×LogS)} {i P:Nat} {s:LogS} (h:Logs W w D L) (hi:L[i]? = some (P,s)) :
   ∃ F,LogAt w P F s∧LogOk s∧∀ F' s' w',(∀ k,F' k→F k∨w.heap.size≤k)→LogAt w' P F' s'→But F w w'→LogOk s' →
     Logs W w' D (L.set i (P,s'))∧(∀ k,D k→w'.heap[k]? = w.heap[k]?)∧w.heap.size≤w'.heap.size:=by
 obtain ⟨⟨Fs,h1,h2,h3⟩,h4,h5,h6⟩:=h
 have hil:=(List.getElem?_eq_some_iff.1 hi).1
 refine ⟨Fs i,(h1 i P s hi).1,h5 _ (List.mem_of_getElem? hi),fun F' s' w' hF hl hb ok=>⟨⟨⟨fun j=>if j=i then F' else Fs j,fun j P' s'' hj=>?_,fun a b k ha hb' hab hk=>?_,fun j k hj hk=>?_⟩,fun k hk=>Nat.lt_of_lt_of_le (h4 k hk) hb.size,fun p hp=>?_,But.on h6 hb h6.size (h1 i P s hi).2⟩,fun k hk=>hb.block k (h4 k hk) (h3 i k hil hk),hb.size⟩⟩
 · show LogAt w' P' (if j=i then F' else Fs j) s''∧∀ k,(if j=i then F' else Fs j) k→_
   rcases set_at hj with ⟨rfl,e⟩ | ⟨hne,hj⟩
   · rw [if_pos rfl]
     simp only [Prod.mk.injEq] at e
     obtain ⟨rfl,rfl⟩:=e
     refine ⟨hl,fun k hk=>?_⟩
     rcases hF k hk with hk | hk
     · exact (h1 j _ _ hi).2 k hk
     · have:=h6.size;omega
   · rw [if_neg hne]
     have hjl:=(List.getElem?_eq_some_iff.1 hj).1
     exact ⟨(h1 j P' s'' hj).1.but hb (fun k hk hk2=>h2 j i k hjl hil hne hk hk2),(h1 j P' s'' hj).2⟩
 · rw [List.length_set] at ha hb'
   have hlt:∀ j k,j < L.length→Fs j k→k < w.heap.size:=fun j k hj hk=>by
     obtain ⟨⟨P',s''⟩,hL⟩:∃ p,L[j]? = some p:=⟨_,List.getElem?_eq_getElem hj⟩
     exact (h1 j P' s'' hL).1.lt k hk
   dsimp only at hk ⊢
   by_cases e:a=i
   · subst e
     rw [if_pos rfl] at hk
     rw [if_neg (fun e=>hab e.symm)]
     intro hk2
     rcases hF k hk with hk | hk
     · exact h2 a b k hil hb' hab hk hk2
     · have:=hlt b k hb' hk2;omega
   · rw [if_neg e] at hk
     by_cases e2:b=i
     · subst e2
       rw [if_pos rfl]
       intro hk2
       rcases hF k hk2 with hk2 | hk2
       · exact h2 a b k ha hil hab hk hk2
       · have:=hlt a k ha hk;omega
     · rw [if_neg e2];exact h2 a b k ha hb' hab hk
 · rw [List.length_set] at hj
   dsimp only
   by_cases e:j=i
   · subst e
     rw [if_pos rfl]
     intro hk2
     rcases hF k hk2 with hk2 | hk2
     · exact h3 j k hj hk hk2
     · have:=h4 k hk;omega
   · rw [if_neg e];exact h3 j k hj hk
 · rcases set_mem hp with rfl | hp
   · exact ok
   · exact h5 p hp
theorem IsWrs.at {w w':World} {v:Value} {l:List Wr} (h:IsWrs w v l) (hs:w.heap.size≤w'.heap.size) (hb:∀ k,v.ownBlock=some k→w'.heap[k]? = w.heap[k]?):IsWrs w' v l:=by
 rcases h with ⟨a,c,h1,h2⟩ | ⟨b,off,c,h1,h0,h2,h3⟩
 · exact .inl ⟨a,c,h1,h2⟩
 · exact .inr ⟨b,off,c,h1,h0,Nat.lt_of_lt_of_le h2 hs,fun j u hj=>(World.cell?_of_block (w:=w) (a:=⟨b,off + j,none⟩) (hb b (by rw [h1];rfl))).trans (h3 j u hj)⟩
theorem IsEnts.at {w w':World} {v:Value} {l:List Ent} (h:IsEnts w v l) (hs:w.heap.size≤w'.heap.size) (hb:∀ k,v.ownBlock=some k→w'.heap[k]? = w.heap[k]?):IsEnts w' v l:=by
 rcases h with ⟨a,c,h1,h2⟩ | ⟨b,off,c,h1,h0,h2,h3⟩
 · exact .inl ⟨a,c,h1,h2⟩
 · exact .inr ⟨b,off,c,h1,h0,Nat.lt_of_lt_of_le h2 hs,fun j u hj=>(World.cell?_of_block (w:=w) (a:=⟨b,off + j,Option.none⟩) (hb b (by rw [h1];rfl))).trans (h3 j u hj)⟩
theorem Gnew {W w:World} {D:Nat→Prop} {L:List (Nat×LogS)} (h:Logs W w D L) (r:Int) (hr:0≤r∧r≤200) :
   Calls Tryz.prog 10 #[.int .i64 r] w fun e w'=>e=.returned (.tuple #[.pointer (some ⟨w.heap.size,0,none⟩),.nilIface])∧Logs W w' D (L ++ [(w.heap.size,⟨r,[],[]⟩)])∧Below w.heap.size w w' :=
 (lnew_any r w hr).mono fun _ _ ⟨h1,h2,h3⟩=>⟨h1,h.new h3 rfl h2 (log_new hr),h3⟩
theorem Glocal {W w:World} {D:Nat→Prop} {L:List (Nat×LogS)} (h:Logs W w D L) {i P:Nat} {s:LogS} (hi:L[i]? = some (P,s)) (T0 R0 K:Int) (key val:ByteArray) (N:Int) (hk:key.size≤140737488351232) (hv:val.size≤140737488351232) (hg:errT w) (he:lcE s ⟨T0,R0,K,key,val,N⟩=0) :
   Calls Tryz.prog 17 #[.pointer (some ⟨P,0,none⟩),.agg #[.int .i64 T0,.int .i64 R0,.int .i64 K,.string key,.string val,.int .i64 N]] w fun e w' =>
     e=.returned (.tuple #[.agg #[.int .i64 (maxT s.hv + 1),.int .i64 s.rep],.nilIface])∧Logs W w' D (L.set i (P,lcS s ⟨T0,R0,K,key,val,N⟩))∧(∀ k,D k→w'.heap[k]? = w.heap[k]?)∧w.heap.size≤w'.heap.size:=by
 obtain ⟨F,h1,h2,h3⟩:=h.at hi
 refine (llocal_any P F s T0 R0 K key val N w h1 h2 hk hv hg).mono ?_
 rintro e w' (⟨h4,_⟩ | ⟨_,h4,F',h5,h6,h7⟩)
 · exact absurd he h4
 · obtain ⟨g1,g2,g3⟩:=h3 F' _ w' h5 h6 h7 (local_ok h2 he)
   exact ⟨h4,g1,g2,g3⟩
theorem GlocalE {W w:World} {D:Nat→Prop} {L:List (Nat×LogS)} (h:Logs W w D L) {i P:Nat} {s:LogS} (hi:L[i]? = some (P,s)) (T0 R0 K:Int) (key val:ByteArray) (N:Int) (hk:key.size≤140737488351232) (hv:val.size≤140737488351232) (hg:errT w) {x:Nat} (he:lcE s ⟨T0,R0,K,key,val,N⟩=x) (hx:x≠0) :
   Calls Tryz.prog 17 #[.pointer (some ⟨P,0,none⟩),.agg #[.int .i64 T0,.int .i64 R0,.int .i64 K,.string key,.string val,.int .i64 N]] w fun e w' =>
     e=.returned (.tuple #[.agg #[.int .i64 0,.int .i64 0],.iface 42 (.int .i64 (x:Nat))])∧Logs W w' D L∧Below w.heap.size w w':=by
 obtain ⟨F,h1,h2,h3⟩:=h.at hi
 refine (llocal_any P F s T0 R0 K key val N w h1 h2 hk hv hg).mono ?_
 rintro e w' (⟨_,h4,h5⟩ | ⟨h4,_⟩)
 · rw [he] at h4;exact ⟨h4,h.keep h5,h5⟩
 · rw [he] at h4;exact absurd h4 hx
theorem Gaccept {W w:World} {D:Nat→Prop} {L:List (Nat×LogS)} (h:Logs W w D L) {i P:Nat} {s:LogS} (hi:L[i]? = some (P,s)) (uf uh uw:Value) (f hh:List Ent) (b:List Wr) (hx:BatIs w uf uh uw f hh b) (hg:errT w) (he:(accE s f hh b).1=0) :
   Calls Tryz.prog 12 #[.pointer (some ⟨P,0,none⟩),.agg #[uf,uh,uw]] w fun e w' =>
     e=.returned (.tuple #[.int .i64 ((freshW s.ws b).length:Int),.nilIface])∧Logs W w' D (L.set i (P,accS s hh b))∧(∀ k,D k→w'.heap[k]? = w.heap[k]?)∧w.heap.size≤w'.heap.size:=by
 obtain ⟨F,h1,h2,h3⟩:=h.at hi
 refine (laccept_any P F s uf uh uw f hh b w h1 h2 hx hg).mono ?_
 rintro e w' (⟨h4,_⟩ | ⟨_,h4,F',h5,h6,h7⟩)
 · exact absurd he h4
 · obtain ⟨g1,g2,g3⟩:=h3 F' _ w' h5 h6 h7 (accept_ok h2 he)
   exact ⟨h4,g1,g2,g3⟩
theorem GacceptE {W w:World} {D:Nat→Prop} {L:List (Nat×LogS)} (h:Logs W w D L) {i P:Nat} {s:LogS} (hi:L[i]? = some (P,s)) (uf uh uw:Value) (f hh:List Ent) (b:List Wr) (hx:BatIs w uf uh uw f hh b) (hg:errT w) {x:Nat} {pl:Int} (he:accE s f hh b=(x,pl)) (h0:x≠0) :
   Calls Tryz.prog 12 #[.pointer (some ⟨P,0,none⟩),.agg #[uf,uh,uw]] w fun e w' =>
     ∃ t u,e=.returned (.tuple #[.int .i64 0,.iface t u])∧anyErr w' (.iface t u) (x,pl)∧Logs W w' D L∧Below w.heap.size w w':=by
 obtain ⟨F,h1,h2,h3⟩:=h.at hi
 refine (laccept_any P F s uf uh uw f hh b w h1 h2 hx hg).mono ?_
 rintro e w' (⟨_,t,u,h4,h5,h6⟩ | ⟨h4,_⟩)
 · rw [he] at h5;exact ⟨t,u,h4,h5,h.keep h6,h6⟩
 · rw [he] at h4;exact absurd h4 h0
theorem Ghave {W w:World} {D:Nat→Prop} {L:List (Nat×LogS)} (h:Logs W w D L) {i P:Nat} {s:LogS} (hi:L[i]? = some (P,s)) :
   Calls Tryz.prog 19 #[.pointer (some ⟨P,0,none⟩)] w fun e w'=>∃ a c,e=.returned (.slice a s.hv.length c)∧ownsE w' w.heap.size (.slice a s.hv.length c) s.hv∧Below w.heap.size w w':=by
 obtain ⟨F,h1,h2,h3⟩:=h.at hi
 refine (lhave_any P s F w h1 h2).mono ?_
 rintro e w' ⟨u,rfl,ho,hb⟩
 obtain ⟨a,c,rfl,_⟩:=ho.is.form
 exact ⟨a,c,rfl,ho,hb⟩
theorem Gwrites {W w:World} {D:Nat→Prop} {L:List (Nat×LogS)} (h:Logs W w D L) {i P:Nat} {s:LogS} (hi:L[i]? = some (P,s)) :
   Calls Tryz.prog 15 #[.pointer (some ⟨P,0,none⟩)] w fun e w'=>∃ a c,e=.returned (.slice a s.ws.length c)∧ownsW w' w.heap.size (.slice a s.ws.length c) s.ws∧Below w.heap.size w w':=by
 obtain ⟨F,h1,h2,h3⟩:=h.at hi
 refine (lwrites_any P s F w h1 h2).mono ?_
 rintro e w' ⟨u,rfl,ho,hb⟩
 obtain ⟨a,c,rfl,_⟩:=ho.is.form
 exact ⟨a,c,rfl,ho,hb⟩
theorem Gcells {W w:World} {D:Nat→Prop} {L:List (Nat×LogS)} (h:Logs W w D L) {i P:Nat} {s:LogS} (hi:L[i]? = some (P,s)) :
   Calls Tryz.prog 21 #[.pointer (some ⟨P,0,none⟩)] w fun e w'=>∃ u,e=.returned u∧IsCells w' u (cellsF s.ws)∧Below w.heap.size w w'∧∀ k,u.ownBlock=some k→w.heap.size≤k:=by
 obtain ⟨F,h1,h2,h3⟩:=h.at hi
 exact lcells_any P s F w h1 h2
theorem Gsince {W w:World} {D:Nat→Prop} {L:List (Nat×LogS)} (h:Logs W w D L) {i P:Nat} {s:LogS} (hi:L[i]? = some (P,s)) (v:Value) (f:List Ent) (hf:IsEnts w v f) (hfl:f.length≤9223372036854775807) (hg:errT w) (he:sinceE s f=0) :
   Calls Tryz.prog 20 #[.pointer (some ⟨P,0,none⟩),v] w fun e w'=>∃ a1 c1 a2 c2 a3 c3,e=.returned (.tuple #[.agg #[.slice a1 f.length c1,.slice a2 (sinceH s f).length c2,.slice a3 (sinceB s f).length c3],.nilIface]) ∧
     ownsE w' w.heap.size (.slice a1 f.length c1) f∧ownsE w' w.heap.size (.slice a2 (sinceH s f).length c2) (sinceH s f)∧ownsW w' w.heap.size (.slice a3 (sinceB s f).length c3) (sinceB s f)∧Below w.heap.size w w':=by
 obtain ⟨F,h1,h2,h3⟩:=h.at hi
 refine (lsince_any P F s v f w h1 h2 hf hfl hg).mono ?_
 rintro e w' (⟨h4,_⟩ | ⟨_,uf,uh,uw,rfl,o1,o2,o3,hb⟩)
 · exact absurd he h4
 · obtain ⟨a1,c1,rfl,_⟩:=o1.is.form
   obtain ⟨a2,c2,rfl,_⟩:=o2.is.form
   obtain ⟨a3,c3,rfl,_⟩:=o3.is.form
   exact ⟨a1,c1,a2,c2,a3,c3,rfl,o1,o2,o3,hb⟩
theorem wrOk_of {x:Wr} (h:wE x=0):WrOk x:=by
 obtain ⟨h1,_,h3,h4,h5,h6⟩:=wriE_good (show wriE x.time x.rep x.kind x.key x.value x.n=0 from h)
 have hn : -1125899906842624≤x.n∧x.n≤1125899906842624:=by
   unfold fitsN at h6
   split at h6
   · simp at h6;omega
   · split at h6
     · simp at h6;omega
     · rename_i k3 k4
       have:x.n=0:=Classical.byContradiction (fun e=>h5 (.inr ⟨e,by unfold hasN;simp [k3,k4]⟩))
       omega
 exact ⟨by omega,by omega,by omega,by omega⟩
theorem batIs_of {w:World} {b1 b2 b3:Nat} {uf uh uw:Value} {f h:List Ent} {l:List Wr} (o1:ownsE w b1 uf f) (o2:ownsE w b2 uh h) (o3:ownsW w b3 uw l) (h1:f.length≤1000000) (h2:h.length≤1000000) (h3:l.length≤1000000) (hw:∀ x∈l,wE x=0):BatIs w uf uh uw f h l :=
 ⟨o1.is,o2.is,o3.is,by omega,by omega,by omega,fun x hx=>wrOk_of (hw x hx)⟩
end Go.Proofs.YtifbebhgeheooaaGreatDoor
