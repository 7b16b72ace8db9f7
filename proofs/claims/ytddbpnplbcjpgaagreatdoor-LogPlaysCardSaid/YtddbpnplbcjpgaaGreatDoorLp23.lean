import Derived.Test.YtddbpnplbcjpgaaGreatDoorLp21
namespace Go.Proofs.YtddbpnplbcjpgaaGreatDoor
open Go.RowKit
def RJoinIs (w:World) (a b:List Ent) (e:Ending) (w':World):Prop :=
 ∃ v,e=.returned (.tuple #[v,.int .i64 ((joinR a b).1:Nat)])∧ownsE w' w.heap.size v (joinR a b).2∧Below w.heap.size w w'
theorem rjoin_is {a b l:List Ent} {e:Nat} (h:joinR a b=(e,l)) (w w':World) (v:Value) (ho:ownsE w' w.heap.size v l) (hb:Below w.heap.size w w'):RJoinIs w a b (.returned (.tuple #[v,.int .i64 (e:Nat)])) w':=by
 refine ⟨v,?_,?_,hb⟩
 · rw [h]
 · rw [h];exact ho
set_option maxRecDepth 100000 in
set_option maxHeartbeats 4000000 in
theorem rvjoin_any (va vb:Value) (a b:List Ent) (w:World) (ha:IsEnts w va a) (hb:IsEnts w vb b) (hla:a.length≤9223372036854775807) (hlb:b.length≤9223372036854775807) :
   Calls Tryz.prog 25 #[va,vb] w (RJoinIs w a b):=by
 have HVA:=Lib.hid ha
 have HVB:=Lib.hid hb
 have HLA:=Lib.hid hla
 have HLB:=Lib.hid hlb
 obtain ⟨aa,ca,rfl,_⟩:=ha.form
 obtain ⟨ab,cb,rfl,_⟩:=hb.form
 obtain ⟨na,hna⟩:∃ n,n=a.length:=⟨_,rfl⟩
 obtain ⟨nb,hnb⟩:∃ n,n=b.length:=⟨_,rfl⟩
 rw [←hna] at HVA ⊢
 rw [←hnb] at HVB ⊢
 clear ha hb hla hlb hna hnb
 by_cases h1:(vrightF a).1=0
 · have HR1:=Lib.hid (vright_good h1)
   by_cases h2:(vrightF b).1=0
   · have HR2:=Lib.hid (vright_good h2)
     have H1:=Lib.hid h1
     have H2:=Lib.hid h2
     clear h1 h2
     go_enter Tryz.func25,Tryz.ntmps25
     go_wp2_with fail
     refine (rvright_as _ a 0 (-1) _ HVA.out HLA.out HR1.out).mono ?_
     rintro r w1 ⟨rfl,hb1⟩
     have HB1:=Lib.hid hb1
     clear hb1
     go_wp2_with fail
     refine (is_any 0 (-1) _).mono ?_
     rintro r w2 ⟨rfl,hb2⟩
     have HB2:Hid (Below w.heap.size w w2):=(HB1.out.alloc HB1.out.size _).trans (hb2.mono (by have:=HB1.out.size;simp;omega))
     clear hb2
     go_wp2_with fail
     refine (rvright_as _ b 0 (-1) _ (HVB.out.below HB2.out) HLB.out HR2.out).mono ?_
     rintro r w3 ⟨rfl,hb3⟩
     have HB3:Hid (Below w.heap.size w w3):=HB2.out.trans (hb3.mono HB2.out.size)
     clear hb3
     go_wp2_with fail
     refine (is_any 0 (-1) _).mono ?_
     rintro r w4 ⟨rfl,hb4⟩
     have HB4:Hid (Below w.heap.size w w4):=(HB3.out.alloc HB3.out.size _).trans (hb4.mono (by have:=HB3.out.size;simp;omega))
     clear hb4
     go_wp2
     go_loopw [8,9] (fun lv i wr=>∃ k:Nat,k≤201∧i=.int .i64 k∧ownsE wr w.heap.size lv (tab (jF a b) k)∧Below w.heap.size w wr) (fun _ i _=>201 - (intOf i).toNat)
     case atStart=>exact ⟨0,by omega,rfl,ownsE_nil _ _,HB4.out⟩
     case round =>
       obtain ⟨k,hk,rfl,ho,hb⟩:=hrel
       have HO:=Lib.hid ho
       have HB5:=Lib.hid hb
       have hz5:=hb.size
       clear ho hb
       by_cases hlt:k < 201
       · have hlt':(k:Int)≤200:=by omega
         have hlen:=tab_len (jF a b) k
         obtain ⟨x,hx⟩:∃ x,ofF a (k:Int)=x:=⟨_,rfl⟩
         obtain ⟨y,hy⟩:∃ y,ofF b (k:Int)=y:=⟨_,rfl⟩
         have HX:=Lib.hid hx
         have HY:=Lib.hid hy
         obtain ⟨m,hm⟩:∃ m,max x y=m:=⟨_,rfl⟩
         have hm2:(if x < y then y else x)=m:=by rw [←hm];split <;> omega
         have hj:jF a b k=m:=by unfold jF;rw [hx,hy,hm]
         by_cases hp:0 < m
         · have HT:Hid (tab (jF a b) (k + 1)=tab (jF a b) k ++ [⟨k,m⟩]):=Lib.hid (show tab (jF a b) (k + 1)=tab (jF a b) k ++ [⟨k,m⟩] by rw [tab_yes (by rw [hj];exact hp),hj])
           clear hx hy hj
           go_wp2_with fail
           refine (rof_as _ a k x _ (HVA.out.below HB5.out) HLA.out HX.out).mono ?_
           rintro r w' ⟨rfl,rfl⟩
           go_wp2_with fail
           refine (rof_as _ b k y _ (HVB.out.below HB5.out) HLB.out HY.out).mono ?_
           rintro r w' ⟨rfl,rfl⟩
           go_wp2_with (at_builtin;refine wpList_append_ent rfl _ _ rfl w.heap.size _ (tab (jF a b) k) rfl (HO.out.alloc _) wr.heap.size 1 rfl ⟨k,m⟩ ?c1 ?c2 ?c3 ?_)
           case c1=>exact entBlk_new _ _ _
           case c2=>omega
           case c3=>simp;omega
           · intro g cap w2 ho2 hg2
             have HO2:Hid (ownsE w2 w.heap.size (.slice (some ⟨g,0,none⟩) ((tab (jF a b) k).length + 1) cap) (tab (jF a b) (k + 1))):=Lib.hid (show ownsE w2 w.heap.size (.slice (some ⟨g,0,none⟩) ((tab (jF a b) k).length + 1) cap) (tab (jF a b) (k + 1)) by rw [HT.out];exact ho2)
             have HB3:Hid (Below w.heap.size w w2):=(HB5.out.alloc hz5 _).grown hg2 (by simp;omega) (fun g hg=>(HO.out.lt g hg).1)
             clear ho2 hg2
             go_wp2
             go_roundw
             case rel=>exact ⟨k + 1,by omega,by go_num,HO2.out,HB3.out⟩
             case measure=>simp [intOf];omega
         · have HT:Hid (tab (jF a b) (k + 1)=tab (jF a b) k):=Lib.hid (show tab (jF a b) (k + 1)=tab (jF a b) k by rw [tab_no (by rw [hj];exact hp)])
           clear hx hy hj
           go_wp2_with fail
           refine (rof_as _ a k x _ (HVA.out.below HB5.out) HLA.out HX.out).mono ?_
           rintro r w' ⟨rfl,rfl⟩
           go_wp2_with fail
           refine (rof_as _ b k y _ (HVB.out.below HB5.out) HLB.out HY.out).mono ?_
           rintro r w' ⟨rfl,rfl⟩
           go_wp2
           go_roundw
           case rel=>exact ⟨k + 1,by omega,by go_num,by rw [HT.out];exact HO.out,HB5.out⟩
           case measure=>simp [intOf];omega
       · obtain rfl:k=201:=by omega
         obtain ⟨av,cv,hv,_⟩:=HO.out.is.form
         subst hv
         obtain ⟨m,hm⟩:∃ m,m=(joinL a b).length:=⟨_,rfl⟩
         have HM:=Lib.hid hm
         have hml:m≤201:=by rw [hm];exact tab_len _ 201
         have hm':(tab (jF a b) 201).length=m:=hm.symm
         rw [hm'] at HO ⊢
         have HO2:Hid (ownsE wr w.heap.size (.slice av m cv) (joinL a b)):=HO
         clear hm hm' hlt HO
         by_cases h16:16 < m
         · have HJ:=Lib.hid (joinR_many H1.out H2.out (by rw [←HM.out];exact h16))
           go_wp2
           go_ret2
           exact rjoin_is HJ.out w _ _ (ownsE_nil _ _) HB5.out
         · have HJ:=Lib.hid (joinR_ok H1.out H2.out (by rw [←HM.out];exact h16))
           go_wp2
           go_ret2
           exact rjoin_is HJ.out w _ _ HO2.out HB5.out
   · have HJ:=Lib.hid (joinR_b h1 h2)
     obtain ⟨e,pl,hr⟩:∃ e pl,vrightF b=(e,pl):=⟨_,_,rfl⟩
     rw [hr] at HJ h2
     have HR2:=Lib.hid hr
     have hne:((e:Int) == 0)=false:=by simp;exact h2
     clear h1 h2 hr
     go_enter Tryz.func25,Tryz.ntmps25
     go_wp2_with fail
     refine (rvright_as _ a 0 (-1) _ HVA.out HLA.out HR1.out).mono ?_
     rintro r w1 ⟨rfl,hb1⟩
     have HB1:=Lib.hid hb1
     clear hb1
     go_wp2_with fail
     refine (is_any 0 (-1) _).mono ?_
     rintro r w2 ⟨rfl,hb2⟩
     have HB2:Hid (Below w.heap.size w w2):=(HB1.out.alloc HB1.out.size _).trans (hb2.mono (by have:=HB1.out.size;simp;omega))
     clear hb2
     go_wp2_with fail
     refine (rvright_as _ b e pl _ (HVB.out.below HB2.out) HLB.out HR2.out).mono ?_
     rintro r w3 ⟨rfl,hb3⟩
     have HB3:Hid (Below w.heap.size w w3):=HB2.out.trans (hb3.mono HB2.out.size)
     clear hb3
     go_wp2_with fail
     refine (is_any e pl _).mono ?_
     rintro r w4 ⟨rfl,hb4⟩
     rw [hne]
     have c0:w4.cell? ⟨w3.heap.size,0,none⟩=some (.int .i64 e):=(hb4.cell (by simp)).trans (by simp)
     have HB4:Hid (Below w.heap.size w w4):=(HB3.out.alloc HB3.out.size _).trans (hb4.mono (by have:=HB3.out.size;simp;omega))
     clear hb4
     go_wp2
     go_quiet (fail)
     go_wp2
     go_ret2
     exact rjoin_is HJ.out w _ _ (ownsE_nil _ _) (below_drewN HB4.out _)
 · have HJ:=Lib.hid (joinR_a (b:=b) h1)
   obtain ⟨e,pl,hr⟩:∃ e pl,vrightF a=(e,pl):=⟨_,_,rfl⟩
   rw [hr] at HJ h1
   have HR2:=Lib.hid hr
   have hne:((e:Int) == 0)=false:=by simp;exact h1
   clear h1 hr
   go_enter Tryz.func25,Tryz.ntmps25
   go_wp2_with fail
   refine (rvright_as _ a e pl _ HVA.out HLA.out HR2.out).mono ?_
   rintro r w3 ⟨rfl,hb3⟩
   have HB3:Hid (Below w.heap.size w w3):=Lib.hid hb3
   clear hb3
   go_wp2_with fail
   refine (is_any e pl _).mono ?_
   rintro r w4 ⟨rfl,hb4⟩
   rw [hne]
   have c0:w4.cell? ⟨w3.heap.size,0,none⟩=some (.int .i64 e):=(hb4.cell (by simp)).trans (by simp)
   have HB4:Hid (Below w.heap.size w w4):=(HB3.out.alloc HB3.out.size _).trans (hb4.mono (by have:=HB3.out.size;simp;omega))
   clear hb4
   go_wp2
   go_quiet (fail)
   go_wp2
   go_ret2
   exact rjoin_is HJ.out w _ _ (ownsE_nil _ _) (below_drewN HB4.out _)
end Go.Proofs.YtddbpnplbcjpgaaGreatDoor
namespace Go.Proofs.YtddbpnplbcjpgaaGreatDoor
open Go.RowKit
theorem LogIn.put {wr:World} {P m:Nat} {F:Nat→Prop} {s s':LogS} {vh vw vh' vw':Value} (h:LogIn wr P F s vh vw) (he:ownsE wr m vh' s'.hv) (ho:ownsW wr m vw' s'.ws) (hr:s'.rep=s.rep) (hz:s'.ws=[]→vw'=.slice none 0 0) :
   LogIn ((wr.setCell ⟨P,1,none⟩ vh').setCell ⟨P,2,none⟩ vw') P (fun k=>(F k∨m≤k)∧k < wr.heap.size) s' vh' vw':=by
 have r1:=heap_setCell_same _ _ 1 _ _ vh' h.row
 have r2:=heap_setCell_same _ _ 2 _ _ vw' r1
 have hB:But (fun k=>k=P) wr ((wr.setCell ⟨P,1,none⟩ vh').setCell ⟨P,2,none⟩ vw'):=((But.refl (fun k=>k=P) wr).setCell (.inl (show P=P from rfl)) _).setCell (.inl (show P=P from rfl)) _
 refine ⟨by rw [hr];exact r2,ownsRow_but (he.mono (Nat.zero_le _)) hB (fun k e e2=>?_),ownsRow_but (ho.mono (Nat.zero_le _)) hB (fun k e e2=>?_),⟨.inl h.inP,h.plt'⟩,fun k e=>⟨.inr (he.lt k e).1,(he.lt k e).2⟩,fun k e=>⟨.inr (ho.lt k e).1,(ho.lt k e).2⟩,fun k hk=>by simpa using hk.2,hz⟩
 · subst e2;exact ownsRow_row he h.row (Ne.symm log_ent) e
 · subst e2;exact ownsRow_row ho h.row (Ne.symm log_wr) e
structure AC (w W:World) (P:Nat) (F:Nat→Prop) (s:LogS) (vh vw uf uh uw:Value):Prop where
 rowb:W.heap[w.heap.size]? = some (.cells #[uf,uh,uw] 30 (0,0))
 log:LogIn W P F s vh vw
 bel:Below w.heap.size w W
 sz:w.heap.size + 1≤W.heap.size
 fl:∀ k,F k→k < w.heap.size
section
variable {w W:World} {P:Nat} {F:Nat→Prop} {s:LogS} {vh vw uf uh uw:Value}
theorem AC.call {W':World} (h:AC w W P F s vh vw uf uh uw) (hb:Below W.heap.size W W'):AC w W' P F s vh vw uf uh uw :=
 ⟨(hb.block _ (by have:=h.sz;omega)).trans h.rowb,h.log.below hb,h.bel.trans (hb.mono h.bel.size),Nat.le_trans h.sz hb.size,h.fl⟩
theorem AC.cb (h:AC w W P F s vh vw uf uh uw):W.cell? ⟨w.heap.size,0,none⟩=some uf∧W.cell? ⟨w.heap.size,1,none⟩=some uh∧W.cell? ⟨w.heap.size,2,none⟩=some uw :=
 ⟨cell_of_row _ _ 0 _ _ _ h.rowb,cell_of_row _ _ 1 _ _ _ h.rowb,cell_of_row _ _ 2 _ _ _ h.rowb⟩
end
def AccIs (w:World) (P:Nat) (F:Nat→Prop) (s:LogS) (f h:List Ent) (b:List Wr) (e:Ending) (w':World):Prop :=
 ((accE s f h b).1≠0∧∃ t u,e=.returned (.tuple #[.int .i64 0,.iface t u])∧anyErr w' (.iface t u) (accE s f h b)∧Below w.heap.size w w') ∨
 ((accE s f h b).1=0∧e=.returned (.tuple #[.int .i64 ((freshW s.ws b).length:Int),.nilIface])∧∃ F',(∀ k,F' k→F k∨w.heap.size≤k)∧LogAt w' P F' (accS s h b)∧But F w w')
theorem accE_b {s:LogS} {f h:List Ent} {b:List Wr} (h1:(batF f h b).1≠0):accE s f h b=batF f h b:=by unfold accE;rw [if_pos h1]
theorem accE_o {s:LogS} {f h:List Ent} {b:List Wr} (h1:(batF f h b).1=0) (h2:covB s.hv f=false):accE s f h b=(10,-1):=by unfold accE;rw [if_neg (by rw [h1];simp),if_pos h2]
theorem accE_j {s:LogS} {f h:List Ent} {b:List Wr} (h1:(batF f h b).1=0) (h2:covB s.hv f=true) (h3:(joinR s.hv h).1≠0):accE s f h b=((joinR s.hv h).1,-1):=by unfold accE;rw [if_neg (by rw [h1];simp),if_neg (by rw [h2];simp),if_pos h3]
theorem accE_t {s:LogS} {f h:List Ent} {b:List Wr} (h1:(batF f h b).1=0) (h2:covB s.hv f=true) (h3:(joinR s.hv h).1=0):accE s f h b=togE s.ws b:=by unfold accE togE;rw [if_neg (by rw [h1];simp),if_neg (by rw [h2];simp),if_neg (by rw [h3];simp)] <;> rfl
set_option maxRecDepth 100000 in
set_option maxHeartbeats 8000000 in
theorem laccept_any (P:Nat) (F:Nat→Prop) (s:LogS) (uf uh uw:Value) (f h:List Ent) (b:List Wr) (w:World) (hl:LogAt w P F s) (ok:LogOk s) (hx:BatIs w uf uh uw f h b) (hg:errT w) :
   Calls Tryz.prog 10 #[.pointer (some ⟨P,0,none⟩),.agg #[uf,uh,uw]] w (AccIs w P F s f h b):=by
 obtain ⟨vh,vw,hl⟩:=hl
 have HOK:=Lib.hid ok
 have HX:=Lib.hid hx
 have HG:=Lib.hid hg
 obtain ⟨af,cf,rfl,_⟩:=hx.1.form
 obtain ⟨ah,ch,rfl,_⟩:=hx.2.1.form
 obtain ⟨ab,cb,rfl,_⟩:=hx.2.2.1.form
 obtain ⟨av,cv,rfl,_⟩:=hl.ents.is.form
 obtain ⟨aw,cw,rfl,_⟩:=hl.ows.is.form
 have HLF:Hid (f.length≤9223372036854775807∧h.length≤9223372036854775807∧s.hv.length≤9223372036854775807):=Lib.hid ⟨hx.2.2.2.1,hx.2.2.2.2.1,by have:=ok.hv.1;omega⟩
 obtain ⟨nf,hnf⟩:∃ n,n=f.length:=⟨_,rfl⟩
 obtain ⟨nh,hnh⟩:∃ n,n=h.length:=⟨_,rfl⟩
 obtain ⟨nb,hnb⟩:∃ n,n=b.length:=⟨_,rfl⟩
 obtain ⟨nv,hnv⟩:∃ n,n=s.hv.length:=⟨_,rfl⟩
 obtain ⟨n,hn⟩:∃ n,n=s.ws.length:=⟨_,rfl⟩
 rw [←hnf,←hnh,←hnb] at HX ⊢
 rw [←hnv,←hn] at hl
 have HN:=Lib.hid hn
 have hn3:n≤300:=by rw [hn];exact ok.len
 have HA0:Hid (AC w (w.alloc (.cells #[.slice af nf cf,.slice ah nh ch,.slice ab nb cb] 30)) P F s (.slice av nv cv) (.slice aw n cw) (.slice af nf cf) (.slice ah nh ch) (.slice ab nb cb)):=Lib.hid
   ⟨heap_alloc_new _ _,hl.below ((Below.refl _ _).alloc (Nat.le_refl _) _),(Below.refl _ _).alloc (Nat.le_refl _) _,by simp,hl.lt⟩
 have HXF:Hid (∀ W',Below w.heap.size w W'→IsEnts W' (.slice af nf cf) f∧IsEnts W' (.slice ah nh ch) h∧IsWrs W' (.slice ab nb cb) b):=Lib.hid (fun W' hb=>⟨HX.out.1.below hb,HX.out.2.1.below hb,HX.out.2.2.1.below hb⟩)
 obtain ⟨eb,pb,hb⟩:∃ e pl,batF f h b=(e,pl):=⟨_,_,rfl⟩
 have HBF:=Lib.hid hb
 clear hl ok hx hg hnf hnh hnb hnv hn hb
 go_enter Tryz.func10,Tryz.ntmps10
 go_wp2_with fail
 obtain ⟨W,hW⟩:∃ W,W=w.alloc (.cells #[.slice af nf cf,.slice ah nh ch,.slice ab nb cb] 30):=⟨_,rfl⟩
 rw [←hW] at HA0 ⊢
 clear hW
 refine (bright_any _ _ _ f h b W (HX.out.below HA0.out.bel).1 (HX.out.below HA0.out.bel).2.1 (HX.out.below HA0.out.bel).2.2.1 HLF.out.1 HLF.out.2.1 (HX.out.below HA0.out.bel).2.2.2.2.2.2 (HG.out.below HA0.out.bel)).mono ?_
 rintro r w1 ⟨err,rfl,hat,hb1⟩
 rw [HBF.out] at hat
 have HA1:=Lib.hid (HA0.out.call hb1)
 have HAT:=Lib.hid hat
 clear hb1 hat HA0
 by_cases he:eb=0
 · subst he
   obtain rfl:=HAT.out.nil rfl
   have HBF2:Hid ((batF f h b).1=0):=Lib.hid (by rw [HBF.out])
   have HRB:=Lib.hid (batF_ok.1 HBF2.out)
   have p1:=HA1.out.log.c1
   obtain ⟨c0,c1,c2⟩:=HA1.out.cb
   go_wp2
   have k0:w1.drew.cell? ⟨P,1,none⟩=some (.slice av nv cv)∧w1.drew.cell? ⟨w.heap.size,0,none⟩=some (.slice af nf cf):=⟨p1,c0⟩
   have HD1:Hid (AC w w1.drew P F s (.slice av nv cv) (.slice aw n cw) (.slice af nf cf) (.slice ah nh ch) (.slice ab nb cb)):=Lib.hid (HA1.out.call (Below.refl _ _).drew)
   obtain ⟨cc,hcc⟩:∃ cc,covB s.hv f=cc:=⟨_,rfl⟩
   have HCC:=Lib.hid hcc
   clear hcc p1 c0 c1 c2
   go_region_held3 (fun w'=>w'.cell? ⟨P,1,none⟩=some (.slice av nv cv)∧w'.cell? ⟨w.heap.size,0,none⟩=some (.slice af nf cf)) (first | exact k0 | exact k1 | fail) (first
     | (go_at_call 36;((with_reducible refine (bcov_as (.slice av nv cv) (.slice af nf cf) s.hv f cc w1.drew HD1.out.log.ents.is (HXF.out _ HD1.out.bel).1 HLF.out.2.2 HLF.out.1 HCC.out).mono ?_);rintro r w2 ⟨rfl,hb2⟩;have HA2:=Lib.hid (HD1.out.call hb2);have k1:w2.cell? ⟨P,1,none⟩=some (.slice av nv cv)∧w2.cell? ⟨w.heap.size,0,none⟩=some (.slice af nf cf):=⟨HA2.out.log.c1,HA2.out.cb.1⟩;clear hb2))
     | fail)
   clear k0 k1 HD1 HA1
   cases cc with
   | false =>
     have HE:Hid (accE s f h b=(10,-1)):=Lib.hid (accE_o HBF2.out HCC.out)
     go_wp2
     go_ret2
     exact .inl (by rw [HE.out];exact ⟨by simp,_,_,rfl,.inr ⟨by simp,rfl,rfl⟩,HA2.out.bel⟩)
   | true =>
     obtain ⟨e4,j,hj⟩:∃ e4 j,joinR s.hv h=(e4,j):=⟨_,_,rfl⟩
     have HJ:=Lib.hid hj
     have p1:=HA2.out.log.c1
     obtain ⟨c0,c1,c2⟩:=HA2.out.cb
     clear hj
     go_wp2
     have k0:w2.drew.cell? ⟨P,1,none⟩=some (.slice av nv cv)∧w2.drew.cell? ⟨w.heap.size,1,none⟩=some (.slice ah nh ch):=⟨p1,c1⟩
     have HD2:Hid (AC w w2.drew P F s (.slice av nv cv) (.slice aw n cw) (.slice af nf cf) (.slice ah nh ch) (.slice ab nb cb)):=Lib.hid (HA2.out.call (Below.refl _ _).drew)
     clear p1 c0 c1 c2
     go_region_held3 (fun w'=>w'.cell? ⟨P,1,none⟩=some (.slice av nv cv)∧w'.cell? ⟨w.heap.size,1,none⟩=some (.slice ah nh ch)) (first | exact k0 | exact k1 | fail) (first
       | (go_at_call 37;((with_reducible refine (vjoin_any (.slice av nv cv) (.slice ah nh ch) s.hv h w2.drew HD2.out.log.ents.is (HXF.out _ HD2.out.bel).2.1 HLF.out.2.2 HLF.out.2.1 (HG.out.below HD2.out.bel)).mono ?_);rintro r w3 ⟨u,rfl,ho3,hb3⟩;rw [HJ.out] at ho3 ⊢;obtain ⟨au,cu,rfl,_⟩:=ho3.is.form;obtain ⟨nj,hnj⟩:∃ nj,nj=j.length:=⟨_,rfl⟩;dsimp only at ho3 ⊢;rw [←hnj] at ho3 ⊢;clear hnj;have HO3:Hid (ownsE w3 (w.heap.size + 1) (.slice au nj cu) j):=Lib.hid (ho3.mono HD2.out.sz);have HA3:=Lib.hid (HD2.out.call hb3);have k1:w3.cell? ⟨P,1,none⟩=some (.slice av nv cv)∧w3.cell? ⟨w.heap.size,1,none⟩=some (.slice ah nh ch):=⟨HA3.out.log.c1,HA3.out.cb.2.1⟩;clear hb3 ho3))
       | fail)
     clear k0 k1 HD2 HA2
     by_cases h4:e4=0
     · subst h4
       have HE0:Hid (accE s f h b=togE s.ws b):=Lib.hid (accE_t HBF2.out HCC.out (by rw [HJ.out]))
       rw [noV_0]
       obtain ⟨_,_,c2⟩:=HA3.out.cb
       have HSZ:Hid (∀ x∈b,x.key.size≤140737488351232∧x.value.size≤140737488351232):=Lib.hid (fun x hx=>by have:=HX.out.2.2.2.2.2.2 x hx;exact ⟨this.2.2.1,this.2.2.2⟩)
       go_wp2_with fail
       refine (together_any P F s (.slice ab nb cb) b w3 ⟨_,_,HA3.out.log⟩ HOK.out (HX.out.2.2.1.below HA3.out.bel) (okW_none.1 HRB.out.2.2).2 HRB.out.2.1 HSZ.out).mono ?_
       rintro r w4 (⟨ht,u,rfl,ho4,hz4,hb4⟩ | ⟨ht,err,rfl,hat4,hb4⟩)
       · obtain ⟨m,hm⟩:∃ m,m=(accW s.ws b).length:=⟨_,rfl⟩
         have hmf:m=n + (freshW s.ws b).length:=by rw [hm,accW_len,HN.out]
         obtain ⟨fr,hfr⟩:∃ fr,fr=(freshW s.ws b).length:=⟨_,rfl⟩
         rw [←hfr] at hmf
         have HFR:=Lib.hid hfr
         obtain ⟨a4,c4,rfl,_⟩:=ho4.is.form
         rw [←hm] at ho4 hz4 ⊢
         have HO4:Hid (ownsW w4 (w.heap.size + 1) (.slice a4 m c4) (accW s.ws b)):=Lib.hid (ho4.mono HA3.out.sz)
         have HZ4:=Lib.hid hz4
         have HA4:=Lib.hid (HA3.out.call hb4)
         have HO3B:Hid (ownsE w4 (w.heap.size + 1) (.slice au nj cu) j):=Lib.hid (HO3.out.below hb4)
         have HE:Hid (accE s f h b=(0,-1)):=Lib.hid (by rw [HE0.out,ht])
         have hmle:m≤400:=by
           have h1:(freshW s.ws b).length≤b.length:=List.length_filter_le _ _
           have h2:=HRB.out.2.1
           omega
         have hmn:(m:Int) - (n:Int)=(fr:Int):=by omega
         have hmn2:IntKind.i64.wrap ((m:Int) - (n:Int))=(fr:Int):=by rw [hmn];exact IntWalk.i64_in _ (by omega)
         have p1:=HA4.out.log.c1
         have p2:=HA4.out.log.c2
         have y1:=Lib.frozen_of_heap HA4.out.log.row 1
         have y2:=Lib.frozen_of_heap HA4.out.log.row 2
         clear ht ho4 hz4 hb4 hm hfr hmf c2
         go_wp2
         go_ret2
         refine .inr ⟨by rw [HE.out],by rw [←HFR.out];rfl,(fun k=>(F k∨w.heap.size + 1≤k)∧k < w4.heap.size),?_,?_,?_⟩
         · intro k hk
           rcases hk.1 with hk | hk
           · exact .inl hk
           · exact .inr (by omega)
         · have hS:accS s h b=⟨s.rep,j,accW s.ws b⟩:=by unfold accS;rw [HJ.out];rfl
           rw [hS]
           exact ⟨_,_,HA4.out.log.put (s':=⟨s.rep,j,accW s.ws b⟩) HO3B.out HO4.out rfl HZ4.out⟩
         · exact ((But.of_below HA4.out.bel).setCell (.inl HA4.out.log.inP) _).setCell (.inl HA4.out.log.inP) _
       · have HE:Hid (accE s f h b=togE s.ws b):=HE0
         obtain ⟨t,v,rfl⟩:=hat4.iface ht
         have HT:=Lib.hid ht
         have HAT4:=Lib.hid hat4
         have HB4:Hid (Below w.heap.size w w4):=Lib.hid (HA3.out.bel.trans (hb4.mono HA3.out.bel.size))
         clear ht hat4 hb4 c2
         go_wp2
         go_ret2
         exact .inl (by rw [HE.out];exact ⟨HT.out,_,_,rfl,HAT4.out,HB4.out⟩)
     · have HE:Hid (accE s f h b=(e4,-1)):=Lib.hid (by rw [accE_j HBF2.out HCC.out (by rw [HJ.out];exact h4),HJ.out])
       have H4:=Lib.hid h4
       rw [noV_e h4]
       clear h4
       go_wp2
       go_ret2
       exact .inl (by rw [HE.out];exact ⟨H4.out,_,_,rfl,.inr ⟨H4.out,rfl,rfl⟩,HA3.out.bel⟩)
 · have HE:Hid (accE s f h b=(eb,pb)):=Lib.hid (by rw [accE_b (by rw [HBF.out];exact he),HBF.out])
   obtain ⟨t,v,rfl⟩:=HAT.out.iface he
   have H4:=Lib.hid he
   clear he
   go_wp2
   go_ret2
   exact .inl (by rw [HE.out];exact ⟨H4.out,_,_,rfl,HAT.out,HA1.out.bel⟩)
end Go.Proofs.YtddbpnplbcjpgaaGreatDoor
namespace Go.Proofs.YtddbpnplbcjpgaaGreatDoor
open Go.RowKit
set_option maxRecDepth 100000 in
set_option maxHeartbeats 8000000 in
theorem lbehind_any (P:Nat) (F:Nat→Prop) (s:LogS) (v:Value) (f:List Ent) (w:World) (h:LogAt w P F s) (ok:LogOk s) (hf:IsEnts w v f) (hfl:f.length≤9223372036854775807) :
   Calls Tryz.prog 43 #[.pointer (some ⟨P,0,none⟩),v] w fun e w'=>∃ u,e=.returned u∧ownsW w' w.heap.size u (sinceW s f)∧Below w.heap.size w w':=by
 obtain ⟨vh,vw,h⟩:=h
 obtain ⟨aw,cw,rfl,hws⟩:=h.ows.is.form
 have HWS:=Lib.hid hws
 obtain ⟨af,cf,rfl,_⟩:=hf.form
 have HF:=Lib.hid hf
 have HFL:=Lib.hid hfl
 obtain ⟨nf,hnf⟩:∃ n,n=f.length:=⟨_,rfl⟩
 rw [←hnf] at HF ⊢
 obtain ⟨n,hn⟩:∃ n,n=s.ws.length:=⟨_,rfl⟩
 rw [←hn] at h
 have hn3:n≤300:=by rw [hn];exact ok.len
 have HN:=Lib.hid hn
 have p2:=h.c2
 have HSW:Hid (sinceW s f=s.ws.filter (fun x=>decide (ofF f x.rep < x.time))):=Lib.hid rfl
 rw [HSW.out]
 obtain ⟨ws,hw⟩:∃ ws,ws=s.ws:=⟨_,rfl⟩
 rw [←hw] at HWS HN ⊢
 clear h ok hws hf hfl hnf hn hw HSW
 go_enter Tryz.func43,Tryz.ntmps43
 go_wp2
 go_loopw [5,13] (fun lv i wr=>∃ k:Nat,k≤n∧i=.int .i64 k∧ownsW wr w.heap.size lv ((ws.take k).filter (fun x=>decide (ofF f x.rep < x.time)))∧Below w.heap.size w wr) (fun _ i _=>n - (intOf i).toNat)
 case atStart=>exact ⟨0,by omega,rfl,by rw [List.take_zero];exact ownsW_nil _ _,Below.refl _ _⟩
 case round =>
   obtain ⟨k,hk,rfl,ho,hb⟩:=hrel
   have HO:=Lib.hid ho
   have HB:=Lib.hid hb
   have HSR:=Lib.hid hb.size
   clear ho hb
   by_cases hlt:k < n
   · have b1:decide ((k:Int) < (n:Int))=true:=by simpa using hlt
     obtain ⟨x, hx⟩ : ∃ x, ws[k]? = some x := ⟨ws[k]'(by rw [← HN.out]; exact hlt), List.getElem?_eq_getElem _⟩
     obtain ⟨b,off,rfl,hbl,c0,c1,c2,c3,c4,c5⟩:=HWS.out k x hx
     obtain ⟨L,hL⟩:∃ L,L=(ws.take k).filter (fun x=>decide (ofF f x.rep < x.time)):=⟨_,rfl⟩
     have HTS:Hid ((ws.take (k + 1)).filter (fun x=>decide (ofF f x.rep < x.time))=L ++ [x].filter (fun x=>decide (ofF f x.rep < x.time))):=Lib.hid (by rw [List.take_add_one,hx,hL];show (ws.take k ++ [x]).filter _=_;rw [List.filter_append])
     have HKL:Hid (L.length≤300):=Lib.hid (by rw [hL];have h1:=List.length_filter_le (fun x:Wr=>decide (ofF f x.rep < x.time)) (ws.take k);rw [List.length_take] at h1;omega)
     rw [←hL] at HO
     obtain ⟨T,Re,K,key,val,N⟩:=x
     simp only at c0 c1 c2 c3 c4 c5
     have d:∀ j u,w.cell? ⟨b,j,none⟩=some u→wr.cell? ⟨b,j,none⟩=some u:=fun j u hu=>(HB.out.cell (p:=⟨b,j,none⟩) hbl).trans hu
     have e0:=d _ _ c0
     have e1:=d _ _ c1
     have e2:=d _ _ c2
     have e3:=d _ _ c3
     have e4:=d _ _ c4
     have e5:=d _ _ c5
     obtain ⟨y,hy⟩:∃ y,ofF f Re=y:=⟨_,rfl⟩
     have HY:=Lib.hid hy
     clear hx c0 c1 c2 c3 c4 c5 d hbl hL hy
     by_cases hgt:y < T
     · have b2:decide (y < T)=true:=by simpa using hgt
       have HTY:Hid ((ws.take (k + 1)).filter (fun x=>decide (ofF f x.rep < x.time))=L ++ [⟨T,Re,K,key,val,N⟩]):=Lib.hid (by rw [HTS.out];simp [HY.out,hgt])
       clear hgt
       go_wp2
       obtain ⟨wB,hwB⟩:∃ wB,wB=wr.alloc (.cells #[.int .i64 T,.int .i64 Re,.int .i64 K,.string key,.string val,.int .i64 N] 26):=⟨_,rfl⟩
       have HROW:Hid (wB.heap[wr.heap.size]? = some (.cells #[.int .i64 T,.int .i64 Re,.int .i64 K,.string key,.string val,.int .i64 N] 26 (0,0))):=Lib.hid (by rw [hwB];exact heap_alloc_new _ _)
       have HBB:Hid (Below wr.heap.size wr wB):=Lib.hid (by rw [hwB];exact (Below.refl _ _).alloc (Nat.le_refl _) _)
       have HSB:Hid (wr.heap.size < wB.heap.size):=Lib.hid (by rw [hwB];simp)
       rw [←hwB]
       clear hwB e0 e1 e2 e3 e4 e5
       have k0:wB.drew.cell? ⟨wr.heap.size,0,none⟩=some (.int .i64 T)∧wB.drew.cell? ⟨wr.heap.size,1,none⟩=some (.int .i64 Re):=⟨cell_of_row _ _ 0 _ _ _ HROW.out,cell_of_row _ _ 1 _ _ _ HROW.out⟩
       have HFD:Hid (IsEnts wB.drew (.slice af nf cf) f):=Lib.hid (HF.out.below ((HB.out.trans (HBB.out.mono HSR.out)).drew))
       go_region_held3 (fun w'=>w'.cell? ⟨wr.heap.size,0,none⟩=some (.int .i64 T)∧w'.cell? ⟨wr.heap.size,1,none⟩=some (.int .i64 Re)) (first | exact k0 | exact k1 | fail) (first
         | (go_at_call 70;((with_reducible refine (vof_as (.slice af nf cf) f Re y wB.drew HFD.out HFL.out HY.out).mono ?_);rintro r w2 ⟨rfl,hb2⟩;have HB2:Hid (Below wr.heap.size wr w2):=Lib.hid (HBB.out.drew.trans (hb2.mono HBB.out.size));have hrow2:w2.heap[wr.heap.size]? = some (.cells #[.int .i64 T,.int .i64 Re,.int .i64 K,.string key,.string val,.int .i64 N] 26 (0,0)):=(hb2.block _ HSB.out).trans HROW.out;have k1:w2.cell? ⟨wr.heap.size,0,none⟩=some (.int .i64 T)∧w2.cell? ⟨wr.heap.size,1,none⟩=some (.int .i64 Re):=⟨cell_of_row _ _ 0 _ _ _ hrow2,cell_of_row _ _ 1 _ _ _ hrow2⟩;have HR2:=Lib.hid hrow2;clear hb2 hrow2))
         | fail)
       clear k0 k1 HFD
       have g0:w2.cell? ⟨wr.heap.size,0,none⟩=some (.int .i64 T):=cell_of_row _ _ 0 _ _ _ HR2.out
       have g1:w2.cell? ⟨wr.heap.size,1,none⟩=some (.int .i64 Re):=cell_of_row _ _ 1 _ _ _ HR2.out
       have g2:w2.cell? ⟨wr.heap.size,2,none⟩=some (.int .i64 K):=cell_of_row _ _ 2 _ _ _ HR2.out
       have g3:w2.cell? ⟨wr.heap.size,3,none⟩=some (.string key):=cell_of_row _ _ 3 _ _ _ HR2.out
       have g4:w2.cell? ⟨wr.heap.size,4,none⟩=some (.string val):=cell_of_row _ _ 4 _ _ _ HR2.out
       have g5:w2.cell? ⟨wr.heap.size,5,none⟩=some (.int .i64 N):=cell_of_row _ _ 5 _ _ _ HR2.out
       go_wp2_with (at_builtin;refine wpList_append_wr rfl _ _ rfl w.heap.size _ L rfl ((HO.out.below HB2.out).alloc _) w2.heap.size 1 rfl ⟨T,Re,K,key,val,N⟩ (heap_alloc_new _ _) (by have:=HKL.out;omega) (by have:=HSR.out;have:=HB2.out.size;simp;omega) ?_;intro g cap w4 ho4 hg4;have HO4:=Lib.hid ho4;have HG4:=Lib.hid hg4;clear ho4 hg4)
       go_roundw
       · refine ⟨k + 1,by omega,by simp,?_,?_⟩
         · rw [HTY.out];exact HO4.out
         · exact ((HB.out.trans (HB2.out.mono HSR.out)).alloc (Nat.le_trans HSR.out HB2.out.size) _).grown HG4.out (by have:=HSR.out;have:=HB2.out.size;simp;omega) (fun g hg=>(HO.out.lt g hg).1)
       · simp [intOf];omega
     · have b2:decide (y < T)=false:=by simpa using hgt
       have HTY:Hid ((ws.take (k + 1)).filter (fun x=>decide (ofF f x.rep < x.time))=L):=Lib.hid (by rw [HTS.out];simp [HY.out,hgt])
       clear hgt
       go_wp2
       obtain ⟨wB,hwB⟩:∃ wB,wB=wr.alloc (.cells #[.int .i64 T,.int .i64 Re,.int .i64 K,.string key,.string val,.int .i64 N] 26):=⟨_,rfl⟩
       have HROW:Hid (wB.heap[wr.heap.size]? = some (.cells #[.int .i64 T,.int .i64 Re,.int .i64 K,.string key,.string val,.int .i64 N] 26 (0,0))):=Lib.hid (by rw [hwB];exact heap_alloc_new _ _)
       have HBB:Hid (Below wr.heap.size wr wB):=Lib.hid (by rw [hwB];exact (Below.refl _ _).alloc (Nat.le_refl _) _)
       have HSB:Hid (wr.heap.size < wB.heap.size):=Lib.hid (by rw [hwB];simp)
       rw [←hwB]
       clear hwB e0 e1 e2 e3 e4 e5
       have k0:wB.drew.cell? ⟨wr.heap.size,0,none⟩=some (.int .i64 T)∧wB.drew.cell? ⟨wr.heap.size,1,none⟩=some (.int .i64 Re):=⟨cell_of_row _ _ 0 _ _ _ HROW.out,cell_of_row _ _ 1 _ _ _ HROW.out⟩
       have HFD:Hid (IsEnts wB.drew (.slice af nf cf) f):=Lib.hid (HF.out.below ((HB.out.trans (HBB.out.mono HSR.out)).drew))
       go_region_held3 (fun w'=>w'.cell? ⟨wr.heap.size,0,none⟩=some (.int .i64 T)∧w'.cell? ⟨wr.heap.size,1,none⟩=some (.int .i64 Re)) (first | exact k0 | exact k1 | fail) (first
         | (go_at_call 70;((with_reducible refine (vof_as (.slice af nf cf) f Re y wB.drew HFD.out HFL.out HY.out).mono ?_);rintro r w2 ⟨rfl,hb2⟩;have HB2:Hid (Below wr.heap.size wr w2):=Lib.hid (HBB.out.drew.trans (hb2.mono HBB.out.size));have hrow2:w2.heap[wr.heap.size]? = some (.cells #[.int .i64 T,.int .i64 Re,.int .i64 K,.string key,.string val,.int .i64 N] 26 (0,0)):=(hb2.block _ HSB.out).trans HROW.out;have k1:w2.cell? ⟨wr.heap.size,0,none⟩=some (.int .i64 T)∧w2.cell? ⟨wr.heap.size,1,none⟩=some (.int .i64 Re):=⟨cell_of_row _ _ 0 _ _ _ hrow2,cell_of_row _ _ 1 _ _ _ hrow2⟩;have HR2:=Lib.hid hrow2;clear hb2 hrow2))
         | fail)
       clear k0 k1 HFD
       have g0:w2.cell? ⟨wr.heap.size,0,none⟩=some (.int .i64 T):=cell_of_row _ _ 0 _ _ _ HR2.out
       have g1:w2.cell? ⟨wr.heap.size,1,none⟩=some (.int .i64 Re):=cell_of_row _ _ 1 _ _ _ HR2.out
       have g2:w2.cell? ⟨wr.heap.size,2,none⟩=some (.int .i64 K):=cell_of_row _ _ 2 _ _ _ HR2.out
       have g3:w2.cell? ⟨wr.heap.size,3,none⟩=some (.string key):=cell_of_row _ _ 3 _ _ _ HR2.out
       have g4:w2.cell? ⟨wr.heap.size,4,none⟩=some (.string val):=cell_of_row _ _ 4 _ _ _ HR2.out
       have g5:w2.cell? ⟨wr.heap.size,5,none⟩=some (.int .i64 N):=cell_of_row _ _ 5 _ _ _ HR2.out
       go_wp2
       go_roundw
       · exact ⟨k + 1,by omega,by simp,by rw [HTY.out];exact HO.out.below HB2.out,HB.out.trans (HB2.out.mono HSR.out)⟩
       · simp [intOf];omega
   · have b1:decide ((k:Int) < (n:Int))=false:=by simp;omega
     obtain rfl:k=n:=by omega
     have HT:Hid (ownsW wr w.heap.size u5 (ws.filter (fun x=>decide (ofF f x.rep < x.time)))):=Lib.hid (by have:=HO.out;rwa [List.take_of_length_le (by rw [HN.out];exact Nat.le_refl _)] at this)
     go_wp2
     go_ret
     exact ⟨_,rfl,HT.out,HB.out⟩
set_option maxRecDepth 100000 in
set_option maxHeartbeats 8000000 in
theorem lreached_any (v vl:Value) (hv f:List Ent) (l:List Wr) (w:World) (hf:IsEnts w v f) (hl:IsWrs w vl l) (hll:l.length≤100) (hh:rightV hv) (hr:rightV f) (hc:∀ r,ofF f r≤ofF hv r) (hin:InV hv l) (hg:errT w) :
   Calls Tryz.prog 44 #[v,vl] w fun e w'=>∃ u,e=.returned (.tuple #[u,.nilIface])∧ownsE w' w.heap.size u (reachL f l)∧Below w.heap.size w w':=by
 obtain ⟨a,c,rfl,hws⟩:=hl.form
 have HWS:=Lib.hid hws
 have HF:=Lib.hid hf
 have HFL:Hid (f.length≤1000000):=Lib.hid (by have:=hr.1;omega)
 obtain ⟨n,hn⟩:∃ n,n=l.length:=⟨_,rfl⟩
 rw [←hn] at hll ⊢
 have HN:=Lib.hid hn
 have HRE:Hid (∀ k x,l[k]? = some x→joinR (reachL f (l.take k)) [⟨x.rep,x.time⟩]=(0,reachL f (l.take (k + 1)))):=Lib.hid (fun k x hx=>by
   have e:l.take (k + 1)=l.take k ++ [x]:=by rw [List.take_add_one,hx];rfl
   rw [e]
   exact reach_step hh hr hc (by rw [←e];exact fun y hy=>hin y (List.mem_of_mem_take hy)))
 have HR0:Hid (reachL f (l.take 0)=f):=Lib.hid (by rw [List.take_zero];exact reach_nil hr)
 have HLEN:Hid (∀ k,(reachL f (l.take k)).length≤16):=Lib.hid (fun k=>(reach_of hh hr hc (l:=l.take k) (fun y hy=>hin y (List.mem_of_mem_take hy))).2.2.1)
 have HG:=Lib.hid hg
 clear hws hl hf hn hh hr hc hin hg
 go_enter Tryz.func44,Tryz.ntmps44
 go_wp2_with (go_at_call 45;refine (clone_ents v f _ HF.out HFL.out).mono ?_;rintro r w1 ⟨u,rfl,ho1,hb1⟩;have HO1:Hid (ownsE w1 w.heap.size u (reachL f (l.take 0))):=Lib.hid (by rw [HR0.out];exact ho1);have HB1:=Lib.hid hb1;clear ho1 hb1)
 go_loopw [6,15] (fun lv i wr=>∃ k:Nat,k≤n∧i=.int .i64 k∧ownsE wr w.heap.size lv (reachL f (l.take k))∧Below w.heap.size w wr) (fun _ i _=>n - (intOf i).toNat)
 case atStart=>exact ⟨0,by omega,rfl,HO1.out,HB1.out⟩
 case round =>
   obtain ⟨k,hk,rfl,ho,hb⟩:=hrel
   have HO:=Lib.hid ho
   have HB:=Lib.hid hb
   have HSR:=Lib.hid hb.size
   clear ho hb HO1 HB1
   by_cases hlt:k < n
   · have b1:decide ((k:Int) < (n:Int))=true:=by simpa using hlt
     obtain ⟨x, hx⟩ : ∃ x, l[k]? = some x := ⟨l[k]'(by rw [← HN.out]; exact hlt), List.getElem?_eq_getElem _⟩
     obtain ⟨b,off,rfl,hbl,c0,c1,c2,c3,c4,c5⟩:=HWS.out k x hx
     have HST:=Lib.hid (HRE.out k x hx)
     obtain ⟨T,Re,K,key,val,N⟩:=x
     simp only at c0 c1 c2 c3 c4 c5 HST
     have d:∀ j u,w.cell? ⟨b,j,none⟩=some u→wr.cell? ⟨b,j,none⟩=some u:=fun j u hu=>(HB.out.cell (p:=⟨b,j,none⟩) hbl).trans hu
     have e0:=d _ _ c0
     have e1:=d _ _ c1
     have e2:=d _ _ c2
     have e3:=d _ _ c3
     have e4:=d _ _ c4
     have e5:=d _ _ c5
     obtain ⟨av,cv,rfl,_⟩:=HO.out.is.form
     obtain ⟨m,hm⟩:∃ m,m=(reachL f (l.take k)).length:=⟨_,rfl⟩
     rw [←hm] at HO ⊢
     clear hx c0 c1 c2 c3 c4 c5 d hbl hm
     go_wp2_with (go_at_call 28;refine (land_any (.slice av m cv) (reachL f (l.take k)) T Re _ (HO.out.is.alloc _) (by have:=HLEN.out k;omega) ((HG.out.below HB.out).alloc _) 0 _ HST.out).mono ?_;rintro r w3 ⟨u,rfl,ho3,hb3⟩;rw [noV_0];have HO3:Hid (ownsE w3 w.heap.size u (reachL f (l.take (k + 1)))):=Lib.hid (ownsE.mono ho3 (by have:=HSR.out;simp;omega));have HB3:Hid (Below w.heap.size w w3):=Lib.hid ((HB.out.alloc HSR.out _).trans (hb3.mono (by have:=HSR.out;simp;omega)));clear ho3 hb3)
     go_roundw
     · exact ⟨k + 1,by omega,by simp,HO3.out,HB3.out⟩
     · simp [intOf];omega
   · have b1:decide ((k:Int) < (n:Int))=false:=by simp;omega
     obtain rfl:k=n:=by omega
     have HT:Hid (ownsE wr w.heap.size u6 (reachL f l)):=Lib.hid (by have:=HO.out;rwa [List.take_of_length_le (by rw [HN.out];exact Nat.le_refl _)] at this)
     go_wp2
     go_ret2
     exact ⟨_,rfl,HT.out,HB.out⟩
end Go.Proofs.YtddbpnplbcjpgaaGreatDoor
