import Derived.Test.YtgfinhehgfbdgaaGreatDoorKa38
import Derived.Test.YtgfinhehgfbdgaaGreatDoorKa37
import Derived.Test.YtgfinhehgfbdgaaGreatDoorKa45
import Derived.Test.YtgfinhehgfbdgaaGreatDoorKa34
namespace Go.Proofs.YtgfinhehgfbdgaaGreatDoor
open Go.RowKit
def FReadIs (w:World) (s:List UInt8) (e:Ending) (w':World):Prop :=
  Below w.heap.size w w'∧((∃ x pl err,unfF s=.inl (x,pl)∧x≠0∧e=.returned (.tuple #[.agg #[.slice none 0 0,.slice none 0 0,.slice none 0 0],err])∧anyErr w' err (x,pl)) ∨
    ∃ f h l a1 c1 a2 c2 a3 c3,unfF s=.inr (f,h,l)∧e=.returned (.tuple #[.agg #[.slice a1 f.length c1,.slice a2 h.length c2,.slice a3 l.length c3],.nilIface])∧BatIs w' (.slice a1 f.length c1) (.slice a2 h.length c2) (.slice a3 l.length c3) f h l)
theorem errC_any (w:World) {e:Nat} (he:e≠0):anyErr w (.iface 27 (.int .i64 e)) (e,-1):=.inr ⟨he,rfl,rfl⟩
def RD1 (w W:World) (vf vh vw:Value):Prop :=
  W.heap[w.heap.size]? = some (.cells #[vf,vh,vw] 25 (0,0))∧Below w.heap.size w W∧w.heap.size + 1≤W.heap.size
theorem RD1.cells {w W:World} {vf vh vw:Value} (h:RD1 w W vf vh vw) :
    (W.cell? ⟨w.heap.size,0,none⟩=some vf∧W.cell? ⟨w.heap.size,1,none⟩=some vh∧W.cell? ⟨w.heap.size,2,none⟩=some vw)∧W.frozen? ⟨w.heap.size,0,none⟩=false∧W.frozen? ⟨w.heap.size,1,none⟩=false∧W.frozen? ⟨w.heap.size,2,none⟩=false:=by
  obtain ⟨h1,_⟩:=h
  exact ⟨⟨cell_of_row _ _ 0 _ _ (0,0) h1,cell_of_row _ _ 1 _ _ (0,0) h1,cell_of_row _ _ 2 _ _ (0,0) h1⟩,Lib.frozen_of_heap h1 0,Lib.frozen_of_heap h1 1,Lib.frozen_of_heap h1 2⟩
theorem RD1.below {w W W2:World} {vf vh vw:Value} (h:RD1 w W vf vh vw) (hb:Below W.heap.size W W2):RD1 w W2 vf vh vw:=by
  obtain ⟨h1,h2,h3⟩:=h
  exact ⟨(hb.block _ (by omega)).trans h1,h2.trans (hb.mono h2.size),Nat.le_trans h3 hb.size⟩
theorem RD1.put {w W:World} {vf vh vw uf uh uw v:Value} {o:Nat} (h:RD1 w W vf vh vw) (hs:(#[vf,vh,vw]:Array Value).setIfInBounds o v=#[uf,uh,uw]):RD1 w (W.setCell ⟨w.heap.size,o,none⟩ v) uf uh uw:=by
  obtain ⟨h1,h4,h5⟩:=h
  exact ⟨by rw [heap_setCell_same _ _ _ _ _ _ h1,hs],h4.setCell (Nat.le_refl _) _,by simpa using h5⟩
theorem anyErr.cellB {w W:World} {vf vh vw v u:Value} {r:Nat×Int} {o:Nat} (h:anyErr W v r) (hr:RD1 w W vf vh vw) (hv:vf=.slice none 0 0):anyErr (W.setCell ⟨w.heap.size,o,none⟩ u) v r:=by
  rcases h with (h | ⟨h0,b,h1,h2,h3,h4⟩) | h
  · exact .inl (.inl h)
  · have c0:=hr.cells.1.1
    have hne:w.heap.size≠b:=fun e=>by rw [←e,c0,hv] at h3;cases h3
    have hcell:∀ j,(W.setCell ⟨w.heap.size,o,none⟩ u).cell? ⟨b,j,none⟩=W.cell? ⟨b,j,none⟩:=fun j=>by
      unfold World.cell?
      rw [heap_setCell_other _ _ _ _ (fun e=>hne e.symm)]
    exact .inl (.inr ⟨h0,b,h1,by simpa using h2,by rw [hcell];exact h3,by rw [hcell];exact h4⟩)
  · exact .inr h
theorem bread_err2 (s:ByteArray) (x:Nat) (pl:Int) (w:World) (hs:s.size≤maxLen) (hg:errT w) (hu:unbF s.data.toList=.inl (x,pl)) :
    Calls Tryz.prog 50 #[.string s] w fun e w'=>∃ t u,e=.returned (.tuple #[.agg #[.slice none 0 0,.slice none 0 0,.slice none 0 0],.iface t u])∧anyErr w' (.iface t u) (x,pl)∧Below w.heap.size w w':=by
  refine (bread_any s w hs hg).mono ?_
  rintro e w' ⟨hb,⟨x',pl',err,hx,hx0,rfl,ha⟩ | ⟨f',h',l',vf,vh,vw,hx,_⟩⟩
  · rw [hu] at hx
    injection hx with hx
    injection hx with h1 h2
    subst h1 h2
    obtain ⟨t,u,rfl⟩:=ha.iface hx0
    exact ⟨t,u,rfl,ha,hb⟩
  · rw [hu] at hx;cases hx
theorem bread_own (s:ByteArray) (f h:List Ent) (l:List Wr) (w:World) (hs:s.size≤maxLen) (hg:errT w) (hu:unbF s.data.toList=.inr (f,h,l)) :
    Calls Tryz.prog 50 #[.string s] w fun e w'=>∃ a1 c1 a2 c2 a3 c3,e=.returned (.tuple #[.agg #[.slice a1 f.length c1,.slice a2 h.length c2,.slice a3 l.length c3],.nilIface])∧BatOwn w' w.heap.size (.slice a1 f.length c1) (.slice a2 h.length c2) (.slice a3 l.length c3) f h l∧Below w.heap.size w w':=by
  refine (bread_any s w hs hg).mono ?_
  rintro e w' ⟨hb,⟨x,pl,err,hx,_⟩ | ⟨f',h',l',vf,vh,vw,hx,rfl,ho⟩⟩
  · rw [hu] at hx;cases hx
  · rw [hu] at hx
    injection hx with hx
    injection hx with h1 h2
    injection h2 with h2 h3
    subst h1 h2 h3
    obtain ⟨a1,c1,rfl,_⟩:=ho.1.is.form
    obtain ⟨a2,c2,rfl,_⟩:=ho.2.1.is.form
    obtain ⟨a3,c3,rfl,_⟩:=ho.2.2.1.is.form
    exact ⟨a1,c1,a2,c2,a3,c3,rfl,ho,hb⟩
set_option maxRecDepth 100000 in
set_option maxHeartbeats 2400000 in
theorem fread_any (s:ByteArray) (w:World) (hs:s.size≤400000) (hg:errT w) :
    Calls Tryz.prog 15 #[.string s] w (FReadIs w s.data.toList):=by
  have hsz:s.size≤140737488351232:=by omega
  have HW:Hid (RD1 w (w.alloc (.cells #[.slice none 0 0,.slice none 0 0,.slice none 0 0] 25)) (.slice none 0 0) (.slice none 0 0) (.slice none 0 0)):=Lib.hid ⟨heap_alloc_new w _,(Below.refl _ _).alloc (Nat.le_refl _) _,by simp⟩
  have HG:=Lib.hid (hg.alloc (.cells #[.slice none 0 0,.slice none 0 0,.slice none 0 0] 25))
  obtain ⟨v,i,e,ho⟩:∃ v i e,opnF s.data.toList=(v,i,e):=⟨_,_,_,rfl⟩
  obtain ⟨J,hJ⟩:∃ J:ByteArray,i=J.data.toList:=⟨⟨i.toArray⟩,by simp⟩
  subst hJ
  have HO:=Lib.hid ho
  clear hg
  by_cases he:e=0
  · subst he
    have hp:=opn_pos ho
    rw [←size_data,←size_data] at hp
    by_cases hv:v=3
    · subst hv
      obtain ⟨b,e,hp2⟩:∃ b e,unpF J.data.toList=(b,e):=⟨_,_,rfl⟩
      obtain ⟨B,hB⟩:∃ B:ByteArray,b=B.data.toList:=⟨⟨b.toArray⟩,by simp⟩
      subst hB
      have HUP:=Lib.hid hp2
      have HPK:Hid (∀ w',errT w'→Calls Tryz.prog 49 #[.string J] w' fun r w2=>r=.returned (.tuple #[.string B,errC e])∧Below w'.heap.size w' w2):=Lib.hid (fun w' hg=>by
        have h1:=unpack_any J w' hp.1 (by omega) hg
        rw [hp2] at h1
        unfold unpV at h1
        simp only [bs_of] at h1
        exact h1)
      by_cases he:e=0
      · subst he
        have HBM:Hid (B.size≤maxLen):=Lib.hid (by have:=unp_few hp2;rw [←size_data] at this;unfold maxLen;omega)
        clear ho hp hp2
        rcases hub:unbF B.data.toList with ⟨x,pl⟩ | ⟨f,h,l⟩
        · have HUF:Hid (unfF s.data.toList=.inl (x,pl)):=Lib.hid (unf_body HO.out HUP.out hub)
          have hx0:=unb_ne hub
          have HRD:=Lib.hid (fun w' hg=>bread_err2 B x pl w' HBM.out hg hub)
          clear hub
          go_enter Tryz.func15,Tryz.ntmps15
          go_wp2_with fail
          generalize w.alloc (.cells #[.slice none 0 0,.slice none 0 0,.slice none 0 0] 25)=W at HW HG ⊢
          refine (fopen_as s J 3 0 W hsz HO.out).mono ?_
          rintro r w1 ⟨rfl,hb⟩
          have H1:=Lib.hid (HW.out.below hb)
          have HG1:=Lib.hid (HG.out.below hb)
          clear hb
          rw [errC_zero]
          go_wp2_with fail
          refine (HPK.out w1 HG1.out).mono ?_
          rintro r w2 ⟨rfl,hb⟩
          have H2:=Lib.hid (H1.out.below hb)
          have HG2:=Lib.hid (HG1.out.below hb)
          clear hb
          rw [errC_zero]
          go_wp2_with fail
          refine (HRD.out w2 HG2.out).mono ?_
          rintro r w3 ⟨t,u,rfl,hae,hb⟩
          have hb2:Below w2.heap.size w2 (w3.alloc (.cells #[.slice none 0 0,.slice none 0 0,.slice none 0 0] 25)):=hb.alloc hb.size _
          have H3:=Lib.hid (H2.out.below hb2)
          have HA3:=Lib.hid (hae.below (w':=w3.alloc (.cells #[.slice none 0 0,.slice none 0 0,.slice none 0 0] 25)) ((Below.refl _ _).alloc (Nat.le_refl _) _))
          clear hb hb2 hae
          obtain ⟨⟨c0,c1,c2⟩,z0,z1,z2⟩:=H3.out.cells
          have HM:=Lib.hid (((H3.out.put (o:=0) (v:=.slice none 0 0) rfl).put (o:=1) (v:=.slice none 0 0) rfl).put (o:=2) (v:=.slice none 0 0) rfl)
          have HAE:=Lib.hid (((HA3.out.cellB (o:=0) (u:=.slice none 0 0) H3.out rfl).cellB (o:=1) (u:=.slice none 0 0) (H3.out.put (o:=0) (v:=.slice none 0 0) rfl) rfl).cellB (o:=2) (u:=.slice none 0 0) ((H3.out.put (o:=0) (v:=.slice none 0 0) rfl).put (o:=1) (v:=.slice none 0 0) rfl) rfl)
          go_wp2
          generalize (((w3.alloc (.cells #[.slice none 0 0,.slice none 0 0,.slice none 0 0] 25)).setCell ⟨w.heap.size,0,none⟩ (.slice none 0 0)).setCell ⟨w.heap.size,1,none⟩ (.slice none 0 0)).setCell ⟨w.heap.size,2,none⟩ (.slice none 0 0)=WZ at HM HAE ⊢
          obtain ⟨⟨q0,q1,q2⟩,_⟩:=HM.out.cells
          refine bodyPost_ret (v:=.tuple #[.agg #[.slice none 0 0,.slice none 0 0,.slice none 0 0],.iface t u]) (by simp [results,Tryz.results15,go_sem,q0,q1,q2]) rfl ?_
          exact ⟨HM.out.2.1,.inl ⟨_,_,_,HUF.out,hx0,rfl,HAE.out⟩⟩
        · obtain ⟨hfr,_,_,_⟩:=frm_of hub
          obtain ⟨U,hU⟩:∃ U:ByteArray,frmL B.data.toList=U.data.toList:=⟨⟨(frmL B.data.toList).toArray⟩,by simp⟩
          rw [hU] at hfr
          have HFR:=Lib.hid hfr
          have HUB:=Lib.hid hub
          have HRD:=Lib.hid (fun w' hg=>bread_own B f h l w' HBM.out hg hub)
          have HQQ:Hid (∀ a1 c1 a2 c2 a3 c3 W',Below w.heap.size w W'→unfF s.data.toList=.inr (f,h,l)→BatIs W' (.slice a1 f.length c1) (.slice a2 h.length c2) (.slice a3 l.length c3) f h l→FReadIs w s.data.toList (.returned (.tuple #[.agg #[.slice a1 f.length c1,.slice a2 h.length c2,.slice a3 l.length c3],.nilIface])) W'):=Lib.hid (fun a1 c1 a2 c2 a3 c3 W' h1 h2 h3=>⟨h1,.inr ⟨f,h,l,a1,c1,a2,c2,a3,c3,h2,rfl,h3⟩⟩)
          clear hfr hub
          generalize f.length=nf at HRD HQQ
          generalize h.length=nh at HRD HQQ
          generalize l.length=nl at HRD HQQ
          go_enter Tryz.func15,Tryz.ntmps15
          go_wp2_with fail
          generalize w.alloc (.cells #[.slice none 0 0,.slice none 0 0,.slice none 0 0] 25)=W at HW HG ⊢
          refine (fopen_as s J 3 0 W hsz HO.out).mono ?_
          rintro r w1 ⟨rfl,hb⟩
          have H1:=Lib.hid (HW.out.below hb)
          have HG1:=Lib.hid (HG.out.below hb)
          clear hb
          rw [errC_zero]
          go_wp2_with fail
          refine (HPK.out w1 HG1.out).mono ?_
          rintro r w2 ⟨rfl,hb⟩
          have H2:=Lib.hid (H1.out.below hb)
          have HG2:=Lib.hid (HG1.out.below hb)
          clear hb
          rw [errC_zero]
          go_wp2_with fail
          refine (HRD.out w2 HG2.out).mono ?_
          rintro r w3 ⟨a1,c1,a2,c2,a3,c3,rfl,ho3,hb⟩
          have hb2:Below w2.heap.size w2 (w3.alloc (.cells #[.slice a1 nf c1,.slice a2 nh c2,.slice a3 nl c3] 25)):=hb.alloc hb.size _
          have HBK:Hid (w.heap.size + 1≤w2.heap.size):=Lib.hid H2.out.2.2
          have H3:=Lib.hid (H2.out.below hb2)
          have HG3:=Lib.hid (HG2.out.below hb2)
          have HO3:=Lib.hid (ho3.keep (grown_b (w':=w3.alloc (.cells #[.slice a1 nf c1,.slice a2 nh c2,.slice a3 nl c3] 25)) ((Below.refl _ _).alloc (Nat.le_refl _) _)) (fun k hk=>by cases hk))
          have HA3:=Lib.hid (batAt_new w3 (.slice a1 nf c1) (.slice a2 nh c2) (.slice a3 nl c3) 25)
          have HZ3:Hid (w3.heap.size < (w3.alloc (.cells #[.slice a1 nf c1,.slice a2 nh c2,.slice a3 nl c3] 25)).heap.size):=Lib.hid (by simp)
          clear hb hb2 ho3
          obtain ⟨d0,d1,d2⟩:=HA3.out
          go_wp2_with fail
          generalize w3.alloc (.cells #[.slice a1 nf c1,.slice a2 nh c2,.slice a3 nl c3] 25)=W3 at H3 HG3 HO3 HA3 HZ3 d0 d1 d2 ⊢
          generalize hG:w3.heap.size=G at HA3 HZ3 d0 d1 d2 ⊢
          clear hG
          refine (fwrite_as _ _ _ f h l U 0 (-1) W3 HO3.out.bat HG3.out HFR.out).mono ?_
          rintro r w4 ⟨err,rfl,hat,hb⟩
          obtain rfl:=hat.nil rfl
          have H4:=Lib.hid (H3.out.below hb)
          have HO4:=Lib.hid (HO3.out.keep (grown_b hb) (fun k hk=>by cases hk))
          have HA4:=Lib.hid (HA3.out.below hb HZ3.out)
          clear hb hat d0 d1 d2
          by_cases hus:U=s
          · subst hus
            have HUF:Hid (unfF U.data.toList=.inr (f,h,l)):=Lib.hid (unf_ok HO.out HUP.out HUB.out hU)
            have hte:(U.toList == U.toList)=true:=beq_self_eq_true _
            have hte2:(U.toList != U.toList)=false:=by simp
            clear hU
            obtain ⟨d0,d1,d2⟩:=HA4.out
            obtain ⟨⟨c4,c5,c6⟩,z0,z1,z2⟩:=H4.out.cells
            have HM:=Lib.hid (((H4.out.put (o:=0) (v:=.slice a1 nf c1) rfl).put (o:=1) (v:=.slice a2 nh c2) rfl).put (o:=2) (v:=.slice a3 nl c3) rfl)
            have HOM:=Lib.hid (((HO4.out.cell (k:=w.heap.size) (by have:=HBK.out;omega) 0 (.slice a1 nf c1)).cell (k:=w.heap.size) (by have:=HBK.out;omega) 1 (.slice a2 nh c2)).cell (k:=w.heap.size) (by have:=HBK.out;omega) 2 (.slice a3 nl c3))
            go_wp2
            generalize ((w4.setCell ⟨w.heap.size,0,none⟩ (.slice a1 nf c1)).setCell ⟨w.heap.size,1,none⟩ (.slice a2 nh c2)).setCell ⟨w.heap.size,2,none⟩ (.slice a3 nl c3)=WZ at HM HOM ⊢
            obtain ⟨⟨q0,q1,q2⟩,_⟩:=HM.out.cells
            refine bodyPost_ret (v:=.tuple #[.agg #[.slice a1 nf c1,.slice a2 nh c2,.slice a3 nl c3],.nilIface]) (by simp [results,Tryz.results15,go_sem,q0,q1,q2]) rfl ?_
            exact HQQ.out _ _ _ _ _ _ _ HM.out.2.1 HUF.out HOM.out.bat
          · have HUF:Hid (unfF s.data.toList=.inl (13,-1)):=Lib.hid (unf_false HO.out HUP.out HUB.out (fun hx=>hus (bytes_ext (by rw [←hU];exact hx))))
            have hte:(U.toList == s.toList)=false:=beq_eq_false_iff_ne.2 (fun hx=>hus (bytes_ext (by rw [←toL,←toL];exact hx)))
            have hte2:(U.toList != s.toList)=true:=by rw [bne,hte];rfl
            clear hU
            obtain ⟨⟨c0,c1,c2⟩,z0,z1,z2⟩:=H4.out.cells
            have HM:=Lib.hid (((H4.out.put (o:=0) (v:=.slice none 0 0) rfl).put (o:=1) (v:=.slice none 0 0) rfl).put (o:=2) (v:=.slice none 0 0) rfl)
            have HAE:Hid (anyErr (((w4.setCell ⟨w.heap.size,0,none⟩ (.slice none 0 0)).setCell ⟨w.heap.size,1,none⟩ (.slice none 0 0)).setCell ⟨w.heap.size,2,none⟩ (.slice none 0 0)) (.iface 27 (.int .i64 13)) (13,-1)):=Lib.hid (errC_any _ (by decide))
            go_wp2
            generalize ((w4.setCell ⟨w.heap.size,0,none⟩ (.slice none 0 0)).setCell ⟨w.heap.size,1,none⟩ (.slice none 0 0)).setCell ⟨w.heap.size,2,none⟩ (.slice none 0 0)=WZ at HM HAE ⊢
            obtain ⟨⟨q0,q1,q2⟩,_⟩:=HM.out.cells
            refine bodyPost_ret (v:=.tuple #[.agg #[.slice none 0 0,.slice none 0 0,.slice none 0 0],.iface 27 (.int .i64 13)]) (by simp [results,Tryz.results15,go_sem,q0,q1,q2]) rfl ?_
            exact ⟨HM.out.2.1,.inl ⟨_,_,_,HUF.out,(by decide),rfl,HAE.out⟩⟩
      · have HUF:Hid (unfF s.data.toList=.inl (e,-1)):=Lib.hid (unf_pack HO.out hp2 he)
        clear ho hp hp2
        go_enter Tryz.func15,Tryz.ntmps15
        go_wp2_with fail
        generalize w.alloc (.cells #[.slice none 0 0,.slice none 0 0,.slice none 0 0] 25)=W at HW HG ⊢
        refine (fopen_as s J 3 0 W hsz HO.out).mono ?_
        rintro r w1 ⟨rfl,hb⟩
        have H1:=Lib.hid (HW.out.below hb)
        have HG1:=Lib.hid (HG.out.below hb)
        clear hb
        rw [errC_zero]
        go_wp2_with fail
        refine (HPK.out w1 HG1.out).mono ?_
        rintro r w2 ⟨rfl,hb⟩
        have H2:=Lib.hid (H1.out.below hb)
        clear hb
        rw [errC_ne he]
        obtain ⟨⟨c0,c1,c2⟩,z0,z1,z2⟩:=H2.out.cells
        have HM:=Lib.hid (((H2.out.put (o:=0) (v:=.slice none 0 0) rfl).put (o:=1) (v:=.slice none 0 0) rfl).put (o:=2) (v:=.slice none 0 0) rfl)
        have HAE:Hid (anyErr (((w2.setCell ⟨w.heap.size,0,none⟩ (.slice none 0 0)).setCell ⟨w.heap.size,1,none⟩ (.slice none 0 0)).setCell ⟨w.heap.size,2,none⟩ (.slice none 0 0)) (.iface 27 (.int .i64 e)) (e,-1)):=Lib.hid (errC_any _ he)
        go_wp2
        generalize ((w2.setCell ⟨w.heap.size,0,none⟩ (.slice none 0 0)).setCell ⟨w.heap.size,1,none⟩ (.slice none 0 0)).setCell ⟨w.heap.size,2,none⟩ (.slice none 0 0)=WZ at HM HAE ⊢
        obtain ⟨⟨q0,q1,q2⟩,_⟩:=HM.out.cells
        refine bodyPost_ret (v:=.tuple #[.agg #[.slice none 0 0,.slice none 0 0,.slice none 0 0],.iface 27 (.int .i64 e)]) (by simp [results,Tryz.results15,go_sem,q0,q1,q2]) rfl ?_
        exact ⟨HM.out.2.1,.inl ⟨_,_,_,HUF.out,he,rfl,HAE.out⟩⟩
    · have HUF:Hid (unfF s.data.toList=.inl (6,-1)):=Lib.hid (unf_state HO.out hv)
      have hvi:((v:Int) == 3)=false:=by simp;omega
      have hvj:((v:Int) != 3)=true:=by rw [bne,hvi];rfl
      clear ho hp
      go_enter Tryz.func15,Tryz.ntmps15
      go_wp2_with fail
      generalize w.alloc (.cells #[.slice none 0 0,.slice none 0 0,.slice none 0 0] 25)=W at HW HG ⊢
      refine (fopen_as s J v 0 W hsz HO.out).mono ?_
      rintro r w1 ⟨rfl,hb⟩
      have H1:=Lib.hid (HW.out.below hb)
      have HG1:=Lib.hid (HG.out.below hb)
      clear hb
      rw [errC_zero]
      obtain ⟨⟨c0,c1,c2⟩,z0,z1,z2⟩:=H1.out.cells
      have HM:=Lib.hid (((H1.out.put (o:=0) (v:=.slice none 0 0) rfl).put (o:=1) (v:=.slice none 0 0) rfl).put (o:=2) (v:=.slice none 0 0) rfl)
      have HAE:Hid (anyErr (((w1.setCell ⟨w.heap.size,0,none⟩ (.slice none 0 0)).setCell ⟨w.heap.size,1,none⟩ (.slice none 0 0)).setCell ⟨w.heap.size,2,none⟩ (.slice none 0 0)) (.iface 27 (.int .i64 6)) (6,-1)):=Lib.hid (errC_any _ (by decide))
      go_wp2
      generalize ((w1.setCell ⟨w.heap.size,0,none⟩ (.slice none 0 0)).setCell ⟨w.heap.size,1,none⟩ (.slice none 0 0)).setCell ⟨w.heap.size,2,none⟩ (.slice none 0 0)=WZ at HM HAE ⊢
      obtain ⟨⟨q0,q1,q2⟩,_⟩:=HM.out.cells
      refine bodyPost_ret (v:=.tuple #[.agg #[.slice none 0 0,.slice none 0 0,.slice none 0 0],.iface 27 (.int .i64 6)]) (by simp [results,Tryz.results15,go_sem,q0,q1,q2]) rfl ?_
      exact ⟨HM.out.2.1,.inl ⟨_,_,_,HUF.out,(by decide),rfl,HAE.out⟩⟩
  · have HUF:Hid (unfF s.data.toList=.inl (e,-1)):=Lib.hid (unf_open HO.out he)
    clear ho
    go_enter Tryz.func15,Tryz.ntmps15
    go_wp2_with fail
    generalize w.alloc (.cells #[.slice none 0 0,.slice none 0 0,.slice none 0 0] 25)=W at HW HG ⊢
    refine (fopen_as s J v e W hsz HO.out).mono ?_
    rintro r w1 ⟨rfl,hb⟩
    have H1:=Lib.hid (HW.out.below hb)
    have HG1:=Lib.hid (HG.out.below hb)
    clear hb
    rw [errC_ne he]
    obtain ⟨⟨c0,c1,c2⟩,z0,z1,z2⟩:=H1.out.cells
    have HM:=Lib.hid (((H1.out.put (o:=0) (v:=.slice none 0 0) rfl).put (o:=1) (v:=.slice none 0 0) rfl).put (o:=2) (v:=.slice none 0 0) rfl)
    have HAE:Hid (anyErr (((w1.setCell ⟨w.heap.size,0,none⟩ (.slice none 0 0)).setCell ⟨w.heap.size,1,none⟩ (.slice none 0 0)).setCell ⟨w.heap.size,2,none⟩ (.slice none 0 0)) (.iface 27 (.int .i64 e)) (e,-1)):=Lib.hid (errC_any _ he)
    go_wp2
    generalize ((w1.setCell ⟨w.heap.size,0,none⟩ (.slice none 0 0)).setCell ⟨w.heap.size,1,none⟩ (.slice none 0 0)).setCell ⟨w.heap.size,2,none⟩ (.slice none 0 0)=WZ at HM HAE ⊢
    obtain ⟨⟨q0,q1,q2⟩,_⟩:=HM.out.cells
    refine bodyPost_ret (v:=.tuple #[.agg #[.slice none 0 0,.slice none 0 0,.slice none 0 0],.iface 27 (.int .i64 e)]) (by simp [results,Tryz.results15,go_sem,q0,q1,q2]) rfl ?_
    exact ⟨HM.out.2.1,.inl ⟨_,_,_,HUF.out,he,rfl,HAE.out⟩⟩
end Go.Proofs.YtgfinhehgfbdgaaGreatDoor
