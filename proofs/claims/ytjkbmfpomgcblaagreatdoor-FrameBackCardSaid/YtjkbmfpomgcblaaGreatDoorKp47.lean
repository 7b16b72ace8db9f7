import Derived.Test.YtjkbmfpomgcblaaGreatDoorKp46
namespace Go.Proofs.YtjkbmfpomgcblaaGreatDoor
open Go.RowKit
def RdIs (r:(Nat×Int) ⊕ (List Ent×List Ent×List Wr)) (w:World) (e:Ending) (w':World):Prop :=
 Below w.heap.size w w'∧((∃ x pl err,r=.inl (x,pl)∧x≠0∧e=.returned (.tuple #[.agg #[.slice none 0 0,.slice none 0 0,.slice none 0 0],err])∧anyErr w' err (x,pl)) ∨
   ∃ f h l a1 c1 a2 c2 a3 c3,r=.inr (f,h,l)∧e=.returned (.tuple #[.agg #[.slice a1 f.length c1,.slice a2 h.length c2,.slice a3 l.length c3],.nilIface])∧BatOwn w' (w.heap.size + 1) (.slice a1 f.length c1) (.slice a2 h.length c2) (.slice a3 l.length c3) f h l)
theorem ounp_bad (s:ByteArray) (x:Nat) (w:World) (hs:s.size≤1000000) (hg:errT w) (hu:unO s.data.toList=.inl x) :
   Calls Tryz.prog 81 #[.string s] w fun e w'=>∃ t u,e=.returned (.tuple #[.agg #[.slice none 0 0,.slice none 0 0,.slice none 0 0],.iface t u])∧anyErr w' (.iface t u) (x,-1)∧Below w.heap.size w w':=by
 refine (ounpack_any s w hs hg).mono ?_
 rintro e w' ⟨hb,⟨x',hx,hx0,rfl⟩ | ⟨f',h',l',vf,vh,vw,hx,_⟩⟩
 · rw [hu] at hx
   injection hx with hx
   subst hx
   exact ⟨_,_,rfl,errC_any w' hx0,hb⟩
 · rw [hu] at hx;cases hx
theorem ounp_own (s:ByteArray) (f h:List Ent) (l:List Wr) (w:World) (hs:s.size≤1000000) (hg:errT w) (hu:unO s.data.toList=.inr (f,h,l)) :
   Calls Tryz.prog 81 #[.string s] w fun e w'=>∃ a1 c1 a2 c2 a3 c3,e=.returned (.tuple #[.agg #[.slice a1 f.length c1,.slice a2 h.length c2,.slice a3 l.length c3],.nilIface])∧BatOwn w' w.heap.size (.slice a1 f.length c1) (.slice a2 h.length c2) (.slice a3 l.length c3) f h l∧Below w.heap.size w w':=by
 refine (ounpack_any s w hs hg).mono ?_
 rintro e w' ⟨hb,⟨x,hx,_⟩ | ⟨f',h',l',vf,vh,vw,hx,rfl,ho⟩⟩
 · rw [hu] at hx;cases hx
 · rw [hu] at hx
   injection hx with hx
   injection hx with h1 h2
   injection h2 with h2 h3
   subst h1 h2 h3
   obtain ⟨a1,c1,rfl,_⟩:=ho.1.is.form
   obtain ⟨a2,c2,rfl,_⟩:=ho.2.1.is.form
   obtain ⟨a3,c3,rfl,_⟩:=ho.2.2.1.is.form
   exact ⟨a1,c1,a2,c2,a3,c3,rfl,ho.mono (Nat.le_succ _),hb⟩
set_option maxRecDepth 100000 in
set_option maxHeartbeats 2400000 in
theorem oread_any (s:ByteArray) (w:World) (hs:s.size≤400000) (hg:errT w) :
   Calls Tryz.prog 33 #[.string s] w (RdIs (oldF s.data.toList) w):=by
 have hsz:s.size≤140737488351232:=by omega
 have HW:Hid (RD1 w (w.alloc (.cells #[.slice none 0 0,.slice none 0 0,.slice none 0 0] 25)) (.slice none 0 0) (.slice none 0 0) (.slice none 0 0)):=Lib.hid ⟨heap_alloc_new w _,(Below.refl _ _).alloc (Nat.le_refl _) _,by simp⟩
 have HG:=Lib.hid (hg.alloc (.cells #[.slice none 0 0,.slice none 0 0,.slice none 0 0] 25))
 obtain ⟨v,i,e,ho⟩:∃ v i e,opnF s.data.toList=(v,i,e):=⟨_,_,_,rfl⟩
 obtain ⟨J,hJ⟩:∃ J:ByteArray,i=J.data.toList:=⟨⟨i.toArray⟩,by simp⟩
 subst hJ
 have HO:=Lib.hid ho
 clear hg
 by_cases he:e=0
 · subst he
   have hp:=opn_pos ho
   obtain ⟨_,hv1,hv3⟩:=opn_only ho
   rw [←size_data,←size_data] at hp
   have hJ1:J.size≤1000000:=by omega
   have HJM:Hid (J.size≤maxLen):=Lib.hid (by unfold maxLen;omega)
   clear hp
   rcases (show v=1∨v=2∨v=3 by omega) with rfl | rfl | rfl
   · clear hv1 hv3
     rcases hub:unO J.data.toList with x | ⟨f,h,l⟩
     · have HR:Hid (oldF s.data.toList=.inl (x,-1)):=Lib.hid (old_bad ho (by decide) (by decide) hub)
       have HNE:Hid (x≠0):=Lib.hid (unO_ne hub)
       have HRD:=Lib.hid (fun w' hg=>ounp_bad J x w' hJ1 hg hub)
       clear hub ho
       go_enter Tryz.func33,Tryz.ntmps33
       go_wp2_with fail
       generalize w.alloc (.cells #[.slice none 0 0,.slice none 0 0,.slice none 0 0] 25)=W at HW HG ⊢
       refine (version_as s J 1 0 W hsz HO.out).mono ?_
       rintro r w1 ⟨rfl,hb⟩
       have H1:=Lib.hid (HW.out.below hb)
       have HG1:=Lib.hid (HG.out.below hb)
       clear hb
       rw [errC_zero]
       go_wp2_with fail
       refine (inside_as s J 1 0 w1 hsz HO.out).mono ?_
       rintro r w2 ⟨rfl,hb⟩
       have H2:=Lib.hid (H1.out.below hb)
       have HG2:=Lib.hid (HG1.out.below hb)
       have HBK:Hid (w.heap.size + 1≤w2.heap.size):=Lib.hid H2.out.2.2
       clear hb
       rw [errC_zero]
       go_wp2_with fail
       refine (HRD.out w2 HG2.out).mono ?_
       rintro r w3 ⟨t,u,rfl,hae,hb⟩
       have H3:=Lib.hid (H2.out.below hb)
       have HAE:=Lib.hid (((hae.cellB (o:=0) (u:=.slice none 0 0) H3.out rfl).cellB (o:=1) (u:=.slice none 0 0) (H3.out.put (o:=0) (v:=.slice none 0 0) rfl) rfl).cellB (o:=2) (u:=.slice none 0 0) ((H3.out.put (o:=0) (v:=.slice none 0 0) rfl).put (o:=1) (v:=.slice none 0 0) rfl) rfl)
       clear hb hae
       obtain ⟨⟨c0,c1,c2⟩,z0,z1,z2⟩:=H3.out.cells
       have HM:=Lib.hid (((H3.out.put (o:=0) (v:=.slice none 0 0) rfl).put (o:=1) (v:=.slice none 0 0) rfl).put (o:=2) (v:=.slice none 0 0) rfl)
       go_wp2
       obtain ⟨⟨q0,q1,q2⟩,_⟩:=HM.out.cells
       refine bodyPost_ret (v:=.tuple #[.agg #[.slice none 0 0,.slice none 0 0,.slice none 0 0],.iface t u]) (by simp [results,Tryz.results33,go_sem,q0,q1,q2]) rfl ?_
       exact ⟨HM.out.2.1,.inl ⟨_,_,_,HR.out,HNE.out,rfl,HAE.out⟩⟩
     · have HR:Hid (oldF s.data.toList=.inr (f,h,l)):=Lib.hid (old_ok ho (by decide) (by decide) hub)
       have HRD:=Lib.hid (fun w' hg=>ounp_own J f h l w' hJ1 hg hub)
       have HQQ:Hid (∀ a1 c1 a2 c2 a3 c3 W',Below w.heap.size w W'→BatOwn W' (w.heap.size + 1) (.slice a1 f.length c1) (.slice a2 h.length c2) (.slice a3 l.length c3) f h l→RdIs (oldF s.data.toList) w (.returned (.tuple #[.agg #[.slice a1 f.length c1,.slice a2 h.length c2,.slice a3 l.length c3],.nilIface])) W'):=Lib.hid (fun a1 c1 a2 c2 a3 c3 W' h1 h3=>⟨h1,.inr ⟨f,h,l,a1,c1,a2,c2,a3,c3,HR.out,rfl,h3⟩⟩)
       clear hub ho
       generalize f.length=nf at HRD HQQ
       generalize h.length=nh at HRD HQQ
       generalize l.length=nl at HRD HQQ
       go_enter Tryz.func33,Tryz.ntmps33
       go_wp2_with fail
       generalize w.alloc (.cells #[.slice none 0 0,.slice none 0 0,.slice none 0 0] 25)=W at HW HG ⊢
       refine (version_as s J 1 0 W hsz HO.out).mono ?_
       rintro r w1 ⟨rfl,hb⟩
       have H1:=Lib.hid (HW.out.below hb)
       have HG1:=Lib.hid (HG.out.below hb)
       clear hb
       rw [errC_zero]
       go_wp2_with fail
       refine (inside_as s J 1 0 w1 hsz HO.out).mono ?_
       rintro r w2 ⟨rfl,hb⟩
       have H2:=Lib.hid (H1.out.below hb)
       have HG2:=Lib.hid (HG1.out.below hb)
       have HBK:Hid (w.heap.size + 1≤w2.heap.size):=Lib.hid H2.out.2.2
       clear hb
       rw [errC_zero]
       go_wp2_with fail
       refine (HRD.out w2 HG2.out).mono ?_
       rintro r w3 ⟨a1,c1,a2,c2,a3,c3,rfl,ho3,hb⟩
       have H3:=Lib.hid (H2.out.below hb)
       have HOM:=Lib.hid ((((ho3.mono HBK.out).cell (k:=w.heap.size) (by omega) 0 (.slice a1 nf c1)).cell (k:=w.heap.size) (by omega) 1 (.slice a2 nh c2)).cell (k:=w.heap.size) (by omega) 2 (.slice a3 nl c3))
       have HM:=Lib.hid (((H3.out.put (o:=0) (v:=.slice a1 nf c1) rfl).put (o:=1) (v:=.slice a2 nh c2) rfl).put (o:=2) (v:=.slice a3 nl c3) rfl)
       clear hb ho3
       obtain ⟨⟨x0,x1,x2⟩,z0,z1,z2⟩:=H3.out.cells
       go_wp2
       obtain ⟨⟨q0,q1,q2⟩,_⟩:=HM.out.cells
       refine bodyPost_ret (v:=.tuple #[.agg #[.slice a1 nf c1,.slice a2 nh c2,.slice a3 nl c3],.nilIface]) (by simp [results,Tryz.results33,go_sem,q0,q1,q2]) rfl ?_
       exact HQQ.out _ _ _ _ _ _ _ HM.out.2.1 HOM.out
   · clear hv1 hv3
     rcases hub:unbF J.data.toList with ⟨x,pl⟩ | ⟨f,h,l⟩
     · have HR:Hid (oldF s.data.toList=.inl (x,pl)):=Lib.hid ((old_two ho).trans hub)
       have HNE:Hid (x≠0):=Lib.hid (unb_ne hub)
       have HRD:=Lib.hid (fun w' hg=>bread_err2 J x pl w' HJM.out hg hub)
       clear hub ho
       go_enter Tryz.func33,Tryz.ntmps33
       go_wp2_with fail
       generalize w.alloc (.cells #[.slice none 0 0,.slice none 0 0,.slice none 0 0] 25)=W at HW HG ⊢
       refine (version_as s J 2 0 W hsz HO.out).mono ?_
       rintro r w1 ⟨rfl,hb⟩
       have H1:=Lib.hid (HW.out.below hb)
       have HG1:=Lib.hid (HG.out.below hb)
       clear hb
       rw [errC_zero]
       go_wp2_with fail
       refine (inside_as s J 2 0 w1 hsz HO.out).mono ?_
       rintro r w2 ⟨rfl,hb⟩
       have H2:=Lib.hid (H1.out.below hb)
       have HG2:=Lib.hid (HG1.out.below hb)
       have HBK:Hid (w.heap.size + 1≤w2.heap.size):=Lib.hid H2.out.2.2
       clear hb
       rw [errC_zero]
       go_wp2_with fail
       refine (HRD.out w2 HG2.out).mono ?_
       rintro r w3 ⟨t,u,rfl,hae,hb⟩
       have H3:=Lib.hid (H2.out.below hb)
       have HAE:=Lib.hid (((hae.cellB (o:=0) (u:=.slice none 0 0) H3.out rfl).cellB (o:=1) (u:=.slice none 0 0) (H3.out.put (o:=0) (v:=.slice none 0 0) rfl) rfl).cellB (o:=2) (u:=.slice none 0 0) ((H3.out.put (o:=0) (v:=.slice none 0 0) rfl).put (o:=1) (v:=.slice none 0 0) rfl) rfl)
       clear hb hae
       obtain ⟨⟨c0,c1,c2⟩,z0,z1,z2⟩:=H3.out.cells
       have HM:=Lib.hid (((H3.out.put (o:=0) (v:=.slice none 0 0) rfl).put (o:=1) (v:=.slice none 0 0) rfl).put (o:=2) (v:=.slice none 0 0) rfl)
       go_wp2
       obtain ⟨⟨q0,q1,q2⟩,_⟩:=HM.out.cells
       refine bodyPost_ret (v:=.tuple #[.agg #[.slice none 0 0,.slice none 0 0,.slice none 0 0],.iface t u]) (by simp [results,Tryz.results33,go_sem,q0,q1,q2]) rfl ?_
       exact ⟨HM.out.2.1,.inl ⟨_,_,_,HR.out,HNE.out,rfl,HAE.out⟩⟩
     · have HR:Hid (oldF s.data.toList=.inr (f,h,l)):=Lib.hid ((old_two ho).trans hub)
       have HRD:=Lib.hid (fun w' hg=>bread_own J f h l w' HJM.out hg hub)
       have HQQ:Hid (∀ a1 c1 a2 c2 a3 c3 W',Below w.heap.size w W'→BatOwn W' (w.heap.size + 1) (.slice a1 f.length c1) (.slice a2 h.length c2) (.slice a3 l.length c3) f h l→RdIs (oldF s.data.toList) w (.returned (.tuple #[.agg #[.slice a1 f.length c1,.slice a2 h.length c2,.slice a3 l.length c3],.nilIface])) W'):=Lib.hid (fun a1 c1 a2 c2 a3 c3 W' h1 h3=>⟨h1,.inr ⟨f,h,l,a1,c1,a2,c2,a3,c3,HR.out,rfl,h3⟩⟩)
       clear hub ho
       generalize f.length=nf at HRD HQQ
       generalize h.length=nh at HRD HQQ
       generalize l.length=nl at HRD HQQ
       go_enter Tryz.func33,Tryz.ntmps33
       go_wp2_with fail
       generalize w.alloc (.cells #[.slice none 0 0,.slice none 0 0,.slice none 0 0] 25)=W at HW HG ⊢
       refine (version_as s J 2 0 W hsz HO.out).mono ?_
       rintro r w1 ⟨rfl,hb⟩
       have H1:=Lib.hid (HW.out.below hb)
       have HG1:=Lib.hid (HG.out.below hb)
       clear hb
       rw [errC_zero]
       go_wp2_with fail
       refine (inside_as s J 2 0 w1 hsz HO.out).mono ?_
       rintro r w2 ⟨rfl,hb⟩
       have H2:=Lib.hid (H1.out.below hb)
       have HG2:=Lib.hid (HG1.out.below hb)
       have HBK:Hid (w.heap.size + 1≤w2.heap.size):=Lib.hid H2.out.2.2
       clear hb
       rw [errC_zero]
       go_wp2_with fail
       refine (HRD.out w2 HG2.out).mono ?_
       rintro r w3 ⟨a1,c1,a2,c2,a3,c3,rfl,ho3,hb⟩
       have H3:=Lib.hid (H2.out.below hb)
       have HOM:=Lib.hid ((((ho3.mono HBK.out).cell (k:=w.heap.size) (by omega) 0 (.slice a1 nf c1)).cell (k:=w.heap.size) (by omega) 1 (.slice a2 nh c2)).cell (k:=w.heap.size) (by omega) 2 (.slice a3 nl c3))
       have HM:=Lib.hid (((H3.out.put (o:=0) (v:=.slice a1 nf c1) rfl).put (o:=1) (v:=.slice a2 nh c2) rfl).put (o:=2) (v:=.slice a3 nl c3) rfl)
       clear hb ho3
       obtain ⟨⟨x0,x1,x2⟩,z0,z1,z2⟩:=H3.out.cells
       go_wp2
       obtain ⟨⟨q0,q1,q2⟩,_⟩:=HM.out.cells
       refine bodyPost_ret (v:=.tuple #[.agg #[.slice a1 nf c1,.slice a2 nh c2,.slice a3 nl c3],.nilIface]) (by simp [results,Tryz.results33,go_sem,q0,q1,q2]) rfl ?_
       exact HQQ.out _ _ _ _ _ _ _ HM.out.2.1 HOM.out
   · have HR:Hid (oldF s.data.toList=.inl (6,-1)):=Lib.hid (old_state ho)
     clear ho hv1 hv3
     go_enter Tryz.func33,Tryz.ntmps33
     go_wp2_with fail
     generalize w.alloc (.cells #[.slice none 0 0,.slice none 0 0,.slice none 0 0] 25)=W at HW HG ⊢
     refine (version_as s J 3 0 W hsz HO.out).mono ?_
     rintro r w1 ⟨rfl,hb⟩
     have H1:=Lib.hid (HW.out.below hb)
     clear hb
     rw [errC_zero]
     go_wp2_with fail
     refine (inside_as s J 3 0 w1 hsz HO.out).mono ?_
     rintro r w2 ⟨rfl,hb⟩
     have H2:=Lib.hid (H1.out.below hb)
     clear hb
     rw [errC_zero]
     obtain ⟨⟨c0,c1,c2⟩,z0,z1,z2⟩:=H2.out.cells
     have HM:=Lib.hid (((H2.out.put (o:=0) (v:=.slice none 0 0) rfl).put (o:=1) (v:=.slice none 0 0) rfl).put (o:=2) (v:=.slice none 0 0) rfl)
     go_wp2
     obtain ⟨⟨q0,q1,q2⟩,_⟩:=HM.out.cells
     refine bodyPost_ret (v:=.tuple #[.agg #[.slice none 0 0,.slice none 0 0,.slice none 0 0],.iface 44 (.int .i64 6)]) (by simp [results,Tryz.results33,go_sem,q0,q1,q2]) rfl ?_
     exact ⟨HM.out.2.1,.inl ⟨6,-1,_,HR.out,by decide,rfl,errC_any _ (by decide)⟩⟩
 · have HR:Hid (oldF s.data.toList=.inl (e,-1)):=Lib.hid (old_open ho he)
   clear ho
   go_enter Tryz.func33,Tryz.ntmps33
   go_wp2_with fail
   generalize w.alloc (.cells #[.slice none 0 0,.slice none 0 0,.slice none 0 0] 25)=W at HW HG ⊢
   refine (version_as s J v e W hsz HO.out).mono ?_
   rintro r w1 ⟨rfl,hb⟩
   have H1:=Lib.hid (HW.out.below hb)
   clear hb
   rw [errC_ne he]
   obtain ⟨⟨c0,c1,c2⟩,z0,z1,z2⟩:=H1.out.cells
   have HM:=Lib.hid (((H1.out.put (o:=0) (v:=.slice none 0 0) rfl).put (o:=1) (v:=.slice none 0 0) rfl).put (o:=2) (v:=.slice none 0 0) rfl)
   go_wp2
   obtain ⟨⟨q0,q1,q2⟩,_⟩:=HM.out.cells
   refine bodyPost_ret (v:=.tuple #[.agg #[.slice none 0 0,.slice none 0 0,.slice none 0 0],.iface 44 (.int .i64 e)]) (by simp [results,Tryz.results33,go_sem,q0,q1,q2]) rfl ?_
   exact ⟨HM.out.2.1,.inl ⟨e,-1,_,HR.out,he,rfl,errC_any _ he⟩⟩
end Go.Proofs.YtjkbmfpomgcblaaGreatDoor
namespace Go.Proofs.YtjkbmfpomgcblaaGreatDoor
open Go.RowKit
theorem fwrite_ok (vf vh vw:Value) (f h:List Ent) (l:List Wr) (T:ByteArray) (w:World) (hx:BatIs w vf vh vw f h l) (hg:errT w) (hb:frmF f h l=(T.data.toList,0,-1)) :
   Calls Tryz.prog 14 #[.agg #[vf,vh,vw]] w fun r w'=>r=.returned (.tuple #[.string T,.nilIface])∧Below w.heap.size w w':=by
 refine (fwrite_as vf vh vw f h l T 0 (-1) w hx hg hb).mono ?_
 rintro r w' ⟨err,rfl,ha,hb⟩
 obtain rfl:=ha.nil rfl
 exact ⟨rfl,hb⟩
theorem fwrite_err (vf vh vw:Value) (f h:List Ent) (l:List Wr) (s:List UInt8) (e:Nat) (pl:Int) (w:World) (hx:BatIs w vf vh vw f h l) (hg:errT w) (hb:bodyF f h l=(s,e,pl)) (he:e≠0) :
   Calls Tryz.prog 14 #[.agg #[vf,vh,vw]] w fun r w'=>∃ t u,r=.returned (.tuple #[.string ⟨#[]⟩,.iface t u])∧Below w.heap.size w w':=by
 refine (fwrite_as vf vh vw f h l ⟨#[]⟩ e pl w hx hg (frmF_bad hb he)).mono ?_
 rintro r w' ⟨err,rfl,ha,hb⟩
 obtain ⟨t,u,rfl⟩:=ha.iface he
 exact ⟨t,u,rfl,hb⟩
theorem fread_ok (s:ByteArray) (f h:List Ent) (l:List Wr) (w:World) (hs:s.size≤400000) (hg:errT w) (hu:unfF s.data.toList=.inr (f,h,l)) :
   Calls Tryz.prog 17 #[.string s] w fun e w'=>∃ a1 c1 a2 c2 a3 c3,e=.returned (.tuple #[.agg #[.slice a1 f.length c1,.slice a2 h.length c2,.slice a3 l.length c3],.nilIface])∧BatIs w' (.slice a1 f.length c1) (.slice a2 h.length c2) (.slice a3 l.length c3) f h l∧Below w.heap.size w w':=by
 refine (fread_any s w hs hg).mono ?_
 rintro e w' ⟨hb,⟨x,pl,err,hx,_⟩ | ⟨f',h',l',a1,c1,a2,c2,a3,c3,hx,rfl,ho⟩⟩
 · rw [hu] at hx;cases hx
 · rw [hu] at hx
   injection hx with hx
   injection hx with h1 h2
   injection h2 with h2 h3
   subst h1 h2 h3
   exact ⟨a1,c1,a2,c2,a3,c3,rfl,ho,hb⟩
theorem fread_err (s:ByteArray) (x:Nat) (pl:Int) (w:World) (hs:s.size≤400000) (hg:errT w) (hu:unfF s.data.toList=.inl (x,pl)) :
   Calls Tryz.prog 17 #[.string s] w fun e w'=>∃ t u,e=.returned (.tuple #[.agg #[.slice none 0 0,.slice none 0 0,.slice none 0 0],.iface t u])∧isErr w' (.iface t u) (x:Nat)∧Below w.heap.size w w':=by
 refine (fread_any s w hs hg).mono ?_
 rintro e w' ⟨hb,⟨x',pl',err,hx,hx0,rfl,ha⟩ | ⟨f',h',l',a1,c1,a2,c2,a3,c3,hx,_⟩⟩
 · rw [hu] at hx
   injection hx with hx
   injection hx with h1 h2
   subst h1 h2
   have hi:=ha.isErr hx0
   obtain ⟨t,u,rfl⟩:=ha.iface hx0
   exact ⟨t,u,rfl,hi,hb⟩
 · rw [hu] at hx;cases hx
theorem frm_cases (f h:List Ent) (l:List Wr):(∃ s e pl,bodyF f h l=(s,e,pl)∧e≠0∧¬ (rightB f h l∧(bodyL f h l).length≤20000)) ∨
   ∃ S T:ByteArray,rightB f h l∧bodyL f h l=S.data.toList∧S.size≤20000∧frmF f h l=(T.data.toList,0,-1)∧frmL S.data.toList=T.data.toList:=by
 by_cases hr:rightB f h l
 · by_cases hb:20000 < (bodyL f h l).length
   · exact .inl ⟨_,_,_,bodyF_big hr hb,by decide,fun h=>by omega⟩
   · have hS:bodyL f h l=(⟨(bodyL f h l).toArray⟩:ByteArray).data.toList:=by simp
     have hT:frmL (bodyL f h l)=(⟨(frmL (bodyL f h l)).toArray⟩:ByteArray).data.toList:=by simp
     refine .inr ⟨⟨(bodyL f h l).toArray⟩,⟨(frmL (bodyL f h l)).toArray⟩,hr,hS,?_,?_,?_⟩
     · rw [size_data,←hS];omega
     · rw [←hT];exact frmF_ok (bodyF_ok hr hb)
     · rw [←hS,hT]
 · have h0:(batF f h l).1≠0:=hr
   exact .inl ⟨_,_,_,(bodyF_bad h0).trans (Prod.ext rfl (Prod.ext rfl rfl)),h0,fun h=>hr h.1⟩
end Go.Proofs.YtjkbmfpomgcblaaGreatDoor
namespace Go.Proofs.YtjkbmfpomgcblaaGreatDoor
open Go.RowKit
def anyF (s:List UInt8):(Nat×Int) ⊕ (List Ent×List Ent×List Wr) :=
 match opnF s with
 | (v,_,e)=>if e≠0 then .inl (e,-1) else if v=3 then unfF s else oldF s
section
variable {s i:List UInt8} {v e:Nat}
theorem any_open (h0:opnF s=(v,i,e)) (he:e≠0):anyF s=.inl (e,-1):=by unfold anyF;rw [h0];simp only;rw [if_pos he]
theorem any_three (h0:opnF s=(3,i,0)):anyF s=unfF s:=by unfold anyF;rw [h0];simp only;rw [if_neg (by simp),if_pos trivial]
theorem any_old (h0:opnF s=(v,i,0)) (h3:v≠3):anyF s=oldF s:=by unfold anyF;rw [h0];simp only;rw [if_neg (by simp),if_neg h3]
end
def liftF (s:List UInt8):List UInt8×Nat×Int :=
 match anyF s with
 | .inl (x,pl)=>([],x,pl)
 | .inr (f,h,l)=>frmF f h l
theorem lift_bad {s:List UInt8} {x:Nat} {pl:Int} (h:anyF s=.inl (x,pl)):liftF s=([],x,pl):=by unfold liftF;rw [h]
theorem lift_ok {s:List UInt8} {f h:List Ent} {l:List Wr} (h0:anyF s=.inr (f,h,l)):liftF s=frmF f h l:=by unfold liftF;rw [h0]
set_option maxRecDepth 100000 in
set_option maxHeartbeats 2400000 in
theorem oany_any (s:ByteArray) (w:World) (hs:s.size≤400000) (hg:errT w) :
   Calls Tryz.prog 19 #[.string s] w (RdIs (anyF s.data.toList) w):=by
 have hsz:s.size≤140737488351232:=by omega
 have HW:Hid (RD1 w (w.alloc (.cells #[.slice none 0 0,.slice none 0 0,.slice none 0 0] 25)) (.slice none 0 0) (.slice none 0 0) (.slice none 0 0)):=Lib.hid ⟨heap_alloc_new w _,(Below.refl _ _).alloc (Nat.le_refl _) _,by simp⟩
 have HG:=Lib.hid (hg.alloc (.cells #[.slice none 0 0,.slice none 0 0,.slice none 0 0] 25))
 obtain ⟨v,i,e,ho⟩:∃ v i e,opnF s.data.toList=(v,i,e):=⟨_,_,_,rfl⟩
 obtain ⟨J,hJ⟩:∃ J:ByteArray,i=J.data.toList:=⟨⟨i.toArray⟩,by simp⟩
 subst hJ
 have HO:=Lib.hid ho
 clear hg
 by_cases he:e=0
 · subst he
   by_cases hv:v=3
   · subst hv
     have HR:=Lib.hid (any_three ho)
     have HRD:Hid (∀ w',errT w'→Calls Tryz.prog 17 #[.string s] w' (RdIs (unfF s.data.toList) w')):=Lib.hid (fun w' hg=>fread_own s w' hs hg)
     clear ho
     go_enter Tryz.func19,Tryz.ntmps19
     go_wp2_with fail
     generalize w.alloc (.cells #[.slice none 0 0,.slice none 0 0,.slice none 0 0] 25)=W at HW HG ⊢
     refine (version_as s J 3 0 W hsz HO.out).mono ?_
     rintro r w1 ⟨rfl,hb⟩
     have H1:=Lib.hid (HW.out.below hb)
     have HG1:=Lib.hid (HG.out.below hb)
     have HBK:Hid (w.heap.size + 1≤w1.heap.size):=Lib.hid H1.out.2.2
     clear hb
     rw [errC_zero]
     go_wp2_with fail
     refine (HRD.out w1 HG1.out).mono ?_
     rintro r w3 ⟨hb,hcases⟩
     have H3:=Lib.hid (H1.out.below hb)
     clear hb
     rcases hcases with ⟨x,q,err,hx,hx0,rfl,hae⟩ | ⟨f,h,l,a1,c1,a2,c2,a3,c3,hx,rfl,ho3⟩
     · have HRR:=Lib.hid (HR.out.trans hx)
       have HAE:=Lib.hid (((hae.cellB (o:=0) (u:=.slice none 0 0) H3.out rfl).cellB (o:=1) (u:=.slice none 0 0) (H3.out.put (o:=0) (v:=.slice none 0 0) rfl) rfl).cellB (o:=2) (u:=.slice none 0 0) ((H3.out.put (o:=0) (v:=.slice none 0 0) rfl).put (o:=1) (v:=.slice none 0 0) rfl) rfl)
       clear hae hx HR
       obtain ⟨⟨c0,c1,c2⟩,z0,z1,z2⟩:=H3.out.cells
       have HM:=Lib.hid (((H3.out.put (o:=0) (v:=.slice none 0 0) rfl).put (o:=1) (v:=.slice none 0 0) rfl).put (o:=2) (v:=.slice none 0 0) rfl)
       go_wp2
       obtain ⟨⟨q0,q1,q2⟩,_⟩:=HM.out.cells
       refine bodyPost_ret (v:=.tuple #[.agg #[.slice none 0 0,.slice none 0 0,.slice none 0 0],err]) (by simp [results,Tryz.results19,go_sem,q0,q1,q2]) rfl ?_
       exact ⟨HM.out.2.1,.inl ⟨_,_,_,HRR.out,hx0,rfl,HAE.out⟩⟩
     · have HRR:=Lib.hid (HR.out.trans hx)
       have HQQ:Hid (∀ W',Below w.heap.size w W'→BatOwn W' (w.heap.size + 1) (.slice a1 f.length c1) (.slice a2 h.length c2) (.slice a3 l.length c3) f h l→RdIs (anyF s.data.toList) w (.returned (.tuple #[.agg #[.slice a1 f.length c1,.slice a2 h.length c2,.slice a3 l.length c3],.nilIface])) W'):=Lib.hid (fun W' h1 h3=>⟨h1,.inr ⟨f,h,l,a1,c1,a2,c2,a3,c3,HRR.out,rfl,h3⟩⟩)
       clear hx HR
       generalize f.length=nf at ho3 HQQ ⊢
       generalize h.length=nh at ho3 HQQ ⊢
       generalize l.length=nl at ho3 HQQ ⊢
       have HOM:=Lib.hid ((((ho3.mono (Nat.le_trans HBK.out (Nat.le_succ _))).cell (k:=w.heap.size) (by omega) 0 (.slice a1 nf c1)).cell (k:=w.heap.size) (by omega) 1 (.slice a2 nh c2)).cell (k:=w.heap.size) (by omega) 2 (.slice a3 nl c3))
       have HM:=Lib.hid (((H3.out.put (o:=0) (v:=.slice a1 nf c1) rfl).put (o:=1) (v:=.slice a2 nh c2) rfl).put (o:=2) (v:=.slice a3 nl c3) rfl)
       clear ho3
       obtain ⟨⟨x0,x1,x2⟩,z0,z1,z2⟩:=H3.out.cells
       go_wp2
       obtain ⟨⟨q0,q1,q2⟩,_⟩:=HM.out.cells
       refine bodyPost_ret (v:=.tuple #[.agg #[.slice a1 nf c1,.slice a2 nh c2,.slice a3 nl c3],.nilIface]) (by simp [results,Tryz.results19,go_sem,q0,q1,q2]) rfl ?_
       exact HQQ.out _ HM.out.2.1 HOM.out
   · have HR:=Lib.hid (any_old ho hv)
     have hv3:((v:Int) == 3)=false:=by simp;omega
     have HRD:Hid (∀ w',errT w'→Calls Tryz.prog 33 #[.string s] w' (RdIs (oldF s.data.toList) w')):=Lib.hid (fun w' hg=>oread_any s w' hs hg)
     clear ho hv
     go_enter Tryz.func19,Tryz.ntmps19
     go_wp2_with fail
     generalize w.alloc (.cells #[.slice none 0 0,.slice none 0 0,.slice none 0 0] 25)=W at HW HG ⊢
     refine (version_as s J v 0 W hsz HO.out).mono ?_
     rintro r w1 ⟨rfl,hb⟩
     have H1:=Lib.hid (HW.out.below hb)
     have HG1:=Lib.hid (HG.out.below hb)
     have HBK:Hid (w.heap.size + 1≤w1.heap.size):=Lib.hid H1.out.2.2
     clear hb
     rw [errC_zero]
     go_wp2_with fail
     refine (HRD.out w1 HG1.out).mono ?_
     rintro r w3 ⟨hb,hcases⟩
     have H3:=Lib.hid (H1.out.below hb)
     clear hb
     rcases hcases with ⟨x,q,err,hx,hx0,rfl,hae⟩ | ⟨f,h,l,a1,c1,a2,c2,a3,c3,hx,rfl,ho3⟩
     · have HRR:=Lib.hid (HR.out.trans hx)
       have HAE:=Lib.hid (((hae.cellB (o:=0) (u:=.slice none 0 0) H3.out rfl).cellB (o:=1) (u:=.slice none 0 0) (H3.out.put (o:=0) (v:=.slice none 0 0) rfl) rfl).cellB (o:=2) (u:=.slice none 0 0) ((H3.out.put (o:=0) (v:=.slice none 0 0) rfl).put (o:=1) (v:=.slice none 0 0) rfl) rfl)
       clear hae hx HR
       obtain ⟨⟨c0,c1,c2⟩,z0,z1,z2⟩:=H3.out.cells
       have HM:=Lib.hid (((H3.out.put (o:=0) (v:=.slice none 0 0) rfl).put (o:=1) (v:=.slice none 0 0) rfl).put (o:=2) (v:=.slice none 0 0) rfl)
       go_wp2
       obtain ⟨⟨q0,q1,q2⟩,_⟩:=HM.out.cells
       refine bodyPost_ret (v:=.tuple #[.agg #[.slice none 0 0,.slice none 0 0,.slice none 0 0],err]) (by simp [results,Tryz.results19,go_sem,q0,q1,q2]) rfl ?_
       exact ⟨HM.out.2.1,.inl ⟨_,_,_,HRR.out,hx0,rfl,HAE.out⟩⟩
     · have HRR:=Lib.hid (HR.out.trans hx)
       have HQQ:Hid (∀ W',Below w.heap.size w W'→BatOwn W' (w.heap.size + 1) (.slice a1 f.length c1) (.slice a2 h.length c2) (.slice a3 l.length c3) f h l→RdIs (anyF s.data.toList) w (.returned (.tuple #[.agg #[.slice a1 f.length c1,.slice a2 h.length c2,.slice a3 l.length c3],.nilIface])) W'):=Lib.hid (fun W' h1 h3=>⟨h1,.inr ⟨f,h,l,a1,c1,a2,c2,a3,c3,HRR.out,rfl,h3⟩⟩)
       clear hx HR
       generalize f.length=nf at ho3 HQQ ⊢
       generalize h.length=nh at ho3 HQQ ⊢
       generalize l.length=nl at ho3 HQQ ⊢
       have HOM:=Lib.hid ((((ho3.mono (Nat.le_trans HBK.out (Nat.le_succ _))).cell (k:=w.heap.size) (by omega) 0 (.slice a1 nf c1)).cell (k:=w.heap.size) (by omega) 1 (.slice a2 nh c2)).cell (k:=w.heap.size) (by omega) 2 (.slice a3 nl c3))
       have HM:=Lib.hid (((H3.out.put (o:=0) (v:=.slice a1 nf c1) rfl).put (o:=1) (v:=.slice a2 nh c2) rfl).put (o:=2) (v:=.slice a3 nl c3) rfl)
       clear ho3
       obtain ⟨⟨x0,x1,x2⟩,z0,z1,z2⟩:=H3.out.cells
       go_wp2
       obtain ⟨⟨q0,q1,q2⟩,_⟩:=HM.out.cells
       refine bodyPost_ret (v:=.tuple #[.agg #[.slice a1 nf c1,.slice a2 nh c2,.slice a3 nl c3],.nilIface]) (by simp [results,Tryz.results19,go_sem,q0,q1,q2]) rfl ?_
       exact HQQ.out _ HM.out.2.1 HOM.out
 · have HR:Hid (anyF s.data.toList=.inl (e,-1)):=Lib.hid (any_open ho he)
   clear ho
   go_enter Tryz.func19,Tryz.ntmps19
   go_wp2_with fail
   generalize w.alloc (.cells #[.slice none 0 0,.slice none 0 0,.slice none 0 0] 25)=W at HW HG ⊢
   refine (version_as s J v e W hsz HO.out).mono ?_
   rintro r w1 ⟨rfl,hb⟩
   have H1:=Lib.hid (HW.out.below hb)
   clear hb
   rw [errC_ne he]
   obtain ⟨⟨c0,c1,c2⟩,z0,z1,z2⟩:=H1.out.cells
   have HM:=Lib.hid (((H1.out.put (o:=0) (v:=.slice none 0 0) rfl).put (o:=1) (v:=.slice none 0 0) rfl).put (o:=2) (v:=.slice none 0 0) rfl)
   go_wp2
   obtain ⟨⟨q0,q1,q2⟩,_⟩:=HM.out.cells
   refine bodyPost_ret (v:=.tuple #[.agg #[.slice none 0 0,.slice none 0 0,.slice none 0 0],.iface 44 (.int .i64 e)]) (by simp [results,Tryz.results19,go_sem,q0,q1,q2]) rfl ?_
   exact ⟨HM.out.2.1,.inl ⟨e,-1,_,HR.out,he,rfl,errC_any _ he⟩⟩
set_option maxRecDepth 100000 in
set_option maxHeartbeats 2400000 in
theorem olift_as (s T:ByteArray) (e:Nat) (pl:Int) (w:World) (hs:s.size≤400000) (hg:errT w) (h:liftF s.data.toList=(T.data.toList,e,pl)) :
   Calls Tryz.prog 38 #[.string s] w fun r w'=>∃ err,r=.returned (.tuple #[.string T,err])∧anyErr w' err (e,pl)∧Below w.heap.size w w':=by
 have HL:=Lib.hid h
 have HG:=Lib.hid hg
 clear h hg
 go_enter Tryz.func38,Tryz.ntmps38
 go_wp2_with fail
 refine (oany_any s _ hs HG.out).mono ?_
 rintro r w1 ⟨hb1,hcases⟩
 have HB1:=Lib.hid hb1
 clear hb1
 rcases hcases with ⟨x,q,err,hx,hx0,rfl,hae⟩ | ⟨f,h,l,a1,c1,a2,c2,a3,c3,hx,rfl,ho⟩
 · have hl:=HL.out
   rw [lift_bad hx] at hl
   injection hl with h1 hl
   injection hl with h2 h3
   subst h2 h3
   have hT:T=⟨#[]⟩:=by rw [←bs_of T,←h1]
   subst hT
   obtain ⟨t,u,rfl⟩:=hae.iface hx0
   have HAE:=Lib.hid (hae.below (w':=w1.alloc (.cells #[.slice none 0 0,.slice none 0 0,.slice none 0 0] 25)) ((Below.refl _ _).alloc (Nat.le_refl _) _))
   have HB2:=Lib.hid (HB1.out.alloc HB1.out.size (.cells #[.slice none 0 0,.slice none 0 0,.slice none 0 0] 25))
   clear h1 hae hx HL
   go_wp2
   go_ret2
   exact ⟨_,rfl,HAE.out,HB2.out⟩
 · have HF:Hid (frmF f h l=(T.data.toList,e,pl)):=Lib.hid (by rw [←lift_ok hx];exact HL.out)
   have hbi:=ho.bat
   generalize f.length=nf at hbi ⊢
   generalize h.length=nh at hbi ⊢
   generalize l.length=nl at hbi ⊢
   have HX:=Lib.hid (hbi.alloc (.cells #[.slice a1 nf c1,.slice a2 nh c2,.slice a3 nl c3] 25))
   have HB2:=Lib.hid (HB1.out.alloc HB1.out.size (.cells #[.slice a1 nf c1,.slice a2 nh c2,.slice a3 nl c3] 25))
   have HG2:=Lib.hid (HG.out.below HB2.out)
   clear ho hbi hx HL
   go_wp2_with fail
   refine (fwrite_as _ _ _ f h l T e pl _ HX.out HG2.out HF.out).mono ?_
   rintro r w3 ⟨err,rfl,hae,hb3⟩
   have HAE:=Lib.hid hae
   have HB3:Hid (Below w.heap.size w w3):=Lib.hid (HB2.out.trans (hb3.mono HB2.out.size))
   clear hae hb3
   go_wp2
   go_ret2
   exact ⟨_,rfl,HAE.out,HB3.out⟩
end Go.Proofs.YtjkbmfpomgcblaaGreatDoor
namespace Go.Proofs.YtjkbmfpomgcblaaGreatDoor
open Go.RowKit
theorem one_toks:toks oneS.data.toList=[⟨oneS,0,0⟩]:=by decide +kernel
theorem one_sq:¬ (sqL oneS.data.toList).length < oneS.data.toList.length:=by
 unfold sqL
 rw [one_toks,writeL_cons,writeL_nil,putT_own (by decide),putL_small (by decide)]
 decide
def oneI:List UInt8:=[0,15,0,1,3,0,7,1,1,107,1,1,7,0,0,1,118]
theorem one_pack:packL oneS.data.toList=oneI:=by
 unfold packL
 rw [if_neg one_sq,putL_small (by decide)];rfl
theorem one_frm:frmL oneS.data.toList=sealL (80 :: 84 :: 3 :: oneI):=by unfold frmL;rw [one_pack]
theorem one_frame:∃ S:ByteArray,frmF [] oneH oneW=(S.data.toList,0,-1)∧unfF S.data.toList=.inr ([],oneH,oneW)∧opnF S.data.toList=(3,(⟨oneI.toArray⟩:ByteArray).data.toList,0)∧S.size=24∧Lib.hasPrefix S.data.toList [80,84,3,0,15,0,1,3]=true:=by
 refine ⟨⟨(frmL oneS.data.toList).toArray⟩,?_⟩
 have hd:(⟨(frmL oneS.data.toList).toArray⟩:ByteArray).data.toList=frmL oneS.data.toList:=by simp
 have hb:bodyL [] oneH oneW=oneS.data.toList:=one_bytes
 have hl:(bodyL [] oneH oneW).length≤20000:=by rw [hb];decide
 have hf:bodyF [] oneH oneW=(oneS.data.toList,0,-1):=by rw [bodyF_ok one_rightB (by omega),hb]
 refine ⟨by rw [hd];exact frmF_ok hf,?_,?_,?_,?_⟩
 · rw [hd,←hb];exact unf_frm one_rightB hl
 · rw [hd,opn_frm,one_pack]
 · rw [size_data,hd,one_frm,sealL_len];rfl
 · rw [hd,one_frm];rfl
set_option maxRecDepth 100000 in
set_option maxHeartbeats 4000000 in
theorem framed_any (w:World) (hg:errT w):Calls Tryz.prog 12 #[] w fun e w'=>e=.returned (.bool true)∧Below w.heap.size w w':=by
 have HG:=Lib.hid hg
 clear hg
 obtain ⟨S,h1,h2,h3,hs24,h5⟩:=one_frame
 have HF:=Lib.hid h1
 have HU:=Lib.hid h2
 have HO:=Lib.hid h3
 have HP:=Lib.hid h5
 clear h1 h2 h3 h5
 go_enter Tryz.func12,Tryz.ntmps12
 go_wp2_with fail
 refine (one_any _).mono ?_
 rintro r w1 ⟨P1,Q1,rfl,hx1,hb1⟩
 have HX1:=Lib.hid hx1
 have HB1:=Lib.hid hb1
 clear hx1 hb1
 go_wp2_with fail
 refine (fwrite_ok _ _ _ [] oneH oneW S w1 HX1.out (HG.out.below HB1.out) HF.out).mono ?_
 rintro r w2 ⟨rfl,hb2⟩
 have HB2:Hid (Below w.heap.size w w2):=HB1.out.trans (hb2.mono HB1.out.size)
 clear hb2 HX1
 go_wp2_with fail
 refine (version_as S ⟨oneI.toArray⟩ 3 0 w2 (by omega) HO.out).mono ?_
 rintro r w3 ⟨rfl,hb3⟩
 have HB3:Hid (Below w.heap.size w w3):=HB2.out.trans (hb3.mono HB2.out.size)
 clear hb3
 rw [errC_zero]
 go_wp2_with fail
 refine (fread_ok S [] oneH oneW w3 (by omega) (HG.out.below HB3.out) HU.out).mono ?_
 rintro r w4 ⟨a1,c1,a2,c2,a3,c3,rfl,hx4,hb4⟩
 have HX4:Hid (BatIs w4 (.slice a1 0 c1) (.slice a2 1 c2) (.slice a3 1 c3) [] oneH oneW):=Lib.hid hx4
 have HB4:Hid (Below w.heap.size w w4):=HB3.out.trans (hb4.mono HB3.out.size)
 clear hx4 hb4
 have e0:([]:List Ent).length=0:=rfl
 have e1:oneH.length=1:=rfl
 have e2:oneW.length=1:=rfl
 rw [e0,e1,e2]
 clear e0 e1 e2
 go_wp2
 have HA:Hid (batAt (w4.alloc (.cells #[.slice a1 0 c1,.slice a2 1 c2,.slice a3 1 c3] 25)) w4.heap.size (.slice a1 0 c1) (.slice a2 1 c2) (.slice a3 1 c3)):=Lib.hid (batAt_new _ _ _ _ _)
 have HX:Hid (BatIs (w4.alloc (.cells #[.slice a1 0 c1,.slice a2 1 c2,.slice a3 1 c3] 25)) (.slice a1 0 c1) (.slice a2 1 c2) (.slice a3 1 c3) [] oneH oneW):=Lib.hid (HX4.out.alloc _)
 have HW0:Hid (Below w.heap.size w (w4.alloc (.cells #[.slice a1 0 c1,.slice a2 1 c2,.slice a3 1 c3] 25))):=Lib.hid (HB4.out.alloc HB4.out.size _)
 have HZB:Hid (w4.heap.size < (w4.alloc (.cells #[.slice a1 0 c1,.slice a2 1 c2,.slice a3 1 c3] 25)).heap.size):=Lib.hid (by simp)
 clear HX4 HB4
 generalize w4.alloc (.cells #[.slice a1 0 c1,.slice a2 1 c2,.slice a3 1 c3] 25)=W at HA HX HW0 HZB ⊢
 generalize w4.heap.size=B at HA HZB ⊢
 have HB0:Hid (Below W.heap.size W W.drew):=Lib.hid (Below.refl _ _).drew
 have HE:Hid (∀ w',Below W.heap.size W w'→Below w.heap.size w w'):=Lib.hid (fun w' hx=>HW0.out.trans (hx.mono HW0.out.size))
 have hA0:=HA.out
 unfold batAt at hA0
 have hs24i:(S.size:Int)=24:=by omega
 have hpb:=HP.out
 go_region_held3 (fun w'=>w'.cell? ⟨B,0,none⟩=some (.slice a1 0 c1)∧w'.cell? ⟨B,1,none⟩=some (.slice a2 1 c2)∧w'.cell? ⟨B,2,none⟩=some (.slice a3 1 c3)) (first | exact hA0 | exact k1 | exact k2 | fail) (first
   | (go_at_call 41;((with_reducible refine (Tryz.strings_HasPrefix _ _ _).mono ?_);rintro r w5 ⟨rfl,rfl⟩;rw [hpb]))
   | (go_at_call 40;((with_reducible refine (one_any W.drew).mono ?_);rintro r w6 ⟨P3,Q3,rfl,hx6,hb6⟩;have HX6:=Lib.hid hx6;have HB6:Hid (Below W.heap.size W w6):=Lib.hid (undrew3 hb6);have k1:=HA.out.below HB6.out HZB.out;unfold batAt at k1;clear hb6 hx6))
   | (go_at_call 18;((with_reducible refine (bsame_as _ _ _ _ _ _ [] oneH oneW [] oneH oneW true w6 (HX.out.below HB6.out) HX6.out one_same).mono ?_);rintro r w7 ⟨rfl,hb7⟩;have HB7:Hid (Below W.heap.size W w7):=HB6.out.trans (hb7.mono HB6.out.size);have k2:=HA.out.below HB7.out HZB.out;unfold batAt at k2;clear hb7))
   | fail)
 go_wp2
 go_ret
 exact ⟨rfl,HE.out _ HB7.out⟩
end Go.Proofs.YtjkbmfpomgcblaaGreatDoor
