import Derived.Test.YtjkbmfpomgcblaaGreatDoorKr33
namespace Go.Proofs.YtjkbmfpomgcblaaGreatDoor
open Go.RowKit
def RdIs (r:(Nat×Int) ⊕ (List Ent×List Ent×List Wr)) (w:World) (e:Ending) (w':World):Prop :=
 Below w.heap.size w w'∧((∃ x pl err,r=.inl (x,pl)∧x≠0∧e=.returned (.tuple #[.agg #[.slice none 0 0,.slice none 0 0,.slice none 0 0],err])∧anyErr w' err (x,pl)) ∨
   ∃ f h l a1 c1 a2 c2 a3 c3,r=.inr (f,h,l)∧e=.returned (.tuple #[.agg #[.slice a1 f.length c1,.slice a2 h.length c2,.slice a3 l.length c3],.nilIface])∧BatOwn w' (w.heap.size + 1) (.slice a1 f.length c1) (.slice a2 h.length c2) (.slice a3 l.length c3) f h l)
theorem ounp_bad (s:ByteArray) (x:Nat) (w:World) (hs:s.size≤1000000) (hg:errT w) (hu:unO s.data.toList=.inl x) :
   Calls Tryz.prog 81 #[.string s] w fun e w'=>∃ t u,e=.returned (.tuple #[.agg #[.slice none 0 0,.slice none 0 0,.slice none 0 0],.iface t u])∧anyErr w' (.iface t u) (x,-1)∧Below w.heap.size w w':=by
 refine (ounpack_any s w hs hg).mono ?_
 rintro e w' ⟨hb,⟨x',hx,hx0,rfl⟩ | ⟨f',h',l',vf,vh,vw,hx,_⟩⟩
 · rw [hu] at hx
   injection hx with hx
   subst hx
   exact ⟨_,_,rfl,errC_any w' hx0,hb⟩
 · rw [hu] at hx;cases hx
theorem ounp_own (s:ByteArray) (f h:List Ent) (l:List Wr) (w:World) (hs:s.size≤1000000) (hg:errT w) (hu:unO s.data.toList=.inr (f,h,l)) :
   Calls Tryz.prog 81 #[.string s] w fun e w'=>∃ a1 c1 a2 c2 a3 c3,e=.returned (.tuple #[.agg #[.slice a1 f.length c1,.slice a2 h.length c2,.slice a3 l.length c3],.nilIface])∧BatOwn w' w.heap.size (.slice a1 f.length c1) (.slice a2 h.length c2) (.slice a3 l.length c3) f h l∧Below w.heap.size w w':=by
 refine (ounpack_any s w hs hg).mono ?_
 rintro e w' ⟨hb,⟨x,hx,_⟩ | ⟨f',h',l',vf,vh,vw,hx,rfl,ho⟩⟩
 · rw [hu] at hx;cases hx
 · rw [hu] at hx
   injection hx with hx
   injection hx with h1 h2
   injection h2 with h2 h3
   subst h1 h2 h3
   obtain ⟨a1,c1,rfl,_⟩:=ho.1.is.form
   obtain ⟨a2,c2,rfl,_⟩:=ho.2.1.is.form
   obtain ⟨a3,c3,rfl,_⟩:=ho.2.2.1.is.form
   exact ⟨a1,c1,a2,c2,a3,c3,rfl,ho.mono (Nat.le_succ _),hb⟩
set_option maxRecDepth 100000 in
set_option maxHeartbeats 2400000 in
theorem oread_any (s:ByteArray) (w:World) (hs:s.size≤400000) (hg:errT w) :
   Calls Tryz.prog 33 #[.string s] w (RdIs (oldF s.data.toList) w):=by
 have hsz:s.size≤140737488351232:=by omega
 have HW:Hid (RD1 w (w.alloc (.cells #[.slice none 0 0,.slice none 0 0,.slice none 0 0] 25)) (.slice none 0 0) (.slice none 0 0) (.slice none 0 0)):=Lib.hid ⟨heap_alloc_new w _,(Below.refl _ _).alloc (Nat.le_refl _) _,by simp⟩
 have HG:=Lib.hid (hg.alloc (.cells #[.slice none 0 0,.slice none 0 0,.slice none 0 0] 25))
 obtain ⟨v,i,e,ho⟩:∃ v i e,opnF s.data.toList=(v,i,e):=⟨_,_,_,rfl⟩
 obtain ⟨J,hJ⟩:∃ J:ByteArray,i=J.data.toList:=⟨⟨i.toArray⟩,by simp⟩
 subst hJ
 have HO:=Lib.hid ho
 clear hg
 by_cases he:e=0
 · subst he
   have hp:=opn_pos ho
   obtain ⟨_,hv1,hv3⟩:=opn_only ho
   rw [←size_data,←size_data] at hp
   have hJ1:J.size≤1000000:=by omega
   have HJM:Hid (J.size≤maxLen):=Lib.hid (by unfold maxLen;omega)
   clear hp
   rcases (show v=1∨v=2∨v=3 by omega) with rfl | rfl | rfl
   · clear hv1 hv3
     rcases hub:unO J.data.toList with x | ⟨f,h,l⟩
     · have HR:Hid (oldF s.data.toList=.inl (x,-1)):=Lib.hid (old_bad ho (by decide) (by decide) hub)
       have HNE:Hid (x≠0):=Lib.hid (unO_ne hub)
       have HRD:=Lib.hid (fun w' hg=>ounp_bad J x w' hJ1 hg hub)
       clear hub ho
       go_enter Tryz.func33,Tryz.ntmps33
       go_wp2_with fail
       generalize w.alloc (.cells #[.slice none 0 0,.slice none 0 0,.slice none 0 0] 25)=W at HW HG ⊢
       refine (version_as s J 1 0 W hsz HO.out).mono ?_
       rintro r w1 ⟨rfl,hb⟩
       have H1:=Lib.hid (HW.out.below hb)
       have HG1:=Lib.hid (HG.out.below hb)
       clear hb
       rw [errC_zero]
       go_wp2_with fail
       refine (inside_as s J 1 0 w1 hsz HO.out).mono ?_
       rintro r w2 ⟨rfl,hb⟩
       have H2:=Lib.hid (H1.out.below hb)
       have HG2:=Lib.hid (HG1.out.below hb)
       have HBK:Hid (w.heap.size + 1≤w2.heap.size):=Lib.hid H2.out.2.2
       clear hb
       rw [errC_zero]
       go_wp2_with fail
       refine (HRD.out w2 HG2.out).mono ?_
       rintro r w3 ⟨t,u,rfl,hae,hb⟩
       have H3:=Lib.hid (H2.out.below hb)
       have HAE:=Lib.hid (((hae.cellB (o:=0) (u:=.slice none 0 0) H3.out rfl).cellB (o:=1) (u:=.slice none 0 0) (H3.out.put (o:=0) (v:=.slice none 0 0) rfl) rfl).cellB (o:=2) (u:=.slice none 0 0) ((H3.out.put (o:=0) (v:=.slice none 0 0) rfl).put (o:=1) (v:=.slice none 0 0) rfl) rfl)
       clear hb hae
       obtain ⟨⟨c0,c1,c2⟩,z0,z1,z2⟩:=H3.out.cells
       have HM:=Lib.hid (((H3.out.put (o:=0) (v:=.slice none 0 0) rfl).put (o:=1) (v:=.slice none 0 0) rfl).put (o:=2) (v:=.slice none 0 0) rfl)
       go_wp2
       obtain ⟨⟨q0,q1,q2⟩,_⟩:=HM.out.cells
       refine bodyPost_ret (v:=.tuple #[.agg #[.slice none 0 0,.slice none 0 0,.slice none 0 0],.iface t u]) (by simp [results,Tryz.results33,go_sem,q0,q1,q2]) rfl ?_
       exact ⟨HM.out.2.1,.inl ⟨_,_,_,HR.out,HNE.out,rfl,HAE.out⟩⟩
     · have HR:Hid (oldF s.data.toList=.inr (f,h,l)):=Lib.hid (old_ok ho (by decide) (by decide) hub)
       have HRD:=Lib.hid (fun w' hg=>ounp_own J f h l w' hJ1 hg hub)
       have HQQ:Hid (∀ a1 c1 a2 c2 a3 c3 W',Below w.heap.size w W'→BatOwn W' (w.heap.size + 1) (.slice a1 f.length c1) (.slice a2 h.length c2) (.slice a3 l.length c3) f h l→RdIs (oldF s.data.toList) w (.returned (.tuple #[.agg #[.slice a1 f.length c1,.slice a2 h.length c2,.slice a3 l.length c3],.nilIface])) W'):=Lib.hid (fun a1 c1 a2 c2 a3 c3 W' h1 h3=>⟨h1,.inr ⟨f,h,l,a1,c1,a2,c2,a3,c3,HR.out,rfl,h3⟩⟩)
       clear hub ho
       generalize f.length=nf at HRD HQQ
       generalize h.length=nh at HRD HQQ
       generalize l.length=nl at HRD HQQ
       go_enter Tryz.func33,Tryz.ntmps33
       go_wp2_with fail
       generalize w.alloc (.cells #[.slice none 0 0,.slice none 0 0,.slice none 0 0] 25)=W at HW HG ⊢
       refine (version_as s J 1 0 W hsz HO.out).mono ?_
       rintro r w1 ⟨rfl,hb⟩
       have H1:=Lib.hid (HW.out.below hb)
       have HG1:=Lib.hid (HG.out.below hb)
       clear hb
       rw [errC_zero]
       go_wp2_with fail
       refine (inside_as s J 1 0 w1 hsz HO.out).mono ?_
       rintro r w2 ⟨rfl,hb⟩
       have H2:=Lib.hid (H1.out.below hb)
       have HG2:=Lib.hid (HG1.out.below hb)
       have HBK:Hid (w.heap.size + 1≤w2.heap.size):=Lib.hid H2.out.2.2
       clear hb
       rw [errC_zero]
       go_wp2_with fail
       refine (HRD.out w2 HG2.out).mono ?_
       rintro r w3 ⟨a1,c1,a2,c2,a3,c3,rfl,ho3,hb⟩
       have H3:=Lib.hid (H2.out.below hb)
       have HOM:=Lib.hid ((((ho3.mono HBK.out).cell (k:=w.heap.size) (by omega) 0 (.slice a1 nf c1)).cell (k:=w.heap.size) (by omega) 1 (.slice a2 nh c2)).cell (k:=w.heap.size) (by omega) 2 (.slice a3 nl c3))
       have HM:=Lib.hid (((H3.out.put (o:=0) (v:=.slice a1 nf c1) rfl).put (o:=1) (v:=.slice a2 nh c2) rfl).put (o:=2) (v:=.slice a3 nl c3) rfl)
       clear hb ho3
       obtain ⟨⟨x0,x1,x2⟩,z0,z1,z2⟩:=H3.out.cells
       go_wp2
       obtain ⟨⟨q0,q1,q2⟩,_⟩:=HM.out.cells
       refine bodyPost_ret (v:=.tuple #[.agg #[.slice a1 nf c1,.slice a2 nh c2,.slice a3 nl c3],.nilIface]) (by simp [results,Tryz.results33,go_sem,q0,q1,q2]) rfl ?_
       exact HQQ.out _ _ _ _ _ _ _ HM.out.2.1 HOM.out
   · clear hv1 hv3
     rcases hub:unbF J.data.toList with ⟨x,pl⟩ | ⟨f,h,l⟩
     · have HR:Hid (oldF s.data.toList=.inl (x,pl)):=Lib.hid ((old_two ho).trans hub)
       have HNE:Hid (x≠0):=Lib.hid (unb_ne hub)
       have HRD:=Lib.hid (fun w' hg=>bread_err2 J x pl w' HJM.out hg hub)
       clear hub ho
       go_enter Tryz.func33,Tryz.ntmps33
       go_wp2_with fail
       generalize w.alloc (.cells #[.slice none 0 0,.slice none 0 0,.slice none 0 0] 25)=W at HW HG ⊢
       refine (version_as s J 2 0 W hsz HO.out).mono ?_
       rintro r w1 ⟨rfl,hb⟩
       have H1:=Lib.hid (HW.out.below hb)
       have HG1:=Lib.hid (HG.out.below hb)
       clear hb
       rw [errC_zero]
       go_wp2_with fail
       refine (inside_as s J 2 0 w1 hsz HO.out).mono ?_
       rintro r w2 ⟨rfl,hb⟩
       have H2:=Lib.hid (H1.out.below hb)
       have HG2:=Lib.hid (HG1.out.below hb)
       have HBK:Hid (w.heap.size + 1≤w2.heap.size):=Lib.hid H2.out.2.2
       clear hb
       rw [errC_zero]
       go_wp2_with fail
       refine (HRD.out w2 HG2.out).mono ?_
       rintro r w3 ⟨t,u,rfl,hae,hb⟩
       have H3:=Lib.hid (H2.out.below hb)
       have HAE:=Lib.hid (((hae.cellB (o:=0) (u:=.slice none 0 0) H3.out rfl).cellB (o:=1) (u:=.slice none 0 0) (H3.out.put (o:=0) (v:=.slice none 0 0) rfl) rfl).cellB (o:=2) (u:=.slice none 0 0) ((H3.out.put (o:=0) (v:=.slice none 0 0) rfl).put (o:=1) (v:=.slice none 0 0) rfl) rfl)
       clear hb hae
       obtain ⟨⟨c0,c1,c2⟩,z0,z1,z2⟩:=H3.out.cells
       have HM:=Lib.hid (((H3.out.put (o:=0) (v:=.slice none 0 0) rfl).put (o:=1) (v:=.slice none 0 0) rfl).put (o:=2) (v:=.slice none 0 0) rfl)
       go_wp2
       obtain ⟨⟨q0,q1,q2⟩,_⟩:=HM.out.cells
       refine bodyPost_ret (v:=.tuple #[.agg #[.slice none 0 0,.slice none 0 0,.slice none 0 0],.iface t u]) (by simp [results,Tryz.results33,go_sem,q0,q1,q2]) rfl ?_
       exact ⟨HM.out.2.1,.inl ⟨_,_,_,HR.out,HNE.out,rfl,HAE.out⟩⟩
     · have HR:Hid (oldF s.data.toList=.inr (f,h,l)):=Lib.hid ((old_two ho).trans hub)
       have HRD:=Lib.hid (fun w' hg=>bread_own J f h l w' HJM.out hg hub)
       have HQQ:Hid (∀ a1 c1 a2 c2 a3 c3 W',Below w.heap.size w W'→BatOwn W' (w.heap.size + 1) (.slice a1 f.length c1) (.slice a2 h.length c2) (.slice a3 l.length c3) f h l→RdIs (oldF s.data.toList) w (.returned (.tuple #[.agg #[.slice a1 f.length c1,.slice a2 h.length c2,.slice a3 l.length c3],.nilIface])) W'):=Lib.hid (fun a1 c1 a2 c2 a3 c3 W' h1 h3=>⟨h1,.inr ⟨f,h,l,a1,c1,a2,c2,a3,c3,HR.out,rfl,h3⟩⟩)
       clear hub ho
       generalize f.length=nf at HRD HQQ
       generalize h.length=nh at HRD HQQ
       generalize l.length=nl at HRD HQQ
       go_enter Tryz.func33,Tryz.ntmps33
       go_wp2_with fail
       generalize w.alloc (.cells #[.slice none 0 0,.slice none 0 0,.slice none 0 0] 25)=W at HW HG ⊢
       refine (version_as s J 2 0 W hsz HO.out).mono ?_
       rintro r w1 ⟨rfl,hb⟩
       have H1:=Lib.hid (HW.out.below hb)
       have HG1:=Lib.hid (HG.out.below hb)
       clear hb
       rw [errC_zero]
       go_wp2_with fail
       refine (inside_as s J 2 0 w1 hsz HO.out).mono ?_
       rintro r w2 ⟨rfl,hb⟩
       have H2:=Lib.hid (H1.out.below hb)
       have HG2:=Lib.hid (HG1.out.below hb)
       have HBK:Hid (w.heap.size + 1≤w2.heap.size):=Lib.hid H2.out.2.2
       clear hb
       rw [errC_zero]
       go_wp2_with fail
       refine (HRD.out w2 HG2.out).mono ?_
       rintro r w3 ⟨a1,c1,a2,c2,a3,c3,rfl,ho3,hb⟩
       have H3:=Lib.hid (H2.out.below hb)
       have HOM:=Lib.hid ((((ho3.mono HBK.out).cell (k:=w.heap.size) (by omega) 0 (.slice a1 nf c1)).cell (k:=w.heap.size) (by omega) 1 (.slice a2 nh c2)).cell (k:=w.heap.size) (by omega) 2 (.slice a3 nl c3))
       have HM:=Lib.hid (((H3.out.put (o:=0) (v:=.slice a1 nf c1) rfl).put (o:=1) (v:=.slice a2 nh c2) rfl).put (o:=2) (v:=.slice a3 nl c3) rfl)
       clear hb ho3
       obtain ⟨⟨x0,x1,x2⟩,z0,z1,z2⟩:=H3.out.cells
       go_wp2
       obtain ⟨⟨q0,q1,q2⟩,_⟩:=HM.out.cells
       refine bodyPost_ret (v:=.tuple #[.agg #[.slice a1 nf c1,.slice a2 nh c2,.slice a3 nl c3],.nilIface]) (by simp [results,Tryz.results33,go_sem,q0,q1,q2]) rfl ?_
       exact HQQ.out _ _ _ _ _ _ _ HM.out.2.1 HOM.out
   · have HR:Hid (oldF s.data.toList=.inl (6,-1)):=Lib.hid (old_state ho)
     clear ho hv1 hv3
     go_enter Tryz.func33,Tryz.ntmps33
     go_wp2_with fail
     generalize w.alloc (.cells #[.slice none 0 0,.slice none 0 0,.slice none 0 0] 25)=W at HW HG ⊢
     refine (version_as s J 3 0 W hsz HO.out).mono ?_
     rintro r w1 ⟨rfl,hb⟩
     have H1:=Lib.hid (HW.out.below hb)
     clear hb
     rw [errC_zero]
     go_wp2_with fail
     refine (inside_as s J 3 0 w1 hsz HO.out).mono ?_
     rintro r w2 ⟨rfl,hb⟩
     have H2:=Lib.hid (H1.out.below hb)
     clear hb
     rw [errC_zero]
     obtain ⟨⟨c0,c1,c2⟩,z0,z1,z2⟩:=H2.out.cells
     have HM:=Lib.hid (((H2.out.put (o:=0) (v:=.slice none 0 0) rfl).put (o:=1) (v:=.slice none 0 0) rfl).put (o:=2) (v:=.slice none 0 0) rfl)
     go_wp2
     obtain ⟨⟨q0,q1,q2⟩,_⟩:=HM.out.cells
     refine bodyPost_ret (v:=.tuple #[.agg #[.slice none 0 0,.slice none 0 0,.slice none 0 0],.iface 44 (.int .i64 6)]) (by simp [results,Tryz.results33,go_sem,q0,q1,q2]) rfl ?_
     exact ⟨HM.out.2.1,.inl ⟨6,-1,_,HR.out,by decide,rfl,errC_any _ (by decide)⟩⟩
 · have HR:Hid (oldF s.data.toList=.inl (e,-1)):=Lib.hid (old_open ho he)
   clear ho
   go_enter Tryz.func33,Tryz.ntmps33
   go_wp2_with fail
   generalize w.alloc (.cells #[.slice none 0 0,.slice none 0 0,.slice none 0 0] 25)=W at HW HG ⊢
   refine (version_as s J v e W hsz HO.out).mono ?_
   rintro r w1 ⟨rfl,hb⟩
   have H1:=Lib.hid (HW.out.below hb)
   clear hb
   rw [errC_ne he]
   obtain ⟨⟨c0,c1,c2⟩,z0,z1,z2⟩:=H1.out.cells
   have HM:=Lib.hid (((H1.out.put (o:=0) (v:=.slice none 0 0) rfl).put (o:=1) (v:=.slice none 0 0) rfl).put (o:=2) (v:=.slice none 0 0) rfl)
   go_wp2
   obtain ⟨⟨q0,q1,q2⟩,_⟩:=HM.out.cells
   refine bodyPost_ret (v:=.tuple #[.agg #[.slice none 0 0,.slice none 0 0,.slice none 0 0],.iface 44 (.int .i64 e)]) (by simp [results,Tryz.results33,go_sem,q0,q1,q2]) rfl ?_
   exact ⟨HM.out.2.1,.inl ⟨e,-1,_,HR.out,he,rfl,errC_any _ he⟩⟩
end Go.Proofs.YtjkbmfpomgcblaaGreatDoor
