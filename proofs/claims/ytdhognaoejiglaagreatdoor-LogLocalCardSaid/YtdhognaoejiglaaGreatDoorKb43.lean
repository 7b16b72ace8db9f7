import Derived.Test.YtdhognaoejiglaaGreatDoorKb42
namespace Go.Proofs.YtdhognaoejiglaaGreatDoor
open Lib (hid)
set_option maxRecDepth 100000
set_option maxHeartbeats 8000000
section
open Go.RowKit
def RdIs (r:(Nat×Int) ⊕ (List Ent×List Ent×List Wr)) (w:World) (e:Ending) (w':World):Prop :=
 Below w.heap.size w w'∧((∃ x pl err,r=.inl (x,pl)∧x≠0∧e=.returned (.tuple #[.agg #[.slice none 0 0,.slice none 0 0,.slice none 0 0],err])∧ax w' err (x,pl)) ∨
  ∃ f h l a1 c1 a2 c2 a3 c3,r=.inr (f,h,l)∧e=.returned (.tuple #[.agg #[.slice a1 f.length c1,.slice a2 h.length c2,.slice a3 l.length c3],.nilIface])∧bj w' (w.heap.size+1) (.slice a1 f.length c1) (.slice a2 h.length c2) (.slice a3 l.length c3) f h l)
theorem Cy (s:ByteArray) (x:Nat) (w:World) (hs:s.size≤1000000) (hg:errT w) (hu:unO s.data.toList=.inl x) :
 Calls Tryz.prog 123 #[.string s] w fun e w'=>∃ t u,e=.returned (.tuple #[.agg #[.slice none 0 0,.slice none 0 0,.slice none 0 0],.iface t u])∧ax w' (.iface t u) (x,-1)∧Below w.heap.size w w':=by
 refine (tc s w hs hg).mono ?_;rintro e w' ⟨hb,⟨x',hx,hx0,rfl⟩ | ⟨f',h',l',vf,vh,vw,hx,_⟩⟩
 ·rw [hu] at hx;injection hx with hx
  subst hx;exact ⟨_,_,rfl,fy w' hx0,hb⟩
 ·rw [hu] at hx;cases hx
theorem Cz (s:ByteArray) (f h:List Ent) (l:List Wr) (w:World) (hs:s.size≤1000000) (hg:errT w) (hu:unO s.data.toList=.inr (f,h,l)) :
 Calls Tryz.prog 123 #[.string s] w fun e w'=>∃ a1 c1 a2 c2 a3 c3,e=.returned (.tuple #[.agg #[.slice a1 f.length c1,.slice a2 h.length c2,.slice a3 l.length c3],.nilIface])∧bj w' w.heap.size (.slice a1 f.length c1) (.slice a2 h.length c2) (.slice a3 l.length c3) f h l∧Below w.heap.size w w':=by
 refine (tc s w hs hg).mono ?_;rintro e w' ⟨hb,⟨x,hx,_⟩ | ⟨f',h',l',vf,vh,vw,hx,rfl,ho⟩⟩
 ·rw [hu] at hx;cases hx
 ·rw [hu] at hx;injection hx with hx
  injection hx with h1 h2
  injection h2 with h2 h3
  subst h1 h2 h3;obtain ⟨a1,c1,rfl,_⟩:=ho.1.is.form;obtain ⟨a2,c2,rfl,_⟩:=ho.2.1.is.form;obtain ⟨a3,c3,rfl,_⟩:=ho.2.2.1.is.form;exact ⟨a1,c1,a2,c2,a3,c3,rfl,ho.mono (Nat.le_succ _),hb⟩
theorem Cu (s:ByteArray) (w:World) (hs:s.size≤400000) (hg:errT w) :
 Calls Tryz.prog 96 #[.string s] w (RdIs (oldF s.data.toList) w):=by
 have hsz:s.size≤140737488351232:=by omega
 have HW:Hid (RD1 w (w.alloc (.cells #[.slice none 0 0,.slice none 0 0,.slice none 0 0] 47)) (.slice none 0 0) (.slice none 0 0) (.slice none 0 0)):=hid ⟨heap_alloc_new w _,(Below.refl _ _).alloc (Nat.le_refl _) _,by simp⟩;have HG:=hid (hg.alloc (.cells #[.slice none 0 0,.slice none 0 0,.slice none 0 0] 47));obtain ⟨v,i,e,ho⟩:∃ v i e,opnF s.data.toList=(v,i,e):=⟨_,_,_,rfl⟩;obtain ⟨J,hJ⟩:∃ J:ByteArray,i=J.data.toList:=⟨⟨i.toArray⟩,by simp⟩;subst hJ;have HO:=hid ho;clear hg;by_cases he:e=0
 ·subst he;have hp:=t7 ho;obtain ⟨_,hv1,hv3⟩:=Cl ho;rw [←aj,←aj] at hp;have hJ1:J.size≤1000000:=by omega
  have HJM:Hid (J.size≤maxLen):=hid (by unfold maxLen;omega);clear hp;rcases (show v=1∨v=2∨v=3 by omega) with rfl | rfl | rfl
  ·clear hv1 hv3;rcases hub:unO J.data.toList with x | ⟨f,h,l⟩
   ·have HR:Hid (oldF s.data.toList=.inl (x,-1)):=hid (C7 ho (by decide) (by decide) hub);have HNE:Hid (x≠0):=hid (F4 hub);have HRD:=hid (fun w' hg=>Cy J x w' hJ1 hg hub);clear hub ho;go_enter Tryz.func96,Tryz.ntmps96
    go_wp2_with fail
    generalize w.alloc (.cells #[.slice none 0 0,.slice none 0 0,.slice none 0 0] 47)=W at HW HG ⊢;refine (fi s J 1 0 W hsz HO.out).mono ?_;rintro r w1 ⟨rfl,hb⟩;have H1:=hid (HW.out.below hb);have HG1:=hid (HG.out.below hb);clear hb;rw [bB];go_wp2_with fail
    refine (iX s J 1 0 w1 hsz HO.out).mono ?_;rintro r w2 ⟨rfl,hb⟩;have H2:=hid (H1.out.below hb);have HG2:=hid (HG1.out.below hb);have HBK:Hid (w.heap.size+1≤w2.heap.size):=hid H2.out.2.2;clear hb;rw [bB];go_wp2_with fail
    refine (HRD.out w2 HG2.out).mono ?_;rintro r w3 ⟨t,u,rfl,hae,hb⟩;have H3:=hid (H2.out.below hb);have HAE:=hid (((hae.cellB (o:=0) (u:=.slice none 0 0) H3.out rfl).cellB (o:=1) (u:=.slice none 0 0) (H3.out.put (o:=0) (v:=.slice none 0 0) rfl) rfl).cellB (o:=2) (u:=.slice none 0 0) ((H3.out.put (o:=0) (v:=.slice none 0 0) rfl).put (o:=1) (v:=.slice none 0 0) rfl) rfl);clear hb hae;obtain ⟨⟨c0,c1,c2⟩,z0,z1,z2⟩:=H3.out.cells;have HM:=hid (((H3.out.put (o:=0) (v:=.slice none 0 0) rfl).put (o:=1) (v:=.slice none 0 0) rfl).put (o:=2) (v:=.slice none 0 0) rfl);go_wp2;obtain ⟨⟨q0,q1,q2⟩,_⟩:=HM.out.cells;refine bodyPost_ret (v:=.tuple #[.agg #[.slice none 0 0,.slice none 0 0,.slice none 0 0],.iface t u]) (by simp [results,Tryz.results96,go_sem,q0,q1,q2]) rfl ?_;exact ⟨HM.out.2.1,.inl ⟨_,_,_,HR.out,HNE.out,rfl,HAE.out⟩⟩
   ·have HR:Hid (oldF s.data.toList=.inr (f,h,l)):=hid (sV ho (by decide) (by decide) hub);have HRD:=hid (fun w' hg=>Cz J f h l w' hJ1 hg hub);have HQQ:Hid (∀ a1 c1 a2 c2 a3 c3 W',Below w.heap.size w W'→bj W' (w.heap.size+1) (.slice a1 f.length c1) (.slice a2 h.length c2) (.slice a3 l.length c3) f h l→RdIs (oldF s.data.toList) w (.returned (.tuple #[.agg #[.slice a1 f.length c1,.slice a2 h.length c2,.slice a3 l.length c3],.nilIface])) W'):=hid (fun a1 c1 a2 c2 a3 c3 W' h1 h3=>⟨h1,.inr ⟨f,h,l,a1,c1,a2,c2,a3,c3,HR.out,rfl,h3⟩⟩);clear hub ho;generalize f.length=nf at HRD HQQ;generalize h.length=nh at HRD HQQ;generalize l.length=nl at HRD HQQ;go_enter Tryz.func96,Tryz.ntmps96
    go_wp2_with fail
    generalize w.alloc (.cells #[.slice none 0 0,.slice none 0 0,.slice none 0 0] 47)=W at HW HG ⊢;refine (fi s J 1 0 W hsz HO.out).mono ?_;rintro r w1 ⟨rfl,hb⟩;have H1:=hid (HW.out.below hb);have HG1:=hid (HG.out.below hb);clear hb;rw [bB];go_wp2_with fail
    refine (iX s J 1 0 w1 hsz HO.out).mono ?_;rintro r w2 ⟨rfl,hb⟩;have H2:=hid (H1.out.below hb);have HG2:=hid (HG1.out.below hb);have HBK:Hid (w.heap.size+1≤w2.heap.size):=hid H2.out.2.2;clear hb;rw [bB];go_wp2_with fail
    refine (HRD.out w2 HG2.out).mono ?_;rintro r w3 ⟨a1,c1,a2,c2,a3,c3,rfl,ho3,hb⟩;have H3:=hid (H2.out.below hb);have HOM:=hid ((((ho3.mono HBK.out).cell (k:=w.heap.size) (by omega) 0 (.slice a1 nf c1)).cell (k:=w.heap.size) (by omega) 1 (.slice a2 nh c2)).cell (k:=w.heap.size) (by omega) 2 (.slice a3 nl c3));have HM:=hid (((H3.out.put (o:=0) (v:=.slice a1 nf c1) rfl).put (o:=1) (v:=.slice a2 nh c2) rfl).put (o:=2) (v:=.slice a3 nl c3) rfl);clear hb ho3;obtain ⟨⟨x0,x1,x2⟩,z0,z1,z2⟩:=H3.out.cells;go_wp2;obtain ⟨⟨q0,q1,q2⟩,_⟩:=HM.out.cells;refine bodyPost_ret (v:=.tuple #[.agg #[.slice a1 nf c1,.slice a2 nh c2,.slice a3 nl c3],.nilIface]) (by simp [results,Tryz.results96,go_sem,q0,q1,q2]) rfl ?_;exact HQQ.out _ _ _ _ _ _ _ HM.out.2.1 HOM.out
  ·clear hv1 hv3;rcases hub:unbF J.data.toList with ⟨x,pl⟩ | ⟨f,h,l⟩
   ·have HR:Hid (oldF s.data.toList=.inl (x,pl)):=hid ((nZ ho).trans hub);have HNE:Hid (x≠0):=hid (uX hub);have HRD:=hid (fun w' hg=>qo J x pl w' HJM.out hg hub);clear hub ho;go_enter Tryz.func96,Tryz.ntmps96
    go_wp2_with fail
    generalize w.alloc (.cells #[.slice none 0 0,.slice none 0 0,.slice none 0 0] 47)=W at HW HG ⊢;refine (fi s J 2 0 W hsz HO.out).mono ?_;rintro r w1 ⟨rfl,hb⟩;have H1:=hid (HW.out.below hb);have HG1:=hid (HG.out.below hb);clear hb;rw [bB];go_wp2_with fail
    refine (iX s J 2 0 w1 hsz HO.out).mono ?_;rintro r w2 ⟨rfl,hb⟩;have H2:=hid (H1.out.below hb);have HG2:=hid (HG1.out.below hb);have HBK:Hid (w.heap.size+1≤w2.heap.size):=hid H2.out.2.2;clear hb;rw [bB];go_wp2_with fail
    refine (HRD.out w2 HG2.out).mono ?_;rintro r w3 ⟨t,u,rfl,hae,hb⟩;have H3:=hid (H2.out.below hb);have HAE:=hid (((hae.cellB (o:=0) (u:=.slice none 0 0) H3.out rfl).cellB (o:=1) (u:=.slice none 0 0) (H3.out.put (o:=0) (v:=.slice none 0 0) rfl) rfl).cellB (o:=2) (u:=.slice none 0 0) ((H3.out.put (o:=0) (v:=.slice none 0 0) rfl).put (o:=1) (v:=.slice none 0 0) rfl) rfl);clear hb hae;obtain ⟨⟨c0,c1,c2⟩,z0,z1,z2⟩:=H3.out.cells;have HM:=hid (((H3.out.put (o:=0) (v:=.slice none 0 0) rfl).put (o:=1) (v:=.slice none 0 0) rfl).put (o:=2) (v:=.slice none 0 0) rfl);go_wp2;obtain ⟨⟨q0,q1,q2⟩,_⟩:=HM.out.cells;refine bodyPost_ret (v:=.tuple #[.agg #[.slice none 0 0,.slice none 0 0,.slice none 0 0],.iface t u]) (by simp [results,Tryz.results96,go_sem,q0,q1,q2]) rfl ?_;exact ⟨HM.out.2.1,.inl ⟨_,_,_,HR.out,HNE.out,rfl,HAE.out⟩⟩
   ·have HR:Hid (oldF s.data.toList=.inr (f,h,l)):=hid ((nZ ho).trans hub);have HRD:=hid (fun w' hg=>qp J f h l w' HJM.out hg hub);have HQQ:Hid (∀ a1 c1 a2 c2 a3 c3 W',Below w.heap.size w W'→bj W' (w.heap.size+1) (.slice a1 f.length c1) (.slice a2 h.length c2) (.slice a3 l.length c3) f h l→RdIs (oldF s.data.toList) w (.returned (.tuple #[.agg #[.slice a1 f.length c1,.slice a2 h.length c2,.slice a3 l.length c3],.nilIface])) W'):=hid (fun a1 c1 a2 c2 a3 c3 W' h1 h3=>⟨h1,.inr ⟨f,h,l,a1,c1,a2,c2,a3,c3,HR.out,rfl,h3⟩⟩);clear hub ho;generalize f.length=nf at HRD HQQ;generalize h.length=nh at HRD HQQ;generalize l.length=nl at HRD HQQ;go_enter Tryz.func96,Tryz.ntmps96
    go_wp2_with fail
    generalize w.alloc (.cells #[.slice none 0 0,.slice none 0 0,.slice none 0 0] 47)=W at HW HG ⊢;refine (fi s J 2 0 W hsz HO.out).mono ?_;rintro r w1 ⟨rfl,hb⟩;have H1:=hid (HW.out.below hb);have HG1:=hid (HG.out.below hb);clear hb;rw [bB];go_wp2_with fail
    refine (iX s J 2 0 w1 hsz HO.out).mono ?_;rintro r w2 ⟨rfl,hb⟩;have H2:=hid (H1.out.below hb);have HG2:=hid (HG1.out.below hb);have HBK:Hid (w.heap.size+1≤w2.heap.size):=hid H2.out.2.2;clear hb;rw [bB];go_wp2_with fail
    refine (HRD.out w2 HG2.out).mono ?_;rintro r w3 ⟨a1,c1,a2,c2,a3,c3,rfl,ho3,hb⟩;have H3:=hid (H2.out.below hb);have HOM:=hid ((((ho3.mono HBK.out).cell (k:=w.heap.size) (by omega) 0 (.slice a1 nf c1)).cell (k:=w.heap.size) (by omega) 1 (.slice a2 nh c2)).cell (k:=w.heap.size) (by omega) 2 (.slice a3 nl c3));have HM:=hid (((H3.out.put (o:=0) (v:=.slice a1 nf c1) rfl).put (o:=1) (v:=.slice a2 nh c2) rfl).put (o:=2) (v:=.slice a3 nl c3) rfl);clear hb ho3;obtain ⟨⟨x0,x1,x2⟩,z0,z1,z2⟩:=H3.out.cells;go_wp2;obtain ⟨⟨q0,q1,q2⟩,_⟩:=HM.out.cells;refine bodyPost_ret (v:=.tuple #[.agg #[.slice a1 nf c1,.slice a2 nh c2,.slice a3 nl c3],.nilIface]) (by simp [results,Tryz.results96,go_sem,q0,q1,q2]) rfl ?_;exact HQQ.out _ _ _ _ _ _ _ HM.out.2.1 HOM.out
  ·have HR:Hid (oldF s.data.toList=.inl (6,-1)):=hid (sW ho);clear ho hv1 hv3;go_enter Tryz.func96,Tryz.ntmps96
   go_wp2_with fail
   generalize w.alloc (.cells #[.slice none 0 0,.slice none 0 0,.slice none 0 0] 47)=W at HW HG ⊢;refine (fi s J 3 0 W hsz HO.out).mono ?_;rintro r w1 ⟨rfl,hb⟩;have H1:=hid (HW.out.below hb);clear hb;rw [bB];go_wp2_with fail
   refine (iX s J 3 0 w1 hsz HO.out).mono ?_;rintro r w2 ⟨rfl,hb⟩;have H2:=hid (H1.out.below hb);clear hb;rw [bB];obtain ⟨⟨c0,c1,c2⟩,z0,z1,z2⟩:=H2.out.cells;have HM:=hid (((H2.out.put (o:=0) (v:=.slice none 0 0) rfl).put (o:=1) (v:=.slice none 0 0) rfl).put (o:=2) (v:=.slice none 0 0) rfl);go_wp2;obtain ⟨⟨q0,q1,q2⟩,_⟩:=HM.out.cells;refine bodyPost_ret (v:=.tuple #[.agg #[.slice none 0 0,.slice none 0 0,.slice none 0 0],.iface 68 (.int .i64 6)]) (by simp [results,Tryz.results96,go_sem,q0,q1,q2]) rfl ?_;exact ⟨HM.out.2.1,.inl ⟨6,-1,_,HR.out,by decide,rfl,fy _ (by decide)⟩⟩
 ·have HR:Hid (oldF s.data.toList=.inl (e,-1)):=hid (C8 ho he);clear ho;go_enter Tryz.func96,Tryz.ntmps96
  go_wp2_with fail
  generalize w.alloc (.cells #[.slice none 0 0,.slice none 0 0,.slice none 0 0] 47)=W at HW HG ⊢;refine (fi s J v e W hsz HO.out).mono ?_;rintro r w1 ⟨rfl,hb⟩;have H1:=hid (HW.out.below hb);clear hb;rw [ez he];obtain ⟨⟨c0,c1,c2⟩,z0,z1,z2⟩:=H1.out.cells;have HM:=hid (((H1.out.put (o:=0) (v:=.slice none 0 0) rfl).put (o:=1) (v:=.slice none 0 0) rfl).put (o:=2) (v:=.slice none 0 0) rfl);go_wp2;obtain ⟨⟨q0,q1,q2⟩,_⟩:=HM.out.cells;refine bodyPost_ret (v:=.tuple #[.agg #[.slice none 0 0,.slice none 0 0,.slice none 0 0],.iface 68 (.int .i64 e)]) (by simp [results,Tryz.results96,go_sem,q0,q1,q2]) rfl ?_;exact ⟨HM.out.2.1,.inl ⟨e,-1,_,HR.out,he,rfl,fy _ he⟩⟩
end
section
open Go.RowKit
def anyF (s:List UInt8):(Nat×Int) ⊕ (List Ent×List Ent×List Wr) :=
 match opnF s with
 | (v,_,e)=>if e≠0 then .inl (e,-1) else if v=3 then unfF s else oldF s
section
variable {s i:List UInt8} {v e:Nat}
theorem xc (h0:opnF s=(v,i,e)) (he:e≠0):anyF s=.inl (e,-1):=by unfold anyF;rw [h0];simp only;rw [if_pos he]
theorem pQ (h0:opnF s=(3,i,0)):anyF s=unfF s:=by unfold anyF;rw [h0];simp only;rw [if_neg (by simp),if_pos trivial]
theorem mz (h0:opnF s=(v,i,0)) (h3:v≠3):anyF s=oldF s:=by unfold anyF;rw [h0];simp only;rw [if_neg (by simp),if_neg h3]
end
theorem BH (s:ByteArray) (w:World) (hs:s.size≤400000) (hg:errT w) :
 Calls Tryz.prog 64 #[.string s] w (RdIs (anyF s.data.toList) w):=by
 have hsz:s.size≤140737488351232:=by omega
 have HW:Hid (RD1 w (w.alloc (.cells #[.slice none 0 0,.slice none 0 0,.slice none 0 0] 47)) (.slice none 0 0) (.slice none 0 0) (.slice none 0 0)):=hid ⟨heap_alloc_new w _,(Below.refl _ _).alloc (Nat.le_refl _) _,by simp⟩;have HG:=hid (hg.alloc (.cells #[.slice none 0 0,.slice none 0 0,.slice none 0 0] 47));obtain ⟨v,i,e,ho⟩:∃ v i e,opnF s.data.toList=(v,i,e):=⟨_,_,_,rfl⟩;obtain ⟨J,hJ⟩:∃ J:ByteArray,i=J.data.toList:=⟨⟨i.toArray⟩,by simp⟩;subst hJ;have HO:=hid ho;clear hg;by_cases he:e=0
 ·subst he;by_cases hv:v=3
  ·subst hv;have HR:=hid (pQ ho);have HRD:Hid (∀ w',errT w'→Calls Tryz.prog 95 #[.string s] w' (RdIs (unfF s.data.toList) w')):=hid (fun w' hg=>zw s w' hs hg);clear ho;go_enter Tryz.func64,Tryz.ntmps64
   go_wp2_with fail
   generalize w.alloc (.cells #[.slice none 0 0,.slice none 0 0,.slice none 0 0] 47)=W at HW HG ⊢;refine (fi s J 3 0 W hsz HO.out).mono ?_;rintro r w1 ⟨rfl,hb⟩;have H1:=hid (HW.out.below hb);have HG1:=hid (HG.out.below hb);have HBK:Hid (w.heap.size+1≤w1.heap.size):=hid H1.out.2.2;clear hb;rw [bB];go_wp2_with fail
   refine (HRD.out w1 HG1.out).mono ?_;rintro r w3 ⟨hb,hcases⟩;have H3:=hid (H1.out.below hb);clear hb;rcases hcases with ⟨x,q,err,hx,hx0,rfl,hae⟩ | ⟨f,h,l,a1,c1,a2,c2,a3,c3,hx,rfl,ho3⟩
   ·have HRR:=hid (HR.out.trans hx);have HAE:=hid (((hae.cellB (o:=0) (u:=.slice none 0 0) H3.out rfl).cellB (o:=1) (u:=.slice none 0 0) (H3.out.put (o:=0) (v:=.slice none 0 0) rfl) rfl).cellB (o:=2) (u:=.slice none 0 0) ((H3.out.put (o:=0) (v:=.slice none 0 0) rfl).put (o:=1) (v:=.slice none 0 0) rfl) rfl);clear hae hx HR;obtain ⟨⟨c0,c1,c2⟩,z0,z1,z2⟩:=H3.out.cells;have HM:=hid (((H3.out.put (o:=0) (v:=.slice none 0 0) rfl).put (o:=1) (v:=.slice none 0 0) rfl).put (o:=2) (v:=.slice none 0 0) rfl);go_wp2;obtain ⟨⟨q0,q1,q2⟩,_⟩:=HM.out.cells;refine bodyPost_ret (v:=.tuple #[.agg #[.slice none 0 0,.slice none 0 0,.slice none 0 0],err]) (by simp [results,Tryz.results64,go_sem,q0,q1,q2]) rfl ?_;exact ⟨HM.out.2.1,.inl ⟨_,_,_,HRR.out,hx0,rfl,HAE.out⟩⟩
   ·have HRR:=hid (HR.out.trans hx);have HQQ:Hid (∀ W',Below w.heap.size w W'→bj W' (w.heap.size+1) (.slice a1 f.length c1) (.slice a2 h.length c2) (.slice a3 l.length c3) f h l→RdIs (anyF s.data.toList) w (.returned (.tuple #[.agg #[.slice a1 f.length c1,.slice a2 h.length c2,.slice a3 l.length c3],.nilIface])) W'):=hid (fun W' h1 h3=>⟨h1,.inr ⟨f,h,l,a1,c1,a2,c2,a3,c3,HRR.out,rfl,h3⟩⟩);clear hx HR;generalize f.length=nf at ho3 HQQ ⊢;generalize h.length=nh at ho3 HQQ ⊢;generalize l.length=nl at ho3 HQQ ⊢;have HOM:=hid ((((ho3.mono (Nat.le_trans HBK.out (Nat.le_succ _))).cell (k:=w.heap.size) (by omega) 0 (.slice a1 nf c1)).cell (k:=w.heap.size) (by omega) 1 (.slice a2 nh c2)).cell (k:=w.heap.size) (by omega) 2 (.slice a3 nl c3));have HM:=hid (((H3.out.put (o:=0) (v:=.slice a1 nf c1) rfl).put (o:=1) (v:=.slice a2 nh c2) rfl).put (o:=2) (v:=.slice a3 nl c3) rfl);clear ho3;obtain ⟨⟨x0,x1,x2⟩,z0,z1,z2⟩:=H3.out.cells;go_wp2;obtain ⟨⟨q0,q1,q2⟩,_⟩:=HM.out.cells;refine bodyPost_ret (v:=.tuple #[.agg #[.slice a1 nf c1,.slice a2 nh c2,.slice a3 nl c3],.nilIface]) (by simp [results,Tryz.results64,go_sem,q0,q1,q2]) rfl ?_;exact HQQ.out _ HM.out.2.1 HOM.out
  ·have HR:=hid (mz ho hv);have hv3:((v:Int) == 3)=false:=by simp;omega
   have HRD:Hid (∀ w',errT w'→Calls Tryz.prog 96 #[.string s] w' (RdIs (oldF s.data.toList) w')):=hid (fun w' hg=>Cu s w' hs hg);clear ho hv;go_enter Tryz.func64,Tryz.ntmps64
   go_wp2_with fail
   generalize w.alloc (.cells #[.slice none 0 0,.slice none 0 0,.slice none 0 0] 47)=W at HW HG ⊢;refine (fi s J v 0 W hsz HO.out).mono ?_;rintro r w1 ⟨rfl,hb⟩;have H1:=hid (HW.out.below hb);have HG1:=hid (HG.out.below hb);have HBK:Hid (w.heap.size+1≤w1.heap.size):=hid H1.out.2.2;clear hb;rw [bB];go_wp2_with fail
   refine (HRD.out w1 HG1.out).mono ?_;rintro r w3 ⟨hb,hcases⟩;have H3:=hid (H1.out.below hb);clear hb;rcases hcases with ⟨x,q,err,hx,hx0,rfl,hae⟩ | ⟨f,h,l,a1,c1,a2,c2,a3,c3,hx,rfl,ho3⟩
   ·have HRR:=hid (HR.out.trans hx);have HAE:=hid (((hae.cellB (o:=0) (u:=.slice none 0 0) H3.out rfl).cellB (o:=1) (u:=.slice none 0 0) (H3.out.put (o:=0) (v:=.slice none 0 0) rfl) rfl).cellB (o:=2) (u:=.slice none 0 0) ((H3.out.put (o:=0) (v:=.slice none 0 0) rfl).put (o:=1) (v:=.slice none 0 0) rfl) rfl);clear hae hx HR;obtain ⟨⟨c0,c1,c2⟩,z0,z1,z2⟩:=H3.out.cells;have HM:=hid (((H3.out.put (o:=0) (v:=.slice none 0 0) rfl).put (o:=1) (v:=.slice none 0 0) rfl).put (o:=2) (v:=.slice none 0 0) rfl);go_wp2;obtain ⟨⟨q0,q1,q2⟩,_⟩:=HM.out.cells;refine bodyPost_ret (v:=.tuple #[.agg #[.slice none 0 0,.slice none 0 0,.slice none 0 0],err]) (by simp [results,Tryz.results64,go_sem,q0,q1,q2]) rfl ?_;exact ⟨HM.out.2.1,.inl ⟨_,_,_,HRR.out,hx0,rfl,HAE.out⟩⟩
   ·have HRR:=hid (HR.out.trans hx);have HQQ:Hid (∀ W',Below w.heap.size w W'→bj W' (w.heap.size+1) (.slice a1 f.length c1) (.slice a2 h.length c2) (.slice a3 l.length c3) f h l→RdIs (anyF s.data.toList) w (.returned (.tuple #[.agg #[.slice a1 f.length c1,.slice a2 h.length c2,.slice a3 l.length c3],.nilIface])) W'):=hid (fun W' h1 h3=>⟨h1,.inr ⟨f,h,l,a1,c1,a2,c2,a3,c3,HRR.out,rfl,h3⟩⟩);clear hx HR;generalize f.length=nf at ho3 HQQ ⊢;generalize h.length=nh at ho3 HQQ ⊢;generalize l.length=nl at ho3 HQQ ⊢;have HOM:=hid ((((ho3.mono (Nat.le_trans HBK.out (Nat.le_succ _))).cell (k:=w.heap.size) (by omega) 0 (.slice a1 nf c1)).cell (k:=w.heap.size) (by omega) 1 (.slice a2 nh c2)).cell (k:=w.heap.size) (by omega) 2 (.slice a3 nl c3));have HM:=hid (((H3.out.put (o:=0) (v:=.slice a1 nf c1) rfl).put (o:=1) (v:=.slice a2 nh c2) rfl).put (o:=2) (v:=.slice a3 nl c3) rfl);clear ho3;obtain ⟨⟨x0,x1,x2⟩,z0,z1,z2⟩:=H3.out.cells;go_wp2;obtain ⟨⟨q0,q1,q2⟩,_⟩:=HM.out.cells;refine bodyPost_ret (v:=.tuple #[.agg #[.slice a1 nf c1,.slice a2 nh c2,.slice a3 nl c3],.nilIface]) (by simp [results,Tryz.results64,go_sem,q0,q1,q2]) rfl ?_;exact HQQ.out _ HM.out.2.1 HOM.out
 ·have HR:Hid (anyF s.data.toList=.inl (e,-1)):=hid (xc ho he);clear ho;go_enter Tryz.func64,Tryz.ntmps64
  go_wp2_with fail
  generalize w.alloc (.cells #[.slice none 0 0,.slice none 0 0,.slice none 0 0] 47)=W at HW HG ⊢;refine (fi s J v e W hsz HO.out).mono ?_;rintro r w1 ⟨rfl,hb⟩;have H1:=hid (HW.out.below hb);clear hb;rw [ez he];obtain ⟨⟨c0,c1,c2⟩,z0,z1,z2⟩:=H1.out.cells;have HM:=hid (((H1.out.put (o:=0) (v:=.slice none 0 0) rfl).put (o:=1) (v:=.slice none 0 0) rfl).put (o:=2) (v:=.slice none 0 0) rfl);go_wp2;obtain ⟨⟨q0,q1,q2⟩,_⟩:=HM.out.cells;refine bodyPost_ret (v:=.tuple #[.agg #[.slice none 0 0,.slice none 0 0,.slice none 0 0],.iface 68 (.int .i64 e)]) (by simp [results,Tryz.results64,go_sem,q0,q1,q2]) rfl ?_;exact ⟨HM.out.2.1,.inl ⟨e,-1,_,HR.out,he,rfl,fy _ he⟩⟩
end
section
open Go.RowKit
theorem Dd {F:FuncId} {s:ByteArray} {r:(Nat×Int) ⊕ (List Ent×List Ent×List Wr)} {f h:List Ent} {l:List Wr} {w:World} (hc:Calls Tryz.prog F #[.string s] w (RdIs r w)) (hu:r=.inr (f,h,l)) :
 Calls Tryz.prog F #[.string s] w fun e w'=>∃ a1 c1 a2 c2 a3 c3,e=.returned (.tuple #[.agg #[.slice a1 f.length c1,.slice a2 h.length c2,.slice a3 l.length c3],.nilIface])∧aC w' (.slice a1 f.length c1) (.slice a2 h.length c2) (.slice a3 l.length c3) f h l∧Below w.heap.size w w':=by
 refine hc.mono ?_;rintro e w' ⟨hb,⟨x,pl,err,hx,_⟩ | ⟨f',h',l',a1,c1,a2,c2,a3,c3,hx,rfl,ho⟩⟩
 ·rw [hu] at hx;cases hx
 ·rw [hu] at hx;injection hx with hx
  injection hx with h1 h2
  injection h2 with h2 h3
  subst h1 h2 h3;exact ⟨a1,c1,a2,c2,a3,c3,rfl,ho.bat,hb⟩
theorem BO (vf vh vw:Value) (f h:List Ent) (l:List Wr) (T:ByteArray) (w:World) (hx:aC w vf vh vw f h l) (hg:errT w) (hb:fZ f h l=(T.data.toList,0,-1)) :
 Calls Tryz.prog 62 #[.agg #[vf,vh,vw]] w fun r w'=>r=.returned (.tuple #[.string T,.nilIface])∧Below w.heap.size w w':=by
 refine (BN vf vh vw f h l T 0 (-1) w hx hg hb).mono ?_;rintro r w' ⟨err,rfl,ha,hb⟩;obtain rfl:=ha.nil rfl;exact ⟨rfl,hb⟩
theorem Cv (vf vh vw:Value) (f h:List Ent) (l:List Wr) (T:ByteArray) (w:World) (hx:aC w vf vh vw f h l) (hg:errT w) (hb:gn f h l=(T.data.toList,0,-1)) :
 Calls Tryz.prog 63 #[.agg #[vf,vh,vw]] w fun r w'=>r=.returned (.tuple #[.string T,.nilIface])∧Below w.heap.size w w':=by
 refine (t8 vf vh vw f h l T 0 (-1) w hx hg hb).mono ?_;rintro r w' ⟨err,rfl,ha,hb⟩;obtain rfl:=ha.nil rfl;exact ⟨rfl,hb⟩
theorem C5 (f h:List Ent) (l:List Wr):1≤(oldL f h l).length:=by
 have:=tm f;unfold oldL;simp only [List.length_append]
 omega
theorem C4 {f h:List Ent} {l:List Wr} (hr:aY f h l):(oldL f h l).length≤30000:=by
 obtain ⟨⟨g1,g2,_⟩,g4,g5,_⟩:=dX.1 hr;have h1:=lk f g1;have h2:=lk h g2;have h3:=nY l (fun x hx=>(g5 x hx).1);have h4:=aI (n:=l.length) (by omega);unfold oldL;simp only [List.length_append]
 omega
theorem xI (f h:List Ent) (l:List Wr):1≤(aK f h l).length:=by
 have:=ia l.length;unfold aK;simp only [List.length_append]
 omega
theorem zo {f h:List Ent} {l:List Wr} (hr:aY f h l):∃ U I:ByteArray,fZ f h l=(U.data.toList,0,-1)∧anyF U.data.toList=.inr (f,h,l)∧opnF U.data.toList=(1,I.data.toList,0)∧oldF U.data.toList=.inr (f,h,l)∧(aS U.data.toList).2=0∧8≤U.size∧U.size≤400000∧unfF U.data.toList=.inl (6,-1):=by
 obtain ⟨I,hI⟩:=da (oldL f h l);obtain ⟨U,hU⟩:=da (bi (80::84::1::oldL f h l));have hp:=C5 f h l;have hl:=C4 hr;have h0:(batF f h l).1=0:=hr;have ho:opnF (bi (80::84::1::oldL f h l))=(1,oldL f h l,0):=by rw [jg 1 _ hp,if_neg (by decide)];rfl
 have hz:U.size=(oldL f h l).length+7:=by rw [aj,←hU,lJ];simp
 refine ⟨U,I,?_,?_,?_,?_,?_,by omega,by omega,?_⟩
 ·rw [qY h0,hU]
 ·rw [←hU,mz ho (by decide)];exact sU hr
 ·rw [←hU,←hI];exact ho
 ·rw [←hU];exact sU hr
 ·rw [←hU,jf]
 ·rw [←hU];exact vj ho (by decide)
theorem pO {f h:List Ent} {l:List Wr} {S T:ByteArray} (hr:aY f h l) (hS:aK f h l=S.data.toList) (hs:S.size≤20000) (_:frmF f h l=(T.data.toList,0,-1)) (hT:frmL S.data.toList=T.data.toList) :
 (∃ V:ByteArray,gn f h l=(V.data.toList,0,-1)∧bi (80::84::2::S.data.toList)=V.data.toList∧anyF V.data.toList=.inr (f,h,l)∧opnF V.data.toList=(2,S.data.toList,0)∧(aS V.data.toList).2=0∧8≤V.size∧V.size≤400000∧aJ f h l=(S.data.toList,0,-1)) ∧
  ∃ I:ByteArray,anyF T.data.toList=.inr (f,h,l)∧opnF T.data.toList=(3,I.data.toList,0)∧(aS T.data.toList).2=0∧oldF T.data.toList=.inl (6,-1)∧unfF T.data.toList=.inr (f,h,l)∧8≤T.size∧T.size≤400000:=by
 have hp:=xI f h l;have hlen:(aK f h l).length≤20000:=by rw [hS,←aj];exact hs
 have h0:(batF f h l).1=0:=hr;have hb:aJ f h l=(S.data.toList,0,-1):=by rw [gI h0 (by omega),hS]
 constructor
 ·obtain ⟨V,hV⟩:=da (bi (80::84::2::S.data.toList));have ho:opnF (bi (80::84::2::S.data.toList))=(2,S.data.toList,0):=by rw [jg 2 _ (by rw [←hS];exact hp),if_neg (by decide)];rfl
  have hz:V.size=S.data.toList.length+7:=by rw [aj,←hV,lJ];simp
  have h8:1≤S.data.toList.length:=by rw [←hS];exact hp
  have h9:S.data.toList.length≤20000:=by rw [←aj];exact hs
  refine ⟨V,by rw [tG hb,hV],hV,?_,by rw [←hV];exact ho,by rw [←hV,jf],by omega,by omega,hb⟩;rw [←hV,mz ho (by decide),←hS];exact C9 hr hlen hp
 ·obtain ⟨I,hI⟩:=da (db S.data.toList);have ho:=t6 S.data.toList;have hu:=Fp hr hlen;rw [hS] at hu;have htz:9≤T.size∧T.size≤400000:=by
   rw [aj T,←hT,zx,ol (by rw [←aj];exact hs),←aj];refine ⟨by omega,?_⟩;split <;> split <;> omega
  refine ⟨I,?_,by rw [←hT,←hI];exact ho,?_,?_,?_,by omega,htz.2⟩
  ·rw [←hT,pQ ho];exact hu
  ·rw [←hT];unfold frmL;rw [jf]
  ·rw [←hT];exact sW ho
  ·rw [←hT];exact hu
end
section
open Go.RowKit
def jN (T:ByteArray) (f h:List Ent) (l:List Wr):Prop:=T.size≤400000∧anyF T.data.toList=.inr (f,h,l)
abbrev FrOk (F:FuncId) (T:ByteArray) (f h:List Ent) (l:List Wr):Prop:=∀ (vf vh vw:Value) (w:World),aC w vf vh vw f h l→errT w→Calls Tryz.prog F #[.agg #[vf,vh,vw]] w fun r w'=>r=.returned (.tuple #[.string T,.nilIface])∧Below w.heap.size w w'
abbrev mp (F:FuncId) (f h:List Ent) (l:List Wr):Prop:=∀ (vf vh vw:Value) (w:World),aC w vf vh vw f h l→errT w→Calls Tryz.prog F #[.agg #[vf,vh,vw]] w fun r w'=>∃ t u,r=.returned (.tuple #[.string ⟨#[]⟩,.iface t u])∧isErr w' (.iface t u) 4∧Below w.heap.size w w'
theorem rg {f h:List Ent} {l:List Wr} {s:List UInt8} {e:Nat} {pl:Int} (hr:aY f h l) (hb:aJ f h l=(s,e,pl)) (he:e≠0):e=4:=by
 by_cases h1:20000<(aK f h l).length
 ·rw [jW hr h1] at hb;simp only [Prod.mk.injEq] at hb
  exact hb.2.1.symm
 ·rw [gI hr h1] at hb;simp only [Prod.mk.injEq] at hb
  exact absurd hb.2.1.symm he
theorem zu {f h:List Ent} {l:List Wr} (hr:aY f h l):(∃ T,jN T f h l∧FrOk 61 T f h l)∨mp 61 f h l:=by
 rcases rl f h l with ⟨s,e,pl,hb,he,_⟩ | ⟨S,T,_,hS,hs,hb,hT⟩
 ·refine .inr fun vf vh vw w hx hg=>(ni vf vh vw f h l ⟨#[]⟩ e pl w hx hg (rj hb he)).mono ?_
  rintro r w' ⟨err,rfl,ha,hb'⟩;have hi:=ha.isErr he;obtain ⟨t,u,rfl⟩:=ha.iface he;obtain rfl:=rg hr hb he;exact ⟨t,u,rfl,hi,hb'⟩
 ·obtain ⟨_,I,h1,_,_,_,_,_,h2⟩:=pO hr hS hs hb hT;exact .inl ⟨T,⟨h2,h1⟩,fun vf vh vw w hx hg=>zA vf vh vw f h l T w hx hg hb⟩
theorem zr {f h:List Ent} {l:List Wr} (hr:aY f h l):(∃ T,jN T f h l∧FrOk 62 T f h l)∨mp 62 f h l:=by
 obtain ⟨U,I,h1,h2,_,_,_,_,h3,_⟩:=zo hr;exact .inl ⟨U,⟨h3,h2⟩,fun vf vh vw w hx hg=>BO vf vh vw f h l U w hx hg h1⟩
theorem zt {f h:List Ent} {l:List Wr} (hr:aY f h l):(∃ T,jN T f h l∧FrOk 63 T f h l)∨mp 63 f h l:=by
 rcases rl f h l with ⟨s,e,pl,hb,he,_⟩ | ⟨S,T,_,hS,hs,hb,hT⟩
 ·refine .inr fun vf vh vw w hx hg=>(t8 vf vh vw f h l ⟨#[]⟩ e pl w hx hg (tF hb he)).mono ?_
  rintro r w' ⟨err,rfl,ha,hb'⟩;have hi:=ha.isErr he;obtain ⟨t,u,rfl⟩:=ha.iface he;obtain rfl:=rg hr hb he;exact ⟨t,u,rfl,hi,hb'⟩
 ·obtain ⟨⟨V,h1,_,h2,_,_,_,h3,_⟩,_⟩:=pO hr hS hs hb hT;exact .inl ⟨V,⟨h3,h2⟩,fun vf vh vw w hx hg=>Cv vf vh vw f h l V w hx hg h1⟩
theorem ng (T:ByteArray) (f h:List Ent) (l:List Wr) (w:World) (hg:errT w) (hT:jN T f h l) (nf nh nl:Nat) (hf:f.length=nf) (hh:h.length=nh) (hl:l.length=nl) :
 Calls Tryz.prog 64 #[.string T] w fun e w'=>∃ a1 c1 a2 c2 a3 c3,e=.returned (.tuple #[.agg #[.slice a1 nf c1,.slice a2 nh c2,.slice a3 nl c3],.nilIface])∧aC w' (.slice a1 nf c1) (.slice a2 nh c2) (.slice a3 nl c3) f h l∧Below w.heap.size w w':=by
 subst hf hh hl;exact Dd (BH T w hT.1 hg) hT.2
end
