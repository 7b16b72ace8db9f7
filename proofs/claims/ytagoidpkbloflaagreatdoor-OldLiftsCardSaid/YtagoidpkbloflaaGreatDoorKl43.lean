import Derived.Test.YtagoidpkbloflaaGreatDoorKlq
import Derived.Test.YtagoidpkbloflaaGreatDoorKl41
import Derived.Test.YtagoidpkbloflaaGreatDoorKl34
namespace Go.Proofs.YtagoidpkbloflaaGreatDoor
open Lib (hid)
set_option maxRecDepth 100000
set_option maxHeartbeats 8000000
section
open Go.RowKit
def RdIs (r:(Nat×Int) ⊕ (List Ent×List Ent×List Wr)) (w:World) (e:Ending) (w':World):Prop :=
 Below w.heap.size w w'∧((∃ x pl err,r=.inl (x,pl)∧x≠0∧e=.returned (.tuple #[.agg #[.slice none 0 0,.slice none 0 0,.slice none 0 0],err])∧az w' err (x,pl)) ∨
  ∃ f h l a1 c1 a2 c2 a3 c3,r=.inr (f,h,l)∧e=.returned (.tuple #[.agg #[.slice a1 f.length c1,.slice a2 h.length c2,.slice a3 l.length c3],.nilIface])∧aJ w' (w.heap.size+1) (.slice a1 f.length c1) (.slice a2 h.length c2) (.slice a3 l.length c3) f h l)
theorem yw (s:ByteArray) (x:Nat) (w:World) (hs:s.size≤1000000) (hg:errT w) (hu:unO s.data.toList=.inl x) :
 Calls Tryz.prog 44 #[.string s] w fun e w'=>∃ t u,e=.returned (.tuple #[.agg #[.slice none 0 0,.slice none 0 0,.slice none 0 0],.iface t u])∧az w' (.iface t u) (x,-1)∧Below w.heap.size w w':=by
 refine (qB s w hs hg).mono ?_;rintro e w' ⟨hb,⟨x',hx,hx0,rfl⟩ | ⟨f',h',l',vf,vh,vw,hx,_⟩⟩
 ·rw [hu] at hx;injection hx with hx
  subst hx;exact ⟨_,_,rfl,eW w' hx0,hb⟩
 ·rw [hu] at hx;cases hx
theorem yx (s:ByteArray) (f h:List Ent) (l:List Wr) (w:World) (hs:s.size≤1000000) (hg:errT w) (hu:unO s.data.toList=.inr (f,h,l)) :
 Calls Tryz.prog 44 #[.string s] w fun e w'=>∃ a1 c1 a2 c2 a3 c3,e=.returned (.tuple #[.agg #[.slice a1 f.length c1,.slice a2 h.length c2,.slice a3 l.length c3],.nilIface])∧aJ w' w.heap.size (.slice a1 f.length c1) (.slice a2 h.length c2) (.slice a3 l.length c3) f h l∧Below w.heap.size w w':=by
 refine (qB s w hs hg).mono ?_;rintro e w' ⟨hb,⟨x,hx,_⟩ | ⟨f',h',l',vf,vh,vw,hx,rfl,ho⟩⟩
 ·rw [hu] at hx;cases hx
 ·rw [hu] at hx;injection hx with hx
  injection hx with h1 h2
  injection h2 with h2 h3
  subst h1 h2 h3;obtain ⟨a1,c1,rfl,_⟩:=ho.1.is.form;obtain ⟨a2,c2,rfl,_⟩:=ho.2.1.is.form;obtain ⟨a3,c3,rfl,_⟩:=ho.2.2.1.is.form;exact ⟨a1,c1,a2,c2,a3,c3,rfl,ho.mono (Dq _),hb⟩
theorem yr (s:ByteArray) (w:World) (hs:s.size≤400000) (hg:errT w) :
 Calls Tryz.prog 17 #[.string s] w (RdIs (oldF s.data.toList) w):=by
 have hsz:s.size≤140737488351232:=by omega
 have HW:Hid (RD1 w (w.alloc (.cells #[.slice none 0 0,.slice none 0 0,.slice none 0 0] 25)) (.slice none 0 0) (.slice none 0 0) (.slice none 0 0)):=hid ⟨Dg w _,(Below.refl _ _).alloc (Db _) _,by simp⟩;have HG:=hid (hg.alloc (.cells #[.slice none 0 0,.slice none 0 0,.slice none 0 0] 25));obtain ⟨v,i,e,ho⟩:∃ v i e,opnF s.data.toList=(v,i,e):=⟨_,_,_,rfl⟩;obtain ⟨J,hJ⟩:∃ J:ByteArray,i=J.data.toList:=⟨⟨i.toArray⟩,by simp⟩;subst hJ;have HO:=hid ho;clear hg;by_cases he:e=0
 ·subst he;have hp:=mF ho;obtain ⟨_,hv1,hv3⟩:=qv ho;rw [←ac,←ac] at hp;have hJ1:J.size≤1000000:=by omega
  have HJM:Hid (J.size≤maxLen):=hid (by unfold maxLen;omega);clear hp;rcases (show v=1∨v=2∨v=3 by omega) with rfl | rfl | rfl
  ·clear hv1 hv3;rcases hub:unO J.data.toList with x | ⟨f,h,l⟩
   ·have HR:Hid (oldF s.data.toList=.inl (x,-1)):=hid (mz ho (by decide) (by decide) hub);have HNE:Hid (x≠0):=hid (sa hub);have HRD:=hid (fun w' hg=>yw J x w' hJ1 hg hub);clear hub ho;go_enter Tryz.func17,Tryz.ntmps17
    go_wp2_with fail
    generalize w.alloc (.cells #[.slice none 0 0,.slice none 0 0,.slice none 0 0] 25)=W at HW HG ⊢;refine (eI s J 1 0 W hsz HO.out).mono ?_;rintro r w1 ⟨rfl,hb⟩;have H1:=hid (HW.out.below hb);have HG1:=hid (HG.out.below hb);clear hb;rw [bu];go_wp2_with fail
    refine (ib s J 1 0 w1 hsz HO.out).mono ?_;rintro r w2 ⟨rfl,hb⟩;have H2:=hid (H1.out.below hb);have HG2:=hid (HG1.out.below hb);have HBK:Hid (w.heap.size+1≤w2.heap.size):=hid H2.out.2.2;clear hb;rw [bu];go_wp2_with fail
    refine (HRD.out w2 HG2.out).mono ?_;rintro r w3 ⟨t,u,rfl,hae,hb⟩;have H3:=hid (H2.out.below hb);have HAE:=hid (((hae.cellB (o:=0) (u:=.slice none 0 0) H3.out rfl).cellB (o:=1) (u:=.slice none 0 0) (H3.out.put (o:=0) (v:=.slice none 0 0) rfl) rfl).cellB (o:=2) (u:=.slice none 0 0) ((H3.out.put (o:=0) (v:=.slice none 0 0) rfl).put (o:=1) (v:=.slice none 0 0) rfl) rfl);clear hb hae;obtain ⟨⟨c0,c1,c2⟩,z0,z1,z2⟩:=H3.out.cells;have HM:=hid (((H3.out.put (o:=0) (v:=.slice none 0 0) rfl).put (o:=1) (v:=.slice none 0 0) rfl).put (o:=2) (v:=.slice none 0 0) rfl);go_wp2;obtain ⟨⟨q0,q1,q2⟩,_⟩:=HM.out.cells;refine Dc (v:=.tuple #[.agg #[.slice none 0 0,.slice none 0 0,.slice none 0 0],.iface t u]) (by simp [results,Tryz.results17,go_sem,q0,q1,q2]) rfl ?_;exact ⟨HM.out.2.1,.inl ⟨_,_,_,HR.out,HNE.out,rfl,HAE.out⟩⟩
   ·have HR:Hid (oldF s.data.toList=.inr (f,h,l)):=hid (mB ho (by decide) (by decide) hub);have HRD:=hid (fun w' hg=>yx J f h l w' hJ1 hg hub);have HQQ:Hid (∀ a1 c1 a2 c2 a3 c3 W',Below w.heap.size w W'→aJ W' (w.heap.size+1) (.slice a1 f.length c1) (.slice a2 h.length c2) (.slice a3 l.length c3) f h l→RdIs (oldF s.data.toList) w (.returned (.tuple #[.agg #[.slice a1 f.length c1,.slice a2 h.length c2,.slice a3 l.length c3],.nilIface])) W'):=hid (fun a1 c1 a2 c2 a3 c3 W' h1 h3=>⟨h1,.inr ⟨f,h,l,a1,c1,a2,c2,a3,c3,HR.out,rfl,h3⟩⟩);clear hub ho;generalize f.length=nf at HRD HQQ;generalize h.length=nh at HRD HQQ;generalize l.length=nl at HRD HQQ;go_enter Tryz.func17,Tryz.ntmps17
    go_wp2_with fail
    generalize w.alloc (.cells #[.slice none 0 0,.slice none 0 0,.slice none 0 0] 25)=W at HW HG ⊢;refine (eI s J 1 0 W hsz HO.out).mono ?_;rintro r w1 ⟨rfl,hb⟩;have H1:=hid (HW.out.below hb);have HG1:=hid (HG.out.below hb);clear hb;rw [bu];go_wp2_with fail
    refine (ib s J 1 0 w1 hsz HO.out).mono ?_;rintro r w2 ⟨rfl,hb⟩;have H2:=hid (H1.out.below hb);have HG2:=hid (HG1.out.below hb);have HBK:Hid (w.heap.size+1≤w2.heap.size):=hid H2.out.2.2;clear hb;rw [bu];go_wp2_with fail
    refine (HRD.out w2 HG2.out).mono ?_;rintro r w3 ⟨a1,c1,a2,c2,a3,c3,rfl,ho3,hb⟩;have H3:=hid (H2.out.below hb);have HOM:=hid ((((ho3.mono HBK.out).cell (k:=w.heap.size) (by omega) 0 (.slice a1 nf c1)).cell (k:=w.heap.size) (by omega) 1 (.slice a2 nh c2)).cell (k:=w.heap.size) (by omega) 2 (.slice a3 nl c3));have HM:=hid (((H3.out.put (o:=0) (v:=.slice a1 nf c1) rfl).put (o:=1) (v:=.slice a2 nh c2) rfl).put (o:=2) (v:=.slice a3 nl c3) rfl);clear hb ho3;obtain ⟨⟨x0,x1,x2⟩,z0,z1,z2⟩:=H3.out.cells;go_wp2;obtain ⟨⟨q0,q1,q2⟩,_⟩:=HM.out.cells;refine Dc (v:=.tuple #[.agg #[.slice a1 nf c1,.slice a2 nh c2,.slice a3 nl c3],.nilIface]) (by simp [results,Tryz.results17,go_sem,q0,q1,q2]) rfl ?_;exact HQQ.out _ _ _ _ _ _ _ HM.out.2.1 HOM.out
  ·clear hv1 hv3;rcases hub:unbF J.data.toList with ⟨x,pl⟩ | ⟨f,h,l⟩
   ·have HR:Hid (oldF s.data.toList=.inl (x,pl)):=hid ((jT ho).trans hub);have HNE:Hid (x≠0):=hid (gD hub);have HRD:=hid (fun w' hg=>oP J x pl w' HJM.out hg hub);clear hub ho;go_enter Tryz.func17,Tryz.ntmps17
    go_wp2_with fail
    generalize w.alloc (.cells #[.slice none 0 0,.slice none 0 0,.slice none 0 0] 25)=W at HW HG ⊢;refine (eI s J 2 0 W hsz HO.out).mono ?_;rintro r w1 ⟨rfl,hb⟩;have H1:=hid (HW.out.below hb);have HG1:=hid (HG.out.below hb);clear hb;rw [bu];go_wp2_with fail
    refine (ib s J 2 0 w1 hsz HO.out).mono ?_;rintro r w2 ⟨rfl,hb⟩;have H2:=hid (H1.out.below hb);have HG2:=hid (HG1.out.below hb);have HBK:Hid (w.heap.size+1≤w2.heap.size):=hid H2.out.2.2;clear hb;rw [bu];go_wp2_with fail
    refine (HRD.out w2 HG2.out).mono ?_;rintro r w3 ⟨t,u,rfl,hae,hb⟩;have H3:=hid (H2.out.below hb);have HAE:=hid (((hae.cellB (o:=0) (u:=.slice none 0 0) H3.out rfl).cellB (o:=1) (u:=.slice none 0 0) (H3.out.put (o:=0) (v:=.slice none 0 0) rfl) rfl).cellB (o:=2) (u:=.slice none 0 0) ((H3.out.put (o:=0) (v:=.slice none 0 0) rfl).put (o:=1) (v:=.slice none 0 0) rfl) rfl);clear hb hae;obtain ⟨⟨c0,c1,c2⟩,z0,z1,z2⟩:=H3.out.cells;have HM:=hid (((H3.out.put (o:=0) (v:=.slice none 0 0) rfl).put (o:=1) (v:=.slice none 0 0) rfl).put (o:=2) (v:=.slice none 0 0) rfl);go_wp2;obtain ⟨⟨q0,q1,q2⟩,_⟩:=HM.out.cells;refine Dc (v:=.tuple #[.agg #[.slice none 0 0,.slice none 0 0,.slice none 0 0],.iface t u]) (by simp [results,Tryz.results17,go_sem,q0,q1,q2]) rfl ?_;exact ⟨HM.out.2.1,.inl ⟨_,_,_,HR.out,HNE.out,rfl,HAE.out⟩⟩
   ·have HR:Hid (oldF s.data.toList=.inr (f,h,l)):=hid ((jT ho).trans hub);have HRD:=hid (fun w' hg=>oQ J f h l w' HJM.out hg hub);have HQQ:Hid (∀ a1 c1 a2 c2 a3 c3 W',Below w.heap.size w W'→aJ W' (w.heap.size+1) (.slice a1 f.length c1) (.slice a2 h.length c2) (.slice a3 l.length c3) f h l→RdIs (oldF s.data.toList) w (.returned (.tuple #[.agg #[.slice a1 f.length c1,.slice a2 h.length c2,.slice a3 l.length c3],.nilIface])) W'):=hid (fun a1 c1 a2 c2 a3 c3 W' h1 h3=>⟨h1,.inr ⟨f,h,l,a1,c1,a2,c2,a3,c3,HR.out,rfl,h3⟩⟩);clear hub ho;generalize f.length=nf at HRD HQQ;generalize h.length=nh at HRD HQQ;generalize l.length=nl at HRD HQQ;go_enter Tryz.func17,Tryz.ntmps17
    go_wp2_with fail
    generalize w.alloc (.cells #[.slice none 0 0,.slice none 0 0,.slice none 0 0] 25)=W at HW HG ⊢;refine (eI s J 2 0 W hsz HO.out).mono ?_;rintro r w1 ⟨rfl,hb⟩;have H1:=hid (HW.out.below hb);have HG1:=hid (HG.out.below hb);clear hb;rw [bu];go_wp2_with fail
    refine (ib s J 2 0 w1 hsz HO.out).mono ?_;rintro r w2 ⟨rfl,hb⟩;have H2:=hid (H1.out.below hb);have HG2:=hid (HG1.out.below hb);have HBK:Hid (w.heap.size+1≤w2.heap.size):=hid H2.out.2.2;clear hb;rw [bu];go_wp2_with fail
    refine (HRD.out w2 HG2.out).mono ?_;rintro r w3 ⟨a1,c1,a2,c2,a3,c3,rfl,ho3,hb⟩;have H3:=hid (H2.out.below hb);have HOM:=hid ((((ho3.mono HBK.out).cell (k:=w.heap.size) (by omega) 0 (.slice a1 nf c1)).cell (k:=w.heap.size) (by omega) 1 (.slice a2 nh c2)).cell (k:=w.heap.size) (by omega) 2 (.slice a3 nl c3));have HM:=hid (((H3.out.put (o:=0) (v:=.slice a1 nf c1) rfl).put (o:=1) (v:=.slice a2 nh c2) rfl).put (o:=2) (v:=.slice a3 nl c3) rfl);clear hb ho3;obtain ⟨⟨x0,x1,x2⟩,z0,z1,z2⟩:=H3.out.cells;go_wp2;obtain ⟨⟨q0,q1,q2⟩,_⟩:=HM.out.cells;refine Dc (v:=.tuple #[.agg #[.slice a1 nf c1,.slice a2 nh c2,.slice a3 nl c3],.nilIface]) (by simp [results,Tryz.results17,go_sem,q0,q1,q2]) rfl ?_;exact HQQ.out _ _ _ _ _ _ _ HM.out.2.1 HOM.out
  ·have HR:Hid (oldF s.data.toList=.inl (6,-1)):=hid (mD ho);clear ho hv1 hv3;go_enter Tryz.func17,Tryz.ntmps17
   go_wp2_with fail
   generalize w.alloc (.cells #[.slice none 0 0,.slice none 0 0,.slice none 0 0] 25)=W at HW HG ⊢;refine (eI s J 3 0 W hsz HO.out).mono ?_;rintro r w1 ⟨rfl,hb⟩;have H1:=hid (HW.out.below hb);clear hb;rw [bu];go_wp2_with fail
   refine (ib s J 3 0 w1 hsz HO.out).mono ?_;rintro r w2 ⟨rfl,hb⟩;have H2:=hid (H1.out.below hb);clear hb;rw [bu];obtain ⟨⟨c0,c1,c2⟩,z0,z1,z2⟩:=H2.out.cells;have HM:=hid (((H2.out.put (o:=0) (v:=.slice none 0 0) rfl).put (o:=1) (v:=.slice none 0 0) rfl).put (o:=2) (v:=.slice none 0 0) rfl);go_wp2;obtain ⟨⟨q0,q1,q2⟩,_⟩:=HM.out.cells;refine Dc (v:=.tuple #[.agg #[.slice none 0 0,.slice none 0 0,.slice none 0 0],.iface 26 (.int .i64 6)]) (by simp [results,Tryz.results17,go_sem,q0,q1,q2]) rfl ?_;exact ⟨HM.out.2.1,.inl ⟨6,-1,_,HR.out,by decide,rfl,eW _ (by decide)⟩⟩
 ·have HR:Hid (oldF s.data.toList=.inl (e,-1)):=hid (mC ho he);clear ho;go_enter Tryz.func17,Tryz.ntmps17
  go_wp2_with fail
  generalize w.alloc (.cells #[.slice none 0 0,.slice none 0 0,.slice none 0 0] 25)=W at HW HG ⊢;refine (eI s J v e W hsz HO.out).mono ?_;rintro r w1 ⟨rfl,hb⟩;have H1:=hid (HW.out.below hb);clear hb;rw [dO he];obtain ⟨⟨c0,c1,c2⟩,z0,z1,z2⟩:=H1.out.cells;have HM:=hid (((H1.out.put (o:=0) (v:=.slice none 0 0) rfl).put (o:=1) (v:=.slice none 0 0) rfl).put (o:=2) (v:=.slice none 0 0) rfl);go_wp2;obtain ⟨⟨q0,q1,q2⟩,_⟩:=HM.out.cells;refine Dc (v:=.tuple #[.agg #[.slice none 0 0,.slice none 0 0,.slice none 0 0],.iface 26 (.int .i64 e)]) (by simp [results,Tryz.results17,go_sem,q0,q1,q2]) rfl ?_;exact ⟨HM.out.2.1,.inl ⟨e,-1,_,HR.out,he,rfl,eW _ he⟩⟩
end
section
open Go.RowKit
def anyF (s:List UInt8):(Nat×Int) ⊕ (List Ent×List Ent×List Wr) :=
 match opnF s with
 | (v,_,e)=>if e≠0 then .inl (e,-1) else if v=3 then unfF s else oldF s
section
variable {s i:List UInt8} {v e:Nat}
theorem lA (h0:opnF s=(v,i,e)) (he:e≠0):anyF s=.inl (e,-1):=by unfold anyF;rw [h0];simp only;rw [if_pos he]
theorem lB (h0:opnF s=(3,i,0)):anyF s=unfF s:=by unfold anyF;rw [h0];simp only;rw [if_neg (by simp),if_pos trivial]
theorem lz (h0:opnF s=(v,i,0)) (h3:v≠3):anyF s=oldF s:=by unfold anyF;rw [h0];simp only;rw [if_neg (by simp),if_neg h3]
end
def fI (s:List UInt8):List UInt8×Nat×Int :=
 match anyF s with
 | .inl (x,pl)=>([],x,pl)
 | .inr (f,h,l)=>frmF f h l
theorem pZ {s:List UInt8} {x:Nat} {pl:Int} (h:anyF s=.inl (x,pl)):fI s=([],x,pl):=by unfold fI;rw [h]
theorem qa {s:List UInt8} {f h:List Ent} {l:List Wr} (h0:anyF s=.inr (f,h,l)):fI s=frmF f h l:=by unfold fI;rw [h0]
theorem qk (s:ByteArray) (w:World) (hs:s.size≤400000) (hg:errT w) :
 Calls Tryz.prog 5 #[.string s] w (RdIs (anyF s.data.toList) w):=by
 have hsz:s.size≤140737488351232:=by omega
 have HW:Hid (RD1 w (w.alloc (.cells #[.slice none 0 0,.slice none 0 0,.slice none 0 0] 25)) (.slice none 0 0) (.slice none 0 0) (.slice none 0 0)):=hid ⟨Dg w _,(Below.refl _ _).alloc (Db _) _,by simp⟩;have HG:=hid (hg.alloc (.cells #[.slice none 0 0,.slice none 0 0,.slice none 0 0] 25));obtain ⟨v,i,e,ho⟩:∃ v i e,opnF s.data.toList=(v,i,e):=⟨_,_,_,rfl⟩;obtain ⟨J,hJ⟩:∃ J:ByteArray,i=J.data.toList:=⟨⟨i.toArray⟩,by simp⟩;subst hJ;have HO:=hid ho;clear hg;by_cases he:e=0
 ·subst he;by_cases hv:v=3
  ·subst hv;have HR:=hid (lB ho);have HRD:Hid (∀ w',errT w'→Calls Tryz.prog 16 #[.string s] w' (RdIs (unfF s.data.toList) w')):=hid (fun w' hg=>vR s w' hs hg);clear ho;go_enter Tryz.func5,Tryz.ntmps5
   go_wp2_with fail
   generalize w.alloc (.cells #[.slice none 0 0,.slice none 0 0,.slice none 0 0] 25)=W at HW HG ⊢;refine (eI s J 3 0 W hsz HO.out).mono ?_;rintro r w1 ⟨rfl,hb⟩;have H1:=hid (HW.out.below hb);have HG1:=hid (HG.out.below hb);have HBK:Hid (w.heap.size+1≤w1.heap.size):=hid H1.out.2.2;clear hb;rw [bu];go_wp2_with fail
   refine (HRD.out w1 HG1.out).mono ?_;rintro r w3 ⟨hb,hcases⟩;have H3:=hid (H1.out.below hb);clear hb;rcases hcases with ⟨x,q,err,hx,hx0,rfl,hae⟩ | ⟨f,h,l,a1,c1,a2,c2,a3,c3,hx,rfl,ho3⟩
   ·have HRR:=hid (HR.out.trans hx);have HAE:=hid (((hae.cellB (o:=0) (u:=.slice none 0 0) H3.out rfl).cellB (o:=1) (u:=.slice none 0 0) (H3.out.put (o:=0) (v:=.slice none 0 0) rfl) rfl).cellB (o:=2) (u:=.slice none 0 0) ((H3.out.put (o:=0) (v:=.slice none 0 0) rfl).put (o:=1) (v:=.slice none 0 0) rfl) rfl);clear hae hx HR;obtain ⟨⟨c0,c1,c2⟩,z0,z1,z2⟩:=H3.out.cells;have HM:=hid (((H3.out.put (o:=0) (v:=.slice none 0 0) rfl).put (o:=1) (v:=.slice none 0 0) rfl).put (o:=2) (v:=.slice none 0 0) rfl);go_wp2;obtain ⟨⟨q0,q1,q2⟩,_⟩:=HM.out.cells;refine Dc (v:=.tuple #[.agg #[.slice none 0 0,.slice none 0 0,.slice none 0 0],err]) (by simp [results,Tryz.results5,go_sem,q0,q1,q2]) rfl ?_;exact ⟨HM.out.2.1,.inl ⟨_,_,_,HRR.out,hx0,rfl,HAE.out⟩⟩
   ·have HRR:=hid (HR.out.trans hx);have HQQ:Hid (∀ W',Below w.heap.size w W'→aJ W' (w.heap.size+1) (.slice a1 f.length c1) (.slice a2 h.length c2) (.slice a3 l.length c3) f h l→RdIs (anyF s.data.toList) w (.returned (.tuple #[.agg #[.slice a1 f.length c1,.slice a2 h.length c2,.slice a3 l.length c3],.nilIface])) W'):=hid (fun W' h1 h3=>⟨h1,.inr ⟨f,h,l,a1,c1,a2,c2,a3,c3,HRR.out,rfl,h3⟩⟩);clear hx HR;generalize f.length=nf at ho3 HQQ ⊢;generalize h.length=nh at ho3 HQQ ⊢;generalize l.length=nl at ho3 HQQ ⊢;have HOM:=hid ((((ho3.mono (Dl HBK.out (Dq _))).cell (k:=w.heap.size) (by omega) 0 (.slice a1 nf c1)).cell (k:=w.heap.size) (by omega) 1 (.slice a2 nh c2)).cell (k:=w.heap.size) (by omega) 2 (.slice a3 nl c3));have HM:=hid (((H3.out.put (o:=0) (v:=.slice a1 nf c1) rfl).put (o:=1) (v:=.slice a2 nh c2) rfl).put (o:=2) (v:=.slice a3 nl c3) rfl);clear ho3;obtain ⟨⟨x0,x1,x2⟩,z0,z1,z2⟩:=H3.out.cells;go_wp2;obtain ⟨⟨q0,q1,q2⟩,_⟩:=HM.out.cells;refine Dc (v:=.tuple #[.agg #[.slice a1 nf c1,.slice a2 nh c2,.slice a3 nl c3],.nilIface]) (by simp [results,Tryz.results5,go_sem,q0,q1,q2]) rfl ?_;exact HQQ.out _ HM.out.2.1 HOM.out
  ·have HR:=hid (lz ho hv);have hv3:((v:Int) == 3)=false:=by simp;omega
   have HRD:Hid (∀ w',errT w'→Calls Tryz.prog 17 #[.string s] w' (RdIs (oldF s.data.toList) w')):=hid (fun w' hg=>yr s w' hs hg);clear ho hv;go_enter Tryz.func5,Tryz.ntmps5
   go_wp2_with fail
   generalize w.alloc (.cells #[.slice none 0 0,.slice none 0 0,.slice none 0 0] 25)=W at HW HG ⊢;refine (eI s J v 0 W hsz HO.out).mono ?_;rintro r w1 ⟨rfl,hb⟩;have H1:=hid (HW.out.below hb);have HG1:=hid (HG.out.below hb);have HBK:Hid (w.heap.size+1≤w1.heap.size):=hid H1.out.2.2;clear hb;rw [bu];go_wp2_with fail
   refine (HRD.out w1 HG1.out).mono ?_;rintro r w3 ⟨hb,hcases⟩;have H3:=hid (H1.out.below hb);clear hb;rcases hcases with ⟨x,q,err,hx,hx0,rfl,hae⟩ | ⟨f,h,l,a1,c1,a2,c2,a3,c3,hx,rfl,ho3⟩
   ·have HRR:=hid (HR.out.trans hx);have HAE:=hid (((hae.cellB (o:=0) (u:=.slice none 0 0) H3.out rfl).cellB (o:=1) (u:=.slice none 0 0) (H3.out.put (o:=0) (v:=.slice none 0 0) rfl) rfl).cellB (o:=2) (u:=.slice none 0 0) ((H3.out.put (o:=0) (v:=.slice none 0 0) rfl).put (o:=1) (v:=.slice none 0 0) rfl) rfl);clear hae hx HR;obtain ⟨⟨c0,c1,c2⟩,z0,z1,z2⟩:=H3.out.cells;have HM:=hid (((H3.out.put (o:=0) (v:=.slice none 0 0) rfl).put (o:=1) (v:=.slice none 0 0) rfl).put (o:=2) (v:=.slice none 0 0) rfl);go_wp2;obtain ⟨⟨q0,q1,q2⟩,_⟩:=HM.out.cells;refine Dc (v:=.tuple #[.agg #[.slice none 0 0,.slice none 0 0,.slice none 0 0],err]) (by simp [results,Tryz.results5,go_sem,q0,q1,q2]) rfl ?_;exact ⟨HM.out.2.1,.inl ⟨_,_,_,HRR.out,hx0,rfl,HAE.out⟩⟩
   ·have HRR:=hid (HR.out.trans hx);have HQQ:Hid (∀ W',Below w.heap.size w W'→aJ W' (w.heap.size+1) (.slice a1 f.length c1) (.slice a2 h.length c2) (.slice a3 l.length c3) f h l→RdIs (anyF s.data.toList) w (.returned (.tuple #[.agg #[.slice a1 f.length c1,.slice a2 h.length c2,.slice a3 l.length c3],.nilIface])) W'):=hid (fun W' h1 h3=>⟨h1,.inr ⟨f,h,l,a1,c1,a2,c2,a3,c3,HRR.out,rfl,h3⟩⟩);clear hx HR;generalize f.length=nf at ho3 HQQ ⊢;generalize h.length=nh at ho3 HQQ ⊢;generalize l.length=nl at ho3 HQQ ⊢;have HOM:=hid ((((ho3.mono (Dl HBK.out (Dq _))).cell (k:=w.heap.size) (by omega) 0 (.slice a1 nf c1)).cell (k:=w.heap.size) (by omega) 1 (.slice a2 nh c2)).cell (k:=w.heap.size) (by omega) 2 (.slice a3 nl c3));have HM:=hid (((H3.out.put (o:=0) (v:=.slice a1 nf c1) rfl).put (o:=1) (v:=.slice a2 nh c2) rfl).put (o:=2) (v:=.slice a3 nl c3) rfl);clear ho3;obtain ⟨⟨x0,x1,x2⟩,z0,z1,z2⟩:=H3.out.cells;go_wp2;obtain ⟨⟨q0,q1,q2⟩,_⟩:=HM.out.cells;refine Dc (v:=.tuple #[.agg #[.slice a1 nf c1,.slice a2 nh c2,.slice a3 nl c3],.nilIface]) (by simp [results,Tryz.results5,go_sem,q0,q1,q2]) rfl ?_;exact HQQ.out _ HM.out.2.1 HOM.out
 ·have HR:Hid (anyF s.data.toList=.inl (e,-1)):=hid (lA ho he);clear ho;go_enter Tryz.func5,Tryz.ntmps5
  go_wp2_with fail
  generalize w.alloc (.cells #[.slice none 0 0,.slice none 0 0,.slice none 0 0] 25)=W at HW HG ⊢;refine (eI s J v e W hsz HO.out).mono ?_;rintro r w1 ⟨rfl,hb⟩;have H1:=hid (HW.out.below hb);clear hb;rw [dO he];obtain ⟨⟨c0,c1,c2⟩,z0,z1,z2⟩:=H1.out.cells;have HM:=hid (((H1.out.put (o:=0) (v:=.slice none 0 0) rfl).put (o:=1) (v:=.slice none 0 0) rfl).put (o:=2) (v:=.slice none 0 0) rfl);go_wp2;obtain ⟨⟨q0,q1,q2⟩,_⟩:=HM.out.cells;refine Dc (v:=.tuple #[.agg #[.slice none 0 0,.slice none 0 0,.slice none 0 0],.iface 26 (.int .i64 e)]) (by simp [results,Tryz.results5,go_sem,q0,q1,q2]) rfl ?_;exact ⟨HM.out.2.1,.inl ⟨e,-1,_,HR.out,he,rfl,eW _ he⟩⟩
theorem qs (s T:ByteArray) (e:Nat) (pl:Int) (w:World) (hs:s.size≤400000) (hg:errT w) (h:fI s.data.toList=(T.data.toList,e,pl)) :
 Calls Tryz.prog 8 #[.string s] w fun r w'=>∃ err,r=.returned (.tuple #[.string T,err])∧az w' err (e,pl)∧Below w.heap.size w w':=by
 have HL:=hid h;have HG:=hid hg;clear h hg;go_enter Tryz.func8,Tryz.ntmps8
 go_wp2_with fail
 refine (qk s _ hs HG.out).mono ?_;rintro r w1 ⟨hb1,hcases⟩;have HB1:=hid hb1;clear hb1;rcases hcases with ⟨x,q,err,hx,hx0,rfl,hae⟩ | ⟨f,h,l,a1,c1,a2,c2,a3,c3,hx,rfl,ho⟩
 ·have hl:=HL.out;rw [pZ hx] at hl;injection hl with h1 hl
  injection hl with h2 h3
  subst h2 h3;have hT:T=⟨#[]⟩:=by rw [←bF T,←h1]
  subst hT;obtain ⟨t,u,rfl⟩:=hae.iface hx0;have HAE:=hid (hae.below (w':=w1.alloc (.cells #[.slice none 0 0,.slice none 0 0,.slice none 0 0] 25)) ((Below.refl _ _).alloc (Db _) _));have HB2:=hid (HB1.out.alloc HB1.out.size (.cells #[.slice none 0 0,.slice none 0 0,.slice none 0 0] 25));clear h1 hae hx HL;go_wp2;go_ret2;exact ⟨_,rfl,HAE.out,HB2.out⟩
 ·have HF:Hid (frmF f h l=(T.data.toList,e,pl)):=hid (by rw [←qa hx];exact HL.out);have hbi:=ho.bat;generalize f.length=nf at hbi ⊢;generalize h.length=nh at hbi ⊢;generalize l.length=nl at hbi ⊢;have HX:=hid (hbi.alloc (.cells #[.slice a1 nf c1,.slice a2 nh c2,.slice a3 nl c3] 25));have HB2:=hid (HB1.out.alloc HB1.out.size (.cells #[.slice a1 nf c1,.slice a2 nh c2,.slice a3 nl c3] 25));have HG2:=hid (HG.out.below HB2.out);clear ho hbi hx HL;go_wp2_with fail
  refine (px _ _ _ f h l T e pl _ HX.out HG2.out HF.out).mono ?_;rintro r w3 ⟨err,rfl,hae,hb3⟩;have HAE:=hid hae;have HB3:Hid (Below w.heap.size w w3):=hid (HB2.out.trans (hb3.mono HB2.out.size));clear hae hb3;go_wp2;go_ret2;exact ⟨_,rfl,HAE.out,HB3.out⟩
end
section
open Go.RowKit
theorem zi (vf vh vw:Value) (f h:List Ent) (l:List Wr) (S:ByteArray) (e:Nat) (pl:Int) (w:World) (hx:aR w vf vh vw f h l) (hb:aP f h l=(S.data.toList,e,pl)) :
 Calls Tryz.prog 18 #[.agg #[vf,vh,vw]] w fun r w'=>r=.returned (.tuple #[.string S,.agg #[.int .i64 (e:Int),.int .i64 pl]])∧Below w.heap.size w w':=by
 by_cases hr:(batF f h l).1=0
 ·refine (zk w vf vh vw f h l hx hr).mono ?_;rintro r w' ⟨rfl,h2⟩;have h3:pl=-1:=by
   by_cases hbg:20000<(cB f h l).length
   ·rw [fZ hr hbg] at hb;injection hb with _ hb;injection hb with _ hb;exact hb.symm
   ·rw [fq hr hbg] at hb;injection hb with _ hb;injection hb with _ hb;exact hb.symm
  rw [hb,h3];exact ⟨by rw [bF],h2⟩
 ·obtain ⟨e',pl',hbf⟩:∃ e' pl',batF f h l=(e',pl'):=⟨_,_,rfl⟩;have hn:e'≠0:=by rw [hbf] at hr;exact hr
  refine (zj w vf vh vw f h l e' pl' hx hbf hn).mono ?_;rintro r w' ⟨rfl,h2⟩;rw [gO hr,hbf] at hb;injection hb with h3 h4
  injection h4 with h4 h5
  subst h4 h5;have:S=⟨#[]⟩:=by rw [←bF S,←h3]
  rw [this];exact ⟨rfl,h2⟩
end
section
open Go.RowKit
theorem rowF.away {w:World} {F G:Nat} {a b:Int} (h:rowF w G a b) (hne:G≠F) (u v:Value):rowF ((w.setCell ⟨F,0,none⟩ u).setCell ⟨F,1,none⟩ v) G a b :=
 by unfold rowF;rw [Eh _ _ _ _ (fun e=>hne e),Eh _ _ _ _ (fun e=>hne e)];exact h
theorem uj {f h:List Ent} {l:List Wr} {s:List UInt8} {q:Int} (hb:aP f h l=(s,0,q)):q=-1:=by
 by_cases hr:(batF f h l).1=0
 ·by_cases hbg:20000<(cB f h l).length
  ·rw [fZ hr hbg] at hb;injection hb with _ hb;injection hb with hb _;cases hb
  ·rw [fq hr hbg] at hb;injection hb with _ hb;injection hb with _ hb;exact hb.symm
 ·rw [gO hr] at hb;injection hb with _ hb;exact absurd (by rw [hb]) hr
theorem vS (S T:ByteArray) (hsz:S.size≤20000) (h:frmL S.data.toList=T.data.toList) :
 ∃ Z N:ByteArray,sqL S.data.toList=Z.data.toList∧putL S.size=N.data.toList∧N.size≤3∧Z.size≤220000 ∧
  ((Z.size<S.size∧dI ((⟨#[80,84,3,1]⟩:ByteArray)++N++Z).data.toList=T.data.toList)∨(S.size≤Z.size∧dI ((⟨#[80,84,3,0]⟩:ByteArray)++N++S).data.toList=T.data.toList)):=by
 have e1:sqL S.data.toList=(⟨(sqL S.data.toList).toArray⟩:ByteArray).data.toList:=by simp
 have e2:putL S.size=(⟨(putL S.size).toArray⟩:ByteArray).data.toList:=by simp
 generalize (⟨(sqL S.data.toList).toArray⟩:ByteArray)=Z at e1;generalize (⟨(putL S.size).toArray⟩:ByteArray)=N at e2;refine ⟨Z,N,e1,e2,?_,?_,?_⟩
 ·rw [ac,←e2,mM hsz];split <;> split <;> omega
 ·rw [ac,←e1];exact rA _ (by rw [←ac];exact hsz)
 ·unfold frmL dV at h;rw [e1,←ac,←ac,e2] at h;by_cases hc:Z.size<S.size
  ·rw [if_pos hc] at h;exact .inl ⟨hc,by rw [←h];simp⟩
  ·rw [if_neg hc] at h;exact .inr ⟨by omega,by rw [←h];simp⟩
theorem mT (vf vh vw:Value) (f h:List Ent) (l:List Wr) (T:ByteArray) (e:Nat) (pl:Int) (w:World) (hx:aR w vf vh vw f h l) (hb:frmF f h l=(T.data.toList,e,pl)) :
 Calls Tryz.prog 7 #[.agg #[vf,vh,vw]] w fun r w'=>r=.returned (.tuple #[.string T,.agg #[.int .i64 (e:Int),.int .i64 pl]])∧Below w.heap.size w w':=by
 have HX:=hid hx;obtain ⟨hf,hh,hv,_⟩:=hx;obtain ⟨af,cf,rfl,_⟩:=hf.form;obtain ⟨ah,ch,rfl,_⟩:=hh.form;obtain ⟨aw,cw,rfl,_⟩:=hv.form;obtain ⟨S,x,q,hbf⟩:∃ (S:ByteArray) (x:Nat) (q:Int),aP f h l=(S.data.toList,x,q):=⟨⟨(aP f h l).1.toArray⟩,(aP f h l).2.1,(aP f h l).2.2,by simp⟩;have HBF:=hid hbf;generalize f.length=nf at HX ⊢;generalize h.length=nh at HX ⊢;generalize l.length=n at HX ⊢;have HA:=hid ((cy w (.slice af nf cf) (.slice ah nh ch) (.slice aw n cw) 25).below ((Below.refl _ _).alloc (Db _) (.cells #[.int .i64 0,.int .i64 0] 28)) (by simp));have HF:Hid (rowF ((w.alloc (.cells #[.slice af nf cf,.slice ah nh ch,.slice aw n cw] 25)).alloc (.cells #[.int .i64 0,.int .i64 0] 28)) (w.heap.size+1) 0 0):=hid (Em w _ _);have HW:Hid (Below w.heap.size w ((w.alloc (.cells #[.slice af nf cf,.slice ah nh ch,.slice aw n cw] 25)).alloc (.cells #[.int .i64 0,.int .i64 0] 28))):=hid (((Below.refl _ _).alloc (Db _) _).alloc (by simp) _);have HZ:Hid (w.heap.size+1<((w.alloc (.cells #[.slice af nf cf,.slice ah nh ch,.slice aw n cw] 25)).alloc (.cells #[.int .i64 0,.int .i64 0] 28)).heap.size):=hid (by simp);have HBW:Hid (w.heap.size≤w.heap.size+1):=hid (Dq _)
 obtain ⟨A1,hA1⟩:∃ A:ByteArray,(⟨#[80,84,3,1]⟩:ByteArray)=A:=⟨_,rfl⟩;obtain ⟨A0,hA0⟩:∃ A:ByteArray,(⟨#[80,84,3,0]⟩:ByteArray)=A:=⟨_,rfl⟩;have HA1:=hid hA1;have HA0:=hid hA0;have HAz1:Hid (A1.size=4):=hid (by rw [←hA1];rfl);have HAz0:Hid (A0.size=4):=hid (by rw [←hA0];rfl);clear hf hh hv hA1 hA0;go_enter Tryz.func7,Tryz.ntmps7
 rw [HA1.out,HA0.out];go_wp2_with fail
 generalize (w.alloc (.cells #[.slice af nf cf,.slice ah nh ch,.slice aw n cw] 25)).alloc (.cells #[.int .i64 0,.int .i64 0] 28)=W at HA HF HW HZ ⊢;generalize w.heap.size+1=F at HF HZ HBW ⊢;refine (zi _ _ _ f h l S x q W (HX.out.below HW.out) HBF.out).mono ?_;rintro r w1 ⟨rfl,hb1⟩;have HB1:Hid (Below W.heap.size W (w1.alloc (.cells #[.int .i64 (x:Int),.int .i64 q] 28))):=hid (hb1.alloc hb1.size _);have HF1:=hid (HF.out.below HB1.out HZ.out);have HT1:Hid (rowF (w1.alloc (.cells #[.int .i64 (x:Int),.int .i64 q] 28)) w1.heap.size (x:Int) q):=hid (Dg w1 _);have HW1:Hid (Below w.heap.size w (w1.alloc (.cells #[.int .i64 (x:Int),.int .i64 q] 28))):=HW.out.trans (HB1.out.mono HW.out.size);have HZ1:Hid (F<w1.heap.size∧w1.heap.size<(w1.alloc (.cells #[.int .i64 (x:Int),.int .i64 q] 28)).heap.size):=hid ⟨Dv HZ.out hb1.size,by simp⟩;clear hb1;obtain ⟨c0,c1⟩:=HT1.out.at;go_wp2_with fail
 generalize w1.alloc (.cells #[.int .i64 (x:Int),.int .i64 q] 28)=W1 at HB1 HF1 HT1 HW1 HZ1 c0 c1 ⊢;generalize w1.heap.size=G at HT1 HZ1 c0 c1 ⊢;refine (aH (x:Int) q _).mono ?_;rintro r w2 ⟨rfl,hb2⟩;have HF2:=hid (HF1.out.below hb2 (by have:=HZ1.out;omega));have HT2:=hid (HT1.out.below hb2 HZ1.out.2);have HW2:Hid (Below w.heap.size w w2):=HW1.out.trans (hb2.mono HW1.out.size);have HZ2:Hid (F<G∧G<w2.heap.size):=hid ⟨HZ1.out.1,Dv HZ1.out.2 hb2.size⟩;clear hb2 c0 c1 HB1;obtain ⟨c0,c1⟩:=HT2.out.at;obtain ⟨c2,c3⟩:=HF2.out.at;have g0:=HF2.out.frozen 0;have g1:=HF2.out.frozen 1;by_cases hx0:x=0
 ·subst hx0;have hq:q=-1:=uj hbf;subst hq;rw [pw hbf] at hb;injection hb with hT hb
  injection hb with h1 h2
  subst h1 h2;have hsz:S.size≤20000:=by
   by_cases hr:(batF f h l).1=0
   ·by_cases hbg:20000<(cB f h l).length
    ·rw [fZ hr hbg] at hbf;injection hbf with _ hbf;injection hbf with hbf _;cases hbf
    ·rw [fq hr hbg] at hbf;injection hbf with hbf _;rw [ac,←hbf];omega
   ·rw [gO hr] at hbf;injection hbf with _ hbf;exact absurd (by rw [hbf]) hr
  obtain ⟨Z,N,hZ,hN,hnz,hzz,hcs⟩:=vS S T hsz hT;have HSQ:=hid hZ;have HN:=hid hN;clear hZ hN hT hbf;have hz:((0:Int) == 0)=true:=rfl;go_wp2_with fail
  refine (Ab S Z w2 hsz HSQ.out).mono ?_;rintro r w3 ⟨rfl,hb3⟩;have HB3:Hid (Below w2.heap.size w2 (w3.alloc (.cells #[.int .i64 0,.int .i64 (-1)] 28))):=hid (hb3.alloc hb3.size _);have HF3:=hid (HF2.out.below HB3.out (by have:=HZ2.out;omega));have HT3:=hid (HT2.out.below HB3.out HZ2.out.2);have HW3:Hid (Below w.heap.size w (w3.alloc (.cells #[.int .i64 0,.int .i64 (-1)] 28))):=HW2.out.trans (HB3.out.mono HW2.out.size);have HZ3:Hid (F<G∧G<(w3.alloc (.cells #[.int .i64 0,.int .i64 (-1)] 28)).heap.size):=hid ⟨HZ2.out.1,Dv HZ2.out.2 HB3.out.size⟩;clear hb3 c0 c1 c2 c3 g0 g1;go_wp2_with fail
  generalize w3.alloc (.cells #[.int .i64 0,.int .i64 (-1)] 28)=W3 at HB3 HF3 HT3 HW3 HZ3 ⊢;refine (kq S.size _ N W3 (by omega) rfl (by rw [HN.out,bF])).mono ?_;rintro r w4 ⟨rfl,hb4⟩;have HF4:=hid (HF3.out.below hb4 (by have:=HZ3.out;omega));have HT4:=hid (HT3.out.below hb4 HZ3.out.2);have HW4:Hid (Below w.heap.size w w4):=HW3.out.trans (hb4.mono HW3.out.size);have HZ4:Hid (F<G∧G<w4.heap.size):=hid ⟨HZ3.out.1,Dv HZ3.out.2 hb4.size⟩;clear hb4;rcases hcs with ⟨hc,hsl⟩ | ⟨hc,hsl⟩
  ·have hci:(Z.size:Int)<(S.size:Int):=by omega
   have HSL:=hid hsl;clear hc hsl;obtain ⟨c0,c1⟩:=HT4.out.at;obtain ⟨c2,c3⟩:=HF4.out.at;have g0:=HF4.out.frozen 0;have g1:=HF4.out.frozen 1;rw [HA1.out] at HSL;have hA2:=HAz1.out;have HNE:Hid (G≠F):=hid (by have:=HZ4.out;omega);have ha1:¬ (9223372036854775807<A1.size+N.size):=by omega
   have ha2:¬ (9223372036854775807<(A1++N).size+Z.size):=by rw [DH];omega
   have ha3:¬ (9223372036854775807<A1.size+N.size+Z.size):=by omega
   have HSZ:Hid ((A1++N++Z).size≤1000000):=hid (by rw [DH,DH];omega);clear hA2;go_wp2;go_region_held3 (fun w'=>w'.cell? ⟨G,0,none⟩=some (.int .i64 0)∧w'.cell? ⟨G,1,none⟩=some (.int .i64 (-1))) (first | exact ⟨c0,c1⟩ | exact k1 | exact k2 | fail) (first
    | (go_at_call 21;((refine (rb _ T _ HSZ.out HSL.out).mono ?_);rintro r w5 ⟨rfl,hb5⟩;have HB5:Hid (Below w4.heap.size w4 w5):=hid (kY hb5);have HT5:=hid (HT4.out.below HB5.out HZ4.out.2);have k1:=HT5.out.at;have k2:=(HT5.out.away HNE.out (.int .i64 0) (.int .i64 (-1))).at;have HF5:=hid (HF4.out.below HB5.out (by have:=HZ4.out;omega));obtain ⟨c4,c5⟩:=HF5.out.at;have g4:=HF5.out.frozen 0;have g5:=HF5.out.frozen 1;clear hb5))
    | fail)
   have HF6:Hid (rowF ((w5.setCell ⟨F,0,none⟩ (.int .i64 0)).setCell ⟨F,1,none⟩ (.int .i64 (-1))) F 0 (-1)):=hid (HF5.out.put 0 (-1));have HW6:Hid (Below w.heap.size w ((w5.setCell ⟨F,0,none⟩ (.int .i64 0)).setCell ⟨F,1,none⟩ (.int .i64 (-1)))):=hid (eR (HW4.out.trans (HB5.out.mono HW4.out.size)) HBW.out _ _);generalize (w5.setCell ⟨F,0,none⟩ (.int .i64 0)).setCell ⟨F,1,none⟩ (.int .i64 (-1))=w6 at HF6 HW6 ⊢;clear c0 c1 c2 c3 c4 c5 g0 g1 g4 g5 k1 k2;obtain ⟨c0,c1⟩:=HF6.out.at;go_wp2;refine Dc (v:=.tuple #[.string T,.agg #[.int .i64 0,.int .i64 (-1)]]) (by simp [results,Tryz.results7,go_sem,c0,c1]) rfl ?_;exact ⟨rfl,HW6.out⟩
  ·have hci:(S.size:Int)≤(Z.size:Int):=by omega
   have HSL:=hid hsl;clear hc hsl;obtain ⟨c0,c1⟩:=HT4.out.at;obtain ⟨c2,c3⟩:=HF4.out.at;have g0:=HF4.out.frozen 0;have g1:=HF4.out.frozen 1;rw [HA0.out] at HSL;have hA2:=HAz0.out;have HNE:Hid (G≠F):=hid (by have:=HZ4.out;omega);have ha1:¬ (9223372036854775807<A0.size+N.size):=by omega
   have ha2:¬ (9223372036854775807<(A0++N).size+S.size):=by rw [DH];omega
   have ha3:¬ (9223372036854775807<A0.size+N.size+S.size):=by omega
   have HSZ:Hid ((A0++N++S).size≤1000000):=hid (by rw [DH,DH];omega);clear hA2;go_wp2;go_region_held3 (fun w'=>w'.cell? ⟨G,0,none⟩=some (.int .i64 0)∧w'.cell? ⟨G,1,none⟩=some (.int .i64 (-1))) (first | exact ⟨c0,c1⟩ | exact k1 | exact k2 | fail) (first
    | (go_at_call 21;((refine (rb _ T _ HSZ.out HSL.out).mono ?_);rintro r w5 ⟨rfl,hb5⟩;have HB5:Hid (Below w4.heap.size w4 w5):=hid (kY hb5);have HT5:=hid (HT4.out.below HB5.out HZ4.out.2);have k1:=HT5.out.at;have k2:=(HT5.out.away HNE.out (.int .i64 0) (.int .i64 (-1))).at;have HF5:=hid (HF4.out.below HB5.out (by have:=HZ4.out;omega));obtain ⟨c4,c5⟩:=HF5.out.at;have g4:=HF5.out.frozen 0;have g5:=HF5.out.frozen 1;clear hb5))
    | fail)
   have HF6:Hid (rowF ((w5.setCell ⟨F,0,none⟩ (.int .i64 0)).setCell ⟨F,1,none⟩ (.int .i64 (-1))) F 0 (-1)):=hid (HF5.out.put 0 (-1));have HW6:Hid (Below w.heap.size w ((w5.setCell ⟨F,0,none⟩ (.int .i64 0)).setCell ⟨F,1,none⟩ (.int .i64 (-1)))):=hid (eR (HW4.out.trans (HB5.out.mono HW4.out.size)) HBW.out _ _);generalize (w5.setCell ⟨F,0,none⟩ (.int .i64 0)).setCell ⟨F,1,none⟩ (.int .i64 (-1))=w6 at HF6 HW6 ⊢;clear c0 c1 c2 c3 c4 c5 g0 g1 g4 g5 k1 k2;obtain ⟨c0,c1⟩:=HF6.out.at;go_wp2;refine Dc (v:=.tuple #[.string T,.agg #[.int .i64 0,.int .i64 (-1)]]) (by simp [results,Tryz.results7,go_sem,c0,c1]) rfl ?_;exact ⟨rfl,HW6.out⟩
 ·have hz:((x:Int) == 0)=false:=by simp;omega
  rw [pv hbf hx0] at hb;injection hb with hT hb
  injection hb with h1 h2
  subst h1 h2;have hTe:T=⟨#[]⟩:=by rw [←bF T,←hT]
  subst hTe;clear hbf;go_wp2;go_region
  have HF3:Hid (rowF ((w2.setCell ⟨F,0,none⟩ (.int .i64 (x:Int))).setCell ⟨F,1,none⟩ (.int .i64 q)).drew F x q):=hid (HF2.out.put x q);have HW3:Hid (Below w.heap.size w ((w2.setCell ⟨F,0,none⟩ (.int .i64 (x:Int))).setCell ⟨F,1,none⟩ (.int .i64 q)).drew):=hid (eR HW2.out HBW.out _ _).drew;generalize ((w2.setCell ⟨F,0,none⟩ (.int .i64 (x:Int))).setCell ⟨F,1,none⟩ (.int .i64 q)).drew=w3 at HF3 HW3 ⊢;clear c0 c1 c2 c3 g0 g1;obtain ⟨c0,c1⟩:=HF3.out.at;go_wp2;refine Dc (v:=.tuple #[.string ⟨#[]⟩,.agg #[.int .i64 (x:Int),.int .i64 q]]) (by simp [results,Tryz.results7,go_sem,c0,c1]) rfl ?_;exact ⟨rfl,HW3.out⟩
end
