import Derived.Test.YtagoidpkbloflaaGreatDoorKlq
import Derived.Test.YtagoidpkbloflaaGreatDoorKl42
namespace Go.Proofs.YtagoidpkbloflaaGreatDoor
open Lib (hid)
set_option maxRecDepth 100000
set_option maxHeartbeats 8000000
section
open Go.RowKit
def ti (s:List UInt8) (x:Nat) (pl:Int) (f h:List Ent) (l:List Wr):Prop :=
 (unbF s=.inl (x,pl)∧f=[]∧h=[]∧l=[])∨(unbF s=.inr (f,h,l)∧x=0∧pl=-1)
theorem tI (w:World):aR w (.slice none 0 0) (.slice none 0 0) (.slice none 0 0) [] [] [] :=
 ⟨(cm w 0).is,(cm w 0).is,(dU w 0).is,by simp,by simp,by simp,fun t ht=>by cases ht⟩
theorem kn (s:ByteArray) (w:World) (hs:s.size≤maxLen):Calls Tryz.prog 31 #[.string s] w (gH w s.data.toList):=by
 by_cases hbig:20000<s.size
 ·exact Am s w hs hbig
 ·exact An s w (by omega)
theorem re (s:ByteArray) (x:Nat) (pl:Int) (f h:List Ent) (l:List Wr) (w:World) (hs:s.size≤maxLen) (hr:ti s.data.toList x pl f h l) :
 Calls Tryz.prog 31 #[.string s] w fun r w'=>∃ a1 c1 a2 c2 a3 c3,r=.returned (.tuple #[.agg #[.slice a1 f.length c1,.slice a2 h.length c2,.slice a3 l.length c3],.agg #[.int .i64 (x:Int),.int .i64 pl]])∧aR w' (.slice a1 f.length c1) (.slice a2 h.length c2) (.slice a3 l.length c3) f h l∧Below w.heap.size w w':=by
 refine (kn s w hs).mono ?_;rintro r w' ⟨hb,⟨x',pl',hx,rfl⟩ | ⟨f',h',l',vf,vh,vw,hx,rfl,ho⟩⟩
 ·rcases hr with ⟨hu,rfl,rfl,rfl⟩ | ⟨hu,_,_⟩
  ·rw [hu] at hx;injection hx with hx
   injection hx with h1 h2
   subst h1 h2;exact ⟨none,0,none,0,none,0,rfl,tI w',hb⟩
  ·rw [hu] at hx;cases hx
 ·rcases hr with ⟨hu,_⟩ | ⟨hu,rfl,rfl⟩
  ·rw [hu] at hx;cases hx
  ·rw [hu] at hx;injection hx with hx
   injection hx with h1 h2
   injection h2 with h2 h3
   subst h1 h2 h3;obtain ⟨a1,c1,rfl,_⟩:=ho.1.is.form;obtain ⟨a2,c2,rfl,_⟩:=ho.2.1.is.form;obtain ⟨a3,c3,rfl,_⟩:=ho.2.2.1.is.form;exact ⟨a1,c1,a2,c2,a3,c3,rfl,ho.bat,hb⟩
end
section
open Go.RowKit
def fm (w:World) (s:List UInt8) (e:Ending) (w':World):Prop :=
 Below w.heap.size w w'∧((∃ x pl,oldF s=.inl (x,pl)∧e=.returned (.tuple #[.agg #[.slice none 0 0,.slice none 0 0,.slice none 0 0],.agg #[.int .i64 (x:Nat),.int .i64 pl]])) ∨
  ∃ f h l vf vh vw,oldF s=.inr (f,h,l)∧e=.returned (.tuple #[.agg #[vf,vh,vw],.agg #[.int .i64 0,.int .i64 (-1)]])∧aJ w' w.heap.size vf vh vw f h l)
theorem yt (F O:Nat) (pl:Int) (u:FrameMode) (w:World) (c0:w.cell? ⟨F,0,none⟩=some (.int .i64 0)) (c1:w.cell? ⟨F,1,none⟩=some (.int .i64 pl)) :
 CallsD Tryz.prog 33 #[.pointer (some ⟨F,0,none⟩),.pointer (some ⟨O,0,none⟩)] u w fun r u' w'=>u'=u∧(r=.returned (.tuple #[])∧Below w.heap.size w w'):=by
 go_enter_d Tryz.func33,Tryz.ntmps33
 go_wp2_with fail
 refine (aH 0 pl _).mono ?_;rintro r w1 ⟨rfl,hb1⟩;have HB1:=hid hb1;clear hb1;go_wp2
 go_end0
 exact ⟨rfl,HB1.out⟩
theorem ys (F O:Nat) (e pl:Int) (vf vh vw:Value) (u:FrameMode) (w:World) (he:(e == 0)=false) (hf:rowF w F e pl) (hF:F<w.heap.size) (hO:O<w.heap.size) (hrow:w.heap[O]? = some (.cells #[vf,vh,vw] 25 (0,0))) (hne:O≠F) :
 CallsD Tryz.prog 33 #[.pointer (some ⟨F,0,none⟩),.pointer (some ⟨O,0,none⟩)] u w fun r u' w'=>u'=u∧(r=.returned (.tuple #[])∧∃ w1,Below w.heap.size w w1∧w'=((w1.setRow O #[.slice none 0 0,.slice none 0 0,.slice none 0 0]).setCell ⟨F,0,none⟩ (.int .i64 e)).setCell ⟨F,1,none⟩ (.int .i64 (-1))):=by
 obtain ⟨c0,c1⟩:=hf.at;have HF:=hid hf;clear hf
 go_enter_d Tryz.func33,Tryz.ntmps33
 go_wp2_with fail
 refine (aH e pl _).mono ?_;rintro r w1 ⟨rfl,hb1⟩;rw [he];have HF1:=hid (HF.out.below hb1 hF);have HROW1:=hid ((hb1.block O hO).trans hrow);have HB1:=hid hb1;clear hb1 hrow c0 c1;obtain ⟨c0,c1⟩:=HF1.out.at;go_wp2_with fail
 refine (bO e _).mono ?_;rintro r w2 ⟨rfl,hb2⟩;have HROW:=hid ((hb2.block O (Dv hO HB1.out.size)).trans HROW1.out);have HF2:=hid (HF1.out.below hb2 (Dv hF HB1.out.size));have HB2:=hid (HB1.out.trans (hb2.mono HB1.out.size));have HI:=hid (fY (.slice none 0 0) (.slice none 0 0) (.slice none 0 0));have HONE:=hid (fX none none none 0 0 0 0 0 0);have HSAME:=hid (gM vf vh vw (.slice none 0 0) (.slice none 0 0) (.slice none 0 0));have HF3:Hid (rowF (w2.setRow O #[.slice none 0 0,.slice none 0 0,.slice none 0 0]) F e pl):=hid (fN HF2.out hne);clear hb2 c0 c1;go_wp2_with (with_reducible refine DO rfl _ _ _ rfl _ _ rfl rfl _ _ HROW.out HI.out HSAME.out HONE.out ?_;obtain ⟨c4,c5⟩:=HF3.out.at;have z4:=HF3.out.frozen 0;have z5:=HF3.out.frozen 1)
 go_end0
 exact ⟨rfl,w2,HB2.out,rfl⟩
def jS (w:World):List Deferred :=
 [{ target:=.fn (Fn.func 34) #[],args:=#[.pointer (some ⟨w.heap.size+1,0,none⟩)] },
  { target:=.fn (Fn.func 33) #[.pointer (some ⟨w.heap.size+1,0,none⟩),.pointer (some ⟨w.heap.size,0,none⟩)],args:=#[] }]
theorem cM {w W:World} {vf vh vw:Value} {s:List UInt8} (e:Nat) (pl:Int) (h:UD w W vf vh vw 0 (-1)) (he:e≠0) (hrd:oldF s=.inl (e,-1)) (tmps:Array Value)
 (t2:tmps[2]? = some (.pointer (some ⟨w.heap.size,0,none⟩))) (t3:tmps[3]? = some (.pointer (some ⟨w.heap.size+1,0,none⟩))) :
 Leaves Tryz.prog Tryz.f14 tmps (fm w s) (jS w) (.panicking [{ v:=.iface 119 (.agg #[.int .i64 (e:Int),.int .i64 pl]),recovered:=false }]) W:=by
 obtain ⟨_,⟨c0,c1⟩,_,z0,z1⟩:=h.cells;have hz:=h.2.2.2;have hbe:((e:Int) == 0)=false:=by simp;omega
 obtain ⟨W2,hW2⟩:∃ W2,(W.setCell ⟨w.heap.size+1,0,none⟩ (.int .i64 (e:Int))).setCell ⟨w.heap.size+1,1,none⟩ (.int .i64 pl)=W2:=⟨_,rfl⟩;have h2:UD w W2 vf vh vw e pl:=by rw [←hW2];exact h.fault e pl
 obtain ⟨W3,hW3⟩:∃ W3,W2.alloc (.cells #[.int .i64 (e:Int),.int .i64 pl] 119)=W3:=⟨_,rfl⟩;have h3:UD w W3 vf vh vw e pl:=by rw [←hW3];exact h2.kept (E5 W2 _ none) (fun k hk=>by cases hk)
 have hz3:=h3.2.2.2;unfold jS;refine DW (f:=34) (args:=#[.pointer (some ⟨w.heap.size+1,0,none⟩)]) (by simp) (by simp [go_sem]) ?_;refine (jq (w.heap.size+1) e pl 0 (-1) [] W (by omega) c0 c1 z0 z1).mono ?_;rintro r u' w2 ⟨rfl,rfl,rfl⟩;rw [hW2,hW3];refine DW (f:=33) (args:=#[.pointer (some ⟨w.heap.size+1,0,none⟩),.pointer (some ⟨w.heap.size,0,none⟩)]) (by simp [settle]) (by simp [go_sem]) ?_;refine (ys (w.heap.size+1) w.heap.size e pl vf vh vw _ _ hbe h3.2.1 (by omega) (by omega) h3.1 (by omega)).mono ?_;rintro r u' w4 ⟨rfl,rfl,w5,hb5,rfl⟩;have h6:=((h3.kept (ag hb5) (fun k hk=>by cases hk)).row (uf:=.slice none 0 0) (uh:=.slice none 0 0) (uw:=.slice none 0 0)).fault e (-1);obtain ⟨⟨q0,q1,q2⟩,⟨v2,v3⟩,_⟩:=h6.cells;exact ⟨.tuple #[.agg #[.slice none 0 0,.slice none 0 0,.slice none 0 0],.agg #[.int .i64 (e:Int),.int .i64 (-1)]],by simp [results,Tryz.results14,go_sem,t2,t3,q0,q1,q2,v2,v3],h6.2.2.1,.inl ⟨e,-1,hrd,rfl⟩⟩
theorem xN {w W:World} {vf vh vw:Value} {f h:List Ent} {l:List Wr} {s:List UInt8} (hd:UD w W vf vh vw 0 (-1)) (ho:aJ W (w.heap.size+2) vf vh vw f h l) (hrd:oldF s=.inr (f,h,l)) (tmps:Array Value)
 (t2:tmps[2]? = some (.pointer (some ⟨w.heap.size,0,none⟩))) (t3:tmps[3]? = some (.pointer (some ⟨w.heap.size+1,0,none⟩))) :
 Leaves Tryz.prog Tryz.f14 tmps (fm w s) (jS w) .returning W:=by
 obtain ⟨_,⟨c0,c1⟩,_⟩:=hd.cells;unfold jS;refine DW (f:=34) (args:=#[.pointer (some ⟨w.heap.size+1,0,none⟩)]) (by simp) (by simp [go_sem]) ?_;refine (jp _ W).mono ?_;rintro r u' w2 ⟨rfl,rfl,rfl⟩;refine DW (f:=33) (args:=#[.pointer (some ⟨w.heap.size+1,0,none⟩),.pointer (some ⟨w.heap.size,0,none⟩)]) (by simp [settle]) (by simp [go_sem]) ?_;refine (yt (w.heap.size+1) w.heap.size (-1) _ _ c0 c1).mono ?_;rintro r u' w3 ⟨rfl,rfl,hb3⟩;have h3:=hd.kept (ag hb3) (fun k hk=>by cases hk);obtain ⟨⟨q0,q1,q2⟩,⟨v2,v3⟩,_⟩:=h3.cells;exact ⟨.tuple #[.agg #[vf,vh,vw],.agg #[.int .i64 0,.int .i64 (-1)]],by simp [results,Tryz.results14,go_sem,t2,t3,q0,q1,q2,v2,v3],h3.2.2.1,.inr ⟨f,h,l,vf,vh,vw,hrd,rfl,(ho.keep (ag hb3) (fun k hk=>by cases hk)).mono (by omega)⟩⟩
theorem im (w:World):UD w ((w.alloc (.cells #[.slice none 0 0,.slice none 0 0,.slice none 0 0] 25)).alloc (.cells #[.int .i64 0,.int .i64 0] 28)) (.slice none 0 0) (.slice none 0 0) (.slice none 0 0) 0 0:=by
 refine ⟨?_,Em w _ _,((Below.refl _ _).alloc (Db _) _).alloc (by simp) _,by simp⟩;rw [Below.heap_alloc _ _ _ (by simp)];exact Dg w _
theorem A3 (s J:ByteArray) (v e:Nat) (w:World) (hs:s.size≤400000) (ho:opnF s.data.toList=(v,J.data.toList,e)) (he:e≠0) :
 Calls Tryz.prog 14 #[.string s] w (fm w s.data.toList):=by
 have HRES:=hid (mC ho he);have HO:=hid ho;have HW:=hid (im w);have hne:((e:Int) != 0)=true:=by simp;omega
 have hs2:s.size≤1000000:=by omega
 clear ho
 go_enter_defers Tryz.func14,Tryz.ntmps14
 go_wp2_with fail
 generalize (w.alloc (.cells #[.slice none 0 0,.slice none 0 0,.slice none 0 0] 25)).alloc (.cells #[.int .i64 0,.int .i64 0] 28)=W at HW ⊢;refine (cJ s J v e W hs2 HO.out).mono ?_;rintro r w0 ⟨rfl,hb0⟩;have HN:=hid (UD.kept HW.out (ag hb0) (fun k hk=>by cases hk));clear hb0;obtain ⟨⟨c0,c1,c2⟩,⟨x0,x1⟩,⟨z0,z1,z2⟩,z3,z4⟩:=HN.out.cells;go_wp2;refine E6 ?_
 go_region_law (first | (go_simp;go_at_call 12;(refine (bO (e:Int) _).mono ?_;rintro r w1 ⟨rfl,hb1⟩;have HB1:=hid (UD.kept HN.out (ag (bQ hb1)) (fun k hk=>by cases hk));clear hb1;obtain ⟨⟨c0,c1,c2⟩,⟨x0,x1⟩,⟨z0,z1,z2⟩,z3,z4⟩:=HB1.out.cells)))
 all_goals
  refine DT ?_;have HB2:=hid ((((HB1.out.put (o:=0) (v:=.slice none 0 0) rfl).put (o:=1) (v:=.slice none 0 0) rfl).put (o:=2) (v:=.slice none 0 0) rfl).fault e (-1));go_wp2;generalize ((((w1.setCell ⟨w.heap.size,0,none⟩ (.slice none 0 0)).setCell ⟨w.heap.size,1,none⟩ (.slice none 0 0)).setCell ⟨w.heap.size,2,none⟩ (.slice none 0 0)).setCell ⟨w.heap.size+1,0,none⟩ (.int .i64 (e:Int))).setCell ⟨w.heap.size+1,1,none⟩ (.int .i64 (-1))=WZ at HB2 ⊢;obtain ⟨⟨q0,q1,q2⟩,⟨v2,v3⟩,_⟩:=HB2.out.cells;exact ⟨.tuple #[.agg #[.slice none 0 0,.slice none 0 0,.slice none 0 0],.agg #[.int .i64 (e:Int),.int .i64 (-1)]],by simp [results,Tryz.results14,go_sem,q0,q1,q2,v2,v3],HB2.out.2.2.1,.inl ⟨e,-1,HRES.out,rfl⟩⟩
theorem A5 (s J:ByteArray) (w:World) (hs:s.size≤400000) (ho:opnF s.data.toList=(3,J.data.toList,0)) :
 Calls Tryz.prog 14 #[.string s] w (fm w s.data.toList):=by
 have HRES:=hid (mD ho);have HO:=hid ho;have HW:=hid (im w);have hs2:s.size≤1000000:=by omega
 clear ho
 go_enter_defers Tryz.func14,Tryz.ntmps14
 go_wp2_with fail
 generalize (w.alloc (.cells #[.slice none 0 0,.slice none 0 0,.slice none 0 0] 25)).alloc (.cells #[.int .i64 0,.int .i64 0] 28)=W at HW ⊢;refine (cJ s J 3 0 W hs2 HO.out).mono ?_;rintro r w0 ⟨rfl,hb0⟩;have HN:=hid (UD.kept HW.out (ag hb0) (fun k hk=>by cases hk));clear hb0;obtain ⟨⟨c0,c1,c2⟩,⟨x0,x1⟩,⟨z0,z1,z2⟩,z3,z4⟩:=HN.out.cells;go_wp2;refine E6 ?_
 go_region_law (first | (go_simp;go_at_call 12;(refine (bO 6 _).mono ?_;rintro r w1 ⟨rfl,hb1⟩;have HB1:=hid (UD.kept HN.out (ag (bQ hb1)) (fun k hk=>by cases hk));clear hb1;obtain ⟨⟨c0,c1,c2⟩,⟨x0,x1⟩,⟨z0,z1,z2⟩,z3,z4⟩:=HB1.out.cells)))
 all_goals
  refine DT ?_;have HB2:=hid ((((HB1.out.put (o:=0) (v:=.slice none 0 0) rfl).put (o:=1) (v:=.slice none 0 0) rfl).put (o:=2) (v:=.slice none 0 0) rfl).fault 6 (-1));go_wp2;generalize ((((w1.setCell ⟨w.heap.size,0,none⟩ (.slice none 0 0)).setCell ⟨w.heap.size,1,none⟩ (.slice none 0 0)).setCell ⟨w.heap.size,2,none⟩ (.slice none 0 0)).setCell ⟨w.heap.size+1,0,none⟩ (.int .i64 6)).setCell ⟨w.heap.size+1,1,none⟩ (.int .i64 (-1))=WZ at HB2 ⊢;obtain ⟨⟨q0,q1,q2⟩,⟨v2,v3⟩,_⟩:=HB2.out.cells;exact ⟨.tuple #[.agg #[.slice none 0 0,.slice none 0 0,.slice none 0 0],.agg #[.int .i64 6,.int .i64 (-1)]],by simp [results,Tryz.results14,go_sem,q0,q1,q2,v2,v3],HB2.out.2.2.1,.inl ⟨6,-1,HRES.out,rfl⟩⟩
theorem qr {s J:ByteArray} {v:Nat} (hs:s.size≤400000) (ho:opnF s.data.toList=(v,J.data.toList,0)):∃ O:ByteArray,aF s.data.toList=(O.data.toList,0)∧O.extract 3 O.size=J∧4≤O.size∧O.size≤400000∧J.size≤400000:=by
 obtain ⟨o,hol,hio,ho4⟩:=qw ho;obtain ⟨O,hO⟩:∃ O:ByteArray,o=O.data.toList:=⟨⟨o.toArray⟩,by simp⟩;subst hO;have h1:=jU hol;rw [←ac,←ac] at h1;rw [←ac] at ho4;have he:O.extract 3 O.size=J:=by
  apply bY
  rw [dP,DL (by rw [Dj,←ac];omega),hio]
 refine ⟨O,hol,he,ho4,by omega,?_⟩;rw [←he];simp;omega
theorem A6 (s J:ByteArray) (w:World) (hs:s.size≤400000) (ho:opnF s.data.toList=(2,J.data.toList,0)) :
 Calls Tryz.prog 14 #[.string s] w (fm w s.data.toList):=by
 have HRES:=hid (jT ho);obtain ⟨O,hol,hoj,ho4,ho5,hj⟩:=qr hs ho;have HOL:=hid hol;have HOJ:=hid hoj;have HO:=hid ho;have HW:=hid (im w);have hs2:s.size≤1000000:=by omega
 have ho3:3≤(O.size:Int):=by omega
 have HJM:Hid (J.size≤maxLen):=hid (by unfold maxLen;omega);clear ho hol hoj
 go_enter_defers Tryz.func14,Tryz.ntmps14
 go_wp2_with fail
 generalize (w.alloc (.cells #[.slice none 0 0,.slice none 0 0,.slice none 0 0] 25)).alloc (.cells #[.int .i64 0,.int .i64 0] 28)=W at HW ⊢;refine (cJ s J 2 0 W hs2 HO.out).mono ?_;rintro r w0 ⟨rfl,hb0⟩;have HN:=hid (UD.kept HW.out (ag hb0) (fun k hk=>by cases hk));clear hb0;go_wp2_with fail
 refine (eB s O w0 hs2 HOL.out).mono ?_;rintro r w1 ⟨rfl,hb1⟩;have HN1:=hid (UD.kept HN.out (ag hb1) (fun k hk=>by cases hk));clear hb1;go_wp2_with fail
 rw [HOJ.out];refine (kn J w1 HJM.out).mono ?_;rintro r w2 ⟨hb2,hcs⟩;have HN2:=hid (UD.kept HN1.out (ag hb2) (fun k hk=>by cases hk));obtain ⟨⟨c0,c1,c2⟩,⟨x0,x1⟩,⟨z0,z1,z2⟩,z3,z4⟩:=HN2.out.cells;rcases hcs with ⟨x,pl,hu,rfl⟩ | ⟨f,h,l,vf,vh,vw,hu,rfl,hbo⟩
 ·have HR:Hid (oldF s.data.toList=.inl (x,pl)):=hid (by rw [HRES.out,hu]);have HB2:=hid ((((HN2.out.put (o:=0) (v:=.slice none 0 0) rfl).put (o:=1) (v:=.slice none 0 0) rfl).put (o:=2) (v:=.slice none 0 0) rfl).fault x pl);clear hu hb2;go_wp2;generalize ((((w2.setCell ⟨w.heap.size,0,none⟩ (.slice none 0 0)).setCell ⟨w.heap.size,1,none⟩ (.slice none 0 0)).setCell ⟨w.heap.size,2,none⟩ (.slice none 0 0)).setCell ⟨w.heap.size+1,0,none⟩ (.int .i64 (x:Int))).setCell ⟨w.heap.size+1,1,none⟩ (.int .i64 pl)=WZ at HB2 ⊢;obtain ⟨⟨q0,q1,q2⟩,⟨v2,v3⟩,_⟩:=HB2.out.cells;exact ⟨.tuple #[.agg #[.slice none 0 0,.slice none 0 0,.slice none 0 0],.agg #[.int .i64 (x:Int),.int .i64 pl]],by simp [results,Tryz.results14,go_sem,q0,q1,q2,v2,v3],HB2.out.2.2.1,.inl ⟨x,pl,HR.out,rfl⟩⟩
 ·have HR:Hid (oldF s.data.toList=.inr (f,h,l)):=hid (by rw [HRES.out,hu]);have hz:=HN1.out.2.2.2;have hbo:=hbo.mono hz;obtain ⟨af,cf,rfl,_⟩:=hbo.1.is.form;obtain ⟨ah,ch,rfl,_⟩:=hbo.2.1.is.form;obtain ⟨aw,cw,rfl,_⟩:=hbo.2.2.1.is.form;have HB2:=hid ((((HN2.out.put (o:=0) (v:=.slice af f.length cf) rfl).put (o:=1) (v:=.slice ah h.length ch) rfl).put (o:=2) (v:=.slice aw l.length cw) rfl).fault 0 (-1));have HBO:=hid (((((hbo.cell (k:=w.heap.size) (by omega) 0 (.slice af f.length cf)).cell (k:=w.heap.size) (by omega) 1 (.slice ah h.length ch)).cell (k:=w.heap.size) (by omega) 2 (.slice aw l.length cw)).cell (k:=w.heap.size+1) (by omega) 0 (.int .i64 0)).cell (k:=w.heap.size+1) (by omega) 1 (.int .i64 (-1)));clear hu hb2 hbo hz;go_wp2;generalize ((((w2.setCell ⟨w.heap.size,0,none⟩ (.slice af f.length cf)).setCell ⟨w.heap.size,1,none⟩ (.slice ah h.length ch)).setCell ⟨w.heap.size,2,none⟩ (.slice aw l.length cw)).setCell ⟨w.heap.size+1,0,none⟩ (.int .i64 0)).setCell ⟨w.heap.size+1,1,none⟩ (.int .i64 (-1))=WZ at HB2 HBO ⊢;obtain ⟨⟨q0,q1,q2⟩,⟨v2,v3⟩,_⟩:=HB2.out.cells;exact ⟨.tuple #[.agg #[.slice af f.length cf,.slice ah h.length ch,.slice aw l.length cw],.agg #[.int .i64 0,.int .i64 (-1)]],by simp [results,Tryz.results14,go_sem,q0,q1,q2,v2,v3],HB2.out.2.2.1,.inr ⟨f,h,l,_,_,_,HR.out,rfl,HBO.out.mono (by omega)⟩⟩
end
