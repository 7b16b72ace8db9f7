import Derived.Test.YtagoidpkbloflaaGreatDoorKlq
import Derived.Test.YtagoidpkbloflaaGreatDoorKl46
import Derived.Test.YtagoidpkbloflaaGreatDoorKl45
namespace Go.Proofs.YtagoidpkbloflaaGreatDoor
open Lib (hid)
set_option maxRecDepth 100000
set_option maxHeartbeats 8000000
section
open Go.RowKit
def OOut (r:(Nat×Int) ⊕ (List Ent×List Ent×List Wr)) (x:Nat) (pl:Int) (f h:List Ent) (l:List Wr):Prop :=
 (r=.inl (x,pl)∧f=[]∧h=[]∧l=[])∨(r=.inr (f,h,l)∧x=0∧pl=-1)
theorem xM (r:(Nat×Int) ⊕ (List Ent×List Ent×List Wr)):∃ x pl f h l,OOut r x pl f h l:=by
 match r with
 | .inl (x,pl)=>exact ⟨x,pl,[],[],[],.inl ⟨rfl,rfl,rfl,rfl⟩⟩
 | .inr (f,h,l)=>exact ⟨0,-1,f,h,l,.inr ⟨rfl,rfl,rfl⟩⟩
theorem oNil (w:World) (B:Nat):aJ w B (.slice none 0 0) (.slice none 0 0) (.slice none 0 0) [] [] [] :=
 ⟨cm w B,cm w B,dU w B,by simp,by simp,by simp,fun t ht=>by cases ht⟩
def lx (r:(Nat×Int) ⊕ (List Ent×List Ent×List Wr)) (w:World) (e:Ending) (w':World):Prop :=
 ∀ x pl f h l,OOut r x pl f h l→∃ a1 c1 a2 c2 a3 c3,e=.returned (.tuple #[.agg #[.slice a1 f.length c1,.slice a2 h.length c2,.slice a3 l.length c3],.agg #[.int .i64 (x:Int),.int .i64 pl]])∧aJ w' w.heap.size (.slice a1 f.length c1) (.slice a2 h.length c2) (.slice a3 l.length c3) f h l∧Below w.heap.size w w'
theorem mP {r:(Nat×Int) ⊕ (List Ent×List Ent×List Wr)} {w w':World} {x:Nat} {pl:Int} (hr:r=.inl (x,pl)) (hb:Below w.heap.size w w'):lx r w (.returned (.tuple #[.agg #[.slice none 0 0,.slice none 0 0,.slice none 0 0],.agg #[.int .i64 (x:Int),.int .i64 pl]])) w':=by
 intro x' pl' f h l ho;rcases ho with ⟨hu,rfl,rfl,rfl⟩ | ⟨hu,_,_⟩
 ·rw [hr] at hu;injection hu with hu
  injection hu with h1 h2
  subst h1 h2;exact ⟨none,0,none,0,none,0,rfl,oNil w' _,hb⟩
 ·rw [hr] at hu;cases hu
theorem qR {r:(Nat×Int) ⊕ (List Ent×List Ent×List Wr)} {w w':World} {f h:List Ent} {l:List Wr} {vf vh vw:Value} (hr:r=.inr (f,h,l)) (ho:aJ w' w.heap.size vf vh vw f h l) (hb:Below w.heap.size w w'):lx r w (.returned (.tuple #[.agg #[vf,vh,vw],.agg #[.int .i64 0,.int .i64 (-1)]])) w':=by
 intro x' pl' f' h' l' hq;rcases hq with ⟨hu,_⟩ | ⟨hu,rfl,rfl⟩
 ·rw [hr] at hu;cases hu
 ·rw [hr] at hu;injection hu with hu
  injection hu with h1 h2
  injection h2 with h2 h3
  subst h1 h2 h3;obtain ⟨a1,c1,rfl,_⟩:=ho.1.is.form;obtain ⟨a2,c2,rfl,_⟩:=ho.2.1.is.form;obtain ⟨a3,c3,rfl,_⟩:=ho.2.2.1.is.form;exact ⟨a1,c1,a2,c2,a3,c3,rfl,ho,hb⟩
theorem zt {r:(Nat×Int) ⊕ (List Ent×List Ent×List Wr)} {w w':World} {e:Ending} {x:Nat} {pl:Int} {f h:List Ent} {l:List Wr} (hr:RdIs r w e w') (ho:OOut r x pl f h l) :
 ∃ a1 c1 a2 c2 a3 c3 err,e=.returned (.tuple #[.agg #[.slice a1 f.length c1,.slice a2 h.length c2,.slice a3 l.length c3],err])∧aR w' (.slice a1 f.length c1) (.slice a2 h.length c2) (.slice a3 l.length c3) f h l∧az w' err (x,pl)∧Below w.heap.size w w':=by
 obtain ⟨hb,⟨x',pl',err,hx,_,rfl,ha⟩ | ⟨f',h',l',a1,c1,a2,c2,a3,c3,hx,rfl,hq⟩⟩:=hr
 ·rcases ho with ⟨hu,rfl,rfl,rfl⟩ | ⟨hu,_,_⟩
  ·rw [hu] at hx;injection hx with hx
   injection hx with h1 h2
   subst h1 h2;exact ⟨none,0,none,0,none,0,err,rfl,(oNil w' 0).bat,ha,hb⟩
  ·rw [hu] at hx;cases hx
 ·rcases ho with ⟨hu,_⟩ | ⟨hu,rfl,rfl⟩
  ·rw [hu] at hx;cases hx
  ·rw [hu] at hx;injection hx with hx
   injection hx with h1 h2
   injection h2 with h2 h3
   subst h1 h2 h3;exact ⟨a1,c1,a2,c2,a3,c3,.nilIface,rfl,hq.bat,.inl (.inl ⟨rfl,rfl⟩),hb⟩
end
section
open Go.RowKit
theorem zh (s:ByteArray) (w:World) (hs:s.size≤400000):Calls Tryz.prog 4 #[.string s] w (lx (anyF s.data.toList) w):=by
 obtain ⟨v,i,e,ho⟩:∃ v i e,opnF s.data.toList=(v,i,e):=⟨_,_,_,rfl⟩;obtain ⟨J,hJ⟩:∃ J:ByteArray,i=J.data.toList:=⟨⟨i.toArray⟩,by simp⟩;subst hJ;have HO:=hid ho;have HW:=hid (im w);have hs2:s.size≤1000000:=by omega
 by_cases he:e=0
 rotate_left
 ·have HRES:=hid (lA ho he);have hne:((e:Int) != 0)=true:=by simp;omega
  clear ho;go_enter Tryz.func4,Tryz.ntmps4
  go_wp2_with fail
  generalize (w.alloc (.cells #[.slice none 0 0,.slice none 0 0,.slice none 0 0] 25)).alloc (.cells #[.int .i64 0,.int .i64 0] 28)=W at HW ⊢;refine (cJ s J v e W hs2 HO.out).mono ?_;rintro r w0 ⟨rfl,hb0⟩;have HN:=hid (UD.kept HW.out (ag hb0) (fun k hk=>by cases hk));clear hb0;go_wp2_with fail
  refine (bO (e:Int) _).mono ?_;rintro r w1 ⟨rfl,hb1⟩;have HN1:=hid (UD.kept HN.out (ag hb1) (fun k hk=>by cases hk));clear hb1;obtain ⟨⟨c0,c1,c2⟩,⟨x0,x1⟩,⟨z0,z1,z2⟩,z3,z4⟩:=HN1.out.cells;have HM:=hid ((((HN1.out.put (o:=0) (v:=.slice none 0 0) rfl).put (o:=1) (v:=.slice none 0 0) rfl).put (o:=2) (v:=.slice none 0 0) rfl).fault e (-1));go_wp2;generalize ((((w1.setCell ⟨w.heap.size,0,none⟩ (.slice none 0 0)).setCell ⟨w.heap.size,1,none⟩ (.slice none 0 0)).setCell ⟨w.heap.size,2,none⟩ (.slice none 0 0)).setCell ⟨w.heap.size+1,0,none⟩ (.int .i64 (e:Int))).setCell ⟨w.heap.size+1,1,none⟩ (.int .i64 (-1))=WZ at HM ⊢;obtain ⟨⟨q0,q1,q2⟩,⟨v2,v3⟩,_⟩:=HM.out.cells;refine Dc (v:=.tuple #[.agg #[.slice none 0 0,.slice none 0 0,.slice none 0 0],.agg #[.int .i64 (e:Int),.int .i64 (-1)]]) (by simp [results,Tryz.results4,go_sem,q0,q1,q2,v2,v3]) rfl ?_;exact mP HRES.out HM.out.2.2.1
 subst he;by_cases hv:v=3
 ·subst hv;have HRES:=hid (lB ho);clear ho;go_enter Tryz.func4,Tryz.ntmps4
  go_wp2_with fail
  generalize (w.alloc (.cells #[.slice none 0 0,.slice none 0 0,.slice none 0 0] 25)).alloc (.cells #[.int .i64 0,.int .i64 0] 28)=W at HW ⊢;refine (cJ s J 3 0 W hs2 HO.out).mono ?_;rintro r w0 ⟨rfl,hb0⟩;have HN:=hid (UD.kept HW.out (ag hb0) (fun k hk=>by cases hk));clear hb0;go_wp2_with fail
  refine (Ao s w0 hs).mono ?_;rintro r w2 ⟨hb2,hcs⟩;have HN2:=hid (UD.kept HN.out (ag hb2) (fun k hk=>by cases hk));obtain ⟨⟨c0,c1,c2⟩,⟨x0,x1⟩,⟨z0,z1,z2⟩,z3,z4⟩:=HN2.out.cells;rcases hcs with ⟨x,pl,hu,rfl⟩ | ⟨f,h,l,a1,k1,a2,k2,a3,k3,hu,rfl,hbo⟩
  ·have HR:Hid (anyF s.data.toList=.inl (x,pl)):=hid (by rw [HRES.out,hu]);have HB2:=hid ((((HN2.out.put (o:=0) (v:=.slice none 0 0) rfl).put (o:=1) (v:=.slice none 0 0) rfl).put (o:=2) (v:=.slice none 0 0) rfl).fault x pl);clear hu hb2;go_wp2;generalize ((((w2.setCell ⟨w.heap.size,0,none⟩ (.slice none 0 0)).setCell ⟨w.heap.size,1,none⟩ (.slice none 0 0)).setCell ⟨w.heap.size,2,none⟩ (.slice none 0 0)).setCell ⟨w.heap.size+1,0,none⟩ (.int .i64 (x:Int))).setCell ⟨w.heap.size+1,1,none⟩ (.int .i64 pl)=WZ at HB2 ⊢;obtain ⟨⟨q0,q1,q2⟩,⟨v2,v3⟩,_⟩:=HB2.out.cells;refine Dc (v:=.tuple #[.agg #[.slice none 0 0,.slice none 0 0,.slice none 0 0],.agg #[.int .i64 (x:Int),.int .i64 pl]]) (by simp [results,Tryz.results4,go_sem,q0,q1,q2,v2,v3]) rfl ?_;exact mP HR.out HB2.out.2.2.1
  ·have HR:Hid (anyF s.data.toList=.inr (f,h,l)):=hid (by rw [HRES.out,hu]);have hz:=HN.out.2.2.2;have hbo:=hbo.mono hz;have HB2:=hid ((((HN2.out.put (o:=0) (v:=.slice a1 f.length k1) rfl).put (o:=1) (v:=.slice a2 h.length k2) rfl).put (o:=2) (v:=.slice a3 l.length k3) rfl).fault 0 (-1));have HBO:=hid (((((hbo.cell (k:=w.heap.size) (by omega) 0 (.slice a1 f.length k1)).cell (k:=w.heap.size) (by omega) 1 (.slice a2 h.length k2)).cell (k:=w.heap.size) (by omega) 2 (.slice a3 l.length k3)).cell (k:=w.heap.size+1) (by omega) 0 (.int .i64 0)).cell (k:=w.heap.size+1) (by omega) 1 (.int .i64 (-1)));clear hu hb2 hbo hz;go_wp2;generalize ((((w2.setCell ⟨w.heap.size,0,none⟩ (.slice a1 f.length k1)).setCell ⟨w.heap.size,1,none⟩ (.slice a2 h.length k2)).setCell ⟨w.heap.size,2,none⟩ (.slice a3 l.length k3)).setCell ⟨w.heap.size+1,0,none⟩ (.int .i64 0)).setCell ⟨w.heap.size+1,1,none⟩ (.int .i64 (-1))=WZ at HB2 HBO ⊢;obtain ⟨⟨q0,q1,q2⟩,⟨v2,v3⟩,_⟩:=HB2.out.cells;refine Dc (v:=.tuple #[.agg #[.slice a1 f.length k1,.slice a2 h.length k2,.slice a3 l.length k3],.agg #[.int .i64 0,.int .i64 (-1)]]) (by simp [results,Tryz.results4,go_sem,q0,q1,q2,v2,v3]) rfl ?_;exact qR HR.out (HBO.out.mono (by omega)) HB2.out.2.2.1
 ·have HRES:=hid (lz ho hv);have hvi:((v:Int) == 3)=false:=by simp;omega
  clear ho;go_enter Tryz.func4,Tryz.ntmps4
  go_wp2_with fail
  generalize (w.alloc (.cells #[.slice none 0 0,.slice none 0 0,.slice none 0 0] 25)).alloc (.cells #[.int .i64 0,.int .i64 0] 28)=W at HW ⊢;refine (cJ s J v 0 W hs2 HO.out).mono ?_;rintro r w0 ⟨rfl,hb0⟩;have HN:=hid (UD.kept HW.out (ag hb0) (fun k hk=>by cases hk));clear hb0;go_wp2_with fail
  refine (zZ s w0 hs).mono ?_;rintro r w2 ⟨hb2,hcs⟩;have HN2:=hid (UD.kept HN.out (ag hb2) (fun k hk=>by cases hk));obtain ⟨⟨c0,c1,c2⟩,⟨x0,x1⟩,⟨z0,z1,z2⟩,z3,z4⟩:=HN2.out.cells;rcases hcs with ⟨x,pl,hu,rfl⟩ | ⟨f,h,l,vf,vh,vw,hu,rfl,hbo⟩
  ·have HR:Hid (anyF s.data.toList=.inl (x,pl)):=hid (by rw [HRES.out,hu]);have HB2:=hid ((((HN2.out.put (o:=0) (v:=.slice none 0 0) rfl).put (o:=1) (v:=.slice none 0 0) rfl).put (o:=2) (v:=.slice none 0 0) rfl).fault x pl);clear hu hb2;go_wp2;generalize ((((w2.setCell ⟨w.heap.size,0,none⟩ (.slice none 0 0)).setCell ⟨w.heap.size,1,none⟩ (.slice none 0 0)).setCell ⟨w.heap.size,2,none⟩ (.slice none 0 0)).setCell ⟨w.heap.size+1,0,none⟩ (.int .i64 (x:Int))).setCell ⟨w.heap.size+1,1,none⟩ (.int .i64 pl)=WZ at HB2 ⊢;obtain ⟨⟨q0,q1,q2⟩,⟨v2,v3⟩,_⟩:=HB2.out.cells;refine Dc (v:=.tuple #[.agg #[.slice none 0 0,.slice none 0 0,.slice none 0 0],.agg #[.int .i64 (x:Int),.int .i64 pl]]) (by simp [results,Tryz.results4,go_sem,q0,q1,q2,v2,v3]) rfl ?_;exact mP HR.out HB2.out.2.2.1
  ·have HR:Hid (anyF s.data.toList=.inr (f,h,l)):=hid (by rw [HRES.out,hu]);have hz:=HN.out.2.2.2;have hbo:=hbo.mono hz;obtain ⟨a1,k1,rfl,_⟩:=hbo.1.is.form;obtain ⟨a2,k2,rfl,_⟩:=hbo.2.1.is.form;obtain ⟨a3,k3,rfl,_⟩:=hbo.2.2.1.is.form;have HB2:=hid ((((HN2.out.put (o:=0) (v:=.slice a1 f.length k1) rfl).put (o:=1) (v:=.slice a2 h.length k2) rfl).put (o:=2) (v:=.slice a3 l.length k3) rfl).fault 0 (-1));have HBO:=hid (((((hbo.cell (k:=w.heap.size) (by omega) 0 (.slice a1 f.length k1)).cell (k:=w.heap.size) (by omega) 1 (.slice a2 h.length k2)).cell (k:=w.heap.size) (by omega) 2 (.slice a3 l.length k3)).cell (k:=w.heap.size+1) (by omega) 0 (.int .i64 0)).cell (k:=w.heap.size+1) (by omega) 1 (.int .i64 (-1)));clear hu hb2 hbo hz;go_wp2;generalize ((((w2.setCell ⟨w.heap.size,0,none⟩ (.slice a1 f.length k1)).setCell ⟨w.heap.size,1,none⟩ (.slice a2 h.length k2)).setCell ⟨w.heap.size,2,none⟩ (.slice a3 l.length k3)).setCell ⟨w.heap.size+1,0,none⟩ (.int .i64 0)).setCell ⟨w.heap.size+1,1,none⟩ (.int .i64 (-1))=WZ at HB2 HBO ⊢;obtain ⟨⟨q0,q1,q2⟩,⟨v2,v3⟩,_⟩:=HB2.out.cells;refine Dc (v:=.tuple #[.agg #[.slice a1 f.length k1,.slice a2 h.length k2,.slice a3 l.length k3],.agg #[.int .i64 0,.int .i64 (-1)]]) (by simp [results,Tryz.results4,go_sem,q0,q1,q2,v2,v3]) rfl ?_
   exact qR HR.out (HBO.out.mono (by omega)) HB2.out.2.2.1
end
