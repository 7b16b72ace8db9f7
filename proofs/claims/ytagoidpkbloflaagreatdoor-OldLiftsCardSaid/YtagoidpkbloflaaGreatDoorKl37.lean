import Derived.Test.YtagoidpkbloflaaGreatDoorKlq
import Derived.Test.YtagoidpkbloflaaGreatDoorKl36
namespace Go.Proofs.YtagoidpkbloflaaGreatDoor
open Lib (hid)
set_option maxRecDepth 100000
set_option maxHeartbeats 8000000
open Go.RowKit
theorem yA {w w':World} {B R:Nat} {v:Value} {l:List Ent} (h:ai w B v l) (hR:R<B) (hg:w.grownBy w' (some R)):ai w' B v l :=
 Dt h hg (.inr (fun e=>by have:=(h.lt R e).1;omega))
def NX (w:World) (R:Nat) (s:ByteArray) (b:Nat) (c0 c1 c2 c3 c4 c5:Value) (wr:World):Prop :=
 Rd wr R s b∧w.grownBy wr (some R)∧wr.heap[w.heap.size+1]? = some (.cells #[c0,c1,c2,c3,c4,c5] 78 (0,0))∧wr.heap[w.heap.size]? = some (.cells #[.int .i64 0,.int .i64 0,.int .i64 0,.string ⟨#[]⟩,.string ⟨#[]⟩,.int .i64 0] 78 (0,0))∧R<w.heap.size
theorem NX.get {w wr w':World} {R:Nat} {s:ByteArray} {b b':Nat} {c0 c1 c2 c3 c4 c5:Value} (h:NX w R s b c0 c1 c2 c3 c4 c5 wr) (hr:Rd w' R s b') (hg:wr.grownBy w' (some R)):NX w R s b' c0 c1 c2 c3 c4 c5 w':=by
 obtain ⟨h1,h2,h3,h4,h5⟩:=h;exact ⟨hr,aO h2 hg (fun k hk=>.inl (by injection hk with hk;exact hk.symm)),(hg.block _ (DF.1 h3).1 (by simp;omega)).trans h3,(hg.block _ (DF.1 h4).1 (by simp;omega)).trans h4,h5⟩
theorem NX.cells {w wr:World} {R:Nat} {s:ByteArray} {b:Nat} {c0 c1 c2 c3 c4 c5:Value} (h:NX w R s b c0 c1 c2 c3 c4 c5 wr) :
 (wr.cell? ⟨w.heap.size+1,0,none⟩=some c0∧wr.cell? ⟨w.heap.size+1,1,none⟩=some c1∧wr.cell? ⟨w.heap.size+1,2,none⟩=some c2∧wr.cell? ⟨w.heap.size+1,3,none⟩=some c3∧wr.cell? ⟨w.heap.size+1,4,none⟩=some c4∧wr.cell? ⟨w.heap.size+1,5,none⟩=some c5)∧dE wr (w.heap.size+1) :=
 ⟨⟨Dd _ _ 0 _ _ _ h.2.2.1,Dd _ _ 1 _ _ _ h.2.2.1,Dd _ _ 2 _ _ _ h.2.2.1,Dd _ _ 3 _ _ _ h.2.2.1,Dd _ _ 4 _ _ _ h.2.2.1,Dd _ _ 5 _ _ _ h.2.2.1⟩,cd h.2.2.1⟩
theorem NX.put {w wr:World} {R:Nat} {s:ByteArray} {b o:Nat} {c0 c1 c2 c3 c4 c5 d0 d1 d2 d3 d4 d5 v:Value} (h:NX w R s b c0 c1 c2 c3 c4 c5 wr) (hs:(#[c0,c1,c2,c3,c4,c5]:Array Value).setIfInBounds o v=#[d0,d1,d2,d3,d4,d5]):NX w R s b d0 d1 d2 d3 d4 d5 (wr.setCell ⟨w.heap.size+1,o,none⟩ v):=by
 obtain ⟨h1,h2,h3,h4,h5⟩:=h;refine ⟨?_,?_,?_,bM h4 (by omega) v,h5⟩
 ·unfold Rd at h1 ⊢;exact bM h1 (by omega) v
 ·exact aO h2 (grown_setB _ _ _ _) (fun k hk=>.inr (by injection hk with hk;omega))
 ·rw [De _ _ _ _ _ _ h3,hs]
where
 grown_setB (W:World) (b o:Nat) (x:Value):W.grownBy (W.setCell ⟨b,o,none⟩ x) (some b) :=
  ⟨rfl,rfl,rfl,by simp,fun k hk hne=>by
   have hk2:b≠k:=fun e=>hne (by rw [e])
   simp only [World.setCell,Dw,if_neg hk2]⟩
theorem fN {w:World} {B k:Nat} {cs c2:Array Value} {t:TypeId} {fr:Nat×Nat} (h:w.heap[k]? = some (.cells cs t fr)) (hne:B≠k):(w.setRow B c2).heap[k]? = some (.cells cs t fr):=by
 simp only [World.setRow,Dw]
 rw [if_neg hne];exact h
theorem NX.row {w wr:World} {R:Nat} {s:ByteArray} {b:Nat} {c0 c1 c2 c3 c4 c5 d0 d1 d2 d3 d4 d5:Value} (h:NX w R s b c0 c1 c2 c3 c4 c5 wr):NX w R s b d0 d1 d2 d3 d4 d5 (wr.setRow (w.heap.size+1) #[d0,d1,d2,d3,d4,d5]):=by
 obtain ⟨h1,h2,h3,h4,h5⟩:=h;exact ⟨h1.row (by omega) _,gd h2 (by omega) _,bL h3 _,fN h4 (by omega),h5⟩
def td (w:World) (R:Nat) (s:ByteArray) (r:(Nat×Nat) ⊕ (Nat×Wr×Nat)) (e:Ending) (w':World):Prop :=
 w.grownBy w' (some R)∧((∃ x p,r=.inl (x,p)∧dL (x,(p:Int)) e w')∨∃ b x n,r=.inr (b,x,n)∧e=.returned (.tuple #[.agg #[.int .i64 x.time,.int .i64 x.rep,.int .i64 x.kind,.string x.key,.string x.value,.int .i64 x.n],.int .i64 (n:Int)])∧Rd w' R s b)
theorem xG (R:Nat) (s:ByteArray) (a:Nat) (vh vt:Value) (h:List Ent) (T:List ByteArray) (A:Int) (w:World) (hrd:Rd w R s a) (hg:errT w) (hs:s.size≤20000) (ha:a≤s.size) (hh:ai w (R+1) vh h) (ht:ak w (R+1) vt T) (hhl:h.length≤16) (htl:T.length≤60) (hts:∀ k∈T,k.size≤2000) (hA0:0≤A) (hA1:A≤1099511627776) :
 Calls Tryz.prog 112 #[.pointer (some ⟨R,0,none⟩),vh,vt,.int .i64 A] w (td w R s (b8 s.data.toList h T a A)):=by
 have hmf:∀ (fn:Fn) (first cap:Array Value) (w:World),(Instr.makeFunc fn first cap).run Tryz.prog w=.ok (.func fn first cap) w:=fun _ _ _ _=>rfl
 have HS6:Hid (s.size≤1000000):=hid (by omega);have HSL:Hid (s.data.toList.length=s.size):=hid (ac s).symm;have hR:R<w.heap.size:=hrd.cells.2.2.2;obtain ⟨W1,hW1⟩:∃ W1,(w.alloc (.cells #[.int .i64 0,.int .i64 0,.int .i64 0,.string ⟨#[]⟩,.string ⟨#[]⟩,.int .i64 0] 78)).alloc (.cells #[.int .i64 0,.int .i64 0,.int .i64 0,.string ⟨#[]⟩,.string ⟨#[]⟩,.int .i64 0] 78)=W1:=⟨_,rfl⟩;have hb1:Below w.heap.size w W1:=by rw [←hW1];exact ((Below.refl _ _).alloc (Db _) _).alloc (by simp) _
 have HN1:Hid (NX w R s a (.int .i64 0) (.int .i64 0) (.int .i64 0) (.string ⟨#[]⟩) (.string ⟨#[]⟩) (.int .i64 0) W1):=hid ⟨hrd.below hb1,eY hb1,by rw [←hW1];have h:=Dg (w.alloc (.cells #[.int .i64 0,.int .i64 0,.int .i64 0,.string ⟨#[]⟩,.string ⟨#[]⟩,.int .i64 0] 78)) (.cells #[.int .i64 0,.int .i64 0,.int .i64 0,.string ⟨#[]⟩,.string ⟨#[]⟩,.int .i64 0] 78);simpa using h,by rw [←hW1,Below.heap_alloc _ _ _ (by simp)];exact Dg w _,hR⟩;have HEG:Hid (∀ w',w.grownBy w' (some R)→errT w'):=hid (fun w' hg'=>hg.grownR hrd hg');have HHE:Hid (∀ w',w.grownBy w' (some R)→ai w' (R+1) vh h):=hid (fun w' hg'=>yA hh (Du R) hg');have HTE:Hid (∀ w',w.grownBy w' (some R)→ak w' (R+1) vt T):=hid (fun w' hg'=>qD ht (Du R) hg');obtain ⟨nh,hnh⟩:∃ n,n=h.length:=⟨_,rfl⟩;obtain ⟨nt,hnt⟩:∃ n,n=T.length:=⟨_,rfl⟩;obtain ⟨ah,ch,rfl,_⟩:=hh.is.form;obtain ⟨at_,ct,rfl,_,_⟩:=ht.isTexts;rw [←hnh] at HHE hhl ⊢;rw [←hnt] at HTE htl ⊢;have HNH:=hid hnh;have HNT:=hid hnt;have HTS:=hid hts;have kh:IntKind.i64.wrap ((nh:Int)-1)=(nh:Int)-1:=Dh _ (by omega);have kt:IntKind.i64.wrap ((nt:Int)-1)=(nt:Int)-1:=Dh _ (by omega)
 obtain ⟨mo,hmo⟩:∃ mo,1099511627776-A=mo:=⟨_,rfl⟩;have km:IntKind.i64.wrap (1099511627776-A)=mo:=by rw [←hmo];exact Dh _ (by omega)
 have hmo0:0≤mo:=by omega
 have hmo1:mo≤1099511627776:=by omega
 have HMO:=hid hmo;clear hh ht hnh hnt hts hrd hg hb1 hmo;rcases mv (s.data.toList.drop a) with ⟨e,hk,he⟩ | ⟨c,rr,hc,hk,hc1,hc4⟩
 ·have HK:=hid hk;have HRES:=hid (kN (h:=h) (T:=T) (ahead:=A) hk he);clear hk;go_enter Tryz.func112,Tryz.ntmps112
  go_wp2_with fail
  refine (vY R s a e 0 _ HN1.out.1 (HEG.out _ HN1.out.2.1) HS6.out ha HK.out rfl he).mono ?_;rintro r w2 ⟨⟨t,u,rfl,hne,hat⟩,hg2⟩;exact Dp rfl ⟨aO HN1.out.2.1 hg2 (fun k hk=>.inl (by injection hk with hk;exact hk.symm)),.inl ⟨e,a,HRES.out,t,u,rfl,hne,hat⟩⟩
 ·have hal : a + 1 ≤ s.size := by
   rcases Eg a s.data.toList.length with h' | h'
   ·have:=HSL.out;omega
   ·rw [El h'] at hc;cases hc
  obtain ⟨K,hKn⟩:∃ K,c.toNat=K:=⟨_,rfl⟩;rw [hKn] at hk hc1 hc4;have HK:=hid hk;clear hc hk hKn;go_enter Tryz.func112,Tryz.ntmps112
  go_wp2_with fail
  refine (vZ R s a K 1 _ HN1.out.1 (HEG.out _ HN1.out.2.1) HS6.out ha HK.out (by decide)).mono ?_;rintro r w2 ⟨rfl,hr2,hg2⟩;have HN2:=hid (HN1.out.get hr2 hg2);have HN3:Hid (NX w R s (a+1) (.int .i64 0) (.int .i64 0) (.int .i64 (K:Int)) (.string ⟨#[]⟩) (.string ⟨#[]⟩) (.int .i64 0) (w2.setCell ⟨w.heap.size+1,2,none⟩ (.int .i64 (K:Int)))):=hid (HN2.out.put rfl);obtain ⟨⟨c0,c1,c2,c3,c4,c5⟩,z0,z1,z2,z3,z4,z5⟩:=HN2.out.cells;clear hr2 hg2 HN1;obtain ⟨a1,ha1⟩:∃ a1,a+1=a1:=⟨_,rfl⟩;rw [ha1] at HN3 hal;have HA1:=hid ha1;rcases ar (s.data.toList.drop a1) mo with ⟨e,h1,he,_⟩ | ⟨t,k1,h1,htt,hk11,hk110,hk1l,hp1⟩
  ·have HRES:Hid (b8 s.data.toList h T a A=.inl (e,a1)):=hid (by rw [←ha1];exact kO HK.out (by rw [ha1,HMO.out];exact h1) he);have H1:=hid h1;clear h1 ha1;go_wp2_with fail
   refine (ij R s a1 e mo _ HN3.out.1 (HEG.out _ HN3.out.2.1) HS6.out hal (by omega) (by omega) H1.out he).mono ?_;rintro r w4 ⟨⟨t,u,rfl,hne,hat⟩,hg4⟩;exact Dp rfl ⟨aO HN3.out.2.1 hg4 (fun k hk=>.inl (by injection hk with hk;exact hk.symm)),.inl ⟨e,a1,HRES.out,t,u,rfl,hne,hat⟩⟩
  ·have H1:=hid h1;have hk1s:a1+k1≤s.size:=by rw [Dj,HSL.out] at hk1l;omega
   obtain ⟨Ti,hTi⟩:∃ Ti,A+(t:Int)=Ti:=⟨_,rfl⟩;have kT:IntKind.i64.wrap (A+(t:Int))=Ti:=by rw [←hTi];exact Dh _ (by have:=HMO.out;omega)
   have hTi1:Ti≤1099511627776:=by have:=HMO.out;omega
   have HTI:=hid hTi;obtain ⟨a2,ha2⟩:∃ a2,a1+k1=a2:=⟨_,rfl⟩;clear h1 hp1 hk1l ha1 hTi;go_wp2_with fail
   refine (ik R s a1 t k1 mo _ HN3.out.1 (HEG.out _ HN3.out.2.1) HS6.out hal (by omega) (by omega) H1.out (by omega)).mono ?_;rintro r w4 ⟨rfl,hr4,hg4⟩;rw [ha2] at hr4 hk1s;have HA2:=hid ha2;have HN4:=hid (HN3.out.get hr4 hg4);have HN5:Hid (NX w R s a2 (.int .i64 Ti) (.int .i64 0) (.int .i64 (K:Int)) (.string ⟨#[]⟩) (.string ⟨#[]⟩) (.int .i64 0) (w4.setCell ⟨w.heap.size+1,0,none⟩ (.int .i64 Ti))):=hid (HN4.out.put rfl);clear c0 c1 c2 c3 c4 c5 z0 z1 z2 z3 z4 z5 hr4 hg4 HN2 HN3 ha2;obtain ⟨⟨c0,c1,c2,c3,c4,c5⟩,z0,z1,z2,z3,z4,z5⟩:=HN4.out.cells;rcases ar (s.data.toList.drop a2) ((nh:Int)-1) with ⟨e,h2,he,_⟩ | ⟨p,k2,h2,hpp,hk21,hk210,hk2l,hp2⟩
   ·have HRES:Hid (b8 s.data.toList h T a A=.inl (e,a2)):=hid (by rw [←HA2.out,←HA1.out];exact nF HK.out (by rw [HA1.out,HMO.out];exact H1.out) (by rw [HA1.out,HA2.out,←HNH.out];exact h2) he);have H2:=hid h2;clear h2;go_wp2_with fail
    refine (ij R s a2 e ((nh:Int)-1) _ HN5.out.1 (HEG.out _ HN5.out.2.1) HS6.out hk1s (by omega) (by omega) H2.out he).mono ?_;rintro r w6 ⟨⟨t,u,rfl,hne,hat⟩,hg6⟩;exact Dp rfl ⟨aO HN5.out.2.1 hg6 (fun k hk=>.inl (by injection hk with hk;exact hk.symm)),.inl ⟨e,a2,HRES.out,t,u,rfl,hne,hat⟩⟩
   ·have H2:=hid h2;have hk2s:a2+k2≤s.size:=by rw [Dj,HSL.out] at hk2l;omega
    have hpn:p<nh:=by omega
    obtain ⟨ep, hep⟩ : ∃ e, h[p]? = some e := ⟨h[p]'(by have := HNH.out; omega), Di _⟩;have hgd:h.getD p ⟨0,0⟩=ep:=by rw [DN,hep];rfl
    have HGD:=hid hgd;have HEP:=hid hep;obtain ⟨a3,ha3⟩:∃ a3,a2+k2=a3:=⟨_,rfl⟩;clear h2 hp2 hk2l hgd hep;go_wp2_with fail
    refine (ik R s a2 p k2 ((nh:Int)-1) _ HN5.out.1 (HEG.out _ HN5.out.2.1) HS6.out hk1s (by omega) (by omega) H2.out (by omega)).mono ?_;rintro r w6 ⟨rfl,hr6,hg6⟩;rw [ha3] at hr6 hk2s;have HA3:=hid ha3;have HN6:=hid (HN5.out.get hr6 hg6);obtain ⟨rp,trp⟩:=ep;have HN7:Hid (NX w R s a3 (.int .i64 Ti) (.int .i64 rp) (.int .i64 (K:Int)) (.string ⟨#[]⟩) (.string ⟨#[]⟩) (.int .i64 0) (w6.setCell ⟨w.heap.size+1,1,none⟩ (.int .i64 rp))):=hid (HN6.out.put rfl);obtain ⟨a',c',he',hfo⟩:=(HHE.out _ HN6.out.2.1).is.form;obtain ⟨rfl,hmm,rfl⟩:=Ey he';obtain ⟨bh,oh,rfl,_,q0,q1⟩:=hfo p _ HEP.out;dsimp only at q0 q1
    clear c0 c1 c2 c3 c4 c5 z0 z1 z2 z3 z4 z5 hr6 hg6 HN4 HN5 ha3 he' hmm hfo;obtain ⟨⟨c0,c1,c2,c3,c4,c5⟩,z0,z1,z2,z3,z4,z5⟩:=HN6.out.cells;have hp0:(0:Int)≤(p:Int):=by omega
    have hp1:(p:Int)<(nh:Int):=by omega
    rcases ar (s.data.toList.drop a3) ((nt:Int)-1) with ⟨e,h3,he,_⟩ | ⟨n,k3,h3,hnn,hk31,hk310,hk3l,hp3⟩
    ·have HRES:Hid (b8 s.data.toList h T a A=.inl (e,a3)):=hid (by rw [←HA3.out,←HA2.out,←HA1.out];exact nD HK.out (by rw [HA1.out,HMO.out];exact H1.out) (by rw [HA1.out,HA2.out,←HNH.out];exact H2.out) (by rw [HA1.out,HA2.out,HA3.out,←HNT.out];exact h3) he);have H3:=hid h3;clear h3;go_wp2_with fail
     refine (ij R s a3 e ((nt:Int)-1) _ HN7.out.1 (HEG.out _ HN7.out.2.1) HS6.out hk2s (by omega) (by omega) H3.out he).mono ?_;rintro r w8 ⟨⟨t,u,rfl,hne,hat⟩,hg8⟩;exact Dp rfl ⟨aO HN7.out.2.1 hg8 (fun k hk=>.inl (by injection hk with hk;exact hk.symm)),.inl ⟨e,a3,HRES.out,t,u,rfl,hne,hat⟩⟩
    ·have H3:=hid h3;have hk3s:a3+k3≤s.size:=by rw [Dj,HSL.out] at hk3l;omega
     obtain ⟨key, hkey⟩ : ∃ k, T[n]? = some k := ⟨T[n]'(by have := HNT.out; omega), Di _⟩;have hgk:T.getD n ⟨#[]⟩=key:=by rw [DN,hkey];rfl
     have hks:=HTS.out key (DB hkey);have HGK:=hid hgk;have HKY:=hid hkey;obtain ⟨a4,ha4⟩:∃ a4,a3+k3=a4:=⟨_,rfl⟩;have hnt1:(n:Int)<(nt:Int):=by omega
     have hn0:(0:Int)≤(n:Int):=by omega
     clear h3 hp3 hk3l hgk hkey;go_wp2_with fail
     refine (ik R s a3 n k3 ((nt:Int)-1) _ HN7.out.1 (HEG.out _ HN7.out.2.1) HS6.out hk2s (by omega) (by omega) H3.out (by omega)).mono ?_;rintro r w8 ⟨rfl,hr8,hg8⟩;rw [ha4] at hr8 hk3s;have HA4:=hid ha4;have HN8:=hid (HN7.out.get hr8 hg8);have HN9:Hid (NX w R s a4 (.int .i64 Ti) (.int .i64 rp) (.int .i64 (K:Int)) (.string key) (.string ⟨#[]⟩) (.int .i64 0) (w8.setCell ⟨w.heap.size+1,3,none⟩ (.string key))):=hid (HN8.out.put rfl);obtain ⟨a',c',he',_,hfo⟩:=(HTE.out _ HN8.out.2.1).isTexts;obtain ⟨rfl,hmm,rfl⟩:=Ey he';obtain ⟨bt,ot,rfl,_,q2⟩:=hfo n _ HKY.out;clear c0 c1 c2 c3 c4 c5 z0 z1 z2 z3 z4 z5 hr8 hg8 HN6 HN7 ha4 he' hmm hfo q0 q1;obtain ⟨⟨c0,c1,c2,c3,c4,c5⟩,z0,z1,z2,z3,z4,z5⟩:=HN8.out.cells;obtain ⟨x,hx⟩:∃ x,aB Ti rp (K:Int) key (s.data.toList.drop a4)=x:=⟨_,rfl⟩;have HX:=hid hx;by_cases hx0:x=0
     ·subst hx0;obtain ⟨V,hV⟩:∃ V,bP (K:Int) (s.data.toList.drop a4)=V:=⟨_,rfl⟩;obtain ⟨N,hN⟩:∃ N,(getN (K:Int) (s.data.toList.drop a4)).1=N:=⟨_,rfl⟩;obtain ⟨k4,hk4⟩:∃ k,bZ (K:Int) (s.data.toList.drop a4)=k:=⟨_,rfl⟩;have hk4s:=(fy hx).2.2;rw [hk4,Dj,HSL.out] at hk4s;have HRES:Hid (b8 s.data.toList h T a A=.inr (a4+k4,⟨Ti,rp,(K:Int),key,V,N⟩,n)):=hid (by
       have hok:=nE (h:=h) (T:=T) (ahead:=A) HK.out (by rw [HA1.out,HMO.out];exact H1.out) (by rw [HA1.out,HA2.out,←HNH.out];exact H2.out) (by rw [HA1.out,HA2.out,HA3.out,←HNT.out];exact H3.out) (by rw [HA1.out,HA2.out,HA3.out,HA4.out,HTI.out,HGD.out,HGK.out];exact HX.out);rw [HA1.out,HA2.out,HA3.out,HA4.out,HTI.out,HGD.out,HGK.out,hV,hN,hk4] at hok;exact hok)
      have HV:=hid hV;have HNN:=hid hN;have HK4:=hid hk4;clear hx hV hN hk4;go_wp2_with fail
      refine (wl R (w.heap.size+1) s a4 Ti rp (K:Int) key ⟨#[]⟩ 0 V N k4 _ HN9.out.1 (HEG.out _ HN9.out.2.1) HS6.out hk3s HN9.out.cells.1 (by omega) HX.out HV.out HNN.out HK4.out (by omega)).mono ?_;rintro r w10 ⟨rfl,hr10,hg10⟩;have HN10:=hid (HN9.out.get hr10 hg10);have HN11:Hid (NX w R s (a4+k4) (.int .i64 Ti) (.int .i64 rp) (.int .i64 (K:Int)) (.string key) (.string V) (.int .i64 N) (w10.setRow (w.heap.size+1) #[.int .i64 Ti,.int .i64 rp,.int .i64 (K:Int),.string key,.string V,.int .i64 N])):=hid HN10.out.row;have HI:=hid (cW (.int .i64 Ti) (.int .i64 rp) (.int .i64 (K:Int)) (.string key) (.string V) (.int .i64 N));have HONE:=hid (cV Ti rp (K:Int) key V N);have HSAME:=hid (di Ti rp (K:Int) key V N);have HSAM2:Hid ((#[.int .i64 Ti,.int .i64 rp,.int .i64 (K:Int),.string key,.string ⟨#[]⟩,.int .i64 0]:Array Value).size=(#[.int .i64 Ti,.int .i64 rp,.int .i64 (K:Int),.string key,.string V,.int .i64 N]:Array Value).size):=hid rfl;have HROWA:=hid HN10.out.2.2.1;have HROWB:=hid HN11.out.2.2.2.1;have HZR:=hid (bL HN11.out.2.2.2.1 #[.int .i64 Ti,.int .i64 rp,.int .i64 (K:Int),.string key,.string V,.int .i64 N]);have HRD:=hid (HN11.out.1.row (show w.heap.size≠R by omega) #[.int .i64 Ti,.int .i64 rp,.int .i64 (K:Int),.string key,.string V,.int .i64 N])
      have HGR:=hid (gd HN11.out.2.1 (Db _) #[.int .i64 Ti,.int .i64 rp,.int .i64 (K:Int),.string key,.string V,.int .i64 N]);obtain ⟨⟨d0,d1,d2,d3,d4,d5⟩,_⟩:=HN11.out.cells;clear hr10 hg10 c0 c1 c2 c3 c4 c5 z0 z1 z2 z3 z4 z5 q2 HN8 HN9;go_wp2_with (first
       | (with_reducible refine DO rfl _ _ _ rfl _ _ rfl rfl _ _ HROWA.out HI.out HSAM2.out HONE.out ?_)
       | (with_reducible refine DO rfl _ _ _ rfl _ _ rfl rfl _ _ HROWB.out HI.out HSAME.out HONE.out ?_))
      obtain ⟨g0,g1,g2,g3,g4,g5⟩:=aI HZR.out;refine Dc (v:=.tuple #[.agg #[.int .i64 Ti,.int .i64 rp,.int .i64 (K:Int),.string key,.string V,.int .i64 N],.int .i64 (n:Int)]) (by simp [results,Tryz.results112,go_sem,g0,g1,g2,g3,g4,g5]) rfl ?_;exact ⟨HGR.out,.inr ⟨_,_,_,HRES.out,rfl,HRD.out⟩⟩
     ·have HRES : Hid (b8 s.data.toList h T a A = .inl (x, a4)) := hid (by
       have hok:=nC (h:=h) (T:=T) (ahead:=A) HK.out (by rw [HA1.out,HMO.out];exact H1.out) (by rw [HA1.out,HA2.out,←HNH.out];exact H2.out) (by rw [HA1.out,HA2.out,HA3.out,←HNT.out];exact H3.out) (by rw [HA1.out,HA2.out,HA3.out,HA4.out,HTI.out,HGD.out,HGK.out];exact HX.out) hx0;rw [HA1.out,HA2.out,HA3.out,HA4.out] at hok;exact hok)
      clear hx;go_wp2_with fail
      refine (wk R (w.heap.size+1) s a4 Ti rp (K:Int) key ⟨#[]⟩ 0 x _ HN9.out.1 (HEG.out _ HN9.out.2.1) HS6.out hk3s HN9.out.cells.1 (by omega) HX.out hx0).mono ?_;rintro r w10 ⟨⟨t,u,rfl,hne,hat⟩,hg10⟩;exact Dp rfl ⟨aO HN9.out.2.1 hg10 (fun k hk=>.inl (by injection hk with hk;exact hk.symm)),.inl ⟨x,a4,HRES.out,t,u,rfl,hne,hat⟩⟩
