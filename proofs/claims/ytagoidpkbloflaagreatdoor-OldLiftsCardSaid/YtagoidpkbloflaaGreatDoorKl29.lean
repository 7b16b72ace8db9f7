import Derived.Test.YtagoidpkbloflaaGreatDoorKlq
import Derived.Test.YtagoidpkbloflaaGreatDoorKl28
namespace Go.Proofs.YtagoidpkbloflaaGreatDoor
open Lib (hid)
set_option maxRecDepth 100000
set_option maxHeartbeats 8000000
section
open Go.RowKit
theorem AP (b:List UInt8) (s:ByteArray) (k n:Nat) (h1:1≤k) (h2:k≤b.length) (h0:s.size=0) :
 co b ⟨s,(k:Int),(n:Int)⟩=b++cyc (b.drop (b.length-k)) n:=by
 have hs:s.data.toList=[]:=E0.1 (by rw [←ac];exact h0);unfold co;simp only [E2]
 rw [hs,DV,zB b k n h1 h2]
theorem Ag (v:Value) (l:List Tok) (w:World) (hv:bX w v l) (hl:l.length≤9223372036854775807) (hz:∀ t∈l,t.own.size≤140737488351232) :
 Calls Tryz.prog 63 #[v] w fun e w'=>e=.returned (.tuple #[.string ⟨(bB l).toArray⟩,bH (a8 l 0 0)])∧Below w.heap.size w w':=by
 have HV:=hid hv;have HLL:=hid hl;have HZ:=hid hz;obtain ⟨e,pl,hr⟩:∃ e pl,a8 l 0 0=(e,pl):=⟨_,_,rfl⟩;have HR:Hid (bH (a8 l 0 0)=.agg #[.int .i64 e,.int .i64 pl]):=by
  have h:bH (a8 l 0 0)=.agg #[.int .i64 e,.int .i64 pl]:=by rw [hr];rfl
  exact h
 have HVA:=hid (hv.alloc (.cells #[.int .i64 0,.int .i64 0] 28));by_cases he:e=0
 ·subst he;have hpl:pl=-1:=by have:=fM (l:=l) (i:=0) (a:=0) (by rw [hr]);rw [hr] at this;exact (Prod.mk.inj this).2
  subst hpl;have HT:Hid (bB l=aD [] l):=by
   have h:bB l=aD [] l:=by unfold bB;rw [if_pos (by rw [hr])]
   exact h
  have HR0:=hid hr;obtain ⟨a1,c1,rfl,f1⟩:=hv.form;have F1:=hid f1;obtain ⟨n,hn⟩:∃ n,n=l.length:=⟨_,rfl⟩;rw [←hn] at hl ⊢ HV HVA;have HN:=hid hn;clear hv f1 hn hz hr;go_enter Tryz.func63,Tryz.ntmps63
  go_wp2_with fail
  refine (gv _ l _ HVA.out HLL.out HZ.out).mono ?_;rintro r w0 ⟨rfl,hb0⟩;rw [HR.out];have HB0:=hid hb0;have hz0:=hb0.size;rw [DE] at hz0;clear hb0;go_wp2_with fail
  refine (aH 0 (-1) _).mono ?_;rintro r w1 ⟨rfl,hb1⟩;have HB1:Hid (Below (w.heap.size+1) (w.alloc (.cells #[.int .i64 0,.int .i64 0] 28)) w1):=(HB0.out.mono (by simp)).alloc (by omega) _ |>.trans (hb1.mono (by simp;omega))
  clear hb1;go_wp2
  go_loopw [5,17] (fun o i wr=>∃ (k:Nat) (out:ByteArray),k≤n∧i=.int .i64 k∧o=.string out∧aD [] l=aD out.data.toList (l.drop k)∧(a8 (l.drop k) k out.size).1=0∧out.size≤20000∧Below (w.heap.size+1) (w.alloc (.cells #[.int .i64 0,.int .i64 0] 28)) wr) (fun _ i _=>n-(intOf i).toNat)
  case atStart=>exact ⟨0,⟨#[]⟩,by omega,rfl,rfl,rfl,by rw [E4];show (a8 l 0 0).1=0;rw [HR0.out],by decide,HB1.out⟩
  case round =>
   obtain ⟨k,out,hk,rfl,rfl,htx,hrt,hac,hbel⟩:=hrel;have HTX:=hid htx;have HRT:=hid hrt;have HB:=hid hbel;have hzr:=hbel.size;rw [DE] at hzr;have HBW:Hid (Below w.heap.size w wr):=((Below.refl _ _).alloc (Db _) _).trans (hbel.mono (Dq _));have x0:wr.cell? ⟨w.heap.size,0,none⟩=some (.int .i64 0):=(hbel.cell (by exact Du _)).trans (by simp);have x1:wr.cell? ⟨w.heap.size,1,none⟩=some (.int .i64 0):=(hbel.cell (by exact Du _)).trans (by simp);have y0:wr.frozen? ⟨w.heap.size,0,none⟩=false:=(hbel.frozen (by exact Du _)).trans (by simp);have y1:wr.frozen? ⟨w.heap.size,1,none⟩=false:=(hbel.frozen (by exact Du _)).trans (by simp);clear htx hrt hbel;by_cases hlt:k<n
   ·have hkl:k<l.length:=by have:=HN.out;omega
    obtain ⟨t,ht⟩:∃ t,l[k]? = some t:=⟨l[k],Di hkl⟩;obtain ⟨b1,o1,rfl,hb1,p0,p1,p2⟩:=F1.out k t ht;have hd:l.drop k=t::l.drop (k+1):=by
     rw [DA hkl];congr 1;rw [Di hkl] at ht;exact Dr ht
    obtain ⟨own,back,size⟩:=t;simp only at p0 p1 p2
    have q0:=(HBW.out.cell (p:=⟨b1,o1+k * 3,none⟩) hb1).trans p0;have q1:=(HBW.out.cell (p:=⟨b1,o1+k * 3+1,none⟩) hb1).trans p1;have q2:=(HBW.out.cell (p:=⟨b1,o1+k * 3+2,none⟩) hb1).trans p2;have hrt:=HRT.out;rw [hd] at hrt;obtain ⟨hw0,hw1⟩:=gn hrt;have hle:=j8 hw0;have HTX2:Hid (aD [] l=aD (co out.data.toList ⟨own,back,size⟩) (l.drop (k+1))):=by
     have h:aD [] l=aD (co out.data.toList ⟨own,back,size⟩) (l.drop (k+1)):=by rw [HTX.out,hd,rX]
     exact h
    have HW1:=hid hw1;clear p0 p1 p2 ht hd hkl hrt hw1 HTX HRT x0 x1 y0 y1;rcases gF hw0 with ⟨h1,h2,h3,h4⟩ | ⟨h1,h2,h3,h4,h5,h6,h7⟩
    ·simp only at h1 h2 h3 h4
     subst h2 h3;have HN2:Hid (aD [] l=aD (out++own).data.toList (l.drop (k+1))):=by
      have h:aD [] l=aD (out++own).data.toList (l.drop (k+1)):=by rw [HTX2.out,bE];rfl
      exact h
     have HNW:Hid ((a8 (l.drop (k+1)) (k+1) (out++own).size).1=0):=by
      have h:(a8 (l.drop (k+1)) (k+1) (out++own).size).1=0:=by rw [eO];exact HW1.out
      exact h
     have HNZ:Hid ((out++own).size≤20000):=by
      have h:(out++own).size≤20000:=by rw [eO];exact h4
      exact h
     clear hw0 h1 hle;go_wp2;go_roundw
     case rel=>exact ⟨k+1,out++own,by omega,by go_num,rfl,HN2.out,HNW.out,HNZ.out,HB.out.alloc (by omega) _⟩
     case measure=>simp [intOf];omega
    ·simp only at h1 h2 h3 h4 h5 h6 h7
     obtain ⟨nn,rfl⟩:=DS (show 0≤size by omega);obtain ⟨kb,rfl⟩:=DS (show 0≤back by omega);have hout:out++own=out:=cX (by rw [bE,E0.1 (by rw [←ac];exact h1:own.data.toList.length=0),DV]);have hol:out.data.toList.length=out.size:=(ac out).symm;obtain ⟨r,hr⟩:∃ r,r=out.size-kb:=⟨_,rfl⟩;have e1:(out.size:Int)-(kb:Int)=(r:Int):=by omega
     have e2:(0:Int)≤(r:Int):=by omega
     have e3:(r:Int)≤(out.size:Int):=by omega
     have hpl:(out.data.toList.drop r).length=kb:=by rw [Dj,hol];omega
     have HST:Hid (co out.data.toList ⟨own,kb,nn⟩=out.data.toList++cyc (out.data.toList.drop r) nn):=by
      have h:co out.data.toList ⟨own,kb,nn⟩=out.data.toList++cyc (out.data.toList.drop r) nn:=by
       rw [AP _ _ _ _ (by omega) (by omega) h1,hol,hr]
      exact h
     have HP0:Hid ((out.extract r out.size).data.toList=cyc (out.data.toList.drop r) kb):=by
      have h:(out.extract r out.size).data.toList=cyc (out.data.toList.drop r) kb:=by
       rw [cE,DL (by rw [hol];exact Db _),←hpl,ve]
      exact h
     have HPS:Hid ((out.extract r out.size).size=kb):=by
      have h:(out.extract r out.size).size=kb:=by rw [DJ];omega
      exact h
     have HPL:=hid hpl;have hkb:1≤kb:=by omega
     have hkb2:kb≤1024:=by omega
     have hnn:nn≤67:=by omega
     have hnp:0<nn:=by omega
     have hn4:(4:Int)≤(nn:Int):=h2;have hle2:out.size+nn≤20000:=by omega
     have HW2:Hid ((a8 (l.drop (k+1)) (k+1) (out.size+nn)).1=0):=by
      have h:(a8 (l.drop (k+1)) (k+1) (out.size+nn)).1=0:=by
       have e:out.size+nn=out.size+lenT ⟨own,kb,nn⟩:=by show _=out.size+(own.size+(nn:Int).toNat);omega
       rw [e];exact HW1.out
      exact h
     have HH1:=hid h1;have hos:own.size≤0:=by omega
     clear hw0 hle hpl hol hr h1 h2 h3 h4 h5 h6 h7 HW1;go_wp2;clear e1 e2 e3 q0 q1 q2 hout
     go_loop [8] (fun pt=>∃ (P:ByteArray) (q:Nat),pt=.string P∧P.data.toList=cyc (out.data.toList.drop r) (kb * q)∧P.size=kb * q∧1≤q∧P.size≤2000) (fun pt=>nn-(match pt with | .string P=>P.size | _=>0))
     case atStart=>exact ⟨out.extract r out.size,1,rfl,by rw [Nat.mul_one];exact HP0.out,by rw [Nat.mul_one];exact HPS.out,Db _,by rw [HPS.out];omega⟩
     case round =>
      obtain ⟨P,q,rfl,hpd,hps,hq,hpz⟩:=hrel;have HPD:=hid hpd;have HPZ:=hid hps;clear hpd;have hpp:1≤P.size:=by rw [hps];exact Nat.mul_pos (by omega) (by omega)
      clear hps;by_cases hlt3:P.size<nn
      ·have HQ : Hid ((P ++ P).data.toList = cyc (out.data.toList.drop r) (kb * (q + q))) := by
        have h:(P++P).data.toList=cyc (out.data.toList.drop r) (kb * (q+q)):=by
         have h2:=vd (out.data.toList.drop r) q;rw [HPL.out] at h2;rw [bE,HPD.out,Nat.mul_add,h2]
        exact h
       have HQS:Hid ((P++P).size=kb * (q+q)):=by
        have h:(P++P).size=kb * (q+q):=by rw [eO,HPZ.out,Nat.mul_add]
        exact h
       have HQZ:Hid ((P++P).size≤2000):=by
        have h:(P++P).size≤2000:=by rw [eO];omega
        exact h
       go_wp2
       go_round
       case rel=>exact ⟨P++P,q+q,rfl,HQ.out,HQS.out,by omega,HQZ.out⟩
       case measure=>simp;omega
      ·have hnP:(nn:Int)≤(P.size:Int):=by omega
       have HX:Hid ((out++P.extract 0 nn).data.toList=co out.data.toList ⟨own,kb,nn⟩):=by
        have h:(out++P.extract 0 nn).data.toList=co out.data.toList ⟨own,kb,nn⟩:=by
         rw [HST.out,bE,cE,E4,HPD.out,vi _ _ _ (by rw [←HPZ.out];omega)]
        exact h
       have HXS:Hid ((out++P.extract 0 nn).size=out.size+nn):=by
        have h:(out++P.extract 0 nn).size=out.size+nn:=by rw [eO,DJ];omega
        exact h
       have HNW:Hid ((a8 (l.drop (k+1)) (k+1) (out++P.extract 0 nn).size).1=0):=by
        have h:(a8 (l.drop (k+1)) (k+1) (out++P.extract 0 nn).size).1=0:=by rw [HXS.out];exact HW2.out
        exact h
       have HNZ:Hid ((out++P.extract 0 nn).size≤20000):=by
        have h:(out++P.extract 0 nn).size≤20000:=by rw [HXS.out];exact hle2
        exact h
       have HNX:Hid (aD [] l=aD (out++P.extract 0 nn).data.toList (l.drop (k+1))):=by
        have h:aD [] l=aD (out++P.extract 0 nn).data.toList (l.drop (k+1)):=by rw [HX.out];exact HTX2.out
        exact h
       go_wp2;go_roundw
       case rel=>exact ⟨k+1,out++P.extract 0 nn,by omega,by go_num,rfl,HNX.out,HNW.out,HNZ.out,HB.out.alloc (by omega) _⟩
       case measure=>simp [intOf];omega
   ·have HRN : Hid ((⟨(bB l).toArray⟩ : ByteArray) = out) := by
     have h:(⟨(bB l).toArray⟩:ByteArray)=out:=by
      apply cX
      rw [jk,HT.out,HTX.out,DD (by have:=HN.out;omega)];rfl
     exact h
    have hlt0:w.heap.size<wr.heap.size:=by omega
    clear HTX HRT;go_wp2_with fail
    refine (dF _).mono ?_;rintro r w2 ⟨rfl,hb2⟩;have d0:w2.cell? ⟨w.heap.size,0,none⟩=some (.int .i64 0):=(hb2.cell hlt0).trans x0;have d1:w2.cell? ⟨w.heap.size,1,none⟩=some (.int .i64 0):=(hb2.cell hlt0).trans x1;have g0:w2.frozen? ⟨w.heap.size,0,none⟩=false:=(hb2.frozen hlt0).trans y0;have g1:w2.frozen? ⟨w.heap.size,1,none⟩=false:=(hb2.frozen hlt0).trans y1;have HB2:Hid (Below w.heap.size w w2):=HBW.out.trans (hb2.mono (DG hlt0));clear hb2 x0 x1 y0 y1;go_wp2;refine Dc (v:=.tuple #[.string out,.agg #[.int .i64 0,.int .i64 (-1)]]) (by simp [results,Tryz.results63,go_sem,d0,d1]) rfl ?_;rw [HRN.out,HR.out];exact ⟨rfl,(HB2.out.setCell (Db _) _).setCell (Db _) _⟩
 ·have HT : Hid ((⟨(bB l).toArray⟩ : ByteArray) = ⟨#[]⟩) := by
   have h:(⟨(bB l).toArray⟩:ByteArray)=⟨#[]⟩:=by unfold bB;rw [if_neg (by rw [hr];exact he)]
   exact h
  have hbe:((e:Int) == 0)=false:=by simp;omega
  have HBE:=hid hbe;clear hv hl hz hr he hbe;go_enter Tryz.func63,Tryz.ntmps63
  go_wp2_with fail
  refine (gv _ l _ HVA.out HLL.out HZ.out).mono ?_;rintro r w0 ⟨rfl,hb0⟩;rw [HR.out];have HB0:=hid hb0;have hz0:=hb0.size;rw [DE] at hz0;clear hb0;go_wp2_with fail
  refine (aH e pl _).mono ?_;rintro r w1 ⟨rfl,hb1⟩;rw [HBE.out];have HB1:=hid hb1;have hB1:Below (w.heap.size+1) (w.alloc (.cells #[.int .i64 0,.int .i64 0] 28)) w1:=(HB0.out.mono (by simp)).alloc (by omega) _ |>.trans (hb1.mono (by simp;omega))
  have hl0:w0.heap.size<(w0.alloc (.cells #[.int .i64 e,.int .i64 pl] 28)).heap.size:=by simp
  have u0:w1.cell? ⟨w0.heap.size,0,none⟩=some (.int .i64 e):=(hb1.cell hl0).trans (by simp);have u1:w1.cell? ⟨w0.heap.size,1,none⟩=some (.int .i64 pl):=(hb1.cell hl0).trans (by simp);have x0:w1.cell? ⟨w.heap.size,0,none⟩=some (.int .i64 0):=(hB1.cell (by exact Du _)).trans (by simp);have x1:w1.cell? ⟨w.heap.size,1,none⟩=some (.int .i64 0):=(hB1.cell (by exact Du _)).trans (by simp);have y0:w1.frozen? ⟨w.heap.size,0,none⟩=false:=(hB1.frozen (by exact Du _)).trans (by simp);have y1:w1.frozen? ⟨w.heap.size,1,none⟩=false:=(hB1.frozen (by exact Du _)).trans (by simp);have HBW:Hid (Below w.heap.size w w1):=((Below.refl _ _).alloc (Db _) _).trans (hB1.mono (Dq _));clear hb1 hB1;go_wp2;go_region
  go_wp2;refine Dc (v:=.tuple #[.string ⟨#[]⟩,.agg #[.int .i64 e,.int .i64 pl]]) (by simp [results,Tryz.results63,go_sem,x0,x1]) rfl ?_;rw [HT.out,HR.out];exact ⟨rfl,by first | exact ((HBW.out.drew).setCell (Db _) _).setCell (Db _) _ | exact ((HBW.out.setCell (Db _) _).setCell (Db _) _).drew⟩
end
section
open Go.RowKit
def lw (w:World) (s:List UInt8) (e:Ending) (w':World):Prop :=
 ∃ v,e=.returned (.tuple #[v,.int .i64 ((aj s).2.1:Nat),.agg #[.int .i64 ((aj s).1:Nat),.int .i64 (-1)]])∧ai w' w.heap.size v (aj s).2.2∧Below w.heap.size w w'
def D3 (w W:World) (lv:Value) (m x pl:Int):Prop :=
 W.heap[w.heap.size]? = some (.cells #[lv] 22 (0,0))∧W.heap[w.heap.size+1]? = some (.cells #[.int .i64 m] 3 (0,0))∧W.heap[w.heap.size+2]? = some (.cells #[.int .i64 x,.int .i64 pl] 28 (0,0))∧Below w.heap.size w W∧w.heap.size+3≤W.heap.size
theorem D3.cells {w W:World} {lv:Value} {m x pl:Int} (h:D3 w W lv m x pl) :
 W.cell? ⟨w.heap.size,0,none⟩=some lv∧W.cell? ⟨w.heap.size+1,0,none⟩=some (.int .i64 m)∧W.cell? ⟨w.heap.size+2,0,none⟩=some (.int .i64 x)∧W.cell? ⟨w.heap.size+2,1,none⟩=some (.int .i64 pl) ∧
  W.frozen? ⟨w.heap.size,0,none⟩=false∧W.frozen? ⟨w.heap.size+1,0,none⟩=false∧W.frozen? ⟨w.heap.size+2,0,none⟩=false∧W.frozen? ⟨w.heap.size+2,1,none⟩=false:=by
 obtain ⟨h1,h2,h3,_⟩:=h;exact ⟨Dd _ _ 0 _ _ (0,0) h1,Dd _ _ 0 _ _ (0,0) h2,Dd _ _ 0 _ _ (0,0) h3,Dd _ _ 1 _ _ (0,0) h3,Lib.frozen_of_heap h1 0,Lib.frozen_of_heap h2 0,Lib.frozen_of_heap h3 0,Lib.frozen_of_heap h3 1⟩
theorem D3.kept {w W W2:World} {lv:Value} {m x pl:Int} {row:Option Nat} (h:D3 w W lv m x pl) (hg:W.grownBy W2 row) (hr:∀ k,row=some k→w.heap.size+3≤k):D3 w W2 lv m x pl:=by
 obtain ⟨h1,h2,h3,h4,h5⟩:=h;have ne:∀ k,k<w.heap.size+3→some k≠row:=fun k hk e=>by have:=hr k e.symm;omega
 exact ⟨(hg.block _ (by omega) (ne _ (by omega))).trans h1,(hg.block _ (by omega) (ne _ (by omega))).trans h2,(hg.block _ (by omega) (ne _ (by omega))).trans h3,h4.grown hg (by omega) (fun k hk=>by have:=hr k hk;omega),Dl h5 hg.size⟩
theorem Ck (F O N:Nat) (pl:Int) (u:FrameMode) (w:World) (c0:w.cell? ⟨F,0,none⟩=some (.int .i64 0)) (c1:w.cell? ⟨F,1,none⟩=some (.int .i64 pl)) :
 CallsD Tryz.prog 96 #[.pointer (some ⟨F,0,none⟩),.pointer (some ⟨O,0,none⟩),.pointer (some ⟨N,0,none⟩)] u w fun r u' w'=>u'=u∧(r=.returned (.tuple #[])∧Below w.heap.size w w'):=by
 go_enter_d Tryz.func96,Tryz.ntmps96
 go_wp2_with fail
 refine (aH 0 pl _).mono ?_;rintro r w1 ⟨rfl,hb1⟩;have HB1:=hid hb1;clear hb1;go_wp2
 go_end0
 exact ⟨rfl,HB1.out⟩
theorem Cj (F O N:Nat) (e pl m:Int) (v:Value) (u:FrameMode) (w:World) (he:(e == 0)=false) (c0:w.cell? ⟨F,0,none⟩=some (.int .i64 e)) (c1:w.cell? ⟨F,1,none⟩=some (.int .i64 pl)) (hF:F<w.heap.size) (hO:O<w.heap.size) (hN:N<w.heap.size) (hFO:F≠O) (hFN:F≠N) (hON:O≠N)
 (o0:w.cell? ⟨O,0,none⟩=some v) (n0:w.cell? ⟨N,0,none⟩=some (.int .i64 m)) (y0:w.frozen? ⟨O,0,none⟩=false) (y1:w.frozen? ⟨N,0,none⟩=false) (y2:w.frozen? ⟨F,0,none⟩=false) (y3:w.frozen? ⟨F,1,none⟩=false) :
 CallsD Tryz.prog 96 #[.pointer (some ⟨F,0,none⟩),.pointer (some ⟨O,0,none⟩),.pointer (some ⟨N,0,none⟩)] u w fun r u' w'=>u'=u∧(r=.returned (.tuple #[])∧∃ w1,Below w.heap.size w w1∧w'=(((w1.setCell ⟨O,0,none⟩ (.slice none 0 0)).setCell ⟨N,0,none⟩ (.int .i64 0)).setCell ⟨F,0,none⟩ (.int .i64 e)).setCell ⟨F,1,none⟩ (.int .i64 (-1))):=by
 go_enter_d Tryz.func96,Tryz.ntmps96
 go_wp2_with fail
 refine (aH e pl _).mono ?_;rintro r w1 ⟨rfl,hb1⟩;rw [he];have d0:w1.cell? ⟨F,0,none⟩=some (.int .i64 e):=(hb1.cell hF).trans c0;have HB1:=hid hb1;have hz:=hb1.size;clear hb1;go_wp2_with fail
 refine (bO e _).mono ?_;rintro r w2 ⟨rfl,hb2⟩;have hb3:=HB1.out.trans (hb2.mono hz);have e0:w2.cell? ⟨F,0,none⟩=some (.int .i64 e):=(hb3.cell hF).trans c0;have e1:w2.cell? ⟨F,1,none⟩=some (.int .i64 pl):=(hb3.cell hF).trans c1;have e2:w2.cell? ⟨O,0,none⟩=some v:=(hb3.cell hO).trans o0;have e3:w2.cell? ⟨N,0,none⟩=some (.int .i64 m):=(hb3.cell hN).trans n0;have x0:w2.frozen? ⟨F,0,none⟩=false:=(hb3.frozen hF).trans y2;have x1:w2.frozen? ⟨F,1,none⟩=false:=(hb3.frozen hF).trans y3;have x2:w2.frozen? ⟨O,0,none⟩=false:=(hb3.frozen hO).trans y0;have x3:w2.frozen? ⟨N,0,none⟩=false:=(hb3.frozen hN).trans y1;have HB3:=hid hb3;clear hb2 hb3 c0 c1 o0 n0 y0 y1 y2 y3 d0;go_wp2
 go_end0
 exact ⟨rfl,w2,HB3.out,rfl⟩
end
section
open Go.RowKit
def lu (w:World) (s:List UInt8) (e:Ending) (w':World):Prop :=
 ∃ v,e=.returned (.tuple #[v,.agg #[.int .i64 ((am s).1.1:Nat),.int .i64 (am s).1.2]])∧ax w' w.heap.size v (am s).2∧Below w.heap.size w w'
def TR (w wr:World) (lv bv:Value) (l:List Tok) (b:List Nat):Prop :=
 wr.heap[w.heap.size]? = some (.cells #[lv] 96 (0,0))∧wr.heap[w.heap.size+1]? = some (.cells #[.int .i64 0,.int .i64 (-1)] 28 (0,0)) ∧
  ax wr (w.heap.size+2) lv l∧aG wr (w.heap.size+2) bv b∧Below w.heap.size w wr∧w.heap.size+2≤wr.heap.size
theorem TR.below {w wr w':World} {lv bv:Value} {l:List Tok} {b:List Nat} (h:TR w wr lv bv l b) (hb:Below wr.heap.size wr w'):TR w w' lv bv l b:=by
 obtain ⟨h1,h2,h3,h4,h5,h6⟩:=h;exact ⟨(hb.block _ (by omega)).trans h1,(hb.block _ (by omega)).trans h2,h3.below hb,h4.below hb,h5.trans (hb.mono (by omega)),Dl h6 hb.size⟩
theorem TR.alloc {w wr:World} {lv bv:Value} {l:List Tok} {b:List Nat} (h:TR w wr lv bv l b) (o:Obj):TR w (wr.alloc o) lv bv l b:=h.below ((Below.refl _ _).alloc (Db _) o)
theorem TR.cells {w wr:World} {lv bv:Value} {l:List Tok} {b:List Nat} (h:TR w wr lv bv l b) :
 wr.cell? ⟨w.heap.size,0,none⟩=some lv∧wr.frozen? ⟨w.heap.size,0,none⟩=false∧wr.cell? ⟨w.heap.size+1,0,none⟩=some (.int .i64 0)∧wr.cell? ⟨w.heap.size+1,1,none⟩=some (.int .i64 (-1)) ∧
  wr.frozen? ⟨w.heap.size+1,0,none⟩=false∧wr.frozen? ⟨w.heap.size+1,1,none⟩=false:=by
 obtain ⟨h1,h2,_⟩:=h;exact ⟨Dd _ _ 0 _ _ (0,0) h1,Lib.frozen_of_heap h1 0,Dd _ _ 0 _ _ (0,0) h2,Dd _ _ 1 _ _ (0,0) h2,Lib.frozen_of_heap h2 0,Lib.frozen_of_heap h2 1⟩
theorem TR.begun {w wr w2:World} {lv bv bv2:Value} {o:Obj} {l:List Tok} {b:List Nat} {a:Nat} (h:TR w wr lv bv l b) (ho:aG w2 (w.heap.size+2) bv2 (b++[a])) (hg:(wr.alloc o).grownBy w2 bv.ownBlock):TR w w2 lv bv2 l (b++[a]):=by
 obtain ⟨h1,h2,h3,h4,h5,h6⟩:=h;have hne:∀ k,k<w.heap.size+2→some k≠bv.ownBlock:=fun k hk e=>by
  have:=(h4.lt k e.symm).1;omega
 refine ⟨?_,?_,?_,ho,?_,Dl (by simp;omega) hg.size⟩
 ·rw [hg.block _ (by simp;omega) (hne _ (by omega)),Below.heap_alloc _ _ _ (by omega)];exact h1
 ·rw [hg.block _ (by simp;omega) (hne _ (by omega)),Below.heap_alloc _ _ _ (by omega)];exact h2
 ·exact Dt (h3.alloc o) hg (jV h3 h4 (show 142≠3 by decide))
 ·exact (h5.alloc (by omega) _).grown hg (by simp;omega) (fun g hg=>by have:=(h4.lt g hg).1;omega)
def door (w:World):List Deferred :=
 [{ target:=.fn (Fn.func 34) #[],args:=#[.pointer (some ⟨w.heap.size+1,0,none⟩)] },
  { target:=.fn (Fn.func 95) #[.pointer (some ⟨w.heap.size+1,0,none⟩),.pointer (some ⟨w.heap.size,0,none⟩)],args:=#[] }]
theorem ft {w W:World} {lv bv:Value} {l:List Tok} {b:List Nat} {s:List UInt8} (e:Nat) (pl:Int) (h:TR w W lv bv l b) (he:e≠0) (hrd:am s=((e,pl),[])) (tmps:Array Value)
 (t2:tmps[2]? = some (.pointer (some ⟨w.heap.size,0,none⟩))) (t3:tmps[3]? = some (.pointer (some ⟨w.heap.size+1,0,none⟩))) :
 Leaves Tryz.prog Tryz.f62 tmps (lu w s) (door w) (.panicking [{ v:=.iface 119 (.agg #[.int .i64 (e:Int),.int .i64 pl]),recovered:=false }]) W:=by
 obtain ⟨o0,y0,c0,c1,z0,z1⟩:=h.cells;have hbel:=h.2.2.2.2.1;have hz:=h.2.2.2.2.2;have hbe:((e:Int) == 0)=false:=by simp;omega
 obtain ⟨W2,hW2⟩:∃ W2,(W.setCell ⟨w.heap.size+1,0,none⟩ (.int .i64 (e:Int))).setCell ⟨w.heap.size+1,1,none⟩ (.int .i64 pl)=W2:=⟨_,rfl⟩;have hz2:W2.heap.size=W.heap.size:=by rw [←hW2];simp
 have x0:W2.cell? ⟨w.heap.size+1,0,none⟩=some (.int .i64 (e:Int)):=by rw [←hW2];simp [go_sem,c0]
 have x1:W2.cell? ⟨w.heap.size+1,1,none⟩=some (.int .i64 pl):=by rw [←hW2];simp [go_sem,c1]
 have x2:W2.cell? ⟨w.heap.size,0,none⟩=some lv:=by rw [←hW2];simp [go_sem,o0]
 have x3:W2.frozen? ⟨w.heap.size,0,none⟩=false:=by rw [←hW2];simp [go_sem,y0]
 have hb2:Below w.heap.size w W2:=by rw [←hW2];exact (hbel.setCell (by simp) _).setCell (by simp) _
 have q0:=(DC W2 (.cells #[.int .i64 (e:Int),.int .i64 pl] 119) (⟨w.heap.size+1,0,none⟩:Addr) (by show w.heap.size+1<_;omega)).trans x0;have q1:=(DC W2 (.cells #[.int .i64 (e:Int),.int .i64 pl] 119) (⟨w.heap.size+1,1,none⟩:Addr) (by show w.heap.size+1<_;omega)).trans x1;have q2:=(DC W2 (.cells #[.int .i64 (e:Int),.int .i64 pl] 119) (⟨w.heap.size,0,none⟩:Addr) (by show w.heap.size<_;omega)).trans x2;have hal:Below W2.heap.size W2 (W2.alloc (.cells #[.int .i64 (e:Int),.int .i64 pl] 119)):=(Below.refl _ _).alloc (Db _) _;have q3:(W2.alloc (.cells #[.int .i64 (e:Int),.int .i64 pl] 119)).frozen? ⟨w.heap.size,0,none⟩=false:=(hal.frozen (by show w.heap.size<_;omega)).trans x3;unfold door;refine DW (f:=34) (args:=#[.pointer (some ⟨w.heap.size+1,0,none⟩)]) (by simp) (by simp [go_sem]) ?_;refine (jq (w.heap.size+1) e pl 0 (-1) [] W (by omega) c0 c1 z0 z1).mono ?_;rintro r u' w2 ⟨rfl,rfl,rfl⟩;rw [hW2];refine DW (f:=95) (args:=#[.pointer (some ⟨w.heap.size+1,0,none⟩),.pointer (some ⟨w.heap.size,0,none⟩)]) (by simp [settle]) (by simp [go_sem]) ?_;refine (zK (w.heap.size+1) w.heap.size e pl lv _ _ hbe q0 q1 (by simp;omega) q2 q3).mono ?_
 rintro r u' w2 ⟨rfl,rfl,w3,hb3,rfl⟩;have p0:(w3.setCell ⟨w.heap.size,0,none⟩ (.slice none 0 0)).cell? ⟨w.heap.size+1,0,none⟩=some (.int .i64 (e:Int)):=by
  rw [Er _ _ _ _ (by simp)];exact (hb3.cell (by simp;omega)).trans q0
 have p1:(w3.setCell ⟨w.heap.size,0,none⟩ (.slice none 0 0)).cell? ⟨w.heap.size+1,1,none⟩=some (.int .i64 pl):=by
  rw [Er _ _ _ _ (by simp)];exact (hb3.cell (by simp;omega)).trans q1
 have p2:(w3.setCell ⟨w.heap.size,0,none⟩ (.slice none 0 0)).cell? ⟨w.heap.size,0,none⟩=some (.slice none 0 0):=ET _ _ _ ((hb3.cell (by simp;omega)).trans q2);have hb4:Below w.heap.size w (w3.setCell ⟨w.heap.size,0,none⟩ (.slice none 0 0)):=((hb2.trans (hal.mono (by omega))).trans (hb3.mono (by simp;omega))).setCell (by simp) _;refine ⟨.tuple #[.slice none 0 0,.agg #[.int .i64 (e:Int),.int .i64 pl]],by simp [results,Tryz.results62,go_sem,t2,t3,p0,p1,p2],.slice none 0 0,?_,?_,hb4⟩
 ·rw [hrd]
 ·rw [hrd];exact fK _ _
theorem pg {w W:World} {lv bv:Value} {l:List Tok} {b:List Nat} {s:List UInt8} (h:TR w W lv bv l b) (hrd:am s=((0,-1),l)) (tmps:Array Value)
 (t2:tmps[2]? = some (.pointer (some ⟨w.heap.size,0,none⟩))) (t3:tmps[3]? = some (.pointer (some ⟨w.heap.size+1,0,none⟩))) :
 Leaves Tryz.prog Tryz.f62 tmps (lu w s) (door w) .returning W:=by
 obtain ⟨o0,y0,c0,c1,z0,z1⟩:=h.cells;have hz:=h.2.2.2.2.2;unfold door;refine DW (f:=34) (args:=#[.pointer (some ⟨w.heap.size+1,0,none⟩)]) (by simp) (by simp [go_sem]) ?_;refine (jp _ W).mono ?_;rintro r u' w2 ⟨rfl,rfl,rfl⟩;refine DW (f:=95) (args:=#[.pointer (some ⟨w.heap.size+1,0,none⟩),.pointer (some ⟨w.heap.size,0,none⟩)]) (by simp [settle]) (by simp [go_sem]) ?_;refine (zL (w.heap.size+1) w.heap.size (-1) _ _ c0 c1).mono ?_;rintro r u' w3 ⟨rfl,rfl,hb3⟩;have h3:=h.below hb3;obtain ⟨p2,_,p0,p1,_,_⟩:=h3.cells;obtain ⟨_,_,k3,_,k5,_⟩:=h3;refine ⟨.tuple #[lv,.agg #[.int .i64 0,.int .i64 (-1)]],by simp [results,Tryz.results62,go_sem,t2,t3,p0,p1,p2],lv,?_,?_,k5⟩
 ·rw [hrd];rfl
 ·rw [hrd];exact k3.mono (by omega)
end
section
open Go.RowKit
def RoT (w:World) (R:Nat) (T:ByteArray) (e:Nat):Prop:=w.heap[R]? = some (.cells #[.string T,errV e] 132 (0,0))
def Ro (w:World) (R:Nat) (l:List UInt8) (e:Nat):Prop:=∃ T:ByteArray,T.data.toList=l∧T.size≤1000000∧RoT w R T e
theorem RoT.cells {w:World} {R:Nat} {T:ByteArray} {e:Nat} (h:RoT w R T e):w.cell? ⟨R,0,none⟩=some (.string T)∧w.cell? ⟨R,1,none⟩=some (errV e)∧w.frozen? ⟨R,0,none⟩=false∧w.frozen? ⟨R,1,none⟩=false∧R<w.heap.size :=
 ⟨Dd _ _ 0 _ _ (0,0) h,Dd _ _ 1 _ _ (0,0) h,Lib.frozen_of_heap h 0,Lib.frozen_of_heap h 1,(DF.1 h).1⟩
theorem Ro.lt {w:World} {R:Nat} {l:List UInt8} {e:Nat} (h:Ro w R l e):R<w.heap.size:=by obtain ⟨T,_,_,h⟩:=h;exact h.cells.2.2.2.2
theorem Ro.kept {w w':World} {R:Nat} {l:List UInt8} {e:Nat} {row:Option Nat} (h:Ro w R l e) (hg:w.grownBy w' row) (hne:row≠some R):Ro w' R l e:=by
 have hl:=h.lt;obtain ⟨T,h1,h2,h3⟩:=h;exact ⟨T,h1,h2,(hg.block R hl (fun e=>hne e.symm)).trans h3⟩
theorem Ro.below {w w':World} {R:Nat} {l:List UInt8} {e:Nat} (h:Ro w R l e) (hb:Below w.heap.size w w'):Ro w' R l e:=h.kept (ag hb) (by simp)
theorem RoT.put {w:World} {R:Nat} {T:ByteArray} {e:Nat} (h:RoT w R T e) (X:ByteArray) (x:Nat):RoT ((w.setCell ⟨R,1,none⟩ (errV x)).setCell ⟨R,0,none⟩ (.string X)) R X x:=by
 unfold RoT at h ⊢;simp [World.setCell,Dw,h]
theorem jD {w w1:World} {R:Nat} (h:Below w.heap.size w w1) (u v:Value):w.grownBy ((w1.setCell ⟨R,1,none⟩ u).setCell ⟨R,0,none⟩ v) (some R) :=
 ⟨h.os,h.tape,h.output,by simpa using h.size,fun k hk hne=>by
  have hk2:R≠k:=fun e=>hne (by rw [e])
  simp only [World.setCell,Dw,if_neg hk2]
  exact h.block k hk⟩
theorem ml (w:World) (R:Nat):w.grownBy w (some R):=⟨rfl,rfl,rfl,Db _,fun _ _ _=>rfl⟩
theorem ek:errV 0=.nilIface:=rfl
theorem jv (x:Nat):errV x=.nilIface∨errV x=.iface 26 (.int .i64 x):=by
 by_cases h:x=0
 ·subst h;exact .inl rfl
 ·exact .inr (by unfold errV;rw [if_neg h])
theorem gT {e:Nat} (h:e≠0):errV e=.iface 26 (.int .i64 e):=by unfold errV;rw [if_neg h]
theorem jt {T:ByteArray} {k:Nat}:(T.extract k T.size).data.toList=T.data.toList.drop k:=by
 exact aS T k
theorem jy {T:ByteArray} {k n:Nat} (h:T.size≤n):(T.extract k T.size).size≤n:=by rw [DJ];omega
theorem yk (t:ByteArray) (M:Nat) (most:Int) (n k x:Nat) (w:World) (ht:t.size≤maxLen) (h0 : -9223372036854775808≤most) (h1:most≤9223372036854775807) (hM:w.cell? ⟨M,0,none⟩=some (.int .i64 most)) (hi:intL t.data.toList most=(n,k,x)) :
 Calls Tryz.prog 116 #[.string t,.pointer (some ⟨M,0,none⟩)] w fun e w'=>e=.returned (.tuple #[.int .i64 (n:Int),.int .i64 (k:Int),errV x])∧Below w.heap.size w w':=by
 have HI:Hid (intV (intL t.data.toList most)=.tuple #[.int .i64 (n:Int),.int .i64 (k:Int),errV x]):=hid (by rw [hi];rfl);clear hi;obtain ⟨q,hq⟩:∃ q,errV x=q:=⟨_,rfl⟩;rw [hq] at HI ⊢;clear hq;go_enter Tryz.func116,Tryz.ntmps116
 go_wp2_with fail
 refine (fG t most w ht h0 h1).mono ?_;rintro r w' ⟨rfl,rfl⟩;rw [HI.out];go_wp2;go_ret3;exact ⟨rfl,Below.refl _ _⟩
theorem yc (t:ByteArray) (w:World) (ht:t.size≤maxLen) :
 Calls Tryz.prog 117 #[.string t] w fun e w'=>e=.returned (.tuple #[.int .i64 ((aq t.data.toList).1:Nat),.int .i64 ((aq t.data.toList).2.1:Nat),errV (aq t.data.toList).2.2])∧Below w.heap.size w w':=by
 unfold maxLen at ht;by_cases h0:0<t.size
 ·have hne : (t.toList == []) = false := by
   have h:=eS h0;rw [bne] at h
   simpa using h
  obtain ⟨c, hc⟩ : ∃ c, t[0]'h0 = c := ⟨_, rfl⟩;have hl:aq t.data.toList=if c.toNat<1∨4<c.toNat then (0,0,1) else (c.toNat,1,0):=by
   have h1:t.data.toList=c::t.data.toList.drop 1:=by
    have h2:0<t.data.toList.length:=by rw [←ac];exact h0
    have h3:=DA h2;rw [E4] at h3;have h4 : t.data.toList[0]'h2 = c := hc;rw [h4] at h3;exact h3
   rw [h1,mu]
  have HL:=hid hl;have d1:(0:Int)<(t.size:Int):=by omega
  clear hl;by_cases h1:c.toNat<1
  ·have HR:Hid (aq t.data.toList=(0,0,1)):=hid (by rw [HL.out,if_pos (.inl h1)]);have d2:(c.toNat:Int)<1:=by omega
   go_enter Tryz.func117,Tryz.ntmps117
   go_wp2;go_ret3;rw [HR.out];exact ⟨rfl,Below.refl _ _⟩
  ·by_cases h4:4<c.toNat
   ·have HR:Hid (aq t.data.toList=(0,0,1)):=hid (by rw [HL.out,if_pos (.inr h4)]);have d2:1≤(c.toNat:Int):=by omega
    have d3:4<(c.toNat:Int):=by omega
    go_enter Tryz.func117,Tryz.ntmps117
    go_wp2;go_ret3;rw [HR.out];exact ⟨rfl,Below.refl _ _⟩
   ·have HR:Hid (aq t.data.toList=(c.toNat,1,0)):=hid (by rw [HL.out,if_neg (by omega)]);have d2:1≤(c.toNat:Int):=by omega
    have d3:(c.toNat:Int)≤4:=by omega
    go_enter Tryz.func117,Tryz.ntmps117
    go_wp2;go_ret3;rw [HR.out];exact ⟨rfl,Below.refl _ _⟩
 ·obtain rfl:=eV h0;go_enter Tryz.func117,Tryz.ntmps117
  go_wp2;go_ret3;exact ⟨rfl,Below.refl _ _⟩
theorem yd (t:ByteArray) (n k x:Nat) (w:World) (ht:t.size≤maxLen) (hi:aq t.data.toList=(n,k,x)) :
 Calls Tryz.prog 117 #[.string t] w fun e w'=>e=.returned (.tuple #[.int .i64 (n:Int),.int .i64 (k:Int),errV x])∧Below w.heap.size w w' :=
 (yc t w ht).mono fun e w' ⟨h1,h2⟩=>⟨by rw [h1,hi],h2⟩
theorem yv (t K:ByteArray) (k x:Nat) (w:World) (ht:t.size≤1000000) (hi:getS t.data.toList=(K.data.toList,k,x)) :
 Calls Tryz.prog 119 #[.string t] w fun e w'=>e=.returned (.tuple #[.string K,.int .i64 (k:Int),errV x])∧Below w.heap.size w w' :=
 (kA t w (by omega)).mono fun e w' ⟨h1,h2⟩=>⟨by rw [h1,hi];rfl,h2⟩
theorem qo (R:Nat) (F:Value) (l:List UInt8) (e:Nat) (w:World) (h:Ro w R l e) (he:e≠0) :
 Calls Tryz.prog 115 #[.pointer (some ⟨R,0,none⟩),F] w fun r w'=>r=.returned (.int .i64 0)∧w=w':=by
 obtain ⟨T,_,_,hrow⟩:=h;obtain ⟨_,c1,_,_,_⟩:=hrow.cells;rw [gT he] at c1;clear hrow he;go_enter Tryz.func115,Tryz.ntmps115
 go_wp2;go_ret;exact ⟨rfl,rfl⟩
theorem xW (R:Nat) (F:Value) (l:List UInt8) (e:Nat) (w:World) (h:Ro w R l e) (he:e≠0) :
 Calls Tryz.prog 118 #[.pointer (some ⟨R,0,none⟩),F] w fun r w'=>r=.returned (.string ⟨#[]⟩)∧w=w':=by
 obtain ⟨T,_,_,hrow⟩:=h;obtain ⟨_,c1,_,_,_⟩:=hrow.cells;rw [gT he] at c1;clear hrow he;go_enter Tryz.func118,Tryz.ntmps118
 go_wp2;go_ret;exact ⟨rfl,rfl⟩
theorem xV (R:Nat) (l:List UInt8) (M:Nat) (most:Int) (n:Nat) (k x:Nat) (w:World) (h:Ro w R l 0) (hm0 : -9223372036854775808≤most) (hm1:most≤9223372036854775807) (hM:w.cell? ⟨M,0,none⟩=some (.int .i64 most)) (hi:intL l most=(n,k,x)) (hk:k≤l.length) :
 Calls Tryz.prog 115 #[.pointer (some ⟨R,0,none⟩),.func (.func 116) #[] #[.pointer (some ⟨M,0,none⟩)]] w fun r w'=>r=.returned (.int .i64 (n:Int))∧Ro w' R (l.drop k) x∧w.grownBy w' (some R):=by
 obtain ⟨T,rfl,hT,hrow⟩:=h;have HI:=hid hi;have HT:=hid hT;have HROW:=hid hrow;have HM:Hid (T.size≤maxLen):=hid (by unfold maxLen;omega);obtain ⟨c0,c1,z0,z1,hR⟩:=hrow.cells;rw [ek] at c1;have d1:(0:Int)≤(k:Int):=by omega
 have d2:(k:Int)≤(T.size:Int):=by rw [ac];omega
 have H0:=hid hm0;have H1:=hid hm1;have HMC:=hid hM;clear hm0 hm1 hM;clear hi hrow hT hk;rcases jv x with hq | hq
 all_goals
  have HQ:=hid hq;clear hq;go_enter Tryz.func115,Tryz.ntmps115
  go_wp2_with fail
  refine (yk T M most n k x w HM.out H0.out H1.out HMC.out HI.out).mono ?_;rintro r w1 ⟨rfl,hb1⟩;rw [HQ.out];have HB1:=hid hb1;have HR1:Hid (RoT w1 R T 0):=hid ((hb1.block R hR).trans HROW.out);clear c0 c1 z0 z1 hb1;obtain ⟨c0,c1,z0,z1,_⟩:=HR1.out.cells;rw [ek] at c1;go_wp2;go_ret;refine ⟨rfl,⟨T.extract k T.size,jt,jy HT.out,?_⟩,jD HB1.out _ _⟩;rw [←HQ.out];exact HR1.out.put _ x
theorem xU (R:Nat) (l:List UInt8) (n:Nat) (k x:Nat) (w:World) (h:Ro w R l 0)  (hi:aq l=(n,k,x)) (hk:k≤l.length) :
 Calls Tryz.prog 115 #[.pointer (some ⟨R,0,none⟩),.func (.func 117) #[] #[]] w fun r w'=>r=.returned (.int .i64 (n:Int))∧Ro w' R (l.drop k) x∧w.grownBy w' (some R):=by
 obtain ⟨T,rfl,hT,hrow⟩:=h;have HI:=hid hi;have HT:=hid hT;have HROW:=hid hrow;have HM:Hid (T.size≤maxLen):=hid (by unfold maxLen;omega);obtain ⟨c0,c1,z0,z1,hR⟩:=hrow.cells;rw [ek] at c1;have d1:(0:Int)≤(k:Int):=by omega
 have d2:(k:Int)≤(T.size:Int):=by rw [ac];omega
 clear hi hrow hT hk;rcases jv x with hq | hq
 all_goals
  have HQ:=hid hq;clear hq;go_enter Tryz.func115,Tryz.ntmps115
  go_wp2_with fail
  refine (yd T n k x w HM.out HI.out).mono ?_;rintro r w1 ⟨rfl,hb1⟩;rw [HQ.out];have HB1:=hid hb1;have HR1:Hid (RoT w1 R T 0):=hid ((hb1.block R hR).trans HROW.out);clear c0 c1 z0 z1 hb1;obtain ⟨c0,c1,z0,z1,_⟩:=HR1.out.cells;rw [ek] at c1;go_wp2;go_ret;refine ⟨rfl,⟨T.extract k T.size,jt,jy HT.out,?_⟩,jD HB1.out _ _⟩;rw [←HQ.out];exact HR1.out.put _ x
theorem xX (R:Nat) (l:List UInt8) (K:ByteArray) (k x:Nat) (w:World) (h:Ro w R l 0)  (hi:getS l=(K.data.toList,k,x)) (hk:k≤l.length) :
 Calls Tryz.prog 118 #[.pointer (some ⟨R,0,none⟩),.func (.func 119) #[] #[]] w fun r w'=>r=.returned (.string K)∧Ro w' R (l.drop k) x∧w.grownBy w' (some R):=by
 obtain ⟨T,rfl,hT,hrow⟩:=h;have HI:=hid hi;have HT:=hid hT;have HROW:=hid hrow;have HM:Hid (T.size≤maxLen):=hid (by unfold maxLen;omega);obtain ⟨c0,c1,z0,z1,hR⟩:=hrow.cells;rw [ek] at c1;have d1:(0:Int)≤(k:Int):=by omega
 have d2:(k:Int)≤(T.size:Int):=by rw [ac];omega
 clear hi hrow hT hk;rcases jv x with hq | hq
 all_goals
  have HQ:=hid hq;clear hq;go_enter Tryz.func118,Tryz.ntmps118
  go_wp2_with fail
  refine (yv T K k x w HT.out HI.out).mono ?_;rintro r w1 ⟨rfl,hb1⟩;rw [HQ.out];have HB1:=hid hb1;have HR1:Hid (RoT w1 R T 0):=hid ((hb1.block R hR).trans HROW.out);clear c0 c1 z0 z1 hb1;obtain ⟨c0,c1,z0,z1,_⟩:=HR1.out.cells;rw [ek] at c1;go_wp2;go_ret;refine ⟨rfl,⟨T.extract k T.size,jt,jy HT.out,?_⟩,jD HB1.out _ _⟩;rw [←HQ.out];exact HR1.out.put _ x
theorem pF {w w':World} {o:Obj} {row:Option Nat} (h:(w.alloc o).grownBy w' row):w.grownBy w' row :=
 ⟨h.os,h.tape,h.output,Dl (by simp) h.size,fun k hk hne=>(h.block k (by simp;omega) hne).trans (Below.heap_alloc _ _ _ hk)⟩
theorem gi (R:Nat) (most:Int) (l l':List UInt8) (e e' n:Nat) (w:World) (h:Ro w R l e) (hm0 : -9223372036854775808≤most) (hm1:most≤9223372036854775807) (hn:numS most l e=(n,l',e')) :
 Calls Tryz.prog 80 #[.pointer (some ⟨R,0,none⟩),.int .i64 most] w fun r w'=>r=.returned (.int .i64 (n:Int))∧Ro w' R l' e'∧w.grownBy w' (some R):=by
 have hmf:∀ (fn:Fn) (first cap:Array Value) (w:World),(Instr.makeFunc fn first cap).run Tryz.prog w=.ok (.func fn first cap) w:=fun _ _ _ _=>rfl
 have H:=hid (h.below ((Below.refl _ _).alloc (Db _) (.cells #[.int .i64 most] 3)));by_cases he:e=0
 ·subst he;obtain ⟨n',k,x,hi⟩:∃ n k x,intL l most=(n,k,x):=⟨_,_,_,rfl⟩;rw [cL hi] at hn;injection hn with i1 hn;injection hn with i2 i3
  subst i1 i2 i3;have HI:=hid hi;have HK:=hid (pM hi).1;have H0:=hid hm0;have H1:=hid hm1;clear hi h hm0 hm1;go_enter Tryz.func80,Tryz.ntmps80
  go_wp2_with fail
  refine (xV R l w.heap.size most n' k x _ H.out H0.out H1.out (by simp) HI.out HK.out).mono ?_;rintro r w1 ⟨rfl,hr1,hg1⟩;have HR1:=hid hr1;have HG1:=hid (pF hg1);clear hr1 hg1;go_wp2;go_ret;exact ⟨rfl,HR1.out,HG1.out⟩
 ·rw [dp he] at hn;injection hn with i1 hn;injection hn with i2 i3
  subst i1 i2 i3;clear h hm0 hm1;go_enter Tryz.func80,Tryz.ntmps80
  go_wp2_with fail
  refine (qo R _ l e _ H.out he).mono ?_;rintro r w1 ⟨rfl,rfl⟩;go_wp2;go_ret;exact ⟨rfl,H.out,pF (ml _ _)⟩
theorem yb (R:Nat) (l l':List UInt8) (e e' n:Nat) (w:World) (h:Ro w R l e) (hn:dH l e=(n,l',e')) :
 Calls Tryz.prog 115 #[.pointer (some ⟨R,0,none⟩),.func (.func 117) #[] #[]] w fun r w'=>r=.returned (.int .i64 (n:Int))∧Ro w' R l' e'∧w.grownBy w' (some R):=by
 by_cases he:e=0
 ·subst he;obtain ⟨n',k,x,hi⟩:∃ n k x,aq l=(n,k,x):=⟨_,_,_,rfl⟩;rw [jN hi] at hn;injection hn with i1 hn;injection hn with i2 i3
  subst i1 i2 i3;exact xU R l n' k x w h hi (wY hi).1
 ·rw [pW he] at hn;injection hn with i1 hn;injection hn with i2 i3
  subst i1 i2 i3;refine (qo R _ l e w h he).mono ?_;rintro r w' ⟨rfl,rfl⟩;exact ⟨rfl,h,ml _ _⟩
theorem yu (R:Nat) (l l':List UInt8) (K:ByteArray) (e e':Nat) (w:World) (h:Ro w R l e) (hn:dc l e=(K.data.toList,l',e')) :
 Calls Tryz.prog 118 #[.pointer (some ⟨R,0,none⟩),.func (.func 119) #[] #[]] w fun r w'=>r=.returned (.string K)∧Ro w' R l' e'∧w.grownBy w' (some R):=by
 by_cases he:e=0
 ·subst he;obtain ⟨t,k,x,hi⟩:∃ n k x,getS l=(n,k,x):=⟨_,_,_,rfl⟩;rw [nc hi] at hn;injection hn with i1 hn;injection hn with i2 i3
  subst i1 i2 i3;exact xX R l K k x w h hi (pA hi).1
 ·rw [iM he] at hn;injection hn with i1 hn;injection hn with i2 i3
  subst i2 i3;refine (xW R _ l e w h he).mono ?_;rintro r w' ⟨rfl,rfl⟩;refine ⟨?_,h,ml _ _⟩;have:K=⟨#[]⟩:=by rw [←bF K,←i1]
  rw [this]
end
