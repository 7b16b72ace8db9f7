import Derived.Test.YtagoidpkbloflaaGreatDoorKlq
import Derived.Test.YtagoidpkbloflaaGreatDoorKl15
namespace Go.Proofs.YtagoidpkbloflaaGreatDoor
open Lib (hid)
set_option maxRecDepth 100000
set_option maxHeartbeats 8000000
section
open Go.RowKit
theorem kI (l:List Ent) (h:∀ e∈l,e.time≤1099511627776):(aN l).length≤10 * l.length:=by
 induction l with
 | nil=>exact Db _
 | cons e t ih =>
  rw [s3,Df,DM];have h1:=h e EO;have h2:=ih fun x hx=>h x (Eu _ hx)
  have h3:=aK (n:=e.time.toNat) (by omega);omega
theorem Ap (R:List (List Ent)):∀ least:Int,0≤least→eq least R→(∀ e∈R.flatten,e.rep≤200∧e.time≤1099511627776)→R.flatten.length≤1000→(bg least R).length≤30 * R.flatten.length:=by
 induction R with
 | nil=>intro _ _ _ _ _;exact Db _
 | cons run rs ih =>
  intro least h0 h hb hl;obtain ⟨h1,h2,h3,h4⟩:=h;have hpos:0<run.length:=EJ.2 h1;have hlast:=gR h3 h1;rw [EG,Df] at hl ⊢;rw [EG] at hb;have h5:=ih _ (by omega) h4 (fun e he=>hb e (List.mem_append_right _ he)) (by omega);have h6:=kI run (fun e he=>(hb e (List.mem_append_left _ he)).2);have hh:(run.headD ⟨0,0⟩).rep≤200:=by
   cases run with
   | nil=>exact absurd rfl h1
   | cons e t=>exact (hb e (by simp)).1
  have h7:=aK (n:=((run.headD ⟨0,0⟩).rep-least).toNat) (by omega);have h8:=aK (n:=run.length-1) (by omega);rw [bg,Df];unfold runB;simp only [Df]
  omega
theorem Aq (R:List (List Ent)):∀ least:Int,eq least R→R.length≤R.flatten.length:=by
 induction R with
 | nil=>intro _ _;exact Db _
 | cons run rs ih =>
  intro least hR;have:=ih _ hR.2.2.2;have h3:0<run.length:=EJ.2 hR.1;rw [EG,Df,DM];omega
theorem fT {l:List Ent} (h:cG l):(aC l).length≤500∧(aM l).length≤16:=by
 obtain ⟨h1,h2⟩:=ko h.2;have h3:=Ap (aM l) 0 (Int.le_refl _) h1 (fun e he=>by rw [h2] at he;have:=gh h.2 e he;omega) (by rw [h2];have:=h.1;omega);have h4:=Aq _ _ h1;rw [h2] at h3 h4;have h5:=aK (n:=(aM l).length) (by have:=h.1;omega);have h6:=h.1;unfold aC;rw [Df];omega
theorem ll (B b n:Nat) (l:List UInt8) (w:World) (h:b6 w B b l) (hn:n≤1099511627776) (hl:l.length≤1000000) (hBw:B≤w.heap.size) :
 Calls Tryz.prog 172 #[.int .i64 (n:Int),.pointer (some ⟨b,0,none⟩)] w fun e w'=>e=.returned (.tuple #[])∧b6 w' B b (l++putL n)∧Below B w w'∧NonB b w w':=by
 have H:=hid h;have hp:=aK (n:=n) (by omega);have hk:IntKind.u64.wrap (n:Int)=(n:Int):=DI _ (by omega);clear h;go_enter Tryz.func172,Tryz.ntmps172
 go_wp2_with fail
 refine (ka n _ (by omega)).mono ?_;rintro r w1 ⟨rfl,hb1⟩;have H1:=hid (H.out.below hb1);have HB1:=hid (hb1.mono hBw);have HN1:=hid (NonB.of (b:=b) hb1);have hz:=hb1.size;clear hb1;go_wp2_with fail
 refine (ue B b l _ _ H1.out (by rw [bm];omega) (by omega)).mono ?_;rintro r w2 ⟨rfl,hbl,hb2,hn2⟩;have H2:=hid hbl;have HB2:=hid (HB1.out.trans hb2);have HN2:=hid (HN1.out.trans hn2 hz);clear hbl hb2 hn2;go_wp2
 go_end0
 exact ⟨rfl,H2.out,HB2.out,HN2.out⟩
def tr (w:World) (l:List Ent) (e:Ending) (w':World):Prop :=
 ∃ err,e=.returned (.tuple #[.string ⟨(cj l).toArray⟩,err])∧az w' err (au l)∧Below w.heap.size w w'
def WR (w:World) (B b:Nat) (rv:Value) (vs:List Value) (pre:List UInt8) (wr:World):Prop :=
 b6 wr w.heap.size b pre∧aL wr B rv vs∧b<B∧B≤wr.heap.size∧Below w.heap.size w wr
theorem WR.put {w:World} {B b:Nat} {rv:Value} {vs:List Value} {pre pre':List UInt8} {wr w':World} (h:WR w B b rv vs pre wr) (h1:b6 w' w.heap.size b pre') (h2:Below w.heap.size wr w') (h3:NonB b wr w'):WR w B b rv vs pre' w':=by
 obtain ⟨g1,g2,g3,g4,g5⟩:=h;refine ⟨h1,?_,g3,Dl g4 h2.size,g5.trans h2⟩;refine NonB.row h3 g2 (by decide) (fun e=>?_);have:=(g2.lt b e).1;omega
theorem WR.alloc {w:World} {B b:Nat} {rv:Value} {vs:List Value} {pre:List UInt8} {wr:World} (h:WR w B b rv vs pre wr) (o:Obj):WR w B b rv vs pre (wr.alloc o):=by
 obtain ⟨g1,g2,g3,g4,g5⟩:=h;exact ⟨g1.alloc o,g2.alloc o,g3,Dl g4 (by simp),g5.alloc g5.size o⟩
theorem Co (v:Value) (l:List Ent) (w:World) (hv:ae w v l) (hl:l.length≤9223372036854775807) :
 Calls Tryz.prog 130 #[v] w (tr w l):=by
 have HV:=hid hv;have HLL:=hid hl;obtain ⟨a1,c1,rfl,_⟩:=hv.form;obtain ⟨n,hn⟩:∃ n,n=l.length:=⟨_,rfl⟩;rw [←hn] at HV ⊢;clear hv hl hn;by_cases h0:(au l).1=0
 ·have H0:=hid h0;have hrt:=(ec l).1 h0;have HW:Hid (cj l=aC l):=hid (show cj l=aC l by unfold cj;rw [if_pos h0]);have HVG:=hid (oc h0);obtain ⟨hr1,hr2⟩:=ko hrt.2;obtain ⟨hwl,hrl⟩:=fT hrt;have HIN:Hid (∀ run∈aM l,run.length≤16∧∀ e∈run,0≤e.rep∧e.rep≤200∧1≤e.time∧e.time≤1099511627776):=hid (show ∀ run∈aM l,run.length≤16∧∀ e∈run,0≤e.rep∧e.rep≤200∧1≤e.time∧e.time≤1099511627776 from fun run hr=>by
   refine ⟨Dl (List.sublist_flatten_of_mem hr).length_le (by rw [hr2];exact hrt.1),fun e he=>?_⟩;have:=gh hrt.2 e (by rw [←hr2];exact List.mem_flatten.2 ⟨run,hr,he⟩);omega)
  have HRM:Hid (∀ e∈l,0≤e.rep∧e.rep≤1000000):=hid (show ∀ e∈l,0≤e.rep∧e.rep≤1000000 from fun e he=>by have:=gh hrt.2 e he;omega);have HL16:=hid hrt.1;have HWL:=hid hwl;have HVW:Hid (putL (aM l).length++bg 0 (aM l)=aC l):=rfl;obtain ⟨R,hR⟩:∃ R,aM l=R:=⟨_,rfl⟩;rw [hR] at hr1 hrl HIN HVW;have HR:=hid hR;have HR1:=hid hr1;have hmf:∀ (fn:Fn) (first cap:Array Value) (w:World),(Instr.makeFunc fn first cap).run Tryz.prog w=.ok (.func fn first cap) w:=fun _ _ _ _=>rfl
  obtain ⟨m,hm⟩:∃ m,m=R.length:=⟨_,rfl⟩;rw [←hm] at hrl HVW;have HM:=hid hm;clear h0 hrt hr1 hr2 hwl hR hm;go_enter Tryz.func130,Tryz.ntmps130
  go_wp2_with fail
  refine (de _ l _ HV.out HLL.out).mono ?_;rintro r w0 ⟨err,rfl,hat,hb0⟩;obtain rfl:=hat.nil H0.out;have HB0:=hid hb0;have hz0:=hb0.size;clear hat hb0;go_wp2_with fail
  refine (v7 _ l _ ((HV.out.below HB0.out).alloc _) (by have:=HL16.out;omega) HRM.out).mono ?_;rintro r w1 ⟨rv,vs,rfl,hown,hare,hlen,hb1⟩;rw [HR.out] at hare hlen;have HA:=hid (hare w HV.out);obtain ⟨b,hbe⟩:∃ b,b=w0.heap.size:=⟨_,rfl⟩;have hz1:=hb1.size;rw [DE] at hz1 hown;have HWR:Hid (WR w (b+1) b rv vs [] w1):=hid (show WR w (b+1) b rv vs [] w1 by
   subst hbe;exact ⟨(oM w0 w.heap.size hz0).below hb1,hown,Du _,hz1,(HB0.out.alloc hz0 _).trans (hb1.mono (by simp;omega))⟩)
  have hrvl:∃ a c,rv=.slice a m c:=by
   rcases hown.forms with ⟨hr,hn⟩ | ⟨g,cap,hr,_⟩
   ·refine ⟨none,0,?_⟩;rw [hr,HM.out,←hlen,hn];rfl
   ·exact ⟨_,cap,by rw [hr,hlen,HM.out]⟩
  obtain ⟨ra,rc,rfl⟩:=hrvl;have hbz:w.heap.size≤b:=by omega
  rw [←hbe];have HBE:=hid hbe;clear hown hare hlen hb1 hbe;go_wp2_with fail
  refine (ll w.heap.size b m [] _ HWR.out.1 (by omega) (by simp) (by have:=HWR.out.2.2.2.1;omega)).mono ?_;rintro r w2 ⟨rfl,hbl,hb2,hn2⟩;rw [E7] at hbl;have HWR2:=hid (HWR.out.put hbl hb2 hn2);clear hbl hb2 hn2;go_wp2
  go_loopw [8,27] (fun lv i wr=>∃ (k:Nat) (least:Int) (pre:List UInt8),k≤m∧i=.int .i64 k∧lv=.int .i64 least∧0≤least∧least≤300∧pre++bg least (R.drop k)=aC l∧eq least (R.drop k)∧WR w (b+1) b (.slice ra m rc) vs pre wr) (fun _ i _=>m-(intOf i).toNat)
  case atStart=>exact ⟨0,0,putL m,by omega,rfl,rfl,by omega,by omega,HVW.out,HR1.out,HWR2.out⟩
  case round =>
   obtain ⟨k,least,pre,hk,rfl,rfl,hl0,hl3,heq,hrun,hwr⟩:=hrel;have HWK:=hid hwr;have HEQ:=hid heq;have hpre:pre.length≤500:=by have:=HWL.out;rw [←heq,Df] at this;omega
   clear hwr;by_cases hlt:k<m
   ·obtain ⟨run, hru⟩ : ∃ run, R[k]? = some run := ⟨R[k]'(by have := HM.out; omega), Di _⟩;have hRd:R.drop k=run::R.drop (k+1):=by
     obtain ⟨h1,h2⟩:=Do.1 hru;rw [DA h1,h2]
    rw [hRd] at hrun heq;obtain ⟨g1,g2,g3,g4⟩:=hrun;obtain ⟨hr16,hre⟩:=HIN.out run (DB hru);have hpos:0<run.length:=EJ.2 g1;obtain ⟨vk,hvk,hiv⟩:=ox HA.out hru;have HIV:=hid hiv;obtain ⟨bb,off,cc,rfl,hcc,hbb,hcs⟩:=hiv.lies hpos;have hlast:=gR g3 g1;have h0e:run[0]? = some (run.headD ⟨0,0⟩):=by
     cases run with
     | nil=>exact absurd rfl g1
     | cons e t=>rfl
    have hhead:=hre _ (DB h0e);have hlt2:=hre _ (show run.getLastD ⟨0,0⟩∈run by
     rw [List.getLastD_eq_getLast?,List.getLast?_eq_getElem?,Di (show run.length-1<run.length by omega)];exact List.getElem_mem _)
    have p0:w.cell? ⟨bb,off,none⟩=some (.int .i64 (run.headD ⟨0,0⟩).rep):=by
     have:=hcs 0 _ ((cZ run 0 0 _ h0e (by omega)).trans rfl)
     simpa using this
    have HCS:=hid hcs;have HG4:=hid g4;have HRE:=hid hre;have HRN:=hid g1;obtain ⟨q,hq⟩:∃ q,q=run.length:=⟨_,rfl⟩;have HQ:=hid hq;have HBN:Hid (pre++(putL ((run.headD ⟨0,0⟩).rep-least).toNat++putL (q-1)++aN run)++bg ((run.getLastD ⟨0,0⟩).rep+2) (R.drop (k+1))=aC l):=hid (show pre++(putL ((run.headD ⟨0,0⟩).rep-least).toNat++putL (q-1)++aN run)++bg ((run.getLastD ⟨0,0⟩).rep+2) (R.drop (k+1))=aC l by
     rw [←heq,bg,E3,hq];rfl)
    obtain ⟨lr,hlr⟩:∃ x,(run.getLastD ⟨0,0⟩).rep=x:=⟨_,rfl⟩;obtain ⟨hd,hhd⟩:∃ x,(run.headD ⟨0,0⟩).rep=x:=⟨_,rfl⟩;rw [hlr] at hlt2 HBN HG4 hlast;rw [hhd] at hhead p0 g2 HBN hlast;have HLR:=hid hlr;rw [←hq] at hr16 hpos hcc hlast HIV hvk;obtain ⟨gp,hgp⟩:=DS (show 0≤hd-least by omega);obtain ⟨q1,hq1⟩:∃ q1,q1=q-1:=⟨_,rfl⟩;have hqq:(q:Int)-1=(q1:Int):=by omega
    have hgp2:gp≤200:=by omega
    have hq12:q1≤16:=by omega
    have HBN2:Hid (pre++(putL gp++putL q1++aN run)++bg (lr+2) (R.drop (k+1))=aC l):=hid (show pre++(putL gp++putL q1++aN run)++bg (lr+2) (R.drop (k+1))=aC l by
     have:=HBN.out;rw [hgp,E2,←hq1] at this;exact this)
    have l1:=aK (n:=gp) (by omega);have l2:=aK (n:=q1) (by omega);have HSP:Hid ((pre++putL gp).length≤520∧(pre++putL gp++putL q1).length≤540):=hid (show (pre++putL gp).length≤520∧(pre++putL gp++putL q1).length≤540 by simp only [Df];omega);rcases HWK.out.2.1.forms with ⟨_,hnil⟩ | ⟨g,cap,hrv,hgB,hgl,_,hgc⟩
    ·rw [hnil] at hvk;simp at hvk
    ·simp only [EK] at hrv
     obtain ⟨rfl,hmv,rfl⟩:=hrv;clear hmv;have hgk:=hgc k _ hvk;have x0:=(HWK.out.2.2.2.2.cell (p:=⟨bb,off,none⟩) hbb).trans p0;have hz:=HWK.out.2.2.2.1;have hvl:(q:Int)≤16:=by omega
     have hq0:(0:Int)<(q:Int):=by omega
     clear hru hRd heq g1 g3 g4 hre hvk hcs h0e p0 HBN hhd hlr hq hq1 hgc hlast HEQ l1 l2;go_wp2_with fail
     refine (ll w.heap.size b gp pre _ HWK.out.1 (by omega) (by omega) (by omega)).mono ?_;rintro r w3 ⟨rfl,hbl,hb3,hn3⟩;have HW3:=hid (HWK.out.put hbl hb3 hn3);clear hbl hb3 hn3;go_wp2_with fail
     refine (ll w.heap.size b q1 _ _ HW3.out.1 (by omega) (by have:=HSP.out;omega) (by have:=HW3.out.2.2.2.1;omega)).mono ?_;rintro r w4 ⟨rfl,hbl,hb4,hn4⟩;have HW4:=hid (HW3.out.put hbl hb4 hn4);clear hbl hb4 hn4;go_wp2
     go_loopw [46] (fun i wr=>∃ j:Nat,j≤q∧i=.int .i64 j∧WR w (b+1) b (.slice (some ⟨g,0,none⟩) m rc) vs (pre++putL gp++putL q1++aN (run.take j)) wr) (fun i _=>q-(intOf i).toNat)
     case atStart=>exact ⟨0,by omega,rfl,by simpa [aN] using HW4.out⟩
     case round =>
      obtain ⟨j,hj,rfl,hwj⟩:=hrel;have HWJ:=hid hwj;clear hwj;by_cases hjl:j<q
      ·obtain ⟨t, ht⟩ : ∃ t, run[j]? = some t := ⟨run[j]'(by have := HQ.out; omega), Di _⟩;have y0:=HCS.out (j * 2) _ ((cZ run j 0 t ht (by omega)).trans rfl);have y1:=HCS.out (j * 2+1) _ ((cZ run j 1 t ht (by omega)).trans rfl);have htm:=HRE.out t (DB ht);have htl:=kI (run.take j) (fun e he=>(HRE.out e (List.mem_of_mem_take he)).2.2.2);have htl2:(run.take j).length≤j:=List.length_take_le _ _;have htk:run.take (j+1)=run.take j++[t]:=by
        obtain ⟨h1,h2⟩:=Do.1 ht;rw [E8 h1,h2]
       obtain ⟨rep,time⟩:=t;simp only at y0 y1 htm
       obtain ⟨tn,rfl⟩:=DS (show 0≤time by omega);have HTK:Hid (pre++putL gp++putL q1++aN (run.take (j+1))=(pre++putL gp++putL q1++aN (run.take j))++putL tn):=hid (show pre++putL gp++putL q1++aN (run.take (j+1))=(pre++putL gp++putL q1++aN (run.take j))++putL tn by
        rw [htk,ng];simp [aN])
       have HSJ:Hid ((pre++putL gp++putL q1++aN (run.take j)).length≤1000):=hid (show (pre++putL gp++putL q1++aN (run.take j)).length≤1000 by
        have:=HSP.out.2;rw [Df];omega)
       have z0:=(HWJ.out.2.2.2.2.cell (p:=⟨bb,off+j * 2,none⟩) hbb).trans y0;have z1:wr.cell? ⟨bb,off+j * 2+1,none⟩=some (.int .i64 (tn:Int)):=(HWJ.out.2.2.2.2.cell (p:=⟨bb,off+j * 2+1,none⟩) hbb).trans (by rw [Nat.add_assoc];exact y1);clear y0 y1 ht htk htl htl2;go_wp2_with fail
       refine (ll w.heap.size b tn _ _ (HWJ.out.alloc _).1 (by omega) (by have:=HSJ.out;omega) (Dl (Dl hbz (Dq _)) (HWJ.out.alloc _).2.2.2.1)).mono ?_;rintro r w5 ⟨rfl,hbl,hb5,hn5⟩;have HW5:=hid ((HWJ.out.alloc _).put hbl hb5 hn5);clear hbl hb5 hn5;go_wp2;go_roundw
       case rel=>exact ⟨j+1,by omega,by go_num,by rw [HTK.out];exact HW5.out⟩
       case measure=>simp [intOf];omega
      ·have hjq:j=q:=by omega
       have HW6:Hid (WR w (b+1) b (.slice (some ⟨g,0,none⟩) m rc) vs (pre++(putL gp++putL q1++aN run)) wr):=hid (show WR w (b+1) b (.slice (some ⟨g,0,none⟩) m rc) vs (pre++(putL gp++putL q1++aN run)) wr by
        have h:=HWJ.out;rw [hjq,HQ.out,ES] at h
        simpa [E3] using h)
       have HL2:=hid (show 0≤lr+2∧lr+2≤300 by omega);clear hjq;go_wp2_with fail
       refine (oD _ run _ (HIV.out.below HW6.out.2.2.2.2) HRN.out (by have:=HQ.out;omega) (fun e he=>by have:=HRE.out e he;omega)).mono ?_;rintro r w' ⟨rfl,rfl⟩;rw [HLR.out];go_wp2;go_roundw
       case rel=>exact ⟨k+1,lr+2,_,by omega,by go_num,rfl,HL2.out.1,HL2.out.2,HBN2.out,HG4.out,HW6.out⟩
       case measure=>simp [intOf];omega
   ·have hkm:k=m:=by omega
    have HWE:Hid (b6 wr w.heap.size b (cj l)):=hid (show b6 wr w.heap.size b (cj l) by
     have h:=HWK.out.1;have h2:=HEQ.out;rw [hkm,HM.out,DD (Db _)] at h2;have e:bg least []=[]:=rfl;rw [e,DV] at h2;rw [HW.out,←h2];exact h)
    have hz:=HWK.out.2.2.2.2.size;clear hkm heq hrun;go_wp2_with fail
    refine (oN w.heap.size b _ _ HWE.out hz).mono ?_;rintro r w3 ⟨rfl,hb3⟩;have HB3:=hid (HWK.out.2.2.2.2.trans hb3);clear hb3;go_wp2;go_ret2;exact ⟨.nilIface,rfl,.inl (.inl ⟨HVG.out,rfl⟩),HB3.out⟩
 ·have HW:Hid (cj l=[]):=hid (show cj l=[] by unfold cj;rw [if_neg h0]);have H0:=hid h0;clear h0;go_enter Tryz.func130,Tryz.ntmps130
  go_wp2_with fail
  refine (de _ l _ HV.out HLL.out).mono ?_;rintro r w0 ⟨err,rfl,hat,hb0⟩;have HAT:=hid hat;obtain ⟨t,u,rfl⟩:=hat.iface H0.out;have HB0:=hid hb0;clear hat hb0;go_wp2;go_ret2;exact ⟨_,by rw [HW.out];rfl,HAT.out,HB0.out⟩
end
section
open Go.RowKit
theorem sC (v:Value) (l:List Ent) (x y:Int) (w:World) (hv:ae w v l) (hl:l.length≤9223372036854775807) (h:ofF l x=y) :
 Calls Tryz.prog 195 #[v,.int .i64 x] w fun r w'=>r=.returned (.int .i64 y)∧Below w.heap.size w w':=by
 subst h;exact Cf v l x w hv hl
theorem uU {a b:List Ent} {k:Nat} {t:Ent} (h:b[k]? = some t):covA a (b.drop k)=(decide (t.time≤ofF a t.rep) && covA a (b.drop (k+1))):=by
 obtain ⟨hk,ht⟩:=Do.1 h;rw [DA hk,ht];rfl
theorem C7 (va vb:Value) (a b:List Ent) (w:World) (ha:ae w va a) (hb:ae w vb b) (hla:a.length≤9223372036854775807) (hlb:b.length≤9223372036854775807) :
 Calls Tryz.prog 167 #[va,vb] w fun r w'=>r=.returned (.bool (covB a b))∧Below w.heap.size w w':=by
 have HVA:=hid ha;have HVB:=hid hb;have HLA:=hid hla;have HLB:=hid hlb;obtain ⟨aa,ca,rfl,_⟩:=ha.form;obtain ⟨ab,cb,rfl,fb⟩:=hb.form;have FB:=hid fb;obtain ⟨na,hna⟩:∃ n,n=a.length:=⟨_,rfl⟩;obtain ⟨nb,hnb⟩:∃ n,n=b.length:=⟨_,rfl⟩;have HNB:=hid hnb;rw [←hna] at HVA ⊢;rw [←hnb] at HVB ⊢;clear ha hb hla hlb fb hna hnb;by_cases h1:(au a).1=0
 ·by_cases h2:(au b).1=0
  ·have H1:=hid h1;have H2:=hid h2;have HC:Hid (covB a b=covA a b):=hid (show covB a b=covA a b by unfold covB;rw [h1,h2];simp);have h16:nb≤16:=by rw [HNB.out];exact ((ec b).1 h2).1
   clear h1 h2;rw [HC.out];go_enter Tryz.func167,Tryz.ntmps167
   go_wp2_with fail
   refine (de _ a _ HVA.out HLA.out).mono ?_;rintro r w1 ⟨err,rfl,hat,hb1⟩;obtain rfl:=hat.nil H1.out;have HB1:=hid hb1;clear hat hb1;go_wp2_with fail
   refine (de _ b _ (HVB.out.below HB1.out) HLB.out).mono ?_;rintro r w2 ⟨err,rfl,hat,hb2⟩;obtain rfl:=hat.nil H2.out;have HB2:Hid (Below w.heap.size w w2):=HB1.out.trans (hb2.mono HB1.out.size);clear hat hb2;go_wp2
   go_loopw [17] (fun i wr=>∃ k:Nat,k≤nb∧i=.int .i64 k∧covA a b=covA a (b.drop k)∧Below w.heap.size w wr) (fun i _=>nb-(intOf i).toNat)
   case atStart=>exact ⟨0,by omega,rfl,rfl,HB2.out⟩
   case round =>
    obtain ⟨k,hk,rfl,heq,hbel⟩:=hrel;have HEQ:=hid heq;have HB:=hid hbel;have hzr:=hbel.size;clear heq hbel;by_cases hlt:k<nb
    ·obtain ⟨t, ht⟩ : ∃ t, b[k]? = some t := ⟨b[k]'(by have := HNB.out; omega), Di _⟩;obtain ⟨b1,o1,rfl,hb1,p0,p1⟩:=FB.out k t ht;have hd:=uU (a:=a) ht;obtain ⟨rep,time⟩:=t;simp only at p0 p1 hd
     have q0:=(HB.out.cell (p:=⟨b1,o1+k * 2,none⟩) hb1).trans p0;have q1:=(HB.out.cell (p:=⟨b1,o1+k * 2+1,none⟩) hb1).trans p1;obtain ⟨x,hx⟩:∃ x,ofF a rep=x:=⟨_,rfl⟩;rw [hx] at hd;have HX:=hid hx;have HV1:Hid (ae (wr.alloc (.cells #[.int .i64 rep,.int .i64 time] 73)).drew (.slice aa na ca) a):=hid (((HVA.out.below HB.out).alloc _).drewN 1);have c0:(wr.alloc (.cells #[.int .i64 rep,.int .i64 time] 73)).cell? ⟨wr.heap.size,0,none⟩=some (.int .i64 rep)∧(wr.alloc (.cells #[.int .i64 rep,.int .i64 time] 73)).cell? ⟨wr.heap.size,1,none⟩=some (.int .i64 time):=by simp
     by_cases hlx:x<time
     ·have HW:Hid (covA a b=false):=hid (show covA a b=false by rw [HEQ.out,hd,Dx (by omega),Bool.false_and]);clear p0 p1 ht hd hx;go_wp2;go_region_held3 (fun w'=>w'.cell? ⟨wr.heap.size,0,none⟩=some (.int .i64 rep)∧w'.cell? ⟨wr.heap.size,1,none⟩=some (.int .i64 time)) (first | exact c0 | exact c2) (first | (go_at_call 195;((with_reducible refine (sC _ a rep x _ HV1.out HLA.out HX.out).mono ?_);rintro r w2 ⟨rfl,hb2⟩;have c2:w2.cell? ⟨wr.heap.size,0,none⟩=some (.int .i64 rep)∧w2.cell? ⟨wr.heap.size,1,none⟩=some (.int .i64 time):=⟨(hb2.cell (by simp)).trans c0.1,(hb2.cell (by simp)).trans c0.2⟩;have HB2:Hid (Below w.heap.size w w2):=((HB.out.alloc hzr _).drew.trans (hb2.mono (by simp;omega)));clear hb2)))
      go_wp2;go_ret;exact ⟨by rw [HW.out];rfl,HB2.out⟩
     ·have HW:Hid (covA a b=covA a (b.drop (k+1))):=hid (show covA a b=covA a (b.drop (k+1)) by rw [HEQ.out,hd,DX (by omega),Bool.true_and]);clear p0 p1 ht hd hx;go_wp2;go_region_held3 (fun w'=>w'.cell? ⟨wr.heap.size,0,none⟩=some (.int .i64 rep)∧w'.cell? ⟨wr.heap.size,1,none⟩=some (.int .i64 time)) (first | exact c0 | exact c2) (first | (go_at_call 195;((with_reducible refine (sC _ a rep x _ HV1.out HLA.out HX.out).mono ?_);rintro r w2 ⟨rfl,hb2⟩;have c2:w2.cell? ⟨wr.heap.size,0,none⟩=some (.int .i64 rep)∧w2.cell? ⟨wr.heap.size,1,none⟩=some (.int .i64 time):=⟨(hb2.cell (by simp)).trans c0.1,(hb2.cell (by simp)).trans c0.2⟩;have HB2:Hid (Below w.heap.size w w2):=((HB.out.alloc hzr _).drew.trans (hb2.mono (by simp;omega)));clear hb2)))
      go_wp2;go_roundw
      case rel=>exact ⟨k+1,by omega,by go_num,HW.out,HB2.out⟩
      case measure=>simp [intOf];omega
    ·have HW:Hid (covA a b=true):=hid (show covA a b=true by rw [HEQ.out,DD (by have:=HNB.out;omega)];rfl);go_wp2;go_ret;exact ⟨by rw [HW.out];rfl,HB.out⟩
  ·have H1:=hid h1;have H2:=hid h2;have HC:Hid (covB a b=false):=hid (show covB a b=false by unfold covB;rw [Dx h2];simp);clear h1 h2;rw [HC.out];go_enter Tryz.func167,Tryz.ntmps167
   go_wp2_with fail
   refine (de _ a _ HVA.out HLA.out).mono ?_;rintro r w1 ⟨err,rfl,hat,hb1⟩;obtain rfl:=hat.nil H1.out;have HB1:=hid hb1;clear hat hb1;go_wp2_with fail
   refine (de _ b _ (HVB.out.below HB1.out) HLB.out).mono ?_;rintro r w2 ⟨err,rfl,hat,hb2⟩;obtain ⟨t,u,rfl⟩:=hat.iface H2.out;have HB2:Hid (Below w.heap.size w w2):=HB1.out.trans (hb2.mono HB1.out.size);clear hat hb2;go_wp2;go_ret;exact ⟨rfl,HB2.out⟩
 ·have H1:=hid h1;have HC:Hid (covB a b=false):=hid (show covB a b=false by unfold covB;rw [Dx h1];simp);clear h1;rw [HC.out];go_enter Tryz.func167,Tryz.ntmps167
  go_wp2_with fail
  refine (de _ a _ HVA.out HLA.out).mono ?_;rintro r w1 ⟨err,rfl,hat,hb1⟩;obtain ⟨t,u,rfl⟩:=hat.iface H1.out;have HB1:=hid hb1;clear hat hb1;go_wp2;go_ret;exact ⟨rfl,HB1.out⟩
end
section
open Go.RowKit
theorem aS (s:ByteArray) (a:Nat):(s.extract a s.size).data.toList=s.data.toList.drop a:=by
 rw [cE,DL (by rw [←ac];exact Db _)]
theorem iU (s:ByteArray) (most:Int) (w:World) (hs:s.size≤maxLen) (h0 : -9223372036854775808≤most) (h1:most≤9223372036854775807) (e:Nat) (h:intL s.data.toList most=(0,0,e)) (he:e≠0) :
 Calls Tryz.prog 74 #[.string s,.int .i64 most] w fun r w'=>r=.returned (.tuple #[.int .i64 0,.int .i64 0,.iface 26 (.int .i64 (e:Nat))])∧w=w' :=
 (fG s most w hs h0 h1).mono fun r w' ⟨h1,h2⟩=>⟨h1.trans (by rw [h];unfold intV errV;rw [if_neg he];rfl),h2⟩
theorem iV (s:ByteArray) (most:Int) (w:World) (hs:s.size≤maxLen) (h0 : -9223372036854775808≤most) (h1:most≤9223372036854775807) (n k:Nat) (h:intL s.data.toList most=(n,k,0)) :
 Calls Tryz.prog 74 #[.string s,.int .i64 most] w fun r w'=>r=.returned (.tuple #[.int .i64 n,.int .i64 k,.nilIface])∧w=w' :=
 (fG s most w hs h0 h1).mono fun r w' ⟨h1,h2⟩=>⟨h1.trans (by rw [h];rfl),h2⟩
def gI (w:World) (r:Nat ⊕ (List Ent×Nat)) (e:Ending) (w':World):Prop :=
 match r with
 | .inl er=>e=.returned (.tuple #[.slice none 0 0,.int .i64 0,.iface 26 (.int .i64 (er:Nat))])∧Below w.heap.size w w'
 | .inr (run,k)=>∃ v,e=.returned (.tuple #[v,.int .i64 (k:Nat),.nilIface])∧ai w' w.heap.size v run∧Below w.heap.size w w'
theorem oa {w:World} {x:Nat ⊕ (List Ent×Nat)} {er:Nat} (h:x=.inl er) (w':World) (hb:Below w.heap.size w w'):gI w x (.returned (.tuple #[.slice none 0 0,.int .i64 0,.iface 26 (.int .i64 (er:Nat))])) w':=by
 rw [h];exact ⟨rfl,hb⟩
theorem Cd {w:World} {x:Nat ⊕ (List Ent×Nat)} {run:List Ent} {k:Nat} (h:x=.inr (run,k)) (v:Value) (w':World) (ho:ai w' w.heap.size v run) (hb:Below w.heap.size w w'):gI w x (.returned (.tuple #[v,.int .i64 (k:Nat),.nilIface])) w':=by
 rw [h];exact ⟨v,rfl,ho,hb⟩
theorem wC (w:World):(Instr.index 252 (.agg #[.int .i64 200,.int .i64 16]) (.int .i64 0)).run Tryz.prog w=.ok (.int .i64 200) w:=by kernel_rfl
theorem wD (w:World):(Instr.index 252 (.agg #[.int .i64 200,.int .i64 16]) (.int .i64 1)).run Tryz.prog w=.ok (.int .i64 16) w:=by kernel_rfl
def HD (w wr:World) (g c:Int):Prop:=wr.heap[w.heap.size]? = some (.cells #[.int .i64 g,.int .i64 c] 252 (0,0))∧Below w.heap.size w wr
theorem HD.start (w:World):HD w (w.alloc (.cells #[.int .i64 0,.int .i64 0] 252)) 0 0:=⟨Dg _ _,(Below.refl _ _).alloc (Db _) _⟩
theorem HD.lt {w wr:World} {g c:Int} (h:HD w wr g c):w.heap.size<wr.heap.size:=(DF.1 h.1).1
theorem HD.cells {w wr:World} {g c:Int} (h:HD w wr g c):wr.cell? ⟨w.heap.size,0,none⟩=some (.int .i64 g)∧wr.cell? ⟨w.heap.size,1,none⟩=some (.int .i64 c)∧wr.frozen? ⟨w.heap.size,0,none⟩=false∧wr.frozen? ⟨w.heap.size,1,none⟩=false :=
 ⟨Dd _ _ 0 _ _ (0,0) h.1,Dd _ _ 1 _ _ (0,0) h.1,frozen_of_row _ _ _ _ _ h.1,frozen_of_row _ _ _ _ _ h.1⟩
theorem HD.set0 {w wr:World} {g c:Int} (h:HD w wr g c) (x:Int):HD w (wr.setCell ⟨w.heap.size,0,none⟩ (.int .i64 x)) x c:=⟨by rw [De _ _ _ _ _ _ h.1];rfl,h.2.setCell (Db _) _⟩
theorem HD.set1 {w wr:World} {g c:Int} (h:HD w wr g c) (x:Int):HD w (wr.setCell ⟨w.heap.size,1,none⟩ (.int .i64 x)) g x:=⟨by rw [De _ _ _ _ _ _ h.1];rfl,h.2.setCell (Db _) _⟩
def HL (s:List UInt8) (w:World) (k a:Nat) (wr:World):Prop :=
 (k=0∧a=0∧HD w wr 0 0) ∨
 (k=1∧∃ g,intL s 200=(g,a,0)∧a≤s.length∧HD w wr (g:Nat) 0) ∨
 (k=2∧∃ g j c i,a=j+i∧j+i≤s.length∧g≤200∧c≤16∧intL s 200=(g,j,0)∧intL (s.drop j) 16=(c,i,0)∧HD w wr (g:Nat) (c:Nat))
theorem sB (s:ByteArray) (least:Int) (w:World) (hs:s.size≤1000000) (hl0:0≤least) (hl1:least≤1000000) :
 Calls Tryz.prog 152 #[.string s,.int .i64 least] w (gI w (getR s.data.toList 0 least [])):=by
 have i0:=wC;have i1:=wD;have hsl:s.data.toList.length=s.size:=(ac s).symm;have HSL:=hid hsl;clear hsl;go_enter Tryz.func152,Tryz.ntmps152
 go_wp2
 go_loopw [7,20] (fun av i wr=>∃ k a:Nat,k≤2∧i=.int .i64 k∧av=.int .i64 a∧HL s.data.toList w k a wr) (fun _ i _=>2-(intOf i).toNat)
 case atStart=>exact ⟨0,0,by omega,rfl,rfl,.inl ⟨rfl,rfl,HD.start w⟩⟩
 case round =>
  obtain ⟨k,a,hk,rfl,rfl,hh⟩:=hrel;have HM:Hid ((s.extract a s.size).size≤maxLen):=hid (show (s.extract a s.size).size≤maxLen by rw [DJ];unfold maxLen;omega);have HE:=hid (aS s a);have d3:(0:Int)≤(a:Int):=by omega
  rcases hh with ⟨rfl,ha,hd⟩ | ⟨rfl,g,hg,hal,hd⟩ | ⟨rfl,g,j,c,i,ha,hji,hg2,hc2,hg,hc,hd⟩
  ·have HDD:=hid hd;obtain ⟨c0,c1,y0,y1⟩:=hd.cells;have hz:=hd.lt;have HA:=hid ha;have d4:(a:Int)≤(s.size:Int):=by omega
   clear hd ha;rcases ar s.data.toList 200 with ⟨e,hi,he,_⟩ | ⟨n,j,hi,hn,hj1,hj2,hj3,_⟩
   ·have HI:Hid (intL (s.extract a s.size).data.toList 200=(0,0,e)):=hid (show intL (s.extract a s.size).data.toList 200=(0,0,e) by rw [HE.out,HA.out];exact hi);have HR:=hid (gZ (used:=0) (least:=least) (acc:=[]) hi he);have HNE:=hid he;clear hi he;go_wp2_with fail
    refine (iU _ 200 _ HM.out (by decide) (by decide) e HI.out HNE.out).mono ?_;rintro r w' ⟨rfl,rfl⟩;go_wp2;go_ret3;exact oa HR.out _ HDD.out.2
   ·have HI:Hid (intL (s.extract a s.size).data.toList 200=(n,j,0)):=hid (show intL (s.extract a s.size).data.toList 200=(n,j,0) by rw [HE.out,HA.out];exact hi);have HI2:=hid hi;have hj4:j≤s.size:=by rw [←HSL.out];exact hj3
    have HJ3:=hid hj3;have eaj:(a:Int)+(j:Int)=(j:Int):=by have:=HA.out;omega
    clear hi hj3;go_wp2_with fail
    refine (iV _ 200 _ HM.out (by decide) (by decide) n j HI.out).mono ?_;rintro r w' ⟨rfl,rfl⟩;go_wp2;go_roundw
    case rel=>exact ⟨1,j,by omega,rfl,rfl,.inr (.inl ⟨rfl,n,HI2.out,HJ3.out,HDD.out.set0 _⟩)⟩
    case measure=>simp [intOf]
  ·have HDD:=hid hd;obtain ⟨c0,c1,y0,y1⟩:=hd.cells;have hz:=hd.lt;have HG:=hid hg;have hg2:(g:Int)≤200:=by
    rcases ar s.data.toList 200 with ⟨e,hi,he,_⟩ | ⟨n,j,hi,hn,_⟩
    ·rw [hg] at hi;simp only [Dz] at hi;exact absurd hi.2.2.symm he
    ·rw [hg] at hi;simp only [Dz] at hi;omega
   have has:a≤s.size:=by rw [←HSL.out];exact hal
   have d4:(a:Int)≤(s.size:Int):=by omega
   clear hd hg hal;rcases ar (s.data.toList.drop a) 16 with ⟨e,hi,he,_⟩ | ⟨n,j,hi,hn,hj1,hj2,hj3,_⟩
   ·have HI:Hid (intL (s.extract a s.size).data.toList 16=(0,0,e)):=hid (show intL (s.extract a s.size).data.toList 16=(0,0,e) by rw [HE.out];exact hi);have HR:=hid (hH (used:=0) (least:=least) (acc:=[]) HG.out hi he);have HNE:=hid he;clear hi he;go_wp2_with fail
    refine (iU _ 16 _ HM.out (by decide) (by decide) e HI.out HNE.out).mono ?_;rintro r w' ⟨rfl,rfl⟩;go_wp2;go_ret3;exact oa HR.out _ HDD.out.2
   ·have HI:Hid (intL (s.extract a s.size).data.toList 16=(n,j,0)):=hid (show intL (s.extract a s.size).data.toList 16=(n,j,0) by rw [HE.out];exact hi);have HI2:=hid hi;rw [Dj,HSL.out] at hj3;have HJ3:Hid (a+j≤s.data.toList.length):=hid (show a+j≤s.data.toList.length by rw [HSL.out];omega);have hn16:n≤16:=by omega
    have hg200:g≤200:=by omega
    clear hi;go_wp2_with fail
    refine (iV _ 16 _ HM.out (by decide) (by decide) n j HI.out).mono ?_;rintro r w' ⟨rfl,rfl⟩;go_wp2;go_roundw
    case rel=>exact ⟨2,a+j,by omega,rfl,by go_num,.inr (.inr ⟨rfl,g,a,n,j,rfl,HJ3.out,hg200,hn16,HG.out,HI2.out,HDD.out.set1 _⟩)⟩
    case measure=>simp [intOf]
  ·have HDD:=hid hd;obtain ⟨c0,c1,y0,y1⟩:=hd.cells;have HR:=hid (i7 (used:=0) (least:=least) (acc:=[]) hg hc);have HA:=hid ha;have has:a≤s.size:=by rw [←HSL.out,ha];exact hji
   have HST:Hid (getR s.data.toList 0 least []=tmA (c+1) (s.data.toList.drop a) a (least+g) []):=hid (show getR s.data.toList 0 least []=tmA (c+1) (s.data.toList.drop a) a (least+g) [] by
    rw [HR.out,ha,Dy,DY])
   have eg:0≤least+(g:Int):=by omega
   have eg2:least+(g:Int)≤1000200:=by omega
   have hz:=hd.lt;clear hd ha hg hc hji;rw [show ((2:Nat):Int)=2 from rfl];go_wp2
   go_loopw [7,14,46] (fun av rv i wr=>∃ (m b:Nat) (acc:List Ent),m≤c+1∧i=.int .i64 m∧av=.int .i64 b∧b≤s.size∧acc.length=m∧getR s.data.toList 0 least []=tmA (c+1-m) (s.data.toList.drop b) b (least+g+m) acc∧ai wr (w.heap.size+1) rv acc∧HD w wr g c) (fun _ _ i _=>c+1-(intOf i).toNat)
   case atStart=>exact ⟨0,a,[],by omega,rfl,rfl,has,rfl,by simpa using HST.out,cm _ _,HDD.out⟩
   case round =>
    obtain ⟨m,b,acc,hm,rfl,rfl,hbs,hal,heq,ho,hd⟩:=hrel;have HEQ:=hid heq;have HO:=hid ho;have HDJ:=hid hd;have HAL:=hid hal;obtain ⟨z0,z1,_,_⟩:=hd.cells;have hz2:=hd.lt;have HMB:Hid ((s.extract b s.size).size≤maxLen):=hid (show (s.extract b s.size).size≤maxLen by rw [DJ];unfold maxLen;omega);have HEB:=hid (aS s b);have e3:(0:Int)≤(b:Int):=by omega
    have e4:(b:Int)≤(s.size:Int):=by omega
    clear heq ho hd hal c0 c1 y0 y1;by_cases hlt:m<c+1
    ·have hlt':(m:Int)<(c:Int)+1:=by omega
     obtain ⟨c',hc'⟩:∃ c',c+1-m=c'+1:=⟨c-m,by omega⟩;rcases ar (s.data.toList.drop b) 1099511627776 with ⟨e,hi,he,_⟩ | ⟨n,j,hi,hn,hj1,hj2,hj3,_⟩
     ·have HI:Hid (intL (s.extract b s.size).data.toList 1099511627776=(0,0,e)):=hid (show intL (s.extract b s.size).data.toList 1099511627776=(0,0,e) by rw [HEB.out];exact hi);have HRB:Hid (getR s.data.toList 0 least []=.inl e):=hid (show getR s.data.toList 0 least []=.inl e by rw [HEQ.out,hc',gx hi he]);have HNE:=hid he;clear hi he hc';go_wp2_with fail
      refine (iU _ 1099511627776 _ HMB.out (by decide) (by decide) e HI.out HNE.out).mono ?_;rintro r w' ⟨rfl,rfl⟩;go_wp2;go_ret3;exact oa HRB.out _ HDJ.out.2
     ·have HI:Hid (intL (s.extract b s.size).data.toList 1099511627776=(n,j,0)):=hid (show intL (s.extract b s.size).data.toList 1099511627776=(n,j,0) by rw [HEB.out];exact hi);have HRB:Hid (getR s.data.toList 0 least []=tmA (c+1-(m+1)) (s.data.toList.drop (b+j)) (b+j) (least+g+((m+1:Nat):Int)) (acc++[⟨least+g+m,n⟩])):=hid (show getR s.data.toList 0 least []=tmA (c+1-(m+1)) (s.data.toList.drop (b+j)) (b+j) (least+g+((m+1:Nat):Int)) (acc++[⟨least+g+m,n⟩]) by
       rw [HEQ.out,hc',gy hi,Dy,show c+1-(m+1)=c' by omega]
       congr 1;omega)
      rw [Dj,HSL.out] at hj3;obtain ⟨y,hy⟩:∃ y,y=least+(g:Int)+(m:Int):=⟨_,rfl⟩;rw [←hy] at HRB;have hyb:0≤y∧y≤1000300:=by omega
      have ey:least+(g:Int)+(m:Int)=y:=hy.symm;obtain ⟨acc2,hacc⟩:∃ acc2,acc++[(⟨y,(n:Int)⟩:Ent)]=acc2:=⟨_,rfl⟩;have HAC:=hid hacc;rw [hacc] at HRB;have HAL2:Hid (acc2.length=m+1):=hid (show acc2.length=m+1 by rw [←hacc,Df,HAL.out];rfl);clear hi hc' hy hacc;go_wp2_with fail
      refine (iV _ 1099511627776 _ HMB.out (by decide) (by decide) n j HI.out).mono ?_;rintro r w' ⟨rfl,rfl⟩;go_wp2_with (at_builtin;refine lh rfl _ _ rfl (w.heap.size+1) _ acc rfl (HO.out.alloc _) _ 1 rfl ⟨y,n⟩ ?c1 ?c2 ?c3 ?_)
      case c1=>exact cY _ _ _
      case c2=>have:=HAL.out;omega
      case c3=>simp;omega
      ·intro gg cap w3 ho3 hg3;rw [HAC.out,HAL.out] at ho3;have HO3:=hid ho3;have HD3:Hid (HD w w3 g c):=hid (show HD w w3 g c from ⟨by
        rw [hg3.block _ (by simp;omega) (fun e=>by have:=(HO.out.lt w.heap.size e.symm).1;omega),Below.heap_alloc _ _ _ hz2];exact HDJ.out.1,(HDJ.out.2.alloc (DG hz2) _).grown hg3 (by simp;omega) (fun k hk=>by have:=(HO.out.lt k hk).1;omega)⟩)
       clear ho3 hg3;have hal3:=HAL.out;rw [hal3];clear hal3;go_wp2;go_roundw
       case rel=>exact ⟨m+1,b+j,acc2,by omega,by go_num,by go_num,by omega,HAL2.out,HRB.out,HO3.out,HD3.out⟩
       case measure=>simp [intOf];omega
    ·have hme:m=c+1:=by omega
     have HRE:Hid (getR s.data.toList 0 least []=.inr (acc,b)):=hid (show getR s.data.toList 0 least []=.inr (acc,b) by
      rw [HEQ.out,hme,Nat.sub_self];rfl)
     have hlt':(c:Int)+1≤(m:Int):=by omega
     clear hme;go_wp2;go_ret3;exact Cd HRE.out _ _ (HO.out.mono (Dq _)) HDJ.out.2
end
