import Derived.Test.YtdhognaoejiglaaGreatDoorKb13
import Derived.Test.YtdhognaoejiglaaGreatDoorKb22
import Derived.Maps.AppendAt
namespace Go.Proofs.YtdhognaoejiglaaGreatDoor
open Lib (hid)
set_option maxRecDepth 100000
set_option maxHeartbeats 8000000
section
open Go.RowKit
theorem up (l:List Ent) (h:∀ e∈l,e.time≤1099511627776):(aZ l).length≤10 * l.length:=by
 induction l with
 | nil=>exact Nat.le_refl _
 | cons e t ih =>
  rw [oP,List.length_append,List.length_cons];have h1:=h e List.mem_cons_self;have h2:=ih fun x hx=>h x (List.mem_cons_of_mem _ hx)
  have h3:=aI (n:=e.time.toNat) (by omega);omega
theorem DA (R:List (List Ent)):∀ least:Int,0≤least→eE least R→(∀ e∈R.flatten,e.rep≤200∧e.time≤1099511627776)→R.flatten.length≤1000→(bS least R).length≤30 * R.flatten.length:=by
 induction R with
 | nil=>intro _ _ _ _ _;exact Nat.le_refl _
 | cons run rs ih =>
  intro least h0 h hb hl;obtain ⟨h1,h2,h3,h4⟩:=h;have hpos:0<run.length:=List.length_pos_iff.2 h1;have hlast:=iI h3 h1;rw [List.flatten_cons,List.length_append] at hl ⊢;rw [List.flatten_cons] at hb;have h5:=ih _ (by omega) h4 (fun e he=>hb e (List.mem_append_right _ he)) (by omega);have h6:=up run (fun e he=>(hb e (List.mem_append_left _ he)).2);have hh:(run.headD ⟨0,0⟩).rep≤200:=by
   cases run with
   | nil=>exact absurd rfl h1
   | cons e t=>exact (hb e (by simp)).1
  have h7:=aI (n:=((run.headD ⟨0,0⟩).rep-least).toNat) (by omega);have h8:=aI (n:=run.length-1) (by omega);rw [bS,List.length_append];unfold runB;simp only [List.length_append]
  omega
theorem DB (R:List (List Ent)):∀ least:Int,eE least R→R.length≤R.flatten.length:=by
 induction R with
 | nil=>intro _ _;exact Nat.le_refl _
 | cons run rs ih =>
  intro least hR;have:=ih _ hR.2.2.2;have h3:0<run.length:=List.length_pos_iff.2 hR.1;rw [List.flatten_cons,List.length_append,List.length_cons];omega
theorem pq {l:List Ent} (h:aB l):(aG l).length≤500∧(aV l).length≤16:=by
 obtain ⟨h1,h2⟩:=oy h.2;have h3:=DA (aV l) 0 (Int.le_refl _) h1 (fun e he=>by rw [h2] at he;have:=bJ h.2 e he;omega) (by rw [h2];have:=h.1;omega);have h4:=DB _ _ h1;rw [h2] at h3 h4;have h5:=aI (n:=(aV l).length) (by have:=h.1;omega);have h6:=h.1;unfold aG;rw [List.length_append];omega
theorem mi (B b n:Nat) (l:List UInt8) (w:World) (h:aX w B b l) (hn:n≤1099511627776) (hl:l.length≤1000000) (hBw:B≤w.heap.size) :
 Calls Tryz.prog 170 #[.int .i64 (n:Int),.pointer (some ⟨b,0,none⟩)] w fun e w'=>e=.returned (.tuple #[])∧aX w' B b (l++putL n)∧Below B w w'∧NonB b w w':=by
 have H:=hid h;have hp:=aI (n:=n) (by omega);have hk:IntKind.u64.wrap (n:Int)=(n:Int):=IntWalk.u64_in _ (by omega);clear h;go_enter Tryz.func170,Tryz.ntmps170
 go_wp2_with fail
 refine (lw n _ (by omega)).mono ?_;rintro r w1 ⟨rfl,hb1⟩;have H1:=hid (H.out.below hb1);have HB1:=hid (hb1.mono hBw);have HN1:=hid (NonB.of (b:=b) hb1);have hz:=hb1.size;clear hb1;go_wp2_with fail
 refine (qk B b l _ _ H1.out (by rw [cq];omega) (by omega)).mono ?_;rintro r w2 ⟨rfl,hbl,hb2,hn2⟩;have H2:=hid hbl;have HB2:=hid (HB1.out.trans hb2);have HN2:=hid (HN1.out.trans hn2 hz);clear hbl hb2 hn2;go_wp2
 go_end0
 exact ⟨rfl,H2.out,HB2.out,HN2.out⟩
def wI (w:World) (l:List Ent) (e:Ending) (w':World):Prop :=
 ∃ err,e=.returned (.tuple #[.string ⟨(ed l).toArray⟩,err])∧ax w' err (aq l)∧Below w.heap.size w w'
def WR (w:World) (B b:Nat) (rv:Value) (vs:List Value) (pre:List UInt8) (wr:World):Prop :=
 aX wr w.heap.size b pre∧cz wr B rv vs∧b<B∧B≤wr.heap.size∧Below w.heap.size w wr
theorem WR.put {w:World} {B b:Nat} {rv:Value} {vs:List Value} {pre pre':List UInt8} {wr w':World} (h:WR w B b rv vs pre wr) (h1:aX w' w.heap.size b pre') (h2:Below w.heap.size wr w') (h3:NonB b wr w'):WR w B b rv vs pre' w':=by
 obtain ⟨g1,g2,g3,g4,g5⟩:=h;refine ⟨h1,?_,g3,Nat.le_trans g4 h2.size,g5.trans h2⟩;refine NonB.row h3 g2 (by decide) (fun e=>?_);have:=(g2.lt b e).1;omega
theorem WR.alloc {w:World} {B b:Nat} {rv:Value} {vs:List Value} {pre:List UInt8} {wr:World} (h:WR w B b rv vs pre wr) (o:Obj):WR w B b rv vs pre (wr.alloc o):=by
 obtain ⟨g1,g2,g3,g4,g5⟩:=h;exact ⟨g1.alloc o,g2.alloc o,g3,Nat.le_trans g4 (by simp),g5.alloc g5.size o⟩
theorem FT (v:Value) (l:List Ent) (w:World) (hv:ae w v l) (hl:l.length≤9223372036854775807) :
 Calls Tryz.prog 141 #[v] w (wI w l):=by
 have HV:=hid hv;have HLL:=hid hl;obtain ⟨a1,c1,rfl,_⟩:=hv.form;obtain ⟨n,hn⟩:∃ n,n=l.length:=⟨_,rfl⟩;rw [←hn] at HV ⊢;clear hv hl hn;by_cases h0:(aq l).1=0
 ·have H0:=hid h0;have hrt:=(bO l).1 h0;have HW:Hid (ed l=aG l):=hid (show ed l=aG l by unfold ed;rw [if_pos h0]);have HVG:=hid (vG h0);obtain ⟨hr1,hr2⟩:=oy hrt.2;obtain ⟨hwl,hrl⟩:=pq hrt;have HIN:Hid (∀ run∈aV l,run.length≤16∧∀ e∈run,0≤e.rep∧e.rep≤200∧1≤e.time∧e.time≤1099511627776):=hid (show ∀ run∈aV l,run.length≤16∧∀ e∈run,0≤e.rep∧e.rep≤200∧1≤e.time∧e.time≤1099511627776 from fun run hr=>by
   refine ⟨Nat.le_trans (List.sublist_flatten_of_mem hr).length_le (by rw [hr2];exact hrt.1),fun e he=>?_⟩;have:=bJ hrt.2 e (by rw [←hr2];exact List.mem_flatten.2 ⟨run,hr,he⟩);omega)
  have HRM:Hid (∀ e∈l,0≤e.rep∧e.rep≤1000000):=hid (show ∀ e∈l,0≤e.rep∧e.rep≤1000000 from fun e he=>by have:=bJ hrt.2 e he;omega);have HL16:=hid hrt.1;have HWL:=hid hwl;have HVW:Hid (putL (aV l).length++bS 0 (aV l)=aG l):=rfl;obtain ⟨R,hR⟩:∃ R,aV l=R:=⟨_,rfl⟩;rw [hR] at hr1 hrl HIN HVW;have HR:=hid hR;have HR1:=hid hr1;have hmf:∀ (fn:Fn) (first cap:Array Value) (w:World),(Instr.makeFunc fn first cap).run Tryz.prog w=.ok (.func fn first cap) w:=fun _ _ _ _=>rfl
  obtain ⟨m,hm⟩:∃ m,m=R.length:=⟨_,rfl⟩;rw [←hm] at hrl HVW;have HM:=hid hm;clear h0 hrt hr1 hr2 hwl hR hm;go_enter Tryz.func141,Tryz.ntmps141
  go_wp2_with fail
  refine (cC _ l _ HV.out HLL.out).mono ?_;rintro r w0 ⟨err,rfl,hat,hb0⟩;obtain rfl:=hat.nil H0.out;have HB0:=hid hb0;have hz0:=hb0.size;clear hat hb0;go_wp2_with fail
  refine (yI _ l _ ((HV.out.below HB0.out).alloc _) (by have:=HL16.out;omega) HRM.out).mono ?_;rintro r w1 ⟨rv,vs,rfl,hown,hare,hlen,hb1⟩;rw [HR.out] at hare hlen;have HA:=hid (hare w HV.out);obtain ⟨b,hbe⟩:∃ b,b=w0.heap.size:=⟨_,rfl⟩;have hz1:=hb1.size;rw [World.size_alloc] at hz1 hown;have HWR:Hid (WR w (b+1) b rv vs [] w1):=hid (show WR w (b+1) b rv vs [] w1 by
   subst hbe;exact ⟨(mF w0 w.heap.size hz0).below hb1,hown,Nat.lt_succ_self _,hz1,(HB0.out.alloc hz0 _).trans (hb1.mono (by simp;omega))⟩)
  have hrvl:∃ a c,rv=.slice a m c:=by
   rcases hown.forms with ⟨hr,hn⟩ | ⟨g,cap,hr,_⟩
   ·refine ⟨none,0,?_⟩;rw [hr,HM.out,←hlen,hn];rfl
   ·exact ⟨_,cap,by rw [hr,hlen,HM.out]⟩
  obtain ⟨ra,rc,rfl⟩:=hrvl;have hbz:w.heap.size≤b:=by omega
  rw [←hbe];have HBE:=hid hbe;clear hown hare hlen hb1 hbe;go_wp2_with fail
  refine (mi w.heap.size b m [] _ HWR.out.1 (by omega) (by simp) (by have:=HWR.out.2.2.2.1;omega)).mono ?_;rintro r w2 ⟨rfl,hbl,hb2,hn2⟩;rw [List.nil_append] at hbl;have HWR2:=hid (HWR.out.put hbl hb2 hn2);clear hbl hb2 hn2;go_wp2
  go_loopw [8,27] (fun lv i wr=>∃ (k:Nat) (least:Int) (pre:List UInt8),k≤m∧i=.int .i64 k∧lv=.int .i64 least∧0≤least∧least≤300∧pre++bS least (R.drop k)=aG l∧eE least (R.drop k)∧WR w (b+1) b (.slice ra m rc) vs pre wr) (fun _ i _=>m-(intOf i).toNat)
  case atStart=>exact ⟨0,0,putL m,by omega,rfl,rfl,by omega,by omega,HVW.out,HR1.out,HWR2.out⟩
  case round =>
   obtain ⟨k,least,pre,hk,rfl,rfl,hl0,hl3,heq,hrun,hwr⟩:=hrel;have HWK:=hid hwr;have HEQ:=hid heq;have hpre:pre.length≤500:=by have:=HWL.out;rw [←heq,List.length_append] at this;omega
   clear hwr;by_cases hlt:k<m
   ·obtain ⟨run, hru⟩ : ∃ run, R[k]? = some run := ⟨R[k]'(by have := HM.out; omega), List.getElem?_eq_getElem _⟩;have hRd:R.drop k=run::R.drop (k+1):=by
     obtain ⟨h1,h2⟩:=List.getElem?_eq_some_iff.1 hru;rw [List.drop_eq_getElem_cons h1,h2]
    rw [hRd] at hrun heq;obtain ⟨g1,g2,g3,g4⟩:=hrun;obtain ⟨hr16,hre⟩:=HIN.out run (List.mem_of_getElem? hru);have hpos:0<run.length:=List.length_pos_iff.2 g1;obtain ⟨vk,hvk,hiv⟩:=xg HA.out hru;have HIV:=hid hiv;obtain ⟨bb,off,cc,rfl,hcc,hbb,hcs⟩:=hiv.lies hpos;have hlast:=iI g3 g1;have h0e:run[0]? = some (run.headD ⟨0,0⟩):=by
     cases run with
     | nil=>exact absurd rfl g1
     | cons e t=>rfl
    have hhead:=hre _ (List.mem_of_getElem? h0e);have hlt2:=hre _ (show run.getLastD ⟨0,0⟩∈run by
     rw [List.getLastD_eq_getLast?,List.getLast?_eq_getElem?,List.getElem?_eq_getElem (show run.length-1<run.length by omega)];exact List.getElem_mem _)
    have p0:w.cell? ⟨bb,off,none⟩=some (.int .i64 (run.headD ⟨0,0⟩).rep):=by
     have:=hcs 0 _ ((fx run 0 0 _ h0e (by omega)).trans rfl)
     simpa using this
    have HCS:=hid hcs;have HG4:=hid g4;have HRE:=hid hre;have HRN:=hid g1;obtain ⟨q,hq⟩:∃ q,q=run.length:=⟨_,rfl⟩;have HQ:=hid hq;have HBN:Hid (pre++(putL ((run.headD ⟨0,0⟩).rep-least).toNat++putL (q-1)++aZ run)++bS ((run.getLastD ⟨0,0⟩).rep+2) (R.drop (k+1))=aG l):=hid (show pre++(putL ((run.headD ⟨0,0⟩).rep-least).toNat++putL (q-1)++aZ run)++bS ((run.getLastD ⟨0,0⟩).rep+2) (R.drop (k+1))=aG l by
     rw [←heq,bS,List.append_assoc,hq];rfl)
    obtain ⟨lr,hlr⟩:∃ x,(run.getLastD ⟨0,0⟩).rep=x:=⟨_,rfl⟩;obtain ⟨hd,hhd⟩:∃ x,(run.headD ⟨0,0⟩).rep=x:=⟨_,rfl⟩;rw [hlr] at hlt2 HBN HG4 hlast;rw [hhd] at hhead p0 g2 HBN hlast;have HLR:=hid hlr;rw [←hq] at hr16 hpos hcc hlast HIV hvk;obtain ⟨gp,hgp⟩:=Int.eq_ofNat_of_zero_le (show 0≤hd-least by omega);obtain ⟨q1,hq1⟩:∃ q1,q1=q-1:=⟨_,rfl⟩;have hqq:(q:Int)-1=(q1:Int):=by omega
    have hgp2:gp≤200:=by omega
    have hq12:q1≤16:=by omega
    have HBN2:Hid (pre++(putL gp++putL q1++aZ run)++bS (lr+2) (R.drop (k+1))=aG l):=hid (show pre++(putL gp++putL q1++aZ run)++bS (lr+2) (R.drop (k+1))=aG l by
     have:=HBN.out;rw [hgp,Int.toNat_natCast,←hq1] at this;exact this)
    have l1:=aI (n:=gp) (by omega);have l2:=aI (n:=q1) (by omega);have HSP:Hid ((pre++putL gp).length≤520∧(pre++putL gp++putL q1).length≤540):=hid (show (pre++putL gp).length≤520∧(pre++putL gp++putL q1).length≤540 by simp only [List.length_append];omega);rcases HWK.out.2.1.forms with ⟨_,hnil⟩ | ⟨g,cap,hrv,hgB,hgl,_,hgc⟩
    ·rw [hnil] at hvk;simp at hvk
    ·simp only [Value.slice.injEq] at hrv
     obtain ⟨rfl,hmv,rfl⟩:=hrv;clear hmv;have hgk:=hgc k _ hvk;have x0:=(HWK.out.2.2.2.2.cell (p:=⟨bb,off,none⟩) hbb).trans p0;have hz:=HWK.out.2.2.2.1;have hvl:(q:Int)≤16:=by omega
     have hq0:(0:Int)<(q:Int):=by omega
     clear hru hRd heq g1 g3 g4 hre hvk hcs h0e p0 HBN hhd hlr hq hq1 hgc hlast HEQ l1 l2;go_wp2_with fail
     refine (mi w.heap.size b gp pre _ HWK.out.1 (by omega) (by omega) (by omega)).mono ?_;rintro r w3 ⟨rfl,hbl,hb3,hn3⟩;have HW3:=hid (HWK.out.put hbl hb3 hn3);clear hbl hb3 hn3;go_wp2_with fail
     refine (mi w.heap.size b q1 _ _ HW3.out.1 (by omega) (by have:=HSP.out;omega) (by have:=HW3.out.2.2.2.1;omega)).mono ?_;rintro r w4 ⟨rfl,hbl,hb4,hn4⟩;have HW4:=hid (HW3.out.put hbl hb4 hn4);clear hbl hb4 hn4;go_wp2
     go_loopw [46] (fun i wr=>∃ j:Nat,j≤q∧i=.int .i64 j∧WR w (b+1) b (.slice (some ⟨g,0,none⟩) m rc) vs (pre++putL gp++putL q1++aZ (run.take j)) wr) (fun i _=>q-(intOf i).toNat)
     case atStart=>exact ⟨0,by omega,rfl,by simpa [aZ] using HW4.out⟩
     case round =>
      obtain ⟨j,hj,rfl,hwj⟩:=hrel;have HWJ:=hid hwj;clear hwj;by_cases hjl:j<q
      ·obtain ⟨t, ht⟩ : ∃ t, run[j]? = some t := ⟨run[j]'(by have := HQ.out; omega), List.getElem?_eq_getElem _⟩;have y0:=HCS.out (j * 2) _ ((fx run j 0 t ht (by omega)).trans rfl);have y1:=HCS.out (j * 2+1) _ ((fx run j 1 t ht (by omega)).trans rfl);have htm:=HRE.out t (List.mem_of_getElem? ht);have htl:=up (run.take j) (fun e he=>(HRE.out e (List.mem_of_mem_take he)).2.2.2);have htl2:(run.take j).length≤j:=List.length_take_le _ _;have htk:run.take (j+1)=run.take j++[t]:=by
        obtain ⟨h1,h2⟩:=List.getElem?_eq_some_iff.1 ht;rw [List.take_succ_eq_append_getElem h1,h2]
       obtain ⟨rep,time⟩:=t;simp only at y0 y1 htm
       obtain ⟨tn,rfl⟩:=Int.eq_ofNat_of_zero_le (show 0≤time by omega);have HTK:Hid (pre++putL gp++putL q1++aZ (run.take (j+1))=(pre++putL gp++putL q1++aZ (run.take j))++putL tn):=hid (show pre++putL gp++putL q1++aZ (run.take (j+1))=(pre++putL gp++putL q1++aZ (run.take j))++putL tn by
        rw [htk,EO];simp [aZ])
       have HSJ:Hid ((pre++putL gp++putL q1++aZ (run.take j)).length≤1000):=hid (show (pre++putL gp++putL q1++aZ (run.take j)).length≤1000 by
        have:=HSP.out.2;rw [List.length_append];omega)
       have z0:=(HWJ.out.2.2.2.2.cell (p:=⟨bb,off+j * 2,none⟩) hbb).trans y0;have z1:wr.cell? ⟨bb,off+j * 2+1,none⟩=some (.int .i64 (tn:Int)):=(HWJ.out.2.2.2.2.cell (p:=⟨bb,off+j * 2+1,none⟩) hbb).trans (by rw [Nat.add_assoc];exact y1);clear y0 y1 ht htk htl htl2;go_wp2_with fail
       refine (mi w.heap.size b tn _ _ (HWJ.out.alloc _).1 (by omega) (by have:=HSJ.out;omega) (Nat.le_trans (Nat.le_trans hbz (Nat.le_succ _)) (HWJ.out.alloc _).2.2.2.1)).mono ?_;rintro r w5 ⟨rfl,hbl,hb5,hn5⟩;have HW5:=hid ((HWJ.out.alloc _).put hbl hb5 hn5);clear hbl hb5 hn5;go_wp2;go_roundw
       case rel=>exact ⟨j+1,by omega,by go_num,by rw [HTK.out];exact HW5.out⟩
       case measure=>simp [intOf];omega
      ·have hjq:j=q:=by omega
       have HW6:Hid (WR w (b+1) b (.slice (some ⟨g,0,none⟩) m rc) vs (pre++(putL gp++putL q1++aZ run)) wr):=hid (show WR w (b+1) b (.slice (some ⟨g,0,none⟩) m rc) vs (pre++(putL gp++putL q1++aZ run)) wr by
        have h:=HWJ.out;rw [hjq,HQ.out,List.take_length] at h
        simpa [List.append_assoc] using h)
       have HL2:=hid (show 0≤lr+2∧lr+2≤300 by omega);clear hjq;go_wp2_with fail
       refine (q7 _ run _ (HIV.out.below HW6.out.2.2.2.2) HRN.out (by have:=HQ.out;omega) (fun e he=>by have:=HRE.out e he;omega)).mono ?_;rintro r w' ⟨rfl,rfl⟩;rw [HLR.out];go_wp2;go_roundw
       case rel=>exact ⟨k+1,lr+2,_,by omega,by go_num,rfl,HL2.out.1,HL2.out.2,HBN2.out,HG4.out,HW6.out⟩
       case measure=>simp [intOf];omega
   ·have hkm:k=m:=by omega
    have HWE:Hid (aX wr w.heap.size b (ed l)):=hid (show aX wr w.heap.size b (ed l) by
     have h:=HWK.out.1;have h2:=HEQ.out;rw [hkm,HM.out,List.drop_eq_nil_of_le (Nat.le_refl _)] at h2;have e:bS least []=[]:=rfl;rw [e,List.append_nil] at h2;rw [HW.out,←h2];exact h)
    have hz:=HWK.out.2.2.2.2.size;clear hkm heq hrun;go_wp2_with fail
    refine (mG w.heap.size b _ _ HWE.out hz).mono ?_;rintro r w3 ⟨rfl,hb3⟩;have HB3:=hid (HWK.out.2.2.2.2.trans hb3);clear hb3;go_wp2;go_ret2;exact ⟨.nilIface,rfl,.inl (.inl ⟨HVG.out,rfl⟩),HB3.out⟩
 ·have HW:Hid (ed l=[]):=hid (show ed l=[] by unfold ed;rw [if_neg h0]);have H0:=hid h0;clear h0;go_enter Tryz.func141,Tryz.ntmps141
  go_wp2_with fail
  refine (cC _ l _ HV.out HLL.out).mono ?_;rintro r w0 ⟨err,rfl,hat,hb0⟩;have HAT:=hid hat;obtain ⟨t,u,rfl⟩:=hat.iface H0.out;have HB0:=hid hb0;clear hat hb0;go_wp2;go_ret2;exact ⟨_,by rw [HW.out];rfl,HAT.out,HB0.out⟩
end
section
open Go.RowKit
theorem kv:errV 0=.nilIface:=rfl
theorem iL {e:Nat} (h:e≠0):errV e=.iface 68 (.int .i64 e):=by unfold errV;rw [if_neg h]
def fp (w:World) (B:Nat) (vf vh vw:Value):Prop :=
 w.cell? ⟨B,0,none⟩=some vf∧w.cell? ⟨B,1,none⟩=some vh∧w.cell? ⟨B,2,none⟩=some vw
theorem fp.below {w w':World} {B:Nat} {vf vh vw:Value} {m:Nat} (h:fp w B vf vh vw) (hb:Below m w w') (hm:B<m):fp w' B vf vh vw :=
 ⟨(hb.cell hm).trans h.1,(hb.cell hm).trans h.2.1,(hb.cell hm).trans h.2.2⟩
theorem eV (w:World) (vf vh vw:Value) (t:TypeId):fp (w.alloc (.cells #[vf,vh,vw] t)) w.heap.size vf vh vw:=by
 unfold fp;simp
theorem GA (x:Wr) (e:Nat) (w:World) (hk:x.key.size≤140737488351232) (hv:x.value.size≤140737488351232) (he:wE x=e) :
 Calls Tryz.prog 51 #[.agg #[.int .i64 x.time,.int .i64 x.rep,.int .i64 x.kind,.string x.key,.string x.value,.int .i64 x.n]] w fun r w'=>r=.returned (errV e)∧Below w.heap.size w w':=by
 subst he;exact gy x.time x.rep x.kind x.key x.value x.n w hk hv
theorem xS (vf vh vw:Value) (f h:List Ent) (l:List Wr) (k:Nat) (x:Wr) (p:Option Wr) (e:Nat) (w:World) (hf:ae w vf f) (hh:ae w vh h) (hv:az w vw l) (hlf:f.length≤9223372036854775807) (hlh:h.length≤9223372036854775807) (hl:l.length≤60)
 (hx:l[k]? = some x) (hp:(k=0∧p=none)∨∃ j q,k=j+1∧l[j]? = some q∧p=some q) (hok:∀ t∈l,WrOk t) (hg:errT w) (he:bwE f h p x=e) :
 Calls Tryz.prog 49 #[.agg #[vf,vh,vw],.int .i64 (k:Int)] w fun r w'=>r=.returned (.int .i64 (e:Nat))∧Below w.heap.size w w':=by
 have HF:=hid hf;have HH:=hid hh;have HG:=hid hg;have HLF:=hid hlf;have HLH:=hid hlh;obtain ⟨aw,cw,rfl,fw⟩:=hv.form;have FW:=hid fw;obtain ⟨n,hn⟩:∃ n,n=l.length:=⟨_,rfl⟩;rw [←hn] at hl ⊢;have hkn:k<n:=by rw [hn];exact (List.getElem?_eq_some_iff.1 hx).1
 obtain ⟨b1,o1,rfl,hb1,p0,p1,p2,p3,p4,p5⟩:=fw k x hx;have HOK:=hid (hok x (List.mem_of_getElem? hx));obtain ⟨ew,hew⟩:∃ ew,wE x=ew:=⟨_,rfl⟩;have HEW:=hid hew;have HE:=hid he;have HP:=hid hp;clear hf hh hg hlf hlh hv fw hn hx hp hok he hew;go_enter Tryz.func49,Tryz.ntmps49
 go_wp2_with fail
 refine (GA x ew _ HOK.out.2.2.1 HOK.out.2.2.2 HEW.out).mono ?_;rintro r w1 ⟨rfl,hb2⟩;have hz1:w.heap.size+1<w1.heap.size:=by have:=hb2.size;simp at this;omega
 have HZ1:=hid hz1;have HBA1:Hid (fp w1 w.heap.size vf vh (.slice (some ⟨b1,o1,none⟩) n cw)):=hid (((eV w vf vh (.slice (some ⟨b1,o1,none⟩) n cw) 47).below ((Below.refl _ _).alloc (Nat.le_refl _) _) (by simp)).below hb2 (by simp;omega));have HWA1:Hid (wrAt w1 (w.heap.size+1) x.time x.rep x.kind x.key x.value x.n):=hid ((by simpa using ik (w.alloc (.cells #[vf,vh,.slice (some ⟨b1,o1,none⟩) n cw] 47)) x.time x.rep x.kind x.key x.value x.n 38:wrAt _ (w.heap.size+1) x.time x.rep x.kind x.key x.value x.n).below hb2 (by simp));have HB1:Hid (Below w.heap.size w w1):=hid ((((Below.refl _ _).alloc (Nat.le_refl _) _).alloc (by simp) _).trans (hb2.mono (by simp;omega)));clear hb2 p0 p1 p2 p3 p4 p5 hz1;by_cases h0:ew=0
 ·subst h0;rw [kv];have hla:eG p x∨¬ eG p x:=Classical.em _;rcases HP.out with ⟨hk0,hp0⟩ | ⟨j,q,hkj,hq,hpq⟩
  ·subst hk0 hp0;obtain ⟨b,hb⟩:∃ b,wiF (x.time,x.rep) f h=b:=⟨_,rfl⟩;have HWI:=hid hb;have HR:Hid (e=if b=true then 0 else 6):=hid (by
    rw [←HE.out];cases b with
    | true=>rw [mL (p:=none) HEW.out trivial hb];rfl
    | false=>rw [qt (p:=none) HEW.out trivial hb];rfl)
   clear hb hla;obtain ⟨c0,c1,c2,c3,c4,c5⟩:=HWA1.out;obtain ⟨d0,d1,d2⟩:=HBA1.out;go_wp2
   go_quiet (fail)
   go_wp2_with fail
   refine (ii x.time x.rep vf vh f h b _ (HF.out.below (below_drewN HB1.out _)) (HH.out.below (below_drewN HB1.out _)) HLF.out HLH.out HWI.out).mono ?_;rintro r w2 ⟨rfl,hb2⟩;have HB2:Hid (Below w.heap.size w w2):=(below_drewN HB1.out _).trans (hb2.mono HB1.out.size);clear hb2 c0 c1 c2 c3 c4 c5 d0 d1 d2;cases b with
   | true =>
    go_wp2;go_ret;exact ⟨by rw [HR.out];rfl,HB2.out⟩
   | false =>
    go_wp2;go_ret;exact ⟨by rw [HR.out];rfl,HB2.out⟩
  ·obtain ⟨b2,o2,hbo,_,q0,q1,_⟩:=FW.out j q hq;simp only [Option.some.injEq,Addr.mk.injEq,and_true] at hbo
   obtain ⟨rfl,rfl⟩:=hbo;have r0:=(HB1.out.cell (p:=⟨b1,o1+j * 6,none⟩) hb1).trans q0;have r1:=(HB1.out.cell (p:=⟨b1,o1+j * 6+1,none⟩) hb1).trans q1;have HK:=hid hkj;have hj1:(k:Int)-1=(j:Int):=by omega
   have hj2:IntKind.i64.wrap ((k:Int)-1)=(j:Int):=by rw [hj1];exact IntWalk.i64_in _ (by omega)
   have hj3:IntKind.i64.wrap (j:Int)=(j:Int):=IntWalk.i64_in _ (by omega);have hk0:(0:Int)<(k:Int):=by omega
   have z1:0<k:=by omega
   have z2:decide (0<k)=true:=by simp;omega
   have z3:decide ((0:Int)<(k:Int))=true:=by simp;omega
   have hjn:(j:Int)<(n:Int):=by omega
   have hjn':j<n:=by omega
   have hj0:(0:Int)≤(j:Int):=by omega
   obtain ⟨c,hc⟩:∃ c,cI (x.time,x.rep) (q.time,q.rep)=c:=⟨_,rfl⟩;have HC:=hid hc;have hc3:c=-1∨c=0∨c=1:=by rw [←hc];exact xX _ _ _ _
   obtain ⟨c0,c1,c2,c3,c4,c5⟩:=HWA1.out;obtain ⟨d0,d1,d2⟩:=HBA1.out;subst hpq;clear q0 q1 hq hkj hc hla;have hb1':b1<w1.heap.size:=Nat.lt_of_lt_of_le hb1 HB1.out.size;have k1:w1.cell? ⟨w.heap.size+1,0,none⟩=some (.int .i64 x.time)∧w1.cell? ⟨w.heap.size+1,1,none⟩=some (.int .i64 x.rep)∧w1.cell? ⟨w.heap.size,2,none⟩=some (.slice (some ⟨b1,o1,none⟩) n cw)∧w1.cell? ⟨b1,o1+j * 6,none⟩=some (.int .i64 q.time)∧w1.cell? ⟨b1,o1+j * 6+1,none⟩=some (.int .i64 q.rep):=⟨c0,c1,d2,r0,r1⟩;by_cases hcl:c=1
   ·subst hcl;obtain ⟨b,hb⟩:∃ b,wiF (x.time,x.rep) f h=b:=⟨_,rfl⟩;have HWI:=hid hb;have HR:Hid (e=if b=true then 0 else 6):=hid (by
     rw [←HE.out];cases b with
     | true=>rw [mL (p:=some q) HEW.out HC.out hb];rfl
     | false=>rw [qt (p:=some q) HEW.out HC.out hb];rfl)
    clear hb hc3;go_wp2;go_region_held3 (fun w'=>w'.cell? ⟨w.heap.size+1,0,none⟩=some (.int .i64 x.time)∧w'.cell? ⟨w.heap.size+1,1,none⟩=some (.int .i64 x.rep)∧w'.cell? ⟨w.heap.size,2,none⟩=some (.slice (some ⟨b1,o1,none⟩) n cw)∧w'.cell? ⟨b1,o1+j * 6,none⟩=some (.int .i64 q.time)∧w'.cell? ⟨b1,o1+j * 6+1,none⟩=some (.int .i64 q.rep)) (first | exact k1 | exact k2 | fail) (first | (go_at_call 18;((with_reducible refine (gc x.time x.rep q.time q.rep 1 _ HC.out).mono ?_);rintro r w2 ⟨rfl,hb2⟩;have HB2:Hid (Below w1.heap.size w1 w2):=hid (cd hb2);have k2:w2.cell? ⟨w.heap.size+1,0,none⟩=some (.int .i64 x.time)∧w2.cell? ⟨w.heap.size+1,1,none⟩=some (.int .i64 x.rep)∧w2.cell? ⟨w.heap.size,2,none⟩=some (.slice (some ⟨b1,o1,none⟩) n cw)∧w2.cell? ⟨b1,o1+j * 6,none⟩=some (.int .i64 q.time)∧w2.cell? ⟨b1,o1+j * 6+1,none⟩=some (.int .i64 q.rep):=⟨(HB2.out.cell HZ1.out).trans c0,(HB2.out.cell HZ1.out).trans c1,(HB2.out.cell (Nat.lt_of_succ_lt HZ1.out)).trans d2,(HB2.out.cell hb1').trans r0,(HB2.out.cell hb1').trans r1⟩;clear hb2)) | fail)
    obtain ⟨e0,e1,e2,e3,e4⟩:=k2;have g0:=(HB2.out.cell (p:=⟨w.heap.size,0,none⟩) (Nat.lt_of_succ_lt HZ1.out)).trans d0;have g1:=(HB2.out.cell (p:=⟨w.heap.size,1,none⟩) (Nat.lt_of_succ_lt HZ1.out)).trans d1;go_wp2_with fail
    have HB3:Hid (Below w.heap.size w w2):=HB1.out.trans (HB2.out.mono HB1.out.size);refine (ii x.time x.rep vf vh f h b _ (HF.out.below HB3.out) (HH.out.below HB3.out) HLF.out HLH.out HWI.out).mono ?_;rintro r w3 ⟨rfl,hb3⟩;have HB4:Hid (Below w.heap.size w w3):=HB3.out.trans (hb3.mono HB3.out.size);clear hb3 k1 e0 e1 e2 e3 e4 g0 g1 c0 c1 c2 c3 c4 c5 d0 d1 d2;cases b with
    | true =>
     go_wp2;go_ret;exact ⟨by rw [HR.out];rfl,HB4.out⟩
    | false =>
     go_wp2;go_ret;exact ⟨by rw [HR.out];rfl,HB4.out⟩
   ·have HR:Hid (e=10):=hid (by rw [←HE.out,xO (p:=some q) HEW.out (fun hl=>hcl (HC.out.symm.trans hl))]);have y1:c≤0:=by omega
    have y2:decide (c≤0)=true:=by simp;omega
    clear hc3 hcl;go_wp2;go_region_held3 (fun w'=>w'.cell? ⟨w.heap.size+1,0,none⟩=some (.int .i64 x.time)∧w'.cell? ⟨w.heap.size+1,1,none⟩=some (.int .i64 x.rep)∧w'.cell? ⟨w.heap.size,2,none⟩=some (.slice (some ⟨b1,o1,none⟩) n cw)∧w'.cell? ⟨b1,o1+j * 6,none⟩=some (.int .i64 q.time)∧w'.cell? ⟨b1,o1+j * 6+1,none⟩=some (.int .i64 q.rep)) (first | exact k1 | exact k2 | fail) (first | (go_at_call 18;((with_reducible refine (gc x.time x.rep q.time q.rep c _ HC.out).mono ?_);rintro r w2 ⟨rfl,hb2⟩;have HB2:Hid (Below w1.heap.size w1 w2):=hid (cd hb2);have k2:w2.cell? ⟨w.heap.size+1,0,none⟩=some (.int .i64 x.time)∧w2.cell? ⟨w.heap.size+1,1,none⟩=some (.int .i64 x.rep)∧w2.cell? ⟨w.heap.size,2,none⟩=some (.slice (some ⟨b1,o1,none⟩) n cw)∧w2.cell? ⟨b1,o1+j * 6,none⟩=some (.int .i64 q.time)∧w2.cell? ⟨b1,o1+j * 6+1,none⟩=some (.int .i64 q.rep):=⟨(HB2.out.cell HZ1.out).trans c0,(HB2.out.cell HZ1.out).trans c1,(HB2.out.cell (Nat.lt_of_succ_lt HZ1.out)).trans d2,(HB2.out.cell hb1').trans r0,(HB2.out.cell hb1').trans r1⟩;clear hb2)) | fail)
    go_wp2;go_ret;exact ⟨by rw [HR.out];rfl,HB1.out.trans (HB2.out.mono HB1.out.size)⟩
 ·have HR:Hid (e=ew):=hid (by rw [←HE.out,xP HEW.out h0]);rw [iL h0];go_wp2_with fail
  refine (dM _ (ew:Int) _ (HG.out.below HB1.out) (.inl rfl)).mono ?_;rintro r w2 ⟨rfl,hb2⟩;have HB2:Hid (Below w.heap.size w w2):=HB1.out.trans (hb2.mono HB1.out.size);clear hb2;go_wp2;go_ret;exact ⟨by rw [HR.out];rfl,HB2.out⟩
end
section
open Go.RowKit
theorem Ge {w:World} {ops:Array Oper} {rest:List Oper} {o:Oper} {a:Act} {Q:Exit→Act→World→Prop} (hgd:o.guard=none) (s x:Operand)
 (ho:o.op=.call { callee:=.builtin .append,args:=#[s,x],argTypes:=#[32,32] })
 (base:Nat) (v:Value) (l:List Ent) (hs:a.eval s=v) (hown:ag w base v l)
 (ad:Addr) (c n:Nat) (hx:a.eval x=.slice (some ad) n c) (m:List Ent) (hn:n=m.length) (hcell:∀ j u,(b8 m)[j]? = some u→w.cell? (ad.add j)=some u)
 (hlen:l.length+m.length≤1000000) (hbase:base≤w.heap.size)
 (h:∀ v' w',ag w' base v' (l++m)→w.grownBy w' v.ownBlock→wpList Tryz.prog ops Q rest (a.put o.dst v') w'):wpList Tryz.prog ops Q (o::rest) a w:=by
 subst hn;obtain ⟨i0,hi,hz0,hz1,hz2⟩:=info_parts nE;obtain ⟨v',w',hr,h1,h2,_⟩:=run_append_own_at (P:=Tryz.prog) w base 32 o.type 58 i0 (.agg #[.int .i64 0,.int .i64 0]) 2 16 Tryz.underlying32 hi hz0 hz1 hz2 rfl (by decide) v l.length (b8 l) hown ad m.length c (b8 m) (gL m) hcell (fun u hu=>by obtain ⟨n,rfl⟩:=qM _ _ hu;rfl) (by unfold maxLen;omega) (by omega) hbase;refine Lib.wpList_append_run w hgd s x _ _ ho v (.slice (some ad) m.length c) hs hx v' w' hr (h v' w' ?_ h2);unfold ag;rw [List.length_append,mV];exact h1
theorem CI (w:World):ag (w.alloc (.cells #[] 58)) w.heap.size (.slice (some ⟨w.heap.size,0,none⟩) 0 0) [] :=
 ⟨rfl,.inr ⟨w.heap.size,0,#[],rfl,Nat.le_refl _,heap_alloc_new w _,Nat.le_refl _,Nat.zero_le _,rfl,rfl⟩⟩
theorem qA (ad:Addr) (c n:Nat) (l:List Ent) (w:World) (hn:n=l.length) (h6:n≤1000000) (hc:∀ j u,(b8 l)[j]? = some u→w.cell? (ad.add j)=some u) :
 Calls Tryz.prog 40 #[.slice (some ad) n c] w fun e w'=>∃ v',e=.returned v'∧ag w' w.heap.size v' l∧Below w.heap.size w w':=by
 have HC:=hid hc;have HN:=hid hn;clear hc hn;have heq:∀ w:World,(binOp BinOp.eql 32 (.slice (some ad) n c) (.slice none 0 0)).run Tryz.prog w=.ok (.bool false) w:=fun w=>Go.Lib.run_eql_slice_nil w _ _ (some ad) n c 0 0 Tryz.underlying32
 go_enter Tryz.func40,Tryz.ntmps40
 go_wp2_with (at_builtin;refine Ge rfl _ _ rfl w.heap.size _ [] rfl (CI w) ad c n rfl l HN.out ?c1 ?c2 ?c3 ?_)
 case c1=>exact fun j u hj=>(World.cell?_alloc_lt w _ (ad.add j) (bg (HC.out j u hj))).trans (HC.out j u hj)
 case c2=>have:=HN.out;simp;omega
 case c3=>simp
 intro v' w' ho hg;have HO:=hid ho;have HB:Hid (Below w.heap.size w w'):=hid (((Below.refl _ _).alloc (Nat.le_refl _) _).grown hg (by simp) (fun k hk=>by
  have e:w.heap.size=k:=by simpa [Value.ownBlock] using hk
  omega))
 clear ho hg;go_wp2;go_ret;exact ⟨_,rfl,by simpa using HO.out,HB.out⟩
theorem yr (c:Nat) (w:World) :
 Calls Tryz.prog 40 #[.slice none 0 c] w fun e w'=>∃ v',e=.returned v'∧ag w' w.heap.size v' []∧Below w.heap.size w w':=by
 have heq:∀ w:World,(binOp BinOp.eql 32 (.slice none 0 c) (.slice none 0 0)).run Tryz.prog w=.ok (.bool true) w:=fun w=>Go.Lib.run_eql_slice_nil w _ _ none 0 c 0 0 Tryz.underlying32
 go_enter Tryz.func40,Tryz.ntmps40
 go_wp2;go_ret;exact ⟨_,rfl,fd _ _,Below.refl _ _⟩
theorem ki (v:Value) (l:List Ent) (w:World) (hv:ae w v l) (h6:l.length≤1000000) :
 Calls Tryz.prog 40 #[v] w fun e w'=>∃ v',e=.returned v'∧ag w' w.heap.size v' l∧Below w.heap.size w w':=by
 rcases hv with ⟨a,c,rfl,rfl⟩ | ⟨b,off,c,rfl,h1,h2,h3⟩
 ·cases a with
  | none=>exact yr c w
  | some ad=>exact qA ad c 0 [] w rfl (Nat.zero_le _) (fun j u hj=>by simp [b8] at hj)
 ·refine qA ⟨b,off,none⟩ c l.length l w rfl h6 (fun j u hj=>?_);have hadd:(⟨b,off,none⟩:Addr).add j=⟨b,off+j,none⟩:=by unfold Addr.add;split <;> simp_all
  rw [hadd];exact h3 j u hj
theorem Be (r:Int) (w:World) (hr:0≤r∧r≤200) :
 Calls Tryz.prog 21 #[.int .i64 r] w fun e w'=>e=.returned (.tuple #[.pointer (some ⟨w.heap.size,0,none⟩),.nilIface])∧aQ w' w.heap.size (fun k=>k=w.heap.size) ⟨r,[],[]⟩∧Below w.heap.size w w':=by
 obtain ⟨h1,h2⟩:=hr;have b1:decide (r<0)=false:=by simp;omega
 have b2:decide (200<r)=false:=by simp;omega
 go_enter Tryz.func21,Tryz.ntmps21
 go_wp2;go_ret2;exact ⟨rfl,⟨_,_,heap_alloc_new _ _,fd _ _,eK _ _,rfl,fun k e=>(by cases e),fun k e=>(by cases e),fun k (e:k=_)=>(by rw [e];simp),fun _=>rfl⟩,(Below.refl _ _).alloc (Nat.le_refl _) _⟩
theorem Br {l:List Ent} {k:Nat} {e:Ent} (h:l[k]? = some e):maxT (l.take (k+1))=max (maxT (l.take k)) e.time:=by
 unfold maxT;rw [List.take_add_one,h];show (l.take k++[e]).foldl _ _=_
 rw [List.foldl_append]
 rfl
theorem nR {l:List Ent} {a:Int} (h:okV a l):0≤maxT l∧maxT l≤1099511627776:=by
 refine ⟨sE l,?_⟩;have:∀ (m:List Ent) (x:Int),x≤1099511627776→(∀ e∈m,e.time≤1099511627776)→m.foldl (fun a e=>max a e.time) x≤1099511627776:=by
  intro m
  induction m with
  | nil=>intro x hx _;exact hx
  | cons d r ih =>
   intro x hx hm;rw [List.foldl_cons];exact ih _ (by have:=hm d List.mem_cons_self;omega) (fun e he=>hm e (List.mem_cons_of_mem _ he))
 exact this l 0 (by omega) (fun e he=>(bJ h e he).2.2.2.1)
theorem Bf (P:Nat) (s:LogS) (F:Nat→Prop) (vh vw:Value) (w:World) (h:bk w P F s vh vw) (ok:aM s) :
 Calls Tryz.prog 50 #[.pointer (some ⟨P,0,none⟩)] w fun e w'=>e=.returned (.int .i64 (maxT s.hv+1))∧Below w.heap.size w w':=by
 have p1:=h.c1;obtain ⟨a,c,rfl,hf⟩:=h.ents.is.form;have HF:=hid hf;obtain ⟨n,hn⟩:∃ n,n=s.hv.length:=⟨_,rfl⟩;have hn2:n≤16:=by rw [hn];exact ok.hv.1
 rw [←hn] at p1;have HN:=hid hn;have HT:Hid (∀ k,maxT (s.hv.take k)≤1099511627776):=hid (fun k=>by
  have:=(nS s.hv 0).2;have h2:∀ e∈s.hv.take k,e.time≤maxT s.hv:=fun e he=>this e (List.mem_of_mem_take he)
  have h3:=(nR ok.hv.2);have:∀ (m:List Ent) (x:Int),x≤maxT s.hv→(∀ e∈m,e.time≤maxT s.hv)→m.foldl (fun a e=>max a e.time) x≤maxT s.hv:=by
   intro m
   induction m with
   | nil=>intro x hx _;exact hx
   | cons d r ih =>
    intro x hx hm;rw [List.foldl_cons];exact ih _ (by have:=hm d List.mem_cons_self;omega) (fun e he=>hm e (List.mem_cons_of_mem _ he))
  have h4:=this (s.hv.take k) 0 h3.1 h2;unfold maxT at h4 h3 ⊢;omega)
 have HLE:=hid (nR ok.hv.2);obtain ⟨hv,hhv⟩:∃ hv,hv=s.hv:=⟨_,rfl⟩;rw [←hhv] at HN HF HT HLE ⊢;clear h ok hf hn hhv;go_enter Tryz.func50,Tryz.ntmps50
 go_wp2
 go_loopw [3,11] (fun m i wr=>∃ k:Nat,k≤n∧i=.int .i64 k∧m=.int .i64 (maxT (hv.take k))∧Below w.heap.size w wr) (fun _ i _=>n-(intOf i).toNat)
 case atStart=>exact ⟨0,by omega,rfl,rfl,Below.refl _ _⟩
 case round =>
  obtain ⟨k,hk,rfl,rfl,hb⟩:=hrel;have HB:=hid hb;have HSR:=hid hb.size;clear hb;by_cases hlt:k<n
  ·have b1:decide ((k:Int)<(n:Int))=true:=by simpa using hlt
   obtain ⟨x, hx⟩ : ∃ x, hv[k]? = some x := ⟨hv[k]'(by rw [← HN.out]; exact hlt), List.getElem?_eq_getElem _⟩;obtain ⟨b,off,rfl,hbl,c0,c1⟩:=HF.out k x hx;have HS:=hid (Br hx);obtain ⟨r,t⟩:=x;simp only at c0 c1 HS
   have e0:=(HB.out.cell (p:=⟨b,off+k * 2,none⟩) hbl).trans c0;have e1:=(HB.out.cell (p:=⟨b,off+k * 2+1,none⟩) hbl).trans c1;obtain ⟨y,hy⟩:∃ y,y=maxT (hv.take k):=⟨_,rfl⟩;rw [←hy] at HS ⊢;obtain ⟨z,hz⟩:∃ z,z=max y t:=⟨_,rfl⟩;have hz2:max y t=z:=hz.symm;have hz3:(if y<t then t else y)=z:=by rw [hz];split <;> omega
   have HZ:Hid (maxT (hv.take (k+1))=z):=hid (by rw [HS.out,hz]);clear hx c0 c1 hy hz HS;go_wp2;go_roundw
   ·exact ⟨k+1,by omega,by simp,by rw [HZ.out],HB.out.alloc HSR.out _⟩
   ·simp [intOf];omega
  ·have b1:decide ((k:Int)<(n:Int))=false:=by simp;omega
   obtain rfl:k=n:=by omega
   have HA:Hid (hv.take k=hv):=hid (List.take_of_length_le (by rw [HN.out];exact Nat.le_refl _));rw [HA.out];obtain ⟨y,hy⟩:∃ y,y=maxT hv:=⟨_,rfl⟩;rw [←hy] at HLE ⊢;have hy1:0≤y:=HLE.out.1;have hy2:y≤1099511627776:=HLE.out.2;have HY:=hid hy;clear hy;go_wp2;go_ret;exact ⟨by rw [←HY.out];rfl,HB.out⟩
theorem yV {w:World} {B:Nat} {t:Ent} (h:mU w B t):ae w (.slice (some ⟨B,0,none⟩) 1 1) [t]:=by
 refine .inr ⟨B,0,1,rfl,⟨Nat.zero_lt_one,Nat.le_refl 1⟩,(Array.getElem?_eq_some_iff.1 h).1,fun j u hj=>?_⟩;rw [Nat.zero_add,cell_of_row _ _ j _ _ (0,0) h]
 simpa [b8,entC] using hj
theorem sg (v:Value) (l:List Ent) (T R:Int) (w:World) (hv:ae w v l) (hl:l.length≤9223372036854775807) (hg:errT w) (e:Nat) (j:List Ent) (hj:aR l [⟨R,T⟩]=(e,j)) :
 Calls Tryz.prog 52 #[v,.agg #[.int .i64 T,.int .i64 R]] w fun r w'=>∃ u,r=.returned (.tuple #[u,noV e])∧ag w' w.heap.size u j∧Below w.heap.size w w':=by
 obtain ⟨a,c,rfl,_⟩:=hv.form;have HV:=hid hv;have HG:=hid hg;have HJ:=hid hj;obtain ⟨n,hn⟩:∃ n,n=l.length:=⟨_,rfl⟩;rw [←hn] at HV ⊢;have HL:=hid hl;clear hv hg hj hn hl;go_enter Tryz.func52,Tryz.ntmps52
 go_wp2_with fail
 refine (vA _ _ l [⟨R,T⟩] _ ((HV.out.alloc _).alloc _) (yV (t:=⟨R,T⟩) (by have:=kq (w.alloc (.cells #[.int .i64 T,.int .i64 R] 36)) R T;rwa [World.size_alloc] at this)) HL.out (by simp) ((HG.out.alloc _).alloc _)).mono ?_;rintro r w2 ⟨u,rfl,ho,hb⟩;rw [HJ.out] at ho ⊢;have HO:=hid ho;have HB:=hid hb;clear ho hb;go_wp2;go_ret2;exact ⟨_,rfl,ag.mono HO.out (by simp;omega),((((Below.refl _ _).alloc (Nat.le_refl _) _).alloc (by simp) _).trans (HB.out.mono (by simp;omega)))⟩
theorem kX (P:Nat) (s:LogS) (F:Nat→Prop) (w:World) (h:aQ w P F s) (ok:aM s) :
 Calls Tryz.prog 17 #[.pointer (some ⟨P,0,none⟩)] w fun e w'=>∃ u,e=.returned u∧ag w' w.heap.size u s.hv∧Below w.heap.size w w':=by
 obtain ⟨vh,vw,h⟩:=h;have p1:=h.c1;have HI:=hid h.ents.is;have HL:Hid (s.hv.length≤1000000):=hid (by have:=ok.hv.1;omega);clear h ok;go_enter Tryz.func17,Tryz.ntmps17
 go_wp2_with (go_at_call 40;refine (ki vh s.hv _ HI.out HL.out).mono ?_;rintro r w2 ⟨u,rfl,ho,hb⟩;have HO:=hid ho;have HB:=hid hb;clear ho hb)
 go_ret;exact ⟨_,rfl,HO.out,HB.out⟩
theorem aM.size {s:LogS} (ok:aM s) {x:Wr} (h:x∈s.ws):x.key.size≤140737488351232∧x.value.size≤140737488351232:=by
 have h2:=fL (show wriE x.time x.rep x.kind x.key x.value x.n=0 from (ok.mem x h).1);omega
theorem sA (P:Nat) (s:LogS) (F:Nat→Prop) (w:World) (h:aQ w P F s) (ok:aM s) :
 Calls Tryz.prog 16 #[.pointer (some ⟨P,0,none⟩)] w fun e w'=>∃ u,e=.returned u∧ak w' w.heap.size u s.ws∧Below w.heap.size w w':=by
 obtain ⟨vh,vw,h⟩:=h;have p2:=h.c2;have HI:=hid h.ows.is;have HL:Hid (s.ws.length≤100000):=hid (by have:=ok.len;omega);have HS:Hid (∀ x∈s.ws,x.key.size≤140737488351232∧x.value.size≤140737488351232):=hid (fun x hx=>ok.size hx);clear h ok;go_enter Tryz.func16,Tryz.ntmps16
 go_wp2_with (go_at_call 39;refine (my vw s.ws _ HI.out HL.out HS.out).mono ?_;rintro r w2 ⟨u,rfl,ho,hb,_⟩;have HO:=hid ho;have HB:=hid hb;clear ho hb)
 go_ret;exact ⟨_,rfl,HO.out,HB.out⟩
end
