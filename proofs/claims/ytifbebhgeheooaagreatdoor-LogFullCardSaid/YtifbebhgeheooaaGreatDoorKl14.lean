import Derived.Test.YtifbebhgeheooaaGreatDoorKl13
import Derived.RegionTactic
namespace Go.Proofs.YtifbebhgeheooaaGreatDoor
open Go.RowKit
theorem timesB_len (l:List Ent) (h:∀ e∈l,e.time≤1099511627776):(timesB l).length≤10 * l.length:=by
 induction l with
 | nil=>exact Nat.le_refl _
 | cons e t ih =>
   rw [timesB_cons,List.length_append,List.length_cons]
   have h1:=h e List.mem_cons_self
   have h2:=ih fun x hx=>h x (List.mem_cons_of_mem _ hx)
   have h3:=putL_le10 (n:=e.time.toNat) (by omega)
   omega
theorem runsB_len (R:List (List Ent)):∀ least:Int,0≤least→isRuns least R→(∀ e∈R.flatten,e.rep≤200∧e.time≤1099511627776)→R.flatten.length≤1000→(runsB least R).length≤30 * R.flatten.length:=by
 induction R with
 | nil=>intro _ _ _ _ _;exact Nat.le_refl _
 | cons run rs ih =>
   intro least h0 h hb hl
   obtain ⟨h1,h2,h3,h4⟩:=h
   have hpos:0 < run.length:=List.length_pos_iff.2 h1
   have hlast:=consec_last h3 h1
   rw [List.flatten_cons,List.length_append] at hl ⊢
   rw [List.flatten_cons] at hb
   have h5:=ih _ (by omega) h4 (fun e he=>hb e (List.mem_append_right _ he)) (by omega)
   have h6:=timesB_len run (fun e he=>(hb e (List.mem_append_left _ he)).2)
   have hh:(run.headD ⟨0,0⟩).rep≤200:=by
     cases run with
     | nil=>exact absurd rfl h1
     | cons e t=>exact (hb e (by simp)).1
   have h7:=putL_le10 (n:=((run.headD ⟨0,0⟩).rep - least).toNat) (by omega)
   have h8:=putL_le10 (n:=run.length - 1) (by omega)
   rw [runsB,List.length_append]
   unfold runB
   simp only [List.length_append]
   omega
theorem runs_few (R:List (List Ent)):∀ least:Int,isRuns least R→R.length≤R.flatten.length:=by
 induction R with
 | nil=>intro _ _;exact Nat.le_refl _
 | cons run rs ih =>
   intro least hR
   have:=ih _ hR.2.2.2
   have h3:0 < run.length:=List.length_pos_iff.2 hR.1
   rw [List.flatten_cons,List.length_append,List.length_cons];omega
theorem vwrite_len {l:List Ent} (h:rightV l):(vwriteL l).length≤500∧(runsL l).length≤16:=by
 obtain ⟨h1,h2⟩:=runs_is h.2
 have h3:=runsB_len (runsL l) 0 (Int.le_refl _) h1 (fun e he=>by rw [h2] at he;have:=okV_mem h.2 e he;omega) (by rw [h2];have:=h.1;omega)
 have h4:=runs_few _ _ h1
 rw [h2] at h3 h4
 have h5:=putL_le10 (n:=(runsL l).length) (by have:=h.1;omega)
 have h6:=h.1
 unfold vwriteL
 rw [List.length_append]
 omega
set_option maxRecDepth 100000 in
theorem wput_any (B b n:Nat) (l:List UInt8) (w:World) (h:isBld w B b l) (hn:n≤1099511627776) (hl:l.length≤1000000) (hBw:B≤w.heap.size) :
   Calls Tryz.prog 96 #[.int .i64 (n:Int),.pointer (some ⟨b,0,none⟩)] w fun e w'=>e=.returned (.tuple #[])∧isBld w' B b (l ++ putL n)∧Below B w w'∧NonB b w w':=by
 have H:=Lib.hid h
 have hp:=putL_le10 (n:=n) (by omega)
 have hk:IntKind.u64.wrap (n:Int)=(n:Int):=IntWalk.u64_in _ (by omega)
 clear h
 go_enter Tryz.func96,Tryz.ntmps96
 go_wp2_with fail
 refine (put_nat n _ (by omega)).mono ?_
 rintro r w1 ⟨rfl,hb1⟩
 have H1:=Lib.hid (H.out.below hb1)
 have HB1:=Lib.hid (hb1.mono hBw)
 have HN1:=Lib.hid (NonB.of (b:=b) hb1)
 have hz:=hb1.size
 clear hb1
 go_wp2_with fail
 refine (bld_write2 B b l _ _ H1.out (by rw [bs_size];omega) (by omega)).mono ?_
 rintro r w2 ⟨rfl,hbl,hb2,hn2⟩
 have H2:=Lib.hid hbl
 have HB2:=Lib.hid (HB1.out.trans hb2)
 have HN2:=Lib.hid (HN1.out.trans hn2 hz)
 clear hbl hb2 hn2
 go_wp2
 go_end0
 exact ⟨rfl,H2.out,HB2.out,HN2.out⟩
def VWriteIs (w:World) (l:List Ent) (e:Ending) (w':World):Prop :=
 ∃ err,e=.returned (.tuple #[.string ⟨(vwriteF l).toArray⟩,err])∧anyErr w' err (vrightF l)∧Below w.heap.size w w'
def WR (w:World) (B b:Nat) (rv:Value) (vs:List Value) (pre:List UInt8) (wr:World):Prop :=
 isBld wr w.heap.size b pre∧ownsR wr B rv vs∧b < B∧B≤wr.heap.size∧Below w.heap.size w wr
theorem WR.put {w:World} {B b:Nat} {rv:Value} {vs:List Value} {pre pre':List UInt8} {wr w':World} (h:WR w B b rv vs pre wr) (h1:isBld w' w.heap.size b pre') (h2:Below w.heap.size wr w') (h3:NonB b wr w'):WR w B b rv vs pre' w':=by
 obtain ⟨g1,g2,g3,g4,g5⟩:=h
 refine ⟨h1,?_,g3,Nat.le_trans g4 h2.size,g5.trans h2⟩
 refine NonB.row h3 g2 (by decide) (fun e=>?_)
 have:=(g2.lt b e).1
 omega
theorem WR.alloc {w:World} {B b:Nat} {rv:Value} {vs:List Value} {pre:List UInt8} {wr:World} (h:WR w B b rv vs pre wr) (o:Obj):WR w B b rv vs pre (wr.alloc o):=by
 obtain ⟨g1,g2,g3,g4,g5⟩:=h
 exact ⟨g1.alloc o,g2.alloc o,g3,Nat.le_trans g4 (by simp),g5.alloc g5.size o⟩
set_option maxRecDepth 100000 in
set_option maxHeartbeats 4000000 in
theorem vwrite_any (v:Value) (l:List Ent) (w:World) (hv:IsEnts w v l) (hl:l.length≤9223372036854775807) :
   Calls Tryz.prog 59 #[v] w (VWriteIs w l):=by
 have HV:=Lib.hid hv
 have HLL:=Lib.hid hl
 obtain ⟨a1,c1,rfl,_⟩:=hv.form
 obtain ⟨n,hn⟩:∃ n,n=l.length:=⟨_,rfl⟩
 rw [←hn] at HV ⊢
 clear hv hl hn
 by_cases h0:(vrightF l).1=0
 · have H0:=Lib.hid h0
   have hrt:=(vright_ok l).1 h0
   have HW:Hid (vwriteF l=vwriteL l):=Lib.hid (show vwriteF l=vwriteL l by unfold vwriteF;rw [if_pos h0])
   have HVG:=Lib.hid (vright_good h0)
   obtain ⟨hr1,hr2⟩:=runs_is hrt.2
   obtain ⟨hwl,hrl⟩:=vwrite_len hrt
   have HIN:Hid (∀ run∈runsL l,run.length≤16∧∀ e∈run,0≤e.rep∧e.rep≤200∧1≤e.time∧e.time≤1099511627776):=Lib.hid (show ∀ run∈runsL l,run.length≤16∧∀ e∈run,0≤e.rep∧e.rep≤200∧1≤e.time∧e.time≤1099511627776 from fun run hr=>by
     refine ⟨Nat.le_trans (List.sublist_flatten_of_mem hr).length_le (by rw [hr2];exact hrt.1),fun e he=>?_⟩
     have:=okV_mem hrt.2 e (by rw [←hr2];exact List.mem_flatten.2 ⟨run,hr,he⟩)
     omega)
   have HRM:Hid (∀ e∈l,0≤e.rep∧e.rep≤1000000):=Lib.hid (show ∀ e∈l,0≤e.rep∧e.rep≤1000000 from fun e he=>by have:=okV_mem hrt.2 e he;omega)
   have HL16:=Lib.hid hrt.1
   have HWL:=Lib.hid hwl
   have HVW:Hid (putL (runsL l).length ++ runsB 0 (runsL l)=vwriteL l):=rfl
   obtain ⟨R,hR⟩:∃ R,runsL l=R:=⟨_,rfl⟩
   rw [hR] at hr1 hrl HIN HVW
   have HR:=Lib.hid hR
   have HR1:=Lib.hid hr1
   have hmf:∀ (fn:Fn) (first cap:Array Value) (w:World),(Instr.makeFunc fn first cap).run Tryz.prog w=.ok (.func fn first cap) w:=fun _ _ _ _=>rfl
   obtain ⟨m,hm⟩:∃ m,m=R.length:=⟨_,rfl⟩
   rw [←hm] at hrl HVW
   have HM:=Lib.hid hm
   clear h0 hrt hr1 hr2 hwl hR hm
   go_enter Tryz.func59,Tryz.ntmps59
   go_wp2_with fail
   refine (vright_any _ l _ HV.out HLL.out).mono ?_
   rintro r w0 ⟨err,rfl,hat,hb0⟩
   obtain rfl:=hat.nil H0.out
   have HB0:=Lib.hid hb0
   have hz0:=hb0.size
   clear hat hb0
   go_wp2_with fail
   refine (cut_any _ l _ ((HV.out.below HB0.out).alloc _) (by have:=HL16.out;omega) HRM.out).mono ?_
   rintro r w1 ⟨rv,vs,rfl,hown,hare,hlen,hb1⟩
   rw [HR.out] at hare hlen
   have HA:=Lib.hid (hare w HV.out)
   obtain ⟨b,hbe⟩:∃ b,b=w0.heap.size:=⟨_,rfl⟩
   have hz1:=hb1.size
   rw [World.size_alloc] at hz1 hown
   have HWR:Hid (WR w (b + 1) b rv vs [] w1):=Lib.hid (show WR w (b + 1) b rv vs [] w1 by
     subst hbe
     exact ⟨(bld_new w0 w.heap.size hz0).below hb1,hown,Nat.lt_succ_self _,hz1,(HB0.out.alloc hz0 _).trans (hb1.mono (by simp;omega))⟩)
   have hrvl:∃ a c,rv=.slice a m c:=by
     rcases hown.forms with ⟨hr,hn⟩ | ⟨g,cap,hr,_⟩
     · refine ⟨none,0,?_⟩
       rw [hr,HM.out,←hlen,hn];rfl
     · exact ⟨_,cap,by rw [hr,hlen,HM.out]⟩
   obtain ⟨ra,rc,rfl⟩:=hrvl
   have hbz:w.heap.size≤b:=by omega
   rw [←hbe]
   have HBE:=Lib.hid hbe
   clear hown hare hlen hb1 hbe
   go_wp2_with fail
   refine (wput_any w.heap.size b m [] _ HWR.out.1 (by omega) (by simp) (by have:=HWR.out.2.2.2.1;omega)).mono ?_
   rintro r w2 ⟨rfl,hbl,hb2,hn2⟩
   rw [List.nil_append] at hbl
   have HWR2:=Lib.hid (HWR.out.put hbl hb2 hn2)
   clear hbl hb2 hn2
   go_wp2
   go_loopw [8,27] (fun lv i wr=>∃ (k:Nat) (least:Int) (pre:List UInt8),k≤m∧i=.int .i64 k∧lv=.int .i64 least∧0≤least∧least≤300∧pre ++ runsB least (R.drop k)=vwriteL l∧isRuns least (R.drop k)∧WR w (b + 1) b (.slice ra m rc) vs pre wr) (fun _ i _=>m - (intOf i).toNat)
   case atStart=>exact ⟨0,0,putL m,by omega,rfl,rfl,by omega,by omega,HVW.out,HR1.out,HWR2.out⟩
   case round =>
     obtain ⟨k,least,pre,hk,rfl,rfl,hl0,hl3,heq,hrun,hwr⟩:=hrel
     have HWK:=Lib.hid hwr
     have HEQ:=Lib.hid heq
     have hpre:pre.length≤500:=by have:=HWL.out;rw [←heq,List.length_append] at this;omega
     clear hwr
     by_cases hlt:k < m
     · obtain ⟨run, hru⟩ : ∃ run, R[k]? = some run := ⟨R[k]'(by have := HM.out; omega), List.getElem?_eq_getElem _⟩
       have hRd:R.drop k=run :: R.drop (k + 1):=by
         obtain ⟨h1,h2⟩:=List.getElem?_eq_some_iff.1 hru
         rw [List.drop_eq_getElem_cons h1,h2]
       rw [hRd] at hrun heq
       obtain ⟨g1,g2,g3,g4⟩:=hrun
       obtain ⟨hr16,hre⟩:=HIN.out run (List.mem_of_getElem? hru)
       have hpos:0 < run.length:=List.length_pos_iff.2 g1
       obtain ⟨vk,hvk,hiv⟩:=areE_at HA.out hru
       have HIV:=Lib.hid hiv
       obtain ⟨bb,off,cc,rfl,hcc,hbb,hcs⟩:=hiv.lies hpos
       have hlast:=consec_last g3 g1
       have h0e:run[0]? = some (run.headD ⟨0,0⟩):=by
         cases run with
         | nil=>exact absurd rfl g1
         | cons e t=>rfl
       have hhead:=hre _ (List.mem_of_getElem? h0e)
       have hlt2:=hre _ (show run.getLastD ⟨0,0⟩∈run by
         rw [List.getLastD_eq_getLast?,List.getLast?_eq_getElem?,List.getElem?_eq_getElem (show run.length - 1 < run.length by omega)]
         exact List.getElem_mem _)
       have p0:w.cell? ⟨bb,off,none⟩=some (.int .i64 (run.headD ⟨0,0⟩).rep):=by
         have:=hcs 0 _ ((entsC_at run 0 0 _ h0e (by omega)).trans rfl)
         simpa using this
       have HCS:=Lib.hid hcs
       have HG4:=Lib.hid g4
       have HRE:=Lib.hid hre
       have HRN:=Lib.hid g1
       obtain ⟨q,hq⟩:∃ q,q=run.length:=⟨_,rfl⟩
       have HQ:=Lib.hid hq
       have HBN:Hid (pre ++ (putL ((run.headD ⟨0,0⟩).rep - least).toNat ++ putL (q - 1) ++ timesB run) ++ runsB ((run.getLastD ⟨0,0⟩).rep + 2) (R.drop (k + 1))=vwriteL l):=Lib.hid (show pre ++ (putL ((run.headD ⟨0,0⟩).rep - least).toNat ++ putL (q - 1) ++ timesB run) ++ runsB ((run.getLastD ⟨0,0⟩).rep + 2) (R.drop (k + 1))=vwriteL l by
         rw [←heq,runsB,List.append_assoc,hq];rfl)
       obtain ⟨lr,hlr⟩:∃ x,(run.getLastD ⟨0,0⟩).rep=x:=⟨_,rfl⟩
       obtain ⟨hd,hhd⟩:∃ x,(run.headD ⟨0,0⟩).rep=x:=⟨_,rfl⟩
       rw [hlr] at hlt2 HBN HG4 hlast
       rw [hhd] at hhead p0 g2 HBN hlast
       have HLR:=Lib.hid hlr
       rw [←hq] at hr16 hpos hcc hlast HIV hvk
       obtain ⟨gp,hgp⟩:=Int.eq_ofNat_of_zero_le (show 0≤hd - least by omega)
       obtain ⟨q1,hq1⟩:∃ q1,q1=q - 1:=⟨_,rfl⟩
       have hqq:(q:Int) - 1=(q1:Int):=by omega
       have hgp2:gp≤200:=by omega
       have hq12:q1≤16:=by omega
       have HBN2:Hid (pre ++ (putL gp ++ putL q1 ++ timesB run) ++ runsB (lr + 2) (R.drop (k + 1))=vwriteL l):=Lib.hid (show pre ++ (putL gp ++ putL q1 ++ timesB run) ++ runsB (lr + 2) (R.drop (k + 1))=vwriteL l by
         have:=HBN.out
         rw [hgp,Int.toNat_natCast,←hq1] at this;exact this)
       have l1:=putL_le10 (n:=gp) (by omega)
       have l2:=putL_le10 (n:=q1) (by omega)
       have HSP:Hid ((pre ++ putL gp).length≤520∧(pre ++ putL gp ++ putL q1).length≤540):=Lib.hid (show (pre ++ putL gp).length≤520∧(pre ++ putL gp ++ putL q1).length≤540 by simp only [List.length_append];omega)
       rcases HWK.out.2.1.forms with ⟨_,hnil⟩ | ⟨g,cap,hrv,hgB,hgl,_,hgc⟩
       · rw [hnil] at hvk;simp at hvk
       · simp only [Value.slice.injEq] at hrv
         obtain ⟨rfl,hmv,rfl⟩:=hrv
         clear hmv
         have hgk:=hgc k _ hvk
         have x0:=(HWK.out.2.2.2.2.cell (p:=⟨bb,off,none⟩) hbb).trans p0
         have hz:=HWK.out.2.2.2.1
         have hvl:(q:Int)≤16:=by omega
         have hq0:(0:Int) < (q:Int):=by omega
         clear hru hRd heq g1 g3 g4 hre hvk hcs h0e p0 HBN hhd hlr hq hq1 hgc hlast HEQ l1 l2
         go_wp2_with fail
         refine (wput_any w.heap.size b gp pre _ HWK.out.1 (by omega) (by omega) (by omega)).mono ?_
         rintro r w3 ⟨rfl,hbl,hb3,hn3⟩
         have HW3:=Lib.hid (HWK.out.put hbl hb3 hn3)
         clear hbl hb3 hn3
         go_wp2_with fail
         refine (wput_any w.heap.size b q1 _ _ HW3.out.1 (by omega) (by have:=HSP.out;omega) (by have:=HW3.out.2.2.2.1;omega)).mono ?_
         rintro r w4 ⟨rfl,hbl,hb4,hn4⟩
         have HW4:=Lib.hid (HW3.out.put hbl hb4 hn4)
         clear hbl hb4 hn4
         go_wp2
         go_loopw [46] (fun i wr=>∃ j:Nat,j≤q∧i=.int .i64 j∧WR w (b + 1) b (.slice (some ⟨g,0,none⟩) m rc) vs (pre ++ putL gp ++ putL q1 ++ timesB (run.take j)) wr) (fun i _=>q - (intOf i).toNat)
         case atStart=>exact ⟨0,by omega,rfl,by simpa [timesB] using HW4.out⟩
         case round =>
           obtain ⟨j,hj,rfl,hwj⟩:=hrel
           have HWJ:=Lib.hid hwj
           clear hwj
           by_cases hjl:j < q
           · obtain ⟨t, ht⟩ : ∃ t, run[j]? = some t := ⟨run[j]'(by have := HQ.out; omega), List.getElem?_eq_getElem _⟩
             have y0:=HCS.out (j * 2) _ ((entsC_at run j 0 t ht (by omega)).trans rfl)
             have y1:=HCS.out (j * 2 + 1) _ ((entsC_at run j 1 t ht (by omega)).trans rfl)
             have htm:=HRE.out t (List.mem_of_getElem? ht)
             have htl:=timesB_len (run.take j) (fun e he=>(HRE.out e (List.mem_of_mem_take he)).2.2.2)
             have htl2:(run.take j).length≤j:=List.length_take_le _ _
             have htk:run.take (j + 1)=run.take j ++ [t]:=by
               obtain ⟨h1,h2⟩:=List.getElem?_eq_some_iff.1 ht
               rw [List.take_succ_eq_append_getElem h1,h2]
             obtain ⟨rep,time⟩:=t
             simp only at y0 y1 htm
             obtain ⟨tn,rfl⟩:=Int.eq_ofNat_of_zero_le (show 0≤time by omega)
             have HTK:Hid (pre ++ putL gp ++ putL q1 ++ timesB (run.take (j + 1))=(pre ++ putL gp ++ putL q1 ++ timesB (run.take j)) ++ putL tn):=Lib.hid (show pre ++ putL gp ++ putL q1 ++ timesB (run.take (j + 1))=(pre ++ putL gp ++ putL q1 ++ timesB (run.take j)) ++ putL tn by
               rw [htk,timesB_app];simp [timesB])
             have HSJ:Hid ((pre ++ putL gp ++ putL q1 ++ timesB (run.take j)).length≤1000):=Lib.hid (show (pre ++ putL gp ++ putL q1 ++ timesB (run.take j)).length≤1000 by
               have:=HSP.out.2;rw [List.length_append];omega)
             have z0:=(HWJ.out.2.2.2.2.cell (p:=⟨bb,off + j * 2,none⟩) hbb).trans y0
             have z1:wr.cell? ⟨bb,off + j * 2 + 1,none⟩=some (.int .i64 (tn:Int)):=(HWJ.out.2.2.2.2.cell (p:=⟨bb,off + j * 2 + 1,none⟩) hbb).trans (by rw [Nat.add_assoc];exact y1)
             clear y0 y1 ht htk htl htl2
             go_wp2_with fail
             refine (wput_any w.heap.size b tn _ _ (HWJ.out.alloc _).1 (by omega) (by have:=HSJ.out;omega) (Nat.le_trans (Nat.le_trans hbz (Nat.le_succ _)) (HWJ.out.alloc _).2.2.2.1)).mono ?_
             rintro r w5 ⟨rfl,hbl,hb5,hn5⟩
             have HW5:=Lib.hid ((HWJ.out.alloc _).put hbl hb5 hn5)
             clear hbl hb5 hn5
             go_wp2
             go_roundw
             case rel=>exact ⟨j + 1,by omega,by go_num,by rw [HTK.out];exact HW5.out⟩
             case measure=>simp [intOf];omega
           · have hjq:j=q:=by omega
             have HW6:Hid (WR w (b + 1) b (.slice (some ⟨g,0,none⟩) m rc) vs (pre ++ (putL gp ++ putL q1 ++ timesB run)) wr):=Lib.hid (show WR w (b + 1) b (.slice (some ⟨g,0,none⟩) m rc) vs (pre ++ (putL gp ++ putL q1 ++ timesB run)) wr by
               have h:=HWJ.out
               rw [hjq,HQ.out,List.take_length] at h
               simpa [List.append_assoc] using h)
             have HL2:=Lib.hid (show 0≤lr + 2∧lr + 2≤300 by omega)
             clear hjq
             go_wp2_with fail
             refine (behind_any _ run _ (HIV.out.below HW6.out.2.2.2.2) HRN.out (by have:=HQ.out;omega) (fun e he=>by have:=HRE.out e he;omega)).mono ?_
             rintro r w' ⟨rfl,rfl⟩
             rw [HLR.out]
             go_wp2
             go_roundw
             case rel=>exact ⟨k + 1,lr + 2,_,by omega,by go_num,rfl,HL2.out.1,HL2.out.2,HBN2.out,HG4.out,HW6.out⟩
             case measure=>simp [intOf];omega
     · have hkm:k=m:=by omega
       have HWE:Hid (isBld wr w.heap.size b (vwriteF l)):=Lib.hid (show isBld wr w.heap.size b (vwriteF l) by
         have h:=HWK.out.1
         have h2:=HEQ.out
         rw [hkm,HM.out,List.drop_eq_nil_of_le (Nat.le_refl _)] at h2
         have e:runsB least []=[]:=rfl
         rw [e,List.append_nil] at h2
         rw [HW.out,←h2];exact h)
       have hz:=HWK.out.2.2.2.2.size
       clear hkm heq hrun
       go_wp2_with fail
       refine (bld_string w.heap.size b _ _ HWE.out hz).mono ?_
       rintro r w3 ⟨rfl,hb3⟩
       have HB3:=Lib.hid (HWK.out.2.2.2.2.trans hb3)
       clear hb3
       go_wp2
       go_ret2
       exact ⟨.nilIface,rfl,.inl (.inl ⟨HVG.out,rfl⟩),HB3.out⟩
 · have HW:Hid (vwriteF l=[]):=Lib.hid (show vwriteF l=[] by unfold vwriteF;rw [if_neg h0])
   have H0:=Lib.hid h0
   clear h0
   go_enter Tryz.func59,Tryz.ntmps59
   go_wp2_with fail
   refine (vright_any _ l _ HV.out HLL.out).mono ?_
   rintro r w0 ⟨err,rfl,hat,hb0⟩
   have HAT:=Lib.hid hat
   obtain ⟨t,u,rfl⟩:=hat.iface H0.out
   have HB0:=Lib.hid hb0
   clear hat hb0
   go_wp2
   go_ret2
   exact ⟨_,by rw [HW.out];rfl,HAT.out,HB0.out⟩
end Go.Proofs.YtifbebhgeheooaaGreatDoor
namespace Go.Proofs.YtifbebhgeheooaaGreatDoor
open Go.RowKit
def JoinIs (w:World) (a b:List Ent) (e:Ending) (w':World):Prop :=
 ∃ v,e=.returned (.tuple #[v,noV (joinR a b).1])∧ownsE w' w.heap.size v (joinR a b).2∧Below w.heap.size w w'
theorem zero201:Tryz.zeroCells133=arrA fun _=>0:=by rw [←arr0_is];kernel_rfl
theorem zero201_w (w:World):w.alloc (.cells Tryz.zeroCells133 133)=w.alloc (.cells (arrA fun _=>0) 133):=by rw [zero201]
theorem idx_0 (x y:Value) (w:World):(Instr.index 134 (.agg #[x,y]) (.int .i64 0)).run Tryz.prog w=.ok x w:=by kernel_rfl
theorem idx_1 (x y:Value) (w:World):(Instr.index 134 (.agg #[x,y]) (.int .i64 1)).run Tryz.prog w=.ok y w:=by kernel_rfl
set_option maxRecDepth 100000 in
theorem idx_arr (G:Nat→Int) (k:Nat) (x:Int) (w:World) (h:k < 201) (hx:G k=x):(Instr.index 133 (.agg (arrA G)) (.int .i64 (k:Int))).run Tryz.prog w=.ok (.int .i64 x) w:=by
 have h2:=arrA_at G k h
 rw [hx] at h2
 simp [Instr.index,run_underlying Tryz.underlying133,asIntOf,h2,go_sem]
 intro hc;omega
def JL (a b:List Ent) (w:World) (k:Nat) (wr:World):Prop :=
 (k=0∧TJ (fun _=>0) w wr)∨(k=1∧rightV a∧TJ (foldT (fun _=>0) a) w wr)∨(k=2∧rightV a∧rightV b∧TJ (bothT a b) w wr)
theorem joinR_errs {a b:List Ent} {e:Nat} (h:joinR a b=(e,[])) (w w':World) (he:e≠0) (hb:Below w.heap.size w w'):JoinIs w a b (.returned (.tuple #[.slice none 0 0,.iface 42 (.int .i64 (e:Nat))])) w':=by
 refine ⟨.slice none 0 0,?_,?_,hb⟩
 · rw [h];simp only;rw [noV_e he]
 · rw [h];exact ownsE_nil _ _
theorem joinR_good {a b:List Ent} {l:List Ent} (h:joinR a b=(0,l)) (w w':World) (v:Value) (ho:ownsE w' w.heap.size v l) (hb:Below w.heap.size w w'):JoinIs w a b (.returned (.tuple #[v,.nilIface])) w':=by
 refine ⟨v,?_,?_,hb⟩
 · rw [h];rfl
 · rw [h];exact ho
set_option maxRecDepth 100000 in
set_option maxHeartbeats 4000000 in
theorem vjoin_any (va vb:Value) (a b:List Ent) (w:World) (ha:IsEnts w va a) (hb:IsEnts w vb b) (hla:a.length≤9223372036854775807) (hlb:b.length≤9223372036854775807) (hg:errT w) :
   Calls Tryz.prog 44 #[va,vb] w (JoinIs w a b):=by
 have HVA:=Lib.hid ha
 have HVB:=Lib.hid hb
 have HLA:=Lib.hid hla
 have HLB:=Lib.hid hlb
 have HG:=Lib.hid hg
 obtain ⟨aa,ca,rfl,fa⟩:=ha.form
 obtain ⟨ab,cb,rfl,fb⟩:=hb.form
 have FA:=Lib.hid fa
 have FB:=Lib.hid fb
 obtain ⟨na,hna⟩:∃ n,n=a.length:=⟨_,rfl⟩
 obtain ⟨nb,hnb⟩:∃ n,n=b.length:=⟨_,rfl⟩
 have HNA:=Lib.hid hna
 have HNB:=Lib.hid hnb
 rw [←hna] at HVA ⊢
 rw [←hnb] at HVB ⊢
 clear ha hb hla hlb hg fa fb hna hnb
 have i0:=idx_0
 have i1:=idx_1
 go_enter Tryz.func44,Tryz.ntmps44
 go_wp2
 rw [zero201_w]
 go_loopw [18] (fun i wr=>∃ k:Nat,k≤2∧i=.int .i64 k∧JL a b w k wr) (fun i _=>2 - (intOf i).toNat)
 case atStart=>exact ⟨0,by omega,rfl,.inl ⟨rfl,TJ.start w⟩⟩
 case round =>
   obtain ⟨k,hk,rfl,hj⟩:=hrel
   rcases hj with ⟨rfl,hT⟩ | ⟨rfl,hra,hT⟩ | ⟨rfl,hra,hrb,hT⟩
   · have HT:=Lib.hid hT
     have HB:=Lib.hid hT.2
     have hzr:=hT.lt
     clear hT
     by_cases h0:(vrightF a).1=0
     · have H0:=Lib.hid h0
       have HRA:=Lib.hid ((vright_ok a).1 h0)
       clear h0
       go_wp2_with fail
       refine (vbare_any _ a _ (HVA.out.below HB.out) HLA.out (HG.out.below HB.out)).mono ?_
       rintro r w1 ⟨rfl,hb1⟩
       rw [H0.out,noV_0]
       have HT1:=Lib.hid (HT.out.below hb1)
       clear hb1
       go_wp2
       go_loopw [28] (fun i wr=>∃ k:Nat,k≤na∧i=.int .i64 k∧TJ (foldT (fun _=>0) (a.take k)) w wr) (fun i _=>na - (intOf i).toNat)
       case atStart=>exact ⟨0,by omega,rfl,HT1.out⟩
       case round =>
         obtain ⟨k,hk,rfl,hT⟩:=hrel
         by_cases hlt:k < na
         · obtain ⟨t, ht⟩ : ∃ t, a[k]? = some t := ⟨a[k]'(by have := HNA.out; omega), List.getElem?_eq_getElem _⟩
           obtain ⟨b1,o1,rfl,hb1,p0,p1⟩:=FA.out k t ht
           have hm:=okV_mem HRA.out.2 t (List.mem_of_getElem? ht)
           have hsn:=take_snocE ht
           obtain ⟨rep,time⟩:=t
           simp only at p0 p1 hm
           obtain ⟨r,rfl⟩:=Int.eq_ofNat_of_zero_le hm.1
           have hr:r < 201:=by omega
           have hr':(r:Int) < 201:=by omega
           have hr0:(0:Int)≤(r:Int):=by omega
           have q0:=(hT.2.cell (p:=⟨b1,o1 + k * 2,none⟩) hb1).trans p0
           have q1:=(hT.2.cell (p:=⟨b1,o1 + k * 2 + 1,none⟩) hb1).trans p1
           obtain ⟨c0,y0⟩:=(hT.alloc (.cells #[.int .i64 (r:Int),.int .i64 time] 34)).cells r hr
           have hzt:=hT.lt
           have h16:na≤16:=by rw [HNA.out];exact HRA.out.1
           have HT0:=Lib.hid hT
           have HT2:=Lib.hid (hT.alloc (.cells #[.int .i64 (r:Int),.int .i64 time] 34))
           obtain ⟨x,hx⟩:∃ x,foldT (fun _=>0) (a.take k) r=x:=⟨_,rfl⟩
           obtain ⟨m,hmx⟩:∃ m,max x time=m:=⟨_,rfl⟩
           have hmx2:(if x < time then time else x)=m:=by rw [←hmx];split <;> omega
           rw [hx] at c0
           have HST:Hid (foldT (fun _=>0) (a.take (k + 1))=updT (foldT (fun _=>0) (a.take k)) r m):=Lib.hid (show foldT (fun _=>0) (a.take (k + 1))=updT (foldT (fun _=>0) (a.take k)) r m by rw [hsn,foldT_snoc];simp only [Int.toNat_natCast];rw [hx,hmx])
           have HRL:=Lib.hid hr
           clear hm hsn ht p0 p1 hT hx hr
           go_wp2
           go_region
           all_goals
             go_wp2
             go_roundw
             case rel=>exact ⟨k + 1,by omega,by go_num,by rw [HST.out];first | exact ((HT0.out.set r HRL.out m).alloc _).drew | exact (HT2.out.set r HRL.out m).drew | exact HT2.out.drew.set r HRL.out m | exact HT2.out.set r HRL.out m⟩
             case measure=>simp [intOf];omega
         · have hkn:k=na:=by omega
           have HT3:Hid (TJ (foldT (fun _=>0) a) w wr):=Lib.hid (show TJ (foldT (fun _=>0) a) w wr by
             have h:=hT
             rw [hkn,HNA.out,List.take_length] at h;exact h)
           clear hT hkn
           go_wp2
           go_roundw
           case rel=>exact ⟨1,by omega,rfl,.inr (.inl ⟨rfl,HRA.out,HT3.out⟩)⟩
           case measure=>simp [intOf]
     · have HJ:=Lib.hid (joinR_a (b:=b) h0)
       have H0:=Lib.hid h0
       have HQ:=Lib.hid (noV_e h0)
       clear h0
       go_wp2_with fail
       refine (vbare_any _ a _ (HVA.out.below HB.out) HLA.out (HG.out.below HB.out)).mono ?_
       rintro r w1 ⟨rfl,hb1⟩
       rw [HQ.out]
       have HB1:=Lib.hid (HT.out.below hb1).2
       clear hb1
       go_wp2
       go_ret2
       exact joinR_errs HJ.out w _ H0.out HB1.out
   · have HT:=Lib.hid hT
     have HB:=Lib.hid hT.2
     have hzr:=hT.lt
     have HRA:=Lib.hid hra
     clear hT hra
     by_cases h0:(vrightF b).1=0
     · have H0:=Lib.hid h0
       have HRB:=Lib.hid ((vright_ok b).1 h0)
       clear h0
       go_wp2_with fail
       refine (vbare_any _ b _ (HVB.out.below HB.out) HLB.out (HG.out.below HB.out)).mono ?_
       rintro r w1 ⟨rfl,hb1⟩
       rw [H0.out,noV_0]
       have HT1:=Lib.hid (HT.out.below hb1)
       clear hb1
       go_wp2
       go_loopw [28] (fun i wr=>∃ k:Nat,k≤nb∧i=.int .i64 k∧TJ (foldT (foldT (fun _=>0) a) (b.take k)) w wr) (fun i _=>nb - (intOf i).toNat)
       case atStart=>exact ⟨0,by omega,rfl,HT1.out⟩
       case round =>
         obtain ⟨k,hk,rfl,hT⟩:=hrel
         by_cases hlt:k < nb
         · obtain ⟨t, ht⟩ : ∃ t, b[k]? = some t := ⟨b[k]'(by have := HNB.out; omega), List.getElem?_eq_getElem _⟩
           obtain ⟨b1,o1,rfl,hb1,p0,p1⟩:=FB.out k t ht
           have hm:=okV_mem HRB.out.2 t (List.mem_of_getElem? ht)
           have hsn:=take_snocE ht
           obtain ⟨rep,time⟩:=t
           simp only at p0 p1 hm
           obtain ⟨r,rfl⟩:=Int.eq_ofNat_of_zero_le hm.1
           have hr:r < 201:=by omega
           have hr':(r:Int) < 201:=by omega
           have hr0:(0:Int)≤(r:Int):=by omega
           have q0:=(hT.2.cell (p:=⟨b1,o1 + k * 2,none⟩) hb1).trans p0
           have q1:=(hT.2.cell (p:=⟨b1,o1 + k * 2 + 1,none⟩) hb1).trans p1
           obtain ⟨c0,y0⟩:=(hT.alloc (.cells #[.int .i64 (r:Int),.int .i64 time] 34)).cells r hr
           have hzt:=hT.lt
           have h16:nb≤16:=by rw [HNB.out];exact HRB.out.1
           have HT0:=Lib.hid hT
           have HT2:=Lib.hid (hT.alloc (.cells #[.int .i64 (r:Int),.int .i64 time] 34))
           obtain ⟨x,hx⟩:∃ x,foldT (foldT (fun _=>0) a) (b.take k) r=x:=⟨_,rfl⟩
           obtain ⟨m,hmx⟩:∃ m,max x time=m:=⟨_,rfl⟩
           have hmx2:(if x < time then time else x)=m:=by rw [←hmx];split <;> omega
           rw [hx] at c0
           have HST:Hid (foldT (foldT (fun _=>0) a) (b.take (k + 1))=updT (foldT (foldT (fun _=>0) a) (b.take k)) r m):=Lib.hid (show foldT (foldT (fun _=>0) a) (b.take (k + 1))=updT (foldT (foldT (fun _=>0) a) (b.take k)) r m by rw [hsn,foldT_snoc];simp only [Int.toNat_natCast];rw [hx,hmx])
           have HRL:=Lib.hid hr
           clear hm hsn ht p0 p1 hT hx hr
           go_wp2
           go_region
           all_goals
             go_wp2
             go_roundw
             case rel=>exact ⟨k + 1,by omega,by go_num,by rw [HST.out];first | exact ((HT0.out.set r HRL.out m).alloc _).drew | exact (HT2.out.set r HRL.out m).drew | exact HT2.out.drew.set r HRL.out m | exact HT2.out.set r HRL.out m⟩
             case measure=>simp [intOf];omega
         · have hkn:k=nb:=by omega
           have HT3:Hid (TJ (foldT (foldT (fun _=>0) a) b) w wr):=Lib.hid (show TJ (foldT (foldT (fun _=>0) a) b) w wr by
             have h:=hT
             rw [hkn,HNB.out,List.take_length] at h;exact h)
           clear hT hkn
           go_wp2
           go_roundw
           case rel=>exact ⟨2,by omega,rfl,.inr (.inr ⟨rfl,HRA.out,HRB.out,HT3.out⟩)⟩
           case measure=>simp [intOf]
     · have HJ:=Lib.hid (joinR_b ((vright_ok a).2 HRA.out) h0)
       have H0:=Lib.hid h0
       have HQ:=Lib.hid (noV_e h0)
       clear h0
       go_wp2_with fail
       refine (vbare_any _ b _ (HVB.out.below HB.out) HLB.out (HG.out.below HB.out)).mono ?_
       rintro r w1 ⟨rfl,hb1⟩
       rw [HQ.out]
       have HB1:=Lib.hid (HT.out.below hb1).2
       clear hb1
       go_wp2
       go_ret2
       exact joinR_errs HJ.out w _ H0.out HB1.out
   · have HRA:=Lib.hid hra
     have HRB:=Lib.hid hrb
     have HB:=Lib.hid hT.2
     have hzr:=hT.lt
     have HG2:=Lib.hid hT.1
     have HI:=Lib.hid (arr_infoA (bothT a b))
     clear hra hrb hT
     go_wp2_with (with_reducible refine wpList_load_row rfl _ _ rfl _ rfl _ _ _ _ HG2.out Tryz.underlying133 rfl HI.out ?_)
     have HJL:Hid (joinL a b=tab (bothT a b) 201):=Lib.hid (show joinL a b=tab (bothT a b) 201 from (tab_both HRA.out.2 HRB.out.2 201).symm)
     have HGT:Hid (∀ r,bothT a b r≤1099511627776):=Lib.hid (show ∀ r,bothT a b r≤1099511627776 from fun r=>by rw [bothT_is HRA.out.2 HRB.out.2];exact (jF_bd HRA.out.2 HRB.out.2 r).2)
     obtain ⟨G,hG⟩:∃ G,bothT a b=G:=⟨_,rfl⟩
     rw [hG] at HJL HGT ⊢
     clear HG2 HI hG
     go_loopw [12,45] (fun lv i wr=>∃ k:Nat,k≤201∧i=.int .i64 k∧ownsE wr w.heap.size lv (tab G k)∧Below w.heap.size w wr) (fun _ i _=>201 - (intOf i).toNat)
     case atStart=>exact ⟨0,by omega,rfl,ownsE_nil _ _,HB.out⟩
     case round =>
       obtain ⟨k,hk,rfl,ho,hb⟩:=hrel
       have HO:=Lib.hid ho
       have HB2:=Lib.hid hb
       have hz2:=hb.size
       clear ho hb
       by_cases hlt:k < 201
       · have hlt':(k:Int) < 201:=by omega
         have hlen:=tab_len G k
         by_cases hp:0 < G k
         · have HT:=Lib.hid (tab_yes hp)
           obtain ⟨y,hy⟩:∃ y,G k=y:=⟨_,rfl⟩
           rw [hy] at hp HT
           have hm:=fun W=>idx_arr G k y W hlt hy
           clear hy
           go_wp2_with (at_builtin;refine wpList_append_ent rfl _ _ rfl w.heap.size _ (tab G k) rfl (HO.out.alloc _) wr.heap.size 1 rfl ⟨k,y⟩ ?c1 ?c2 ?c3 ?_)
           case c1=>exact entBlk_new _ _ _
           case c2=>omega
           case c3=>simp;omega
           · intro g cap w2 ho2 hg2
             have HO2:Hid (ownsE w2 w.heap.size (.slice (some ⟨g,0,none⟩) ((tab G k).length + 1) cap) (tab G (k + 1))):=Lib.hid (show ownsE w2 w.heap.size (.slice (some ⟨g,0,none⟩) ((tab G k).length + 1) cap) (tab G (k + 1)) by rw [HT.out];exact ho2)
             have HB3:Hid (Below w.heap.size w w2):=(HB2.out.alloc hz2 _).grown hg2 (by simp;omega) (fun g hg=>(HO.out.lt g hg).1)
             clear ho2 hg2
             go_wp2
             go_roundw
             case rel=>exact ⟨k + 1,by omega,by go_num,HO2.out,HB3.out⟩
             case measure=>simp [intOf];omega
         · have HT:=Lib.hid (tab_no hp)
           obtain ⟨y,hy⟩:∃ y,G k=y:=⟨_,rfl⟩
           rw [hy] at hp
           have hm:=fun W=>idx_arr G k y W hlt hy
           clear hy
           go_wp2
           go_roundw
           case rel=>exact ⟨k + 1,by omega,by go_num,by rw [HT.out];exact HO.out,HB2.out⟩
           case measure=>simp [intOf];omega
       · obtain rfl:k=201:=by omega
         have H0A:=Lib.hid ((vright_ok a).2 HRA.out)
         have H0B:=Lib.hid ((vright_ok b).2 HRB.out)
         rw [←HJL.out] at HO
         obtain ⟨av,cv,hv,_⟩:=HO.out.is.form
         subst hv
         obtain ⟨m,hm⟩:∃ m,m=(joinL a b).length:=⟨_,rfl⟩
         have HM:=Lib.hid hm
         have hml:m≤201:=by rw [hm,HJL.out];exact tab_len G 201
         rw [←hm] at HO ⊢
         clear hm hlt
         by_cases h16:16 < m
         · have HJ:=Lib.hid (joinR_many H0A.out H0B.out (by rw [←HM.out];exact h16))
           go_wp2
           go_ret2
           exact joinR_errs HJ.out w _ (by decide) HB2.out
         · have HJ:=Lib.hid (joinR_ok H0A.out H0B.out (by rw [←HM.out];exact h16))
           go_wp2
           go_ret2
           exact joinR_good HJ.out w _ _ HO.out HB2.out
end Go.Proofs.YtifbebhgeheooaaGreatDoor
namespace Go.Proofs.YtifbebhgeheooaaGreatDoor
open Go.RowKit
theorem errV_ok:errV 0=.nilIface:=rfl
theorem errV_no {e:Nat} (h:e≠0):errV e=.iface 42 (.int .i64 e):=by unfold errV;rw [if_neg h]
def batAt (w:World) (B:Nat) (vf vh vw:Value):Prop :=
 w.cell? ⟨B,0,none⟩=some vf∧w.cell? ⟨B,1,none⟩=some vh∧w.cell? ⟨B,2,none⟩=some vw
theorem batAt.below {w w':World} {B:Nat} {vf vh vw:Value} {m:Nat} (h:batAt w B vf vh vw) (hb:Below m w w') (hm:B < m):batAt w' B vf vh vw :=
 ⟨(hb.cell hm).trans h.1,(hb.cell hm).trans h.2.1,(hb.cell hm).trans h.2.2⟩
theorem batAt_new (w:World) (vf vh vw:Value) (t:TypeId):batAt (w.alloc (.cells #[vf,vh,vw] t)) w.heap.size vf vh vw:=by
 unfold batAt;simp
theorem wright_as (x:Wr) (e:Nat) (w:World) (hk:x.key.size≤140737488351232) (hv:x.value.size≤140737488351232) (he:wE x=e) :
   Calls Tryz.prog 9 #[.agg #[.int .i64 x.time,.int .i64 x.rep,.int .i64 x.kind,.string x.key,.string x.value,.int .i64 x.n]] w fun r w'=>r=.returned (errV e)∧Below w.heap.size w w':=by
 subst he;exact wright_any x.time x.rep x.kind x.key x.value x.n w hk hv
set_option maxRecDepth 100000 in
set_option maxHeartbeats 4000000 in
theorem bwrong_any (vf vh vw:Value) (f h:List Ent) (l:List Wr) (k:Nat) (x:Wr) (p:Option Wr) (e:Nat) (w:World) (hf:IsEnts w vf f) (hh:IsEnts w vh h) (hv:IsWrs w vw l) (hlf:f.length≤9223372036854775807) (hlh:h.length≤9223372036854775807) (hl:l.length≤60)
   (hx:l[k]? = some x) (hp:(k=0∧p=none)∨∃ j q,k=j + 1∧l[j]? = some q∧p=some q) (hok:∀ t∈l,WrOk t) (hg:errT w) (he:bwE f h p x=e) :
   Calls Tryz.prog 83 #[.agg #[vf,vh,vw],.int .i64 (k:Int)] w fun r w'=>r=.returned (.int .i64 (e:Nat))∧Below w.heap.size w w':=by
 have HF:=Lib.hid hf
 have HH:=Lib.hid hh
 have HG:=Lib.hid hg
 have HLF:=Lib.hid hlf
 have HLH:=Lib.hid hlh
 obtain ⟨aw,cw,rfl,fw⟩:=hv.form
 have FW:=Lib.hid fw
 obtain ⟨n,hn⟩:∃ n,n=l.length:=⟨_,rfl⟩
 rw [←hn] at hl ⊢
 have hkn:k < n:=by rw [hn];exact (List.getElem?_eq_some_iff.1 hx).1
 obtain ⟨b1,o1,rfl,hb1,p0,p1,p2,p3,p4,p5⟩:=fw k x hx
 have HOK:=Lib.hid (hok x (List.mem_of_getElem? hx))
 obtain ⟨ew,hew⟩:∃ ew,wE x=ew:=⟨_,rfl⟩
 have HEW:=Lib.hid hew
 have HE:=Lib.hid he
 have HP:=Lib.hid hp
 clear hf hh hg hlf hlh hv fw hn hx hp hok he hew
 go_enter Tryz.func83,Tryz.ntmps83
 go_wp2_with fail
 refine (wright_as x ew _ HOK.out.2.2.1 HOK.out.2.2.2 HEW.out).mono ?_
 rintro r w1 ⟨rfl,hb2⟩
 have hz1:w.heap.size + 1 < w1.heap.size:=by have:=hb2.size;simp at this;omega
 have HZ1:=Lib.hid hz1
 have HBA1:Hid (batAt w1 w.heap.size vf vh (.slice (some ⟨b1,o1,none⟩) n cw)):=Lib.hid (((batAt_new w vf vh (.slice (some ⟨b1,o1,none⟩) n cw) 38).below ((Below.refl _ _).alloc (Nat.le_refl _) _) (by simp)).below hb2 (by simp;omega))
 have HWA1:Hid (wrAt w1 (w.heap.size + 1) x.time x.rep x.kind x.key x.value x.n):=Lib.hid ((by simpa using wrAt_new (w.alloc (.cells #[vf,vh,.slice (some ⟨b1,o1,none⟩) n cw] 38)) x.time x.rep x.kind x.key x.value x.n 25:wrAt _ (w.heap.size + 1) x.time x.rep x.kind x.key x.value x.n).below hb2 (by simp))
 have HB1:Hid (Below w.heap.size w w1):=Lib.hid ((((Below.refl _ _).alloc (Nat.le_refl _) _).alloc (by simp) _).trans (hb2.mono (by simp;omega)))
 clear hb2 p0 p1 p2 p3 p4 p5 hz1
 by_cases h0:ew=0
 · subst h0
   rw [errV_ok]
   have hla:lateO p x∨¬ lateO p x:=Classical.em _
   rcases HP.out with ⟨hk0,hp0⟩ | ⟨j,q,hkj,hq,hpq⟩
   · subst hk0 hp0
     obtain ⟨b,hb⟩:∃ b,wiF (x.time,x.rep) f h=b:=⟨_,rfl⟩
     have HWI:=Lib.hid hb
     have HR:Hid (e=if b=true then 0 else 6):=Lib.hid (by
       rw [←HE.out]
       cases b with
       | true=>rw [bwE_fine (p:=none) HEW.out trivial hb];rfl
       | false=>rw [bwE_state (p:=none) HEW.out trivial hb];rfl)
     clear hb hla
     obtain ⟨c0,c1,c2,c3,c4,c5⟩:=HWA1.out
     obtain ⟨d0,d1,d2⟩:=HBA1.out
     go_wp2
     go_quiet (fail)
     go_wp2_with fail
     refine (within_as x.time x.rep vf vh f h b _ (HF.out.below (below_drewN HB1.out _)) (HH.out.below (below_drewN HB1.out _)) HLF.out HLH.out HWI.out).mono ?_
     rintro r w2 ⟨rfl,hb2⟩
     have HB2:Hid (Below w.heap.size w w2):=(below_drewN HB1.out _).trans (hb2.mono HB1.out.size)
     clear hb2 c0 c1 c2 c3 c4 c5 d0 d1 d2
     cases b with
     | true =>
       go_wp2
       go_ret
       exact ⟨by rw [HR.out];rfl,HB2.out⟩
     | false =>
       go_wp2
       go_ret
       exact ⟨by rw [HR.out];rfl,HB2.out⟩
   · obtain ⟨b2,o2,hbo,_,q0,q1,_⟩:=FW.out j q hq
     simp only [Option.some.injEq,Addr.mk.injEq,and_true] at hbo
     obtain ⟨rfl,rfl⟩:=hbo
     have r0:=(HB1.out.cell (p:=⟨b1,o1 + j * 6,none⟩) hb1).trans q0
     have r1:=(HB1.out.cell (p:=⟨b1,o1 + j * 6 + 1,none⟩) hb1).trans q1
     have HK:=Lib.hid hkj
     have hj1:(k:Int) - 1=(j:Int):=by omega
     have hj2:IntKind.i64.wrap ((k:Int) - 1)=(j:Int):=by rw [hj1];exact IntWalk.i64_in _ (by omega)
     have hj3:IntKind.i64.wrap (j:Int)=(j:Int):=IntWalk.i64_in _ (by omega)
     have hk0:(0:Int) < (k:Int):=by omega
     have z1:0 < k:=by omega
     have z2:decide (0 < k)=true:=by simp;omega
     have z3:decide ((0:Int) < (k:Int))=true:=by simp;omega
     have hjn:(j:Int) < (n:Int):=by omega
     have hjn':j < n:=by omega
     have hj0:(0:Int)≤(j:Int):=by omega
     obtain ⟨c,hc⟩:∃ c,cI (x.time,x.rep) (q.time,q.rep)=c:=⟨_,rfl⟩
     have HC:=Lib.hid hc
     have hc3:c=-1∨c=0∨c=1:=by rw [←hc];exact cI_three _ _ _ _
     obtain ⟨c0,c1,c2,c3,c4,c5⟩:=HWA1.out
     obtain ⟨d0,d1,d2⟩:=HBA1.out
     subst hpq
     clear q0 q1 hq hkj hc hla
     have hb1':b1 < w1.heap.size:=Nat.lt_of_lt_of_le hb1 HB1.out.size
     have k1:w1.cell? ⟨w.heap.size + 1,0,none⟩=some (.int .i64 x.time)∧w1.cell? ⟨w.heap.size + 1,1,none⟩=some (.int .i64 x.rep)∧w1.cell? ⟨w.heap.size,2,none⟩=some (.slice (some ⟨b1,o1,none⟩) n cw)∧w1.cell? ⟨b1,o1 + j * 6,none⟩=some (.int .i64 q.time)∧w1.cell? ⟨b1,o1 + j * 6 + 1,none⟩=some (.int .i64 q.rep):=⟨c0,c1,d2,r0,r1⟩
     by_cases hcl:c=1
     · subst hcl
       obtain ⟨b,hb⟩:∃ b,wiF (x.time,x.rep) f h=b:=⟨_,rfl⟩
       have HWI:=Lib.hid hb
       have HR:Hid (e=if b=true then 0 else 6):=Lib.hid (by
         rw [←HE.out]
         cases b with
         | true=>rw [bwE_fine (p:=some q) HEW.out HC.out hb];rfl
         | false=>rw [bwE_state (p:=some q) HEW.out HC.out hb];rfl)
       clear hb hc3
       go_wp2
       go_region_held3 (fun w'=>w'.cell? ⟨w.heap.size + 1,0,none⟩=some (.int .i64 x.time)∧w'.cell? ⟨w.heap.size + 1,1,none⟩=some (.int .i64 x.rep)∧w'.cell? ⟨w.heap.size,2,none⟩=some (.slice (some ⟨b1,o1,none⟩) n cw)∧w'.cell? ⟨b1,o1 + j * 6,none⟩=some (.int .i64 q.time)∧w'.cell? ⟨b1,o1 + j * 6 + 1,none⟩=some (.int .i64 q.rep)) (first | exact k1 | exact k2 | fail) (first | (go_at_call 60;((with_reducible refine (idcmp_as x.time x.rep q.time q.rep 1 _ HC.out).mono ?_);rintro r w2 ⟨rfl,hb2⟩;have HB2:Hid (Below w1.heap.size w1 w2):=Lib.hid (undrew3 hb2);have k2:w2.cell? ⟨w.heap.size + 1,0,none⟩=some (.int .i64 x.time)∧w2.cell? ⟨w.heap.size + 1,1,none⟩=some (.int .i64 x.rep)∧w2.cell? ⟨w.heap.size,2,none⟩=some (.slice (some ⟨b1,o1,none⟩) n cw)∧w2.cell? ⟨b1,o1 + j * 6,none⟩=some (.int .i64 q.time)∧w2.cell? ⟨b1,o1 + j * 6 + 1,none⟩=some (.int .i64 q.rep):=⟨(HB2.out.cell HZ1.out).trans c0,(HB2.out.cell HZ1.out).trans c1,(HB2.out.cell (Nat.lt_of_succ_lt HZ1.out)).trans d2,(HB2.out.cell hb1').trans r0,(HB2.out.cell hb1').trans r1⟩;clear hb2)) | fail)
       obtain ⟨e0,e1,e2,e3,e4⟩:=k2
       have g0:=(HB2.out.cell (p:=⟨w.heap.size,0,none⟩) (Nat.lt_of_succ_lt HZ1.out)).trans d0
       have g1:=(HB2.out.cell (p:=⟨w.heap.size,1,none⟩) (Nat.lt_of_succ_lt HZ1.out)).trans d1
       go_wp2_with fail
       have HB3:Hid (Below w.heap.size w w2):=HB1.out.trans (HB2.out.mono HB1.out.size)
       refine (within_as x.time x.rep vf vh f h b _ (HF.out.below HB3.out) (HH.out.below HB3.out) HLF.out HLH.out HWI.out).mono ?_
       rintro r w3 ⟨rfl,hb3⟩
       have HB4:Hid (Below w.heap.size w w3):=HB3.out.trans (hb3.mono HB3.out.size)
       clear hb3 k1 e0 e1 e2 e3 e4 g0 g1 c0 c1 c2 c3 c4 c5 d0 d1 d2
       cases b with
       | true =>
         go_wp2
         go_ret
         exact ⟨by rw [HR.out];rfl,HB4.out⟩
       | false =>
         go_wp2
         go_ret
         exact ⟨by rw [HR.out];rfl,HB4.out⟩
     · have HR:Hid (e=10):=Lib.hid (by rw [←HE.out,bwE_order (p:=some q) HEW.out (fun hl=>hcl (HC.out.symm.trans hl))])
       have y1:c≤0:=by omega
       have y2:decide (c≤0)=true:=by simp;omega
       clear hc3 hcl
       go_wp2
       go_region_held3 (fun w'=>w'.cell? ⟨w.heap.size + 1,0,none⟩=some (.int .i64 x.time)∧w'.cell? ⟨w.heap.size + 1,1,none⟩=some (.int .i64 x.rep)∧w'.cell? ⟨w.heap.size,2,none⟩=some (.slice (some ⟨b1,o1,none⟩) n cw)∧w'.cell? ⟨b1,o1 + j * 6,none⟩=some (.int .i64 q.time)∧w'.cell? ⟨b1,o1 + j * 6 + 1,none⟩=some (.int .i64 q.rep)) (first | exact k1 | exact k2 | fail) (first | (go_at_call 60;((with_reducible refine (idcmp_as x.time x.rep q.time q.rep c _ HC.out).mono ?_);rintro r w2 ⟨rfl,hb2⟩;have HB2:Hid (Below w1.heap.size w1 w2):=Lib.hid (undrew3 hb2);have k2:w2.cell? ⟨w.heap.size + 1,0,none⟩=some (.int .i64 x.time)∧w2.cell? ⟨w.heap.size + 1,1,none⟩=some (.int .i64 x.rep)∧w2.cell? ⟨w.heap.size,2,none⟩=some (.slice (some ⟨b1,o1,none⟩) n cw)∧w2.cell? ⟨b1,o1 + j * 6,none⟩=some (.int .i64 q.time)∧w2.cell? ⟨b1,o1 + j * 6 + 1,none⟩=some (.int .i64 q.rep):=⟨(HB2.out.cell HZ1.out).trans c0,(HB2.out.cell HZ1.out).trans c1,(HB2.out.cell (Nat.lt_of_succ_lt HZ1.out)).trans d2,(HB2.out.cell hb1').trans r0,(HB2.out.cell hb1').trans r1⟩;clear hb2)) | fail)
       go_wp2
       go_ret
       exact ⟨by rw [HR.out];rfl,HB1.out.trans (HB2.out.mono HB1.out.size)⟩
 · have HR:Hid (e=ew):=Lib.hid (by rw [←HE.out,bwE_w HEW.out h0])
   rw [errV_no h0]
   go_wp2_with fail
   refine (tell_err _ (ew:Int) _ (HG.out.below HB1.out) (.inl rfl)).mono ?_
   rintro r w2 ⟨rfl,hb2⟩
   have HB2:Hid (Below w.heap.size w w2):=HB1.out.trans (hb2.mono HB1.out.size)
   clear hb2
   go_wp2
   go_ret
   exact ⟨by rw [HR.out];rfl,HB2.out⟩
end Go.Proofs.YtifbebhgeheooaaGreatDoor
