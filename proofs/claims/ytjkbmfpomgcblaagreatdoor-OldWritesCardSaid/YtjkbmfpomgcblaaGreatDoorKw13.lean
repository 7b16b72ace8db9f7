import Derived.Test.YtjkbmfpomgcblaaGreatDoorKw12
namespace Go.Proofs.YtjkbmfpomgcblaaGreatDoor
open Go.RowKit
theorem timesB_len (l:List Ent) (h:∀ e∈l,e.time≤1099511627776):(timesB l).length≤10 * l.length:=by
 induction l with
 | nil=>exact Nat.le_refl _
 | cons e t ih =>
   rw [timesB_cons,List.length_append,List.length_cons]
   have h1:=h e List.mem_cons_self
   have h2:=ih fun x hx=>h x (List.mem_cons_of_mem _ hx)
   have h3:=putL_le10 (n:=e.time.toNat) (by omega)
   omega
theorem runsB_len (R:List (List Ent)):∀ least:Int,0≤least→isRuns least R→(∀ e∈R.flatten,e.rep≤200∧e.time≤1099511627776)→R.flatten.length≤1000→(runsB least R).length≤30 * R.flatten.length:=by
 induction R with
 | nil=>intro _ _ _ _ _;exact Nat.le_refl _
 | cons run rs ih =>
   intro least h0 h hb hl
   obtain ⟨h1,h2,h3,h4⟩:=h
   have hpos:0 < run.length:=List.length_pos_iff.2 h1
   have hlast:=consec_last h3 h1
   rw [List.flatten_cons,List.length_append] at hl ⊢
   rw [List.flatten_cons] at hb
   have h5:=ih _ (by omega) h4 (fun e he=>hb e (List.mem_append_right _ he)) (by omega)
   have h6:=timesB_len run (fun e he=>(hb e (List.mem_append_left _ he)).2)
   have hh:(run.headD ⟨0,0⟩).rep≤200:=by
     cases run with
     | nil=>exact absurd rfl h1
     | cons e t=>exact (hb e (by simp)).1
   have h7:=putL_le10 (n:=((run.headD ⟨0,0⟩).rep - least).toNat) (by omega)
   have h8:=putL_le10 (n:=run.length - 1) (by omega)
   rw [runsB,List.length_append]
   unfold runB
   simp only [List.length_append]
   omega
theorem runs_few (R:List (List Ent)):∀ least:Int,isRuns least R→R.length≤R.flatten.length:=by
 induction R with
 | nil=>intro _ _;exact Nat.le_refl _
 | cons run rs ih =>
   intro least hR
   have:=ih _ hR.2.2.2
   have h3:0 < run.length:=List.length_pos_iff.2 hR.1
   rw [List.flatten_cons,List.length_append,List.length_cons];omega
theorem vwrite_len {l:List Ent} (h:rightV l):(vwriteL l).length≤500∧(runsL l).length≤16:=by
 obtain ⟨h1,h2⟩:=runs_is h.2
 have h3:=runsB_len (runsL l) 0 (Int.le_refl _) h1 (fun e he=>by rw [h2] at he;have:=okV_mem h.2 e he;omega) (by rw [h2];have:=h.1;omega)
 have h4:=runs_few _ _ h1
 rw [h2] at h3 h4
 have h5:=putL_le10 (n:=(runsL l).length) (by have:=h.1;omega)
 have h6:=h.1
 unfold vwriteL
 rw [List.length_append]
 omega
set_option maxRecDepth 100000 in
theorem wput_any (B b n:Nat) (l:List UInt8) (w:World) (h:isBld w B b l) (hn:n≤1099511627776) (hl:l.length≤1000000) (hBw:B≤w.heap.size) :
   Calls Tryz.prog 163 #[.int .i64 (n:Int),.pointer (some ⟨b,0,none⟩)] w fun e w'=>e=.returned (.tuple #[])∧isBld w' B b (l ++ putL n)∧Below B w w'∧NonB b w w':=by
 have H:=Lib.hid h
 have hp:=putL_le10 (n:=n) (by omega)
 have hk:IntKind.u64.wrap (n:Int)=(n:Int):=IntWalk.u64_in _ (by omega)
 clear h
 go_enter Tryz.func163,Tryz.ntmps163
 go_wp2_with fail
 refine (put_nat n _ (by omega)).mono ?_
 rintro r w1 ⟨rfl,hb1⟩
 have H1:=Lib.hid (H.out.below hb1)
 have HB1:=Lib.hid (hb1.mono hBw)
 have HN1:=Lib.hid (NonB.of (b:=b) hb1)
 have hz:=hb1.size
 clear hb1
 go_wp2_with fail
 refine (bld_write2 B b l _ _ H1.out (by rw [bs_size];omega) (by omega)).mono ?_
 rintro r w2 ⟨rfl,hbl,hb2,hn2⟩
 have H2:=Lib.hid hbl
 have HB2:=Lib.hid (HB1.out.trans hb2)
 have HN2:=Lib.hid (HN1.out.trans hn2 hz)
 clear hbl hb2 hn2
 go_wp2
 go_end0
 exact ⟨rfl,H2.out,HB2.out,HN2.out⟩
def VWriteIs (w:World) (l:List Ent) (e:Ending) (w':World):Prop :=
 ∃ err,e=.returned (.tuple #[.string ⟨(vwriteF l).toArray⟩,err])∧anyErr w' err (vrightF l)∧Below w.heap.size w w'
def WR (w:World) (B b:Nat) (rv:Value) (vs:List Value) (pre:List UInt8) (wr:World):Prop :=
 isBld wr w.heap.size b pre∧ownsR wr B rv vs∧b < B∧B≤wr.heap.size∧Below w.heap.size w wr
theorem WR.put {w:World} {B b:Nat} {rv:Value} {vs:List Value} {pre pre':List UInt8} {wr w':World} (h:WR w B b rv vs pre wr) (h1:isBld w' w.heap.size b pre') (h2:Below w.heap.size wr w') (h3:NonB b wr w'):WR w B b rv vs pre' w':=by
 obtain ⟨g1,g2,g3,g4,g5⟩:=h
 refine ⟨h1,?_,g3,Nat.le_trans g4 h2.size,g5.trans h2⟩
 refine NonB.row h3 g2 (by decide) (fun e=>?_)
 have:=(g2.lt b e).1
 omega
theorem WR.alloc {w:World} {B b:Nat} {rv:Value} {vs:List Value} {pre:List UInt8} {wr:World} (h:WR w B b rv vs pre wr) (o:Obj):WR w B b rv vs pre (wr.alloc o):=by
 obtain ⟨g1,g2,g3,g4,g5⟩:=h
 exact ⟨g1.alloc o,g2.alloc o,g3,Nat.le_trans g4 (by simp),g5.alloc g5.size o⟩
set_option maxRecDepth 100000 in
set_option maxHeartbeats 4000000 in
theorem vwrite_any (v:Value) (l:List Ent) (w:World) (hv:IsEnts w v l) (hl:l.length≤9223372036854775807) :
   Calls Tryz.prog 105 #[v] w (VWriteIs w l):=by
 have HV:=Lib.hid hv
 have HLL:=Lib.hid hl
 obtain ⟨a1,c1,rfl,_⟩:=hv.form
 obtain ⟨n,hn⟩:∃ n,n=l.length:=⟨_,rfl⟩
 rw [←hn] at HV ⊢
 clear hv hl hn
 by_cases h0:(vrightF l).1=0
 · have H0:=Lib.hid h0
   have hrt:=(vright_ok l).1 h0
   have HW:Hid (vwriteF l=vwriteL l):=Lib.hid (show vwriteF l=vwriteL l by unfold vwriteF;rw [if_pos h0])
   have HVG:=Lib.hid (vright_good h0)
   obtain ⟨hr1,hr2⟩:=runs_is hrt.2
   obtain ⟨hwl,hrl⟩:=vwrite_len hrt
   have HIN:Hid (∀ run∈runsL l,run.length≤16∧∀ e∈run,0≤e.rep∧e.rep≤200∧1≤e.time∧e.time≤1099511627776):=Lib.hid (show ∀ run∈runsL l,run.length≤16∧∀ e∈run,0≤e.rep∧e.rep≤200∧1≤e.time∧e.time≤1099511627776 from fun run hr=>by
     refine ⟨Nat.le_trans (List.sublist_flatten_of_mem hr).length_le (by rw [hr2];exact hrt.1),fun e he=>?_⟩
     have:=okV_mem hrt.2 e (by rw [←hr2];exact List.mem_flatten.2 ⟨run,hr,he⟩)
     omega)
   have HRM:Hid (∀ e∈l,0≤e.rep∧e.rep≤1000000):=Lib.hid (show ∀ e∈l,0≤e.rep∧e.rep≤1000000 from fun e he=>by have:=okV_mem hrt.2 e he;omega)
   have HL16:=Lib.hid hrt.1
   have HWL:=Lib.hid hwl
   have HVW:Hid (putL (runsL l).length ++ runsB 0 (runsL l)=vwriteL l):=rfl
   obtain ⟨R,hR⟩:∃ R,runsL l=R:=⟨_,rfl⟩
   rw [hR] at hr1 hrl HIN HVW
   have HR:=Lib.hid hR
   have HR1:=Lib.hid hr1
   have hmf:∀ (fn:Fn) (first cap:Array Value) (w:World),(Instr.makeFunc fn first cap).run Tryz.prog w=.ok (.func fn first cap) w:=fun _ _ _ _=>rfl
   obtain ⟨m,hm⟩:∃ m,m=R.length:=⟨_,rfl⟩
   rw [←hm] at hrl HVW
   have HM:=Lib.hid hm
   clear h0 hrt hr1 hr2 hwl hR hm
   go_enter Tryz.func105,Tryz.ntmps105
   go_wp2_with fail
   refine (vright_any _ l _ HV.out HLL.out).mono ?_
   rintro r w0 ⟨err,rfl,hat,hb0⟩
   obtain rfl:=hat.nil H0.out
   have HB0:=Lib.hid hb0
   have hz0:=hb0.size
   clear hat hb0
   go_wp2_with fail
   refine (cut_any _ l _ ((HV.out.below HB0.out).alloc _) (by have:=HL16.out;omega) HRM.out).mono ?_
   rintro r w1 ⟨rv,vs,rfl,hown,hare,hlen,hb1⟩
   rw [HR.out] at hare hlen
   have HA:=Lib.hid (hare w HV.out)
   obtain ⟨b,hbe⟩:∃ b,b=w0.heap.size:=⟨_,rfl⟩
   have hz1:=hb1.size
   rw [World.size_alloc] at hz1 hown
   have HWR:Hid (WR w (b + 1) b rv vs [] w1):=Lib.hid (show WR w (b + 1) b rv vs [] w1 by
     subst hbe
     exact ⟨(bld_new w0 w.heap.size hz0).below hb1,hown,Nat.lt_succ_self _,hz1,(HB0.out.alloc hz0 _).trans (hb1.mono (by simp;omega))⟩)
   have hrvl:∃ a c,rv=.slice a m c:=by
     rcases hown.forms with ⟨hr,hn⟩ | ⟨g,cap,hr,_⟩
     · refine ⟨none,0,?_⟩
       rw [hr,HM.out,←hlen,hn];rfl
     · exact ⟨_,cap,by rw [hr,hlen,HM.out]⟩
   obtain ⟨ra,rc,rfl⟩:=hrvl
   have hbz:w.heap.size≤b:=by omega
   rw [←hbe]
   have HBE:=Lib.hid hbe
   clear hown hare hlen hb1 hbe
   go_wp2_with fail
   refine (wput_any w.heap.size b m [] _ HWR.out.1 (by omega) (by simp) (by have:=HWR.out.2.2.2.1;omega)).mono ?_
   rintro r w2 ⟨rfl,hbl,hb2,hn2⟩
   rw [List.nil_append] at hbl
   have HWR2:=Lib.hid (HWR.out.put hbl hb2 hn2)
   clear hbl hb2 hn2
   go_wp2
   go_loopw [8,27] (fun lv i wr=>∃ (k:Nat) (least:Int) (pre:List UInt8),k≤m∧i=.int .i64 k∧lv=.int .i64 least∧0≤least∧least≤300∧pre ++ runsB least (R.drop k)=vwriteL l∧isRuns least (R.drop k)∧WR w (b + 1) b (.slice ra m rc) vs pre wr) (fun _ i _=>m - (intOf i).toNat)
   case atStart=>exact ⟨0,0,putL m,by omega,rfl,rfl,by omega,by omega,HVW.out,HR1.out,HWR2.out⟩
   case round =>
     obtain ⟨k,least,pre,hk,rfl,rfl,hl0,hl3,heq,hrun,hwr⟩:=hrel
     have HWK:=Lib.hid hwr
     have HEQ:=Lib.hid heq
     have hpre:pre.length≤500:=by have:=HWL.out;rw [←heq,List.length_append] at this;omega
     clear hwr
     by_cases hlt:k < m
     · obtain ⟨run, hru⟩ : ∃ run, R[k]? = some run := ⟨R[k]'(by have := HM.out; omega), List.getElem?_eq_getElem _⟩
       have hRd:R.drop k=run :: R.drop (k + 1):=by
         obtain ⟨h1,h2⟩:=List.getElem?_eq_some_iff.1 hru
         rw [List.drop_eq_getElem_cons h1,h2]
       rw [hRd] at hrun heq
       obtain ⟨g1,g2,g3,g4⟩:=hrun
       obtain ⟨hr16,hre⟩:=HIN.out run (List.mem_of_getElem? hru)
       have hpos:0 < run.length:=List.length_pos_iff.2 g1
       obtain ⟨vk,hvk,hiv⟩:=areE_at HA.out hru
       have HIV:=Lib.hid hiv
       obtain ⟨bb,off,cc,rfl,hcc,hbb,hcs⟩:=hiv.lies hpos
       have hlast:=consec_last g3 g1
       have h0e:run[0]? = some (run.headD ⟨0,0⟩):=by
         cases run with
         | nil=>exact absurd rfl g1
         | cons e t=>rfl
       have hhead:=hre _ (List.mem_of_getElem? h0e)
       have hlt2:=hre _ (show run.getLastD ⟨0,0⟩∈run by
         rw [List.getLastD_eq_getLast?,List.getLast?_eq_getElem?,List.getElem?_eq_getElem (show run.length - 1 < run.length by omega)]
         exact List.getElem_mem _)
       have p0:w.cell? ⟨bb,off,none⟩=some (.int .i64 (run.headD ⟨0,0⟩).rep):=by
         have:=hcs 0 _ ((entsC_at run 0 0 _ h0e (by omega)).trans rfl)
         simpa using this
       have HCS:=Lib.hid hcs
       have HG4:=Lib.hid g4
       have HRE:=Lib.hid hre
       have HRN:=Lib.hid g1
       obtain ⟨q,hq⟩:∃ q,q=run.length:=⟨_,rfl⟩
       have HQ:=Lib.hid hq
       have HBN:Hid (pre ++ (putL ((run.headD ⟨0,0⟩).rep - least).toNat ++ putL (q - 1) ++ timesB run) ++ runsB ((run.getLastD ⟨0,0⟩).rep + 2) (R.drop (k + 1))=vwriteL l):=Lib.hid (show pre ++ (putL ((run.headD ⟨0,0⟩).rep - least).toNat ++ putL (q - 1) ++ timesB run) ++ runsB ((run.getLastD ⟨0,0⟩).rep + 2) (R.drop (k + 1))=vwriteL l by
         rw [←heq,runsB,List.append_assoc,hq];rfl)
       obtain ⟨lr,hlr⟩:∃ x,(run.getLastD ⟨0,0⟩).rep=x:=⟨_,rfl⟩
       obtain ⟨hd,hhd⟩:∃ x,(run.headD ⟨0,0⟩).rep=x:=⟨_,rfl⟩
       rw [hlr] at hlt2 HBN HG4 hlast
       rw [hhd] at hhead p0 g2 HBN hlast
       have HLR:=Lib.hid hlr
       rw [←hq] at hr16 hpos hcc hlast HIV hvk
       obtain ⟨gp,hgp⟩:=Int.eq_ofNat_of_zero_le (show 0≤hd - least by omega)
       obtain ⟨q1,hq1⟩:∃ q1,q1=q - 1:=⟨_,rfl⟩
       have hqq:(q:Int) - 1=(q1:Int):=by omega
       have hgp2:gp≤200:=by omega
       have hq12:q1≤16:=by omega
       have HBN2:Hid (pre ++ (putL gp ++ putL q1 ++ timesB run) ++ runsB (lr + 2) (R.drop (k + 1))=vwriteL l):=Lib.hid (show pre ++ (putL gp ++ putL q1 ++ timesB run) ++ runsB (lr + 2) (R.drop (k + 1))=vwriteL l by
         have:=HBN.out
         rw [hgp,Int.toNat_natCast,←hq1] at this;exact this)
       have l1:=putL_le10 (n:=gp) (by omega)
       have l2:=putL_le10 (n:=q1) (by omega)
       have HSP:Hid ((pre ++ putL gp).length≤520∧(pre ++ putL gp ++ putL q1).length≤540):=Lib.hid (show (pre ++ putL gp).length≤520∧(pre ++ putL gp ++ putL q1).length≤540 by simp only [List.length_append];omega)
       rcases HWK.out.2.1.forms with ⟨_,hnil⟩ | ⟨g,cap,hrv,hgB,hgl,_,hgc⟩
       · rw [hnil] at hvk;simp at hvk
       · simp only [Value.slice.injEq] at hrv
         obtain ⟨rfl,hmv,rfl⟩:=hrv
         clear hmv
         have hgk:=hgc k _ hvk
         have x0:=(HWK.out.2.2.2.2.cell (p:=⟨bb,off,none⟩) hbb).trans p0
         have hz:=HWK.out.2.2.2.1
         have hvl:(q:Int)≤16:=by omega
         have hq0:(0:Int) < (q:Int):=by omega
         clear hru hRd heq g1 g3 g4 hre hvk hcs h0e p0 HBN hhd hlr hq hq1 hgc hlast HEQ l1 l2
         go_wp2_with fail
         refine (wput_any w.heap.size b gp pre _ HWK.out.1 (by omega) (by omega) (by omega)).mono ?_
         rintro r w3 ⟨rfl,hbl,hb3,hn3⟩
         have HW3:=Lib.hid (HWK.out.put hbl hb3 hn3)
         clear hbl hb3 hn3
         go_wp2_with fail
         refine (wput_any w.heap.size b q1 _ _ HW3.out.1 (by omega) (by have:=HSP.out;omega) (by have:=HW3.out.2.2.2.1;omega)).mono ?_
         rintro r w4 ⟨rfl,hbl,hb4,hn4⟩
         have HW4:=Lib.hid (HW3.out.put hbl hb4 hn4)
         clear hbl hb4 hn4
         go_wp2
         go_loopw [46] (fun i wr=>∃ j:Nat,j≤q∧i=.int .i64 j∧WR w (b + 1) b (.slice (some ⟨g,0,none⟩) m rc) vs (pre ++ putL gp ++ putL q1 ++ timesB (run.take j)) wr) (fun i _=>q - (intOf i).toNat)
         case atStart=>exact ⟨0,by omega,rfl,by simpa [timesB] using HW4.out⟩
         case round =>
           obtain ⟨j,hj,rfl,hwj⟩:=hrel
           have HWJ:=Lib.hid hwj
           clear hwj
           by_cases hjl:j < q
           · obtain ⟨t, ht⟩ : ∃ t, run[j]? = some t := ⟨run[j]'(by have := HQ.out; omega), List.getElem?_eq_getElem _⟩
             have y0:=HCS.out (j * 2) _ ((entsC_at run j 0 t ht (by omega)).trans rfl)
             have y1:=HCS.out (j * 2 + 1) _ ((entsC_at run j 1 t ht (by omega)).trans rfl)
             have htm:=HRE.out t (List.mem_of_getElem? ht)
             have htl:=timesB_len (run.take j) (fun e he=>(HRE.out e (List.mem_of_mem_take he)).2.2.2)
             have htl2:(run.take j).length≤j:=List.length_take_le _ _
             have htk:run.take (j + 1)=run.take j ++ [t]:=by
               obtain ⟨h1,h2⟩:=List.getElem?_eq_some_iff.1 ht
               rw [List.take_succ_eq_append_getElem h1,h2]
             obtain ⟨rep,time⟩:=t
             simp only at y0 y1 htm
             obtain ⟨tn,rfl⟩:=Int.eq_ofNat_of_zero_le (show 0≤time by omega)
             have HTK:Hid (pre ++ putL gp ++ putL q1 ++ timesB (run.take (j + 1))=(pre ++ putL gp ++ putL q1 ++ timesB (run.take j)) ++ putL tn):=Lib.hid (show pre ++ putL gp ++ putL q1 ++ timesB (run.take (j + 1))=(pre ++ putL gp ++ putL q1 ++ timesB (run.take j)) ++ putL tn by
               rw [htk,timesB_app];simp [timesB])
             have HSJ:Hid ((pre ++ putL gp ++ putL q1 ++ timesB (run.take j)).length≤1000):=Lib.hid (show (pre ++ putL gp ++ putL q1 ++ timesB (run.take j)).length≤1000 by
               have:=HSP.out.2;rw [List.length_append];omega)
             have z0:=(HWJ.out.2.2.2.2.cell (p:=⟨bb,off + j * 2,none⟩) hbb).trans y0
             have z1:wr.cell? ⟨bb,off + j * 2 + 1,none⟩=some (.int .i64 (tn:Int)):=(HWJ.out.2.2.2.2.cell (p:=⟨bb,off + j * 2 + 1,none⟩) hbb).trans (by rw [Nat.add_assoc];exact y1)
             clear y0 y1 ht htk htl htl2
             go_wp2_with fail
             refine (wput_any w.heap.size b tn _ _ (HWJ.out.alloc _).1 (by omega) (by have:=HSJ.out;omega) (Nat.le_trans (Nat.le_trans hbz (Nat.le_succ _)) (HWJ.out.alloc _).2.2.2.1)).mono ?_
             rintro r w5 ⟨rfl,hbl,hb5,hn5⟩
             have HW5:=Lib.hid ((HWJ.out.alloc _).put hbl hb5 hn5)
             clear hbl hb5 hn5
             go_wp2
             go_roundw
             case rel=>exact ⟨j + 1,by omega,by go_num,by rw [HTK.out];exact HW5.out⟩
             case measure=>simp [intOf];omega
           · have hjq:j=q:=by omega
             have HW6:Hid (WR w (b + 1) b (.slice (some ⟨g,0,none⟩) m rc) vs (pre ++ (putL gp ++ putL q1 ++ timesB run)) wr):=Lib.hid (show WR w (b + 1) b (.slice (some ⟨g,0,none⟩) m rc) vs (pre ++ (putL gp ++ putL q1 ++ timesB run)) wr by
               have h:=HWJ.out
               rw [hjq,HQ.out,List.take_length] at h
               simpa [List.append_assoc] using h)
             have HL2:=Lib.hid (show 0≤lr + 2∧lr + 2≤300 by omega)
             clear hjq
             go_wp2_with fail
             refine (behind_any _ run _ (HIV.out.below HW6.out.2.2.2.2) HRN.out (by have:=HQ.out;omega) (fun e he=>by have:=HRE.out e he;omega)).mono ?_
             rintro r w' ⟨rfl,rfl⟩
             rw [HLR.out]
             go_wp2
             go_roundw
             case rel=>exact ⟨k + 1,lr + 2,_,by omega,by go_num,rfl,HL2.out.1,HL2.out.2,HBN2.out,HG4.out,HW6.out⟩
             case measure=>simp [intOf];omega
     · have hkm:k=m:=by omega
       have HWE:Hid (isBld wr w.heap.size b (vwriteF l)):=Lib.hid (show isBld wr w.heap.size b (vwriteF l) by
         have h:=HWK.out.1
         have h2:=HEQ.out
         rw [hkm,HM.out,List.drop_eq_nil_of_le (Nat.le_refl _)] at h2
         have e:runsB least []=[]:=rfl
         rw [e,List.append_nil] at h2
         rw [HW.out,←h2];exact h)
       have hz:=HWK.out.2.2.2.2.size
       clear hkm heq hrun
       go_wp2_with fail
       refine (bld_string w.heap.size b _ _ HWE.out hz).mono ?_
       rintro r w3 ⟨rfl,hb3⟩
       have HB3:=Lib.hid (HWK.out.2.2.2.2.trans hb3)
       clear hb3
       go_wp2
       go_ret2
       exact ⟨.nilIface,rfl,.inl (.inl ⟨HVG.out,rfl⟩),HB3.out⟩
 · have HW:Hid (vwriteF l=[]):=Lib.hid (show vwriteF l=[] by unfold vwriteF;rw [if_neg h0])
   have H0:=Lib.hid h0
   clear h0
   go_enter Tryz.func105,Tryz.ntmps105
   go_wp2_with fail
   refine (vright_any _ l _ HV.out HLL.out).mono ?_
   rintro r w0 ⟨err,rfl,hat,hb0⟩
   have HAT:=Lib.hid hat
   obtain ⟨t,u,rfl⟩:=hat.iface H0.out
   have HB0:=Lib.hid hb0
   clear hat hb0
   go_wp2
   go_ret2
   exact ⟨_,by rw [HW.out];rfl,HAT.out,HB0.out⟩
end Go.Proofs.YtjkbmfpomgcblaaGreatDoor
namespace Go.Proofs.YtjkbmfpomgcblaaGreatDoor
open Go.RowKit
theorem vof_as (v:Value) (l:List Ent) (x y:Int) (w:World) (hv:IsEnts w v l) (hl:l.length≤9223372036854775807) (h:ofF l x=y) :
   Calls Tryz.prog 196 #[v,.int .i64 x] w fun r w'=>r=.returned (.int .i64 y)∧Below w.heap.size w w':=by
 subst h;exact vof_any v l x w hv hl
theorem covA_drop {a b:List Ent} {k:Nat} {t:Ent} (h:b[k]? = some t):covA a (b.drop k)=(decide (t.time≤ofF a t.rep) && covA a (b.drop (k + 1))):=by
 obtain ⟨hk,ht⟩:=List.getElem?_eq_some_iff.1 h
 rw [List.drop_eq_getElem_cons hk,ht];rfl
set_option maxRecDepth 100000 in
set_option maxHeartbeats 4000000 in
theorem vcov_any (va vb:Value) (a b:List Ent) (w:World) (ha:IsEnts w va a) (hb:IsEnts w vb b) (hla:a.length≤9223372036854775807) (hlb:b.length≤9223372036854775807) :
   Calls Tryz.prog 144 #[va,vb] w fun r w'=>r=.returned (.bool (covB a b))∧Below w.heap.size w w':=by
 have HVA:=Lib.hid ha
 have HVB:=Lib.hid hb
 have HLA:=Lib.hid hla
 have HLB:=Lib.hid hlb
 obtain ⟨aa,ca,rfl,_⟩:=ha.form
 obtain ⟨ab,cb,rfl,fb⟩:=hb.form
 have FB:=Lib.hid fb
 obtain ⟨na,hna⟩:∃ n,n=a.length:=⟨_,rfl⟩
 obtain ⟨nb,hnb⟩:∃ n,n=b.length:=⟨_,rfl⟩
 have HNB:=Lib.hid hnb
 rw [←hna] at HVA ⊢
 rw [←hnb] at HVB ⊢
 clear ha hb hla hlb fb hna hnb
 by_cases h1:(vrightF a).1=0
 · by_cases h2:(vrightF b).1=0
   · have H1:=Lib.hid h1
     have H2:=Lib.hid h2
     have HC:Hid (covB a b=covA a b):=Lib.hid (show covB a b=covA a b by unfold covB;rw [h1,h2];simp)
     have h16:nb≤16:=by rw [HNB.out];exact ((vright_ok b).1 h2).1
     clear h1 h2
     rw [HC.out]
     go_enter Tryz.func144,Tryz.ntmps144
     go_wp2_with fail
     refine (vright_any _ a _ HVA.out HLA.out).mono ?_
     rintro r w1 ⟨err,rfl,hat,hb1⟩
     obtain rfl:=hat.nil H1.out
     have HB1:=Lib.hid hb1
     clear hat hb1
     go_wp2_with fail
     refine (vright_any _ b _ (HVB.out.below HB1.out) HLB.out).mono ?_
     rintro r w2 ⟨err,rfl,hat,hb2⟩
     obtain rfl:=hat.nil H2.out
     have HB2:Hid (Below w.heap.size w w2):=HB1.out.trans (hb2.mono HB1.out.size)
     clear hat hb2
     go_wp2
     go_loopw [17] (fun i wr=>∃ k:Nat,k≤nb∧i=.int .i64 k∧covA a b=covA a (b.drop k)∧Below w.heap.size w wr) (fun i _=>nb - (intOf i).toNat)
     case atStart=>exact ⟨0,by omega,rfl,rfl,HB2.out⟩
     case round =>
       obtain ⟨k,hk,rfl,heq,hbel⟩:=hrel
       have HEQ:=Lib.hid heq
       have HB:=Lib.hid hbel
       have hzr:=hbel.size
       clear heq hbel
       by_cases hlt:k < nb
       · obtain ⟨t, ht⟩ : ∃ t, b[k]? = some t := ⟨b[k]'(by have := HNB.out; omega), List.getElem?_eq_getElem _⟩
         obtain ⟨b1,o1,rfl,hb1,p0,p1⟩:=FB.out k t ht
         have hd:=covA_drop (a:=a) ht
         obtain ⟨rep,time⟩:=t
         simp only at p0 p1 hd
         have q0:=(HB.out.cell (p:=⟨b1,o1 + k * 2,none⟩) hb1).trans p0
         have q1:=(HB.out.cell (p:=⟨b1,o1 + k * 2 + 1,none⟩) hb1).trans p1
         obtain ⟨x,hx⟩:∃ x,ofF a rep=x:=⟨_,rfl⟩
         rw [hx] at hd
         have HX:=Lib.hid hx
         have HV1:Hid (IsEnts (wr.alloc (.cells #[.int .i64 rep,.int .i64 time] 74)).drew (.slice aa na ca) a):=Lib.hid (((HVA.out.below HB.out).alloc _).drewN 1)
         have c0:(wr.alloc (.cells #[.int .i64 rep,.int .i64 time] 74)).cell? ⟨wr.heap.size,0,none⟩=some (.int .i64 rep)∧(wr.alloc (.cells #[.int .i64 rep,.int .i64 time] 74)).cell? ⟨wr.heap.size,1,none⟩=some (.int .i64 time):=by simp
         by_cases hlx:x < time
         · have HW:Hid (covA a b=false):=Lib.hid (show covA a b=false by rw [HEQ.out,hd,decide_eq_false (by omega),Bool.false_and])
           clear p0 p1 ht hd hx
           go_wp2
           go_region_held3 (fun w'=>w'.cell? ⟨wr.heap.size,0,none⟩=some (.int .i64 rep)∧w'.cell? ⟨wr.heap.size,1,none⟩=some (.int .i64 time)) (first | exact c0 | exact c2) (first | (go_at_call 196;((with_reducible refine (vof_as _ a rep x _ HV1.out HLA.out HX.out).mono ?_);rintro r w2 ⟨rfl,hb2⟩;have c2:w2.cell? ⟨wr.heap.size,0,none⟩=some (.int .i64 rep)∧w2.cell? ⟨wr.heap.size,1,none⟩=some (.int .i64 time):=⟨(hb2.cell (by simp)).trans c0.1,(hb2.cell (by simp)).trans c0.2⟩;have HB2:Hid (Below w.heap.size w w2):=((HB.out.alloc hzr _).drew.trans (hb2.mono (by simp;omega)));clear hb2)))
           go_wp2
           go_ret
           exact ⟨by rw [HW.out];rfl,HB2.out⟩
         · have HW:Hid (covA a b=covA a (b.drop (k + 1))):=Lib.hid (show covA a b=covA a (b.drop (k + 1)) by rw [HEQ.out,hd,decide_eq_true (by omega),Bool.true_and])
           clear p0 p1 ht hd hx
           go_wp2
           go_region_held3 (fun w'=>w'.cell? ⟨wr.heap.size,0,none⟩=some (.int .i64 rep)∧w'.cell? ⟨wr.heap.size,1,none⟩=some (.int .i64 time)) (first | exact c0 | exact c2) (first | (go_at_call 196;((with_reducible refine (vof_as _ a rep x _ HV1.out HLA.out HX.out).mono ?_);rintro r w2 ⟨rfl,hb2⟩;have c2:w2.cell? ⟨wr.heap.size,0,none⟩=some (.int .i64 rep)∧w2.cell? ⟨wr.heap.size,1,none⟩=some (.int .i64 time):=⟨(hb2.cell (by simp)).trans c0.1,(hb2.cell (by simp)).trans c0.2⟩;have HB2:Hid (Below w.heap.size w w2):=((HB.out.alloc hzr _).drew.trans (hb2.mono (by simp;omega)));clear hb2)))
           go_wp2
           go_roundw
           case rel=>exact ⟨k + 1,by omega,by go_num,HW.out,HB2.out⟩
           case measure=>simp [intOf];omega
       · have HW:Hid (covA a b=true):=Lib.hid (show covA a b=true by rw [HEQ.out,List.drop_eq_nil_of_le (by have:=HNB.out;omega)];rfl)
         go_wp2
         go_ret
         exact ⟨by rw [HW.out];rfl,HB.out⟩
   · have H1:=Lib.hid h1
     have H2:=Lib.hid h2
     have HC:Hid (covB a b=false):=Lib.hid (show covB a b=false by unfold covB;rw [decide_eq_false h2];simp)
     clear h1 h2
     rw [HC.out]
     go_enter Tryz.func144,Tryz.ntmps144
     go_wp2_with fail
     refine (vright_any _ a _ HVA.out HLA.out).mono ?_
     rintro r w1 ⟨err,rfl,hat,hb1⟩
     obtain rfl:=hat.nil H1.out
     have HB1:=Lib.hid hb1
     clear hat hb1
     go_wp2_with fail
     refine (vright_any _ b _ (HVB.out.below HB1.out) HLB.out).mono ?_
     rintro r w2 ⟨err,rfl,hat,hb2⟩
     obtain ⟨t,u,rfl⟩:=hat.iface H2.out
     have HB2:Hid (Below w.heap.size w w2):=HB1.out.trans (hb2.mono HB1.out.size)
     clear hat hb2
     go_wp2
     go_ret
     exact ⟨rfl,HB2.out⟩
 · have H1:=Lib.hid h1
   have HC:Hid (covB a b=false):=Lib.hid (show covB a b=false by unfold covB;rw [decide_eq_false h1];simp)
   clear h1
   rw [HC.out]
   go_enter Tryz.func144,Tryz.ntmps144
   go_wp2_with fail
   refine (vright_any _ a _ HVA.out HLA.out).mono ?_
   rintro r w1 ⟨err,rfl,hat,hb1⟩
   obtain ⟨t,u,rfl⟩:=hat.iface H1.out
   have HB1:=Lib.hid hb1
   clear hat hb1
   go_wp2
   go_ret
   exact ⟨rfl,HB1.out⟩
end Go.Proofs.YtjkbmfpomgcblaaGreatDoor
