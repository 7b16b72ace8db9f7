import Derived.Test.YtgfinhehgfbdgaaGreatDoorRa22
import Derived.Test.YtgfinhehgfbdgaaGreatDoorRa14
namespace Go.Proofs.YtgfinhehgfbdgaaGreatDoor
open Go.RowKit
theorem baref_any (n:Int) (w:World):Calls Tryz.prog 43 #[.int .i64 n] w fun e w'=>e=.returned (.agg #[.int .i64 n,.int .i64 (-1)])∧Below w.heap.size w w':=by
 go_enter Tryz.func43,Tryz.ntmps43
 go_wp2;refine bodyPost_ret (v:=.agg #[.int .i64 n,.int .i64 (-1)]) (by simp [results,Tryz.results43,go_sem]) rfl ?_;exact ⟨rfl,(Below.refl _ _).alloc (Nat.le_refl _) _⟩
theorem faultV_is {r:Nat×Int} {e:Nat} {pl:Int} (h:r=(e,pl)):faultV r=.agg #[.int .i64 (e:Int),.int .i64 pl]:=by rw [h];rfl
set_option maxRecDepth 100000 in
set_option maxHeartbeats 4000000 in
theorem rvright_any (v:Value) (l:List Ent) (w:World) (hv:IsEnts w v l) (hl:l.length≤9223372036854775807) :
   Calls Tryz.prog 131 #[v] w fun e w'=>e=.returned (faultV (vrightF l))∧Below w.heap.size w w':=by
 obtain ⟨a1,c1,rfl,f1⟩:=hv.form;have F1:=Lib.hid f1;obtain ⟨n,hn⟩:∃ n,n=l.length:=⟨_,rfl⟩;rw [←hn] at hl ⊢;have HN:=Lib.hid hn;clear hv f1 hn;by_cases h16:16<n
 · have HW:Hid (faultV (vrightF l)=.agg #[.int .i64 4,.int .i64 (-1)]):=Lib.hid (faultV_is (show vrightF l=(4,-1) by unfold vrightF;rw [if_pos (by rw [←HN.out];exact h16)]));have h2:16<(n:Int):=by omega
   rw [HW.out];go_enter Tryz.func131,Tryz.ntmps131
   go_wp2_with fail
   refine (baref_any 4 _).mono ?_;rintro r w1 ⟨rfl,hb1⟩;have hz1:=hb1.size;rw [World.size_alloc] at hz1;have d0:w1.cell? ⟨w.heap.size,0,none⟩=some (.int .i64 0):=(hb1.cell (by simp)).trans (by simp);have d1:w1.cell? ⟨w.heap.size,1,none⟩=some (.int .i64 0):=(hb1.cell (by simp)).trans (by simp);have g0:w1.frozen? ⟨w.heap.size,0,none⟩=false:=(hb1.frozen (by simp)).trans (by simp);have g1:w1.frozen? ⟨w.heap.size,1,none⟩=false:=(hb1.frozen (by simp)).trans (by simp);have HB1:Hid (Below w.heap.size w w1):=((Below.refl _ _).alloc (Nat.le_refl _) _).trans (hb1.mono (by simp));clear hb1;go_wp2;refine bodyPost_ret (v:=.agg #[.int .i64 4,.int .i64 (-1)]) (by simp [results,Tryz.results131,go_sem,d0,d1]) rfl ?_;exact ⟨rfl,(HB1.out.setCell (Nat.le_refl _) _).setCell (Nat.le_refl _) _⟩
 · have hvr:vrightF l=vr l 0 (-1):=by unfold vrightF;rw [if_neg (by rw [←HN.out];exact h16)]
   rw [hvr];clear hvr;go_enter Tryz.func131,Tryz.ntmps131
   go_wp2
   go_loopw [3,12] (fun s i wr=>∃ (k:Nat) (last:Int),k≤n∧i=.int .i64 k∧s=.int .i64 last∧vr l 0 (-1)=vr (l.drop k) k last∧Below (w.heap.size+1) (w.alloc (.cells #[.int .i64 0,.int .i64 0] 29)) wr) (fun _ i _=>n-(intOf i).toNat)
   case atStart=>exact ⟨0,-1,by omega,rfl,rfl,rfl,Below.refl _ _⟩
   case round =>
     obtain ⟨k,last,hk,rfl,rfl,heq,hbel⟩:=hrel;have HEQ:=Lib.hid heq;have HB:=Lib.hid hbel;have x0:wr.cell? ⟨w.heap.size,0,none⟩=some (.int .i64 0):=(hbel.cell (by exact Nat.lt_succ_self _)).trans (by simp);have x1:wr.cell? ⟨w.heap.size,1,none⟩=some (.int .i64 0):=(hbel.cell (by exact Nat.lt_succ_self _)).trans (by simp);have y0:wr.frozen? ⟨w.heap.size,0,none⟩=false:=(hbel.frozen (by exact Nat.lt_succ_self _)).trans (by simp);have y1:wr.frozen? ⟨w.heap.size,1,none⟩=false:=(hbel.frozen (by exact Nat.lt_succ_self _)).trans (by simp);have hzr:=hbel.size;rw [World.size_alloc] at hzr;have HB0:Hid (Below w.heap.size w wr):=((Below.refl _ _).alloc (Nat.le_refl _) _).trans (HB.out.mono (Nat.le_succ _));clear heq hbel;by_cases hlt:k<n
     · have hkl:k<l.length:=by have:=HN.out;omega
       obtain ⟨t,ht⟩:∃ t,l[k]? = some t:=⟨l[k],List.getElem?_eq_getElem hkl⟩;obtain ⟨b1,o1,rfl,hb1,p0,p1⟩:=F1.out k t ht;have hd:l.drop k=t::l.drop (k+1):=by
         rw [List.drop_eq_getElem_cons hkl];congr 1;rw [List.getElem?_eq_getElem hkl] at ht;exact Option.some.inj ht
       obtain ⟨rep,time⟩:=t;simp only at p0 p1
       have q0:=(HB0.out.cell (p:=⟨b1,o1+k * 2,none⟩) hb1).trans p0;have q1:=(HB0.out.cell (p:=⟨b1,o1+k * 2+1,none⟩) hb1).trans p1;have HD:=Lib.hid hd;have hlt0:w.heap.size<wr.heap.size:=by omega
       clear p0 p1 ht hd hkl;by_cases hr:rep<0∨200<rep∨time<1∨1099511627776<time
       · have HW : Hid (faultV (vr l 0 (-1)) = .agg #[.int .i64 2, .int .i64 k]) := Lib.hid (faultV_is (show vr l 0 (-1) = (2, (k : Int)) by
           have hw:wrE ⟨rep,time⟩ last=2:=wrE_range hr;rw [HEQ.out,HD.out,vr_bad (by rw [hw];decide),hw]))
         have HR:=Lib.hid hr;clear hr HEQ;by_cases h1:rep<0∨200<rep
         · rcases h1 with h1 | h1
           · go_wp2_with fail
             refine (within_low rep 0 200 _ h1).mono ?_;rintro r w' ⟨rfl,rfl⟩;go_wp2;refine bodyPost_ret (v:=.agg #[.int .i64 2,.int .i64 k]) (by simp [results,Tryz.results131,go_sem,x0,x1,hlt0]) rfl ?_;rw [HW.out];exact ⟨rfl,((HB0.out.setCell (Nat.le_refl _) _).setCell (Nat.le_refl _) _).alloc (by simp;omega) _⟩
           · go_wp2_with fail
             refine (within_high rep 0 200 _ (by omega) h1).mono ?_;rintro r w' ⟨rfl,rfl⟩;go_wp2;refine bodyPost_ret (v:=.agg #[.int .i64 2,.int .i64 k]) (by simp [results,Tryz.results131,go_sem,x0,x1,hlt0]) rfl ?_;rw [HW.out];exact ⟨rfl,((HB0.out.setCell (Nat.le_refl _) _).setCell (Nat.le_refl _) _).alloc (by simp;omega) _⟩
         · by_cases h2:time<1
           · go_wp2_with fail
             refine (within_yes rep 0 200 _ (by omega) (by omega)).mono ?_;rintro r w' ⟨rfl,rfl⟩;go_wp2_with fail
             refine (within_low time 1 1099511627776 _ h2).mono ?_;rintro r w' ⟨rfl,rfl⟩;go_wp2;refine bodyPost_ret (v:=.agg #[.int .i64 2,.int .i64 k]) (by simp [results,Tryz.results131,go_sem,x0,x1,hlt0]) rfl ?_;rw [HW.out];exact ⟨rfl,((HB0.out.setCell (Nat.le_refl _) _).setCell (Nat.le_refl _) _).alloc (by simp;omega) _⟩
           · have h3:1099511627776<time:=by have:=HR.out;omega
             go_wp2_with fail
             refine (within_yes rep 0 200 _ (by omega) (by omega)).mono ?_;rintro r w' ⟨rfl,rfl⟩;go_wp2_with fail
             refine (within_high time 1 1099511627776 _ (by omega) h3).mono ?_;rintro r w' ⟨rfl,rfl⟩;go_wp2;refine bodyPost_ret (v:=.agg #[.int .i64 2,.int .i64 k]) (by simp [results,Tryz.results131,go_sem,x0,x1,hlt0]) rfl ?_;rw [HW.out];exact ⟨rfl,((HB0.out.setCell (Nat.le_refl _) _).setCell (Nat.le_refl _) _).alloc (by simp;omega) _⟩
       · have g1:0≤rep:=by omega
         have g2:rep≤200:=by omega
         have g3:1≤time:=by omega
         have g4:time≤1099511627776:=by omega
         by_cases h5:rep≤last
         · have HW : Hid (faultV (vr l 0 (-1)) = .agg #[.int .i64 10, .int .i64 k]) := Lib.hid (faultV_is (show vr l 0 (-1) = (10, (k : Int)) by
             have hw:wrE ⟨rep,time⟩ last=10:=wrE_order hr h5;rw [HEQ.out,HD.out,vr_bad (by rw [hw];decide),hw]))
           clear hr HEQ;go_wp2_with fail
           refine (within_yes rep 0 200 _ g1 g2).mono ?_;rintro r w' ⟨rfl,rfl⟩;go_wp2_with fail
           refine (within_yes time 1 1099511627776 _ g3 g4).mono ?_;rintro r w' ⟨rfl,rfl⟩;go_wp2;refine bodyPost_ret (v:=.agg #[.int .i64 10,.int .i64 k]) (by simp [results,Tryz.results131,go_sem,x0,x1,hlt0]) rfl ?_;rw [HW.out];exact ⟨rfl,((HB0.out.setCell (Nat.le_refl _) _).setCell (Nat.le_refl _) _).alloc (by simp;omega) _⟩
         · have HW : Hid (vr l 0 (-1) = vr (l.drop (k + 1)) (k + 1) rep) := Lib.hid (show vr l 0 (-1) = vr (l.drop (k + 1)) (k + 1) rep by
             rw [HEQ.out,HD.out,vr_good (wrE_fine hr h5)])
           clear hr HEQ;go_wp2_with fail
           refine (within_yes rep 0 200 _ g1 g2).mono ?_;rintro r w' ⟨rfl,rfl⟩;go_wp2_with fail
           refine (within_yes time 1 1099511627776 _ g3 g4).mono ?_;rintro r w' ⟨rfl,rfl⟩;go_wp2;go_roundw
           case rel=>exact ⟨k+1,rep,by omega,by go_num,rfl,HW.out,HB.out.alloc (by omega) _⟩
           case measure=>simp [intOf];omega
     · have HW:Hid (faultV (vr l 0 (-1))=.agg #[.int .i64 0,.int .i64 (-1)]):=Lib.hid (faultV_is (show vr l 0 (-1)=(0,-1) by rw [HEQ.out,List.drop_eq_nil_of_le (by have:=HN.out;omega)];rfl));have hlt0:w.heap.size<wr.heap.size:=by omega
       clear HEQ;go_wp2_with fail
       refine (good_any _).mono ?_;rintro r w1 ⟨rfl,hb1⟩;have d0:w1.cell? ⟨w.heap.size,0,none⟩=some (.int .i64 0):=(hb1.cell hlt0).trans x0;have d1:w1.cell? ⟨w.heap.size,1,none⟩=some (.int .i64 0):=(hb1.cell hlt0).trans x1;have g0:w1.frozen? ⟨w.heap.size,0,none⟩=false:=(hb1.frozen hlt0).trans y0;have g1:w1.frozen? ⟨w.heap.size,1,none⟩=false:=(hb1.frozen hlt0).trans y1;have HBW:Hid (Below w.heap.size w w1):=HB0.out.trans (hb1.mono (Nat.le_of_lt hlt0));clear hb1 x0 x1 y0 y1;go_wp2;refine bodyPost_ret (v:=.agg #[.int .i64 0,.int .i64 (-1)]) (by simp [results,Tryz.results131,go_sem,d0,d1]) rfl ?_;rw [HW.out];exact ⟨rfl,(HBW.out.setCell (Nat.le_refl _) _).setCell (Nat.le_refl _) _⟩
end Go.Proofs.YtgfinhehgfbdgaaGreatDoor
namespace Go.Proofs.YtgfinhehgfbdgaaGreatDoor
open Go.RowKit
theorem errV_ok:errV 0=.nilIface:=rfl
theorem errV_no {e:Nat} (h:e≠0):errV e=.iface 27 (.int .i64 e):=by unfold errV;rw [if_neg h]
def batAt (w:World) (B:Nat) (vf vh vw:Value):Prop :=
 w.cell? ⟨B,0,none⟩=some vf∧w.cell? ⟨B,1,none⟩=some vh∧w.cell? ⟨B,2,none⟩=some vw
theorem batAt.below {w w':World} {B:Nat} {vf vh vw:Value} {m:Nat} (h:batAt w B vf vh vw) (hb:Below m w w') (hm:B<m):batAt w' B vf vh vw :=
 ⟨(hb.cell hm).trans h.1,(hb.cell hm).trans h.2.1,(hb.cell hm).trans h.2.2⟩
theorem batAt_new (w:World) (vf vh vw:Value) (t:TypeId):batAt (w.alloc (.cells #[vf,vh,vw] t)) w.heap.size vf vh vw:=by
 unfold batAt;simp
theorem wright_as (x:Wr) (e:Nat) (w:World) (hk:x.key.size≤140737488351232) (hv:x.value.size≤140737488351232) (he:wE x=e) :
   Calls Tryz.prog 103 #[.agg #[.int .i64 x.time,.int .i64 x.rep,.int .i64 x.kind,.string x.key,.string x.value,.int .i64 x.n]] w fun r w'=>r=.returned (errV e)∧Below w.heap.size w w':=by
 subst he;exact wright_any x.time x.rep x.kind x.key x.value x.n w hk hv
set_option maxRecDepth 100000 in
set_option maxHeartbeats 4000000 in
theorem bwrong_any (vf vh vw:Value) (f h:List Ent) (l:List Wr) (k:Nat) (x:Wr) (p:Option Wr) (e:Nat) (w:World) (hf:IsEnts w vf f) (hh:IsEnts w vh h) (hv:IsWrs w vw l) (hlf:f.length≤9223372036854775807) (hlh:h.length≤9223372036854775807) (hl:l.length≤60)
   (hx:l[k]? = some x) (hp:(k=0∧p=none)∨∃ j q,k=j+1∧l[j]? = some q∧p=some q) (hok:∀ t∈l,WrOk t) (hg:errT w) (he:bwE f h p x=e) :
   Calls Tryz.prog 59 #[.agg #[vf,vh,vw],.int .i64 (k:Int)] w fun r w'=>r=.returned (.int .i64 (e:Nat))∧Below w.heap.size w w':=by
 have HF:=Lib.hid hf;have HH:=Lib.hid hh;have HG:=Lib.hid hg;have HLF:=Lib.hid hlf;have HLH:=Lib.hid hlh;obtain ⟨aw,cw,rfl,fw⟩:=hv.form;have FW:=Lib.hid fw;obtain ⟨n,hn⟩:∃ n,n=l.length:=⟨_,rfl⟩;rw [←hn] at hl ⊢;have hkn:k<n:=by rw [hn];exact (List.getElem?_eq_some_iff.1 hx).1
 obtain ⟨b1,o1,rfl,hb1,p0,p1,p2,p3,p4,p5⟩:=fw k x hx;have HOK:=Lib.hid (hok x (List.mem_of_getElem? hx));obtain ⟨ew,hew⟩:∃ ew,wE x=ew:=⟨_,rfl⟩;have HEW:=Lib.hid hew;have HE:=Lib.hid he;have HP:=Lib.hid hp;clear hf hh hg hlf hlh hv fw hn hx hp hok he hew;go_enter Tryz.func59,Tryz.ntmps59
 go_wp2_with fail
 refine (wright_as x ew _ HOK.out.2.2.1 HOK.out.2.2.2 HEW.out).mono ?_;rintro r w1 ⟨rfl,hb2⟩;have hz1:w.heap.size+1<w1.heap.size:=by have:=hb2.size;simp at this;omega
 have HZ1:=Lib.hid hz1;have HBA1:Hid (batAt w1 w.heap.size vf vh (.slice (some ⟨b1,o1,none⟩) n cw)):=Lib.hid (((batAt_new w vf vh (.slice (some ⟨b1,o1,none⟩) n cw) 25).below ((Below.refl _ _).alloc (Nat.le_refl _) _) (by simp)).below hb2 (by simp;omega));have HWA1:Hid (wrAt w1 (w.heap.size+1) x.time x.rep x.kind x.key x.value x.n):=Lib.hid ((by simpa using wrAt_new (w.alloc (.cells #[vf,vh,.slice (some ⟨b1,o1,none⟩) n cw] 25)) x.time x.rep x.kind x.key x.value x.n 61:wrAt _ (w.heap.size+1) x.time x.rep x.kind x.key x.value x.n).below hb2 (by simp));have HB1:Hid (Below w.heap.size w w1):=Lib.hid ((((Below.refl _ _).alloc (Nat.le_refl _) _).alloc (by simp) _).trans (hb2.mono (by simp;omega)));clear hb2 p0 p1 p2 p3 p4 p5 hz1;by_cases h0:ew=0
 · subst h0;rw [errV_ok];have hla:lateO p x∨¬ lateO p x:=Classical.em _;rcases HP.out with ⟨hk0,hp0⟩ | ⟨j,q,hkj,hq,hpq⟩
   · subst hk0 hp0;obtain ⟨b,hb⟩:∃ b,wiF (x.time,x.rep) f h=b:=⟨_,rfl⟩;have HWI:=Lib.hid hb;have HR:Hid (e=if b=true then 0 else 6):=Lib.hid (by
       rw [←HE.out];cases b with
       | true=>rw [bwE_fine (p:=none) HEW.out trivial hb];rfl
       | false=>rw [bwE_state (p:=none) HEW.out trivial hb];rfl)
     clear hb hla;obtain ⟨c0,c1,c2,c3,c4,c5⟩:=HWA1.out;obtain ⟨d0,d1,d2⟩:=HBA1.out;go_wp2
     go_quiet (fail)
     go_wp2_with fail
     refine (within_as x.time x.rep vf vh f h b _ (HF.out.below (below_drewN HB1.out _)) (HH.out.below (below_drewN HB1.out _)) HLF.out HLH.out HWI.out).mono ?_;rintro r w2 ⟨rfl,hb2⟩;have HB2:Hid (Below w.heap.size w w2):=(below_drewN HB1.out _).trans (hb2.mono HB1.out.size);clear hb2 c0 c1 c2 c3 c4 c5 d0 d1 d2;cases b with
     | true =>
       go_wp2;go_ret;exact ⟨by rw [HR.out];rfl,HB2.out⟩
     | false =>
       go_wp2;go_ret;exact ⟨by rw [HR.out];rfl,HB2.out⟩
   · obtain ⟨b2,o2,hbo,_,q0,q1,_⟩:=FW.out j q hq;simp only [Option.some.injEq,Addr.mk.injEq,and_true] at hbo
     obtain ⟨rfl,rfl⟩:=hbo;have r0:=(HB1.out.cell (p:=⟨b1,o1+j * 6,none⟩) hb1).trans q0;have r1:=(HB1.out.cell (p:=⟨b1,o1+j * 6+1,none⟩) hb1).trans q1;have HK:=Lib.hid hkj;have hj1:(k:Int)-1=(j:Int):=by omega
     have hj2:IntKind.i64.wrap ((k:Int)-1)=(j:Int):=by rw [hj1];exact IntWalk.i64_in _ (by omega)
     have hj3:IntKind.i64.wrap (j:Int)=(j:Int):=IntWalk.i64_in _ (by omega);have hk0:(0:Int)<(k:Int):=by omega
     have z1:0<k:=by omega
     have z2:decide (0<k)=true:=by simp;omega
     have z3:decide ((0:Int)<(k:Int))=true:=by simp;omega
     have hjn:(j:Int)<(n:Int):=by omega
     have hjn':j<n:=by omega
     have hj0:(0:Int)≤(j:Int):=by omega
     obtain ⟨c,hc⟩:∃ c,cI (x.time,x.rep) (q.time,q.rep)=c:=⟨_,rfl⟩;have HC:=Lib.hid hc;have hc3:c=-1∨c=0∨c=1:=by rw [←hc];exact cI_three _ _ _ _
     obtain ⟨c0,c1,c2,c3,c4,c5⟩:=HWA1.out;obtain ⟨d0,d1,d2⟩:=HBA1.out;subst hpq;clear q0 q1 hq hkj hc hla;have hb1':b1<w1.heap.size:=Nat.lt_of_lt_of_le hb1 HB1.out.size;have k1:w1.cell? ⟨w.heap.size+1,0,none⟩=some (.int .i64 x.time)∧w1.cell? ⟨w.heap.size+1,1,none⟩=some (.int .i64 x.rep)∧w1.cell? ⟨w.heap.size,2,none⟩=some (.slice (some ⟨b1,o1,none⟩) n cw)∧w1.cell? ⟨b1,o1+j * 6,none⟩=some (.int .i64 q.time)∧w1.cell? ⟨b1,o1+j * 6+1,none⟩=some (.int .i64 q.rep):=⟨c0,c1,d2,r0,r1⟩;by_cases hcl:c=1
     · subst hcl;obtain ⟨b,hb⟩:∃ b,wiF (x.time,x.rep) f h=b:=⟨_,rfl⟩;have HWI:=Lib.hid hb;have HR:Hid (e=if b=true then 0 else 6):=Lib.hid (by
         rw [←HE.out];cases b with
         | true=>rw [bwE_fine (p:=some q) HEW.out HC.out hb];rfl
         | false=>rw [bwE_state (p:=some q) HEW.out HC.out hb];rfl)
       clear hb hc3;go_wp2;go_region_held3 (fun w'=>w'.cell? ⟨w.heap.size+1,0,none⟩=some (.int .i64 x.time)∧w'.cell? ⟨w.heap.size+1,1,none⟩=some (.int .i64 x.rep)∧w'.cell? ⟨w.heap.size,2,none⟩=some (.slice (some ⟨b1,o1,none⟩) n cw)∧w'.cell? ⟨b1,o1+j * 6,none⟩=some (.int .i64 q.time)∧w'.cell? ⟨b1,o1+j * 6+1,none⟩=some (.int .i64 q.rep)) (first | exact k1 | exact k2 | fail) (first | (go_at_call 104;((with_reducible refine (idcmp_as x.time x.rep q.time q.rep 1 _ HC.out).mono ?_);rintro r w2 ⟨rfl,hb2⟩;have HB2:Hid (Below w1.heap.size w1 w2):=Lib.hid (undrew3 hb2);have k2:w2.cell? ⟨w.heap.size+1,0,none⟩=some (.int .i64 x.time)∧w2.cell? ⟨w.heap.size+1,1,none⟩=some (.int .i64 x.rep)∧w2.cell? ⟨w.heap.size,2,none⟩=some (.slice (some ⟨b1,o1,none⟩) n cw)∧w2.cell? ⟨b1,o1+j * 6,none⟩=some (.int .i64 q.time)∧w2.cell? ⟨b1,o1+j * 6+1,none⟩=some (.int .i64 q.rep):=⟨(HB2.out.cell HZ1.out).trans c0,(HB2.out.cell HZ1.out).trans c1,(HB2.out.cell (Nat.lt_of_succ_lt HZ1.out)).trans d2,(HB2.out.cell hb1').trans r0,(HB2.out.cell hb1').trans r1⟩;clear hb2)) | fail)
       obtain ⟨e0,e1,e2,e3,e4⟩:=k2;have g0:=(HB2.out.cell (p:=⟨w.heap.size,0,none⟩) (Nat.lt_of_succ_lt HZ1.out)).trans d0;have g1:=(HB2.out.cell (p:=⟨w.heap.size,1,none⟩) (Nat.lt_of_succ_lt HZ1.out)).trans d1;go_wp2_with fail
       have HB3:Hid (Below w.heap.size w w2):=HB1.out.trans (HB2.out.mono HB1.out.size);refine (within_as x.time x.rep vf vh f h b _ (HF.out.below HB3.out) (HH.out.below HB3.out) HLF.out HLH.out HWI.out).mono ?_;rintro r w3 ⟨rfl,hb3⟩;have HB4:Hid (Below w.heap.size w w3):=HB3.out.trans (hb3.mono HB3.out.size);clear hb3 k1 e0 e1 e2 e3 e4 g0 g1 c0 c1 c2 c3 c4 c5 d0 d1 d2;cases b with
       | true =>
         go_wp2;go_ret;exact ⟨by rw [HR.out];rfl,HB4.out⟩
       | false =>
         go_wp2;go_ret;exact ⟨by rw [HR.out];rfl,HB4.out⟩
     · have HR:Hid (e=10):=Lib.hid (by rw [←HE.out,bwE_order (p:=some q) HEW.out (fun hl=>hcl (HC.out.symm.trans hl))]);have y1:c≤0:=by omega
       have y2:decide (c≤0)=true:=by simp;omega
       clear hc3 hcl;go_wp2;go_region_held3 (fun w'=>w'.cell? ⟨w.heap.size+1,0,none⟩=some (.int .i64 x.time)∧w'.cell? ⟨w.heap.size+1,1,none⟩=some (.int .i64 x.rep)∧w'.cell? ⟨w.heap.size,2,none⟩=some (.slice (some ⟨b1,o1,none⟩) n cw)∧w'.cell? ⟨b1,o1+j * 6,none⟩=some (.int .i64 q.time)∧w'.cell? ⟨b1,o1+j * 6+1,none⟩=some (.int .i64 q.rep)) (first | exact k1 | exact k2 | fail) (first | (go_at_call 104;((with_reducible refine (idcmp_as x.time x.rep q.time q.rep c _ HC.out).mono ?_);rintro r w2 ⟨rfl,hb2⟩;have HB2:Hid (Below w1.heap.size w1 w2):=Lib.hid (undrew3 hb2);have k2:w2.cell? ⟨w.heap.size+1,0,none⟩=some (.int .i64 x.time)∧w2.cell? ⟨w.heap.size+1,1,none⟩=some (.int .i64 x.rep)∧w2.cell? ⟨w.heap.size,2,none⟩=some (.slice (some ⟨b1,o1,none⟩) n cw)∧w2.cell? ⟨b1,o1+j * 6,none⟩=some (.int .i64 q.time)∧w2.cell? ⟨b1,o1+j * 6+1,none⟩=some (.int .i64 q.rep):=⟨(HB2.out.cell HZ1.out).trans c0,(HB2.out.cell HZ1.out).trans c1,(HB2.out.cell (Nat.lt_of_succ_lt HZ1.out)).trans d2,(HB2.out.cell hb1').trans r0,(HB2.out.cell hb1').trans r1⟩;clear hb2)) | fail)
       go_wp2;go_ret;exact ⟨by rw [HR.out];rfl,HB1.out.trans (HB2.out.mono HB1.out.size)⟩
 · have HR:Hid (e=ew):=Lib.hid (by rw [←HE.out,bwE_w HEW.out h0]);rw [errV_no h0];go_wp2_with fail
   refine (tell_err _ (ew:Int) _ (HG.out.below HB1.out) (.inl rfl)).mono ?_;rintro r w2 ⟨rfl,hb2⟩;have HB2:Hid (Below w.heap.size w w2):=HB1.out.trans (hb2.mono HB1.out.size);clear hb2;go_wp2;go_ret;exact ⟨by rw [HR.out];rfl,HB2.out⟩
end Go.Proofs.YtgfinhehgfbdgaaGreatDoor
namespace Go.Proofs.YtgfinhehgfbdgaaGreatDoor
open Go.RowKit Go.Maps
theorem keyedK:Keyed Tryz.prog 3:=int_keyed Tryz.underlying3
theorem zeroS (w:World):(zeroValue 9).run Tryz.prog w=.ok (.string ⟨#[]⟩) w:=by kernel_rfl
def cntT (D:DataW Unit):Nat:=(if has D (.int .i64 1) then 1 else 0)+(if has D (.int .i64 2) then 1 else 0)+(if has D (.int .i64 3) then 1 else 0)+(if has D (.int .i64 4) then 1 else 0)
def JT (b:Nat) (w:World):Prop:=∃ (D:DataW Unit) (n:Nat),w.ownsMap Tryz.prog 3 (plainElem Tryz.prog 9) b n D∧n≤4∧Tidy D∧n=cntT D
def RT (b:Nat) (w:World) (k:Int) (s:ByteArray):Prop:=∃ (D:DataW Unit) (n:Nat),w.ownsMap Tryz.prog 3 (plainElem Tryz.prog 9) b n D∧D.atKey (.int .i64 k) (.lit (.string []))=.lit (.string s.data.toList)
theorem own_size {w:World} {b n:Nat} {D:DataW Unit} (h:w.ownsMap Tryz.prog 3 (plainElem Tryz.prog 9) b n D):w.ownsMap Tryz.prog 3 (plainElem Tryz.prog 9) b (Maps.size D) D:=by
 obtain ⟨es,clock,h1,h2,h3,rfl⟩:=h;refine ⟨es,clock,h1,h2,?_,rfl⟩;rw [size_eq,length_read];exact Nat.le_refl _
theorem own_same {w:World} {b n m:Nat} {D D':DataW Unit} (h:w.ownsMap Tryz.prog 3 (plainElem Tryz.prog 9) b n D) (h':w.ownsMap Tryz.prog 3 (plainElem Tryz.prog 9) b m D'):D=D':=by
 obtain ⟨es,clock,h1,_,_,rfl⟩:=h;obtain ⟨es',clock',h1',_,_,rfl⟩:=h';rw [h1] at h1';simp only [Option.some.injEq,Obj.map.injEq] at h1'
 rw [h1'.1]
theorem JT.made (w:World):JT w.heap.size (w.alloc (.map #[] 0)):=⟨_,0,World.ownsMap_made _ _ _ _,by decide,tidy_empty,rfl⟩
theorem JT.below {b:Nat} {w w':World} (h:JT b w) (hb:Below w.heap.size w w'):JT b w':=by
 obtain ⟨D,n,h1,h2⟩:=h;exact ⟨D,n,h1.kept (row:=none) ⟨hb.os,hb.tape,hb.output,hb.size,fun k hk _=>hb.block k hk⟩ (by simp),h2⟩
theorem RT.below {b:Nat} {w w':World} {k:Int} {s:ByteArray} (h:RT b w k s) (hb:Below w.heap.size w w'):RT b w' k s:=by
 obtain ⟨D,n,h1,h2⟩:=h;exact ⟨D,n,h1.kept (row:=none) ⟨hb.os,hb.tape,hb.output,hb.size,fun k hk _=>hb.block k hk⟩ (by simp),h2⟩
theorem cnt_le (D:DataW Unit):cntT D≤4:=by unfold cntT;split <;> split <;> split <;> split <;> decide
theorem cnt_put {D:DataW Unit} (h:Tidy D) {k:Int} (hk:k=1∨k=2∨k=3∨k=4) (d:DataW Unit):cntT (D.put (.int .i64 k) d)=if has D (.int .i64 k) then cntT D else cntT D+1:=by
 have hs:∀ k:Int,has (D.put (.int .i64 k) d) (.int .i64 k)=true:=fun k=>has_put_same h.isMap (keyN k) d
 have ho:∀ j k:Int,j≠k→has (D.put (.int .i64 k) d) (.int .i64 j)=has D (.int .i64 j):=fun j k hne=>has_put_other (by simp;exact hne) d
 unfold cntT;rcases hk with rfl | rfl | rfl | rfl
 · rw [hs,ho 2 1 (by decide),ho 3 1 (by decide),ho 4 1 (by decide)];cases has D (.int .i64 1) <;> simp <;> omega
 · rw [hs,ho 1 2 (by decide),ho 3 2 (by decide),ho 4 2 (by decide)];cases has D (.int .i64 2) <;> simp <;> omega
 · rw [hs,ho 1 3 (by decide),ho 2 3 (by decide),ho 4 3 (by decide)];cases has D (.int .i64 3) <;> simp <;> omega
 · rw [hs,ho 1 4 (by decide),ho 2 4 (by decide),ho 3 4 (by decide)];cases has D (.int .i64 4) <;> simp <;> omega
theorem put_all {b:Nat} {w:World} (h:JT b w) {k:Int} (hk:k=1∨k=2∨k=3∨k=4) {s:ByteArray} (hs:s.size≤maxLen) :
   ∃ w',(Instr.mapUpdate 186 (.map (some b)) (.int .i64 k) (.string s)).run Tryz.prog w=.ok () w'∧JT b w'∧RT b w' k s∧(∀ j t,j≠k→RT b w j t→RT b w' j t)∧w.grownBy w' (some b):=by
 obtain ⟨D,n,h1,h2,h3,h4⟩:=h;have hkb : -9223372036854775808≤k∧k≤9223372036854775807:=by omega
 obtain ⟨w',hrun,r1,r2⟩:=World.ownsMap.update h1 keyedK Tryz.underlying186 (by unfold maxLen;omega) (key:=.int .i64 k) (keyOf_int_mk Tryz.underlying3 (WalkArith.wf_i64 hkb)) (plainElem_string Tryz.underlying9 hs);have ht:=h3.put (keyN k) (.lit (.string s.data.toList));have hc:=cnt_put h3 hk (.lit (.string s.data.toList));refine ⟨w',hrun,⟨_,cntT (D.put (.int .i64 k) (.lit (.string s.data.toList))),?_,cnt_le _,ht,rfl⟩,⟨_,_,r1,atKey_put_same h3.isMap (keyN k) _ _⟩,?_,r2⟩
 · by_cases hh:has D (.int .i64 k)=true
   · have hsz:=size_put h3 (k:=.int .i64 k) (.lit (.string s.data.toList));have hDn:=World.ownsMap.size_le h1;have h5:=own_size r1;rw [hsz,if_pos hh] at h5;rw [hc,if_pos hh];exact h5.mono (by omega)
   · rw [hc,if_neg hh,←h4];exact r1
 · rintro j t hne ⟨D',n',q1,q2⟩;obtain rfl:=own_same h1 q1;exact ⟨_,_,r1,by rw [atKey_put_other (by simp;exact hne)];exact q2⟩
theorem look_all {b:Nat} {w:World} {k:Int} {s:ByteArray} (h:RT b w k s) (hk : -9223372036854775808≤k∧k≤9223372036854775807) :
   (Instr.lookup 186 (.map (some b)) (.int .i64 k) false).run Tryz.prog w=.ok (.string s) w:=by
 obtain ⟨D,n,hown,hat⟩:=h;obtain ⟨v,ps,hrun,hv⟩:=World.ownsMap.lookup hown keyedK Tryz.underlying186 (zeroS w) (plainElem_string Tryz.underlying9 (s:=⟨#[]⟩) (by decide)) (key:=.int .i64 k) (keyOf_int_mk Tryz.underlying3 (WalkArith.wf_i64 hk));have e0:(⟨#[]⟩:ByteArray).data.toList=[]:=rfl;rw [e0,hat] at hv;obtain ⟨s',rfl,hs'⟩:=plainElem_str_inv Tryz.underlying9 hv;obtain rfl:s=s':=by
   simp only [Prod.mk.injEq,DataW.lit.injEq,Lit.string.injEq] at hs'
   exact bs_ext hs'.1
 exact hrun
theorem rvary_int (n:Int) (w:World) (h0:0≤n) (h1:n≤18446744073709551615) :
   Calls Tryz.prog 39 #[.int .u64 n] w fun e w'=>e=.returned (.string ⟨(putL n.toNat).toArray⟩)∧Below w.heap.size w w':=by
 obtain ⟨m,rfl⟩:=Int.eq_ofNat_of_zero_le h0;rw [Int.toNat_natCast];exact rvary_any m w (by omega)
theorem tail_at {T R K:Int} {key val:ByteArray} {N:Int} (h:wriE T R K key val N=0) :
   (K=1∧tailB K val N=spanB val)∨(K=2∧tailB K val N=⟨#[]⟩)∨(K=3∧tailB K val N=⟨(putL (zigN N).toNat).toArray⟩)∨(K=4∧tailB K val N=⟨(putL (max 0 N).toNat).toArray⟩++spanB val):=by
 obtain ⟨g1,_,_,_,_,g6⟩:=wriE_good h;unfold tailB;have hc:K=1∨K=2∨K=3∨K=4:=by omega
 rcases hc with rfl | rfl | rfl | rfl
 · exact .inl ⟨rfl,bs_ext (by rw [app_data];rfl)⟩
 · exact .inr (.inl ⟨rfl,bs_ext (by rw [app_data];rfl)⟩)
 · refine .inr (.inr (.inl ⟨rfl,bs_ext ?_⟩));rw [app_data];unfold numB valB;rw [if_pos rfl,if_neg (by decide)];exact List.append_nil _
 · refine .inr (.inr (.inr ⟨rfl,?_⟩));have h0:0≤N:=by
     unfold fitsN at g6;rw [if_neg (by decide),if_pos rfl] at g6;simp at g6;exact g6.1
   unfold numB valB;rw [if_neg (by decide),if_pos rfl,if_pos (by decide),Int.max_eq_right h0]
theorem tail_one {b:Nat} {W:World} {K:Int} {t S P3 Q:ByteArray} (h1:RT b W 1 S) (h2:RT b W 2 ⟨#[]⟩) (h3:RT b W 3 P3) (h4:RT b W 4 Q)
   (hc:(K=1∧t=S)∨(K=2∧t=⟨#[]⟩)∨(K=3∧t=P3)∨(K=4∧t=Q)):RT b W K t:=by
 rcases hc with ⟨rfl,rfl⟩ | ⟨rfl,rfl⟩ | ⟨rfl,rfl⟩ | ⟨rfl,rfl⟩
 · exact h1
 · exact h2
 · exact h3
 · exact h4
def textR (r:ByteArray×Nat):Value:=.tuple #[.string r.1,.int .i64 (r.2:Nat)]
end Go.Proofs.YtgfinhehgfbdgaaGreatDoor
namespace Go.Proofs.YtgfinhehgfbdgaaGreatDoor
open Go.RowKit Go.Maps
def FT (p m:Nat) (S P3 P4 t:ByteArray) (N X K:Int) (L:Array Bool) (x:Nat→Value) (b:Nat) (W:World):Nat→Prop
 | 0=>x 18=.map (some b)∧JT b W∧m≤b
 | 1=>x 19=.string S
 | 2=>L.getD 0 false=true∧RT b W 1 S
 | 3=>L.getD 0 false=true∧RT b W 2 ⟨#[]⟩
 | 4=>x 20=.pointer (some ⟨p,5,none⟩)
 | 5=>x 21=.int .i64 N
 | 6=>x 22=.int .u64 (zigN N)
 | 7=>x 23=.string P3
 | 8=>L.getD 0 false=true∧RT b W 3 P3
 | 9=>x 24=.pointer (some ⟨p,5,none⟩)
 | 10=>x 25=.int .i64 N
 | 11=>x 26=.int .i64 X
 | 12=>x 27=.int .u64 X
 | 13=>x 28=.string P4
 | 14=>x 29=.string S
 | 15=>x 30=.string (P4++S)
 | 16=>L.getD 0 false=true∧RT b W 4 (P4++S)
 | 17=>x 31=.map (some b)∧∀ j,j<17→L.getD j false=true
 | 18=>x 32=.pointer (some ⟨p,2,none⟩)
 | 19=>x 33=.int .i64 K
 | 20=>x 34=.string t
 | 21=>x 2=.string t
 | 22=>x 3=.int .i64 0
 | _=>True
def slotF:Nat→Nat
 | 0=>18
 | 1=>19
 | 4=>20
 | 5=>21
 | 6=>22
 | 7=>23
 | 9=>24
 | 10=>25
 | 11=>26
 | 12=>27
 | 13=>28
 | 14=>29
 | 15=>30
 | 17=>31
 | 18=>32
 | 19=>33
 | 20=>34
 | 21=>2
 | 22=>3
 | _=>0
def keyF:Nat→Int
 | 2=>1
 | 3=>2
 | 8=>3
 | 16=>4
 | _=>0
def FR (x:Nat→Value):Act:=⟨#[x 0,x 1,x 2,x 3,x 4,x 5,x 6,x 7,x 8,x 9,x 10,x 11,x 12,x 13,x 14,x 15,x 16,x 17,x 18,x 19,x 20,x 21,x 22,x 23,x 24,x 25,x 26,x 27,x 28,x 29,x 30,x 31,x 32,x 33,x 34],[]⟩
def upd (x:Nat→Value) (d:Nat) (v:Value):Nat→Value:=fun k=>if k=d then v else x k
def JR (w2:World) (p:Nat) (S P3 P4 t:ByteArray) (N X K:Int) (L:Array Bool) (a:Act) (W:World):Prop :=
 ∃ (x:Nat→Value) (b:Nat),a=FR x∧x 1=.pointer (some ⟨p,0,none⟩)∧x 5=.string S∧Below w2.heap.size w2 W∧∀ j,L.getD j false=true→FT p w2.heap.size S P3 P4 t N X K L x b W j
section
variable {p m:Nat} {S P3 P4 t:ByteArray} {N X K:Int} {L L':Array Bool} {x x':Nat→Value} {b b':Nat} {W W':World} {w2:World}
theorem FT.move {j:Nat} (h:FT p m S P3 P4 t N X K L x b W j) (hx:x' (slotF j)=x (slotF j)) (hJ:JT b W→JT b W') (hW:∀ s,RT b W (keyF j) s→RT b W' (keyF j) s)
   (hL:∀ j,L.getD j false=true→L'.getD j false=true):FT p m S P3 P4 t N X K L' x' b W' j:=by
 unfold FT at h ⊢;split at h
 · exact ⟨hx.trans h.1,hJ h.2.1,h.2.2⟩
 · exact hx.trans h
 · exact ⟨hL 0 h.1,hW _ h.2⟩
 · exact ⟨hL 0 h.1,hW _ h.2⟩
 · exact hx.trans h
 · exact hx.trans h
 · exact hx.trans h
 · exact hx.trans h
 · exact ⟨hL 0 h.1,hW _ h.2⟩
 · exact hx.trans h
 · exact hx.trans h
 · exact hx.trans h
 · exact hx.trans h
 · exact hx.trans h
 · exact hx.trans h
 · exact hx.trans h
 · exact ⟨hL 0 h.1,hW _ h.2⟩
 · exact ⟨hx.trans h.1,fun j hj=>hL j (h.2 j hj)⟩
 · exact hx.trans h
 · exact hx.trans h
 · exact hx.trans h
 · exact hx.trans h
 · exact hx.trans h
 · trivial
theorem FT.made {j:Nat} (h:FT p m S P3 P4 t N X K L x b W j) (h0:L.getD 0 false=false) (hj:j≠0) (hx:x' (slotF j)=x (slotF j)):FT p m S P3 P4 t N X K L' x' b' W' j:=by
 unfold FT at h ⊢;split at h
 · exact absurd rfl hj
 · exact hx.trans h
 · rw [h0] at h;exact absurd h.1 (by decide)
 · rw [h0] at h;exact absurd h.1 (by decide)
 · exact hx.trans h
 · exact hx.trans h
 · exact hx.trans h
 · exact hx.trans h
 · rw [h0] at h;exact absurd h.1 (by decide)
 · exact hx.trans h
 · exact hx.trans h
 · exact hx.trans h
 · exact hx.trans h
 · exact hx.trans h
 · exact hx.trans h
 · exact hx.trans h
 · rw [h0] at h;exact absurd h.1 (by decide)
 · have:=h.2 0 (by decide);rw [h0] at this;exact absurd this (by decide)
 · exact hx.trans h
 · exact hx.trans h
 · exact hx.trans h
 · exact hx.trans h
 · exact hx.trans h
 · trivial
theorem JR.next {i:Nat} {a':Act} (ha:a'=FR x') (hF:∀ j,L.getD j false=true→FT p w2.heap.size S P3 P4 t N X K L x b W j) (hB:Below w2.heap.size w2 W') (h1:x' 1=.pointer (some ⟨p,0,none⟩)) (h5:x' 5=.string S)
   (hi:FT p w2.heap.size S P3 P4 t N X K (L.setIfInBounds i true) x' b' W' i) (hm:∀ j,j≠i→FT p w2.heap.size S P3 P4 t N X K L x b W j→FT p w2.heap.size S P3 P4 t N X K (L.setIfInBounds i true) x' b' W' j) :
   JR w2 p S P3 P4 t N X K (L.setIfInBounds i true) a' W' :=
 ⟨x',b',ha,h1,h5,hB,fun j hj=>by
   by_cases e:j=i
   · subst e;exact hi
   · exact hm j e (hF j ((getD_put hj).resolve_left e))⟩
theorem JR.slot {i:Nat} {a':Act} (d:Nat) (v:Value) (ha:a'=FR (upd x d v)) (hF:∀ j,L.getD j false=true→FT p w2.heap.size S P3 P4 t N X K L x b W j) (hB:Below w2.heap.size w2 W') (h1:x 1=.pointer (some ⟨p,0,none⟩)) (h5:x 5=.string S)
   (hJ:JT b W→JT b W') (hW:∀ k s,RT b W k s→RT b W' k s) (hd:d≠1∧d≠5) (hds:∀ j,j≠i→slotF j≠d)
   (hi:FT p w2.heap.size S P3 P4 t N X K (L.setIfInBounds i true) (upd x d v) b W' i):JR w2 p S P3 P4 t N X K (L.setIfInBounds i true) a' W' :=
 JR.next ha hF hB (by unfold upd;rw [if_neg (Ne.symm hd.1)];exact h1) (by unfold upd;rw [if_neg (Ne.symm hd.2)];exact h5) hi
   (fun j hj h=>h.move (by unfold upd;rw [if_neg (hds j hj)]) hJ (fun s=>hW _ s) (fun _ h=>getD_keep h))
theorem JR.entry {i:Nat} {a':Act} {k:Int} (ha:a'=FR x) (hF:∀ j,L.getD j false=true→FT p w2.heap.size S P3 P4 t N X K L x b W j) (hB:Below w2.heap.size w2 W') (h1:x 1=.pointer (some ⟨p,0,none⟩)) (h5:x 5=.string S)
   (hJ:JT b W→JT b W') (hW:∀ j s,j≠k→RT b W j s→RT b W' j s) (hk:∀ j,j≠i→keyF j≠k)
   (hi:FT p w2.heap.size S P3 P4 t N X K (L.setIfInBounds i true) x b W' i):JR w2 p S P3 P4 t N X K (L.setIfInBounds i true) a' W' :=
 JR.next ha hF hB h1 h5 hi (fun j hj h=>h.move rfl hJ (fun s=>hW _ s (hk j hj)) (fun _ h=>getD_keep h))
theorem getD_no {i:Nat} (h:L.getD i true=false):L.getD i false=false:=by
 have hi:=(count_down h).2;simp [hi] at h ⊢
 exact h
theorem upd_at (x:Nat→Value) (d:Nat) (v:Value):upd x d v d=v:=by simp [upd]
end
end Go.Proofs.YtgfinhehgfbdgaaGreatDoor
namespace Go.Proofs.YtgfinhehgfbdgaaGreatDoor
open Go.RowKit
def VReadIs (w:World) (s:List UInt8) (e:Ending) (w':World):Prop :=
 ∃ v,e=.returned (.tuple #[v,.int .i64 ((vreadF s).2.1:Nat),noV (vreadF s).1])∧ownsE w' w.heap.size v (vreadF s).2.2∧Below w.heap.size w w'
theorem vread_is_bad {w:World} {s:List UInt8} {e:Nat} (h:vreadF s=(e,0,[])) (he:e≠0) (w':World) (hb:Below w.heap.size w w'):VReadIs w s (.returned (.tuple #[.slice none 0 0,.int .i64 0,.iface 27 (.int .i64 (e:Nat))])) w':=by
 refine ⟨.slice none 0 0,?_,?_,hb⟩
 · rw [h];simp only;rw [noV_e he];rfl
 · rw [h];exact ownsE_nil _ _
theorem vread_is_ok {w:World} {s:List UInt8} {n:Nat} {l:List Ent} (h:vreadF s=(0,n,l)) (v:Value) (w':World) (ho:ownsE w' w.heap.size v l) (hb:Below w.heap.size w w'):VReadIs w s (.returned (.tuple #[v,.int .i64 (n:Nat),.nilIface])) w':=by
 refine ⟨v,?_,?_,hb⟩
 · rw [h];rfl
 · rw [h];exact ho
theorem vgetR_bad {w:World} {x:Nat ⊕ (List Ent×Nat)} {er:Nat} (h:x=.inl er) {e:Ending} {w':World} (hg:VGetIs w x e w'):e=.returned (.tuple #[.slice none 0 0,.int .i64 0,.iface 27 (.int .i64 (er:Nat))])∧Below w.heap.size w w':=by
 rw [h] at hg;exact hg
theorem vgetR_good {w:World} {x:Nat ⊕ (List Ent×Nat)} {run:List Ent} {k:Nat} (h:x=.inr (run,k)) {e:Ending} {w':World} (hg:VGetIs w x e w'):∃ v,e=.returned (.tuple #[v,.int .i64 (k:Nat),.nilIface])∧ownsE w' w.heap.size v run∧Below w.heap.size w w':=by
 rw [h] at hg;exact hg
theorem getR_err {s:List UInt8} {used e:Nat} {least:Int} {acc:List Ent} (h:getR s used least acc=.inl e):e≠0:=by
 have htm:∀ (k:Nat) (s:List UInt8) (used:Nat) (r:Int) (acc:List Ent),tmA k s used r acc=.inl e→e≠0:=by
   intro k
   induction k with
   | zero=>intro s used r acc h;cases h
   | succ k ih =>
     intro s used r acc h;rcases intL_cases s 1099511627776 with ⟨e',hi,he,_⟩ | ⟨t,j,hi,_⟩
     · rw [tmA_bad hi he] at h;injection h with h;subst h;exact he
     · rw [tmA_ok hi] at h;exact ih _ _ _ _ h
 rcases intL_cases s 200 with ⟨e',hi,he,_⟩ | ⟨g,j,hi,_⟩
 · rw [getR_gap hi he] at h;injection h with h;subst h;exact he
 · rcases intL_cases (s.drop j) 16 with ⟨e',hi2,he,_⟩ | ⟨c,i,hi2,_⟩
   · rw [getR_many hi hi2 he] at h;injection h with h;subst h;exact he
   · rw [getR_ok hi hi2] at h;exact htm _ _ _ _ _ h
theorem consec_bd {l:List Ent}:∀ {r:Int},consec r l→∀ e∈l,r≤e.rep∧e.rep<r+l.length:=by
 induction l with
 | nil=>intro r _ e h;cases h
 | cons d t ih =>
   intro r h e he;rw [List.length_cons];rcases List.mem_cons.1 he with rfl | he
   · have:=h.1;omega
   · have:=ih h.2 e he;omega
set_option maxRecDepth 100000 in
set_option maxHeartbeats 4000000 in
theorem vread_any (s:ByteArray) (w:World) (hs:s.size≤1000000) (hg:errT w) :
   Calls Tryz.prog 149 #[.string s] w (VReadIs w s.data.toList):=by
 have HG:=Lib.hid hg;have hsl:s.data.toList.length=s.size:=(size_data s).symm;have HSL:=Lib.hid hsl;have HM0:Hid (s.size≤maxLen):=Lib.hid (show s.size≤maxLen by unfold maxLen;omega);clear hsl hg;rcases intL_cases s.data.toList 16 with ⟨e,hi,he,_⟩ | ⟨R,j,hi,hR,hj1,hj2,hj3,_⟩
 · have HI:=Lib.hid hi;have HV:=Lib.hid (vread_few hi he);have HNE:=Lib.hid he;clear hi he;go_enter Tryz.func149,Tryz.ntmps149
   go_wp2_with fail
   refine (vint_bad _ 16 _ HM0.out (by decide) (by decide) e HI.out HNE.out).mono ?_;rintro r w' ⟨rfl,rfl⟩;go_wp2;go_ret3;exact vread_is_bad HV.out HNE.out _ (Below.refl _ _)
 · have HI:=Lib.hid hi;rw [HSL.out] at hj3;have hR16:R≤16:=by omega
   clear hi;go_enter Tryz.func149,Tryz.ntmps149
   go_wp2_with fail
   refine (vint_ok _ 16 _ HM0.out (by decide) (by decide) R j HI.out).mono ?_;rintro r w' ⟨rfl,rfl⟩;go_wp2
   go_loopw [6,8,9,24] (fun av lv bv i wr=>∃ (k a:Nat) (least:Int) (acc:List Ent),k≤R∧i=.int .i64 k∧av=.int .i64 a∧a≤s.size∧bv=.int .i64 least∧0≤least∧least≤300 * (k:Int)∧acc.length≤17 * k∧rdA R (s.data.toList.drop j) j 0 []=rdA (R-k) (s.data.toList.drop a) a least acc∧ownsE wr w.heap.size lv acc∧Below w.heap.size w wr) (fun _ _ _ i _=>R-(intOf i).toNat)
   case atStart=>exact ⟨0,j,0,[],by omega,rfl,rfl,hj3,rfl,by omega,by omega,by simp,rfl,ownsE_nil _ _,Below.refl _ _⟩
   case round =>
     obtain ⟨k,a,least,acc,hk,rfl,rfl,has,rfl,hl0,hl3,hal,heq,ho,hb⟩:=hrel;have HEQ:=Lib.hid heq;have HO:=Lib.hid ho;have HB:=Lib.hid hb;have hzr:=hb.size;have HAL:=Lib.hid hal;have HE:=Lib.hid (ext_dropV s a);have hxs:(s.extract a s.size).size≤1000000:=by rw [ByteArray.size_extract];omega
     have HXS:=Lib.hid hxs;have e3:(0:Int)≤(a:Int):=by omega
     have e4:(a:Int)≤(s.size:Int):=by omega
     clear heq ho hb hal hxs;by_cases hlt:k<R
     · have hlt':(k:Int)<(R:Int):=by omega
       obtain ⟨c',hc'⟩:∃ c',R-k=c'+1:=⟨R-k-1,by omega⟩
       match hgr:getR (s.data.toList.drop a) 0 least [] with
       | .inl e =>
         have HGR:Hid (getR (s.extract a s.size).data.toList 0 least []=.inl e):=Lib.hid (show getR (s.extract a s.size).data.toList 0 least []=.inl e by rw [HE.out];exact hgr);have HV:=Lib.hid (vread_bad HI.out (show rdA R (s.data.toList.drop j) j 0 []=.inl e by rw [HEQ.out,hc',rdA_bad hgr]));have HNE:=Lib.hid (getR_err hgr);clear hgr hc';go_wp2_with fail
         refine (vget_any (s.extract a s.size) least _ HXS.out hl0 (by omega)).mono ?_;intro r w1 hgi;obtain ⟨rfl,hb1⟩:=vgetR_bad HGR.out hgi;have HB1:Hid (Below w.heap.size w w1):=HB.out.trans (hb1.mono hzr);clear hgi hb1;go_wp2;go_ret3;exact vread_is_bad HV.out HNE.out _ HB1.out
       | .inr (run,i) =>
         have HGR:Hid (getR (s.extract a s.size).data.toList 0 least []=.inr (run,i)):=Lib.hid (show getR (s.extract a s.size).data.toList 0 least []=.inr (run,i) by rw [HE.out];exact hgr);obtain ⟨run',hr',g1,g2,g3,g4,g5,_,g6,_,_⟩:=getR_only hgr;rw [List.nil_append] at hr';subst hr';rw [List.length_drop,HSL.out] at g6;have hpos:0<run.length:=List.length_pos_iff.2 g1;have hlast:=consec_last g5 g1;have hbd:=consec_bd g5;have HRB:Hid (∀ e∈run,0≤e.rep∧e.rep≤1000000):=Lib.hid (show ∀ e∈run,0≤e.rep∧e.rep≤1000000 from fun e he=>by have:=hbd e he;omega);have HNIL:=Lib.hid g1;obtain ⟨lr,hlr⟩:∃ x,(run.getLastD ⟨0,0⟩).rep=x:=⟨_,rfl⟩;have HLR:=Lib.hid hlr;have HST:Hid (rdA R (s.data.toList.drop j) j 0 []=rdA (R-(k+1)) (s.data.toList.drop (a+i)) (a+i) (lr+2) (acc++run)):=Lib.hid (show rdA R (s.data.toList.drop j) j 0 []=rdA (R-(k+1)) (s.data.toList.drop (a+i)) (a+i) (lr+2) (acc++run) by
           rw [HEQ.out,hc',rdA_ok hgr,List.drop_drop,hlr,show R-(k+1)=c' by omega])
         rw [hlr] at hlast;have HLB:Hid (0≤lr+2∧lr+2≤300 * ((k+1:Nat):Int)):=Lib.hid (show 0≤lr+2∧lr+2≤300 * ((k+1:Nat):Int) by omega);have HRL:Hid (run.length≤17):=Lib.hid g2;have HAI:Hid (a+i≤s.size):=Lib.hid (show a+i≤s.size by omega);have hib:(i:Int)≤1000000:=by omega
         clear hgr hc' g1 g2 g3 g4 g5 g6 hbd hlr hlast;go_wp2_with fail
         refine (vget_any (s.extract a s.size) least _ HXS.out hl0 (by omega)).mono ?_;intro r w1 hgi;obtain ⟨v,rfl,how,hb1⟩:=vgetR_good HGR.out hgi;have HOW:=Lib.hid how;have HB1:Hid (Below w.heap.size w w1):=HB.out.trans (hb1.mono hzr);have HO1:=Lib.hid (HO.out.below hb1);have HZ:Hid (∀ x,Value.ownBlock u8=some x→x<wr.heap.size):=Lib.hid (fun x hx=>(HO.out.lt x hx).2);rcases how.form with ⟨_,hn⟩ | ⟨gB,cap,rfl,hgb,hgl,hcs⟩
         · rw [hn] at hpos;simp at hpos
         · have HCS:=Lib.hid hcs;clear hgi hb1 how hcs;go_wp2_with (at_builtin;refine wpList_append_ents rfl _ _ rfl w.heap.size _ acc rfl HO1.out gB 0 cap run.length rfl run rfl (fun j u hj=>by rw [Nat.zero_add];exact HCS.out j u hj) hpos ?c1 ?c2 ?_)
           case c1=>have:=HAL.out;have:=HRL.out;omega
           case c2=>have:=HB1.out.size;omega
           · intro g3 cap3 w3 ho3 hg3;have HO3:=Lib.hid ho3;have HB3:Hid (Below w.heap.size w w3):=HB1.out.grown hg3 HB1.out.size (fun k hk=>(HO1.out.lt k hk).1);have HRW:Hid (IsEnts w3 (.slice (some ⟨gB,0,none⟩) run.length cap) run):=Lib.hid (World.ownsRow.kept HOW.out hg3 (.inr (fun e=>by have:=HZ.out gB e.symm;omega)) |> fun h=>(show ownsE w3 wr.heap.size _ run from h).is);have HAL3:Hid ((acc++run).length≤17 * (k+1)):=Lib.hid (show (acc++run).length≤17 * (k+1) by have:=HAL.out;have:=HRL.out;rw [List.length_append];omega);obtain ⟨q,hq⟩:∃ q,run.length=q:=⟨_,rfl⟩;rw [hq] at HRW hpos ⊢;have HQ:=Lib.hid hq;clear ho3 hg3 hq;go_wp2_with fail
             refine (behind_any _ run _ HRW.out HNIL.out (by have:=HRL.out;omega) HRB.out).mono ?_;rintro r w' ⟨rfl,rfl⟩;rw [HLR.out];go_wp2;go_roundw
             case rel=>exact ⟨k+1,a+i,lr+2,acc++run,by omega,by go_num,by go_num,HAI.out,rfl,HLB.out.1,HLB.out.2,HAL3.out,HST.out,by have h:=HO3.out;rw [HQ.out] at h;exact h,HB3.out⟩
             case measure=>simp [intOf];omega
     · have hkr:k=R:=by omega
       have HRR:Hid (rdA R (s.data.toList.drop j) j 0 []=.inr (acc,a)):=Lib.hid (show rdA R (s.data.toList.drop j) j 0 []=.inr (acc,a) by rw [HEQ.out,hkr,Nat.sub_self];rfl);have hlt':(R:Int)≤(k:Int):=by omega
       have hal9:acc.length≤9223372036854775807:=by have:=HAL.out;omega
       have HI9:=Lib.hid hal9;clear hkr hal9;by_cases h0:(vrightF acc).1=0
       · have HV:=Lib.hid (vread_ok HI.out HRR.out h0);have H0:=Lib.hid h0;clear h0;go_wp2_with fail
         refine (vbare_any _ acc _ HO.out.is HI9.out (HG.out.below HB.out)).mono ?_;rintro r w1 ⟨rfl,hb1⟩;rw [H0.out,noV_0];have HB1:Hid (Below w.heap.size w w1):=HB.out.trans (hb1.mono hzr);have HO1:=Lib.hid (HO.out.below hb1);clear hb1;go_wp2;go_ret3;exact vread_is_ok HV.out _ _ HO1.out HB1.out
       · have HV:=Lib.hid (vread_wrong HI.out HRR.out h0);have HQ:=Lib.hid (noV_e h0);have H0:=Lib.hid h0;clear h0;go_wp2_with fail
         refine (vbare_any _ acc _ HO.out.is HI9.out (HG.out.below HB.out)).mono ?_;rintro r w1 ⟨rfl,hb1⟩;rw [HQ.out];have HB1:Hid (Below w.heap.size w w1):=HB.out.trans (hb1.mono hzr);clear hb1;go_wp2;go_ret3;exact vread_is_bad HV.out H0.out _ HB1.out
end Go.Proofs.YtgfinhehgfbdgaaGreatDoor
