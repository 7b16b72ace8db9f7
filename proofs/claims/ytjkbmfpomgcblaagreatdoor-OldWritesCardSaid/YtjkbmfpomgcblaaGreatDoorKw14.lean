import Derived.Test.YtjkbmfpomgcblaaGreatDoorKw13
import Derived.Test.YtjkbmfpomgcblaaGreatDoorKw10
namespace Go.Proofs.YtjkbmfpomgcblaaGreatDoor
open Go.RowKit
theorem baref_any (n:Int) (w:World):Calls Tryz.prog 71 #[.int .i64 n] w fun e w'=>e=.returned (.agg #[.int .i64 n,.int .i64 (-1)])∧Below w.heap.size w w':=by
 go_enter Tryz.func71,Tryz.ntmps71
 go_wp2
 refine bodyPost_ret (v:=.agg #[.int .i64 n,.int .i64 (-1)]) (by simp [results,Tryz.results71,go_sem]) rfl ?_
 exact ⟨rfl,(Below.refl _ _).alloc (Nat.le_refl _) _⟩
theorem faultV_is {r:Nat×Int} {e:Nat} {pl:Int} (h:r=(e,pl)):faultV r=.agg #[.int .i64 (e:Int),.int .i64 pl]:=by rw [h];rfl
set_option maxRecDepth 100000 in
set_option maxHeartbeats 4000000 in
theorem rvright_any (v:Value) (l:List Ent) (w:World) (hv:IsEnts w v l) (hl:l.length≤9223372036854775807) :
   Calls Tryz.prog 112 #[v] w fun e w'=>e=.returned (faultV (vrightF l))∧Below w.heap.size w w':=by
 obtain ⟨a1,c1,rfl,f1⟩:=hv.form
 have F1:=Lib.hid f1
 obtain ⟨n,hn⟩:∃ n,n=l.length:=⟨_,rfl⟩
 rw [←hn] at hl ⊢
 have HN:=Lib.hid hn
 clear hv f1 hn
 by_cases h16:16 < n
 · have HW:Hid (faultV (vrightF l)=.agg #[.int .i64 4,.int .i64 (-1)]):=Lib.hid (faultV_is (show vrightF l=(4,-1) by unfold vrightF;rw [if_pos (by rw [←HN.out];exact h16)]))
   have h2:16 < (n:Int):=by omega
   rw [HW.out]
   go_enter Tryz.func112,Tryz.ntmps112
   go_wp2_with fail
   refine (baref_any 4 _).mono ?_
   rintro r w1 ⟨rfl,hb1⟩
   have hz1:=hb1.size
   rw [World.size_alloc] at hz1
   have d0:w1.cell? ⟨w.heap.size,0,none⟩=some (.int .i64 0):=(hb1.cell (by simp)).trans (by simp)
   have d1:w1.cell? ⟨w.heap.size,1,none⟩=some (.int .i64 0):=(hb1.cell (by simp)).trans (by simp)
   have g0:w1.frozen? ⟨w.heap.size,0,none⟩=false:=(hb1.frozen (by simp)).trans (by simp)
   have g1:w1.frozen? ⟨w.heap.size,1,none⟩=false:=(hb1.frozen (by simp)).trans (by simp)
   have HB1:Hid (Below w.heap.size w w1):=((Below.refl _ _).alloc (Nat.le_refl _) _).trans (hb1.mono (by simp))
   clear hb1
   go_wp2
   refine bodyPost_ret (v:=.agg #[.int .i64 4,.int .i64 (-1)]) (by simp [results,Tryz.results112,go_sem,d0,d1]) rfl ?_
   exact ⟨rfl,(HB1.out.setCell (Nat.le_refl _) _).setCell (Nat.le_refl _) _⟩
 · have hvr:vrightF l=vr l 0 (-1):=by unfold vrightF;rw [if_neg (by rw [←HN.out];exact h16)]
   rw [hvr]
   clear hvr
   go_enter Tryz.func112,Tryz.ntmps112
   go_wp2
   go_loopw [3,12] (fun s i wr=>∃ (k:Nat) (last:Int),k≤n∧i=.int .i64 k∧s=.int .i64 last∧vr l 0 (-1)=vr (l.drop k) k last∧Below (w.heap.size + 1) (w.alloc (.cells #[.int .i64 0,.int .i64 0] 46)) wr) (fun _ i _=>n - (intOf i).toNat)
   case atStart=>exact ⟨0,-1,by omega,rfl,rfl,rfl,Below.refl _ _⟩
   case round =>
     obtain ⟨k,last,hk,rfl,rfl,heq,hbel⟩:=hrel
     have HEQ:=Lib.hid heq
     have HB:=Lib.hid hbel
     have x0:wr.cell? ⟨w.heap.size,0,none⟩=some (.int .i64 0):=(hbel.cell (by exact Nat.lt_succ_self _)).trans (by simp)
     have x1:wr.cell? ⟨w.heap.size,1,none⟩=some (.int .i64 0):=(hbel.cell (by exact Nat.lt_succ_self _)).trans (by simp)
     have y0:wr.frozen? ⟨w.heap.size,0,none⟩=false:=(hbel.frozen (by exact Nat.lt_succ_self _)).trans (by simp)
     have y1:wr.frozen? ⟨w.heap.size,1,none⟩=false:=(hbel.frozen (by exact Nat.lt_succ_self _)).trans (by simp)
     have hzr:=hbel.size
     rw [World.size_alloc] at hzr
     have HB0:Hid (Below w.heap.size w wr):=((Below.refl _ _).alloc (Nat.le_refl _) _).trans (HB.out.mono (Nat.le_succ _))
     clear heq hbel
     by_cases hlt:k < n
     · have hkl:k < l.length:=by have:=HN.out;omega
       obtain ⟨t,ht⟩:∃ t,l[k]? = some t:=⟨l[k],List.getElem?_eq_getElem hkl⟩
       obtain ⟨b1,o1,rfl,hb1,p0,p1⟩:=F1.out k t ht
       have hd:l.drop k=t :: l.drop (k + 1):=by
         rw [List.drop_eq_getElem_cons hkl];congr 1
         rw [List.getElem?_eq_getElem hkl] at ht;exact Option.some.inj ht
       obtain ⟨rep,time⟩:=t
       simp only at p0 p1
       have q0:=(HB0.out.cell (p:=⟨b1,o1 + k * 2,none⟩) hb1).trans p0
       have q1:=(HB0.out.cell (p:=⟨b1,o1 + k * 2 + 1,none⟩) hb1).trans p1
       have HD:=Lib.hid hd
       have hlt0:w.heap.size < wr.heap.size:=by omega
       clear p0 p1 ht hd hkl
       by_cases hr:rep < 0∨200 < rep∨time < 1∨1099511627776 < time
       · have HW : Hid (faultV (vr l 0 (-1)) = .agg #[.int .i64 2, .int .i64 k]) := Lib.hid (faultV_is (show vr l 0 (-1) = (2, (k : Int)) by
           have hw:wrE ⟨rep,time⟩ last=2:=wrE_range hr
           rw [HEQ.out,HD.out,vr_bad (by rw [hw];decide),hw]))
         have HR:=Lib.hid hr
         clear hr HEQ
         by_cases h1:rep < 0∨200 < rep
         · rcases h1 with h1 | h1
           · go_wp2_with fail
             refine (within_low rep 0 200 _ h1).mono ?_
             rintro r w' ⟨rfl,rfl⟩
             go_wp2
             refine bodyPost_ret (v:=.agg #[.int .i64 2,.int .i64 k]) (by simp [results,Tryz.results112,go_sem,x0,x1,hlt0]) rfl ?_
             rw [HW.out]
             exact ⟨rfl,((HB0.out.setCell (Nat.le_refl _) _).setCell (Nat.le_refl _) _).alloc (by simp;omega) _⟩
           · go_wp2_with fail
             refine (within_high rep 0 200 _ (by omega) h1).mono ?_
             rintro r w' ⟨rfl,rfl⟩
             go_wp2
             refine bodyPost_ret (v:=.agg #[.int .i64 2,.int .i64 k]) (by simp [results,Tryz.results112,go_sem,x0,x1,hlt0]) rfl ?_
             rw [HW.out]
             exact ⟨rfl,((HB0.out.setCell (Nat.le_refl _) _).setCell (Nat.le_refl _) _).alloc (by simp;omega) _⟩
         · by_cases h2:time < 1
           · go_wp2_with fail
             refine (within_yes rep 0 200 _ (by omega) (by omega)).mono ?_
             rintro r w' ⟨rfl,rfl⟩
             go_wp2_with fail
             refine (within_low time 1 1099511627776 _ h2).mono ?_
             rintro r w' ⟨rfl,rfl⟩
             go_wp2
             refine bodyPost_ret (v:=.agg #[.int .i64 2,.int .i64 k]) (by simp [results,Tryz.results112,go_sem,x0,x1,hlt0]) rfl ?_
             rw [HW.out]
             exact ⟨rfl,((HB0.out.setCell (Nat.le_refl _) _).setCell (Nat.le_refl _) _).alloc (by simp;omega) _⟩
           · have h3:1099511627776 < time:=by have:=HR.out;omega
             go_wp2_with fail
             refine (within_yes rep 0 200 _ (by omega) (by omega)).mono ?_
             rintro r w' ⟨rfl,rfl⟩
             go_wp2_with fail
             refine (within_high time 1 1099511627776 _ (by omega) h3).mono ?_
             rintro r w' ⟨rfl,rfl⟩
             go_wp2
             refine bodyPost_ret (v:=.agg #[.int .i64 2,.int .i64 k]) (by simp [results,Tryz.results112,go_sem,x0,x1,hlt0]) rfl ?_
             rw [HW.out]
             exact ⟨rfl,((HB0.out.setCell (Nat.le_refl _) _).setCell (Nat.le_refl _) _).alloc (by simp;omega) _⟩
       · have g1:0≤rep:=by omega
         have g2:rep≤200:=by omega
         have g3:1≤time:=by omega
         have g4:time≤1099511627776:=by omega
         by_cases h5:rep≤last
         · have HW : Hid (faultV (vr l 0 (-1)) = .agg #[.int .i64 10, .int .i64 k]) := Lib.hid (faultV_is (show vr l 0 (-1) = (10, (k : Int)) by
             have hw:wrE ⟨rep,time⟩ last=10:=wrE_order hr h5
             rw [HEQ.out,HD.out,vr_bad (by rw [hw];decide),hw]))
           clear hr HEQ
           go_wp2_with fail
           refine (within_yes rep 0 200 _ g1 g2).mono ?_
           rintro r w' ⟨rfl,rfl⟩
           go_wp2_with fail
           refine (within_yes time 1 1099511627776 _ g3 g4).mono ?_
           rintro r w' ⟨rfl,rfl⟩
           go_wp2
           refine bodyPost_ret (v:=.agg #[.int .i64 10,.int .i64 k]) (by simp [results,Tryz.results112,go_sem,x0,x1,hlt0]) rfl ?_
           rw [HW.out]
           exact ⟨rfl,((HB0.out.setCell (Nat.le_refl _) _).setCell (Nat.le_refl _) _).alloc (by simp;omega) _⟩
         · have HW : Hid (vr l 0 (-1) = vr (l.drop (k + 1)) (k + 1) rep) := Lib.hid (show vr l 0 (-1) = vr (l.drop (k + 1)) (k + 1) rep by
             rw [HEQ.out,HD.out,vr_good (wrE_fine hr h5)])
           clear hr HEQ
           go_wp2_with fail
           refine (within_yes rep 0 200 _ g1 g2).mono ?_
           rintro r w' ⟨rfl,rfl⟩
           go_wp2_with fail
           refine (within_yes time 1 1099511627776 _ g3 g4).mono ?_
           rintro r w' ⟨rfl,rfl⟩
           go_wp2
           go_roundw
           case rel=>exact ⟨k + 1,rep,by omega,by go_num,rfl,HW.out,HB.out.alloc (by omega) _⟩
           case measure=>simp [intOf];omega
     · have HW:Hid (faultV (vr l 0 (-1))=.agg #[.int .i64 0,.int .i64 (-1)]):=Lib.hid (faultV_is (show vr l 0 (-1)=(0,-1) by rw [HEQ.out,List.drop_eq_nil_of_le (by have:=HN.out;omega)];rfl))
       have hlt0:w.heap.size < wr.heap.size:=by omega
       clear HEQ
       go_wp2_with fail
       refine (good_any _).mono ?_
       rintro r w1 ⟨rfl,hb1⟩
       have d0:w1.cell? ⟨w.heap.size,0,none⟩=some (.int .i64 0):=(hb1.cell hlt0).trans x0
       have d1:w1.cell? ⟨w.heap.size,1,none⟩=some (.int .i64 0):=(hb1.cell hlt0).trans x1
       have g0:w1.frozen? ⟨w.heap.size,0,none⟩=false:=(hb1.frozen hlt0).trans y0
       have g1:w1.frozen? ⟨w.heap.size,1,none⟩=false:=(hb1.frozen hlt0).trans y1
       have HBW:Hid (Below w.heap.size w w1):=HB0.out.trans (hb1.mono (Nat.le_of_lt hlt0))
       clear hb1 x0 x1 y0 y1
       go_wp2
       refine bodyPost_ret (v:=.agg #[.int .i64 0,.int .i64 (-1)]) (by simp [results,Tryz.results112,go_sem,d0,d1]) rfl ?_
       rw [HW.out]
       exact ⟨rfl,(HBW.out.setCell (Nat.le_refl _) _).setCell (Nat.le_refl _) _⟩
end Go.Proofs.YtjkbmfpomgcblaaGreatDoor
namespace Go.Proofs.YtjkbmfpomgcblaaGreatDoor
open Go.RowKit
def entsP (l:List Ent):List UInt8:=l.flatMap fun e=>putL e.rep.toNat ++ putL e.time.toNat
def plainL (l:List Ent):List UInt8:=putL l.length ++ entsP l
def oldW (x:Wr):List UInt8:=[UInt8.ofNat x.kind.toNat] ++ putL x.time.toNat ++ putL x.rep.toNat ++ spanL x.key.data.toList ++ tailL x
def oldWs (l:List Wr):List UInt8:=l.flatMap oldW
def oldL (f h:List Ent) (l:List Wr):List UInt8:=plainL f ++ plainL h ++ putL l.length ++ oldWs l
def firstF (f h:List Ent) (l:List Wr):List UInt8×Nat×Int:=if (batF f h l).1≠0 then ([],batF f h l) else (sealL (80 :: 84 :: 1 :: oldL f h l),0,-1)
def secondF (f h:List Ent) (l:List Wr):List UInt8×Nat×Int:=if (bodyF f h l).2.1≠0 then ([],(bodyF f h l).2) else (sealL (80 :: 84 :: 2 :: (bodyF f h l).1),0,-1)
theorem entsP_cons (e:Ent) (l:List Ent):entsP (e :: l)=putL e.rep.toNat ++ (putL e.time.toNat ++ entsP l):=by simp [entsP]
theorem oldWs_cons (x:Wr) (l:List Wr):oldWs (x :: l)=oldW x ++ oldWs l:=by simp [oldWs]
section
variable {s:List UInt8} {k a r j t i e:Nat} {L:List Ent}
end
section
variable {s key:List UInt8} {a K j t k1 r k2 k3 e:Nat}
end
section
variable {s:List UInt8} {f h:List Ent} {W:List Wr} {a b c k j e:Nat}
end
section
variable {s i:List UInt8} {v e:Nat} {b:List Ent×List Ent×List Wr}
end
end Go.Proofs.YtjkbmfpomgcblaaGreatDoor
namespace Go.Proofs.YtjkbmfpomgcblaaGreatDoor
open Go.RowKit
theorem errV_ok:errV 0=.nilIface:=rfl
theorem errV_no {e:Nat} (h:e≠0):errV e=.iface 44 (.int .i64 e):=by unfold errV;rw [if_neg h]
def batAt (w:World) (B:Nat) (vf vh vw:Value):Prop :=
 w.cell? ⟨B,0,none⟩=some vf∧w.cell? ⟨B,1,none⟩=some vh∧w.cell? ⟨B,2,none⟩=some vw
theorem batAt.below {w w':World} {B:Nat} {vf vh vw:Value} {m:Nat} (h:batAt w B vf vh vw) (hb:Below m w w') (hm:B < m):batAt w' B vf vh vw :=
 ⟨(hb.cell hm).trans h.1,(hb.cell hm).trans h.2.1,(hb.cell hm).trans h.2.2⟩
theorem batAt_new (w:World) (vf vh vw:Value) (t:TypeId):batAt (w.alloc (.cells #[vf,vh,vw] t)) w.heap.size vf vh vw:=by
 unfold batAt;simp
theorem wright_as (x:Wr) (e:Nat) (w:World) (hk:x.key.size≤140737488351232) (hv:x.value.size≤140737488351232) (he:wE x=e) :
   Calls Tryz.prog 145 #[.agg #[.int .i64 x.time,.int .i64 x.rep,.int .i64 x.kind,.string x.key,.string x.value,.int .i64 x.n]] w fun r w'=>r=.returned (errV e)∧Below w.heap.size w w':=by
 subst he;exact wright_any x.time x.rep x.kind x.key x.value x.n w hk hv
set_option maxRecDepth 100000 in
set_option maxHeartbeats 4000000 in
theorem bwrong_any (vf vh vw:Value) (f h:List Ent) (l:List Wr) (k:Nat) (x:Wr) (p:Option Wr) (e:Nat) (w:World) (hf:IsEnts w vf f) (hh:IsEnts w vh h) (hv:IsWrs w vw l) (hlf:f.length≤9223372036854775807) (hlh:h.length≤9223372036854775807) (hl:l.length≤60)
   (hx:l[k]? = some x) (hp:(k=0∧p=none)∨∃ j q,k=j + 1∧l[j]? = some q∧p=some q) (hok:∀ t∈l,WrOk t) (hg:errT w) (he:bwE f h p x=e) :
   Calls Tryz.prog 91 #[.agg #[vf,vh,vw],.int .i64 (k:Int)] w fun r w'=>r=.returned (.int .i64 (e:Nat))∧Below w.heap.size w w':=by
 have HF:=Lib.hid hf
 have HH:=Lib.hid hh
 have HG:=Lib.hid hg
 have HLF:=Lib.hid hlf
 have HLH:=Lib.hid hlh
 obtain ⟨aw,cw,rfl,fw⟩:=hv.form
 have FW:=Lib.hid fw
 obtain ⟨n,hn⟩:∃ n,n=l.length:=⟨_,rfl⟩
 rw [←hn] at hl ⊢
 have hkn:k < n:=by rw [hn];exact (List.getElem?_eq_some_iff.1 hx).1
 obtain ⟨b1,o1,rfl,hb1,p0,p1,p2,p3,p4,p5⟩:=fw k x hx
 have HOK:=Lib.hid (hok x (List.mem_of_getElem? hx))
 obtain ⟨ew,hew⟩:∃ ew,wE x=ew:=⟨_,rfl⟩
 have HEW:=Lib.hid hew
 have HE:=Lib.hid he
 have HP:=Lib.hid hp
 clear hf hh hg hlf hlh hv fw hn hx hp hok he hew
 go_enter Tryz.func91,Tryz.ntmps91
 go_wp2_with fail
 refine (wright_as x ew _ HOK.out.2.2.1 HOK.out.2.2.2 HEW.out).mono ?_
 rintro r w1 ⟨rfl,hb2⟩
 have hz1:w.heap.size + 1 < w1.heap.size:=by have:=hb2.size;simp at this;omega
 have HZ1:=Lib.hid hz1
 have HBA1:Hid (batAt w1 w.heap.size vf vh (.slice (some ⟨b1,o1,none⟩) n cw)):=Lib.hid (((batAt_new w vf vh (.slice (some ⟨b1,o1,none⟩) n cw) 25).below ((Below.refl _ _).alloc (Nat.le_refl _) _) (by simp)).below hb2 (by simp;omega))
 have HWA1:Hid (wrAt w1 (w.heap.size + 1) x.time x.rep x.kind x.key x.value x.n):=Lib.hid ((by simpa using wrAt_new (w.alloc (.cells #[vf,vh,.slice (some ⟨b1,o1,none⟩) n cw] 25)) x.time x.rep x.kind x.key x.value x.n 59:wrAt _ (w.heap.size + 1) x.time x.rep x.kind x.key x.value x.n).below hb2 (by simp))
 have HB1:Hid (Below w.heap.size w w1):=Lib.hid ((((Below.refl _ _).alloc (Nat.le_refl _) _).alloc (by simp) _).trans (hb2.mono (by simp;omega)))
 clear hb2 p0 p1 p2 p3 p4 p5 hz1
 by_cases h0:ew=0
 · subst h0
   rw [errV_ok]
   have hla:lateO p x∨¬ lateO p x:=Classical.em _
   rcases HP.out with ⟨hk0,hp0⟩ | ⟨j,q,hkj,hq,hpq⟩
   · subst hk0 hp0
     obtain ⟨b,hb⟩:∃ b,wiF (x.time,x.rep) f h=b:=⟨_,rfl⟩
     have HWI:=Lib.hid hb
     have HR:Hid (e=if b=true then 0 else 6):=Lib.hid (by
       rw [←HE.out]
       cases b with
       | true=>rw [bwE_fine (p:=none) HEW.out trivial hb];rfl
       | false=>rw [bwE_state (p:=none) HEW.out trivial hb];rfl)
     clear hb hla
     obtain ⟨c0,c1,c2,c3,c4,c5⟩:=HWA1.out
     obtain ⟨d0,d1,d2⟩:=HBA1.out
     go_wp2
     go_quiet (fail)
     go_wp2_with fail
     refine (within_as x.time x.rep vf vh f h b _ (HF.out.below (below_drewN HB1.out _)) (HH.out.below (below_drewN HB1.out _)) HLF.out HLH.out HWI.out).mono ?_
     rintro r w2 ⟨rfl,hb2⟩
     have HB2:Hid (Below w.heap.size w w2):=(below_drewN HB1.out _).trans (hb2.mono HB1.out.size)
     clear hb2 c0 c1 c2 c3 c4 c5 d0 d1 d2
     cases b with
     | true =>
       go_wp2
       go_ret
       exact ⟨by rw [HR.out];rfl,HB2.out⟩
     | false =>
       go_wp2
       go_ret
       exact ⟨by rw [HR.out];rfl,HB2.out⟩
   · obtain ⟨b2,o2,hbo,_,q0,q1,_⟩:=FW.out j q hq
     simp only [Option.some.injEq,Addr.mk.injEq,and_true] at hbo
     obtain ⟨rfl,rfl⟩:=hbo
     have r0:=(HB1.out.cell (p:=⟨b1,o1 + j * 6,none⟩) hb1).trans q0
     have r1:=(HB1.out.cell (p:=⟨b1,o1 + j * 6 + 1,none⟩) hb1).trans q1
     have HK:=Lib.hid hkj
     have hj1:(k:Int) - 1=(j:Int):=by omega
     have hj2:IntKind.i64.wrap ((k:Int) - 1)=(j:Int):=by rw [hj1];exact IntWalk.i64_in _ (by omega)
     have hj3:IntKind.i64.wrap (j:Int)=(j:Int):=IntWalk.i64_in _ (by omega)
     have hk0:(0:Int) < (k:Int):=by omega
     have z1:0 < k:=by omega
     have z2:decide (0 < k)=true:=by simp;omega
     have z3:decide ((0:Int) < (k:Int))=true:=by simp;omega
     have hjn:(j:Int) < (n:Int):=by omega
     have hjn':j < n:=by omega
     have hj0:(0:Int)≤(j:Int):=by omega
     obtain ⟨c,hc⟩:∃ c,cI (x.time,x.rep) (q.time,q.rep)=c:=⟨_,rfl⟩
     have HC:=Lib.hid hc
     have hc3:c=-1∨c=0∨c=1:=by rw [←hc];exact cI_three _ _ _ _
     obtain ⟨c0,c1,c2,c3,c4,c5⟩:=HWA1.out
     obtain ⟨d0,d1,d2⟩:=HBA1.out
     subst hpq
     clear q0 q1 hq hkj hc hla
     have hb1':b1 < w1.heap.size:=Nat.lt_of_lt_of_le hb1 HB1.out.size
     have k1:w1.cell? ⟨w.heap.size + 1,0,none⟩=some (.int .i64 x.time)∧w1.cell? ⟨w.heap.size + 1,1,none⟩=some (.int .i64 x.rep)∧w1.cell? ⟨w.heap.size,2,none⟩=some (.slice (some ⟨b1,o1,none⟩) n cw)∧w1.cell? ⟨b1,o1 + j * 6,none⟩=some (.int .i64 q.time)∧w1.cell? ⟨b1,o1 + j * 6 + 1,none⟩=some (.int .i64 q.rep):=⟨c0,c1,d2,r0,r1⟩
     by_cases hcl:c=1
     · subst hcl
       obtain ⟨b,hb⟩:∃ b,wiF (x.time,x.rep) f h=b:=⟨_,rfl⟩
       have HWI:=Lib.hid hb
       have HR:Hid (e=if b=true then 0 else 6):=Lib.hid (by
         rw [←HE.out]
         cases b with
         | true=>rw [bwE_fine (p:=some q) HEW.out HC.out hb];rfl
         | false=>rw [bwE_state (p:=some q) HEW.out HC.out hb];rfl)
       clear hb hc3
       go_wp2
       go_region_held3 (fun w'=>w'.cell? ⟨w.heap.size + 1,0,none⟩=some (.int .i64 x.time)∧w'.cell? ⟨w.heap.size + 1,1,none⟩=some (.int .i64 x.rep)∧w'.cell? ⟨w.heap.size,2,none⟩=some (.slice (some ⟨b1,o1,none⟩) n cw)∧w'.cell? ⟨b1,o1 + j * 6,none⟩=some (.int .i64 q.time)∧w'.cell? ⟨b1,o1 + j * 6 + 1,none⟩=some (.int .i64 q.rep)) (first | exact k1 | exact k2 | fail) (first | (go_at_call 146;((with_reducible refine (idcmp_as x.time x.rep q.time q.rep 1 _ HC.out).mono ?_);rintro r w2 ⟨rfl,hb2⟩;have HB2:Hid (Below w1.heap.size w1 w2):=Lib.hid (undrew3 hb2);have k2:w2.cell? ⟨w.heap.size + 1,0,none⟩=some (.int .i64 x.time)∧w2.cell? ⟨w.heap.size + 1,1,none⟩=some (.int .i64 x.rep)∧w2.cell? ⟨w.heap.size,2,none⟩=some (.slice (some ⟨b1,o1,none⟩) n cw)∧w2.cell? ⟨b1,o1 + j * 6,none⟩=some (.int .i64 q.time)∧w2.cell? ⟨b1,o1 + j * 6 + 1,none⟩=some (.int .i64 q.rep):=⟨(HB2.out.cell HZ1.out).trans c0,(HB2.out.cell HZ1.out).trans c1,(HB2.out.cell (Nat.lt_of_succ_lt HZ1.out)).trans d2,(HB2.out.cell hb1').trans r0,(HB2.out.cell hb1').trans r1⟩;clear hb2)) | fail)
       obtain ⟨e0,e1,e2,e3,e4⟩:=k2
       have g0:=(HB2.out.cell (p:=⟨w.heap.size,0,none⟩) (Nat.lt_of_succ_lt HZ1.out)).trans d0
       have g1:=(HB2.out.cell (p:=⟨w.heap.size,1,none⟩) (Nat.lt_of_succ_lt HZ1.out)).trans d1
       go_wp2_with fail
       have HB3:Hid (Below w.heap.size w w2):=HB1.out.trans (HB2.out.mono HB1.out.size)
       refine (within_as x.time x.rep vf vh f h b _ (HF.out.below HB3.out) (HH.out.below HB3.out) HLF.out HLH.out HWI.out).mono ?_
       rintro r w3 ⟨rfl,hb3⟩
       have HB4:Hid (Below w.heap.size w w3):=HB3.out.trans (hb3.mono HB3.out.size)
       clear hb3 k1 e0 e1 e2 e3 e4 g0 g1 c0 c1 c2 c3 c4 c5 d0 d1 d2
       cases b with
       | true =>
         go_wp2
         go_ret
         exact ⟨by rw [HR.out];rfl,HB4.out⟩
       | false =>
         go_wp2
         go_ret
         exact ⟨by rw [HR.out];rfl,HB4.out⟩
     · have HR:Hid (e=10):=Lib.hid (by rw [←HE.out,bwE_order (p:=some q) HEW.out (fun hl=>hcl (HC.out.symm.trans hl))])
       have y1:c≤0:=by omega
       have y2:decide (c≤0)=true:=by simp;omega
       clear hc3 hcl
       go_wp2
       go_region_held3 (fun w'=>w'.cell? ⟨w.heap.size + 1,0,none⟩=some (.int .i64 x.time)∧w'.cell? ⟨w.heap.size + 1,1,none⟩=some (.int .i64 x.rep)∧w'.cell? ⟨w.heap.size,2,none⟩=some (.slice (some ⟨b1,o1,none⟩) n cw)∧w'.cell? ⟨b1,o1 + j * 6,none⟩=some (.int .i64 q.time)∧w'.cell? ⟨b1,o1 + j * 6 + 1,none⟩=some (.int .i64 q.rep)) (first | exact k1 | exact k2 | fail) (first | (go_at_call 146;((with_reducible refine (idcmp_as x.time x.rep q.time q.rep c _ HC.out).mono ?_);rintro r w2 ⟨rfl,hb2⟩;have HB2:Hid (Below w1.heap.size w1 w2):=Lib.hid (undrew3 hb2);have k2:w2.cell? ⟨w.heap.size + 1,0,none⟩=some (.int .i64 x.time)∧w2.cell? ⟨w.heap.size + 1,1,none⟩=some (.int .i64 x.rep)∧w2.cell? ⟨w.heap.size,2,none⟩=some (.slice (some ⟨b1,o1,none⟩) n cw)∧w2.cell? ⟨b1,o1 + j * 6,none⟩=some (.int .i64 q.time)∧w2.cell? ⟨b1,o1 + j * 6 + 1,none⟩=some (.int .i64 q.rep):=⟨(HB2.out.cell HZ1.out).trans c0,(HB2.out.cell HZ1.out).trans c1,(HB2.out.cell (Nat.lt_of_succ_lt HZ1.out)).trans d2,(HB2.out.cell hb1').trans r0,(HB2.out.cell hb1').trans r1⟩;clear hb2)) | fail)
       go_wp2
       go_ret
       exact ⟨by rw [HR.out];rfl,HB1.out.trans (HB2.out.mono HB1.out.size)⟩
 · have HR:Hid (e=ew):=Lib.hid (by rw [←HE.out,bwE_w HEW.out h0])
   rw [errV_no h0]
   go_wp2_with fail
   refine (tell_err _ (ew:Int) _ (HG.out.below HB1.out) (.inl rfl)).mono ?_
   rintro r w2 ⟨rfl,hb2⟩
   have HB2:Hid (Below w.heap.size w w2):=HB1.out.trans (hb2.mono HB1.out.size)
   clear hb2
   go_wp2
   go_ret
   exact ⟨by rw [HR.out];rfl,HB2.out⟩
end Go.Proofs.YtjkbmfpomgcblaaGreatDoor
namespace Go.Proofs.YtjkbmfpomgcblaaGreatDoor
open Go.RowKit Go.Maps
theorem keyedK:Keyed Tryz.prog 3:=int_keyed Tryz.underlying3
theorem zeroS (w:World):(zeroValue 9).run Tryz.prog w=.ok (.string ⟨#[]⟩) w:=by kernel_rfl
def cntT (D:DataW Unit):Nat:=(if has D (.int .i64 1) then 1 else 0) + (if has D (.int .i64 2) then 1 else 0) + (if has D (.int .i64 3) then 1 else 0) + (if has D (.int .i64 4) then 1 else 0)
def JT (b:Nat) (w:World):Prop:=∃ (D:DataW Unit) (n:Nat),w.ownsMap Tryz.prog 3 (plainElem Tryz.prog 9) b n D∧n≤4∧Tidy D∧n=cntT D
def RT (b:Nat) (w:World) (k:Int) (s:ByteArray):Prop:=∃ (D:DataW Unit) (n:Nat),w.ownsMap Tryz.prog 3 (plainElem Tryz.prog 9) b n D∧D.atKey (.int .i64 k) (.lit (.string []))=.lit (.string s.data.toList)
theorem own_size {w:World} {b n:Nat} {D:DataW Unit} (h:w.ownsMap Tryz.prog 3 (plainElem Tryz.prog 9) b n D):w.ownsMap Tryz.prog 3 (plainElem Tryz.prog 9) b (Maps.size D) D:=by
 obtain ⟨es,clock,h1,h2,h3,rfl⟩:=h
 refine ⟨es,clock,h1,h2,?_,rfl⟩
 rw [size_eq,length_read];exact Nat.le_refl _
theorem own_same {w:World} {b n m:Nat} {D D':DataW Unit} (h:w.ownsMap Tryz.prog 3 (plainElem Tryz.prog 9) b n D) (h':w.ownsMap Tryz.prog 3 (plainElem Tryz.prog 9) b m D'):D=D':=by
 obtain ⟨es,clock,h1,_,_,rfl⟩:=h
 obtain ⟨es',clock',h1',_,_,rfl⟩:=h'
 rw [h1] at h1'
 simp only [Option.some.injEq,Obj.map.injEq] at h1'
 rw [h1'.1]
theorem JT.made (w:World):JT w.heap.size (w.alloc (.map #[] 0)):=⟨_,0,World.ownsMap_made _ _ _ _,by decide,tidy_empty,rfl⟩
theorem JT.below {b:Nat} {w w':World} (h:JT b w) (hb:Below w.heap.size w w'):JT b w':=by
 obtain ⟨D,n,h1,h2⟩:=h
 exact ⟨D,n,h1.kept (row:=none) ⟨hb.os,hb.tape,hb.output,hb.size,fun k hk _=>hb.block k hk⟩ (by simp),h2⟩
theorem RT.below {b:Nat} {w w':World} {k:Int} {s:ByteArray} (h:RT b w k s) (hb:Below w.heap.size w w'):RT b w' k s:=by
 obtain ⟨D,n,h1,h2⟩:=h
 exact ⟨D,n,h1.kept (row:=none) ⟨hb.os,hb.tape,hb.output,hb.size,fun k hk _=>hb.block k hk⟩ (by simp),h2⟩
theorem cnt_le (D:DataW Unit):cntT D≤4:=by unfold cntT;split <;> split <;> split <;> split <;> decide
theorem cnt_put {D:DataW Unit} (h:Tidy D) {k:Int} (hk:k=1∨k=2∨k=3∨k=4) (d:DataW Unit):cntT (D.put (.int .i64 k) d)=if has D (.int .i64 k) then cntT D else cntT D + 1:=by
 have hs:∀ k:Int,has (D.put (.int .i64 k) d) (.int .i64 k)=true:=fun k=>has_put_same h.isMap (keyN k) d
 have ho:∀ j k:Int,j≠k→has (D.put (.int .i64 k) d) (.int .i64 j)=has D (.int .i64 j):=fun j k hne=>has_put_other (by simp;exact hne) d
 unfold cntT
 rcases hk with rfl | rfl | rfl | rfl
 · rw [hs,ho 2 1 (by decide),ho 3 1 (by decide),ho 4 1 (by decide)]
   cases has D (.int .i64 1) <;> simp <;> omega
 · rw [hs,ho 1 2 (by decide),ho 3 2 (by decide),ho 4 2 (by decide)]
   cases has D (.int .i64 2) <;> simp <;> omega
 · rw [hs,ho 1 3 (by decide),ho 2 3 (by decide),ho 4 3 (by decide)]
   cases has D (.int .i64 3) <;> simp <;> omega
 · rw [hs,ho 1 4 (by decide),ho 2 4 (by decide),ho 3 4 (by decide)]
   cases has D (.int .i64 4) <;> simp <;> omega
theorem put_all {b:Nat} {w:World} (h:JT b w) {k:Int} (hk:k=1∨k=2∨k=3∨k=4) {s:ByteArray} (hs:s.size≤maxLen) :
   ∃ w',(Instr.mapUpdate 143 (.map (some b)) (.int .i64 k) (.string s)).run Tryz.prog w=.ok () w'∧JT b w'∧RT b w' k s∧(∀ j t,j≠k→RT b w j t→RT b w' j t)∧w.grownBy w' (some b):=by
 obtain ⟨D,n,h1,h2,h3,h4⟩:=h
 have hkb : -9223372036854775808≤k∧k≤9223372036854775807:=by omega
 obtain ⟨w',hrun,r1,r2⟩:=World.ownsMap.update h1 keyedK Tryz.underlying143 (by unfold maxLen;omega) (key:=.int .i64 k) (keyOf_int_mk Tryz.underlying3 (WalkArith.wf_i64 hkb)) (plainElem_string Tryz.underlying9 hs)
 have ht:=h3.put (keyN k) (.lit (.string s.data.toList))
 have hc:=cnt_put h3 hk (.lit (.string s.data.toList))
 refine ⟨w',hrun,⟨_,cntT (D.put (.int .i64 k) (.lit (.string s.data.toList))),?_,cnt_le _,ht,rfl⟩,⟨_,_,r1,atKey_put_same h3.isMap (keyN k) _ _⟩,?_,r2⟩
 · by_cases hh:has D (.int .i64 k)=true
   · have hsz:=size_put h3 (k:=.int .i64 k) (.lit (.string s.data.toList))
     have hDn:=World.ownsMap.size_le h1
     have h5:=own_size r1
     rw [hsz,if_pos hh] at h5
     rw [hc,if_pos hh]
     exact h5.mono (by omega)
   · rw [hc,if_neg hh,←h4]
     exact r1
 · rintro j t hne ⟨D',n',q1,q2⟩
   obtain rfl:=own_same h1 q1
   exact ⟨_,_,r1,by rw [atKey_put_other (by simp;exact hne)];exact q2⟩
theorem look_all {b:Nat} {w:World} {k:Int} {s:ByteArray} (h:RT b w k s) (hk : -9223372036854775808≤k∧k≤9223372036854775807) :
   (Instr.lookup 143 (.map (some b)) (.int .i64 k) false).run Tryz.prog w=.ok (.string s) w:=by
 obtain ⟨D,n,hown,hat⟩:=h
 obtain ⟨v,ps,hrun,hv⟩:=World.ownsMap.lookup hown keyedK Tryz.underlying143 (zeroS w) (plainElem_string Tryz.underlying9 (s:=⟨#[]⟩) (by decide)) (key:=.int .i64 k) (keyOf_int_mk Tryz.underlying3 (WalkArith.wf_i64 hk))
 have e0:(⟨#[]⟩:ByteArray).data.toList=[]:=rfl
 rw [e0,hat] at hv
 obtain ⟨s',rfl,hs'⟩:=plainElem_str_inv Tryz.underlying9 hv
 obtain rfl:s=s':=by
   simp only [Prod.mk.injEq,DataW.lit.injEq,Lit.string.injEq] at hs'
   exact bs_ext hs'.1
 exact hrun
theorem rvary_int (n:Int) (w:World) (h0:0≤n) (h1:n≤18446744073709551615) :
   Calls Tryz.prog 63 #[.int .u64 n] w fun e w'=>e=.returned (.string ⟨(putL n.toNat).toArray⟩)∧Below w.heap.size w w':=by
 obtain ⟨m,rfl⟩:=Int.eq_ofNat_of_zero_le h0
 rw [Int.toNat_natCast]
 exact rvary_any m w (by omega)
theorem tail_at {T R K:Int} {key val:ByteArray} {N:Int} (h:wriE T R K key val N=0) :
   (K=1∧tailB K val N=spanB val)∨(K=2∧tailB K val N=⟨#[]⟩)∨(K=3∧tailB K val N=⟨(putL (zigN N).toNat).toArray⟩)∨(K=4∧tailB K val N=⟨(putL (max 0 N).toNat).toArray⟩ ++ spanB val):=by
 obtain ⟨g1,_,_,_,_,g6⟩:=wriE_good h
 unfold tailB
 have hc:K=1∨K=2∨K=3∨K=4:=by omega
 rcases hc with rfl | rfl | rfl | rfl
 · exact .inl ⟨rfl,bs_ext (by rw [app_data];rfl)⟩
 · exact .inr (.inl ⟨rfl,bs_ext (by rw [app_data];rfl)⟩)
 · refine .inr (.inr (.inl ⟨rfl,bs_ext ?_⟩))
   rw [app_data]
   unfold numB valB
   rw [if_pos rfl,if_neg (by decide)]
   exact List.append_nil _
 · refine .inr (.inr (.inr ⟨rfl,?_⟩))
   have h0:0≤N:=by
     unfold fitsN at g6
     rw [if_neg (by decide),if_pos rfl] at g6
     simp at g6;exact g6.1
   unfold numB valB
   rw [if_neg (by decide),if_pos rfl,if_pos (by decide),Int.max_eq_right h0]
theorem tail_one {b:Nat} {W:World} {K:Int} {t S P3 Q:ByteArray} (h1:RT b W 1 S) (h2:RT b W 2 ⟨#[]⟩) (h3:RT b W 3 P3) (h4:RT b W 4 Q)
   (hc:(K=1∧t=S)∨(K=2∧t=⟨#[]⟩)∨(K=3∧t=P3)∨(K=4∧t=Q)):RT b W K t:=by
 rcases hc with ⟨rfl,rfl⟩ | ⟨rfl,rfl⟩ | ⟨rfl,rfl⟩ | ⟨rfl,rfl⟩
 · exact h1
 · exact h2
 · exact h3
 · exact h4
def textR (r:ByteArray×Nat):Value:=.tuple #[.string r.1,.int .i64 (r.2:Nat)]
end Go.Proofs.YtjkbmfpomgcblaaGreatDoor
