import Derived.Test.YtddbpnplbcjpgaaGreatDoorLp20
import Derived.Test.YtddbpnplbcjpgaaGreatDoorLp14
namespace Go.Proofs.YtddbpnplbcjpgaaGreatDoor
open Go.RowKit
theorem rwright_as (x:Wr) (e:Nat) (w:World) (hk:x.key.size≤140737488351232) (hv:x.value.size≤140737488351232) (he:wE x=e) :
   Calls Tryz.prog 24 #[.agg #[.int .i64 x.time,.int .i64 x.rep,.int .i64 x.kind,.string x.key,.string x.value,.int .i64 x.n]] w fun r w'=>r=.returned (.int .i64 (e:Nat))∧Below w.heap.size w w':=by
 subst he;exact rwright_any x.time x.rep x.kind x.key x.value x.n w hk hv
theorem rcov_as (va vb:Value) (a b:List Ent) (x:Bool) (w:World) (ha:IsEnts w va a) (hb:IsEnts w vb b) (hla:a.length≤9223372036854775807) (hlb:b.length≤9223372036854775807) (hx:covB a b=x) :
   Calls Tryz.prog 32 #[va,vb] w fun r w'=>r=.returned (.bool x)∧Below w.heap.size w w':=by
 subst hx;exact rcov_any va vb a b w ha hb hla hlb
def twoAt (w:World) (B:Nat) (a b:Int):Prop :=
 w.cell? ⟨B,0,none⟩=some (.int .i64 a)∧w.cell? ⟨B,1,none⟩=some (.int .i64 b)∧w.frozen? ⟨B,0,none⟩=false∧w.frozen? ⟨B,1,none⟩=false
theorem twoAt.below {w w':World} {B:Nat} {a b:Int} {m:Nat} (h:twoAt w B a b) (hb:Below m w w') (hm:B < m):twoAt w' B a b :=
 ⟨(hb.cell hm).trans h.1,(hb.cell hm).trans h.2.1,(hb.frozen hm).trans h.2.2.1,(hb.frozen hm).trans h.2.2.2⟩
theorem twoAt_new (w:World) (a b:Int) (t:TypeId):twoAt (w.alloc (.cells #[.int .i64 a,.int .i64 b] t)) w.heap.size a b:=by
 unfold twoAt;simp
theorem twoAt.set {w:World} {B:Nat} {a b:Int} (h:twoAt w B a b) (c d:Int):twoAt ((w.setCell ⟨B,0,none⟩ (.int .i64 c)).setCell ⟨B,1,none⟩ (.int .i64 d)) B c d:=by
 obtain ⟨h0,h1,h2,h3⟩:=h
 refine ⟨?_,?_,?_,?_⟩
 · rw [World.cell?_setCell_other _ _ _ _ (by simp)];exact World.cell?_setCell_same _ _ _ h0
 · exact World.cell?_setCell_same _ _ _ ((World.cell?_setCell_other _ _ _ _ (by simp)).trans h1)
 · rw [World.frozen?_setCell,World.frozen?_setCell];exact h2
 · rw [World.frozen?_setCell,World.frozen?_setCell];exact h3
def lastI (p:Option Wr):Int×Int:=match p with | none=>(0,0) | some q=>(q.time,q.rep)
set_option maxRecDepth 100000 in
set_option maxHeartbeats 8000000 in
theorem rbright_any (vf vh vw:Value) (f h:List Ent) (l:List Wr) (w:World) (hf:IsEnts w vf f) (hh:IsEnts w vh h) (hv:IsWrs w vw l) (hlf:f.length≤9223372036854775807) (hlh:h.length≤9223372036854775807) (hok:∀ t∈l,WrOk t) :
   Calls Tryz.prog 30 #[.agg #[vf,vh,vw]] w fun r w'=>r=.returned (faultV (batF f h l))∧Below w.heap.size w w':=by
 have HF:=Lib.hid hf
 have HH:=Lib.hid hh
 have HV:=Lib.hid hv
 have HLF:=Lib.hid hlf
 have HLH:=Lib.hid hlh
 have HOK:=Lib.hid hok
 obtain ⟨af,cf,rfl,_⟩:=hf.form
 obtain ⟨ah,ch,rfl,_⟩:=hh.form
 obtain ⟨aw,cw,rfl,fw⟩:=hv.form
 have FW:=Lib.hid fw
 obtain ⟨nf,hnf⟩:∃ n,n=f.length:=⟨_,rfl⟩
 obtain ⟨nh,hnh⟩:∃ n,n=h.length:=⟨_,rfl⟩
 obtain ⟨n,hn⟩:∃ n,n=l.length:=⟨_,rfl⟩
 rw [←hnf] at HF ⊢
 rw [←hnh] at HH ⊢
 rw [←hn] at HV ⊢
 have HN:=Lib.hid hn
 obtain ⟨ef,pf,hrf⟩:∃ e pl,vrightF f=(e,pl):=⟨_,_,rfl⟩
 obtain ⟨eh,ph,hrh⟩:∃ e pl,vrightF h=(e,pl):=⟨_,_,rfl⟩
 have HRF:=Lib.hid hrf
 have HRH:=Lib.hid hrh
 have hA0:=((batAt_new w (.slice af nf cf) (.slice ah nh ch) (.slice aw n cw) 30).below ((Below.refl _ _).alloc (Nat.le_refl _) (.cells #[.int .i64 0,.int .i64 0] 49)) (by simp))
 have hT0:=twoAt_new (w.alloc (.cells #[.slice af nf cf,.slice ah nh ch,.slice aw n cw] 30)) 0 0 49
 rw [World.size_alloc] at hT0
 have HA:=Lib.hid hA0
 have HT:=Lib.hid hT0
 have HW0:Hid (Below w.heap.size w ((w.alloc (.cells #[.slice af nf cf,.slice ah nh ch,.slice aw n cw] 30)).alloc (.cells #[.int .i64 0,.int .i64 0] 49))):=Lib.hid (((Below.refl _ _).alloc (Nat.le_refl _) _).alloc (by simp) _)
 have HZ:Hid (((w.alloc (.cells #[.slice af nf cf,.slice ah nh ch,.slice aw n cw] 30)).alloc (.cells #[.int .i64 0,.int .i64 0] 49)).heap.size=w.heap.size + 1 + 1):=Lib.hid (by simp)
 clear hf hh hv hlf hlh hnf hnh hn hok fw hrf hrh hA0 hT0
 go_enter Tryz.func30,Tryz.ntmps30
 go_wp2_with fail
 generalize (w.alloc (.cells #[.slice af nf cf,.slice ah nh ch,.slice aw n cw] 30)).alloc (.cells #[.int .i64 0,.int .i64 0] 49)=W at HA HT HW0 HZ ⊢
 have HE:Hid (∀ w',Below W.heap.size W w'→Below w.heap.size w w'):=Lib.hid (fun w' hx=>HW0.out.trans (hx.mono HW0.out.size))
 have HZA:Hid (w.heap.size < W.heap.size):=Lib.hid (by rw [HZ.out];omega)
 have HZB:Hid (w.heap.size + 1 < W.heap.size):=Lib.hid (by rw [HZ.out];omega)
 refine (rvright_as _ f ef pf _ (HF.out.below HW0.out) HLF.out HRF.out).mono ?_
 rintro r w1 ⟨rfl,hb1⟩
 have HB1:Hid (Below W.heap.size W w1):=Lib.hid hb1
 clear hb1
 go_wp2_with fail
 refine (is_any ef pf _).mono ?_
 rintro r w2 ⟨rfl,hb2⟩
 have k0:w2.cell? ⟨w1.heap.size,0,none⟩=some (.int .i64 (ef:Int)):=(hb2.cell (by simp)).trans (by simp)
 have HB2:Hid (Below W.heap.size W w2):=(HB1.out.alloc HB1.out.size _).trans (hb2.mono (by have:=HB1.out.size;simp;omega))
 clear hb2
 by_cases h1:ef=0
 · subst h1
   clear k0
   obtain ⟨d0,d1,d2⟩:=HA.out.below HB2.out HZA.out
   go_wp2_with fail
   refine (rvright_as _ h eh ph _ (HH.out.below (HE.out _ HB2.out)) HLH.out HRH.out).mono ?_
   rintro r w3 ⟨rfl,hb3⟩
   have HB3:Hid (Below W.heap.size W w3):=HB2.out.trans (hb3.mono HB2.out.size)
   clear hb3 d0 d1 d2
   go_wp2_with fail
   refine (is_any eh ph _).mono ?_
   rintro r w4 ⟨rfl,hb4⟩
   have k0:w4.cell? ⟨w3.heap.size,0,none⟩=some (.int .i64 (eh:Int)):=(hb4.cell (by simp)).trans (by simp)
   have HB4:Hid (Below W.heap.size W w4):=(HB3.out.alloc HB3.out.size _).trans (hb4.mono (by have:=HB3.out.size;simp;omega))
   clear hb4
   by_cases h2:eh=0
   · subst h2
     clear k0
     obtain ⟨c,hc⟩:∃ c,covB h f=c:=⟨_,rfl⟩
     have HC:=Lib.hid hc
     clear hc
     obtain ⟨d0,d1,d2⟩:=HA.out.below HB4.out HZA.out
     go_wp2_with fail
     refine (rcov_as _ _ h f c _ (HH.out.below (HE.out _ HB4.out)) (HF.out.below (HE.out _ HB4.out)) HLH.out HLF.out HC.out).mono ?_
     rintro r w5 ⟨rfl,hb5⟩
     have HB5:Hid (Below W.heap.size W w5):=HB4.out.trans (hb5.mono HB4.out.size)
     clear hb5 d0 d1 d2
     cases c with
     | false =>
       have HBE:Hid (bbE f h=13):=Lib.hid (by unfold bbE;rw [HRF.out,HRH.out,HC.out];rfl)
       have HR:=Lib.hid (faultV_is (batF_bb (ws:=l) HBE.out (by decide)))
       go_wp2_with fail
       refine (baref_any 13 _).mono ?_
       rintro r w6 ⟨rfl,hb6⟩
       have HB6:Hid (Below W.heap.size W w6):=HB5.out.trans (hb6.mono HB5.out.size)
       obtain ⟨x0,x1,y0,y1⟩:=HT.out.below HB6.out HZB.out
       clear hb6
       go_wp2
       refine bodyPost_ret (v:=.agg #[.int .i64 13,.int .i64 (-1)]) (by simp [results,Tryz.results30,go_sem,x0,x1]) rfl ?_
       rw [HR.out]
       exact ⟨rfl,((HE.out _ HB6.out).setCell (Nat.le_succ _) _).setCell (Nat.le_succ _) _⟩
     | true =>
       have HBE:Hid (bbE f h=0):=Lib.hid (by unfold bbE;rw [HRF.out,HRH.out,HC.out];rfl)
       obtain ⟨d0,d1,d2⟩:=HA.out.below HB5.out HZA.out
       by_cases h6:60 < n
       · have HR:=Lib.hid (faultV_is (batF_many HBE.out (show 60 < l.length by rw [←HN.out];exact h6)))
         have h6':(60:Int) < (n:Int):=by omega
         go_wp2_with fail
         refine (baref_any 4 _).mono ?_
         rintro r w6 ⟨rfl,hb6⟩
         have HB6:Hid (Below W.heap.size W w6):=HB5.out.trans (hb6.mono HB5.out.size)
         obtain ⟨x0,x1,y0,y1⟩:=HT.out.below HB6.out HZB.out
         clear hb6 d0 d1 d2
         go_wp2
         refine bodyPost_ret (v:=.agg #[.int .i64 4,.int .i64 (-1)]) (by simp [results,Tryz.results30,go_sem,x0,x1]) rfl ?_
         rw [HR.out]
         exact ⟨rfl,((HE.out _ HB6.out).setCell (Nat.le_succ _) _).setCell (Nat.le_succ _) _⟩
       · have HR:=Lib.hid (batF_rest (ws:=l) HBE.out (show ¬ 60 < l.length by rw [←HN.out];exact h6))
         have h6':¬ (60:Int) < (n:Int):=by omega
         have hn6:n≤60:=by omega
         clear h6
         have hlt5:w.heap.size < w5.heap.size:=Nat.lt_of_lt_of_le HZA.out HB5.out.size
         have hLB:=HB5.out.size
         have HTL:=Lib.hid (twoAt_new w5 0 0 24)
         have HB6:Hid (Below W.heap.size W (w5.alloc (.cells #[.int .i64 0,.int .i64 0] 24))):=Lib.hid (HB5.out.alloc hLB _)
         go_wp2
         clear d0 d1 d2
         obtain ⟨L,hL⟩:∃ L,L=w5.heap.size:=⟨_,rfl⟩
         rw [←hL] at hLB HTL ⊢
         have HLB:=Lib.hid hLB
         have HL0:Hid (L < (w5.alloc (.cells #[.int .i64 0,.int .i64 0] 24)).heap.size):=Lib.hid (by rw [hL];simp)
         clear hL hLB hlt5
         go_loopw [43] (fun i wr=>∃ (k:Nat) (p:Option Wr),k≤n∧i=.int .i64 k∧((k=0∧p=none)∨∃ j q,k=j + 1∧l[j]? = some q∧p=some q)∧bwr f h l 0 none=bwr f h (l.drop k) k p∧twoAt wr L (lastI p).1 (lastI p).2∧L < wr.heap.size∧Below W.heap.size W wr) (fun i _=>n - (intOf i).toNat)
         case atStart=>exact ⟨0,none,by omega,rfl,.inl ⟨rfl,rfl⟩,rfl,HTL.out,HL0.out,HB6.out⟩
         case round =>
           obtain ⟨k,p,hk,rfl,hla,heq,htl,hll,hbel⟩:=hrel
           have HEQ:=Lib.hid heq
           have HLA:=Lib.hid hla
           have HB:=Lib.hid hbel
           have HTW:=Lib.hid htl
           have HLL:=Lib.hid hll
           clear heq hbel hla htl hll
           by_cases hlt:k < n
           · have hkl:k < l.length:=by have:=HN.out;omega
             obtain ⟨t,ht⟩:∃ t,l[k]? = some t:=⟨l[k],List.getElem?_eq_getElem hkl⟩
             obtain ⟨b1,o1,rfl,hb1,p0,p1,p2,p3,p4,p5⟩:=FW.out k t ht
             have hd:l.drop k=t :: l.drop (k + 1):=by
               rw [List.drop_eq_getElem_cons hkl];congr 1
               rw [List.getElem?_eq_getElem hkl] at ht;exact Option.some.inj ht
             have HD:=Lib.hid hd
             have HTT:=Lib.hid ht
             have HO:=Lib.hid (HOK.out t (List.mem_of_getElem? ht))
             obtain ⟨ew,hew⟩:∃ e,wE t=e:=⟨_,rfl⟩
             have HEW:=Lib.hid hew
             have hBw:=HE.out _ HB.out
             have q0:=(hBw.cell (p:=⟨b1,o1 + k * 6,none⟩) hb1).trans p0
             have q1:=(hBw.cell (p:=⟨b1,o1 + k * 6 + 1,none⟩) hb1).trans p1
             have q2:=(hBw.cell (p:=⟨b1,o1 + k * 6 + 2,none⟩) hb1).trans p2
             have q3:=(hBw.cell (p:=⟨b1,o1 + k * 6 + 3,none⟩) hb1).trans p3
             have q4:=(hBw.cell (p:=⟨b1,o1 + k * 6 + 4,none⟩) hb1).trans p4
             have q5:=(hBw.cell (p:=⟨b1,o1 + k * 6 + 5,none⟩) hb1).trans p5
             clear ht hkl hd hew p0 p1 p2 p3 p4 p5 hBw
             go_wp2_with fail
             refine (rwright_as t ew _ HO.out.2.2.1 HO.out.2.2.2 HEW.out).mono ?_
             rintro r w7 ⟨rfl,hb7⟩
             have HB7:Hid (Below W.heap.size W w7):=Lib.hid ((HB.out.alloc HB.out.size _).trans (hb7.mono (by have:=HB.out.size;simp;omega)))
             have HC7:Hid (wrAt w7 wr.heap.size t.time t.rep t.kind t.key t.value t.n):=Lib.hid ((wrAt_new wr t.time t.rep t.kind t.key t.value t.n 26).below hb7 (by simp))
             have HT7:Hid (twoAt w7 L (lastI p).1 (lastI p).2):=Lib.hid ((HTW.out.below ((Below.refl _ _).alloc (Nat.le_refl _) _) HLL.out).below hb7 (by have:=HLL.out;simp;omega))
             have HM7:Hid (wr.heap.size < w7.heap.size):=Lib.hid (by have:=hb7.size;simp at this;exact this)
             have HL7:Hid (L < w7.heap.size):=Lib.hid (Nat.lt_trans HLL.out HM7.out)
             clear hb7 q0 q1 q2 q3 q4 q5
             by_cases h0:ew=0
             · subst h0
               obtain ⟨c0,c1,c2,c3,c4,c5⟩:=HC7.out
               obtain ⟨d0,d1,d2⟩:=HA.out.below HB7.out HZA.out
               rcases HLA.out with ⟨hk0,hp0⟩ | ⟨j,q,hkj,hq,hpq⟩
               · subst hk0 hp0
                 obtain ⟨b,hb⟩:∃ b,wiF (t.time,t.rep) f h=b:=⟨_,rfl⟩
                 have HWI:=Lib.hid hb
                 have HCE:Hid (bwE f h (none) t=if b=true then 0 else 6):=Lib.hid (by
                   cases b with
                   | true=>rw [bwE_fine (p:=none) HEW.out trivial hb];rfl
                   | false=>rw [bwE_state (p:=none) HEW.out trivial hb];rfl)
                 clear hb
                 go_wp2_with fail
                 refine (rwithin_as t.time t.rep _ _ f h _ (HF.out.below (HE.out _ HB7.out)) (HH.out.below (HE.out _ HB7.out)) HLF.out HLH.out b HWI.out).mono ?_
                 rintro r w9 ⟨rfl,hb9⟩
                 have HB9:Hid (Below W.heap.size W w9):=HB7.out.trans (hb9.mono HB7.out.size)
                 have HT9:=Lib.hid (HT7.out.below hb9 HL7.out)
                 have HC9:=Lib.hid (HC7.out.below hb9 HM7.out)
                 have HL9:Hid (L < w9.heap.size):=Lib.hid (Nat.lt_of_lt_of_le HL7.out hb9.size)
                 clear hb9 c0 c1 c2 c3 c4 c5 d0 d1 d2
                 cases b with
                 | false =>
                   have HQ:=Lib.hid (faultV_is (HR.out.trans (HEQ.out.trans ((congrArg (fun z=>bwr f h z 0 _) HD.out).trans (bwr_bad HCE.out (by decide))))))
                   obtain ⟨x0,x1,y0,y1⟩:=HT.out.below HB9.out HZB.out
                   go_wp2
                   refine bodyPost_ret (v:=.agg #[.int .i64 6,.int .i64 0]) (by simp [results,Tryz.results30,go_sem,x0,x1]) rfl ?_
                   rw [HQ.out]
                   exact ⟨rfl,((HE.out _ HB9.out).setCell (Nat.le_succ _) _).setCell (Nat.le_succ _) _⟩
                 | true =>
                   have HN2:Hid (bwr f h l 0 none=bwr f h (l.drop (0 + 1)) (0 + 1) (some t)):=Lib.hid (HEQ.out.trans ((congrArg (fun z=>bwr f h z 0 _) HD.out).trans (bwr_good HCE.out)))
                   obtain ⟨c0,c1,c2,c3,c4,c5⟩:=HC9.out
                   obtain ⟨t0,t1,t2,t3⟩:=HT9.out
                   have hlw:=HLB.out
                   go_wp2
                   go_roundw
                   case rel=>exact ⟨0 + 1,some t,by omega,by go_num,.inr ⟨0,t,rfl,HTT.out,rfl⟩,HN2.out,HT9.out.set t.time t.rep,by simpa using HL9.out,(HB9.out.setCell hlw _).setCell hlw _⟩
                   case measure=>simp [intOf];omega
               · subst hpq
                 obtain ⟨c,hc⟩:∃ c,cI (q.time,q.rep) (t.time,t.rep)=c:=⟨_,rfl⟩
                 have HC:=Lib.hid hc
                 have hc3:c=-1∨c=0∨c=1:=by rw [←hc];exact cI_three _ _ _ _
                 have hk0:(0:Int) < (k:Int):=by omega
                 have z1:0 < k:=by omega
                 have z2:decide (0 < k)=true:=by simp;omega
                 have z3:decide ((0:Int) < (k:Int))=true:=by simp;omega
                 obtain ⟨t0,t1,t2,t3⟩:twoAt w7 L q.time q.rep:=HT7.out
                 clear hc hkj hq
                 by_cases hcl:c=-1
                 · subst hcl
                   have HLT:Hid (late q t):=Lib.hid (late_iff.2 HC.out)
                   obtain ⟨b,hb⟩:∃ b,wiF (t.time,t.rep) f h=b:=⟨_,rfl⟩
                   have HWI:=Lib.hid hb
                   have HCE:Hid (bwE f h (some q) t=if b=true then 0 else 6):=Lib.hid (by
                     cases b with
                     | true=>rw [bwE_fine (p:=some q) HEW.out HLT.out hb];rfl
                     | false=>rw [bwE_state (p:=some q) HEW.out HLT.out hb];rfl)
                   clear hb
                   clear hc3
                   go_wp2_with fail
                   refine (rcmp_as q.time q.rep t.time t.rep (-1) _ HC.out).mono ?_
                   rintro r w8 ⟨rfl,hb8⟩
                   have HB8:Hid (Below W.heap.size W w8):=HB7.out.trans (hb8.mono HB7.out.size)
                   have HT8:=Lib.hid (HT7.out.below hb8 HL7.out)
                   have HC8:=Lib.hid (HC7.out.below hb8 HM7.out)
                   have HL8:Hid (L < w8.heap.size):=Lib.hid (Nat.lt_of_lt_of_le HL7.out hb8.size)
                   have HM8:Hid (wr.heap.size < w8.heap.size):=Lib.hid (Nat.lt_of_lt_of_le HM7.out hb8.size)
                   clear hb8 c0 c1 c2 c3 c4 c5 d0 d1 d2 t0 t1 t2 t3
                   obtain ⟨c0,c1,c2,c3,c4,c5⟩:=HC8.out
                   obtain ⟨d0,d1,d2⟩:=HA.out.below HB8.out HZA.out
                   go_wp2_with fail
                   refine (rwithin_as t.time t.rep _ _ f h _ (HF.out.below (HE.out _ HB8.out)) (HH.out.below (HE.out _ HB8.out)) HLF.out HLH.out b HWI.out).mono ?_
                   rintro r w9 ⟨rfl,hb9⟩
                   have HB9:Hid (Below W.heap.size W w9):=HB8.out.trans (hb9.mono HB8.out.size)
                   have HT9:=Lib.hid (HT8.out.below hb9 HL8.out)
                   have HC9:=Lib.hid (HC8.out.below hb9 HM8.out)
                   have HL9:Hid (L < w9.heap.size):=Lib.hid (Nat.lt_of_lt_of_le HL8.out hb9.size)
                   clear hb9 c0 c1 c2 c3 c4 c5 d0 d1 d2
                   cases b with
                   | false =>
                     have HQ:=Lib.hid (faultV_is (HR.out.trans (HEQ.out.trans ((congrArg (fun z=>bwr f h z k _) HD.out).trans (bwr_bad HCE.out (by decide))))))
                     obtain ⟨x0,x1,y0,y1⟩:=HT.out.below HB9.out HZB.out
                     go_wp2
                     refine bodyPost_ret (v:=.agg #[.int .i64 6,.int .i64 k]) (by simp [results,Tryz.results30,go_sem,x0,x1]) rfl ?_
                     rw [HQ.out]
                     exact ⟨rfl,((HE.out _ HB9.out).setCell (Nat.le_succ _) _).setCell (Nat.le_succ _) _⟩
                   | true =>
                     have HN2:Hid (bwr f h l 0 none=bwr f h (l.drop (k + 1)) (k + 1) (some t)):=Lib.hid (HEQ.out.trans ((congrArg (fun z=>bwr f h z k _) HD.out).trans (bwr_good HCE.out)))
                     obtain ⟨c0,c1,c2,c3,c4,c5⟩:=HC9.out
                     obtain ⟨t0,t1,t2,t3⟩:=HT9.out
                     have hlw:=HLB.out
                     go_wp2
                     go_roundw
                     case rel=>exact ⟨k + 1,some t,by omega,by go_num,.inr ⟨k,t,rfl,HTT.out,rfl⟩,HN2.out,HT9.out.set t.time t.rep,by simpa using HL9.out,(HB9.out.setCell hlw _).setCell hlw _⟩
                     case measure=>simp [intOf];omega
                 · have HCE:Hid (bwE f h (some q) t=10):=Lib.hid (bwE_order (p:=some q) HEW.out (fun hl=>hcl (HC.out.symm.trans (late_iff.1 hl))))
                   have y1:0≤c:=by omega
                   have y2:decide (0≤c)=true:=by simp;omega
                   have HQ:=Lib.hid (faultV_is (HR.out.trans (HEQ.out.trans ((congrArg (fun z=>bwr f h z k _) HD.out).trans (bwr_bad HCE.out (by decide))))))
                   clear hc3 hcl
                   go_wp2_with fail
                   refine (rcmp_as q.time q.rep t.time t.rep c _ HC.out).mono ?_
                   rintro r w8 ⟨rfl,hb8⟩
                   have HB8:Hid (Below W.heap.size W w8):=HB7.out.trans (hb8.mono HB7.out.size)
                   clear hb8 c0 c1 c2 c3 c4 c5 d0 d1 d2 t0 t1 t2 t3
                   obtain ⟨x0,x1,y0,y1⟩:=HT.out.below HB8.out HZB.out
                   go_wp2
                   refine bodyPost_ret (v:=.agg #[.int .i64 10,.int .i64 k]) (by simp [results,Tryz.results30,go_sem,x0,x1]) rfl ?_
                   rw [HQ.out]
                   exact ⟨rfl,((HE.out _ HB8.out).setCell (Nat.le_succ _) _).setCell (Nat.le_succ _) _⟩
             · have HQ:=Lib.hid (faultV_is (HR.out.trans (HEQ.out.trans ((congrArg (fun z=>bwr f h z k _) HD.out).trans (bwr_bad (bwE_w HEW.out h0) h0)))))
               have hne:((ew:Int) != 0)=true:=by simp;omega
               clear h0
               obtain ⟨x0,x1,y0,y1⟩:=HT.out.below HB7.out HZB.out
               go_wp2
               refine bodyPost_ret (v:=.agg #[.int .i64 ew,.int .i64 k]) (by simp [results,Tryz.results30,go_sem,x0,x1]) rfl ?_
               rw [HQ.out]
               exact ⟨rfl,((HE.out _ HB7.out).setCell (Nat.le_succ _) _).setCell (Nat.le_succ _) _⟩
           · have HQ:=Lib.hid (faultV_is (HR.out.trans (show bwr f h l 0 none=(0,-1) by rw [HEQ.out,List.drop_eq_nil_of_le (by have:=HN.out;omega)];rfl)))
             go_wp2_with fail
             refine (good_any _).mono ?_
             rintro r w7 ⟨rfl,hb7⟩
             have HB7:Hid (Below W.heap.size W w7):=HB.out.trans (hb7.mono HB.out.size)
             clear hb7
             obtain ⟨x0,x1,y0,y1⟩:=HT.out.below HB7.out HZB.out
             go_wp2
             refine bodyPost_ret (v:=.agg #[.int .i64 0,.int .i64 (-1)]) (by simp [results,Tryz.results30,go_sem,x0,x1]) rfl ?_
             rw [HQ.out]
             exact ⟨rfl,((HE.out _ HB7.out).setCell (Nat.le_succ _) _).setCell (Nat.le_succ _) _⟩
   · have HBE:Hid (bbE f h=eh):=Lib.hid (by unfold bbE;rw [HRF.out,HRH.out];simp;intro h9;exact absurd h9 h2)
     have HQ:=Lib.hid (faultV_is (batF_bb (ws:=l) HBE.out h2))
     have hne:((eh:Int) == 0)=false:=by simp;exact h2
     clear h2
     rw [hne]
     go_wp2_with fail
     refine (baref_any eh _).mono ?_
     rintro r w7 ⟨rfl,hb7⟩
     have HB7:Hid (Below W.heap.size W w7):=HB4.out.trans (hb7.mono HB4.out.size)
     clear hb7 k0
     obtain ⟨x0,x1,y0,y1⟩:=HT.out.below HB7.out HZB.out
     go_wp2
     refine bodyPost_ret (v:=.agg #[.int .i64 eh,.int .i64 (-1)]) (by simp [results,Tryz.results30,go_sem,x0,x1]) rfl ?_
     rw [HQ.out]
     exact ⟨rfl,((HE.out _ HB7.out).setCell (Nat.le_succ _) _).setCell (Nat.le_succ _) _⟩
 · have HBE:Hid (bbE f h=ef):=Lib.hid (by unfold bbE;rw [HRF.out];simp;intro h9;exact absurd h9 h1)
   have HQ:=Lib.hid (faultV_is (batF_bb (ws:=l) HBE.out h1))
   have hne:((ef:Int) == 0)=false:=by simp;exact h1
   clear h1
   rw [hne]
   go_wp2_with fail
   refine (baref_any ef _).mono ?_
   rintro r w7 ⟨rfl,hb7⟩
   have HB7:Hid (Below W.heap.size W w7):=HB2.out.trans (hb7.mono HB2.out.size)
   clear hb7 k0
   obtain ⟨x0,x1,y0,y1⟩:=HT.out.below HB7.out HZB.out
   go_wp2
   refine bodyPost_ret (v:=.agg #[.int .i64 ef,.int .i64 (-1)]) (by simp [results,Tryz.results30,go_sem,x0,x1]) rfl ?_
   rw [HQ.out]
   exact ⟨rfl,((HE.out _ HB7.out).setCell (Nat.le_succ _) _).setCell (Nat.le_succ _) _⟩
end Go.Proofs.YtddbpnplbcjpgaaGreatDoor
