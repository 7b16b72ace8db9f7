import Derived.Test.YtgfinhehgfbdgaaGreatDoorKa14
import Derived.Test.YtgfinhehgfbdgaaGreatDoorKa04
import Derived.Test.YtgfinhehgfbdgaaGreatDoorKa11
import Derived.Test.YtgfinhehgfbdgaaGreatDoorKa15
import Derived.Test.YtgfinhehgfbdgaaGreatDoorKa29
namespace Go.Proofs.YtgfinhehgfbdgaaGreatDoor
open Go.RowKit
theorem errV_ok:errV 0=.nilIface:=rfl
theorem errV_no {e:Nat} (h:e≠0):errV e=.iface 27 (.int .i64 e):=by unfold errV;rw [if_neg h]
def batAt (w:World) (B:Nat) (vf vh vw:Value):Prop :=
 w.cell? ⟨B,0,none⟩=some vf∧w.cell? ⟨B,1,none⟩=some vh∧w.cell? ⟨B,2,none⟩=some vw
theorem batAt.below {w w':World} {B:Nat} {vf vh vw:Value} {m:Nat} (h:batAt w B vf vh vw) (hb:Below m w w') (hm:B < m):batAt w' B vf vh vw :=
 ⟨(hb.cell hm).trans h.1,(hb.cell hm).trans h.2.1,(hb.cell hm).trans h.2.2⟩
theorem batAt_new (w:World) (vf vh vw:Value) (t:TypeId):batAt (w.alloc (.cells #[vf,vh,vw] t)) w.heap.size vf vh vw:=by
 unfold batAt;simp
theorem wright_as (x:Wr) (e:Nat) (w:World) (hk:x.key.size≤140737488351232) (hv:x.value.size≤140737488351232) (he:wE x=e) :
   Calls Tryz.prog 103 #[.agg #[.int .i64 x.time,.int .i64 x.rep,.int .i64 x.kind,.string x.key,.string x.value,.int .i64 x.n]] w fun r w'=>r=.returned (errV e)∧Below w.heap.size w w':=by
 subst he;exact wright_any x.time x.rep x.kind x.key x.value x.n w hk hv
set_option maxRecDepth 100000 in
set_option maxHeartbeats 4000000 in
theorem bwrong_any (vf vh vw:Value) (f h:List Ent) (l:List Wr) (k:Nat) (x:Wr) (p:Option Wr) (e:Nat) (w:World) (hf:IsEnts w vf f) (hh:IsEnts w vh h) (hv:IsWrs w vw l) (hlf:f.length≤9223372036854775807) (hlh:h.length≤9223372036854775807) (hl:l.length≤60)
   (hx:l[k]? = some x) (hp:(k=0∧p=none)∨∃ j q,k=j + 1∧l[j]? = some q∧p=some q) (hok:∀ t∈l,WrOk t) (hg:errT w) (he:bwE f h p x=e) :
   Calls Tryz.prog 59 #[.agg #[vf,vh,vw],.int .i64 (k:Int)] w fun r w'=>r=.returned (.int .i64 (e:Nat))∧Below w.heap.size w w':=by
 have HF:=Lib.hid hf
 have HH:=Lib.hid hh
 have HG:=Lib.hid hg
 have HLF:=Lib.hid hlf
 have HLH:=Lib.hid hlh
 obtain ⟨aw,cw,rfl,fw⟩:=hv.form
 have FW:=Lib.hid fw
 obtain ⟨n,hn⟩:∃ n,n=l.length:=⟨_,rfl⟩
 rw [←hn] at hl ⊢
 have hkn:k < n:=by rw [hn];exact (List.getElem?_eq_some_iff.1 hx).1
 obtain ⟨b1,o1,rfl,hb1,p0,p1,p2,p3,p4,p5⟩:=fw k x hx
 have HOK:=Lib.hid (hok x (List.mem_of_getElem? hx))
 obtain ⟨ew,hew⟩:∃ ew,wE x=ew:=⟨_,rfl⟩
 have HEW:=Lib.hid hew
 have HE:=Lib.hid he
 have HP:=Lib.hid hp
 clear hf hh hg hlf hlh hv fw hn hx hp hok he hew
 go_enter Tryz.func59,Tryz.ntmps59
 go_wp2_with fail
 refine (wright_as x ew _ HOK.out.2.2.1 HOK.out.2.2.2 HEW.out).mono ?_
 rintro r w1 ⟨rfl,hb2⟩
 have hz1:w.heap.size + 1 < w1.heap.size:=by have:=hb2.size;simp at this;omega
 have HZ1:=Lib.hid hz1
 have HBA1:Hid (batAt w1 w.heap.size vf vh (.slice (some ⟨b1,o1,none⟩) n cw)):=Lib.hid (((batAt_new w vf vh (.slice (some ⟨b1,o1,none⟩) n cw) 25).below ((Below.refl _ _).alloc (Nat.le_refl _) _) (by simp)).below hb2 (by simp;omega))
 have HWA1:Hid (wrAt w1 (w.heap.size + 1) x.time x.rep x.kind x.key x.value x.n):=Lib.hid ((by simpa using wrAt_new (w.alloc (.cells #[vf,vh,.slice (some ⟨b1,o1,none⟩) n cw] 25)) x.time x.rep x.kind x.key x.value x.n 61:wrAt _ (w.heap.size + 1) x.time x.rep x.kind x.key x.value x.n).below hb2 (by simp))
 have HB1:Hid (Below w.heap.size w w1):=Lib.hid ((((Below.refl _ _).alloc (Nat.le_refl _) _).alloc (by simp) _).trans (hb2.mono (by simp;omega)))
 clear hb2 p0 p1 p2 p3 p4 p5 hz1
 by_cases h0:ew=0
 · subst h0
   rw [errV_ok]
   have hla:lateO p x∨¬ lateO p x:=Classical.em _
   rcases HP.out with ⟨hk0,hp0⟩ | ⟨j,q,hkj,hq,hpq⟩
   · subst hk0 hp0
     obtain ⟨b,hb⟩:∃ b,wiF (x.time,x.rep) f h=b:=⟨_,rfl⟩
     have HWI:=Lib.hid hb
     have HR:Hid (e=if b=true then 0 else 6):=Lib.hid (by
       rw [←HE.out]
       cases b with
       | true=>rw [bwE_fine (p:=none) HEW.out trivial hb];rfl
       | false=>rw [bwE_state (p:=none) HEW.out trivial hb];rfl)
     clear hb hla
     obtain ⟨c0,c1,c2,c3,c4,c5⟩:=HWA1.out
     obtain ⟨d0,d1,d2⟩:=HBA1.out
     go_wp2
     go_quiet (fail)
     go_wp2_with fail
     refine (within_as x.time x.rep vf vh f h b _ (HF.out.below (below_drewN HB1.out _)) (HH.out.below (below_drewN HB1.out _)) HLF.out HLH.out HWI.out).mono ?_
     rintro r w2 ⟨rfl,hb2⟩
     have HB2:Hid (Below w.heap.size w w2):=(below_drewN HB1.out _).trans (hb2.mono HB1.out.size)
     clear hb2 c0 c1 c2 c3 c4 c5 d0 d1 d2
     cases b with
     | true =>
       go_wp2
       go_ret
       exact ⟨by rw [HR.out];rfl,HB2.out⟩
     | false =>
       go_wp2
       go_ret
       exact ⟨by rw [HR.out];rfl,HB2.out⟩
   · obtain ⟨b2,o2,hbo,_,q0,q1,_⟩:=FW.out j q hq
     simp only [Option.some.injEq,Addr.mk.injEq,and_true] at hbo
     obtain ⟨rfl,rfl⟩:=hbo
     have r0:=(HB1.out.cell (p:=⟨b1,o1 + j * 6,none⟩) hb1).trans q0
     have r1:=(HB1.out.cell (p:=⟨b1,o1 + j * 6 + 1,none⟩) hb1).trans q1
     have HK:=Lib.hid hkj
     have hj1:(k:Int) - 1=(j:Int):=by omega
     have hj2:IntKind.i64.wrap ((k:Int) - 1)=(j:Int):=by rw [hj1];exact IntWalk.i64_in _ (by omega)
     have hj3:IntKind.i64.wrap (j:Int)=(j:Int):=IntWalk.i64_in _ (by omega)
     have hk0:(0:Int) < (k:Int):=by omega
     have z1:0 < k:=by omega
     have z2:decide (0 < k)=true:=by simp;omega
     have z3:decide ((0:Int) < (k:Int))=true:=by simp;omega
     have hjn:(j:Int) < (n:Int):=by omega
     have hjn':j < n:=by omega
     have hj0:(0:Int)≤(j:Int):=by omega
     obtain ⟨c,hc⟩:∃ c,cI (x.time,x.rep) (q.time,q.rep)=c:=⟨_,rfl⟩
     have HC:=Lib.hid hc
     have hc3:c=-1∨c=0∨c=1:=by rw [←hc];exact cI_three _ _ _ _
     obtain ⟨c0,c1,c2,c3,c4,c5⟩:=HWA1.out
     obtain ⟨d0,d1,d2⟩:=HBA1.out
     subst hpq
     clear q0 q1 hq hkj hc hla
     have hb1':b1 < w1.heap.size:=Nat.lt_of_lt_of_le hb1 HB1.out.size
     have k1:w1.cell? ⟨w.heap.size + 1,0,none⟩=some (.int .i64 x.time)∧w1.cell? ⟨w.heap.size + 1,1,none⟩=some (.int .i64 x.rep)∧w1.cell? ⟨w.heap.size,2,none⟩=some (.slice (some ⟨b1,o1,none⟩) n cw)∧w1.cell? ⟨b1,o1 + j * 6,none⟩=some (.int .i64 q.time)∧w1.cell? ⟨b1,o1 + j * 6 + 1,none⟩=some (.int .i64 q.rep):=⟨c0,c1,d2,r0,r1⟩
     by_cases hcl:c=1
     · subst hcl
       obtain ⟨b,hb⟩:∃ b,wiF (x.time,x.rep) f h=b:=⟨_,rfl⟩
       have HWI:=Lib.hid hb
       have HR:Hid (e=if b=true then 0 else 6):=Lib.hid (by
         rw [←HE.out]
         cases b with
         | true=>rw [bwE_fine (p:=some q) HEW.out HC.out hb];rfl
         | false=>rw [bwE_state (p:=some q) HEW.out HC.out hb];rfl)
       clear hb hc3
       go_wp2
       go_region_held3 (fun w'=>w'.cell? ⟨w.heap.size + 1,0,none⟩=some (.int .i64 x.time)∧w'.cell? ⟨w.heap.size + 1,1,none⟩=some (.int .i64 x.rep)∧w'.cell? ⟨w.heap.size,2,none⟩=some (.slice (some ⟨b1,o1,none⟩) n cw)∧w'.cell? ⟨b1,o1 + j * 6,none⟩=some (.int .i64 q.time)∧w'.cell? ⟨b1,o1 + j * 6 + 1,none⟩=some (.int .i64 q.rep)) (first | exact k1 | exact k2 | fail) (first | (go_at_call 104;((with_reducible refine (idcmp_as x.time x.rep q.time q.rep 1 _ HC.out).mono ?_);rintro r w2 ⟨rfl,hb2⟩;have HB2:Hid (Below w1.heap.size w1 w2):=Lib.hid (undrew3 hb2);have k2:w2.cell? ⟨w.heap.size + 1,0,none⟩=some (.int .i64 x.time)∧w2.cell? ⟨w.heap.size + 1,1,none⟩=some (.int .i64 x.rep)∧w2.cell? ⟨w.heap.size,2,none⟩=some (.slice (some ⟨b1,o1,none⟩) n cw)∧w2.cell? ⟨b1,o1 + j * 6,none⟩=some (.int .i64 q.time)∧w2.cell? ⟨b1,o1 + j * 6 + 1,none⟩=some (.int .i64 q.rep):=⟨(HB2.out.cell HZ1.out).trans c0,(HB2.out.cell HZ1.out).trans c1,(HB2.out.cell (Nat.lt_of_succ_lt HZ1.out)).trans d2,(HB2.out.cell hb1').trans r0,(HB2.out.cell hb1').trans r1⟩;clear hb2)) | fail)
       obtain ⟨e0,e1,e2,e3,e4⟩:=k2
       have g0:=(HB2.out.cell (p:=⟨w.heap.size,0,none⟩) (Nat.lt_of_succ_lt HZ1.out)).trans d0
       have g1:=(HB2.out.cell (p:=⟨w.heap.size,1,none⟩) (Nat.lt_of_succ_lt HZ1.out)).trans d1
       go_wp2_with fail
       have HB3:Hid (Below w.heap.size w w2):=HB1.out.trans (HB2.out.mono HB1.out.size)
       refine (within_as x.time x.rep vf vh f h b _ (HF.out.below HB3.out) (HH.out.below HB3.out) HLF.out HLH.out HWI.out).mono ?_
       rintro r w3 ⟨rfl,hb3⟩
       have HB4:Hid (Below w.heap.size w w3):=HB3.out.trans (hb3.mono HB3.out.size)
       clear hb3 k1 e0 e1 e2 e3 e4 g0 g1 c0 c1 c2 c3 c4 c5 d0 d1 d2
       cases b with
       | true =>
         go_wp2
         go_ret
         exact ⟨by rw [HR.out];rfl,HB4.out⟩
       | false =>
         go_wp2
         go_ret
         exact ⟨by rw [HR.out];rfl,HB4.out⟩
     · have HR:Hid (e=10):=Lib.hid (by rw [←HE.out,bwE_order (p:=some q) HEW.out (fun hl=>hcl (HC.out.symm.trans hl))])
       have y1:c≤0:=by omega
       have y2:decide (c≤0)=true:=by simp;omega
       clear hc3 hcl
       go_wp2
       go_region_held3 (fun w'=>w'.cell? ⟨w.heap.size + 1,0,none⟩=some (.int .i64 x.time)∧w'.cell? ⟨w.heap.size + 1,1,none⟩=some (.int .i64 x.rep)∧w'.cell? ⟨w.heap.size,2,none⟩=some (.slice (some ⟨b1,o1,none⟩) n cw)∧w'.cell? ⟨b1,o1 + j * 6,none⟩=some (.int .i64 q.time)∧w'.cell? ⟨b1,o1 + j * 6 + 1,none⟩=some (.int .i64 q.rep)) (first | exact k1 | exact k2 | fail) (first | (go_at_call 104;((with_reducible refine (idcmp_as x.time x.rep q.time q.rep c _ HC.out).mono ?_);rintro r w2 ⟨rfl,hb2⟩;have HB2:Hid (Below w1.heap.size w1 w2):=Lib.hid (undrew3 hb2);have k2:w2.cell? ⟨w.heap.size + 1,0,none⟩=some (.int .i64 x.time)∧w2.cell? ⟨w.heap.size + 1,1,none⟩=some (.int .i64 x.rep)∧w2.cell? ⟨w.heap.size,2,none⟩=some (.slice (some ⟨b1,o1,none⟩) n cw)∧w2.cell? ⟨b1,o1 + j * 6,none⟩=some (.int .i64 q.time)∧w2.cell? ⟨b1,o1 + j * 6 + 1,none⟩=some (.int .i64 q.rep):=⟨(HB2.out.cell HZ1.out).trans c0,(HB2.out.cell HZ1.out).trans c1,(HB2.out.cell (Nat.lt_of_succ_lt HZ1.out)).trans d2,(HB2.out.cell hb1').trans r0,(HB2.out.cell hb1').trans r1⟩;clear hb2)) | fail)
       go_wp2
       go_ret
       exact ⟨by rw [HR.out];rfl,HB1.out.trans (HB2.out.mono HB1.out.size)⟩
 · have HR:Hid (e=ew):=Lib.hid (by rw [←HE.out,bwE_w HEW.out h0])
   rw [errV_no h0]
   go_wp2_with fail
   refine (tell_err _ (ew:Int) _ (HG.out.below HB1.out) (.inl rfl)).mono ?_
   rintro r w2 ⟨rfl,hb2⟩
   have HB2:Hid (Below w.heap.size w w2):=HB1.out.trans (hb2.mono HB1.out.size)
   clear hb2
   go_wp2
   go_ret
   exact ⟨by rw [HR.out];rfl,HB2.out⟩
end Go.Proofs.YtgfinhehgfbdgaaGreatDoor
namespace Go.Proofs.YtgfinhehgfbdgaaGreatDoor
open Go.RowKit
def VReadIs (w:World) (s:List UInt8) (e:Ending) (w':World):Prop :=
 ∃ v,e=.returned (.tuple #[v,.int .i64 ((vreadF s).2.1:Nat),noV (vreadF s).1])∧ownsE w' w.heap.size v (vreadF s).2.2∧Below w.heap.size w w'
theorem vread_is_bad {w:World} {s:List UInt8} {e:Nat} (h:vreadF s=(e,0,[])) (he:e≠0) (w':World) (hb:Below w.heap.size w w'):VReadIs w s (.returned (.tuple #[.slice none 0 0,.int .i64 0,.iface 27 (.int .i64 (e:Nat))])) w':=by
 refine ⟨.slice none 0 0,?_,?_,hb⟩
 · rw [h];simp only;rw [noV_e he];rfl
 · rw [h];exact ownsE_nil _ _
theorem vread_is_ok {w:World} {s:List UInt8} {n:Nat} {l:List Ent} (h:vreadF s=(0,n,l)) (v:Value) (w':World) (ho:ownsE w' w.heap.size v l) (hb:Below w.heap.size w w'):VReadIs w s (.returned (.tuple #[v,.int .i64 (n:Nat),.nilIface])) w':=by
 refine ⟨v,?_,?_,hb⟩
 · rw [h];rfl
 · rw [h];exact ho
theorem vgetR_bad {w:World} {x:Nat ⊕ (List Ent×Nat)} {er:Nat} (h:x=.inl er) {e:Ending} {w':World} (hg:VGetIs w x e w'):e=.returned (.tuple #[.slice none 0 0,.int .i64 0,.iface 27 (.int .i64 (er:Nat))])∧Below w.heap.size w w':=by
 rw [h] at hg;exact hg
theorem vgetR_good {w:World} {x:Nat ⊕ (List Ent×Nat)} {run:List Ent} {k:Nat} (h:x=.inr (run,k)) {e:Ending} {w':World} (hg:VGetIs w x e w'):∃ v,e=.returned (.tuple #[v,.int .i64 (k:Nat),.nilIface])∧ownsE w' w.heap.size v run∧Below w.heap.size w w':=by
 rw [h] at hg;exact hg
theorem getR_err {s:List UInt8} {used e:Nat} {least:Int} {acc:List Ent} (h:getR s used least acc=.inl e):e≠0:=by
 have htm:∀ (k:Nat) (s:List UInt8) (used:Nat) (r:Int) (acc:List Ent),tmA k s used r acc=.inl e→e≠0:=by
   intro k
   induction k with
   | zero=>intro s used r acc h;cases h
   | succ k ih =>
     intro s used r acc h
     rcases intL_cases s 1099511627776 with ⟨e',hi,he,_⟩ | ⟨t,j,hi,_⟩
     · rw [tmA_bad hi he] at h;injection h with h;subst h;exact he
     · rw [tmA_ok hi] at h;exact ih _ _ _ _ h
 rcases intL_cases s 200 with ⟨e',hi,he,_⟩ | ⟨g,j,hi,_⟩
 · rw [getR_gap hi he] at h;injection h with h;subst h;exact he
 · rcases intL_cases (s.drop j) 16 with ⟨e',hi2,he,_⟩ | ⟨c,i,hi2,_⟩
   · rw [getR_many hi hi2 he] at h;injection h with h;subst h;exact he
   · rw [getR_ok hi hi2] at h;exact htm _ _ _ _ _ h
theorem consec_bd {l:List Ent}:∀ {r:Int},consec r l→∀ e∈l,r≤e.rep∧e.rep < r + l.length:=by
 induction l with
 | nil=>intro r _ e h;cases h
 | cons d t ih =>
   intro r h e he
   rw [List.length_cons]
   rcases List.mem_cons.1 he with rfl | he
   · have:=h.1;omega
   · have:=ih h.2 e he;omega
set_option maxRecDepth 100000 in
set_option maxHeartbeats 4000000 in
theorem vread_any (s:ByteArray) (w:World) (hs:s.size≤1000000) (hg:errT w) :
   Calls Tryz.prog 149 #[.string s] w (VReadIs w s.data.toList):=by
 have HG:=Lib.hid hg
 have hsl:s.data.toList.length=s.size:=(size_data s).symm
 have HSL:=Lib.hid hsl
 have HM0:Hid (s.size≤maxLen):=Lib.hid (show s.size≤maxLen by unfold maxLen;omega)
 clear hsl hg
 rcases intL_cases s.data.toList 16 with ⟨e,hi,he,_⟩ | ⟨R,j,hi,hR,hj1,hj2,hj3,_⟩
 · have HI:=Lib.hid hi
   have HV:=Lib.hid (vread_few hi he)
   have HNE:=Lib.hid he
   clear hi he
   go_enter Tryz.func149,Tryz.ntmps149
   go_wp2_with fail
   refine (vint_bad _ 16 _ HM0.out (by decide) (by decide) e HI.out HNE.out).mono ?_
   rintro r w' ⟨rfl,rfl⟩
   go_wp2
   go_ret3
   exact vread_is_bad HV.out HNE.out _ (Below.refl _ _)
 · have HI:=Lib.hid hi
   rw [HSL.out] at hj3
   have hR16:R≤16:=by omega
   clear hi
   go_enter Tryz.func149,Tryz.ntmps149
   go_wp2_with fail
   refine (vint_ok _ 16 _ HM0.out (by decide) (by decide) R j HI.out).mono ?_
   rintro r w' ⟨rfl,rfl⟩
   go_wp2
   go_loopw [6,8,9,24] (fun av lv bv i wr=>∃ (k a:Nat) (least:Int) (acc:List Ent),k≤R∧i=.int .i64 k∧av=.int .i64 a∧a≤s.size∧bv=.int .i64 least∧0≤least∧least≤300 * (k:Int)∧acc.length≤17 * k∧rdA R (s.data.toList.drop j) j 0 []=rdA (R - k) (s.data.toList.drop a) a least acc∧ownsE wr w.heap.size lv acc∧Below w.heap.size w wr) (fun _ _ _ i _=>R - (intOf i).toNat)
   case atStart=>exact ⟨0,j,0,[],by omega,rfl,rfl,hj3,rfl,by omega,by omega,by simp,rfl,ownsE_nil _ _,Below.refl _ _⟩
   case round =>
     obtain ⟨k,a,least,acc,hk,rfl,rfl,has,rfl,hl0,hl3,hal,heq,ho,hb⟩:=hrel
     have HEQ:=Lib.hid heq
     have HO:=Lib.hid ho
     have HB:=Lib.hid hb
     have hzr:=hb.size
     have HAL:=Lib.hid hal
     have HE:=Lib.hid (ext_dropV s a)
     have hxs:(s.extract a s.size).size≤1000000:=by rw [ByteArray.size_extract];omega
     have HXS:=Lib.hid hxs
     have e3:(0:Int)≤(a:Int):=by omega
     have e4:(a:Int)≤(s.size:Int):=by omega
     clear heq ho hb hal hxs
     by_cases hlt:k < R
     · have hlt':(k:Int) < (R:Int):=by omega
       obtain ⟨c',hc'⟩:∃ c',R - k=c' + 1:=⟨R - k - 1,by omega⟩
       match hgr:getR (s.data.toList.drop a) 0 least [] with
       | .inl e =>
         have HGR:Hid (getR (s.extract a s.size).data.toList 0 least []=.inl e):=Lib.hid (show getR (s.extract a s.size).data.toList 0 least []=.inl e by rw [HE.out];exact hgr)
         have HV:=Lib.hid (vread_bad HI.out (show rdA R (s.data.toList.drop j) j 0 []=.inl e by rw [HEQ.out,hc',rdA_bad hgr]))
         have HNE:=Lib.hid (getR_err hgr)
         clear hgr hc'
         go_wp2_with fail
         refine (vget_any (s.extract a s.size) least _ HXS.out hl0 (by omega)).mono ?_
         intro r w1 hgi
         obtain ⟨rfl,hb1⟩:=vgetR_bad HGR.out hgi
         have HB1:Hid (Below w.heap.size w w1):=HB.out.trans (hb1.mono hzr)
         clear hgi hb1
         go_wp2
         go_ret3
         exact vread_is_bad HV.out HNE.out _ HB1.out
       | .inr (run,i) =>
         have HGR:Hid (getR (s.extract a s.size).data.toList 0 least []=.inr (run,i)):=Lib.hid (show getR (s.extract a s.size).data.toList 0 least []=.inr (run,i) by rw [HE.out];exact hgr)
         obtain ⟨run',hr',g1,g2,g3,g4,g5,_,g6,_,_⟩:=getR_only hgr
         rw [List.nil_append] at hr'
         subst hr'
         rw [List.length_drop,HSL.out] at g6
         have hpos:0 < run.length:=List.length_pos_iff.2 g1
         have hlast:=consec_last g5 g1
         have hbd:=consec_bd g5
         have HRB:Hid (∀ e∈run,0≤e.rep∧e.rep≤1000000):=Lib.hid (show ∀ e∈run,0≤e.rep∧e.rep≤1000000 from fun e he=>by have:=hbd e he;omega)
         have HNIL:=Lib.hid g1
         obtain ⟨lr,hlr⟩:∃ x,(run.getLastD ⟨0,0⟩).rep=x:=⟨_,rfl⟩
         have HLR:=Lib.hid hlr
         have HST:Hid (rdA R (s.data.toList.drop j) j 0 []=rdA (R - (k + 1)) (s.data.toList.drop (a + i)) (a + i) (lr + 2) (acc ++ run)):=Lib.hid (show rdA R (s.data.toList.drop j) j 0 []=rdA (R - (k + 1)) (s.data.toList.drop (a + i)) (a + i) (lr + 2) (acc ++ run) by
           rw [HEQ.out,hc',rdA_ok hgr,List.drop_drop,hlr,show R - (k + 1)=c' by omega])
         rw [hlr] at hlast
         have HLB:Hid (0≤lr + 2∧lr + 2≤300 * ((k + 1:Nat):Int)):=Lib.hid (show 0≤lr + 2∧lr + 2≤300 * ((k + 1:Nat):Int) by omega)
         have HRL:Hid (run.length≤17):=Lib.hid g2
         have HAI:Hid (a + i≤s.size):=Lib.hid (show a + i≤s.size by omega)
         have hib:(i:Int)≤1000000:=by omega
         clear hgr hc' g1 g2 g3 g4 g5 g6 hbd hlr hlast
         go_wp2_with fail
         refine (vget_any (s.extract a s.size) least _ HXS.out hl0 (by omega)).mono ?_
         intro r w1 hgi
         obtain ⟨v,rfl,how,hb1⟩:=vgetR_good HGR.out hgi
         have HOW:=Lib.hid how
         have HB1:Hid (Below w.heap.size w w1):=HB.out.trans (hb1.mono hzr)
         have HO1:=Lib.hid (HO.out.below hb1)
         have HZ:Hid (∀ x,Value.ownBlock u8=some x→x < wr.heap.size):=Lib.hid (fun x hx=>(HO.out.lt x hx).2)
         rcases how.form with ⟨_,hn⟩ | ⟨gB,cap,rfl,hgb,hgl,hcs⟩
         · rw [hn] at hpos;simp at hpos
         · have HCS:=Lib.hid hcs
           clear hgi hb1 how hcs
           go_wp2_with (at_builtin;refine wpList_append_ents rfl _ _ rfl w.heap.size _ acc rfl HO1.out gB 0 cap run.length rfl run rfl (fun j u hj=>by rw [Nat.zero_add];exact HCS.out j u hj) hpos ?c1 ?c2 ?_)
           case c1=>have:=HAL.out;have:=HRL.out;omega
           case c2=>have:=HB1.out.size;omega
           · intro g3 cap3 w3 ho3 hg3
             have HO3:=Lib.hid ho3
             have HB3:Hid (Below w.heap.size w w3):=HB1.out.grown hg3 HB1.out.size (fun k hk=>(HO1.out.lt k hk).1)
             have HRW:Hid (IsEnts w3 (.slice (some ⟨gB,0,none⟩) run.length cap) run):=Lib.hid (World.ownsRow.kept HOW.out hg3 (.inr (fun e=>by have:=HZ.out gB e.symm;omega)) |> fun h=>(show ownsE w3 wr.heap.size _ run from h).is)
             have HAL3:Hid ((acc ++ run).length≤17 * (k + 1)):=Lib.hid (show (acc ++ run).length≤17 * (k + 1) by have:=HAL.out;have:=HRL.out;rw [List.length_append];omega)
             obtain ⟨q,hq⟩:∃ q,run.length=q:=⟨_,rfl⟩
             rw [hq] at HRW hpos ⊢
             have HQ:=Lib.hid hq
             clear ho3 hg3 hq
             go_wp2_with fail
             refine (behind_any _ run _ HRW.out HNIL.out (by have:=HRL.out;omega) HRB.out).mono ?_
             rintro r w' ⟨rfl,rfl⟩
             rw [HLR.out]
             go_wp2
             go_roundw
             case rel=>exact ⟨k + 1,a + i,lr + 2,acc ++ run,by omega,by go_num,by go_num,HAI.out,rfl,HLB.out.1,HLB.out.2,HAL3.out,HST.out,by have h:=HO3.out;rw [HQ.out] at h;exact h,HB3.out⟩
             case measure=>simp [intOf];omega
     · have hkr:k=R:=by omega
       have HRR:Hid (rdA R (s.data.toList.drop j) j 0 []=.inr (acc,a)):=Lib.hid (show rdA R (s.data.toList.drop j) j 0 []=.inr (acc,a) by rw [HEQ.out,hkr,Nat.sub_self];rfl)
       have hlt':(R:Int)≤(k:Int):=by omega
       have hal9:acc.length≤9223372036854775807:=by have:=HAL.out;omega
       have HI9:=Lib.hid hal9
       clear hkr hal9
       by_cases h0:(vrightF acc).1=0
       · have HV:=Lib.hid (vread_ok HI.out HRR.out h0)
         have H0:=Lib.hid h0
         clear h0
         go_wp2_with fail
         refine (vbare_any _ acc _ HO.out.is HI9.out (HG.out.below HB.out)).mono ?_
         rintro r w1 ⟨rfl,hb1⟩
         rw [H0.out,noV_0]
         have HB1:Hid (Below w.heap.size w w1):=HB.out.trans (hb1.mono hzr)
         have HO1:=Lib.hid (HO.out.below hb1)
         clear hb1
         go_wp2
         go_ret3
         exact vread_is_ok HV.out _ _ HO1.out HB1.out
       · have HV:=Lib.hid (vread_wrong HI.out HRR.out h0)
         have HQ:=Lib.hid (noV_e h0)
         have H0:=Lib.hid h0
         clear h0
         go_wp2_with fail
         refine (vbare_any _ acc _ HO.out.is HI9.out (HG.out.below HB.out)).mono ?_
         rintro r w1 ⟨rfl,hb1⟩
         rw [HQ.out]
         have HB1:Hid (Below w.heap.size w w1):=HB.out.trans (hb1.mono hzr)
         clear hb1
         go_wp2
         go_ret3
         exact vread_is_bad HV.out H0.out _ HB1.out
end Go.Proofs.YtgfinhehgfbdgaaGreatDoor
