import Derived.Test.YtjkbmfpomgcblaaGreatDoorKr16
namespace Go.Proofs.YtjkbmfpomgcblaaGreatDoor
open Go.RowKit
theorem wE_facts {x:Wr} (h:wE x=0):1≤x.kind∧x.kind≤4∧1≤x.time∧x.time≤1099511627776∧0≤x.rep∧x.rep≤200∧x.key.size≤40∧x.value.size≤300∧(tailL x).length≤320∧WrOk x:=by
 obtain ⟨h1,h2,h3,h4,h5,h6⟩:=wriE_good h
 unfold idOk at h2
 have h2:=of_decide_eq_true h2
 have hn:=numB_size h6
 have hs:=spanB_le h4
 have hv:(valB x.kind x.value).size≤310:=by unfold valB;split <;> first | exact hs | exact Nat.zero_le _
 have ht:(tailL x).length≤320:=by unfold tailL;rw [←size_data,back_t];omega
 have hN : -9223372036854775808≤x.n∧x.n≤9223372036854775807:=by
   unfold fitsN at h6
   by_cases k3:x.kind=3
   · rw [if_pos k3] at h6;simp only [Bool.and_eq_true,decide_eq_true_eq] at h6;omega
   · rw [if_neg k3] at h6
     by_cases k4:x.kind=4
     · rw [if_pos k4] at h6;simp only [Bool.and_eq_true,decide_eq_true_eq] at h6;omega
     · have : x.n = 0 := by
         by_cases hN:x.n=0
         · exact hN
         · exact absurd (.inr ⟨hN,by unfold hasN;rw [decide_eq_false k3,decide_eq_false k4];rfl⟩) h5
       omega
 exact ⟨by omega,by omega,h2.1,h2.2.1,h2.2.2.1,h2.2.2.2,h3,h4,ht,hN.1,hN.2,by omega,by omega⟩
def okRow (h:List Ent) (T:List ByteArray):Int→List Wr→List Nat→Prop
 | _,[],N=>N=[]
 | _,_ :: _,[]=>False
 | ahead,x :: r,n :: N=>(wE x=0∧ahead≤x.time∧placeF h x.rep < h.length∧T[n]? = some x.key)∧okRow h T x.time r N
theorem drop_put {s:List UInt8} {a k:Nat} {p:List UInt8} (hp:p=(s.drop a).take k):s.drop a=p ++ s.drop (a + k):=by
 rw [hp,←List.drop_drop];exact (List.take_append_drop _ _).symm
theorem kindF_cons (c:UInt8) (r:List UInt8):kindF (c :: r)=if c.toNat < 1∨4 < c.toNat then (0,0,1) else (c.toNat,1,0):=rfl
end Go.Proofs.YtjkbmfpomgcblaaGreatDoor
namespace Go.Proofs.YtjkbmfpomgcblaaGreatDoor
open Go.RowKit
theorem intL_time {l:List UInt8} {ahead:Int} (h0:0≤ahead) (h1:ahead≤1099511627776) {t k e:Nat} (h:intL l (1099511627776 - ahead)=(t,k,e)) :
   (e=0∧intL l 1099511627776=(t,k,0)∧ahead + (t:Int)≤1099511627776) ∨
   (e≠0∧(∃ t' k',intL l 1099511627776=(t',k',e))∨(e=2∧∃ t' k',intL l 1099511627776=(t',k',0)∧1099511627776 < ahead + (t':Int))):=by
 rcases getL_cases l with ⟨d,hg,hd⟩ | ⟨n,j,hg,_,_,_,_⟩
 · rw [intL_bad hg hd] at h
   injection h with h2 h3
   injection h3 with h3 h4
   subst h2 h3 h4
   exact .inr (.inl ⟨hd,_,_,intL_bad hg hd⟩)
 · by_cases hm:(1099511627776:Int) < (n:Int)
   · rw [intL_range hg (by omega)] at h
     injection h with h2 h3
     injection h3 with h3 h4
     subst h2 h3 h4
     exact .inr (.inl ⟨by decide,_,_,intL_range hg (by omega)⟩)
   · by_cases hm2:1099511627776 - ahead < (n:Int)
     · rw [intL_range hg (by omega)] at h
       injection h with h2 h3
       injection h3 with h3 h4
       subst h2 h3 h4
       exact .inr (.inr ⟨rfl,_,_,intL_ok hg (by omega),by omega⟩)
     · rw [intL_ok hg (by omega)] at h
       injection h with h2 h3
       injection h3 with h3 h4
       subst h2 h3 h4
       exact .inl ⟨rfl,intL_ok hg (by omega),by omega⟩
end Go.Proofs.YtjkbmfpomgcblaaGreatDoor
namespace Go.Proofs.YtjkbmfpomgcblaaGreatDoor
open Go.RowKit
theorem errV_ok:errV 0=.nilIface:=rfl
theorem errV_no {e:Nat} (h:e≠0):errV e=.iface 44 (.int .i64 e):=by unfold errV;rw [if_neg h]
def batAt (w:World) (B:Nat) (vf vh vw:Value):Prop :=
 w.cell? ⟨B,0,none⟩=some vf∧w.cell? ⟨B,1,none⟩=some vh∧w.cell? ⟨B,2,none⟩=some vw
theorem batAt.below {w w':World} {B:Nat} {vf vh vw:Value} {m:Nat} (h:batAt w B vf vh vw) (hb:Below m w w') (hm:B < m):batAt w' B vf vh vw :=
 ⟨(hb.cell hm).trans h.1,(hb.cell hm).trans h.2.1,(hb.cell hm).trans h.2.2⟩
theorem batAt_new (w:World) (vf vh vw:Value) (t:TypeId):batAt (w.alloc (.cells #[vf,vh,vw] t)) w.heap.size vf vh vw:=by
 unfold batAt;simp
theorem wright_as (x:Wr) (e:Nat) (w:World) (hk:x.key.size≤140737488351232) (hv:x.value.size≤140737488351232) (he:wE x=e) :
   Calls Tryz.prog 145 #[.agg #[.int .i64 x.time,.int .i64 x.rep,.int .i64 x.kind,.string x.key,.string x.value,.int .i64 x.n]] w fun r w'=>r=.returned (errV e)∧Below w.heap.size w w':=by
 subst he;exact wright_any x.time x.rep x.kind x.key x.value x.n w hk hv
set_option maxRecDepth 100000 in
set_option maxHeartbeats 4000000 in
theorem bwrong_any (vf vh vw:Value) (f h:List Ent) (l:List Wr) (k:Nat) (x:Wr) (p:Option Wr) (e:Nat) (w:World) (hf:IsEnts w vf f) (hh:IsEnts w vh h) (hv:IsWrs w vw l) (hlf:f.length≤9223372036854775807) (hlh:h.length≤9223372036854775807) (hl:l.length≤60)
   (hx:l[k]? = some x) (hp:(k=0∧p=none)∨∃ j q,k=j + 1∧l[j]? = some q∧p=some q) (hok:∀ t∈l,WrOk t) (hg:errT w) (he:bwE f h p x=e) :
   Calls Tryz.prog 91 #[.agg #[vf,vh,vw],.int .i64 (k:Int)] w fun r w'=>r=.returned (.int .i64 (e:Nat))∧Below w.heap.size w w':=by
 have HF:=Lib.hid hf
 have HH:=Lib.hid hh
 have HG:=Lib.hid hg
 have HLF:=Lib.hid hlf
 have HLH:=Lib.hid hlh
 obtain ⟨aw,cw,rfl,fw⟩:=hv.form
 have FW:=Lib.hid fw
 obtain ⟨n,hn⟩:∃ n,n=l.length:=⟨_,rfl⟩
 rw [←hn] at hl ⊢
 have hkn:k < n:=by rw [hn];exact (List.getElem?_eq_some_iff.1 hx).1
 obtain ⟨b1,o1,rfl,hb1,p0,p1,p2,p3,p4,p5⟩:=fw k x hx
 have HOK:=Lib.hid (hok x (List.mem_of_getElem? hx))
 obtain ⟨ew,hew⟩:∃ ew,wE x=ew:=⟨_,rfl⟩
 have HEW:=Lib.hid hew
 have HE:=Lib.hid he
 have HP:=Lib.hid hp
 clear hf hh hg hlf hlh hv fw hn hx hp hok he hew
 go_enter Tryz.func91,Tryz.ntmps91
 go_wp2_with fail
 refine (wright_as x ew _ HOK.out.2.2.1 HOK.out.2.2.2 HEW.out).mono ?_
 rintro r w1 ⟨rfl,hb2⟩
 have hz1:w.heap.size + 1 < w1.heap.size:=by have:=hb2.size;simp at this;omega
 have HZ1:=Lib.hid hz1
 have HBA1:Hid (batAt w1 w.heap.size vf vh (.slice (some ⟨b1,o1,none⟩) n cw)):=Lib.hid (((batAt_new w vf vh (.slice (some ⟨b1,o1,none⟩) n cw) 25).below ((Below.refl _ _).alloc (Nat.le_refl _) _) (by simp)).below hb2 (by simp;omega))
 have HWA1:Hid (wrAt w1 (w.heap.size + 1) x.time x.rep x.kind x.key x.value x.n):=Lib.hid ((by simpa using wrAt_new (w.alloc (.cells #[vf,vh,.slice (some ⟨b1,o1,none⟩) n cw] 25)) x.time x.rep x.kind x.key x.value x.n 59:wrAt _ (w.heap.size + 1) x.time x.rep x.kind x.key x.value x.n).below hb2 (by simp))
 have HB1:Hid (Below w.heap.size w w1):=Lib.hid ((((Below.refl _ _).alloc (Nat.le_refl _) _).alloc (by simp) _).trans (hb2.mono (by simp;omega)))
 clear hb2 p0 p1 p2 p3 p4 p5 hz1
 by_cases h0:ew=0
 · subst h0
   rw [errV_ok]
   have hla:lateO p x∨¬ lateO p x:=Classical.em _
   rcases HP.out with ⟨hk0,hp0⟩ | ⟨j,q,hkj,hq,hpq⟩
   · subst hk0 hp0
     obtain ⟨b,hb⟩:∃ b,wiF (x.time,x.rep) f h=b:=⟨_,rfl⟩
     have HWI:=Lib.hid hb
     have HR:Hid (e=if b=true then 0 else 6):=Lib.hid (by
       rw [←HE.out]
       cases b with
       | true=>rw [bwE_fine (p:=none) HEW.out trivial hb];rfl
       | false=>rw [bwE_state (p:=none) HEW.out trivial hb];rfl)
     clear hb hla
     obtain ⟨c0,c1,c2,c3,c4,c5⟩:=HWA1.out
     obtain ⟨d0,d1,d2⟩:=HBA1.out
     go_wp2
     go_quiet (fail)
     go_wp2_with fail
     refine (within_as x.time x.rep vf vh f h b _ (HF.out.below (below_drewN HB1.out _)) (HH.out.below (below_drewN HB1.out _)) HLF.out HLH.out HWI.out).mono ?_
     rintro r w2 ⟨rfl,hb2⟩
     have HB2:Hid (Below w.heap.size w w2):=(below_drewN HB1.out _).trans (hb2.mono HB1.out.size)
     clear hb2 c0 c1 c2 c3 c4 c5 d0 d1 d2
     cases b with
     | true =>
       go_wp2
       go_ret
       exact ⟨by rw [HR.out];rfl,HB2.out⟩
     | false =>
       go_wp2
       go_ret
       exact ⟨by rw [HR.out];rfl,HB2.out⟩
   · obtain ⟨b2,o2,hbo,_,q0,q1,_⟩:=FW.out j q hq
     simp only [Option.some.injEq,Addr.mk.injEq,and_true] at hbo
     obtain ⟨rfl,rfl⟩:=hbo
     have r0:=(HB1.out.cell (p:=⟨b1,o1 + j * 6,none⟩) hb1).trans q0
     have r1:=(HB1.out.cell (p:=⟨b1,o1 + j * 6 + 1,none⟩) hb1).trans q1
     have HK:=Lib.hid hkj
     have hj1:(k:Int) - 1=(j:Int):=by omega
     have hj2:IntKind.i64.wrap ((k:Int) - 1)=(j:Int):=by rw [hj1];exact IntWalk.i64_in _ (by omega)
     have hj3:IntKind.i64.wrap (j:Int)=(j:Int):=IntWalk.i64_in _ (by omega)
     have hk0:(0:Int) < (k:Int):=by omega
     have z1:0 < k:=by omega
     have z2:decide (0 < k)=true:=by simp;omega
     have z3:decide ((0:Int) < (k:Int))=true:=by simp;omega
     have hjn:(j:Int) < (n:Int):=by omega
     have hjn':j < n:=by omega
     have hj0:(0:Int)≤(j:Int):=by omega
     obtain ⟨c,hc⟩:∃ c,cI (x.time,x.rep) (q.time,q.rep)=c:=⟨_,rfl⟩
     have HC:=Lib.hid hc
     have hc3:c=-1∨c=0∨c=1:=by rw [←hc];exact cI_three _ _ _ _
     obtain ⟨c0,c1,c2,c3,c4,c5⟩:=HWA1.out
     obtain ⟨d0,d1,d2⟩:=HBA1.out
     subst hpq
     clear q0 q1 hq hkj hc hla
     have hb1':b1 < w1.heap.size:=Nat.lt_of_lt_of_le hb1 HB1.out.size
     have k1:w1.cell? ⟨w.heap.size + 1,0,none⟩=some (.int .i64 x.time)∧w1.cell? ⟨w.heap.size + 1,1,none⟩=some (.int .i64 x.rep)∧w1.cell? ⟨w.heap.size,2,none⟩=some (.slice (some ⟨b1,o1,none⟩) n cw)∧w1.cell? ⟨b1,o1 + j * 6,none⟩=some (.int .i64 q.time)∧w1.cell? ⟨b1,o1 + j * 6 + 1,none⟩=some (.int .i64 q.rep):=⟨c0,c1,d2,r0,r1⟩
     by_cases hcl:c=1
     · subst hcl
       obtain ⟨b,hb⟩:∃ b,wiF (x.time,x.rep) f h=b:=⟨_,rfl⟩
       have HWI:=Lib.hid hb
       have HR:Hid (e=if b=true then 0 else 6):=Lib.hid (by
         rw [←HE.out]
         cases b with
         | true=>rw [bwE_fine (p:=some q) HEW.out HC.out hb];rfl
         | false=>rw [bwE_state (p:=some q) HEW.out HC.out hb];rfl)
       clear hb hc3
       go_wp2
       go_region_held3 (fun w'=>w'.cell? ⟨w.heap.size + 1,0,none⟩=some (.int .i64 x.time)∧w'.cell? ⟨w.heap.size + 1,1,none⟩=some (.int .i64 x.rep)∧w'.cell? ⟨w.heap.size,2,none⟩=some (.slice (some ⟨b1,o1,none⟩) n cw)∧w'.cell? ⟨b1,o1 + j * 6,none⟩=some (.int .i64 q.time)∧w'.cell? ⟨b1,o1 + j * 6 + 1,none⟩=some (.int .i64 q.rep)) (first | exact k1 | exact k2 | fail) (first | (go_at_call 146;((with_reducible refine (idcmp_as x.time x.rep q.time q.rep 1 _ HC.out).mono ?_);rintro r w2 ⟨rfl,hb2⟩;have HB2:Hid (Below w1.heap.size w1 w2):=Lib.hid (undrew3 hb2);have k2:w2.cell? ⟨w.heap.size + 1,0,none⟩=some (.int .i64 x.time)∧w2.cell? ⟨w.heap.size + 1,1,none⟩=some (.int .i64 x.rep)∧w2.cell? ⟨w.heap.size,2,none⟩=some (.slice (some ⟨b1,o1,none⟩) n cw)∧w2.cell? ⟨b1,o1 + j * 6,none⟩=some (.int .i64 q.time)∧w2.cell? ⟨b1,o1 + j * 6 + 1,none⟩=some (.int .i64 q.rep):=⟨(HB2.out.cell HZ1.out).trans c0,(HB2.out.cell HZ1.out).trans c1,(HB2.out.cell (Nat.lt_of_succ_lt HZ1.out)).trans d2,(HB2.out.cell hb1').trans r0,(HB2.out.cell hb1').trans r1⟩;clear hb2)) | fail)
       obtain ⟨e0,e1,e2,e3,e4⟩:=k2
       have g0:=(HB2.out.cell (p:=⟨w.heap.size,0,none⟩) (Nat.lt_of_succ_lt HZ1.out)).trans d0
       have g1:=(HB2.out.cell (p:=⟨w.heap.size,1,none⟩) (Nat.lt_of_succ_lt HZ1.out)).trans d1
       go_wp2_with fail
       have HB3:Hid (Below w.heap.size w w2):=HB1.out.trans (HB2.out.mono HB1.out.size)
       refine (within_as x.time x.rep vf vh f h b _ (HF.out.below HB3.out) (HH.out.below HB3.out) HLF.out HLH.out HWI.out).mono ?_
       rintro r w3 ⟨rfl,hb3⟩
       have HB4:Hid (Below w.heap.size w w3):=HB3.out.trans (hb3.mono HB3.out.size)
       clear hb3 k1 e0 e1 e2 e3 e4 g0 g1 c0 c1 c2 c3 c4 c5 d0 d1 d2
       cases b with
       | true =>
         go_wp2
         go_ret
         exact ⟨by rw [HR.out];rfl,HB4.out⟩
       | false =>
         go_wp2
         go_ret
         exact ⟨by rw [HR.out];rfl,HB4.out⟩
     · have HR:Hid (e=10):=Lib.hid (by rw [←HE.out,bwE_order (p:=some q) HEW.out (fun hl=>hcl (HC.out.symm.trans hl))])
       have y1:c≤0:=by omega
       have y2:decide (c≤0)=true:=by simp;omega
       clear hc3 hcl
       go_wp2
       go_region_held3 (fun w'=>w'.cell? ⟨w.heap.size + 1,0,none⟩=some (.int .i64 x.time)∧w'.cell? ⟨w.heap.size + 1,1,none⟩=some (.int .i64 x.rep)∧w'.cell? ⟨w.heap.size,2,none⟩=some (.slice (some ⟨b1,o1,none⟩) n cw)∧w'.cell? ⟨b1,o1 + j * 6,none⟩=some (.int .i64 q.time)∧w'.cell? ⟨b1,o1 + j * 6 + 1,none⟩=some (.int .i64 q.rep)) (first | exact k1 | exact k2 | fail) (first | (go_at_call 146;((with_reducible refine (idcmp_as x.time x.rep q.time q.rep c _ HC.out).mono ?_);rintro r w2 ⟨rfl,hb2⟩;have HB2:Hid (Below w1.heap.size w1 w2):=Lib.hid (undrew3 hb2);have k2:w2.cell? ⟨w.heap.size + 1,0,none⟩=some (.int .i64 x.time)∧w2.cell? ⟨w.heap.size + 1,1,none⟩=some (.int .i64 x.rep)∧w2.cell? ⟨w.heap.size,2,none⟩=some (.slice (some ⟨b1,o1,none⟩) n cw)∧w2.cell? ⟨b1,o1 + j * 6,none⟩=some (.int .i64 q.time)∧w2.cell? ⟨b1,o1 + j * 6 + 1,none⟩=some (.int .i64 q.rep):=⟨(HB2.out.cell HZ1.out).trans c0,(HB2.out.cell HZ1.out).trans c1,(HB2.out.cell (Nat.lt_of_succ_lt HZ1.out)).trans d2,(HB2.out.cell hb1').trans r0,(HB2.out.cell hb1').trans r1⟩;clear hb2)) | fail)
       go_wp2
       go_ret
       exact ⟨by rw [HR.out];rfl,HB1.out.trans (HB2.out.mono HB1.out.size)⟩
 · have HR:Hid (e=ew):=Lib.hid (by rw [←HE.out,bwE_w HEW.out h0])
   rw [errV_no h0]
   go_wp2_with fail
   refine (tell_err _ (ew:Int) _ (HG.out.below HB1.out) (.inl rfl)).mono ?_
   rintro r w2 ⟨rfl,hb2⟩
   have HB2:Hid (Below w.heap.size w w2):=HB1.out.trans (hb2.mono HB1.out.size)
   clear hb2
   go_wp2
   go_ret
   exact ⟨by rw [HR.out];rfl,HB2.out⟩
end Go.Proofs.YtjkbmfpomgcblaaGreatDoor
namespace Go.Proofs.YtjkbmfpomgcblaaGreatDoor
open Go.RowKit
theorem place_of {h:List Ent} {e:Ent}:∀ {last:Int} {p:Nat},okV last h→h[p]? = some e→placeF h e.rep=p:=by
 induction h with
 | nil=>intro last p _ hp;simp at hp
 | cons d r ih =>
   intro last p ho hp
   unfold placeF
   rw [List.findIdx_cons]
   cases p with
   | zero =>
     obtain rfl:d=e:=by simpa using hp
     simp
   | succ p =>
     have hp2:r[p]? = some e:=by simpa using hp
     have h1:=okV_mem ho.2 e (List.mem_of_getElem? hp2)
     have hne:decide (d.rep=e.rep)=false:=by simp;omega
     rw [hne]
     have h2:=ih ho.2 hp2
     unfold placeF at h2
     simp [h2]
theorem kind_cases (l:List UInt8):(∃ e,kindF l=(0,0,e)∧e≠0)∨∃ c r,l=c :: r∧kindF l=(c.toNat,1,0)∧1≤c.toNat∧c.toNat≤4:=by
 cases l with
 | nil=>exact .inl ⟨7,rfl,by decide⟩
 | cons c r =>
   rw [kindF_cons]
   by_cases h:c.toNat < 1∨4 < c.toNat
   · exact .inl ⟨1,by rw [if_pos h],by decide⟩
   · exact .inr ⟨c,r,rfl,by rw [if_neg h],by omega,by omega⟩
theorem fill_only {T R K:Int} {key:ByteArray} {l:List UInt8} (h:fillE T R K key l=0) :
   wriE T R K key (fillV K l) (getN K l).1=0∧(tailB K (fillV K l) (getN K l).1).data.toList=l.take (fillN K l)∧fillN K l≤l.length:=by
 obtain ⟨n,k,e,hn⟩:∃ n k e,getN K l=(n,k,e):=⟨_,_,_,rfl⟩
 by_cases he:e=0
 · subst he
   obtain ⟨v,j,e2,hv⟩:∃ v j e2,getV K (l.drop k)=(v,j,e2):=⟨_,_,_,rfl⟩
   by_cases he2:e2=0
   · subst he2
     rw [fillE_w hn hv] at h
     have h2:=only_t hn hv
     unfold fillV fillN
     rw [hn];simp only;rw [hv];simp only
     exact ⟨h,h2.1,h2.2⟩
   · rw [fillE_v hn hv he2] at h;exact absurd h he2
 · rw [fillE_n hn he] at h;exact absurd h he
theorem unOne_only {s:List UInt8} {h:List Ent} {T:List ByteArray} {a b n:Nat} {ahead:Int} {x:Wr} (hh:rightV h) (h0:unOne s h T a ahead=.inr (b,x,n)) :
   T[n]? = some x.key∧wE x=0∧ahead≤x.time∧x.time≤1099511627776∧placeF h x.rep < h.length∧s.drop a=oneB h ahead x n ++ s.drop b∧a < b∧b≤s.length∧(∃ e∈h,e.rep=x.rep):=by
 rcases kind_cases (s.drop a) with ⟨e,hk,he⟩ | ⟨c,r,hc,hk,hc1,hc4⟩
 · rw [unOne_kind hk he] at h0;cases h0
 · have hal : a < s.length := by
     rcases Nat.lt_or_ge a s.length with h' | h'
     · exact h'
     · rw [List.drop_of_length_le h'] at hc;cases hc
   have hr:r=s.drop (a + 1):=by rw [←List.drop_drop,hc];rfl
   rcases intL_cases (s.drop (a + 1)) (1099511627776 - ahead) with ⟨e,h1,he,_⟩ | ⟨t,k1,h1,ht,_,_,hk1l,hp1⟩
   · rw [unOne_time hk h1 he] at h0;cases h0
   · rcases intL_cases (s.drop (a + 1 + k1)) ((h.length:Int) - 1) with ⟨e,h2,he,_⟩ | ⟨p,k2,h2,hp,_,_,hk2l,hp2⟩
     · rw [unOne_rep hk h1 h2 he] at h0;cases h0
     · rcases intL_cases (s.drop (a + 1 + k1 + k2)) ((T.length:Int) - 1) with ⟨e,h3,he,_⟩ | ⟨m,k3,h3,hm,_,_,hk3l,hp3⟩
       · rw [unOne_key hk h1 h2 h3 he] at h0;cases h0
       · by_cases h4:fillE (ahead + t) (h.getD p ⟨0,0⟩).rep c.toNat (T.getD m ⟨#[]⟩) (s.drop (a + 1 + k1 + k2 + k3))=0
         · rw [unOne_ok hk h1 h2 h3 h4] at h0
           simp only [Sum.inr.injEq,Prod.mk.injEq] at h0
           obtain ⟨hb,rfl,rfl⟩:=h0
           obtain ⟨f1,f2,f3⟩:=fill_only h4
           have e1:=drop_put hp1
           have e2:=drop_put hp2
           have e3:=drop_put hp3
           have e4:=drop_put f2
           rw [List.length_drop] at hk1l hk2l hk3l f3
           obtain ⟨L,hL⟩:∃ L,s.drop (a + 1 + k1 + k2 + k3)=L:=⟨_,rfl⟩
           rw [hL] at f1 e3 e4 hb ⊢
           rw [hL] at f3
           obtain ⟨e, he⟩ : ∃ e, h[p]? = some e := ⟨h[p]'(by omega), List.getElem?_eq_getElem _⟩
           have hge:h.getD p ⟨0,0⟩=e:=by rw [List.getD_eq_getElem?_getD,he];rfl
           have hme:T[m]? = some (T.getD m ⟨#[]⟩):=by
             obtain ⟨k, hk⟩ : ∃ k, T[m]? = some k := ⟨T[m]'(by omega), List.getElem?_eq_getElem _⟩
             rw [List.getD_eq_getElem?_getD,hk];rfl
           have hpl:placeF h (h.getD p ⟨0,0⟩).rep=p:=by rw [hge];exact place_of hh.2 he
           refine ⟨hme,f1,by show ahead≤ahead + (t:Int);omega,by show ahead + (t:Int)≤_;omega,by show placeF h (h.getD p ⟨0,0⟩).rep < _;rw [hpl];omega,?_,by omega,by omega,?_⟩
           · unfold oneB tailL
             simp only
             rw [hpl,show (ahead + (t:Int) - ahead).toNat=t by omega,show ((c.toNat:Nat):Int).toNat=c.toNat by omega,ofNat_toNat,hc,hr,e1,e2,e3]
             obtain ⟨X,hX⟩:∃ X,(tailB (c.toNat:Int) (fillV (c.toNat:Int) L) (getN (c.toNat:Int) L).1).data.toList=X:=⟨_,rfl⟩
             rw [hX] at e4 ⊢
             rw [hb] at e4
             rw [e4]
             simp
           · exact ⟨e,List.mem_of_getElem? he,by rw [hge]⟩
         · rw [unOne_fill hk h1 h2 h3 rfl h4] at h0;cases h0
theorem unW_only {s:List UInt8} {h:List Ent} {T:List ByteArray} (hh:rightV h) (k:Nat):∀ (a b:Nat) (ahead:Int) (W0 W:List Wr) (N0 N:List Nat),a≤s.length→unW s h T k a ahead W0 N0=.inr (b,W,N) →
   ∃ W1 N1,W=W0 ++ W1∧N=N0 ++ N1∧W1.length=k∧okRow h T ahead W1 N1∧s.drop a=rowB h ahead W1 N1 ++ s.drop b∧b≤s.length∧a≤b:=by
 induction k with
 | zero =>
   intro a b ahead W0 W N0 N ha h0
   rw [unW] at h0
   simp only [Sum.inr.injEq,Prod.mk.injEq] at h0
   obtain ⟨rfl,rfl,rfl⟩:=h0
   exact ⟨[],[],by simp,by simp,rfl,rfl,rfl,ha,Nat.le_refl _⟩
 | succ k ih =>
   intro a b ahead W0 W N0 N ha h0
   match h1:unOne s h T a ahead with
   | .inl r=>rw [unW_bad h1] at h0;cases h0
   | .inr (c,x,n) =>
     rw [unW_ok h1] at h0
     obtain ⟨o1,o2,o3,o4,o5,o6,o7,o8,o9⟩:=unOne_only hh h1
     obtain ⟨W1,N1,rfl,rfl,g3,g4,g5,g6,g7⟩:=ih _ _ _ _ _ _ _ o8 h0
     refine ⟨x :: W1,n :: N1,by simp,by simp,by simp [g3],⟨⟨o2,o3,o5,o1⟩,g4⟩,?_,g6,by omega⟩
     rw [rowB_cons,List.append_assoc,←g5];exact o6
theorem unT_only {s:List UInt8} (k:Nat):∀ (a b:Nat) (T0 T:List ByteArray),a≤s.length→unT s k a T0=.inr (b,T)→∃ T1,T=T0 ++ T1∧T1.length=k∧s.drop a=textsB T1 ++ s.drop b∧b≤s.length∧a≤b:=by
 induction k with
 | zero =>
   intro a b T0 T ha h0
   rw [unT] at h0
   simp only [Sum.inr.injEq,Prod.mk.injEq] at h0
   obtain ⟨rfl,rfl⟩:=h0
   exact ⟨[],by simp,rfl,rfl,ha,Nat.le_refl _⟩
 | succ k ih =>
   intro a b T0 T ha h0
   obtain ⟨t,n,e,hg⟩:∃ t n e,getS (s.drop a)=(t,n,e):=⟨_,_,_,rfl⟩
   by_cases he:e=0
   · subst he
     obtain ⟨w1,w2,w3,w4⟩:=wspan_only hg
     rw [List.length_drop] at w2
     rw [unT_ok hg] at h0
     obtain ⟨T1,rfl,g2,g3,g4,g5⟩:=ih _ _ _ _ (by omega) h0
     refine ⟨⟨t.toArray⟩ :: T1,by simp,by simp [g2],?_,g4,by omega⟩
     rw [textsB_cons,List.append_assoc,←g3]
     exact drop_put w4
   · rw [unT_bad hg he] at h0;cases h0
end Go.Proofs.YtjkbmfpomgcblaaGreatDoor
