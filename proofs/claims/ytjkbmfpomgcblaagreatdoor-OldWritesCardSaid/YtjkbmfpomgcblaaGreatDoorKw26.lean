import Derived.Test.YtjkbmfpomgcblaaGreatDoorKw25
namespace Go.Proofs.YtjkbmfpomgcblaaGreatDoor
open Go.RowKit
set_option maxRecDepth 100000 in
set_option maxHeartbeats 8000000 in
theorem rfirst_as (vf vh vw:Value) (f h:List Ent) (l:List Wr) (T:ByteArray) (e:Nat) (pl:Int) (w:World) (hx:BatIs w vf vh vw f h l) (hb:firstF f h l=(T.data.toList,e,pl)) :
   Calls Tryz.prog 29 #[.agg #[vf,vh,vw]] w fun r w'=>r=.returned (.tuple #[.string T,.agg #[.int .i64 (e:Int),.int .i64 pl]])∧Below w.heap.size w w':=by
 have HX:=Lib.hid hx
 obtain ⟨hf,hh,hv,_,_,_,hok⟩:=hx
 obtain ⟨af,cf,rfl,_⟩:=hf.form
 obtain ⟨ah,ch,rfl,_⟩:=hh.form
 obtain ⟨aw,cw,rfl,hwf⟩:=hv.form
 have HWF:=Lib.hid hwf
 have HOK:=Lib.hid hok
 obtain ⟨be,bp,hbf⟩:∃ be bp,batF f h l=(be,bp):=⟨_,_,rfl⟩
 have HBF:=Lib.hid hbf
 have hbb:e=be∧(be≠0→T=⟨#[]⟩)∧pl=(if be=0 then -1 else bp):=by
   by_cases hbe:be=0
   · rw [first_ok (by rw [hbf];exact hbe)] at hb
     injection hb with _ hb
     injection hb with h1 h2
     exact ⟨by rw [hbe];exact h1.symm,fun h=>absurd hbe h,by rw [if_pos hbe];exact h2.symm⟩
   · rw [first_bad hbf hbe] at hb
     injection hb with hT hb
     injection hb with h1 h2
     exact ⟨h1.symm,fun _=>by rw [←bs_of T,←hT],by rw [if_neg hbe];exact h2.symm⟩
 obtain ⟨rfl,hTe,hpl⟩:=hbb
 have hmin:e=0→bp=-1:=by intro h0;have hz:=batF_place (f:=f) (h:=h) (ws:=l) (by rw [hbf];exact h0);rw [hbf] at hz;injection hz
 have hplb:pl=bp:=by
   by_cases h0:e=0
   · rw [hpl,if_pos h0,hmin h0]
   · rw [hpl,if_neg h0]
 subst hplb
 have HXL:Hid (∃ P Q N:ByteArray,plainL f=P.data.toList∧plainL h=Q.data.toList∧putL l.length=N.data.toList):=Lib.hid ⟨⟨(plainL f).toArray⟩,⟨(plainL h).toArray⟩,⟨(putL l.length).toArray⟩,by simp,by simp,by simp⟩
 obtain ⟨n,hn⟩:∃ n,n=l.length:=⟨_,rfl⟩
 obtain ⟨nf,hnf⟩:∃ n,n=f.length:=⟨_,rfl⟩
 obtain ⟨nh,hnh⟩:∃ n,n=h.length:=⟨_,rfl⟩
 rw [←hn,←hnf,←hnh] at HX
 rw [←hn] at HXL
 rw [←hn,←hnf,←hnh]
 have HLN:=Lib.hid hn
 have HA:=Lib.hid ((batAt_new w (.slice af nf cf) (.slice ah nh ch) (.slice aw n cw) 25).below ((Below.refl _ _).alloc (Nat.le_refl _) (.cells #[.int .i64 0,.int .i64 0] 46)) (by simp))
 have HF:Hid (rowF ((w.alloc (.cells #[.slice af nf cf,.slice ah nh ch,.slice aw n cw] 25)).alloc (.cells #[.int .i64 0,.int .i64 0] 46)) (w.heap.size + 1) 0 0):=Lib.hid (heap_alloc2_new w _ _)
 have HW:Hid (Below w.heap.size w ((w.alloc (.cells #[.slice af nf cf,.slice ah nh ch,.slice aw n cw] 25)).alloc (.cells #[.int .i64 0,.int .i64 0] 46))):=Lib.hid (((Below.refl _ _).alloc (Nat.le_refl _) _).alloc (by simp) _)
 have HZ:Hid (w.heap.size + 1 < ((w.alloc (.cells #[.slice af nf cf,.slice ah nh ch,.slice aw n cw] 25)).alloc (.cells #[.int .i64 0,.int .i64 0] 46)).heap.size):=Lib.hid (by simp)
 have HBW:Hid (w.heap.size≤w.heap.size + 1):=Lib.hid (Nat.le_succ _)
 have HBX:Hid (w.heap.size < w.heap.size + 1):=Lib.hid (Nat.lt_succ_self _)
 obtain ⟨A1,hA1⟩:∃ A:ByteArray,(⟨#[80,84,1]⟩:ByteArray)=A:=⟨_,rfl⟩
 have HA1:=Lib.hid hA1
 have HAz1:Hid (A1.size=3):=Lib.hid (by rw [←hA1];rfl)
 have HHB:=Lib.hid hb
 have HHN:=Lib.hid hnf
 have HHH:=Lib.hid hnh
 clear hf hh hv hA1 hwf hok hpl hmin hb hn hnf hnh
 go_enter Tryz.func29,Tryz.ntmps29
 rw [HA1.out]
 go_wp2_with fail
 generalize (w.alloc (.cells #[.slice af nf cf,.slice ah nh ch,.slice aw n cw] 25)).alloc (.cells #[.int .i64 0,.int .i64 0] 46)=W at HA HF HW HZ ⊢
 generalize w.heap.size + 1=F at HF HZ HBW HBX ⊢
 refine (rbright_at _ _ _ f h l e pl W (HX.out.below HW.out) HBF.out).mono ?_
 rintro r w1 ⟨rfl,hb1⟩
 have HB1:Hid (Below W.heap.size W (w1.alloc (.cells #[.int .i64 (e:Int),.int .i64 pl] 46))):=Lib.hid (hb1.alloc hb1.size _)
 have HF1:=Lib.hid (HF.out.below HB1.out HZ.out)
 have HA1W:=Lib.hid (HA.out.below HB1.out (Nat.lt_trans HBX.out HZ.out))
 have HT1:Hid (rowF (w1.alloc (.cells #[.int .i64 (e:Int),.int .i64 pl] 46)) w1.heap.size (e:Int) pl):=Lib.hid (heap_alloc_new w1 _)
 have HW1:Hid (Below w.heap.size w (w1.alloc (.cells #[.int .i64 (e:Int),.int .i64 pl] 46))):=HW.out.trans (HB1.out.mono HW.out.size)
 have HZ1:Hid (F < w1.heap.size∧w1.heap.size < (w1.alloc (.cells #[.int .i64 (e:Int),.int .i64 pl] 46)).heap.size):=Lib.hid ⟨Nat.lt_of_lt_of_le HZ.out hb1.size,by simp⟩
 clear hb1
 obtain ⟨c0,c1⟩:=HT1.out.at
 go_wp2_with fail
 generalize w1.alloc (.cells #[.int .i64 (e:Int),.int .i64 pl] 46)=W1 at HB1 HF1 HA1W HT1 HW1 HZ1 c0 c1 ⊢
 generalize w1.heap.size=G at HT1 HZ1 c0 c1 ⊢
 refine (is_any (e:Int) pl _).mono ?_
 rintro r w2 ⟨rfl,hb2⟩
 have HF2:=Lib.hid (HF1.out.below hb2 (by have:=HZ1.out;omega))
 have HA2:=Lib.hid (HA1W.out.below hb2 (by have:=HZ1.out;have:=HBX.out;omega))
 have HT2:=Lib.hid (HT1.out.below hb2 HZ1.out.2)
 have HW2:Hid (Below w.heap.size w w2):=HW1.out.trans (hb2.mono HW1.out.size)
 have HZ2:Hid (F < G∧G < w2.heap.size):=Lib.hid ⟨HZ1.out.1,Nat.lt_of_lt_of_le HZ1.out.2 hb2.size⟩
 clear hb2 c0 c1 HB1
 by_cases hx0:e=0
 · subst hx0
   have hz:((0:Int) == 0)=true:=rfl
   have hr:rightB f h l:=by unfold rightB;rw [hbf]
   obtain rfl:pl=-1:=by have hz:=batF_place (f:=f) (h:=h) (ws:=l) (by rw [hbf]);rw [hbf] at hz;injection hz
   have hT:=HHB.out
   rw [first_ok (by rw [hbf])] at hT
   injection hT with hT _
   obtain ⟨⟨g1,g2,_⟩,g4,g5,_⟩:=rightB_iff.1 hr
   have HWE:Hid (∀ x∈l,wE x=0):=Lib.hid (fun x hx=>(g5 x hx).1)
   obtain ⟨P,Q,N,hP,hQ,hN⟩:=HXL.out
   have hn:=HLN.out
   have hPz:P.size≤330:=by rw [size_data,←hP];exact plainL_len f g1
   have hQz:Q.size≤330:=by rw [size_data,←hQ];exact plainL_len h g2
   have hNz:N.size≤10:=by rw [size_data,←hN];exact putL_le10 (by omega)
   rw [←hn] at g4
   have HN60:Hid (n≤60):=Lib.hid g4
   have HPC:=Lib.hid (fun w' hi=>rplain_to (.slice af nf cf) f P w' hi g1.1 (rightV_ok g1) hP)
   have HQC:=Lib.hid (fun w' hi=>rplain_to (.slice ah nh ch) h Q w' hi g2.1 (rightV_ok g2) hQ)
   have HNC:=Lib.hid (fun w'=>rvaryO_to n N w' (by omega) hN)
   have hnu:IntKind.u64.wrap (n:Int)=(n:Int):=by rw [IntKind.wrap_u64];omega
   have HTT:Hid (sealL (80 :: 84 :: 1 :: (P.data.toList ++ Q.data.toList ++ N.data.toList ++ oldWs l))=T.data.toList):=Lib.hid (by rw [←hT,←hP,←hQ,←hN,hn];rfl)
   have HHDL:Hid ((P.data.toList ++ Q.data.toList ++ N.data.toList).length≤1000):=Lib.hid (by simp only [List.length_append];rw [←size_data,←size_data,←size_data];omega)
   have ha0:=HAz1.out
   have a1:¬ (9223372036854775807 < A1.size + P.size):=by omega
   have a2:¬ (9223372036854775807 < (A1 ++ P).size + Q.size):=by rw [ByteArray.size_append];omega
   have a2':¬ (9223372036854775807 < A1.size + P.size + Q.size):=by omega
   have a3:¬ (9223372036854775807 < (A1 ++ P ++ Q).size + N.size):=by rw [ByteArray.size_append,ByteArray.size_append];omega
   have a3':¬ (9223372036854775807 < A1.size + P.size + Q.size + N.size):=by omega
   have HAD:Hid ((A1 ++ P ++ Q ++ N).data.toList=80 :: 84 :: 1 :: (P.data.toList ++ Q.data.toList ++ N.data.toList)):=Lib.hid (by rw [app_dataO,app_dataO,app_dataO,←HA1.out];simp)
   have HX2:=Lib.hid (HX.out.below HW2.out)
   have HTF:Hid (∀ w',Below w2.heap.size w2 w'→(w'.cell? ⟨w.heap.size,0,none⟩=some (.slice af nf cf)∧w'.cell? ⟨w.heap.size,1,none⟩=some (.slice ah nh ch)∧w'.cell? ⟨w.heap.size,2,none⟩=some (.slice aw n cw))):=Lib.hid (fun w' hb=>HA2.out.below hb (by have:=HZ2.out;have:=HBX.out;omega))
   have HFE:Hid (∀ w',Below w2.heap.size w2 w'→IsEnts w' (.slice af nf cf) f):=Lib.hid (fun w' hb=>(HX2.out.below hb).1)
   have HHE:Hid (∀ w',Below w2.heap.size w2 w'→IsEnts w' (.slice ah nh ch) h):=Lib.hid (fun w' hb=>(HX2.out.below hb).2.1)
   have HD2:Hid (Below w2.heap.size w2 w2.drew):=Lib.hid (Below.refl _ _).drew
   have b0:=HTF.out w2 (Below.refl _ _)
   obtain ⟨d0,d1⟩:=HT2.out.at
   clear hT hP hQ hN hn hPz hQz hNz ha0 g1 g2 g4 g5 hr hbf hTe
   go_wp2
   clear d0 d1
   go_region_held3 (fun w'=>w'.cell? ⟨w.heap.size,0,none⟩=some (.slice af nf cf)∧w'.cell? ⟨w.heap.size,1,none⟩=some (.slice ah nh ch)∧w'.cell? ⟨w.heap.size,2,none⟩=some (.slice aw n cw)) (first | exact b0 | exact k3 | exact k4 | exact k5 | fail) (first
     | (go_at_call 62;((with_reducible refine (HPC.out w2.drew (HFE.out _ HD2.out)).mono ?_);rintro r w3 ⟨rfl,hb3⟩;have HB3:Hid (Below w2.heap.size w2 w3):=Lib.hid (undrewP hb3);have k3:=HTF.out w3 HB3.out;clear hb3))
     | (go_at_call 62;((with_reducible refine (HQC.out w3 (HHE.out _ HB3.out)).mono ?_);rintro r w4 ⟨rfl,hb4⟩;have HB4:Hid (Below w2.heap.size w2 w4):=Lib.hid (HB3.out.trans (hb4.mono HB3.out.size));have k4:=HTF.out w4 HB4.out;clear hb4))
     | (go_at_call 63;((with_reducible refine (HNC.out w4).mono ?_);rintro r w5 ⟨rfl,hb5⟩;have HB5:Hid (Below w2.heap.size w2 w5):=Lib.hid (HB4.out.trans (hb5.mono HB4.out.size));have k5:=HTF.out w5 HB5.out;clear hb5))
     | fail)
   obtain ⟨c0,c1,c2⟩:=k5
   clear b0 k3 k4
   go_wp2
   go_loopw [5,35] (fun sv iv wr=>∃ (j:Nat) (S:ByteArray),j≤n∧iv=.int .i64 j∧sv=.string S∧S.data.toList=80 :: 84 :: 1 :: (P.data.toList ++ Q.data.toList ++ N.data.toList ++ oldWs (l.take j))∧Below w2.heap.size w2 wr) (fun _ iv _=>n - (intOf iv).toNat)
   case atStart=>exact ⟨0,A1 ++ P ++ Q ++ N,Nat.zero_le _,rfl,rfl,by rw [HAD.out,List.take_zero,show oldWs []=[] from rfl,List.append_nil],HB5.out⟩
   case round =>
     obtain ⟨j,S,hj,rfl,rfl,hS,hb⟩:=hrel
     have HS:=Lib.hid hS
     have HB:=Lib.hid hb
     clear hS hb c0 c1 c2
     by_cases hlt:j < n
     · obtain ⟨x, hx⟩ : ∃ x, l[j]? = some x := ⟨l[j]'(by have := HLN.out; omega), List.getElem?_eq_getElem _⟩
       have hwx:=HWE.out x (List.mem_of_getElem? hx)
       have hwo:=HOK.out x (List.mem_of_getElem? hx)
       have hsn:=oldWs_snoc l j x hx
       have hpre:(oldWs (l.take j)).length≤24000:=by
         have h3:=oldWs_len (l.take j) (fun y hy=>HWE.out y (List.mem_of_mem_take hy))
         rw [List.length_take] at h3
         have:=HN60.out
         omega
       have hsz:S.size≤26000:=by
         rw [size_data,HS.out]
         simp only [List.length_cons]
         rw [List.length_append]
         have:=HHDL.out
         omega
       obtain ⟨bx,ox,rfl,hbx,p0,p1,p2,p3,p4,p5⟩:=HWF.out j x hx
       have hfx:=wE_facts hwx
       obtain ⟨tx,rx,kx,keyx,vx,nx⟩:=x
       simp only at p0 p1 p2 p3 p4 p5 hfx
       obtain ⟨f1,f2,f3,f4,f5,f6,f7,f8,f9,f10⟩:=hfx
       obtain ⟨o1,o2,o3,o4⟩:=hwo
       obtain ⟨tn,rfl⟩:=Int.eq_ofNat_of_zero_le (show 0≤tx by omega)
       obtain ⟨rn,rfl⟩:=Int.eq_ofNat_of_zero_le (show 0≤rx by omega)
       obtain ⟨kn,rfl⟩:=Int.eq_ofNat_of_zero_le (show 0≤kx by omega)
       have HTL:Hid (textR (tailF (tn:Int) (rn:Int) (kn:Int) keyx vx nx)=.tuple #[.string (tailB (kn:Int) vx nx),.int .i64 0]):=Lib.hid (by
         rw [tailF_ok hwx];rfl)
       obtain ⟨TL,hTL⟩:∃ TL,tailB (kn:Int) vx nx=TL:=⟨_,rfl⟩
       have htz:TL.size≤320:=by
         have h9:(tailB (kn:Int) vx nx).data.toList.length≤320:=f9
         rw [hTL,←size_data] at h9;exact h9
       obtain ⟨SP,hSP⟩:∃ SP,spanB keyx=SP:=⟨_,rfl⟩
       have hpz:SP.size≤60:=by rw [←hSP,spanB_size];have:=putL_le10 (n:=keyx.size) (by omega);omega
       obtain ⟨B,hB⟩:∃ B:ByteArray,B=⟨#[UInt8.ofNat kn]⟩:=⟨_,rfl⟩
       have hBz:B.size=1:=by rw [hB];rfl
       obtain ⟨A,hA⟩:=of_data (putL tn)
       obtain ⟨C,hC⟩:=of_data (putL rn)
       have hAz:A.size≤10:=by rw [size_data,←hA];exact putL_le10 (by omega)
       have hCz:C.size≤10:=by rw [size_data,←hC];exact putL_le10 (by omega)
       have hRES:(B ++ A ++ C ++ SP ++ TL).data.toList=oldW ⟨(tn:Int),(rn:Int),(kn:Int),keyx,vx,nx⟩:=by
         unfold oldW tailL
         simp only [app_dataO]
         rw [hTL,←hA,←hC,←hSP,spanB_data,hB,Int.toNat_natCast,Int.toNat_natCast,Int.toNat_natCast]
       have HNX:Hid ((S ++ (B ++ A ++ C ++ SP ++ TL)).data.toList=80 :: 84 :: 1 :: (P.data.toList ++ Q.data.toList ++ N.data.toList ++ oldWs (l.take (j + 1)))):=Lib.hid (by
         rw [app_dataO,hRES,hsn,HS.out]
         simp only [List.append_assoc,List.cons_append])
       have HAC:=Lib.hid (fun w'=>rvaryO_to tn A w' (by omega) hA)
       have HCC:=Lib.hid (fun w'=>rvaryO_to rn C w' (by omega) hC)
       have HBB:=Lib.hid hB
       have HKZ:Hid (keyx.size≤2000):=Lib.hid (by omega)
       have HK1:Hid (keyx.size≤140737488351232):=Lib.hid (by omega)
       have HV1:Hid (vx.size≤140737488351232):=Lib.hid (by omega)
       have HN1:Hid (-9223372036854775808≤nx∧nx≤9223372036854775807):=Lib.hid ⟨o1,o2⟩
       have HK255:Hid (kn≤255):=Lib.hid (by omega)
       have hkw:IntKind.u8.wrap (kn:Int)=(kn:Int):=by rw [IntKind.wrap_u8];omega
       have htw:IntKind.u64.wrap (tn:Int)=(tn:Int):=by rw [IntKind.wrap_u64];omega
       have hrw:IntKind.u64.wrap (rn:Int)=(rn:Int):=by rw [IntKind.wrap_u64];omega
       have s1:¬ (9223372036854775807 < B.size + A.size):=by omega
       have s2:¬ (9223372036854775807 < (B ++ A).size + C.size):=by rw [ByteArray.size_append];omega
       have s2':¬ (9223372036854775807 < B.size + A.size + C.size):=by omega
       have s3:¬ (9223372036854775807 < (B ++ A ++ C).size + SP.size):=by rw [ByteArray.size_append,ByteArray.size_append];omega
       have s3':¬ (9223372036854775807 < B.size + A.size + C.size + SP.size):=by omega
       have s4:¬ (9223372036854775807 < (B ++ A ++ C ++ SP).size + TL.size):=by rw [ByteArray.size_append,ByteArray.size_append,ByteArray.size_append];omega
       have s4':¬ (9223372036854775807 < B.size + A.size + C.size + SP.size + TL.size):=by omega
       have s5:¬ (9223372036854775807 < S.size + (B ++ A ++ C ++ SP ++ TL).size):=by rw [ByteArray.size_append,ByteArray.size_append,ByteArray.size_append,ByteArray.size_append];omega
       have s5':¬ (9223372036854775807 < S.size + (B.size + A.size + C.size + SP.size + TL.size)):=by omega
       rw [hTL] at HTL
       have HSP:=Lib.hid hSP
       have q0:=(HB.out.cell (p:=⟨bx,ox + j * 6,none⟩) (Nat.lt_of_lt_of_le hbx HW2.out.size)).trans ((HW2.out.cell (p:=⟨bx,ox + j * 6,none⟩) hbx).trans p0)
       have q1:=(HB.out.cell (p:=⟨bx,ox + j * 6 + 1,none⟩) (Nat.lt_of_lt_of_le hbx HW2.out.size)).trans ((HW2.out.cell (p:=⟨bx,ox + j * 6 + 1,none⟩) hbx).trans p1)
       have q2:=(HB.out.cell (p:=⟨bx,ox + j * 6 + 2,none⟩) (Nat.lt_of_lt_of_le hbx HW2.out.size)).trans ((HW2.out.cell (p:=⟨bx,ox + j * 6 + 2,none⟩) hbx).trans p2)
       have q3:=(HB.out.cell (p:=⟨bx,ox + j * 6 + 3,none⟩) (Nat.lt_of_lt_of_le hbx HW2.out.size)).trans ((HW2.out.cell (p:=⟨bx,ox + j * 6 + 3,none⟩) hbx).trans p3)
       have q4:=(HB.out.cell (p:=⟨bx,ox + j * 6 + 4,none⟩) (Nat.lt_of_lt_of_le hbx HW2.out.size)).trans ((HW2.out.cell (p:=⟨bx,ox + j * 6 + 4,none⟩) hbx).trans p4)
       have q5:=(HB.out.cell (p:=⟨bx,ox + j * 6 + 5,none⟩) (Nat.lt_of_lt_of_le hbx HW2.out.size)).trans ((HW2.out.cell (p:=⟨bx,ox + j * 6 + 5,none⟩) hbx).trans p5)
       have hj0:(0:Int)≤(j:Int):=by omega
       have hj1:(j:Int) < (n:Int):=by omega
       have HNW:=Lib.hid (wrAt_new wr (tn:Int) (rn:Int) (kn:Int) keyx vx nx 59)
       have HB7:Hid (Below w2.heap.size w2 (wr.alloc (.cells #[.int .i64 (tn:Int),.int .i64 (rn:Int),.int .i64 (kn:Int),.string keyx,.string vx,.int .i64 nx] 59))):=Lib.hid (HB.out.alloc HB.out.size _)
       have HZ7:Hid (wr.heap.size < (wr.alloc (.cells #[.int .i64 (tn:Int),.int .i64 (rn:Int),.int .i64 (kn:Int),.string keyx,.string vx,.int .i64 nx] 59)).heap.size):=Lib.hid (by simp)
       clear p0 p1 p2 p3 p4 p5 hx hwx hsn hpre hsz f1 f2 f3 f4 f5 f6 f7 f8 f9 f10 o1 o2 o3 o4 hTL htz hSP hpz hB hBz hA hC hAz hCz hRES
       go_wp2_with fail
       generalize wr.alloc (.cells #[.int .i64 (tn:Int),.int .i64 (rn:Int),.int .i64 (kn:Int),.string keyx,.string vx,.int .i64 nx] 59)=W7 at HNW HB7 HZ7 ⊢
       refine (rspan_ok keyx W7 HKZ.out).mono ?_
       rintro r w8 ⟨rfl,hb8⟩
       rw [HSP.out]
       have HN8:=Lib.hid (HNW.out.below hb8 HZ7.out)
       have HB8:Hid (Below w2.heap.size w2 w8):=Lib.hid (HB7.out.trans (hb8.mono HB7.out.size))
       have HZ8:Hid (wr.heap.size < w8.heap.size):=Lib.hid (Nat.lt_of_lt_of_le HZ7.out hb8.size)
       clear hb8 q0 q1 q2 q3 q4 q5
       obtain ⟨c0,c1,c2,c3,c4,c5⟩:=HN8.out
       go_wp2_with fail
       refine (rtail_any (tn:Int) (rn:Int) (kn:Int) keyx vx nx w8 HK1.out HV1.out HN1.out.1 HN1.out.2).mono ?_
       rintro r w9 ⟨rfl,hb9⟩
       rw [HTL.out]
       have HN9:=Lib.hid (HN8.out.below hb9 HZ8.out)
       have HB9:Hid (Below w2.heap.size w2 w9):=Lib.hid (HB8.out.trans (hb9.mono HB8.out.size))
       have HZ9:Hid (wr.heap.size < w9.heap.size):=Lib.hid (Nat.lt_of_lt_of_le HZ8.out hb9.size)
       clear hb9 c0 c1 c2 c3 c4 c5
       have HSF:Hid (∀ w',Below w9.heap.size w9 w'→(w'.cell? ⟨wr.heap.size,0,none⟩=some (.int .i64 (tn:Int))∧w'.cell? ⟨wr.heap.size,1,none⟩=some (.int .i64 (rn:Int))∧w'.cell? ⟨wr.heap.size,2,none⟩=some (.int .i64 (kn:Int)))):=Lib.hid (fun w' hb=>by
         obtain ⟨h0,h1,h2,_⟩:=HN9.out.below hb HZ9.out
         exact ⟨h0,h1,h2⟩)
       have HBW0:Hid (Below w9.heap.size w9 w9.drew):=Lib.hid (Below.refl _ _).drew
       go_wp2
       refine wp_region_held_drew (S:=fun w'=>w'.cell? ⟨wr.heap.size,0,none⟩=some (.int .i64 (tn:Int))∧w'.cell? ⟨wr.heap.size,1,none⟩=some (.int .i64 (rn:Int))∧w'.cell? ⟨wr.heap.size,2,none⟩=some (.int .i64 (kn:Int))) (by kernel_rfl) (HSF.out _ HBW0.out) (fun hHeld=>?_)
       generalize w9.drew=W0 at HBW0 hHeld ⊢
       refine wpAnyH_take (i:=0) (v:=?v0) rfl (by kernel_rfl) (by kernel_rfl) (by kernel_rfl) (fun _ _ _ h=>h) (Or.inl ⟨by rfl,?h0⟩) (by assumption) ?r0
       case h0=>(intro W hSw;(try dsimp only at hSw);go_simp;all_goals (with_reducible rfl))
       try simp only [Act.put,List.getElem_toArray,List.getElem_cons_zero,List.setIfInBounds_toArray,List.set_cons_zero,List.set_cons_succ]
       refine wpAnyH_take (i:=1) (v:=?v1) rfl (by kernel_rfl) (by kernel_rfl) (by kernel_rfl) (fun _ _ _ h=>h) (Or.inl ⟨by rfl,?h1⟩) (by assumption) ?r1
       case h1=>(intro W hSw;(try dsimp only at hSw);go_simp;all_goals (with_reducible rfl))
       try simp only [Act.put,List.getElem_toArray,List.getElem_cons_zero,List.getElem_cons_succ,List.setIfInBounds_toArray,List.set_cons_zero,List.set_cons_succ]
       refine wpAnyH_take (i:=2) (v:=?v2) rfl (by kernel_rfl) (by kernel_rfl) (by kernel_rfl) (fun _ _ _ h=>h) (Or.inl ⟨by rfl,?h2⟩) (by assumption) ?r2
       case h2=>(intro W hSw;(try dsimp only at hSw);go_simp;all_goals (with_reducible rfl))
       try simp only [Act.put,List.getElem_toArray,List.getElem_cons_zero,List.getElem_cons_succ,List.setIfInBounds_toArray,List.set_cons_zero,List.set_cons_succ]
       refine wpAnyH_take (i:=3) (v:=?v3) rfl (by kernel_rfl) (by kernel_rfl) (by kernel_rfl) (fun _ _ _ h=>h) (Or.inl ⟨by rfl,?h3⟩) (by assumption) ?r3
       case h3=>(intro W hSw;(try dsimp only at hSw);go_simp;all_goals (with_reducible rfl))
       try simp only [Act.put,List.getElem_toArray,List.getElem_cons_zero,List.getElem_cons_succ,List.setIfInBounds_toArray,List.set_cons_zero,List.set_cons_succ]
       refine wpAnyH_take (i:=6) (v:=?v6) rfl (by kernel_rfl) (by kernel_rfl) (by kernel_rfl) (fun _ _ _ h=>h) (Or.inl ⟨by rfl,?h6⟩) (by assumption) ?r6
       case h6=>(intro W hSw;(try dsimp only at hSw);go_simp;all_goals (with_reducible rfl))
       try simp only [Act.put,List.getElem_toArray,List.getElem_cons_zero,List.getElem_cons_succ,List.setIfInBounds_toArray,List.set_cons_zero,List.set_cons_succ]
       refine wpAnyH_take (i:=7) (v:=?v7) rfl (by kernel_rfl) (by kernel_rfl) (by kernel_rfl) (fun _ _ _ h=>h) (Or.inl ⟨by rfl,?h7⟩) (by assumption) ?r7
       case h7=>(intro W hSw;(try dsimp only at hSw);go_simp;all_goals (with_reducible rfl))
       try simp only [Act.put,List.getElem_toArray,List.getElem_cons_zero,List.getElem_cons_succ,List.setIfInBounds_toArray,List.set_cons_zero,List.set_cons_succ]
       refine wpAnyH_take (i:=8) (v:=?v8) rfl (by kernel_rfl) (by kernel_rfl) (by kernel_rfl) (fun _ _ _ h=>h) (Or.inl ⟨by rfl,?h8⟩) (by assumption) ?r8
       case h8=>(intro W hSw;(try dsimp only at hSw);go_simp;all_goals (with_reducible rfl))
       try simp only [Act.put,List.getElem_toArray,List.getElem_cons_zero,List.getElem_cons_succ,List.setIfInBounds_toArray,List.set_cons_zero,List.set_cons_succ]
       refine wpAnyH_take (i:=9) (v:=?v9) rfl (by kernel_rfl) (by kernel_rfl) (by kernel_rfl) (fun _ _ _ h=>h) (Or.inl ⟨by rfl,?h9⟩) (by assumption) ?r9
       case h9=>(intro W hSw;(try dsimp only at hSw);go_simp;all_goals (with_reducible rfl))
       try simp only [Act.put,List.getElem_toArray,List.getElem_cons_zero,List.getElem_cons_succ,List.setIfInBounds_toArray,List.set_cons_zero,List.set_cons_succ]
       refine wpAnyH_take (i:=12) (v:=?v12) rfl (by kernel_rfl) (by kernel_rfl) (by kernel_rfl) (fun _ _ _ h=>h) (Or.inl ⟨by rfl,?h12⟩) (by assumption) ?r12
       case h12=>(intro W hSw;(try dsimp only at hSw);go_simp;all_goals (with_reducible rfl))
       try simp only [Act.put,List.getElem_toArray,List.getElem_cons_zero,List.getElem_cons_succ,List.setIfInBounds_toArray,List.set_cons_zero,List.set_cons_succ]
       refine wpAnyH_take (i:=13) (v:=?v13) rfl (by kernel_rfl) (by kernel_rfl) (by kernel_rfl) (fun _ _ _ h=>h) (Or.inl ⟨by rfl,?h13⟩) (by assumption) ?r13
       case h13=>(intro W hSw;(try dsimp only at hSw);go_simp;all_goals (with_reducible rfl))
       try simp only [Act.put,List.getElem_toArray,List.getElem_cons_zero,List.getElem_cons_succ,List.setIfInBounds_toArray,List.set_cons_zero,List.set_cons_succ]
       refine wpAnyH_take (i:=14) (v:=?v14) rfl (by kernel_rfl) (by kernel_rfl) (by kernel_rfl) (fun _ _ _ h=>h) (Or.inl ⟨by rfl,?h14⟩) (by assumption) ?r14
       case h14=>(intro W hSw;(try dsimp only at hSw);go_simp;all_goals (with_reducible rfl))
       try simp only [Act.put,List.getElem_toArray,List.getElem_cons_zero,List.getElem_cons_succ,List.setIfInBounds_toArray,List.set_cons_zero,List.set_cons_succ]
       refine wpAnyH_take (i:=15) (v:=?v15) rfl (by kernel_rfl) (by kernel_rfl) (by kernel_rfl) (fun _ _ _ h=>h) (Or.inl ⟨by rfl,?h15⟩) (by assumption) ?r15
       case h15=>(intro W hSw;(try dsimp only at hSw);go_simp;all_goals (with_reducible rfl))
       try simp only [Act.put,List.getElem_toArray,List.getElem_cons_zero,List.getElem_cons_succ,List.setIfInBounds_toArray,List.set_cons_zero,List.set_cons_succ]
       refine wpAnyH_take (i:=18) (v:=?v18) rfl (by kernel_rfl) (by kernel_rfl) (by kernel_rfl) (fun _ _ _ h=>h) (Or.inl ⟨by rfl,?h18⟩) (by assumption) ?r18
       case h18=>(intro W hSw;(try dsimp only at hSw);go_simp;all_goals (with_reducible rfl))
       try simp only [Act.put,List.getElem_toArray,List.getElem_cons_zero,List.getElem_cons_succ,List.setIfInBounds_toArray,List.set_cons_zero,List.set_cons_succ]
       refine wpAnyH_take (i:=20) (v:=?v20) rfl (by kernel_rfl) (by kernel_rfl) (by kernel_rfl) (fun _ _ _ h=>h) (Or.inl ⟨by rfl,?h20⟩) (by assumption) ?r20
       case h20=>(intro W hSw;(try dsimp only at hSw);go_simp;all_goals (with_reducible rfl))
       try simp only [Act.put,List.getElem_toArray,List.getElem_cons_zero,List.getElem_cons_succ,List.setIfInBounds_toArray,List.set_cons_zero,List.set_cons_succ]
       refine wpAnyH_ready (rs:=[4,10]) (by kernel_rfl) (by simp) ?_
       refine AllReadyH.cons rfl (fun KK hKK=>?_) (AllReadyH.cons rfl (fun KK hKK=>?_) AllReadyH.nil)
       · go_simp
         refine hKK.out _ _ (HSF.out _ (HBW0.out.alloc HBW0.out.size _)) (fun hHeldWA0=>?_)
         clear hKK hHeld
         try simp only [Act.put,List.getElem_toArray,List.getElem_cons_zero,List.getElem_cons_succ,List.setIfInBounds_toArray,List.set_cons_zero,List.set_cons_succ]
         have HBWA0:Hid (Below w9.heap.size w9 (W0.alloc (.cells #[.int .u8 (kn:Int)] 5))):=Lib.hid (HBW0.out.alloc HBW0.out.size _)
         have hrowWA0:(W0.alloc (.cells #[.int .u8 (kn:Int)] 5)).heap[W0.heap.size]? = some (.cells #[.int .u8 (kn:Int)] 5 (0,0)):=heap_alloc_new W0 _
         have hltWA0:W0.heap.size < (W0.alloc (.cells #[.int .u8 (kn:Int)] 5)).heap.size:=by simp
         generalize W0.alloc (.cells #[.int .u8 (kn:Int)] 5)=WA0 at HBWA0 hrowWA0 hltWA0 hHeldWA0 ⊢
         generalize W0.heap.size=bl at hrowWA0 hltWA0 ⊢
         have HRWA0:Hid (∀ w',Below WA0.heap.size WA0 w'→(w'.cell? ⟨wr.heap.size,0,none⟩=some (.int .i64 (tn:Int))∧w'.cell? ⟨wr.heap.size,1,none⟩=some (.int .i64 (rn:Int))∧w'.cell? ⟨wr.heap.size,2,none⟩=some (.int .i64 (kn:Int)))∧w'.heap[bl]? = some (.cells #[.int .u8 (kn:Int)] 5 (0,0))):=Lib.hid (fun w' hb=>⟨HSF.out _ (HBWA0.out.trans (hb.mono HBWA0.out.size)),(hb.block bl hltWA0).trans hrowWA0⟩)
         have HLWA0:Hid (Below WA0.heap.size WA0 WA0):=Lib.hid (Below.refl _ _)
         have hHeld2:=HRWA0.out _ HLWA0.out
         clear hHeldWA0 hrowWA0 hltWA0
         refine wpAnyH_weakO (S':=fun w'=>(w'.cell? ⟨wr.heap.size,0,none⟩=some (.int .i64 (tn:Int))∧w'.cell? ⟨wr.heap.size,1,none⟩=some (.int .i64 (rn:Int))∧w'.cell? ⟨wr.heap.size,2,none⟩=some (.int .i64 (kn:Int)))∧w'.heap[bl]? = some (.cells #[.int .u8 (kn:Int)] 5 (0,0))) (fun _ h=>h.1) _ _ _ _ ?_
         refine wpAnyH_take (i:=5) (v:=?v5a0) rfl (by kernel_rfl) (by kernel_rfl) (by kernel_rfl) (fun _ _ _ h=>h) (Or.inl ⟨by rfl,?h5a0⟩) (by assumption) ?r5a0
         case h5a0=>(intro W hSw;have hcv:=byte_lit kn (kn:Int) B rfl HBB.out HK255.out W bl hSw.2;(try dsimp only at hSw);go_simp;all_goals (with_reducible rfl))
         try simp only [Act.put,List.getElem_toArray,List.getElem_cons_zero,List.getElem_cons_succ,List.setIfInBounds_toArray,List.set_cons_zero,List.set_cons_succ]
         refine wpAnyH_ready (rs:=[10]) (by kernel_rfl) (by simp) ?_
         refine AllReadyH.cons rfl (fun KK hKK=>?_) AllReadyH.nil
         go_simp
         refine (HAC.out _).mono ?_
         rintro r WB00 ⟨rfl,hbWB00⟩
         have HBWB00:Hid (Below w9.heap.size w9 WB00):=Lib.hid (HBWA0.out.trans (hbWB00.mono HBWA0.out.size))
         have HLWB00:Hid (Below WA0.heap.size WA0 WB00):=Lib.hid (HLWA0.out.trans (hbWB00.mono HLWA0.out.size))
         refine hKK.out _ _ (HRWA0.out _ HLWB00.out) (fun hHeldWB00=>?_)
         clear hKK hHeld2 hbWB00
         try simp only [Act.put,List.getElem_toArray,List.getElem_cons_zero,List.getElem_cons_succ,List.setIfInBounds_toArray,List.set_cons_zero,List.set_cons_succ]
         refine wpAnyH_take (i:=11) (v:=?v11b00) rfl (by kernel_rfl) (by kernel_rfl) (by kernel_rfl) (fun _ _ _ h=>h) (Or.inl ⟨by rfl,?h11b00⟩) (by assumption) ?r11b00
         case h11b00=>(intro W hSw;(try dsimp only at hSw);go_simp;all_goals (with_reducible rfl))
         try simp only [Act.put,List.getElem_toArray,List.getElem_cons_zero,List.getElem_cons_succ,List.setIfInBounds_toArray,List.set_cons_zero,List.set_cons_succ]
         refine wpAnyH_ready (rs:=[16]) (by kernel_rfl) (by simp) ?_
         refine AllReadyH.cons rfl (fun KK hKK=>?_) AllReadyH.nil
         go_simp
         refine (HCC.out _).mono ?_
         rintro r WB01 ⟨rfl,hbWB01⟩
         have HBWB01:Hid (Below w9.heap.size w9 WB01):=Lib.hid (HBWB00.out.trans (hbWB01.mono HBWB00.out.size))
         have HLWB01:Hid (Below WA0.heap.size WA0 WB01):=Lib.hid (HLWB00.out.trans (hbWB01.mono HLWB00.out.size))
         refine hKK.out _ _ (HRWA0.out _ HLWB01.out) (fun hHeldWB01=>?_)
         clear hKK hHeldWB00 hbWB01
         try simp only [Act.put,List.getElem_toArray,List.getElem_cons_zero,List.getElem_cons_succ,List.setIfInBounds_toArray,List.set_cons_zero,List.set_cons_succ]
         refine wpAnyH_take (i:=17) (v:=?v17b01) rfl (by kernel_rfl) (by kernel_rfl) (by kernel_rfl) (fun _ _ _ h=>h) (Or.inl ⟨by rfl,?h17b01⟩) (by assumption) ?r17b01
         case h17b01=>(intro W hSw;(try dsimp only at hSw);go_simp;all_goals (with_reducible rfl))
         try simp only [Act.put,List.getElem_toArray,List.getElem_cons_zero,List.getElem_cons_succ,List.setIfInBounds_toArray,List.set_cons_zero,List.set_cons_succ]
         refine wpAnyH_take (i:=19) (v:=?v19b01) rfl (by kernel_rfl) (by kernel_rfl) (by kernel_rfl) (fun _ _ _ h=>h) (Or.inl ⟨by rfl,?h19b01⟩) (by assumption) ?r19b01
         case h19b01=>(intro W hSw;(try dsimp only at hSw);go_simp;all_goals (with_reducible rfl))
         try simp only [Act.put,List.getElem_toArray,List.getElem_cons_zero,List.getElem_cons_succ,List.setIfInBounds_toArray,List.set_cons_zero,List.set_cons_succ]
         refine wpAnyH_take (i:=21) (v:=?v21b01) rfl (by kernel_rfl) (by kernel_rfl) (by kernel_rfl) (fun _ _ _ h=>h) (Or.inl ⟨by rfl,?h21b01⟩) (by assumption) ?r21b01
         case h21b01=>(intro W hSw;(try dsimp only at hSw);go_simp;all_goals (with_reducible rfl))
         try simp only [Act.put,List.getElem_toArray,List.getElem_cons_zero,List.getElem_cons_succ,List.setIfInBounds_toArray,List.set_cons_zero,List.set_cons_succ]
         refine wpAnyH_take (i:=22) (v:=?v22b01) rfl (by kernel_rfl) (by kernel_rfl) (by kernel_rfl) (fun _ _ _ h=>h) (Or.inl ⟨by rfl,?h22b01⟩) (by assumption) ?r22b01
         case h22b01=>(intro W hSw;(try dsimp only at hSw);go_simp;all_goals (with_reducible rfl))
         try simp only [Act.put,List.getElem_toArray,List.getElem_cons_zero,List.getElem_cons_succ,List.setIfInBounds_toArray,List.set_cons_zero,List.set_cons_succ]
         refine wpAnyH_take (i:=23) (v:=?v23b01) rfl (by kernel_rfl) (by kernel_rfl) (by kernel_rfl) (fun _ _ _ h=>h) (Or.inl ⟨by rfl,?h23b01⟩) (by assumption) ?r23b01
         case h23b01=>(intro W hSw;(try dsimp only at hSw);go_simp;all_goals (with_reducible rfl))
         try simp only [Act.put,List.getElem_toArray,List.getElem_cons_zero,List.getElem_cons_succ,List.setIfInBounds_toArray,List.set_cons_zero,List.set_cons_succ]
         refine wpAnyH_done (by kernel_rfl) ?_ _
         have hn60:=HN60.out
         go_wp2
         go_roundw
         case rel=>exact ⟨j + 1,S ++ (B ++ A ++ C ++ SP ++ TL),by omega,by go_num,rfl,HNX.out,HB9.out.trans (HBWB01.out.mono HB9.out.size)⟩
         case measure=>simp [intOf];omega
       · go_simp
         refine (HAC.out _).mono ?_
         rintro r WC0 ⟨rfl,hbWC0⟩
         have HBWC0:Hid (Below w9.heap.size w9 WC0):=Lib.hid (HBW0.out.trans (hbWC0.mono HBW0.out.size))
         refine hKK.out _ _ (HSF.out _ HBWC0.out) (fun hHeldWC0=>?_)
         clear hKK hHeld hbWC0
         try simp only [Act.put,List.getElem_toArray,List.getElem_cons_zero,List.getElem_cons_succ,List.setIfInBounds_toArray,List.set_cons_zero,List.set_cons_succ]
         refine wpAnyH_ready (rs:=[4,16]) (by kernel_rfl) (by simp) ?_
         refine AllReadyH.cons rfl (fun KK hKK=>?_) (AllReadyH.cons rfl (fun KK hKK=>?_) AllReadyH.nil)
         · go_simp
           refine hKK.out _ _ (HSF.out _ (HBWC0.out.alloc HBWC0.out.size _)) (fun hHeldWA1=>?_)
           clear hKK hHeldWC0
           try simp only [Act.put,List.getElem_toArray,List.getElem_cons_zero,List.getElem_cons_succ,List.setIfInBounds_toArray,List.set_cons_zero,List.set_cons_succ]
           have HBWA1:Hid (Below w9.heap.size w9 (WC0.alloc (.cells #[.int .u8 (kn:Int)] 5))):=Lib.hid (HBWC0.out.alloc HBWC0.out.size _)
           have hrowWA1:(WC0.alloc (.cells #[.int .u8 (kn:Int)] 5)).heap[WC0.heap.size]? = some (.cells #[.int .u8 (kn:Int)] 5 (0,0)):=heap_alloc_new WC0 _
           have hltWA1:WC0.heap.size < (WC0.alloc (.cells #[.int .u8 (kn:Int)] 5)).heap.size:=by simp
           generalize WC0.alloc (.cells #[.int .u8 (kn:Int)] 5)=WA1 at HBWA1 hrowWA1 hltWA1 hHeldWA1 ⊢
           generalize WC0.heap.size=bl at hrowWA1 hltWA1 ⊢
           have HRWA1:Hid (∀ w',Below WA1.heap.size WA1 w'→(w'.cell? ⟨wr.heap.size,0,none⟩=some (.int .i64 (tn:Int))∧w'.cell? ⟨wr.heap.size,1,none⟩=some (.int .i64 (rn:Int))∧w'.cell? ⟨wr.heap.size,2,none⟩=some (.int .i64 (kn:Int)))∧w'.heap[bl]? = some (.cells #[.int .u8 (kn:Int)] 5 (0,0))):=Lib.hid (fun w' hb=>⟨HSF.out _ (HBWA1.out.trans (hb.mono HBWA1.out.size)),(hb.block bl hltWA1).trans hrowWA1⟩)
           have HLWA1:Hid (Below WA1.heap.size WA1 WA1):=Lib.hid (Below.refl _ _)
           have hHeld2:=HRWA1.out _ HLWA1.out
           clear hHeldWA1 hrowWA1 hltWA1
           refine wpAnyH_weakO (S':=fun w'=>(w'.cell? ⟨wr.heap.size,0,none⟩=some (.int .i64 (tn:Int))∧w'.cell? ⟨wr.heap.size,1,none⟩=some (.int .i64 (rn:Int))∧w'.cell? ⟨wr.heap.size,2,none⟩=some (.int .i64 (kn:Int)))∧w'.heap[bl]? = some (.cells #[.int .u8 (kn:Int)] 5 (0,0))) (fun _ h=>h.1) _ _ _ _ ?_
           refine wpAnyH_take (i:=5) (v:=?v5a1) rfl (by kernel_rfl) (by kernel_rfl) (by kernel_rfl) (fun _ _ _ h=>h) (Or.inl ⟨by rfl,?h5a1⟩) (by assumption) ?r5a1
           case h5a1=>(intro W hSw;have hcv:=byte_lit kn (kn:Int) B rfl HBB.out HK255.out W bl hSw.2;(try dsimp only at hSw);go_simp;all_goals (with_reducible rfl))
           try simp only [Act.put,List.getElem_toArray,List.getElem_cons_zero,List.getElem_cons_succ,List.setIfInBounds_toArray,List.set_cons_zero,List.set_cons_succ]
           refine wpAnyH_take (i:=11) (v:=?v11a1) rfl (by kernel_rfl) (by kernel_rfl) (by kernel_rfl) (fun _ _ _ h=>h) (Or.inl ⟨by rfl,?h11a1⟩) (by assumption) ?r11a1
           case h11a1=>(intro W hSw;(try dsimp only at hSw);go_simp;all_goals (with_reducible rfl))
           try simp only [Act.put,List.getElem_toArray,List.getElem_cons_zero,List.getElem_cons_succ,List.setIfInBounds_toArray,List.set_cons_zero,List.set_cons_succ]
           refine wpAnyH_ready (rs:=[16]) (by kernel_rfl) (by simp) ?_
           refine AllReadyH.cons rfl (fun KK hKK=>?_) AllReadyH.nil
           go_simp
           refine (HCC.out _).mono ?_
           rintro r WB11 ⟨rfl,hbWB11⟩
           have HBWB11:Hid (Below w9.heap.size w9 WB11):=Lib.hid (HBWA1.out.trans (hbWB11.mono HBWA1.out.size))
           have HLWB11:Hid (Below WA1.heap.size WA1 WB11):=Lib.hid (HLWA1.out.trans (hbWB11.mono HLWA1.out.size))
           refine hKK.out _ _ (HRWA1.out _ HLWB11.out) (fun hHeldWB11=>?_)
           clear hKK hHeld2 hbWB11
           try simp only [Act.put,List.getElem_toArray,List.getElem_cons_zero,List.getElem_cons_succ,List.setIfInBounds_toArray,List.set_cons_zero,List.set_cons_succ]
           refine wpAnyH_take (i:=17) (v:=?v17b11) rfl (by kernel_rfl) (by kernel_rfl) (by kernel_rfl) (fun _ _ _ h=>h) (Or.inl ⟨by rfl,?h17b11⟩) (by assumption) ?r17b11
           case h17b11=>(intro W hSw;(try dsimp only at hSw);go_simp;all_goals (with_reducible rfl))
           try simp only [Act.put,List.getElem_toArray,List.getElem_cons_zero,List.getElem_cons_succ,List.setIfInBounds_toArray,List.set_cons_zero,List.set_cons_succ]
           refine wpAnyH_take (i:=19) (v:=?v19b11) rfl (by kernel_rfl) (by kernel_rfl) (by kernel_rfl) (fun _ _ _ h=>h) (Or.inl ⟨by rfl,?h19b11⟩) (by assumption) ?r19b11
           case h19b11=>(intro W hSw;(try dsimp only at hSw);go_simp;all_goals (with_reducible rfl))
           try simp only [Act.put,List.getElem_toArray,List.getElem_cons_zero,List.getElem_cons_succ,List.setIfInBounds_toArray,List.set_cons_zero,List.set_cons_succ]
           refine wpAnyH_take (i:=21) (v:=?v21b11) rfl (by kernel_rfl) (by kernel_rfl) (by kernel_rfl) (fun _ _ _ h=>h) (Or.inl ⟨by rfl,?h21b11⟩) (by assumption) ?r21b11
           case h21b11=>(intro W hSw;(try dsimp only at hSw);go_simp;all_goals (with_reducible rfl))
           try simp only [Act.put,List.getElem_toArray,List.getElem_cons_zero,List.getElem_cons_succ,List.setIfInBounds_toArray,List.set_cons_zero,List.set_cons_succ]
           refine wpAnyH_take (i:=22) (v:=?v22b11) rfl (by kernel_rfl) (by kernel_rfl) (by kernel_rfl) (fun _ _ _ h=>h) (Or.inl ⟨by rfl,?h22b11⟩) (by assumption) ?r22b11
           case h22b11=>(intro W hSw;(try dsimp only at hSw);go_simp;all_goals (with_reducible rfl))
           try simp only [Act.put,List.getElem_toArray,List.getElem_cons_zero,List.getElem_cons_succ,List.setIfInBounds_toArray,List.set_cons_zero,List.set_cons_succ]
           refine wpAnyH_take (i:=23) (v:=?v23b11) rfl (by kernel_rfl) (by kernel_rfl) (by kernel_rfl) (fun _ _ _ h=>h) (Or.inl ⟨by rfl,?h23b11⟩) (by assumption) ?r23b11
           case h23b11=>(intro W hSw;(try dsimp only at hSw);go_simp;all_goals (with_reducible rfl))
           try simp only [Act.put,List.getElem_toArray,List.getElem_cons_zero,List.getElem_cons_succ,List.setIfInBounds_toArray,List.set_cons_zero,List.set_cons_succ]
           refine wpAnyH_done (by kernel_rfl) ?_ _
           have hn60:=HN60.out
           go_wp2
           go_roundw
           case rel=>exact ⟨j + 1,S ++ (B ++ A ++ C ++ SP ++ TL),by omega,by go_num,rfl,HNX.out,HB9.out.trans (HBWB11.out.mono HB9.out.size)⟩
           case measure=>simp [intOf];omega
         · go_simp
           refine (HCC.out _).mono ?_
           rintro r WC1 ⟨rfl,hbWC1⟩
           have HBWC1:Hid (Below w9.heap.size w9 WC1):=Lib.hid (HBWC0.out.trans (hbWC1.mono HBWC0.out.size))
           refine hKK.out _ _ (HSF.out _ HBWC1.out) (fun hHeldWC1=>?_)
           clear hKK hHeldWC0 hbWC1
           try simp only [Act.put,List.getElem_toArray,List.getElem_cons_zero,List.getElem_cons_succ,List.setIfInBounds_toArray,List.set_cons_zero,List.set_cons_succ]
           refine wpAnyH_ready (rs:=[4]) (by kernel_rfl) (by simp) ?_
           refine AllReadyH.cons rfl (fun KK hKK=>?_) AllReadyH.nil
           · go_simp
             refine hKK.out _ _ (HSF.out _ (HBWC1.out.alloc HBWC1.out.size _)) (fun hHeldWA2=>?_)
             clear hKK hHeldWC1
             try simp only [Act.put,List.getElem_toArray,List.getElem_cons_zero,List.getElem_cons_succ,List.setIfInBounds_toArray,List.set_cons_zero,List.set_cons_succ]
             have HBWA2:Hid (Below w9.heap.size w9 (WC1.alloc (.cells #[.int .u8 (kn:Int)] 5))):=Lib.hid (HBWC1.out.alloc HBWC1.out.size _)
             have hrowWA2:(WC1.alloc (.cells #[.int .u8 (kn:Int)] 5)).heap[WC1.heap.size]? = some (.cells #[.int .u8 (kn:Int)] 5 (0,0)):=heap_alloc_new WC1 _
             have hltWA2:WC1.heap.size < (WC1.alloc (.cells #[.int .u8 (kn:Int)] 5)).heap.size:=by simp
             generalize WC1.alloc (.cells #[.int .u8 (kn:Int)] 5)=WA2 at HBWA2 hrowWA2 hltWA2 hHeldWA2 ⊢
             generalize WC1.heap.size=bl at hrowWA2 hltWA2 ⊢
             have HRWA2:Hid (∀ w',Below WA2.heap.size WA2 w'→(w'.cell? ⟨wr.heap.size,0,none⟩=some (.int .i64 (tn:Int))∧w'.cell? ⟨wr.heap.size,1,none⟩=some (.int .i64 (rn:Int))∧w'.cell? ⟨wr.heap.size,2,none⟩=some (.int .i64 (kn:Int)))∧w'.heap[bl]? = some (.cells #[.int .u8 (kn:Int)] 5 (0,0))):=Lib.hid (fun w' hb=>⟨HSF.out _ (HBWA2.out.trans (hb.mono HBWA2.out.size)),(hb.block bl hltWA2).trans hrowWA2⟩)
             have HLWA2:Hid (Below WA2.heap.size WA2 WA2):=Lib.hid (Below.refl _ _)
             have hHeld2:=HRWA2.out _ HLWA2.out
             clear hHeldWA2 hrowWA2 hltWA2
             refine wpAnyH_weakO (S':=fun w'=>(w'.cell? ⟨wr.heap.size,0,none⟩=some (.int .i64 (tn:Int))∧w'.cell? ⟨wr.heap.size,1,none⟩=some (.int .i64 (rn:Int))∧w'.cell? ⟨wr.heap.size,2,none⟩=some (.int .i64 (kn:Int)))∧w'.heap[bl]? = some (.cells #[.int .u8 (kn:Int)] 5 (0,0))) (fun _ h=>h.1) _ _ _ _ ?_
             refine wpAnyH_take (i:=5) (v:=?v5a2) rfl (by kernel_rfl) (by kernel_rfl) (by kernel_rfl) (fun _ _ _ h=>h) (Or.inl ⟨by rfl,?h5a2⟩) (by assumption) ?r5a2
             case h5a2=>(intro W hSw;have hcv:=byte_lit kn (kn:Int) B rfl HBB.out HK255.out W bl hSw.2;(try dsimp only at hSw);go_simp;all_goals (with_reducible rfl))
             try simp only [Act.put,List.getElem_toArray,List.getElem_cons_zero,List.getElem_cons_succ,List.setIfInBounds_toArray,List.set_cons_zero,List.set_cons_succ]
             refine wpAnyH_take (i:=11) (v:=?v11a2) rfl (by kernel_rfl) (by kernel_rfl) (by kernel_rfl) (fun _ _ _ h=>h) (Or.inl ⟨by rfl,?h11a2⟩) (by assumption) ?r11a2
             case h11a2=>(intro W hSw;(try dsimp only at hSw);go_simp;all_goals (with_reducible rfl))
             try simp only [Act.put,List.getElem_toArray,List.getElem_cons_zero,List.getElem_cons_succ,List.setIfInBounds_toArray,List.set_cons_zero,List.set_cons_succ]
             refine wpAnyH_take (i:=17) (v:=?v17a2) rfl (by kernel_rfl) (by kernel_rfl) (by kernel_rfl) (fun _ _ _ h=>h) (Or.inl ⟨by rfl,?h17a2⟩) (by assumption) ?r17a2
             case h17a2=>(intro W hSw;(try dsimp only at hSw);go_simp;all_goals (with_reducible rfl))
             try simp only [Act.put,List.getElem_toArray,List.getElem_cons_zero,List.getElem_cons_succ,List.setIfInBounds_toArray,List.set_cons_zero,List.set_cons_succ]
             refine wpAnyH_take (i:=19) (v:=?v19a2) rfl (by kernel_rfl) (by kernel_rfl) (by kernel_rfl) (fun _ _ _ h=>h) (Or.inl ⟨by rfl,?h19a2⟩) (by assumption) ?r19a2
             case h19a2=>(intro W hSw;(try dsimp only at hSw);go_simp;all_goals (with_reducible rfl))
             try simp only [Act.put,List.getElem_toArray,List.getElem_cons_zero,List.getElem_cons_succ,List.setIfInBounds_toArray,List.set_cons_zero,List.set_cons_succ]
             refine wpAnyH_take (i:=21) (v:=?v21a2) rfl (by kernel_rfl) (by kernel_rfl) (by kernel_rfl) (fun _ _ _ h=>h) (Or.inl ⟨by rfl,?h21a2⟩) (by assumption) ?r21a2
             case h21a2=>(intro W hSw;(try dsimp only at hSw);go_simp;all_goals (with_reducible rfl))
             try simp only [Act.put,List.getElem_toArray,List.getElem_cons_zero,List.getElem_cons_succ,List.setIfInBounds_toArray,List.set_cons_zero,List.set_cons_succ]
             refine wpAnyH_take (i:=22) (v:=?v22a2) rfl (by kernel_rfl) (by kernel_rfl) (by kernel_rfl) (fun _ _ _ h=>h) (Or.inl ⟨by rfl,?h22a2⟩) (by assumption) ?r22a2
             case h22a2=>(intro W hSw;(try dsimp only at hSw);go_simp;all_goals (with_reducible rfl))
             try simp only [Act.put,List.getElem_toArray,List.getElem_cons_zero,List.getElem_cons_succ,List.setIfInBounds_toArray,List.set_cons_zero,List.set_cons_succ]
             refine wpAnyH_take (i:=23) (v:=?v23a2) rfl (by kernel_rfl) (by kernel_rfl) (by kernel_rfl) (fun _ _ _ h=>h) (Or.inl ⟨by rfl,?h23a2⟩) (by assumption) ?r23a2
             case h23a2=>(intro W hSw;(try dsimp only at hSw);go_simp;all_goals (with_reducible rfl))
             try simp only [Act.put,List.getElem_toArray,List.getElem_cons_zero,List.getElem_cons_succ,List.setIfInBounds_toArray,List.set_cons_zero,List.set_cons_succ]
             refine wpAnyH_done (by kernel_rfl) ?_ _
             have hn60:=HN60.out
             go_wp2
             go_roundw
             case rel=>exact ⟨j + 1,S ++ (B ++ A ++ C ++ SP ++ TL),by omega,by go_num,rfl,HNX.out,HB9.out.trans (HBWA2.out.mono HB9.out.size)⟩
             case measure=>simp [intOf];omega
     · obtain rfl:j=n:=by omega
       have hsl:sealL S.data.toList=T.data.toList:=by
         have h:=HS.out
         rw [HLN.out,List.take_length] at h
         rw [h];exact HTT.out
       have hsz:S.size≤1000000:=by
         rw [size_data,HS.out]
         have h3:=oldWs_len (l.take j) (fun y hy=>HWE.out y (List.mem_of_mem_take hy))
         rw [List.length_take] at h3
         have:=HN60.out
         have:=HHDL.out
         simp only [List.length_cons]
         rw [List.length_append]
         omega
       have HSL:=Lib.hid hsl
       have HSZ:=Lib.hid hsz
       clear hsl hsz
       go_wp2_with fail
       refine (rseal_to S T wr HSZ.out HSL.out).mono ?_
       rintro r w5 ⟨rfl,hb5⟩
       have HBE:Hid (Below w2.heap.size w2 w5):=Lib.hid (HB.out.trans (hb5.mono HB.out.size))
       clear hb5
       go_wp2_with fail
       refine (good_any w5).mono ?_
       rintro r w6 ⟨rfl,hb6⟩
       have HBG:Hid (Below w2.heap.size w2 w6):=Lib.hid (HBE.out.trans (hb6.mono HBE.out.size))
       clear hb6
       have HFX:=Lib.hid (HF2.out.below HBG.out (by have:=HZ2.out;omega))
       have HWX:Hid (Below w.heap.size w w6):=Lib.hid (HW2.out.trans (HBG.out.mono HW2.out.size))
       obtain ⟨c0,c1⟩:=HFX.out.at
       have x0:=HFX.out.frozen 0
       have x1:=HFX.out.frozen 1
       have HFY:Hid (rowF ((w6.setCell ⟨F,0,none⟩ (.int .i64 0)).setCell ⟨F,1,none⟩ (.int .i64 (-1))) F 0 (-1)):=Lib.hid (HFX.out.put 0 (-1))
       have HWY:Hid (Below w.heap.size w ((w6.setCell ⟨F,0,none⟩ (.int .i64 0)).setCell ⟨F,1,none⟩ (.int .i64 (-1)))):=Lib.hid (below_put HWX.out HBW.out _ _)
       go_wp2
       generalize (w6.setCell ⟨F,0,none⟩ (.int .i64 0)).setCell ⟨F,1,none⟩ (.int .i64 (-1))=w7 at HFY HWY ⊢
       clear c0 c1 x0 x1
       obtain ⟨c0,c1⟩:=HFY.out.at
       go_wp2
       refine bodyPost_ret (v:=.tuple #[.string T,.agg #[.int .i64 0,.int .i64 (-1)]]) (by simp [results,Tryz.results29,go_sem,c0,c1]) rfl ?_
       exact ⟨rfl,HWY.out⟩
 · have hz:((e:Int) == 0)=false:=by simp;omega
   obtain rfl:=hTe hx0
   obtain ⟨c0,c1⟩:=HT2.out.at
   obtain ⟨c2,c3⟩:=HF2.out.at
   have g0:=HF2.out.frozen 0
   have g1:=HF2.out.frozen 1
   clear hbf hTe
   go_wp2
   go_region
   have HF3:Hid (rowF ((w2.setCell ⟨F,0,none⟩ (.int .i64 (e:Int))).setCell ⟨F,1,none⟩ (.int .i64 pl)).drew F e pl):=Lib.hid (HF2.out.put e pl)
   have HW3:Hid (Below w.heap.size w ((w2.setCell ⟨F,0,none⟩ (.int .i64 (e:Int))).setCell ⟨F,1,none⟩ (.int .i64 pl)).drew):=Lib.hid (below_put HW2.out HBW.out _ _).drew
   generalize ((w2.setCell ⟨F,0,none⟩ (.int .i64 (e:Int))).setCell ⟨F,1,none⟩ (.int .i64 pl)).drew=w3 at HF3 HW3 ⊢
   clear c0 c1 c2 c3 g0 g1
   obtain ⟨c0,c1⟩:=HF3.out.at
   go_wp2
   refine bodyPost_ret (v:=.tuple #[.string ⟨#[]⟩,.agg #[.int .i64 (e:Int),.int .i64 pl]]) (by simp [results,Tryz.results29,go_sem,c0,c1]) rfl ?_
   exact ⟨rfl,HW3.out⟩
end Go.Proofs.YtjkbmfpomgcblaaGreatDoor
