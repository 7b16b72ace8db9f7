import Derived.Test.YtjkbmfpomgcblaaGreatDoorKw22
import Derived.Test.YtjkbmfpomgcblaaGreatDoorKw21
import Derived.Test.YtjkbmfpomgcblaaGreatDoorKw15
namespace Go.Proofs.YtjkbmfpomgcblaaGreatDoor
open Go.RowKit
theorem rvw_right (v:Value) (l:List Ent) (U:ByteArray) (w:World) (hv:IsEnts w v l) (hr:rightV l) (hU:vwriteL l=U.data.toList) :
   Calls Tryz.prog 122 #[v] w fun e w'=>e=.returned (.tuple #[.string U,.agg #[.int .i64 0,.int .i64 (-1)]])∧Below w.heap.size w w':=by
 refine (rvwrite_good v l w hv (by have:=hr.1;omega) ((vright_ok l).2 hr)).mono ?_
 rintro e w' ⟨rfl,hb⟩
 refine ⟨?_,hb⟩
 rw [vright_of hr]
 rw [(vwriteF_right hr).trans hU]
 rfl
theorem wpAnyH_weak {P:Program} {md:Region.Mode} {ops:Array Oper} {Q:Exit→Act→World→Prop} {S S':World→Prop} (hS:∀ w,S' w→S w) :
   ∀ (fuel:Nat) (listed:Array Bool) (a:Act) (w:World),wpAnyH P md ops Q S' fuel listed a w→wpAnyH P md ops Q S fuel listed a w
 | 0,_,_,_,h=>h
 | fuel + 1,_,_,_,h=>⟨h.1,fun i hi=>wpOp_mono (fun _ _ h'=>⟨hS _ h'.1,wpAnyH_weak hS fuel _ _ _ h'.2⟩) (h.2 i hi)⟩
theorem lit_conv (K:Int) (B:ByteArray) (hB:B=⟨#[UInt8.ofNat K.toNat]⟩) (hK:1≤K∧K≤4) (W:World) (b:Nat) (h:W.heap[b]? = some (.cells #[.int .u8 K] 5 (0,0))) :
   (convert 60 9 (.slice (some ⟨b,0,none⟩) 1 1)).run Tryz.prog W=.ok (.string B) W:=by
 subst hB
 refine run_convert_bytes_back _ _ _ _ _ _ [UInt8.ofNat K.toNat] Tryz.underlying60 Tryz.underlying5 Tryz.underlying9 fun j hj=>?_
 obtain rfl:j=0:=by simp at hj;omega
 have hadd:(⟨b,0,none⟩:Addr).add 0=⟨b,0,none⟩:=rfl
 rw [hadd,cell_of_row _ _ _ _ _ _ h]
 simp
 omega
set_option maxRecDepth 100000 in
set_option maxHeartbeats 40000000 in
theorem rbody_good (w:World) (vf vh vw:Value) (f h:List Ent) (l:List Wr) (hx:BatIs w vf vh vw f h l) (hr:rightB f h l) :
   Calls Tryz.prog 68 #[.agg #[vf,vh,vw]] w fun r w'=>r=.returned (.tuple #[.string ⟨(bodyF f h l).1.toArray⟩,.agg #[.int .i64 ((bodyF f h l).2.1:Int),.int .i64 (-1)]])∧Below w.heap.size w w':=by
 have HX:=Lib.hid hx
 obtain ⟨hf,hh,hv,_⟩:=hx
 obtain ⟨af,cf,rfl,_⟩:=hf.form
 obtain ⟨ah,ch,rfl,_⟩:=hh.form
 obtain ⟨aw,cw,rfl,fw⟩:=hv.form
 have HBF:Hid (batF f h l=(0,-1)):=Lib.hid (batF_place hr)
 have HR:=Lib.hid hr
 have hz:((0:Int) == 0)=true:=rfl
 have HFW:=Lib.hid fw
 have HN60:Hid (l.length≤60):=Lib.hid (rightB_iff.1 hr).2.1
 generalize hnf:f.length=nf at HX ⊢
 generalize hnh:h.length=nh at HX ⊢
 generalize hn:l.length=n at HX HN60 HFW ⊢
 have HNF:=Lib.hid hnf
 have HNH:=Lib.hid hnh
 have HN:=Lib.hid hn
 clear hf hh hv hr fw hnf hnh hn
 go_enter Tryz.func68,Tryz.ntmps68
 go_wp2_with fail
 have HA:=Lib.hid ((batAt_new w (.slice af nf cf) (.slice ah nh ch) (.slice aw n cw) 25).below ((Below.refl _ _).alloc (Nat.le_refl _) (.cells #[.int .i64 0,.int .i64 0] 46)) (by simp))
 have HF:Hid (rowF ((w.alloc (.cells #[.slice af nf cf,.slice ah nh ch,.slice aw n cw] 25)).alloc (.cells #[.int .i64 0,.int .i64 0] 46)) (w.heap.size + 1) 0 0):=Lib.hid (heap_alloc2_new w _ _)
 have HW:Hid (Below w.heap.size w ((w.alloc (.cells #[.slice af nf cf,.slice ah nh ch,.slice aw n cw] 25)).alloc (.cells #[.int .i64 0,.int .i64 0] 46))):=Lib.hid (((Below.refl _ _).alloc (Nat.le_refl _) _).alloc (by simp) _)
 have HZ:Hid (w.heap.size + 1 < ((w.alloc (.cells #[.slice af nf cf,.slice ah nh ch,.slice aw n cw] 25)).alloc (.cells #[.int .i64 0,.int .i64 0] 46)).heap.size):=Lib.hid (by simp)
 have HBW:Hid (w.heap.size≤w.heap.size + 1):=Lib.hid (Nat.le_succ _)
 generalize (w.alloc (.cells #[.slice af nf cf,.slice ah nh ch,.slice aw n cw] 25)).alloc (.cells #[.int .i64 0,.int .i64 0] 46)=W at HA HF HW HZ ⊢
 generalize w.heap.size + 1=F at HF HZ HBW ⊢
 refine (rbright_at _ _ _ f h l 0 (-1) W (HX.out.below HW.out) HBF.out).mono ?_
 rintro r w1 ⟨rfl,hb1⟩
 have HB1:=Lib.hid hb1
 clear hb1
 have HF1:=Lib.hid (HF.out.below HB1.out HZ.out)
 have HW1:Hid (Below w.heap.size w w1):=HW.out.trans (HB1.out.mono HW.out.size)
 have HZ1:Hid (F < w1.heap.size):=Lib.hid (Nat.lt_of_lt_of_le HZ.out HB1.out.size)
 go_wp2_with fail
 refine (is_any 0 (-1) _).mono ?_
 rintro r w2 ⟨rfl,hb2⟩
 have HB2:Hid (Below w1.heap.size w1 w2):=Lib.hid (((Below.refl _ _).alloc (Nat.le_refl _) _).trans (hb2.mono (by simp)))
 have HF2:=Lib.hid (HF1.out.below HB2.out HZ1.out)
 have HT2:Hid (rowF w2 w1.heap.size 0 (-1)):=Lib.hid (rowF.below (w:=w1.alloc (.cells #[.int .i64 0,.int .i64 (-1)] 46)) (heap_alloc_new w1 _) hb2 (by simp))
 have HW2:Hid (Below w.heap.size w w2):=HW1.out.trans (HB2.out.mono HW1.out.size)
 clear hb2
 have HA2:=Lib.hid (HA.out.below (HB1.out.trans (HB2.out.mono HB1.out.size)) (by have:=HBW.out;have:=HZ.out;omega))
 have HZ2:Hid (F < w2.heap.size∧w.heap.size < w2.heap.size):=Lib.hid (by have:=HBW.out;have:=HZ1.out;have:=HB2.out.size;omega)
 clear HA HF HW HZ HB1 HF1 HW1 HZ1 HB2 HT2
 obtain ⟨d0,d1,d2⟩:=HA2.out
 go_wp2
 clear d0 d1 d2
 have hn60:=HN60.out
 go_loopw [5,33] (fun x i wr=>∃ k:Nat,k≤n∧i=.int .i64 k∧ownsS wr w2.heap.size x ((keysW l).take k)∧Below w2.heap.size w2 wr) (fun _ i _=>n - (intOf i).toNat)
 case atStart=>exact ⟨0,Nat.zero_le _,rfl,ownsS_nil _ _,Below.refl _ _⟩
 case round =>
   obtain ⟨k,hk,rfl,hos,hbel⟩:=hrel
   have HO:=Lib.hid hos
   have HB:=Lib.hid hbel
   have HWR:Hid (Below w.heap.size w wr):=HW2.out.trans (hbel.mono HW2.out.size)
   obtain ⟨ad,cp,rfl,hcp,g1⟩:=hos.isTexts
   have hkl:((keysW l).take k).length=k:=by rw [List.length_take];have:=HN.out;unfold keysW;rw [List.length_map];omega
   have HKL:=Lib.hid hkl
   rw [hkl] at HO hcp
   rw [hkl]
   clear hos hbel hkl g1 hcp
   by_cases hlt:k < n
   · obtain ⟨x, hx⟩ : ∃ x, l[k]? = some x := ⟨l[k]'(by have := HN.out; omega), List.getElem?_eq_getElem _⟩
     obtain ⟨b1,o1,rfl,hb1,p0,p1,p2,p3,p4,p5⟩:=HFW.out k x hx
     have q0:=(HWR.out.cell (p:=⟨b1,o1 + k * 6,none⟩) hb1).trans p0
     have q1:=(HWR.out.cell (p:=⟨b1,o1 + k * 6 + 1,none⟩) hb1).trans p1
     have q2:=(HWR.out.cell (p:=⟨b1,o1 + k * 6 + 2,none⟩) hb1).trans p2
     have q3:=(HWR.out.cell (p:=⟨b1,o1 + k * 6 + 3,none⟩) hb1).trans p3
     have q4:=(HWR.out.cell (p:=⟨b1,o1 + k * 6 + 4,none⟩) hb1).trans p4
     have q5:=(HWR.out.cell (p:=⟨b1,o1 + k * 6 + 5,none⟩) hb1).trans p5
     have HTK:Hid ((keysW l).take k ++ [x.key]=(keysW l).take (k + 1)):=Lib.hid (show _=_ by
       have h2:(keysW l)[k]? = some x.key:=by unfold keysW;rw [List.getElem?_map,hx];rfl
       obtain ⟨hk2,e⟩:=List.getElem?_eq_some_iff.1 h2;rw [←e,List.take_append_getElem hk2])
     obtain ⟨T,R,K,key,val,N⟩:=x
     dsimp only at q0 q1 q2 q3 q4 q5 HTK
     clear p0 p1 p2 p3 p4 p5 hx
     obtain ⟨L,hL⟩:∃ L,(keysW l).take k=L:=⟨_,rfl⟩
     rw [hL] at HO HKL HTK
     clear hL
     go_wp2_with (at_builtin;refine wpList_append_str rfl _ _ rfl w2.heap.size _ L rfl ((HO.out.alloc _).alloc _) ⟨wr.heap.size + 1,0,none⟩ 1 rfl key (by simp [Addr.add]) (by have:=HKL.out;have:=HN60.out;omega) (by have:=HB.out.size;simp;omega) ?_)
     intro g cap w4 ho4 hg4
     rw [HTK.out] at ho4
     have HO4:=Lib.hid ho4
     have HB4:Hid (Below w2.heap.size w2 w4):=Lib.hid (((HB.out.alloc HB.out.size _).alloc (by have:=HB.out.size;simp;omega) _).grown hg4 (by have:=HB.out.size;simp;omega) (fun g hg=>(HO.out.lt g hg).1))
     have HKL1:Hid (L.length + 1=k + 1):=Lib.hid (by rw [HKL.out])
     rw [HKL1.out] at HO4 ⊢
     clear ho4 hg4
     go_wp2
     go_roundw
     case rel=>exact ⟨k + 1,by omega,by go_num,HO4.out,HB4.out⟩
     case measure=>simp [intOf];omega
   · have HT:Hid ((keysW l).take k=keysW l):=Lib.hid (List.take_of_length_le (by unfold keysW;rw [List.length_map];have:=HN.out;omega))
     rw [HT.out] at HO HKL
     have HIT:Hid (IsTexts wr (.slice ad k cp) (keysW l)):=Lib.hid (by have e:=HO.out.isTexts;exact e)
     have HKN:Hid ((keysW l).length≤1000000):=Lib.hid (by have:=HKL.out;have:=HN60.out;omega)
     go_wp2_with fail
     refine (rtab_any _ (keysW l) wr HIT.out HKN.out).mono ?_
     rintro r w5 ⟨v1,v2,rfl,hv1,hv2,hb5⟩
     obtain ⟨a6,c6,rfl,_⟩:=hv1.isTexts
     obtain ⟨a7,c7,rfl,_⟩:=hv2.isNums
     have HV1:=Lib.hid hv1.isTexts
     have HV2:=Lib.hid hv2.isNums
     have HB5:Hid (Below w2.heap.size w2 w5):=HB.out.trans (hb5.mono HB.out.size)
     have HMS:Hid (w2.heap.size≤wr.heap.size):=Lib.hid HB.out.size
     clear hv1 hv2 hb5 HO HIT HB HT
     obtain ⟨U,hU⟩:∃ S:ByteArray,vwriteL f=S.data.toList:=⟨⟨(vwriteL f).toArray⟩,by simp⟩
     obtain ⟨V,hV⟩:∃ S:ByteArray,vwriteL h=S.data.toList:=⟨⟨(vwriteL h).toArray⟩,by simp⟩
     have HU:=Lib.hid hU
     have HV:=Lib.hid hV
     clear hU hV
     obtain ⟨⟨rf,rh,_⟩,_⟩:=rightB_iff.1 HR.out
     have HRF:=Lib.hid rf
     have HRH:=Lib.hid rh
     clear rf rh
     have HW5:Hid (Below w.heap.size w w5):=HW2.out.trans (HB5.out.mono HW2.out.size)
     obtain ⟨d0,d1,d2⟩:=HA2.out.below HB5.out HZ2.out.2
     go_wp2_with fail
     refine (rvw_right _ f U _ (HX.out.below HW5.out).1 HRF.out HU.out).mono ?_
     rintro r w6 ⟨rfl,hb6⟩
     have HC6:Hid (Below w5.heap.size w5 (w6.alloc (.cells #[.int .i64 0,.int .i64 (-1)] 46))):=Lib.hid (hb6.alloc hb6.size _)
     have HE:Hid (∀ w',Below w5.heap.size w5 w'→Below w2.heap.size w2 w'):=Lib.hid (fun w' hx=>HB5.out.trans (hx.mono HB5.out.size))
     have HEW:Hid (∀ w',Below w5.heap.size w5 w'→Below w.heap.size w w'):=Lib.hid (fun w' hx=>HW5.out.trans (hx.mono HW5.out.size))
     clear hb6 d0 d1 d2
     obtain ⟨d0,d1,d2⟩:=HA2.out.below (HE.out _ HC6.out) HZ2.out.2
     go_wp2_with fail
     have HX6:=Lib.hid (HX.out.below (HEW.out _ HC6.out))
     refine (rvw_right _ h V _ HX6.out.2.1 HRH.out HV.out).mono ?_
     rintro r w7 ⟨rfl,hb7⟩
     have HC7:Hid (Below w5.heap.size w5 (w7.alloc (.cells #[.int .i64 0,.int .i64 (-1)] 46))):=Lib.hid ((HC6.out.trans (hb7.mono HC6.out.size)).alloc (by have:=HC6.out.size;have:=hb7.size;omega) _)
     clear hb7 d0 d1 d2 HX6 HC6
     obtain ⟨T,hT⟩:∃ T,T=tabK [] (keysW l):=⟨_,rfl⟩
     obtain ⟨A,hA⟩:∃ A,A=atK [] (keysW l):=⟨_,rfl⟩
     have hts:=tab_small HR.out
     have hok:=right_okRow HR.out
     rw [←hT] at HV1 hts hok ⊢
     rw [←hA] at HV2 hok ⊢
     have HTT:=Lib.hid hT
     have HAA:=Lib.hid hA
     have HTS:=Lib.hid hts.1
     have HOK:=Lib.hid hok
     have ht60:=hts.2
     clear hT hA hts hok
     obtain ⟨t,ht⟩:∃ t,t=T.length:=⟨_,rfl⟩
     rw [←ht] at ht60 HV1 ⊢
     have HTL:=Lib.hid ht
     clear ht
     have HUV:Hid (U.size≤4000∧V.size≤4000):=Lib.hid (by
       have h1:=(vwrite_len HRF.out).1
       have h2:=(vwrite_len HRH.out).1
       rw [HU.out,←size_data] at h1
       rw [HV.out,←size_data] at h2
       exact ⟨by omega,by omega⟩)
     go_wp2_with fail
     refine (rvary_any t _ (by omega)).mono ?_
     rintro r w8 ⟨rfl,hb8⟩
     have HC8:Hid (Below w5.heap.size w5 w8):=HC7.out.trans (hb8.mono HC7.out.size)
     clear hb8
     obtain ⟨C,hC⟩:∃ C:ByteArray,C=⟨(putL t).toArray⟩:=⟨_,rfl⟩
     rw [←hC]
     have hc10:C.size≤10:=by rw [hC,size_data];exact putL_le10 (by omega)
     have HCC:=Lib.hid hC
     clear hC
     have hu:=HUV.out.1
     have hv:=HUV.out.2
     have hadd1:((V.size:Int) + (C.size:Int))≤9223372036854775807:=by omega
     have hadd2:((U.size:Int) + ((V ++ C).size:Int))≤9223372036854775807:=by rw [ByteArray.size_append];omega
     go_wp2
     obtain ⟨P0,hP0⟩:∃ P0,P0=U ++ (V ++ C):=⟨_,rfl⟩
     rw [←hP0]
     have HP0:Hid (P0.data.toList=vwriteL f ++ vwriteL h ++ putL t):=Lib.hid (by rw [hP0,app_data,app_data,HU.out,HV.out,HCC.out,List.append_assoc])
     have hp0:P0.size≤8010:=by rw [hP0,ByteArray.size_append,ByteArray.size_append];omega
     clear hP0 hadd1 hadd2 hu hv hc10 HCC
     have HP0S:=Lib.hid hp0
     clear hp0
     go_loopw [10,70] (fun s i wr=>∃ (k:Nat) (X:ByteArray),s=.string X∧k≤t∧i=.int .i64 k∧X.data.toList=P0.data.toList ++ textsB (T.take k)∧X.size≤8010 + k * 50∧Below w5.heap.size w5 wr) (fun _ i _=>t - (intOf i).toNat)
     case atStart=>exact ⟨0,P0,rfl,Nat.zero_le _,rfl,by simp [textsB],by have:=HP0S.out;omega,HC8.out⟩
     case round =>
       obtain ⟨k2,X,rfl,hk2,rfl,hx,hxs,hb⟩:=hrel
       have HXD:=Lib.hid hx
       have HC9:=Lib.hid hb
       clear hx hb
       by_cases hlt2:k2 < t
       · obtain ⟨y, hy⟩ : ∃ y, T[k2]? = some y := ⟨T[k2]'(by have := HTL.out; omega), List.getElem?_eq_getElem _⟩
         obtain ⟨a9,c9,e9,_,f9⟩:=HV1.out
         injection e9 with e91 e92 e93
         subst e91
         clear e92 e93
         obtain ⟨b9,o9,rfl,hb9,q9⟩:=f9 k2 y hy
         have q8:=(HC9.out.cell (p:=⟨b9,o9 + k2,none⟩) hb9).trans q9
         have HY:Hid (textsB (T.take (k2 + 1))=textsB (T.take k2) ++ spanL y.data.toList):=Lib.hid (by
           rw [List.take_add_one,hy]
           simp [textsB])
         have hys:y.size≤40:=HTS.out y (List.mem_of_getElem? hy)
         have hyb:(spanB y).size≤50:=by
           rw [size_data,spanB_data]
           unfold spanL
           rw [List.length_append,←size_data]
           have:=putL_le10 (n:=y.size) (by omega)
           omega
         have hadd:((X.size:Int) + ((spanB y).size:Int))≤9223372036854775807:=by omega
         clear f9 q9 hy
         go_wp2_with fail
         refine (rspan_ok y wr (by omega)).mono ?_
         rintro r w9 ⟨rfl,hb9'⟩
         have HC10:Hid (Below w5.heap.size w5 w9):=HC9.out.trans (hb9'.mono HC9.out.size)
         clear hb9' q8
         obtain ⟨Y,hY⟩:∃ Y,Y=spanB y:=⟨_,rfl⟩
         rw [←hY] at hadd hyb ⊢
         have HYD:Hid (Y.data.toList=spanL y.data.toList):=Lib.hid (by rw [hY,spanB_data])
         clear hY
         go_wp2
         go_roundw
         case rel=>exact ⟨k2 + 1,X ++ Y,rfl,by omega,by go_num,by rw [app_data,HXD.out,HY.out,HYD.out,List.append_assoc],by rw [ByteArray.size_append];omega,HC10.out⟩
         case measure=>simp [intOf];omega
       · have HXE : Hid (X.data.toList = vwriteL f ++ vwriteL h ++ putL t ++ textsB T) := Lib.hid (by
           rw [HXD.out,HP0.out,List.take_of_length_le (by have:=HTL.out;omega)])
         have hxs2:X.size≤12000:=by omega
         obtain ⟨d0,d1,d2⟩:=HA2.out.below (HE.out _ HC9.out) HZ2.out.2
         clear HXD hxs
         go_wp2_with fail
         refine (rvary_any n wr (by omega)).mono ?_
         rintro r w9 ⟨rfl,hb9⟩
         have HC10:Hid (Below w5.heap.size w5 w9):=HC9.out.trans (hb9.mono HC9.out.size)
         clear hb9 d0 d1 d2
         obtain ⟨C2,hC2⟩:∃ C:ByteArray,C=⟨(putL n).toArray⟩:=⟨_,rfl⟩
         rw [←hC2]
         have hc10:C2.size≤10:=by rw [hC2,size_data];exact putL_le10 (by omega)
         have hadd:((X.size:Int) + (C2.size:Int))≤9223372036854775807:=by omega
         have HC2D:=Lib.hid hC2
         clear hC2
         obtain ⟨d0,d1,d2⟩:=HA2.out.below (HE.out _ HC10.out) HZ2.out.2
         go_wp2
         obtain ⟨P1,hP1⟩:∃ P1,P1=X ++ C2:=⟨_,rfl⟩
         rw [←hP1]
         have HP1:Hid (P1.data.toList=vwriteL f ++ vwriteL h ++ putL t ++ textsB T ++ putL n):=Lib.hid (by rw [hP1,app_data,HXE.out,HC2D.out])
         have hp1:P1.size≤12010:=by rw [hP1,ByteArray.size_append];omega
         have HP1S:=Lib.hid hp1
         clear hP1 hadd hc10 HC2D hp1 hxs2 d0 d1 d2 HXE
         go_loopw [10,18,93] (fun s z i wr=>∃ (k:Nat) (X:ByteArray) (ahead:Int),s=.string X∧z=.int .i64 ahead∧k≤n∧i=.int .i64 k∧0≤ahead∧ahead≤1099511627776∧okRow h T ahead (l.drop k) (A.drop k)∧P1.data.toList ++ rowB h 0 l A=X.data.toList ++ rowB h ahead (l.drop k) (A.drop k)∧X.size≤12010 + k * 351∧Below w5.heap.size w5 wr) (fun _ _ i _=>n - (intOf i).toNat)
         case atStart=>exact ⟨0,P1,0,rfl,rfl,Nat.zero_le _,rfl,by omega,by omega,HOK.out,rfl,by have:=HP1S.out;omega,HC10.out⟩
         case round =>
           obtain ⟨k3,X3,ahead,rfl,rfl,hk3,rfl,ha0,ha1,hok3,hrow3,hx3,hb3⟩:=hrel
           have HC11:=Lib.hid hb3
           have HOK3:=Lib.hid hok3
           have HROW3:=Lib.hid hrow3
           clear hb3 hok3 hrow3
           by_cases hlt3:k3 < n
           · obtain ⟨x, hx⟩ : ∃ x, l[k3]? = some x := ⟨l[k3]'(by have := HN.out; omega), List.getElem?_eq_getElem _⟩
             obtain ⟨j,hj,⟨hw0,haT,hpl,hTj⟩,hok4,hrow4⟩:=row_step hx HOK3.out
             have hWR:=HEW.out _ HC11.out
             obtain ⟨b1,o1,rfl,hb1,p0,p1,p2,p3,p4,p5⟩:=HFW.out k3 x hx
             have q0:=(hWR.cell (p:=⟨b1,o1 + k3 * 6,none⟩) hb1).trans p0
             have q1:=(hWR.cell (p:=⟨b1,o1 + k3 * 6 + 1,none⟩) hb1).trans p1
             have q2:=(hWR.cell (p:=⟨b1,o1 + k3 * 6 + 2,none⟩) hb1).trans p2
             have q3:=(hWR.cell (p:=⟨b1,o1 + k3 * 6 + 3,none⟩) hb1).trans p3
             have q4:=(hWR.cell (p:=⟨b1,o1 + k3 * 6 + 4,none⟩) hb1).trans p4
             have q5:=(hWR.cell (p:=⟨b1,o1 + k3 * 6 + 5,none⟩) hb1).trans p5
             have hjT:j < T.length:=(List.getElem?_eq_some_iff.1 hTj).1
             obtain ⟨p,hp⟩:∃ p,placeF h x.rep=p:=⟨_,rfl⟩
             rw [hp] at hpl
             obtain ⟨F1,F2,F3,F4,F5,F6,F7,F8,F9,F10⟩:=wE_facts hw0
             have HW0:=Lib.hid hw0
             have HJ:=Lib.hid hj
             have HOK4:=Lib.hid hok4
             have HROW4:=Lib.hid hrow4
             have HPP:=Lib.hid hp
             have HPL:=Lib.hid hpl
             have HWOK:=Lib.hid F10
             have HTB:=Lib.hid F9
             obtain ⟨T',R,K,key,val,N⟩:=x
             dsimp only at q0 q1 q2 q3 q4 q5 haT F1 F2 F3 F4 F5 F6 F7 F8 HPP HOK4
             have HFT:=Lib.hid (And.intro F1 (And.intro F2 (And.intro F3 F4)))
             have HJT:=Lib.hid hjT
             have HAT:=Lib.hid haT
             clear p0 p1 p2 p3 p4 p5 hx hj hw0 hok4 hrow4 hp hpl hTj F1 F2 F3 F4 F5 F6 F7 F8 F9 F10 hjT haT hWR
             have hmf:∀ (fn:Fn) (first cap:Array Value) (w:World),(Instr.makeFunc fn first cap).run Tryz.prog w=.ok (.func fn first cap) w:=fun _ _ _ _=>rfl
             have HC12:Hid (Below w5.heap.size w5 (wr.alloc (.cells #[.int .i64 T',.int .i64 R,.int .i64 K,.string key,.string val,.int .i64 N] 59))):=Lib.hid (HC11.out.alloc HC11.out.size _)
             have HXB:Hid (wrBlk (wr.alloc (.cells #[.int .i64 T',.int .i64 R,.int .i64 K,.string key,.string val,.int .i64 N] 59)) wr.heap.size ⟨T',R,K,key,val,N⟩):=Lib.hid (heap_alloc_new wr _)
             obtain ⟨d0,d1,d2⟩:=HA2.out.below (HE.out _ HC12.out) HZ2.out.2
             go_wp2_with fail
             generalize wr.alloc (.cells #[.int .i64 T',.int .i64 R,.int .i64 K,.string key,.string val,.int .i64 N] 59)=w12 at HC12 HXB d0 d1 d2 ⊢
             have HSR:Hid (srchAt w12 w.heap.size wr.heap.size (.slice ah nh ch) R):=Lib.hid ⟨d1,by
               have e:=HXB.out
               unfold wrBlk at e
               rw [cell_of_row _ _ _ _ _ (0,0) e];rfl⟩
             refine (search_any w.heap.size wr.heap.size ah nh ch h (-1) R p w12 HSR.out (HX.out.below (HEW.out _ HC12.out)).2.1 HNH.out.symm (by have:=HRH.out.1;have:=HNH.out;omega) HRH.out.2 HPP.out (by have:=HPL.out;have:=HNH.out;omega)).mono ?_
             rintro r w13 ⟨rfl,m,rfl⟩
             have HC13:Hid (Below w5.heap.size w5 (w12.drewN m)):=Lib.hid (below_drewq HC12.out m)
             have HXB13:Hid (wrBlk (w12.drewN m) wr.heap.size ⟨T',R,K,key,val,N⟩):=Lib.hid HXB.out
             have HZX:Hid (wr.heap.size < (w12.drewN m).heap.size):=Lib.hid (Array.getElem?_eq_some_iff.1 (show (w12.drewN m).heap[wr.heap.size]? = _ from HXB.out)).1
             clear d0 d1 d2 HC12 HXB HSR
             generalize w12.drewN m=w13 at HC13 HXB13 HZX ⊢
             have hx13:=HXB13.out
             unfold wrBlk at hx13
             have c0:w13.cell? ⟨wr.heap.size,0,none⟩=some (.int .i64 T'):=by rw [cell_of_row _ _ _ _ _ (0,0) hx13];rfl
             have c1:w13.cell? ⟨wr.heap.size,1,none⟩=some (.int .i64 R):=by rw [cell_of_row _ _ _ _ _ (0,0) hx13];rfl
             have c2:w13.cell? ⟨wr.heap.size,2,none⟩=some (.int .i64 K):=by rw [cell_of_row _ _ _ _ _ (0,0) hx13];rfl
             have c3:w13.cell? ⟨wr.heap.size,3,none⟩=some (.string key):=by rw [cell_of_row _ _ _ _ _ (0,0) hx13];rfl
             have c4:w13.cell? ⟨wr.heap.size,4,none⟩=some (.string val):=by rw [cell_of_row _ _ _ _ _ (0,0) hx13];rfl
             have c5:w13.cell? ⟨wr.heap.size,5,none⟩=some (.int .i64 N):=by rw [cell_of_row _ _ _ _ _ (0,0) hx13];rfl
             clear hx13
             have HTC:Hid (∀ w,Calls Tryz.prog 65 #[.agg #[.int .i64 T',.int .i64 R,.int .i64 K,.string key,.string val,.int .i64 N]] w fun e w'=>e=.returned (.tuple #[.string (tailB K val N),.int .i64 0])∧Below w.heap.size w w'):=Lib.hid (fun w=>(rtail_any T' R K key val N w HWOK.out.2.2.1 HWOK.out.2.2.2 HWOK.out.1 HWOK.out.2.1).mono fun e w' ⟨h1,h2⟩=>⟨by
               have e1:wriE T' R K key val N=0:=HW0.out
               rw [h1,tailF_ok e1];rfl,h2⟩)
             go_wp2_with fail
             refine (HTC.out _).mono ?_
             rintro r w14 ⟨rfl,hb14⟩
             have HC14:Hid (Below w5.heap.size w5 w14):=HC13.out.trans (hb14.mono HC13.out.size)
             have e0:=(Below.cell hb14 (p:=⟨wr.heap.size,0,none⟩) HZX.out).trans c0
             have e2:=(Below.cell hb14 (p:=⟨wr.heap.size,2,none⟩) HZX.out).trans c2
             have HZX14:Hid (wr.heap.size < w14.heap.size):=Lib.hid (Nat.lt_of_lt_of_le HZX.out hb14.size)
             clear hb14 c0 c1 c2 c3 c4 c5 HTC HXB13 HZX HC13
             obtain ⟨Z,hZ⟩:∃ Z,Z=tailB K val N:=⟨_,rfl⟩
             rw [←hZ]
             have hzs:Z.size≤320:=by
               have e:=HTB.out
               unfold tailL at e
               rw [←size_data,←hZ] at e
               exact e
             have HZD:=Lib.hid hZ
             clear hZ
             obtain ⟨a9,c9,e9,_,f9⟩:=HV2.out
             injection e9 with e91 e92 e93
             subst e91
             clear e92 e93
             obtain ⟨b9,o9,rfl,hb9,q9⟩:=f9 k3 (j:Int) (by rw [List.getElem?_map,HJ.out];rfl)
             have q8:=(HC14.out.cell (p:=⟨b9,o9 + k3,none⟩) hb9).trans q9
             have hkA:(k3:Int) < (A.length:Int):=by have:=(List.getElem?_eq_some_iff.1 HJ.out).1;omega
             clear f9 q9
             go_wp2
             obtain ⟨D,hD⟩:∃ D:Nat,T' - ahead=(D:Int):=⟨(T' - ahead).toNat,by have:=HAT.out;omega⟩
             have hDb:D≤1099511627776:=by have:=HFT.out;omega
             have hp16:p≤16:=by have:=HPL.out;have:=HRH.out.1;omega
             have hj60:j≤60:=by have:=HJT.out;have:=HTL.out;omega
             have hs1:IntKind.i64.wrap (T' - ahead)=(D:Int):=by rw [hD];exact IntWalk.i64_in _ (by omega)
             have hs2:IntKind.u64.wrap (D:Int)=(D:Int):=IntWalk.u64_in _ (by omega)
             have hs6:IntKind.i64.wrap (D:Int)=(D:Int):=IntWalk.i64_in _ (by omega)
             have hs3:IntKind.u64.wrap (p:Int)=(p:Int):=IntWalk.u64_in _ (by omega)
             have hs4:IntKind.u64.wrap (j:Int)=(j:Int):=IntWalk.u64_in _ (by omega)
             have hs5:IntKind.u8.wrap K=K:=IntWalk.u8_in _ (by have:=HFT.out;omega)
             obtain ⟨B1,hB1⟩:∃ B:ByteArray,B=⟨#[UInt8.ofNat K.toNat]⟩:=⟨_,rfl⟩
             obtain ⟨C3,hC3⟩:∃ C:ByteArray,C=⟨(putL D).toArray⟩:=⟨_,rfl⟩
             obtain ⟨C4,hC4⟩:∃ C:ByteArray,C=⟨(putL p).toArray⟩:=⟨_,rfl⟩
             obtain ⟨C5,hC5⟩:∃ C:ByteArray,C=⟨(putL j).toArray⟩:=⟨_,rfl⟩
             have HV1:Hid (∀ w,Calls Tryz.prog 63 #[.int .u64 (D:Int)] w fun e w'=>e=.returned (.string C3)∧Below w.heap.size w w'):=Lib.hid (fun w=>by rw [hC3];exact rvary_any D w (by omega))
             have HV2:Hid (∀ w,Calls Tryz.prog 63 #[.int .u64 (p:Int)] w fun e w'=>e=.returned (.string C4)∧Below w.heap.size w w'):=Lib.hid (fun w=>by rw [hC4];exact rvary_any p w (by omega))
             have HV3:Hid (∀ w,Calls Tryz.prog 63 #[.int .u64 (j:Int)] w fun e w'=>e=.returned (.string C5)∧Below w.heap.size w w'):=Lib.hid (fun w=>by rw [hC5];exact rvary_any j w (by omega))
             have hb1s:B1.size=1:=by rw [hB1];rfl
             have hc3s:C3.size≤10:=by rw [hC3,size_data];exact putL_le10 (by omega)
             have hc4s:C4.size≤10:=by rw [hC4,size_data];exact putL_le10 (by omega)
             have hc5s:C5.size≤10:=by rw [hC5,size_data];exact putL_le10 (by omega)
             have HXN:Hid ((X3 ++ (B1 ++ C3 ++ C4 ++ C5 ++ Z)).data.toList=X3.data.toList ++ oneB h ahead ⟨T',R,K,key,val,N⟩ j):=Lib.hid (by
               have e1:placeF h R=p:=HPP.out
               have e2:(T' - ahead).toNat=D:=by omega
               unfold oneB tailL
               dsimp only
               rw [e1,e2,HZD.out.symm]
               rw [app_data,app_data,app_data,app_data,app_data,hB1,hC3,hC4,hC5])
             have HXS:Hid ((X3 ++ (B1 ++ C3 ++ C4 ++ C5 ++ Z)).size≤12010 + (k3 + 1) * 351):=Lib.hid (by
               simp only [ByteArray.size_append];omega)
             have hk60:k3≤60:=by omega
             have hX3b:X3.size≤40000:=by omega
             have hA1:¬ (9223372036854775807 < B1.size + C3.size):=by omega
             have hA2:¬ (9223372036854775807 < (B1 ++ C3).size + C4.size):=by rw [ByteArray.size_append];omega
             have hA2':¬ (9223372036854775807 < B1.size + C3.size + C4.size):=by omega
             have hA3:¬ (9223372036854775807 < (B1 ++ C3 ++ C4).size + C5.size):=by rw [ByteArray.size_append,ByteArray.size_append];omega
             have hA3':¬ (9223372036854775807 < B1.size + C3.size + C4.size + C5.size):=by omega
             have hA4:¬ (9223372036854775807 < (B1 ++ C3 ++ C4 ++ C5).size + Z.size):=by rw [ByteArray.size_append,ByteArray.size_append,ByteArray.size_append];omega
             have hA4':¬ (9223372036854775807 < B1.size + C3.size + C4.size + C5.size + Z.size):=by omega
             have hA5:¬ (9223372036854775807 < X3.size + (B1 ++ C3 ++ C4 ++ C5 ++ Z).size):=by rw [ByteArray.size_append,ByteArray.size_append,ByteArray.size_append,ByteArray.size_append];omega
             have hA5':¬ (9223372036854775807 < X3.size + (B1.size + C3.size + C4.size + C5.size + Z.size)):=by omega
             have HS14:Hid (∀ w',Below w14.heap.size w14 w'→w'.cell? ⟨wr.heap.size,0,none⟩=some (.int .i64 T')∧w'.cell? ⟨wr.heap.size,2,none⟩=some (.int .i64 K)∧w'.cell? ⟨b9,o9 + k3,none⟩=some (.int .i64 (j:Int))):=Lib.hid (fun w' h=>⟨(h.cell (p:=⟨wr.heap.size,0,none⟩) HZX14.out).trans e0,(h.cell (p:=⟨wr.heap.size,2,none⟩) HZX14.out).trans e2,(h.cell (p:=⟨b9,o9 + k3,none⟩) (lt_of_cell q8)).trans q8⟩)
             have HBW0:Hid (Below w14.heap.size w14 w14.drew):=Lib.hid (Below.refl _ _).drew
             have HB1:=Lib.hid hB1
             have HK14:Hid (1≤K∧K≤4):=Lib.hid (by have:=HFT.out;omega)
             have HT14:Hid (0≤T'∧T'≤1099511627776):=Lib.hid (by have:=HFT.out;omega)
             have HRN:Hid (P1.data.toList ++ rowB h 0 l A=(X3 ++ (B1 ++ C3 ++ C4 ++ C5 ++ Z)).data.toList ++ rowB h T' (l.drop (k3 + 1)) (A.drop (k3 + 1))):=Lib.hid (by
               rw [HXN.out,List.append_assoc,HROW3.out]
               exact congrArg _ HROW4.out)
             clear hB1 hC3 hC4 hC5 e0 e2 q8 hb1s hc3s hc4s hc5s hzs hX3b
             refine wp_region_held_drew (S:=fun w'=>w'.cell? ⟨wr.heap.size,0,none⟩=some (.int .i64 T')∧w'.cell? ⟨wr.heap.size,2,none⟩=some (.int .i64 K)∧w'.cell? ⟨b9,o9 + k3,none⟩=some (.int .i64 (j:Int))) (by kernel_rfl) (HS14.out _ HBW0.out) (fun hHeld=>?_)
             generalize w14.drew=W0 at HBW0 hHeld ⊢
             refine wpAnyH_take (i:=0) (v:=?v0) rfl (by kernel_rfl) (by kernel_rfl) (by kernel_rfl) (fun _ _ _ h=>h) (Or.inl ⟨by rfl,?h0⟩) (by assumption) ?r0
             case h0=>(intro W hSw;(try dsimp only at hSw);go_simp;all_goals (with_reducible rfl))
             try simp only [Act.put,List.getElem_toArray,List.getElem_cons_zero,List.setIfInBounds_toArray,List.set_cons_zero,List.set_cons_succ]
             refine wpAnyH_take (i:=1) (v:=?v1) rfl (by kernel_rfl) (by kernel_rfl) (by kernel_rfl) (fun _ _ _ h=>h) (Or.inl ⟨by rfl,?h1⟩) (by assumption) ?r1
             case h1=>(intro W hSw;(try dsimp only at hSw);go_simp;all_goals (with_reducible rfl))
             try simp only [Act.put,List.getElem_toArray,List.getElem_cons_zero,List.getElem_cons_succ,List.setIfInBounds_toArray,List.set_cons_zero,List.set_cons_succ]
             refine wpAnyH_take (i:=2) (v:=?v2) rfl (by kernel_rfl) (by kernel_rfl) (by kernel_rfl) (fun _ _ _ h=>h) (Or.inl ⟨by rfl,?h2⟩) (by assumption) ?r2
             case h2=>(intro W hSw;(try dsimp only at hSw);go_simp;all_goals (with_reducible rfl))
             try simp only [Act.put,List.getElem_toArray,List.getElem_cons_zero,List.getElem_cons_succ,List.setIfInBounds_toArray,List.set_cons_zero,List.set_cons_succ]
             refine wpAnyH_take (i:=3) (v:=?v3) rfl (by kernel_rfl) (by kernel_rfl) (by kernel_rfl) (fun _ _ _ h=>h) (Or.inl ⟨by rfl,?h3⟩) (by assumption) ?r3
             case h3=>(intro W hSw;(try dsimp only at hSw);go_simp;all_goals (with_reducible rfl))
             try simp only [Act.put,List.getElem_toArray,List.getElem_cons_zero,List.getElem_cons_succ,List.setIfInBounds_toArray,List.set_cons_zero,List.set_cons_succ]
             refine wpAnyH_take (i:=6) (v:=?v6) rfl (by kernel_rfl) (by kernel_rfl) (by kernel_rfl) (fun _ _ _ h=>h) (Or.inl ⟨by rfl,?h6⟩) (by assumption) ?r6
             case h6=>(intro W hSw;(try dsimp only at hSw);go_simp;all_goals (with_reducible rfl))
             try simp only [Act.put,List.getElem_toArray,List.getElem_cons_zero,List.getElem_cons_succ,List.setIfInBounds_toArray,List.set_cons_zero,List.set_cons_succ]
             refine wpAnyH_take (i:=7) (v:=?v7) rfl (by kernel_rfl) (by kernel_rfl) (by kernel_rfl) (fun _ _ _ h=>h) (Or.inl ⟨by rfl,?h7⟩) (by assumption) ?r7
             case h7=>(intro W hSw;(try dsimp only at hSw);go_simp;all_goals (with_reducible rfl))
             try simp only [Act.put,List.getElem_toArray,List.getElem_cons_zero,List.getElem_cons_succ,List.setIfInBounds_toArray,List.set_cons_zero,List.set_cons_succ]
             refine wpAnyH_take (i:=8) (v:=?v8) rfl (by kernel_rfl) (by kernel_rfl) (by kernel_rfl) (fun _ _ _ h=>h) (Or.inl ⟨by rfl,?h8⟩) (by assumption) ?r8
             case h8=>(intro W hSw;(try dsimp only at hSw);go_simp;all_goals (with_reducible rfl))
             try simp only [Act.put,List.getElem_toArray,List.getElem_cons_zero,List.getElem_cons_succ,List.setIfInBounds_toArray,List.set_cons_zero,List.set_cons_succ]
             refine wpAnyH_take (i:=9) (v:=?v9) rfl (by kernel_rfl) (by kernel_rfl) (by kernel_rfl) (fun _ _ _ h=>h) (Or.inl ⟨by rfl,?h9⟩) (by assumption) ?r9
             case h9=>(intro W hSw;(try dsimp only at hSw);go_simp;all_goals (with_reducible rfl))
             try simp only [Act.put,List.getElem_toArray,List.getElem_cons_zero,List.getElem_cons_succ,List.setIfInBounds_toArray,List.set_cons_zero,List.set_cons_succ]
             refine wpAnyH_take (i:=10) (v:=?v10) rfl (by kernel_rfl) (by kernel_rfl) (by kernel_rfl) (fun _ _ _ h=>h) (Or.inl ⟨by rfl,?h10⟩) (by assumption) ?r10
             case h10=>(intro W hSw;(try dsimp only at hSw);go_simp;all_goals (with_reducible rfl))
             try simp only [Act.put,List.getElem_toArray,List.getElem_cons_zero,List.getElem_cons_succ,List.setIfInBounds_toArray,List.set_cons_zero,List.set_cons_succ]
             refine wpAnyH_take (i:=11) (v:=?v11) rfl (by kernel_rfl) (by kernel_rfl) (by kernel_rfl) (fun _ _ _ h=>h) (Or.inl ⟨by rfl,?h11⟩) (by assumption) ?r11
             case h11=>(intro W hSw;(try dsimp only at hSw);go_simp;all_goals (with_reducible rfl))
             try simp only [Act.put,List.getElem_toArray,List.getElem_cons_zero,List.getElem_cons_succ,List.setIfInBounds_toArray,List.set_cons_zero,List.set_cons_succ]
             refine wpAnyH_take (i:=14) (v:=?v14) rfl (by kernel_rfl) (by kernel_rfl) (by kernel_rfl) (fun _ _ _ h=>h) (Or.inl ⟨by rfl,?h14⟩) (by assumption) ?r14
             case h14=>(intro W hSw;(try dsimp only at hSw);go_simp;all_goals (with_reducible rfl))
             try simp only [Act.put,List.getElem_toArray,List.getElem_cons_zero,List.getElem_cons_succ,List.setIfInBounds_toArray,List.set_cons_zero,List.set_cons_succ]
             refine wpAnyH_take (i:=15) (v:=?v15) rfl (by kernel_rfl) (by kernel_rfl) (by kernel_rfl) (fun _ _ _ h=>h) (Or.inl ⟨by rfl,?h15⟩) (by assumption) ?r15
             case h15=>(intro W hSw;(try dsimp only at hSw);go_simp;all_goals (with_reducible rfl))
             try simp only [Act.put,List.getElem_toArray,List.getElem_cons_zero,List.getElem_cons_succ,List.setIfInBounds_toArray,List.set_cons_zero,List.set_cons_succ]
             refine wpAnyH_take (i:=18) (v:=?v18) rfl (by kernel_rfl) (by kernel_rfl) (by kernel_rfl) (fun _ _ _ h=>h) (Or.inl ⟨by rfl,?h18⟩) (by assumption) ?r18
             case h18=>(intro W hSw;(try dsimp only at hSw);go_simp;all_goals (with_reducible rfl))
             try simp only [Act.put,List.getElem_toArray,List.getElem_cons_zero,List.getElem_cons_succ,List.setIfInBounds_toArray,List.set_cons_zero,List.set_cons_succ]
             refine wpAnyH_take (i:=19) (v:=?v19) rfl (by kernel_rfl) (by kernel_rfl) (by kernel_rfl) (fun _ _ _ h=>h) (Or.inl ⟨by rfl,?h19⟩) (by assumption) ?r19
             case h19=>(intro W hSw;(try dsimp only at hSw);go_simp;all_goals (with_reducible rfl))
             try simp only [Act.put,List.getElem_toArray,List.getElem_cons_zero,List.getElem_cons_succ,List.setIfInBounds_toArray,List.set_cons_zero,List.set_cons_succ]
             refine wpAnyH_take (i:=20) (v:=?v20) rfl (by kernel_rfl) (by kernel_rfl) (by kernel_rfl) (fun _ _ _ h=>h) (Or.inl ⟨by rfl,?h20⟩) (by assumption) ?r20
             case h20=>(intro W hSw;(try dsimp only at hSw);go_simp;all_goals (with_reducible rfl))
             try simp only [Act.put,List.getElem_toArray,List.getElem_cons_zero,List.getElem_cons_succ,List.setIfInBounds_toArray,List.set_cons_zero,List.set_cons_succ]
             refine wpAnyH_take (i:=21) (v:=?v21) rfl (by kernel_rfl) (by kernel_rfl) (by kernel_rfl) (fun _ _ _ h=>h) (Or.inl ⟨by rfl,?h21⟩) (by assumption) ?r21
             case h21=>(intro W hSw;(try dsimp only at hSw);go_simp;all_goals (with_reducible rfl))
             try simp only [Act.put,List.getElem_toArray,List.getElem_cons_zero,List.getElem_cons_succ,List.setIfInBounds_toArray,List.set_cons_zero,List.set_cons_succ]
             refine wpAnyH_take (i:=22) (v:=?v22) rfl (by kernel_rfl) (by kernel_rfl) (by kernel_rfl) (fun _ _ _ h=>h) (Or.inl ⟨by rfl,?h22⟩) (by assumption) ?r22
             case h22=>(intro W hSw;(try dsimp only at hSw);go_simp;all_goals (with_reducible rfl))
             try simp only [Act.put,List.getElem_toArray,List.getElem_cons_zero,List.getElem_cons_succ,List.setIfInBounds_toArray,List.set_cons_zero,List.set_cons_succ]
             refine wpAnyH_take (i:=25) (v:=?v25) rfl (by kernel_rfl) (by kernel_rfl) (by kernel_rfl) (fun _ _ _ h=>h) (Or.inl ⟨by rfl,?h25⟩) (by assumption) ?r25
             case h25=>(intro W hSw;(try dsimp only at hSw);go_simp;all_goals (with_reducible rfl))
             try simp only [Act.put,List.getElem_toArray,List.getElem_cons_zero,List.getElem_cons_succ,List.setIfInBounds_toArray,List.set_cons_zero,List.set_cons_succ]
             refine wpAnyH_ready (rs:=[4,12]) (by kernel_rfl) (by simp) ?_
             refine AllReadyH.cons rfl (fun KK hKK=>?_) (AllReadyH.cons rfl (fun KK hKK=>?_) AllReadyH.nil)
             · go_simp
               refine hKK.out _ _ (HS14.out _ (HBW0.out.alloc HBW0.out.size _)) (fun hHeldWA0=>?_)
               clear hKK hHeld
               try simp only [Act.put,List.getElem_toArray,List.getElem_cons_zero,List.getElem_cons_succ,List.setIfInBounds_toArray,List.set_cons_zero,List.set_cons_succ]
               have HBWA0:Hid (Below w14.heap.size w14 (W0.alloc (.cells #[.int .u8 K] 5))):=Lib.hid (HBW0.out.alloc HBW0.out.size _)
               have hrowWA0:(W0.alloc (.cells #[.int .u8 K] 5)).heap[W0.heap.size]? = some (.cells #[.int .u8 K] 5 (0,0)):=heap_alloc_new W0 _
               have hltWA0:W0.heap.size < (W0.alloc (.cells #[.int .u8 K] 5)).heap.size:=by simp
               generalize W0.alloc (.cells #[.int .u8 K] 5)=WA0 at HBWA0 hrowWA0 hltWA0 hHeldWA0 ⊢
               generalize W0.heap.size=bl at hrowWA0 hltWA0 ⊢
               have HRWA0:Hid (∀ w',Below WA0.heap.size WA0 w'→(w'.cell? ⟨wr.heap.size,0,none⟩=some (.int .i64 T')∧w'.cell? ⟨wr.heap.size,2,none⟩=some (.int .i64 K)∧w'.cell? ⟨b9,o9 + k3,none⟩=some (.int .i64 (j:Int)))∧w'.heap[bl]? = some (.cells #[.int .u8 K] 5 (0,0))):=Lib.hid (fun w' h=>⟨HS14.out _ (HBWA0.out.trans (h.mono HBWA0.out.size)),(h.block _ hltWA0).trans hrowWA0⟩)
               have HLWA0:Hid (Below WA0.heap.size WA0 WA0):=Lib.hid (Below.refl _ _)
               have hHeld2:=HRWA0.out _ HLWA0.out
               clear hHeldWA0 hrowWA0 hltWA0
               refine wpAnyH_weak (S':=fun w'=>(w'.cell? ⟨wr.heap.size,0,none⟩=some (.int .i64 T')∧w'.cell? ⟨wr.heap.size,2,none⟩=some (.int .i64 K)∧w'.cell? ⟨b9,o9 + k3,none⟩=some (.int .i64 (j:Int)))∧w'.heap[bl]? = some (.cells #[.int .u8 K] 5 (0,0))) (fun _ h=>h.1) _ _ _ _ ?_
               refine wpAnyH_take (i:=5) (v:=?v5a0) rfl (by kernel_rfl) (by kernel_rfl) (by kernel_rfl) (fun _ _ _ h=>h) (Or.inl ⟨by rfl,?h5a0⟩) (by assumption) ?r5a0
               case h5a0=>(intro W hSw;have hcv:=lit_conv K B1 HB1.out HK14.out W bl hSw.2;(try dsimp only at hSw);go_simp;all_goals (with_reducible rfl))
               try simp only [Act.put,List.getElem_toArray,List.getElem_cons_zero,List.getElem_cons_succ,List.setIfInBounds_toArray,List.set_cons_zero,List.set_cons_succ]
               refine wpAnyH_ready (rs:=[12]) (by kernel_rfl) (by simp) ?_
               refine AllReadyH.cons rfl (fun KK hKK=>?_) AllReadyH.nil
               go_simp
               refine (HV1.out _).mono ?_
               rintro r WB00 ⟨rfl,hbWB00⟩
               have HBWB00:Hid (Below w14.heap.size w14 WB00):=HBWA0.out.trans (hbWB00.mono HBWA0.out.size)
               have HLWB00:Hid (Below WA0.heap.size WA0 WB00):=HLWA0.out.trans (hbWB00.mono HLWA0.out.size)
               refine hKK.out _ _ (HRWA0.out _ HLWB00.out) (fun hHeldWB00=>?_)
               clear hKK hHeld2 hbWB00
               try simp only [Act.put,List.getElem_toArray,List.getElem_cons_zero,List.getElem_cons_succ,List.setIfInBounds_toArray,List.set_cons_zero,List.set_cons_succ]
               refine wpAnyH_take (i:=13) (v:=?v13b00) rfl (by kernel_rfl) (by kernel_rfl) (by kernel_rfl) (fun _ _ _ h=>h) (Or.inl ⟨by rfl,?h13b00⟩) (by assumption) ?r13b00
               case h13b00=>(intro W hSw;(try dsimp only at hSw);go_simp;all_goals (with_reducible rfl))
               try simp only [Act.put,List.getElem_toArray,List.getElem_cons_zero,List.getElem_cons_succ,List.setIfInBounds_toArray,List.set_cons_zero,List.set_cons_succ]
               refine wpAnyH_ready (rs:=[16]) (by kernel_rfl) (by simp) ?_
               refine AllReadyH.cons rfl (fun KK hKK=>?_) AllReadyH.nil
               go_simp
               refine (HV2.out _).mono ?_
               rintro r WB01 ⟨rfl,hbWB01⟩
               have HBWB01:Hid (Below w14.heap.size w14 WB01):=HBWB00.out.trans (hbWB01.mono HBWB00.out.size)
               have HLWB01:Hid (Below WA0.heap.size WA0 WB01):=HLWB00.out.trans (hbWB01.mono HLWB00.out.size)
               refine hKK.out _ _ (HRWA0.out _ HLWB01.out) (fun hHeldWB01=>?_)
               clear hKK hHeldWB00 hbWB01
               try simp only [Act.put,List.getElem_toArray,List.getElem_cons_zero,List.getElem_cons_succ,List.setIfInBounds_toArray,List.set_cons_zero,List.set_cons_succ]
               refine wpAnyH_take (i:=17) (v:=?v17b01) rfl (by kernel_rfl) (by kernel_rfl) (by kernel_rfl) (fun _ _ _ h=>h) (Or.inl ⟨by rfl,?h17b01⟩) (by assumption) ?r17b01
               case h17b01=>(intro W hSw;(try dsimp only at hSw);go_simp;all_goals (with_reducible rfl))
               try simp only [Act.put,List.getElem_toArray,List.getElem_cons_zero,List.getElem_cons_succ,List.setIfInBounds_toArray,List.set_cons_zero,List.set_cons_succ]
               refine wpAnyH_ready (rs:=[23]) (by kernel_rfl) (by simp) ?_
               refine AllReadyH.cons rfl (fun KK hKK=>?_) AllReadyH.nil
               go_simp
               refine (HV3.out _).mono ?_
               rintro r WB02 ⟨rfl,hbWB02⟩
               have HBWB02:Hid (Below w14.heap.size w14 WB02):=HBWB01.out.trans (hbWB02.mono HBWB01.out.size)
               have HLWB02:Hid (Below WA0.heap.size WA0 WB02):=HLWB01.out.trans (hbWB02.mono HLWB01.out.size)
               refine hKK.out _ _ (HRWA0.out _ HLWB02.out) (fun hHeldWB02=>?_)
               clear hKK hHeldWB01 hbWB02
               try simp only [Act.put,List.getElem_toArray,List.getElem_cons_zero,List.getElem_cons_succ,List.setIfInBounds_toArray,List.set_cons_zero,List.set_cons_succ]
               refine wpAnyH_take (i:=24) (v:=?v24b02) rfl (by kernel_rfl) (by kernel_rfl) (by kernel_rfl) (fun _ _ _ h=>h) (Or.inl ⟨by rfl,?h24b02⟩) (by assumption) ?r24b02
               case h24b02=>(intro W hSw;(try dsimp only at hSw);go_simp;all_goals (with_reducible rfl))
               try simp only [Act.put,List.getElem_toArray,List.getElem_cons_zero,List.getElem_cons_succ,List.setIfInBounds_toArray,List.set_cons_zero,List.set_cons_succ]
               refine wpAnyH_take (i:=26) (v:=?v26b02) rfl (by kernel_rfl) (by kernel_rfl) (by kernel_rfl) (fun _ _ _ h=>h) (Or.inl ⟨by rfl,?h26b02⟩) (by assumption) ?r26b02
               case h26b02=>(intro W hSw;(try dsimp only at hSw);go_simp;all_goals (with_reducible rfl))
               try simp only [Act.put,List.getElem_toArray,List.getElem_cons_zero,List.getElem_cons_succ,List.setIfInBounds_toArray,List.set_cons_zero,List.set_cons_succ]
               refine wpAnyH_take (i:=27) (v:=?v27b02) rfl (by kernel_rfl) (by kernel_rfl) (by kernel_rfl) (fun _ _ _ h=>h) (Or.inl ⟨by rfl,?h27b02⟩) (by assumption) ?r27b02
               case h27b02=>(intro W hSw;(try dsimp only at hSw);go_simp;all_goals (with_reducible rfl))
               try simp only [Act.put,List.getElem_toArray,List.getElem_cons_zero,List.getElem_cons_succ,List.setIfInBounds_toArray,List.set_cons_zero,List.set_cons_succ]
               refine wpAnyH_take (i:=28) (v:=?v28b02) rfl (by kernel_rfl) (by kernel_rfl) (by kernel_rfl) (fun _ _ _ h=>h) (Or.inl ⟨by rfl,?h28b02⟩) (by assumption) ?r28b02
               case h28b02=>(intro W hSw;(try dsimp only at hSw);go_simp;all_goals (with_reducible rfl))
               try simp only [Act.put,List.getElem_toArray,List.getElem_cons_zero,List.getElem_cons_succ,List.setIfInBounds_toArray,List.set_cons_zero,List.set_cons_succ]
               refine wpAnyH_done (by kernel_rfl) ?_ _
               go_wp2
               go_roundw
               case rel=>exact ⟨k3 + 1,_,T',rfl,rfl,by omega,by go_num,HT14.out.1,HT14.out.2,HOK4.out,HRN.out,HXS.out,HC14.out.trans (HBWB02.out.mono HC14.out.size)⟩
               case measure=>simp [intOf];omega
             · go_simp
               refine (HV1.out _).mono ?_
               rintro r WC0 ⟨rfl,hbWC0⟩
               have HBWC0:Hid (Below w14.heap.size w14 WC0):=HBW0.out.trans (hbWC0.mono HBW0.out.size)
               refine hKK.out _ _ (HS14.out _ HBWC0.out) (fun hHeldWC0=>?_)
               clear hKK hHeld hbWC0
               try simp only [Act.put,List.getElem_toArray,List.getElem_cons_zero,List.getElem_cons_succ,List.setIfInBounds_toArray,List.set_cons_zero,List.set_cons_succ]
               refine wpAnyH_ready (rs:=[4,16]) (by kernel_rfl) (by simp) ?_
               refine AllReadyH.cons rfl (fun KK hKK=>?_) (AllReadyH.cons rfl (fun KK hKK=>?_) AllReadyH.nil)
               · go_simp
                 refine hKK.out _ _ (HS14.out _ (HBWC0.out.alloc HBWC0.out.size _)) (fun hHeldWA1=>?_)
                 clear hKK hHeldWC0
                 try simp only [Act.put,List.getElem_toArray,List.getElem_cons_zero,List.getElem_cons_succ,List.setIfInBounds_toArray,List.set_cons_zero,List.set_cons_succ]
                 have HBWA1:Hid (Below w14.heap.size w14 (WC0.alloc (.cells #[.int .u8 K] 5))):=Lib.hid (HBWC0.out.alloc HBWC0.out.size _)
                 have hrowWA1:(WC0.alloc (.cells #[.int .u8 K] 5)).heap[WC0.heap.size]? = some (.cells #[.int .u8 K] 5 (0,0)):=heap_alloc_new WC0 _
                 have hltWA1:WC0.heap.size < (WC0.alloc (.cells #[.int .u8 K] 5)).heap.size:=by simp
                 generalize WC0.alloc (.cells #[.int .u8 K] 5)=WA1 at HBWA1 hrowWA1 hltWA1 hHeldWA1 ⊢
                 generalize WC0.heap.size=bl at hrowWA1 hltWA1 ⊢
                 have HRWA1:Hid (∀ w',Below WA1.heap.size WA1 w'→(w'.cell? ⟨wr.heap.size,0,none⟩=some (.int .i64 T')∧w'.cell? ⟨wr.heap.size,2,none⟩=some (.int .i64 K)∧w'.cell? ⟨b9,o9 + k3,none⟩=some (.int .i64 (j:Int)))∧w'.heap[bl]? = some (.cells #[.int .u8 K] 5 (0,0))):=Lib.hid (fun w' h=>⟨HS14.out _ (HBWA1.out.trans (h.mono HBWA1.out.size)),(h.block _ hltWA1).trans hrowWA1⟩)
                 have HLWA1:Hid (Below WA1.heap.size WA1 WA1):=Lib.hid (Below.refl _ _)
                 have hHeld2:=HRWA1.out _ HLWA1.out
                 clear hHeldWA1 hrowWA1 hltWA1
                 refine wpAnyH_weak (S':=fun w'=>(w'.cell? ⟨wr.heap.size,0,none⟩=some (.int .i64 T')∧w'.cell? ⟨wr.heap.size,2,none⟩=some (.int .i64 K)∧w'.cell? ⟨b9,o9 + k3,none⟩=some (.int .i64 (j:Int)))∧w'.heap[bl]? = some (.cells #[.int .u8 K] 5 (0,0))) (fun _ h=>h.1) _ _ _ _ ?_
                 refine wpAnyH_take (i:=5) (v:=?v5a1) rfl (by kernel_rfl) (by kernel_rfl) (by kernel_rfl) (fun _ _ _ h=>h) (Or.inl ⟨by rfl,?h5a1⟩) (by assumption) ?r5a1
                 case h5a1=>(intro W hSw;have hcv:=lit_conv K B1 HB1.out HK14.out W bl hSw.2;(try dsimp only at hSw);go_simp;all_goals (with_reducible rfl))
                 try simp only [Act.put,List.getElem_toArray,List.getElem_cons_zero,List.getElem_cons_succ,List.setIfInBounds_toArray,List.set_cons_zero,List.set_cons_succ]
                 refine wpAnyH_take (i:=13) (v:=?v13a1) rfl (by kernel_rfl) (by kernel_rfl) (by kernel_rfl) (fun _ _ _ h=>h) (Or.inl ⟨by rfl,?h13a1⟩) (by assumption) ?r13a1
                 case h13a1=>(intro W hSw;(try dsimp only at hSw);go_simp;all_goals (with_reducible rfl))
                 try simp only [Act.put,List.getElem_toArray,List.getElem_cons_zero,List.getElem_cons_succ,List.setIfInBounds_toArray,List.set_cons_zero,List.set_cons_succ]
                 refine wpAnyH_ready (rs:=[16]) (by kernel_rfl) (by simp) ?_
                 refine AllReadyH.cons rfl (fun KK hKK=>?_) AllReadyH.nil
                 go_simp
                 refine (HV2.out _).mono ?_
                 rintro r WB11 ⟨rfl,hbWB11⟩
                 have HBWB11:Hid (Below w14.heap.size w14 WB11):=HBWA1.out.trans (hbWB11.mono HBWA1.out.size)
                 have HLWB11:Hid (Below WA1.heap.size WA1 WB11):=HLWA1.out.trans (hbWB11.mono HLWA1.out.size)
                 refine hKK.out _ _ (HRWA1.out _ HLWB11.out) (fun hHeldWB11=>?_)
                 clear hKK hHeld2 hbWB11
                 try simp only [Act.put,List.getElem_toArray,List.getElem_cons_zero,List.getElem_cons_succ,List.setIfInBounds_toArray,List.set_cons_zero,List.set_cons_succ]
                 refine wpAnyH_take (i:=17) (v:=?v17b11) rfl (by kernel_rfl) (by kernel_rfl) (by kernel_rfl) (fun _ _ _ h=>h) (Or.inl ⟨by rfl,?h17b11⟩) (by assumption) ?r17b11
                 case h17b11=>(intro W hSw;(try dsimp only at hSw);go_simp;all_goals (with_reducible rfl))
                 try simp only [Act.put,List.getElem_toArray,List.getElem_cons_zero,List.getElem_cons_succ,List.setIfInBounds_toArray,List.set_cons_zero,List.set_cons_succ]
                 refine wpAnyH_ready (rs:=[23]) (by kernel_rfl) (by simp) ?_
                 refine AllReadyH.cons rfl (fun KK hKK=>?_) AllReadyH.nil
                 go_simp
                 refine (HV3.out _).mono ?_
                 rintro r WB12 ⟨rfl,hbWB12⟩
                 have HBWB12:Hid (Below w14.heap.size w14 WB12):=HBWB11.out.trans (hbWB12.mono HBWB11.out.size)
                 have HLWB12:Hid (Below WA1.heap.size WA1 WB12):=HLWB11.out.trans (hbWB12.mono HLWB11.out.size)
                 refine hKK.out _ _ (HRWA1.out _ HLWB12.out) (fun hHeldWB12=>?_)
                 clear hKK hHeldWB11 hbWB12
                 try simp only [Act.put,List.getElem_toArray,List.getElem_cons_zero,List.getElem_cons_succ,List.setIfInBounds_toArray,List.set_cons_zero,List.set_cons_succ]
                 refine wpAnyH_take (i:=24) (v:=?v24b12) rfl (by kernel_rfl) (by kernel_rfl) (by kernel_rfl) (fun _ _ _ h=>h) (Or.inl ⟨by rfl,?h24b12⟩) (by assumption) ?r24b12
                 case h24b12=>(intro W hSw;(try dsimp only at hSw);go_simp;all_goals (with_reducible rfl))
                 try simp only [Act.put,List.getElem_toArray,List.getElem_cons_zero,List.getElem_cons_succ,List.setIfInBounds_toArray,List.set_cons_zero,List.set_cons_succ]
                 refine wpAnyH_take (i:=26) (v:=?v26b12) rfl (by kernel_rfl) (by kernel_rfl) (by kernel_rfl) (fun _ _ _ h=>h) (Or.inl ⟨by rfl,?h26b12⟩) (by assumption) ?r26b12
                 case h26b12=>(intro W hSw;(try dsimp only at hSw);go_simp;all_goals (with_reducible rfl))
                 try simp only [Act.put,List.getElem_toArray,List.getElem_cons_zero,List.getElem_cons_succ,List.setIfInBounds_toArray,List.set_cons_zero,List.set_cons_succ]
                 refine wpAnyH_take (i:=27) (v:=?v27b12) rfl (by kernel_rfl) (by kernel_rfl) (by kernel_rfl) (fun _ _ _ h=>h) (Or.inl ⟨by rfl,?h27b12⟩) (by assumption) ?r27b12
                 case h27b12=>(intro W hSw;(try dsimp only at hSw);go_simp;all_goals (with_reducible rfl))
                 try simp only [Act.put,List.getElem_toArray,List.getElem_cons_zero,List.getElem_cons_succ,List.setIfInBounds_toArray,List.set_cons_zero,List.set_cons_succ]
                 refine wpAnyH_take (i:=28) (v:=?v28b12) rfl (by kernel_rfl) (by kernel_rfl) (by kernel_rfl) (fun _ _ _ h=>h) (Or.inl ⟨by rfl,?h28b12⟩) (by assumption) ?r28b12
                 case h28b12=>(intro W hSw;(try dsimp only at hSw);go_simp;all_goals (with_reducible rfl))
                 try simp only [Act.put,List.getElem_toArray,List.getElem_cons_zero,List.getElem_cons_succ,List.setIfInBounds_toArray,List.set_cons_zero,List.set_cons_succ]
                 refine wpAnyH_done (by kernel_rfl) ?_ _
                 go_wp2
                 go_roundw
                 case rel=>exact ⟨k3 + 1,_,T',rfl,rfl,by omega,by go_num,HT14.out.1,HT14.out.2,HOK4.out,HRN.out,HXS.out,HC14.out.trans (HBWB12.out.mono HC14.out.size)⟩
                 case measure=>simp [intOf];omega
               · go_simp
                 refine (HV2.out _).mono ?_
                 rintro r WC1 ⟨rfl,hbWC1⟩
                 have HBWC1:Hid (Below w14.heap.size w14 WC1):=HBWC0.out.trans (hbWC1.mono HBWC0.out.size)
                 refine hKK.out _ _ (HS14.out _ HBWC1.out) (fun hHeldWC1=>?_)
                 clear hKK hHeldWC0 hbWC1
                 try simp only [Act.put,List.getElem_toArray,List.getElem_cons_zero,List.getElem_cons_succ,List.setIfInBounds_toArray,List.set_cons_zero,List.set_cons_succ]
                 refine wpAnyH_ready (rs:=[4,23]) (by kernel_rfl) (by simp) ?_
                 refine AllReadyH.cons rfl (fun KK hKK=>?_) (AllReadyH.cons rfl (fun KK hKK=>?_) AllReadyH.nil)
                 · go_simp
                   refine hKK.out _ _ (HS14.out _ (HBWC1.out.alloc HBWC1.out.size _)) (fun hHeldWA2=>?_)
                   clear hKK hHeldWC1
                   try simp only [Act.put,List.getElem_toArray,List.getElem_cons_zero,List.getElem_cons_succ,List.setIfInBounds_toArray,List.set_cons_zero,List.set_cons_succ]
                   have HBWA2:Hid (Below w14.heap.size w14 (WC1.alloc (.cells #[.int .u8 K] 5))):=Lib.hid (HBWC1.out.alloc HBWC1.out.size _)
                   have hrowWA2:(WC1.alloc (.cells #[.int .u8 K] 5)).heap[WC1.heap.size]? = some (.cells #[.int .u8 K] 5 (0,0)):=heap_alloc_new WC1 _
                   have hltWA2:WC1.heap.size < (WC1.alloc (.cells #[.int .u8 K] 5)).heap.size:=by simp
                   generalize WC1.alloc (.cells #[.int .u8 K] 5)=WA2 at HBWA2 hrowWA2 hltWA2 hHeldWA2 ⊢
                   generalize WC1.heap.size=bl at hrowWA2 hltWA2 ⊢
                   have HRWA2:Hid (∀ w',Below WA2.heap.size WA2 w'→(w'.cell? ⟨wr.heap.size,0,none⟩=some (.int .i64 T')∧w'.cell? ⟨wr.heap.size,2,none⟩=some (.int .i64 K)∧w'.cell? ⟨b9,o9 + k3,none⟩=some (.int .i64 (j:Int)))∧w'.heap[bl]? = some (.cells #[.int .u8 K] 5 (0,0))):=Lib.hid (fun w' h=>⟨HS14.out _ (HBWA2.out.trans (h.mono HBWA2.out.size)),(h.block _ hltWA2).trans hrowWA2⟩)
                   have HLWA2:Hid (Below WA2.heap.size WA2 WA2):=Lib.hid (Below.refl _ _)
                   have hHeld2:=HRWA2.out _ HLWA2.out
                   clear hHeldWA2 hrowWA2 hltWA2
                   refine wpAnyH_weak (S':=fun w'=>(w'.cell? ⟨wr.heap.size,0,none⟩=some (.int .i64 T')∧w'.cell? ⟨wr.heap.size,2,none⟩=some (.int .i64 K)∧w'.cell? ⟨b9,o9 + k3,none⟩=some (.int .i64 (j:Int)))∧w'.heap[bl]? = some (.cells #[.int .u8 K] 5 (0,0))) (fun _ h=>h.1) _ _ _ _ ?_
                   refine wpAnyH_take (i:=5) (v:=?v5a2) rfl (by kernel_rfl) (by kernel_rfl) (by kernel_rfl) (fun _ _ _ h=>h) (Or.inl ⟨by rfl,?h5a2⟩) (by assumption) ?r5a2
                   case h5a2=>(intro W hSw;have hcv:=lit_conv K B1 HB1.out HK14.out W bl hSw.2;(try dsimp only at hSw);go_simp;all_goals (with_reducible rfl))
                   try simp only [Act.put,List.getElem_toArray,List.getElem_cons_zero,List.getElem_cons_succ,List.setIfInBounds_toArray,List.set_cons_zero,List.set_cons_succ]
                   refine wpAnyH_take (i:=13) (v:=?v13a2) rfl (by kernel_rfl) (by kernel_rfl) (by kernel_rfl) (fun _ _ _ h=>h) (Or.inl ⟨by rfl,?h13a2⟩) (by assumption) ?r13a2
                   case h13a2=>(intro W hSw;(try dsimp only at hSw);go_simp;all_goals (with_reducible rfl))
                   try simp only [Act.put,List.getElem_toArray,List.getElem_cons_zero,List.getElem_cons_succ,List.setIfInBounds_toArray,List.set_cons_zero,List.set_cons_succ]
                   refine wpAnyH_take (i:=17) (v:=?v17a2) rfl (by kernel_rfl) (by kernel_rfl) (by kernel_rfl) (fun _ _ _ h=>h) (Or.inl ⟨by rfl,?h17a2⟩) (by assumption) ?r17a2
                   case h17a2=>(intro W hSw;(try dsimp only at hSw);go_simp;all_goals (with_reducible rfl))
                   try simp only [Act.put,List.getElem_toArray,List.getElem_cons_zero,List.getElem_cons_succ,List.setIfInBounds_toArray,List.set_cons_zero,List.set_cons_succ]
                   refine wpAnyH_ready (rs:=[23]) (by kernel_rfl) (by simp) ?_
                   refine AllReadyH.cons rfl (fun KK hKK=>?_) AllReadyH.nil
                   go_simp
                   refine (HV3.out _).mono ?_
                   rintro r WB22 ⟨rfl,hbWB22⟩
                   have HBWB22:Hid (Below w14.heap.size w14 WB22):=HBWA2.out.trans (hbWB22.mono HBWA2.out.size)
                   have HLWB22:Hid (Below WA2.heap.size WA2 WB22):=HLWA2.out.trans (hbWB22.mono HLWA2.out.size)
                   refine hKK.out _ _ (HRWA2.out _ HLWB22.out) (fun hHeldWB22=>?_)
                   clear hKK hHeld2 hbWB22
                   try simp only [Act.put,List.getElem_toArray,List.getElem_cons_zero,List.getElem_cons_succ,List.setIfInBounds_toArray,List.set_cons_zero,List.set_cons_succ]
                   refine wpAnyH_take (i:=24) (v:=?v24b22) rfl (by kernel_rfl) (by kernel_rfl) (by kernel_rfl) (fun _ _ _ h=>h) (Or.inl ⟨by rfl,?h24b22⟩) (by assumption) ?r24b22
                   case h24b22=>(intro W hSw;(try dsimp only at hSw);go_simp;all_goals (with_reducible rfl))
                   try simp only [Act.put,List.getElem_toArray,List.getElem_cons_zero,List.getElem_cons_succ,List.setIfInBounds_toArray,List.set_cons_zero,List.set_cons_succ]
                   refine wpAnyH_take (i:=26) (v:=?v26b22) rfl (by kernel_rfl) (by kernel_rfl) (by kernel_rfl) (fun _ _ _ h=>h) (Or.inl ⟨by rfl,?h26b22⟩) (by assumption) ?r26b22
                   case h26b22=>(intro W hSw;(try dsimp only at hSw);go_simp;all_goals (with_reducible rfl))
                   try simp only [Act.put,List.getElem_toArray,List.getElem_cons_zero,List.getElem_cons_succ,List.setIfInBounds_toArray,List.set_cons_zero,List.set_cons_succ]
                   refine wpAnyH_take (i:=27) (v:=?v27b22) rfl (by kernel_rfl) (by kernel_rfl) (by kernel_rfl) (fun _ _ _ h=>h) (Or.inl ⟨by rfl,?h27b22⟩) (by assumption) ?r27b22
                   case h27b22=>(intro W hSw;(try dsimp only at hSw);go_simp;all_goals (with_reducible rfl))
                   try simp only [Act.put,List.getElem_toArray,List.getElem_cons_zero,List.getElem_cons_succ,List.setIfInBounds_toArray,List.set_cons_zero,List.set_cons_succ]
                   refine wpAnyH_take (i:=28) (v:=?v28b22) rfl (by kernel_rfl) (by kernel_rfl) (by kernel_rfl) (fun _ _ _ h=>h) (Or.inl ⟨by rfl,?h28b22⟩) (by assumption) ?r28b22
                   case h28b22=>(intro W hSw;(try dsimp only at hSw);go_simp;all_goals (with_reducible rfl))
                   try simp only [Act.put,List.getElem_toArray,List.getElem_cons_zero,List.getElem_cons_succ,List.setIfInBounds_toArray,List.set_cons_zero,List.set_cons_succ]
                   refine wpAnyH_done (by kernel_rfl) ?_ _
                   go_wp2
                   go_roundw
                   case rel=>exact ⟨k3 + 1,_,T',rfl,rfl,by omega,by go_num,HT14.out.1,HT14.out.2,HOK4.out,HRN.out,HXS.out,HC14.out.trans (HBWB22.out.mono HC14.out.size)⟩
                   case measure=>simp [intOf];omega
                 · go_simp
                   refine (HV3.out _).mono ?_
                   rintro r WC2 ⟨rfl,hbWC2⟩
                   have HBWC2:Hid (Below w14.heap.size w14 WC2):=HBWC1.out.trans (hbWC2.mono HBWC1.out.size)
                   refine hKK.out _ _ (HS14.out _ HBWC2.out) (fun hHeldWC2=>?_)
                   clear hKK hHeldWC1 hbWC2
                   try simp only [Act.put,List.getElem_toArray,List.getElem_cons_zero,List.getElem_cons_succ,List.setIfInBounds_toArray,List.set_cons_zero,List.set_cons_succ]
                   refine wpAnyH_ready (rs:=[4]) (by kernel_rfl) (by simp) ?_
                   refine AllReadyH.cons rfl (fun KK hKK=>?_) AllReadyH.nil
                   · go_simp
                     refine hKK.out _ _ (HS14.out _ (HBWC2.out.alloc HBWC2.out.size _)) (fun hHeldWA3=>?_)
                     clear hKK hHeldWC2
                     try simp only [Act.put,List.getElem_toArray,List.getElem_cons_zero,List.getElem_cons_succ,List.setIfInBounds_toArray,List.set_cons_zero,List.set_cons_succ]
                     have HBWA3:Hid (Below w14.heap.size w14 (WC2.alloc (.cells #[.int .u8 K] 5))):=Lib.hid (HBWC2.out.alloc HBWC2.out.size _)
                     have hrowWA3:(WC2.alloc (.cells #[.int .u8 K] 5)).heap[WC2.heap.size]? = some (.cells #[.int .u8 K] 5 (0,0)):=heap_alloc_new WC2 _
                     have hltWA3:WC2.heap.size < (WC2.alloc (.cells #[.int .u8 K] 5)).heap.size:=by simp
                     generalize WC2.alloc (.cells #[.int .u8 K] 5)=WA3 at HBWA3 hrowWA3 hltWA3 hHeldWA3 ⊢
                     generalize WC2.heap.size=bl at hrowWA3 hltWA3 ⊢
                     have HRWA3:Hid (∀ w',Below WA3.heap.size WA3 w'→(w'.cell? ⟨wr.heap.size,0,none⟩=some (.int .i64 T')∧w'.cell? ⟨wr.heap.size,2,none⟩=some (.int .i64 K)∧w'.cell? ⟨b9,o9 + k3,none⟩=some (.int .i64 (j:Int)))∧w'.heap[bl]? = some (.cells #[.int .u8 K] 5 (0,0))):=Lib.hid (fun w' h=>⟨HS14.out _ (HBWA3.out.trans (h.mono HBWA3.out.size)),(h.block _ hltWA3).trans hrowWA3⟩)
                     have HLWA3:Hid (Below WA3.heap.size WA3 WA3):=Lib.hid (Below.refl _ _)
                     have hHeld2:=HRWA3.out _ HLWA3.out
                     clear hHeldWA3 hrowWA3 hltWA3
                     refine wpAnyH_weak (S':=fun w'=>(w'.cell? ⟨wr.heap.size,0,none⟩=some (.int .i64 T')∧w'.cell? ⟨wr.heap.size,2,none⟩=some (.int .i64 K)∧w'.cell? ⟨b9,o9 + k3,none⟩=some (.int .i64 (j:Int)))∧w'.heap[bl]? = some (.cells #[.int .u8 K] 5 (0,0))) (fun _ h=>h.1) _ _ _ _ ?_
                     refine wpAnyH_take (i:=5) (v:=?v5a3) rfl (by kernel_rfl) (by kernel_rfl) (by kernel_rfl) (fun _ _ _ h=>h) (Or.inl ⟨by rfl,?h5a3⟩) (by assumption) ?r5a3
                     case h5a3=>(intro W hSw;have hcv:=lit_conv K B1 HB1.out HK14.out W bl hSw.2;(try dsimp only at hSw);go_simp;all_goals (with_reducible rfl))
                     try simp only [Act.put,List.getElem_toArray,List.getElem_cons_zero,List.getElem_cons_succ,List.setIfInBounds_toArray,List.set_cons_zero,List.set_cons_succ]
                     refine wpAnyH_take (i:=13) (v:=?v13a3) rfl (by kernel_rfl) (by kernel_rfl) (by kernel_rfl) (fun _ _ _ h=>h) (Or.inl ⟨by rfl,?h13a3⟩) (by assumption) ?r13a3
                     case h13a3=>(intro W hSw;(try dsimp only at hSw);go_simp;all_goals (with_reducible rfl))
                     try simp only [Act.put,List.getElem_toArray,List.getElem_cons_zero,List.getElem_cons_succ,List.setIfInBounds_toArray,List.set_cons_zero,List.set_cons_succ]
                     refine wpAnyH_take (i:=17) (v:=?v17a3) rfl (by kernel_rfl) (by kernel_rfl) (by kernel_rfl) (fun _ _ _ h=>h) (Or.inl ⟨by rfl,?h17a3⟩) (by assumption) ?r17a3
                     case h17a3=>(intro W hSw;(try dsimp only at hSw);go_simp;all_goals (with_reducible rfl))
                     try simp only [Act.put,List.getElem_toArray,List.getElem_cons_zero,List.getElem_cons_succ,List.setIfInBounds_toArray,List.set_cons_zero,List.set_cons_succ]
                     refine wpAnyH_take (i:=24) (v:=?v24a3) rfl (by kernel_rfl) (by kernel_rfl) (by kernel_rfl) (fun _ _ _ h=>h) (Or.inl ⟨by rfl,?h24a3⟩) (by assumption) ?r24a3
                     case h24a3=>(intro W hSw;(try dsimp only at hSw);go_simp;all_goals (with_reducible rfl))
                     try simp only [Act.put,List.getElem_toArray,List.getElem_cons_zero,List.getElem_cons_succ,List.setIfInBounds_toArray,List.set_cons_zero,List.set_cons_succ]
                     refine wpAnyH_take (i:=26) (v:=?v26a3) rfl (by kernel_rfl) (by kernel_rfl) (by kernel_rfl) (fun _ _ _ h=>h) (Or.inl ⟨by rfl,?h26a3⟩) (by assumption) ?r26a3
                     case h26a3=>(intro W hSw;(try dsimp only at hSw);go_simp;all_goals (with_reducible rfl))
                     try simp only [Act.put,List.getElem_toArray,List.getElem_cons_zero,List.getElem_cons_succ,List.setIfInBounds_toArray,List.set_cons_zero,List.set_cons_succ]
                     refine wpAnyH_take (i:=27) (v:=?v27a3) rfl (by kernel_rfl) (by kernel_rfl) (by kernel_rfl) (fun _ _ _ h=>h) (Or.inl ⟨by rfl,?h27a3⟩) (by assumption) ?r27a3
                     case h27a3=>(intro W hSw;(try dsimp only at hSw);go_simp;all_goals (with_reducible rfl))
                     try simp only [Act.put,List.getElem_toArray,List.getElem_cons_zero,List.getElem_cons_succ,List.setIfInBounds_toArray,List.set_cons_zero,List.set_cons_succ]
                     refine wpAnyH_take (i:=28) (v:=?v28a3) rfl (by kernel_rfl) (by kernel_rfl) (by kernel_rfl) (fun _ _ _ h=>h) (Or.inl ⟨by rfl,?h28a3⟩) (by assumption) ?r28a3
                     case h28a3=>(intro W hSw;(try dsimp only at hSw);go_simp;all_goals (with_reducible rfl))
                     try simp only [Act.put,List.getElem_toArray,List.getElem_cons_zero,List.getElem_cons_succ,List.setIfInBounds_toArray,List.set_cons_zero,List.set_cons_succ]
                     refine wpAnyH_done (by kernel_rfl) ?_ _
                     go_wp2
                     go_roundw
                     case rel=>exact ⟨k3 + 1,_,T',rfl,rfl,by omega,by go_num,HT14.out.1,HT14.out.2,HOK4.out,HRN.out,HXS.out,HC14.out.trans (HBWA3.out.mono HC14.out.size)⟩
                     case measure=>simp [intOf];omega
           · have HBD : Hid (bodyL f h l = X3.data.toList) := Lib.hid (by
               have e:=HROW3.out
               rw [List.drop_of_length_le (show l.length≤k3 by have:=HN.out;omega)] at e
               have hz0:rowB h ahead [] (A.drop k3)=[]:=by simp [rowB]
               rw [hz0,List.append_nil,HP1.out] at e
               rw [←e]
               unfold bodyL
               rw [←HTT.out,←HAA.out,←HTL.out,HN.out])
             have HRZ:Hid ((batF f h l).1=0):=Lib.hid HR.out
             have HF3:=Lib.hid (HF2.out.below (HE.out _ HC11.out) HZ2.out.1)
             have HW3:=Lib.hid (HEW.out _ HC11.out)
             have HZF:Hid (F < wr.heap.size):=Lib.hid (Nat.lt_of_lt_of_le HZ2.out.1 (HE.out _ HC11.out).size)
             clear hx3 ha0 ha1 HOK3 HROW3
             by_cases hbig:X3.size≤20000
             · have hb1:(X3.size:Int)≤20000:=by omega
               have HBF2:Hid (bodyF f h l=(bodyL f h l,0,-1)):=Lib.hid (bodyF_ok HRZ.out (by rw [HBD.out,←size_data];omega))
               go_wp2_with fail
               refine (good_any wr).mono ?_
               rintro r w9' ⟨rfl,hb9'⟩
               have HF4:=Lib.hid (HF3.out.below hb9' HZF.out)
               have HW4:Hid (Below w.heap.size w w9'):=HW3.out.trans (hb9'.mono HW3.out.size)
               clear hb9'
               obtain ⟨c0,c1⟩:=HF4.out.at
               have g0:=HF4.out.frozen 0
               have g1:=HF4.out.frozen 1
               go_wp2
               have HF5:Hid (rowF ((w9'.setCell ⟨F,0,none⟩ (.int .i64 0)).setCell ⟨F,1,none⟩ (.int .i64 (-1))) F 0 (-1)):=Lib.hid (HF4.out.put 0 (-1))
               have HW5':Hid (Below w.heap.size w ((w9'.setCell ⟨F,0,none⟩ (.int .i64 0)).setCell ⟨F,1,none⟩ (.int .i64 (-1)))):=Lib.hid (below_put HW4.out HBW.out _ _)
               generalize (w9'.setCell ⟨F,0,none⟩ (.int .i64 0)).setCell ⟨F,1,none⟩ (.int .i64 (-1))=wz at HF5 HW5' ⊢
               clear c0 c1 g0 g1
               obtain ⟨c0,c1⟩:=HF5.out.at
               refine bodyPost_ret (v:=.tuple #[.string X3,.agg #[.int .i64 0,.int .i64 (-1)]]) (by simp [results,Tryz.results68,go_sem,c0,c1]) rfl ?_
               exact ⟨by rw [HBF2.out,HBD.out];rfl,HW5'.out⟩
             · have hb1:20000 < (X3.size:Int):=by omega
               have HBF2:Hid (bodyF f h l=([],4,-1)):=Lib.hid (bodyF_big HRZ.out (by rw [HBD.out,←size_data];omega))
               go_wp2_with fail
               refine (baref_any 4 wr).mono ?_
               rintro r w9' ⟨rfl,hb9'⟩
               have HF4:=Lib.hid (HF3.out.below hb9' HZF.out)
               have HW4:Hid (Below w.heap.size w w9'):=HW3.out.trans (hb9'.mono HW3.out.size)
               clear hb9'
               obtain ⟨c0,c1⟩:=HF4.out.at
               have g0:=HF4.out.frozen 0
               have g1:=HF4.out.frozen 1
               go_wp2
               have HF5:Hid (rowF ((w9'.setCell ⟨F,0,none⟩ (.int .i64 4)).setCell ⟨F,1,none⟩ (.int .i64 (-1))) F 4 (-1)):=Lib.hid (HF4.out.put 4 (-1))
               have HW5':Hid (Below w.heap.size w ((w9'.setCell ⟨F,0,none⟩ (.int .i64 4)).setCell ⟨F,1,none⟩ (.int .i64 (-1)))):=Lib.hid (below_put HW4.out HBW.out _ _)
               generalize (w9'.setCell ⟨F,0,none⟩ (.int .i64 4)).setCell ⟨F,1,none⟩ (.int .i64 (-1))=wz at HF5 HW5' ⊢
               clear c0 c1 g0 g1
               obtain ⟨c0,c1⟩:=HF5.out.at
               refine bodyPost_ret (v:=.tuple #[.string ⟨#[]⟩,.agg #[.int .i64 4,.int .i64 (-1)]]) (by simp [results,Tryz.results68,go_sem,c0,c1]) rfl ?_
               exact ⟨by rw [HBF2.out];rfl,HW5'.out⟩
end Go.Proofs.YtjkbmfpomgcblaaGreatDoor
