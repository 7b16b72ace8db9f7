import Derived.Test.YtjkbmfpomgcblaaGreatDoorKw22
namespace Go.Proofs.YtjkbmfpomgcblaaGreatDoor
open Go.RowKit
theorem wpAnyH_weakO {P:Program} {md:Region.Mode} {ops:Array Oper} {Q:Exit→Act→World→Prop} {S S':World→Prop} (hS:∀ w,S' w→S w) :
   ∀ (fuel:Nat) (listed:Array Bool) (a:Act) (w:World),wpAnyH P md ops Q S' fuel listed a w→wpAnyH P md ops Q S fuel listed a w
 | 0,_,_,_,h=>h
 | fuel + 1,_,_,_,h=>⟨h.1,fun i hi=>wpOp_mono (fun _ _ h'=>⟨hS _ h'.1,wpAnyH_weakO hS fuel _ _ _ h'.2⟩) (h.2 i hi)⟩
set_option maxRecDepth 100000 in
set_option maxHeartbeats 4000000 in
theorem oline_to (t r k:Nat) (key val:ByteArray) (n:Int) (L:ByteArray) (w:World) (hx:wE ⟨(t:Int),(r:Int),(k:Int),key,val,n⟩=0) (hL:oldW ⟨(t:Int),(r:Int),(k:Int),key,val,n⟩=L.data.toList) :
   Calls Tryz.prog 47 #[.agg #[.int .i64 (t:Int),.int .i64 (r:Int),.int .i64 (k:Int),.string key,.string val,.int .i64 n]] w fun e w'=>e=.returned (.tuple #[.string L,.nilIface])∧Below w.heap.size w w':=by
 have hf:=wE_facts hx
 obtain ⟨f1,f2,f3,f4,f5,f6,f7,f8,f9,f10⟩:=hf
 simp only at f1 f2 f3 f4 f5 f6 f7 f8
 have HTL:Hid (textV (tailF (t:Int) (r:Int) (k:Int) key val n)=.tuple #[.string (tailB (k:Int) val n),.nilIface]):=Lib.hid (by
   rw [tailF_ok hx];rfl)
 obtain ⟨TL,hTL⟩:∃ TL,tailB (k:Int) val n=TL:=⟨_,rfl⟩
 have htz:TL.size≤320:=by
   have h9:(tailB (k:Int) val n).data.toList.length≤320:=f9
   rw [hTL,←size_data] at h9;exact h9
 obtain ⟨SP,hSP⟩:∃ SP,spanB key=SP:=⟨_,rfl⟩
 have hsz:SP.size≤60:=by rw [←hSP,spanB_size];have:=putL_le10 (n:=key.size) (by omega);omega
 obtain ⟨B,hB⟩:∃ B:ByteArray,B=⟨#[UInt8.ofNat k]⟩:=⟨_,rfl⟩
 have hBz:B.size=1:=by rw [hB];rfl
 obtain ⟨A,hA⟩:=of_data (putL t)
 obtain ⟨C,hC⟩:=of_data (putL r)
 have hAz:A.size≤10:=by rw [size_data,←hA];exact putL_le10 (by omega)
 have hCz:C.size≤10:=by rw [size_data,←hC];exact putL_le10 (by omega)
 have HRES:Hid (B ++ A ++ C ++ SP ++ TL=L):=Lib.hid (by
   apply bytes_ext
   rw [←hL]
   unfold oldW tailL
   simp only [app_dataO]
   rw [hTL,←hA,←hC,←hSP,spanB_data,hB,Int.toNat_natCast,Int.toNat_natCast,Int.toNat_natCast])
 have HAC:=Lib.hid (fun w'=>onumput_to t A w' (by omega) hA)
 have HCC:=Lib.hid (fun w'=>onumput_to r C w' (by omega) hC)
 have HBB:=Lib.hid hB
 have HKZ:Hid (key.size≤2000):=Lib.hid (by omega)
 have HK1:Hid (key.size≤140737488351232):=Lib.hid (by omega)
 have HV1:Hid (val.size≤140737488351232):=Lib.hid (by omega)
 have HK255:Hid (k≤255):=Lib.hid (by omega)
 have hkw:IntKind.u8.wrap (k:Int)=(k:Int):=by rw [IntKind.wrap_u8];omega
 have s1:¬ (9223372036854775807 < B.size + A.size):=by omega
 have s2:¬ (9223372036854775807 < (B ++ A).size + C.size):=by rw [ByteArray.size_append];omega
 have s2':¬ (9223372036854775807 < B.size + A.size + C.size):=by omega
 have s3:¬ (9223372036854775807 < (B ++ A ++ C).size + SP.size):=by rw [ByteArray.size_append,ByteArray.size_append];omega
 have s3':¬ (9223372036854775807 < B.size + A.size + C.size + SP.size):=by omega
 have s4:¬ (9223372036854775807 < (B ++ A ++ C ++ SP).size + TL.size):=by rw [ByteArray.size_append,ByteArray.size_append,ByteArray.size_append];omega
 have s4':¬ (9223372036854775807 < B.size + A.size + C.size + SP.size + TL.size):=by omega
 rw [hTL] at HTL
 have HSP:=Lib.hid hSP
 have HN0:=Lib.hid (wrAt_new w (t:Int) (r:Int) (k:Int) key val n 59)
 have HW0:Hid (Below w.heap.size w (w.alloc (.cells #[.int .i64 (t:Int),.int .i64 (r:Int),.int .i64 (k:Int),.string key,.string val,.int .i64 n] 59))):=Lib.hid ((Below.refl _ _).alloc (Nat.le_refl _) _)
 have HZ0:Hid (w.heap.size < (w.alloc (.cells #[.int .i64 (t:Int),.int .i64 (r:Int),.int .i64 (k:Int),.string key,.string val,.int .i64 n] 59)).heap.size):=Lib.hid (by simp)
 clear hx hL hTL htz hSP hsz hB hBz hA hC hAz hCz f1 f2 f3 f4 f5 f6 f7 f8 f9 f10
 go_enter Tryz.func47,Tryz.ntmps47
 go_wp2_with fail
 generalize w.alloc (.cells #[.int .i64 (t:Int),.int .i64 (r:Int),.int .i64 (k:Int),.string key,.string val,.int .i64 n] 59)=W at HN0 HW0 HZ0 ⊢
 obtain ⟨c0,c1,c2,c3,c4,c5⟩:=HN0.out
 go_wp2_with fail
 refine (sput_ok key W HKZ.out).mono ?_
 rintro e w1 ⟨rfl,hb1⟩
 rw [HSP.out]
 have HN1:=Lib.hid (HN0.out.below hb1 HZ0.out)
 have HB1:Hid (Below w.heap.size w w1):=Lib.hid (HW0.out.trans (hb1.mono HW0.out.size))
 have HZ1:Hid (w.heap.size < w1.heap.size):=Lib.hid (Nat.lt_of_lt_of_le HZ0.out hb1.size)
 clear hb1 c0 c1 c2 c3 c4 c5
 obtain ⟨c0,c1,c2,c3,c4,c5⟩:=HN1.out
 go_wp2_with fail
 refine (wtail_any (t:Int) (r:Int) (k:Int) key val n w1 HK1.out HV1.out).mono ?_
 rintro e w2 ⟨rfl,hb2⟩
 rw [HTL.out]
 have HN2:=Lib.hid (HN1.out.below hb2 HZ1.out)
 have HB2:Hid (Below w.heap.size w w2):=Lib.hid (HB1.out.trans (hb2.mono HB1.out.size))
 have HZ2:Hid (w.heap.size < w2.heap.size):=Lib.hid (Nat.lt_of_lt_of_le HZ1.out hb2.size)
 clear hb2 c0 c1 c2 c3 c4 c5
 obtain ⟨c0,c1,c2,c3,c4,c5⟩:=HN2.out
 have HSF:Hid (∀ w',Below w2.heap.size w2 w'→(w'.cell? ⟨w.heap.size,0,none⟩=some (.int .i64 (t:Int))∧w'.cell? ⟨w.heap.size,1,none⟩=some (.int .i64 (r:Int))∧w'.cell? ⟨w.heap.size,2,none⟩=some (.int .i64 (k:Int)))):=Lib.hid (fun w' hb=>by
   obtain ⟨h0,h1,h2,_⟩:=HN2.out.below hb HZ2.out
   exact ⟨h0,h1,h2⟩)
 have HBW0:Hid (Below w2.heap.size w2 w2.drew):=Lib.hid (Below.refl _ _).drew
 clear c0 c1 c2 c3 c4 c5
 go_wp2
 refine wp_region_held_drew (S:=fun w'=>w'.cell? ⟨w.heap.size,0,none⟩=some (.int .i64 (t:Int))∧w'.cell? ⟨w.heap.size,1,none⟩=some (.int .i64 (r:Int))∧w'.cell? ⟨w.heap.size,2,none⟩=some (.int .i64 (k:Int))) (by kernel_rfl) (HSF.out _ HBW0.out) (fun hHeld=>?_)
 generalize w2.drew=W0 at HBW0 hHeld ⊢
 refine wpAnyH_take (i:=0) (v:=?v0) rfl (by kernel_rfl) (by kernel_rfl) (by kernel_rfl) (fun _ _ _ h=>h) (Or.inl ⟨by rfl,?h0⟩) (by assumption) ?r0
 case h0=>(intro W hSw;(try dsimp only at hSw);go_simp;all_goals (with_reducible rfl))
 try simp only [Act.put,List.getElem_toArray,List.getElem_cons_zero,List.setIfInBounds_toArray,List.set_cons_zero,List.set_cons_succ]
 refine wpAnyH_take (i:=1) (v:=?v1) rfl (by kernel_rfl) (by kernel_rfl) (by kernel_rfl) (fun _ _ _ h=>h) (Or.inl ⟨by rfl,?h1⟩) (by assumption) ?r1
 case h1=>(intro W hSw;(try dsimp only at hSw);go_simp;all_goals (with_reducible rfl))
 try simp only [Act.put,List.getElem_toArray,List.getElem_cons_zero,List.getElem_cons_succ,List.setIfInBounds_toArray,List.set_cons_zero,List.set_cons_succ]
 refine wpAnyH_take (i:=2) (v:=?v2) rfl (by kernel_rfl) (by kernel_rfl) (by kernel_rfl) (fun _ _ _ h=>h) (Or.inl ⟨by rfl,?h2⟩) (by assumption) ?r2
 case h2=>(intro W hSw;(try dsimp only at hSw);go_simp;all_goals (with_reducible rfl))
 try simp only [Act.put,List.getElem_toArray,List.getElem_cons_zero,List.getElem_cons_succ,List.setIfInBounds_toArray,List.set_cons_zero,List.set_cons_succ]
 refine wpAnyH_take (i:=5) (v:=?v5) rfl (by kernel_rfl) (by kernel_rfl) (by kernel_rfl) (fun _ _ _ h=>h) (Or.inl ⟨by rfl,?h5⟩) (by assumption) ?r5
 case h5=>(intro W hSw;(try dsimp only at hSw);go_simp;all_goals (with_reducible rfl))
 try simp only [Act.put,List.getElem_toArray,List.getElem_cons_zero,List.getElem_cons_succ,List.setIfInBounds_toArray,List.set_cons_zero,List.set_cons_succ]
 refine wpAnyH_take (i:=6) (v:=?v6) rfl (by kernel_rfl) (by kernel_rfl) (by kernel_rfl) (fun _ _ _ h=>h) (Or.inl ⟨by rfl,?h6⟩) (by assumption) ?r6
 case h6=>(intro W hSw;(try dsimp only at hSw);go_simp;all_goals (with_reducible rfl))
 try simp only [Act.put,List.getElem_toArray,List.getElem_cons_zero,List.getElem_cons_succ,List.setIfInBounds_toArray,List.set_cons_zero,List.set_cons_succ]
 refine wpAnyH_take (i:=7) (v:=?v7) rfl (by kernel_rfl) (by kernel_rfl) (by kernel_rfl) (fun _ _ _ h=>h) (Or.inl ⟨by rfl,?h7⟩) (by assumption) ?r7
 case h7=>(intro W hSw;(try dsimp only at hSw);go_simp;all_goals (with_reducible rfl))
 try simp only [Act.put,List.getElem_toArray,List.getElem_cons_zero,List.getElem_cons_succ,List.setIfInBounds_toArray,List.set_cons_zero,List.set_cons_succ]
 refine wpAnyH_take (i:=10) (v:=?v10) rfl (by kernel_rfl) (by kernel_rfl) (by kernel_rfl) (fun _ _ _ h=>h) (Or.inl ⟨by rfl,?h10⟩) (by assumption) ?r10
 case h10=>(intro W hSw;(try dsimp only at hSw);go_simp;all_goals (with_reducible rfl))
 try simp only [Act.put,List.getElem_toArray,List.getElem_cons_zero,List.getElem_cons_succ,List.setIfInBounds_toArray,List.set_cons_zero,List.set_cons_succ]
 refine wpAnyH_take (i:=11) (v:=?v11) rfl (by kernel_rfl) (by kernel_rfl) (by kernel_rfl) (fun _ _ _ h=>h) (Or.inl ⟨by rfl,?h11⟩) (by assumption) ?r11
 case h11=>(intro W hSw;(try dsimp only at hSw);go_simp;all_goals (with_reducible rfl))
 try simp only [Act.put,List.getElem_toArray,List.getElem_cons_zero,List.getElem_cons_succ,List.setIfInBounds_toArray,List.set_cons_zero,List.set_cons_succ]
 refine wpAnyH_take (i:=12) (v:=?v12) rfl (by kernel_rfl) (by kernel_rfl) (by kernel_rfl) (fun _ _ _ h=>h) (Or.inl ⟨by rfl,?h12⟩) (by assumption) ?r12
 case h12=>(intro W hSw;(try dsimp only at hSw);go_simp;all_goals (with_reducible rfl))
 try simp only [Act.put,List.getElem_toArray,List.getElem_cons_zero,List.getElem_cons_succ,List.setIfInBounds_toArray,List.set_cons_zero,List.set_cons_succ]
 refine wpAnyH_take (i:=15) (v:=?v15) rfl (by kernel_rfl) (by kernel_rfl) (by kernel_rfl) (fun _ _ _ h=>h) (Or.inl ⟨by rfl,?h15⟩) (by assumption) ?r15
 case h15=>(intro W hSw;(try dsimp only at hSw);go_simp;all_goals (with_reducible rfl))
 try simp only [Act.put,List.getElem_toArray,List.getElem_cons_zero,List.getElem_cons_succ,List.setIfInBounds_toArray,List.set_cons_zero,List.set_cons_succ]
 refine wpAnyH_take (i:=17) (v:=?v17) rfl (by kernel_rfl) (by kernel_rfl) (by kernel_rfl) (fun _ _ _ h=>h) (Or.inl ⟨by rfl,?h17⟩) (by assumption) ?r17
 case h17=>(intro W hSw;(try dsimp only at hSw);go_simp;all_goals (with_reducible rfl))
 try simp only [Act.put,List.getElem_toArray,List.getElem_cons_zero,List.getElem_cons_succ,List.setIfInBounds_toArray,List.set_cons_zero,List.set_cons_succ]
 refine wpAnyH_ready (rs:=[3,8]) (by kernel_rfl) (by simp) ?_
 refine AllReadyH.cons rfl (fun KK hKK=>?_) (AllReadyH.cons rfl (fun KK hKK=>?_) AllReadyH.nil)
 · go_simp
   refine hKK.out _ _ (HSF.out _ (HBW0.out.alloc HBW0.out.size _)) (fun hHeldWA0=>?_)
   clear hKK hHeld
   try simp only [Act.put,List.getElem_toArray,List.getElem_cons_zero,List.getElem_cons_succ,List.setIfInBounds_toArray,List.set_cons_zero,List.set_cons_succ]
   have HBWA0:Hid (Below w2.heap.size w2 (W0.alloc (.cells #[.int .u8 (k:Int)] 5))):=Lib.hid (HBW0.out.alloc HBW0.out.size _)
   have hrowWA0:(W0.alloc (.cells #[.int .u8 (k:Int)] 5)).heap[W0.heap.size]? = some (.cells #[.int .u8 (k:Int)] 5 (0,0)):=heap_alloc_new W0 _
   have hltWA0:W0.heap.size < (W0.alloc (.cells #[.int .u8 (k:Int)] 5)).heap.size:=by simp
   generalize W0.alloc (.cells #[.int .u8 (k:Int)] 5)=WA0 at HBWA0 hrowWA0 hltWA0 hHeldWA0 ⊢
   generalize W0.heap.size=bl at hrowWA0 hltWA0 ⊢
   have HRWA0:Hid (∀ w',Below WA0.heap.size WA0 w'→(w'.cell? ⟨w.heap.size,0,none⟩=some (.int .i64 (t:Int))∧w'.cell? ⟨w.heap.size,1,none⟩=some (.int .i64 (r:Int))∧w'.cell? ⟨w.heap.size,2,none⟩=some (.int .i64 (k:Int)))∧w'.heap[bl]? = some (.cells #[.int .u8 (k:Int)] 5 (0,0))):=Lib.hid (fun w' hb=>⟨HSF.out _ (HBWA0.out.trans (hb.mono HBWA0.out.size)),(hb.block bl hltWA0).trans hrowWA0⟩)
   have HLWA0:Hid (Below WA0.heap.size WA0 WA0):=Lib.hid (Below.refl _ _)
   have hHeld2:=HRWA0.out _ HLWA0.out
   clear hHeldWA0 hrowWA0 hltWA0
   refine wpAnyH_weakO (S':=fun w'=>(w'.cell? ⟨w.heap.size,0,none⟩=some (.int .i64 (t:Int))∧w'.cell? ⟨w.heap.size,1,none⟩=some (.int .i64 (r:Int))∧w'.cell? ⟨w.heap.size,2,none⟩=some (.int .i64 (k:Int)))∧w'.heap[bl]? = some (.cells #[.int .u8 (k:Int)] 5 (0,0))) (fun _ h=>h.1) _ _ _ _ ?_
   refine wpAnyH_take (i:=4) (v:=?v4a0) rfl (by kernel_rfl) (by kernel_rfl) (by kernel_rfl) (fun _ _ _ h=>h) (Or.inl ⟨by rfl,?h4a0⟩) (by assumption) ?r4a0
   case h4a0=>(intro W hSw;have hcv:=byte_lit k (k:Int) B rfl HBB.out HK255.out W bl hSw.2;(try dsimp only at hSw);go_simp;all_goals (with_reducible rfl))
   try simp only [Act.put,List.getElem_toArray,List.getElem_cons_zero,List.getElem_cons_succ,List.setIfInBounds_toArray,List.set_cons_zero,List.set_cons_succ]
   refine wpAnyH_ready (rs:=[8]) (by kernel_rfl) (by simp) ?_
   refine AllReadyH.cons rfl (fun KK hKK=>?_) AllReadyH.nil
   go_simp
   refine (HAC.out _).mono ?_
   rintro r WB00 ⟨rfl,hbWB00⟩
   have HBWB00:Hid (Below w2.heap.size w2 WB00):=Lib.hid (HBWA0.out.trans (hbWB00.mono HBWA0.out.size))
   have HLWB00:Hid (Below WA0.heap.size WA0 WB00):=Lib.hid (HLWA0.out.trans (hbWB00.mono HLWA0.out.size))
   refine hKK.out _ _ (HRWA0.out _ HLWB00.out) (fun hHeldWB00=>?_)
   clear hKK hHeld2 hbWB00
   try simp only [Act.put,List.getElem_toArray,List.getElem_cons_zero,List.getElem_cons_succ,List.setIfInBounds_toArray,List.set_cons_zero,List.set_cons_succ]
   refine wpAnyH_take (i:=9) (v:=?v9b00) rfl (by kernel_rfl) (by kernel_rfl) (by kernel_rfl) (fun _ _ _ h=>h) (Or.inl ⟨by rfl,?h9b00⟩) (by assumption) ?r9b00
   case h9b00=>(intro W hSw;(try dsimp only at hSw);go_simp;all_goals (with_reducible rfl))
   try simp only [Act.put,List.getElem_toArray,List.getElem_cons_zero,List.getElem_cons_succ,List.setIfInBounds_toArray,List.set_cons_zero,List.set_cons_succ]
   refine wpAnyH_ready (rs:=[13]) (by kernel_rfl) (by simp) ?_
   refine AllReadyH.cons rfl (fun KK hKK=>?_) AllReadyH.nil
   go_simp
   refine (HCC.out _).mono ?_
   rintro r WB01 ⟨rfl,hbWB01⟩
   have HBWB01:Hid (Below w2.heap.size w2 WB01):=Lib.hid (HBWB00.out.trans (hbWB01.mono HBWB00.out.size))
   have HLWB01:Hid (Below WA0.heap.size WA0 WB01):=Lib.hid (HLWB00.out.trans (hbWB01.mono HLWB00.out.size))
   refine hKK.out _ _ (HRWA0.out _ HLWB01.out) (fun hHeldWB01=>?_)
   clear hKK hHeldWB00 hbWB01
   try simp only [Act.put,List.getElem_toArray,List.getElem_cons_zero,List.getElem_cons_succ,List.setIfInBounds_toArray,List.set_cons_zero,List.set_cons_succ]
   refine wpAnyH_take (i:=14) (v:=?v14b01) rfl (by kernel_rfl) (by kernel_rfl) (by kernel_rfl) (fun _ _ _ h=>h) (Or.inl ⟨by rfl,?h14b01⟩) (by assumption) ?r14b01
   case h14b01=>(intro W hSw;(try dsimp only at hSw);go_simp;all_goals (with_reducible rfl))
   try simp only [Act.put,List.getElem_toArray,List.getElem_cons_zero,List.getElem_cons_succ,List.setIfInBounds_toArray,List.set_cons_zero,List.set_cons_succ]
   refine wpAnyH_take (i:=16) (v:=?v16b01) rfl (by kernel_rfl) (by kernel_rfl) (by kernel_rfl) (fun _ _ _ h=>h) (Or.inl ⟨by rfl,?h16b01⟩) (by assumption) ?r16b01
   case h16b01=>(intro W hSw;(try dsimp only at hSw);go_simp;all_goals (with_reducible rfl))
   try simp only [Act.put,List.getElem_toArray,List.getElem_cons_zero,List.getElem_cons_succ,List.setIfInBounds_toArray,List.set_cons_zero,List.set_cons_succ]
   refine wpAnyH_take (i:=18) (v:=?v18b01) rfl (by kernel_rfl) (by kernel_rfl) (by kernel_rfl) (fun _ _ _ h=>h) (Or.inl ⟨by rfl,?h18b01⟩) (by assumption) ?r18b01
   case h18b01=>(intro W hSw;(try dsimp only at hSw);go_simp;all_goals (with_reducible rfl))
   try simp only [Act.put,List.getElem_toArray,List.getElem_cons_zero,List.getElem_cons_succ,List.setIfInBounds_toArray,List.set_cons_zero,List.set_cons_succ]
   refine wpAnyH_take (i:=19) (v:=?v19b01) rfl (by kernel_rfl) (by kernel_rfl) (by kernel_rfl) (fun _ _ _ h=>h) (Or.inl ⟨by rfl,?h19b01⟩) (by assumption) ?r19b01
   case h19b01=>(intro W hSw;(try dsimp only at hSw);go_simp;all_goals (with_reducible rfl))
   try simp only [Act.put,List.getElem_toArray,List.getElem_cons_zero,List.getElem_cons_succ,List.setIfInBounds_toArray,List.set_cons_zero,List.set_cons_succ]
   refine wpAnyH_take (i:=20) (v:=?v20b01) rfl (by kernel_rfl) (by kernel_rfl) (by kernel_rfl) (fun _ _ _ h=>h) (Or.inl ⟨by rfl,?h20b01⟩) (by assumption) ?r20b01
   case h20b01=>(intro W hSw;(try dsimp only at hSw);go_simp;all_goals (with_reducible rfl))
   try simp only [Act.put,List.getElem_toArray,List.getElem_cons_zero,List.getElem_cons_succ,List.setIfInBounds_toArray,List.set_cons_zero,List.set_cons_succ]
   refine wpAnyH_done (by kernel_rfl) ?_ _
   go_wp2
   go_ret2
   exact ⟨by rw [←HRES.out];rfl,HB2.out.trans (HBWB01.out.mono HB2.out.size)⟩
 · go_simp
   refine (HAC.out _).mono ?_
   rintro r WC0 ⟨rfl,hbWC0⟩
   have HBWC0:Hid (Below w2.heap.size w2 WC0):=Lib.hid (HBW0.out.trans (hbWC0.mono HBW0.out.size))
   refine hKK.out _ _ (HSF.out _ HBWC0.out) (fun hHeldWC0=>?_)
   clear hKK hHeld hbWC0
   try simp only [Act.put,List.getElem_toArray,List.getElem_cons_zero,List.getElem_cons_succ,List.setIfInBounds_toArray,List.set_cons_zero,List.set_cons_succ]
   refine wpAnyH_ready (rs:=[3,13]) (by kernel_rfl) (by simp) ?_
   refine AllReadyH.cons rfl (fun KK hKK=>?_) (AllReadyH.cons rfl (fun KK hKK=>?_) AllReadyH.nil)
   · go_simp
     refine hKK.out _ _ (HSF.out _ (HBWC0.out.alloc HBWC0.out.size _)) (fun hHeldWA1=>?_)
     clear hKK hHeldWC0
     try simp only [Act.put,List.getElem_toArray,List.getElem_cons_zero,List.getElem_cons_succ,List.setIfInBounds_toArray,List.set_cons_zero,List.set_cons_succ]
     have HBWA1:Hid (Below w2.heap.size w2 (WC0.alloc (.cells #[.int .u8 (k:Int)] 5))):=Lib.hid (HBWC0.out.alloc HBWC0.out.size _)
     have hrowWA1:(WC0.alloc (.cells #[.int .u8 (k:Int)] 5)).heap[WC0.heap.size]? = some (.cells #[.int .u8 (k:Int)] 5 (0,0)):=heap_alloc_new WC0 _
     have hltWA1:WC0.heap.size < (WC0.alloc (.cells #[.int .u8 (k:Int)] 5)).heap.size:=by simp
     generalize WC0.alloc (.cells #[.int .u8 (k:Int)] 5)=WA1 at HBWA1 hrowWA1 hltWA1 hHeldWA1 ⊢
     generalize WC0.heap.size=bl at hrowWA1 hltWA1 ⊢
     have HRWA1:Hid (∀ w',Below WA1.heap.size WA1 w'→(w'.cell? ⟨w.heap.size,0,none⟩=some (.int .i64 (t:Int))∧w'.cell? ⟨w.heap.size,1,none⟩=some (.int .i64 (r:Int))∧w'.cell? ⟨w.heap.size,2,none⟩=some (.int .i64 (k:Int)))∧w'.heap[bl]? = some (.cells #[.int .u8 (k:Int)] 5 (0,0))):=Lib.hid (fun w' hb=>⟨HSF.out _ (HBWA1.out.trans (hb.mono HBWA1.out.size)),(hb.block bl hltWA1).trans hrowWA1⟩)
     have HLWA1:Hid (Below WA1.heap.size WA1 WA1):=Lib.hid (Below.refl _ _)
     have hHeld2:=HRWA1.out _ HLWA1.out
     clear hHeldWA1 hrowWA1 hltWA1
     refine wpAnyH_weakO (S':=fun w'=>(w'.cell? ⟨w.heap.size,0,none⟩=some (.int .i64 (t:Int))∧w'.cell? ⟨w.heap.size,1,none⟩=some (.int .i64 (r:Int))∧w'.cell? ⟨w.heap.size,2,none⟩=some (.int .i64 (k:Int)))∧w'.heap[bl]? = some (.cells #[.int .u8 (k:Int)] 5 (0,0))) (fun _ h=>h.1) _ _ _ _ ?_
     refine wpAnyH_take (i:=4) (v:=?v4a1) rfl (by kernel_rfl) (by kernel_rfl) (by kernel_rfl) (fun _ _ _ h=>h) (Or.inl ⟨by rfl,?h4a1⟩) (by assumption) ?r4a1
     case h4a1=>(intro W hSw;have hcv:=byte_lit k (k:Int) B rfl HBB.out HK255.out W bl hSw.2;(try dsimp only at hSw);go_simp;all_goals (with_reducible rfl))
     try simp only [Act.put,List.getElem_toArray,List.getElem_cons_zero,List.getElem_cons_succ,List.setIfInBounds_toArray,List.set_cons_zero,List.set_cons_succ]
     refine wpAnyH_take (i:=9) (v:=?v9a1) rfl (by kernel_rfl) (by kernel_rfl) (by kernel_rfl) (fun _ _ _ h=>h) (Or.inl ⟨by rfl,?h9a1⟩) (by assumption) ?r9a1
     case h9a1=>(intro W hSw;(try dsimp only at hSw);go_simp;all_goals (with_reducible rfl))
     try simp only [Act.put,List.getElem_toArray,List.getElem_cons_zero,List.getElem_cons_succ,List.setIfInBounds_toArray,List.set_cons_zero,List.set_cons_succ]
     refine wpAnyH_ready (rs:=[13]) (by kernel_rfl) (by simp) ?_
     refine AllReadyH.cons rfl (fun KK hKK=>?_) AllReadyH.nil
     go_simp
     refine (HCC.out _).mono ?_
     rintro r WB11 ⟨rfl,hbWB11⟩
     have HBWB11:Hid (Below w2.heap.size w2 WB11):=Lib.hid (HBWA1.out.trans (hbWB11.mono HBWA1.out.size))
     have HLWB11:Hid (Below WA1.heap.size WA1 WB11):=Lib.hid (HLWA1.out.trans (hbWB11.mono HLWA1.out.size))
     refine hKK.out _ _ (HRWA1.out _ HLWB11.out) (fun hHeldWB11=>?_)
     clear hKK hHeld2 hbWB11
     try simp only [Act.put,List.getElem_toArray,List.getElem_cons_zero,List.getElem_cons_succ,List.setIfInBounds_toArray,List.set_cons_zero,List.set_cons_succ]
     refine wpAnyH_take (i:=14) (v:=?v14b11) rfl (by kernel_rfl) (by kernel_rfl) (by kernel_rfl) (fun _ _ _ h=>h) (Or.inl ⟨by rfl,?h14b11⟩) (by assumption) ?r14b11
     case h14b11=>(intro W hSw;(try dsimp only at hSw);go_simp;all_goals (with_reducible rfl))
     try simp only [Act.put,List.getElem_toArray,List.getElem_cons_zero,List.getElem_cons_succ,List.setIfInBounds_toArray,List.set_cons_zero,List.set_cons_succ]
     refine wpAnyH_take (i:=16) (v:=?v16b11) rfl (by kernel_rfl) (by kernel_rfl) (by kernel_rfl) (fun _ _ _ h=>h) (Or.inl ⟨by rfl,?h16b11⟩) (by assumption) ?r16b11
     case h16b11=>(intro W hSw;(try dsimp only at hSw);go_simp;all_goals (with_reducible rfl))
     try simp only [Act.put,List.getElem_toArray,List.getElem_cons_zero,List.getElem_cons_succ,List.setIfInBounds_toArray,List.set_cons_zero,List.set_cons_succ]
     refine wpAnyH_take (i:=18) (v:=?v18b11) rfl (by kernel_rfl) (by kernel_rfl) (by kernel_rfl) (fun _ _ _ h=>h) (Or.inl ⟨by rfl,?h18b11⟩) (by assumption) ?r18b11
     case h18b11=>(intro W hSw;(try dsimp only at hSw);go_simp;all_goals (with_reducible rfl))
     try simp only [Act.put,List.getElem_toArray,List.getElem_cons_zero,List.getElem_cons_succ,List.setIfInBounds_toArray,List.set_cons_zero,List.set_cons_succ]
     refine wpAnyH_take (i:=19) (v:=?v19b11) rfl (by kernel_rfl) (by kernel_rfl) (by kernel_rfl) (fun _ _ _ h=>h) (Or.inl ⟨by rfl,?h19b11⟩) (by assumption) ?r19b11
     case h19b11=>(intro W hSw;(try dsimp only at hSw);go_simp;all_goals (with_reducible rfl))
     try simp only [Act.put,List.getElem_toArray,List.getElem_cons_zero,List.getElem_cons_succ,List.setIfInBounds_toArray,List.set_cons_zero,List.set_cons_succ]
     refine wpAnyH_take (i:=20) (v:=?v20b11) rfl (by kernel_rfl) (by kernel_rfl) (by kernel_rfl) (fun _ _ _ h=>h) (Or.inl ⟨by rfl,?h20b11⟩) (by assumption) ?r20b11
     case h20b11=>(intro W hSw;(try dsimp only at hSw);go_simp;all_goals (with_reducible rfl))
     try simp only [Act.put,List.getElem_toArray,List.getElem_cons_zero,List.getElem_cons_succ,List.setIfInBounds_toArray,List.set_cons_zero,List.set_cons_succ]
     refine wpAnyH_done (by kernel_rfl) ?_ _
     go_wp2
     go_ret2
     exact ⟨by rw [←HRES.out];rfl,HB2.out.trans (HBWB11.out.mono HB2.out.size)⟩
   · go_simp
     refine (HCC.out _).mono ?_
     rintro r WC1 ⟨rfl,hbWC1⟩
     have HBWC1:Hid (Below w2.heap.size w2 WC1):=Lib.hid (HBWC0.out.trans (hbWC1.mono HBWC0.out.size))
     refine hKK.out _ _ (HSF.out _ HBWC1.out) (fun hHeldWC1=>?_)
     clear hKK hHeldWC0 hbWC1
     try simp only [Act.put,List.getElem_toArray,List.getElem_cons_zero,List.getElem_cons_succ,List.setIfInBounds_toArray,List.set_cons_zero,List.set_cons_succ]
     refine wpAnyH_ready (rs:=[3]) (by kernel_rfl) (by simp) ?_
     refine AllReadyH.cons rfl (fun KK hKK=>?_) AllReadyH.nil
     · go_simp
       refine hKK.out _ _ (HSF.out _ (HBWC1.out.alloc HBWC1.out.size _)) (fun hHeldWA2=>?_)
       clear hKK hHeldWC1
       try simp only [Act.put,List.getElem_toArray,List.getElem_cons_zero,List.getElem_cons_succ,List.setIfInBounds_toArray,List.set_cons_zero,List.set_cons_succ]
       have HBWA2:Hid (Below w2.heap.size w2 (WC1.alloc (.cells #[.int .u8 (k:Int)] 5))):=Lib.hid (HBWC1.out.alloc HBWC1.out.size _)
       have hrowWA2:(WC1.alloc (.cells #[.int .u8 (k:Int)] 5)).heap[WC1.heap.size]? = some (.cells #[.int .u8 (k:Int)] 5 (0,0)):=heap_alloc_new WC1 _
       have hltWA2:WC1.heap.size < (WC1.alloc (.cells #[.int .u8 (k:Int)] 5)).heap.size:=by simp
       generalize WC1.alloc (.cells #[.int .u8 (k:Int)] 5)=WA2 at HBWA2 hrowWA2 hltWA2 hHeldWA2 ⊢
       generalize WC1.heap.size=bl at hrowWA2 hltWA2 ⊢
       have HRWA2:Hid (∀ w',Below WA2.heap.size WA2 w'→(w'.cell? ⟨w.heap.size,0,none⟩=some (.int .i64 (t:Int))∧w'.cell? ⟨w.heap.size,1,none⟩=some (.int .i64 (r:Int))∧w'.cell? ⟨w.heap.size,2,none⟩=some (.int .i64 (k:Int)))∧w'.heap[bl]? = some (.cells #[.int .u8 (k:Int)] 5 (0,0))):=Lib.hid (fun w' hb=>⟨HSF.out _ (HBWA2.out.trans (hb.mono HBWA2.out.size)),(hb.block bl hltWA2).trans hrowWA2⟩)
       have HLWA2:Hid (Below WA2.heap.size WA2 WA2):=Lib.hid (Below.refl _ _)
       have hHeld2:=HRWA2.out _ HLWA2.out
       clear hHeldWA2 hrowWA2 hltWA2
       refine wpAnyH_weakO (S':=fun w'=>(w'.cell? ⟨w.heap.size,0,none⟩=some (.int .i64 (t:Int))∧w'.cell? ⟨w.heap.size,1,none⟩=some (.int .i64 (r:Int))∧w'.cell? ⟨w.heap.size,2,none⟩=some (.int .i64 (k:Int)))∧w'.heap[bl]? = some (.cells #[.int .u8 (k:Int)] 5 (0,0))) (fun _ h=>h.1) _ _ _ _ ?_
       refine wpAnyH_take (i:=4) (v:=?v4a2) rfl (by kernel_rfl) (by kernel_rfl) (by kernel_rfl) (fun _ _ _ h=>h) (Or.inl ⟨by rfl,?h4a2⟩) (by assumption) ?r4a2
       case h4a2=>(intro W hSw;have hcv:=byte_lit k (k:Int) B rfl HBB.out HK255.out W bl hSw.2;(try dsimp only at hSw);go_simp;all_goals (with_reducible rfl))
       try simp only [Act.put,List.getElem_toArray,List.getElem_cons_zero,List.getElem_cons_succ,List.setIfInBounds_toArray,List.set_cons_zero,List.set_cons_succ]
       refine wpAnyH_take (i:=9) (v:=?v9a2) rfl (by kernel_rfl) (by kernel_rfl) (by kernel_rfl) (fun _ _ _ h=>h) (Or.inl ⟨by rfl,?h9a2⟩) (by assumption) ?r9a2
       case h9a2=>(intro W hSw;(try dsimp only at hSw);go_simp;all_goals (with_reducible rfl))
       try simp only [Act.put,List.getElem_toArray,List.getElem_cons_zero,List.getElem_cons_succ,List.setIfInBounds_toArray,List.set_cons_zero,List.set_cons_succ]
       refine wpAnyH_take (i:=14) (v:=?v14a2) rfl (by kernel_rfl) (by kernel_rfl) (by kernel_rfl) (fun _ _ _ h=>h) (Or.inl ⟨by rfl,?h14a2⟩) (by assumption) ?r14a2
       case h14a2=>(intro W hSw;(try dsimp only at hSw);go_simp;all_goals (with_reducible rfl))
       try simp only [Act.put,List.getElem_toArray,List.getElem_cons_zero,List.getElem_cons_succ,List.setIfInBounds_toArray,List.set_cons_zero,List.set_cons_succ]
       refine wpAnyH_take (i:=16) (v:=?v16a2) rfl (by kernel_rfl) (by kernel_rfl) (by kernel_rfl) (fun _ _ _ h=>h) (Or.inl ⟨by rfl,?h16a2⟩) (by assumption) ?r16a2
       case h16a2=>(intro W hSw;(try dsimp only at hSw);go_simp;all_goals (with_reducible rfl))
       try simp only [Act.put,List.getElem_toArray,List.getElem_cons_zero,List.getElem_cons_succ,List.setIfInBounds_toArray,List.set_cons_zero,List.set_cons_succ]
       refine wpAnyH_take (i:=18) (v:=?v18a2) rfl (by kernel_rfl) (by kernel_rfl) (by kernel_rfl) (fun _ _ _ h=>h) (Or.inl ⟨by rfl,?h18a2⟩) (by assumption) ?r18a2
       case h18a2=>(intro W hSw;(try dsimp only at hSw);go_simp;all_goals (with_reducible rfl))
       try simp only [Act.put,List.getElem_toArray,List.getElem_cons_zero,List.getElem_cons_succ,List.setIfInBounds_toArray,List.set_cons_zero,List.set_cons_succ]
       refine wpAnyH_take (i:=19) (v:=?v19a2) rfl (by kernel_rfl) (by kernel_rfl) (by kernel_rfl) (fun _ _ _ h=>h) (Or.inl ⟨by rfl,?h19a2⟩) (by assumption) ?r19a2
       case h19a2=>(intro W hSw;(try dsimp only at hSw);go_simp;all_goals (with_reducible rfl))
       try simp only [Act.put,List.getElem_toArray,List.getElem_cons_zero,List.getElem_cons_succ,List.setIfInBounds_toArray,List.set_cons_zero,List.set_cons_succ]
       refine wpAnyH_take (i:=20) (v:=?v20a2) rfl (by kernel_rfl) (by kernel_rfl) (by kernel_rfl) (fun _ _ _ h=>h) (Or.inl ⟨by rfl,?h20a2⟩) (by assumption) ?r20a2
       case h20a2=>(intro W hSw;(try dsimp only at hSw);go_simp;all_goals (with_reducible rfl))
       try simp only [Act.put,List.getElem_toArray,List.getElem_cons_zero,List.getElem_cons_succ,List.setIfInBounds_toArray,List.set_cons_zero,List.set_cons_succ]
       refine wpAnyH_done (by kernel_rfl) ?_ _
       go_wp2
       go_ret2
       exact ⟨by rw [←HRES.out];rfl,HB2.out.trans (HBWA2.out.mono HB2.out.size)⟩
end Go.Proofs.YtjkbmfpomgcblaaGreatDoor
