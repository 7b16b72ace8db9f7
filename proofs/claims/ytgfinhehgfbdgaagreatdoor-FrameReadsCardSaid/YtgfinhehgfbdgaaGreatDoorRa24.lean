import Derived.Test.YtgfinhehgfbdgaaGreatDoorRa23
namespace Go.Proofs.YtgfinhehgfbdgaaGreatDoor
open Go.RowKit Go.Maps
set_option maxRecDepth 100000 in
set_option maxHeartbeats 8000000 in
theorem rtail_any (T R K:Int) (key val:ByteArray) (N:Int) (w:World) (hk:key.size≤140737488351232) (hv:val.size≤140737488351232) (hN0 : -9223372036854775808≤N) (hN1:N≤9223372036854775807) :
   Calls Tryz.prog 77 #[.agg #[.int .i64 T,.int .i64 R,.int .i64 K,.string key,.string val,.int .i64 N]] w fun e w'=>e=.returned (textR (tailF T R K key val N))∧Below w.heap.size w w':=by
 have HN0:=Lib.hid (wrAt_new w T R K key val N 61);obtain ⟨E,hE⟩:∃ E,wriE T R K key val N=E:=⟨_,rfl⟩;have HE:=Lib.hid hE;clear hE;go_enter Tryz.func77,Tryz.ntmps77
 go_wp2_with fail
 refine (rwright_any T R K key val N _ hk hv).mono ?_;rintro r w1 ⟨rfl,hb1⟩;rw [HE.out];have HA1:=Lib.hid (HN0.out.below hb1 (by simp));have HB1:=Lib.hid (((Below.refl _ _).alloc (Nat.le_refl _) _).trans (hb1.mono (by simp)));have HL1:Hid (w.heap.size<w1.heap.size):=Lib.hid (by have:=hb1.size;simp at this;exact this);clear hb1;by_cases h0:E=0
 · subst h0;have HT:=Lib.hid (tailF_ok HE.out);obtain ⟨c0,c1,c2,c3,c4,c5⟩:=HA1.out;have hvl:=(wriE_good HE.out).2.2.2.1;rw [show ((0:Nat):Int)=0 from rfl];go_wp2_with fail
   refine (rspan_ok val w1 (Nat.le_trans hvl (by decide))).mono ?_;rintro r w2 ⟨rfl,hb2⟩;have HA2:=Lib.hid (HA1.out.below hb2 HL1.out);have HB2:=Lib.hid (HB1.out.trans (hb2.mono HB1.out.size));have HL2:Hid (w.heap.size<w2.heap.size):=Lib.hid (Nat.lt_of_lt_of_le HL1.out hb2.size);clear hb2 c0 c1 c2 c3 c4 c5;go_wp2;have HKB:Hid (-9223372036854775808≤K∧K≤9223372036854775807):=Lib.hid (by show _∧_;have:=(wriE_good HE.out).1;omega);have hSs:(spanB val).size≤310:=spanB_le hvl;have hz:0≤zigN N∧zigN N≤18446744073709551615:=by unfold zigN;split <;> omega
   have hp3:(⟨(putL (zigN N).toNat).toArray⟩:ByteArray).size≤10:=by rw [bs_size];exact putL_le10 (by omega)
   have hp4:(⟨(putL (max 0 N).toNat).toArray⟩:ByteArray).size≤10:=by rw [bs_size];exact putL_le10 (by omega)
   have hmx:0≤max 0 N∧max 0 N≤9223372036854775807:=by omega
   have hta:=tail_at HE.out;obtain ⟨S,hS⟩:∃ S,spanB val=S:=⟨_,rfl⟩;obtain ⟨P3,hP3⟩:∃ P,(⟨(putL (zigN N).toNat).toArray⟩:ByteArray)=P:=⟨_,rfl⟩;obtain ⟨P4,hP4⟩:∃ P,(⟨(putL (max 0 N).toNat).toArray⟩:ByteArray)=P:=⟨_,rfl⟩;rw [hS,hP3,hP4] at hta;have HAT:=Lib.hid hta;rw [hS] at hSs ⊢;rw [hP3] at hp3;rw [hP4] at hp4;have HP3:=Lib.hid hP3;have HP4:=Lib.hid hP4;obtain ⟨X,hX⟩:∃ X,max 0 N=X:=⟨_,rfl⟩;rw [hX] at hmx HP4;have hwX:IntKind.u64.wrap X=X:=IntWalk.u64_in X ⟨by omega,by omega⟩;have hsum:P4.size+S.size≤1000:=by omega
   have hadd:¬ (9223372036854775807<P4.size+S.size):=by omega
   have hm1:S.size≤maxLen:=by unfold maxLen;omega
   have hm3:P3.size≤maxLen:=by unfold maxLen;omega
   have hm4:(P4++S).size≤maxLen:=by rw [app_size];unfold maxLen;omega
   have hmm:=@run_makeMap Tryz.prog;clear hS hP3 hP4 hta;obtain ⟨_,_,c2,_,_,c5⟩:=HA2.out;have hMA:w.heap.size<w2.heap.size:=HL2.out;have H5:Hid (∀ W,Below w2.heap.size w2 W→W.cell? ⟨w.heap.size,5,none⟩=some (.int .i64 N)):=Lib.hid fun W h=>(h.cell hMA).trans c5
   have H2:Hid (∀ W,Below w2.heap.size w2 W→W.cell? ⟨w.heap.size,2,none⟩=some (.int .i64 K)):=Lib.hid fun W h=>(h.cell hMA).trans c2
   have HX:=Lib.hid hX;clear c2 c5 hMA hX;refine wp_region_any (by kernel_rfl) ?_;refine wpAny_law (JR w2 w.heap.size S P3 P4 (tailB K val N) N X K) ?hb ?hst ?hen _ _ _ _ (by kernel_rfl) (of_decide_eq_true (by kernel_rfl)) ?hin
   case hb=>exact of_backB (by kernel_rfl)
   case hin=>exact ⟨fun k=>(#[.agg #[.int .i64 T,.int .i64 R,.int .i64 K,.string key,.string val,.int .i64 N],.pointer (some ⟨w.heap.size,0,none⟩),.string ⟨#[]⟩,.int .i64 0,.int .i64 0,.string S,.int .i64 0,.agg #[.int .i64 T,.int .i64 R,.int .i64 K,.string key,.string val,.int .i64 N],.int .i64 0,.int .i64 0,.bool false,undef,.tuple #[.string S,.int .i64 0],.pointer (some ⟨w.heap.size,4,none⟩),.string val,.tuple #[.string S,.int .i64 0],.string S,.int .i64 0]:Array Value).getD k undef,0,rfl,rfl,rfl,(Below.refl _ _).drew,fun j hj=>by rw [none_yet] at hj;cases hj⟩
   case hen =>
     intro L a W hall hJ;obtain ⟨x,b,rfl,x1,x5,hB,hF⟩:=hJ;have e21:x 2=.string (tailB K val N):=hF 21 (hall 21 (by decide));have e22:x 3=.int .i64 0:=hF 22 (hall 22 (by decide));clear hF hall;unfold FR;rw [e21,e22];go_wp2;go_ret2;rw [HT.out];exact ⟨rfl,HB2.out.trans (hB.mono (Nat.le_of_lt HL2.out))⟩
   case hst =>
     intro i o hi L a W hs haf hun hJ;obtain ⟨x,b,rfl,x1,x5,hB,hF⟩:=hJ;have hlt:i<23:=(Array.getElem?_eq_some_iff.1 hi).1;rcases (show i=0∨i=1∨i=2∨i=3∨i=4∨i=5∨i=6∨i=7∨i=8∨i=9∨i=10∨i=11∨i=12∨i=13∨i=14∨i=15∨i=16∨i=17∨i=18∨i=19∨i=20∨i=21∨i=22 by omega) with rfl | rfl | rfl | rfl | rfl | rfl | rfl | rfl | rfl | rfl | rfl | rfl | rfl | rfl | rfl | rfl | rfl | rfl | rfl | rfl | rfl | rfl | rfl
     · obtain rfl:=Option.some.inj hi;have HF:=Lib.hid hF;have HBW:=Lib.hid hB;have hn0:=Lib.hid (getD_no hun);clear hi hF hB haf hun hs hlt;refine wpOp_step rfl ?_;intro K' hK';unfold FR
       go_simp
       refine hK' _ _ ?_;exact JR.next (x':=upd x 18 (.map (some W.heap.size))) (by simp [FR,upd,x1,x5]) HF.out (HBW.out.alloc HBW.out.size _) (by simp [upd,x1]) (by simp [upd,x5]) ⟨upd_at _ _ _,JT.made W,HBW.out.size⟩ (fun j hj h=>h.made hn0.out hj (by unfold upd;rw [if_neg (by revert hj;unfold slotF;split <;> first | (intro _;decide) | (intro hj;exact absurd rfl hj))]))
     · obtain rfl:=Option.some.inj hi;have HF:=Lib.hid hF;have HBW:=Lib.hid hB;clear hi hF hB haf hun hs hlt;refine wpOp_step rfl ?_;intro K' hK';unfold FR
       go_simp
       refine hK' _ _ ?_;exact JR.slot 19 (.string S) (by simp [FR,upd,x1,x5]) HF.out HBW.out x1 x5 id (fun _ _ h=>h) (by decide) (by intro j hj;unfold slotF;split <;> first | decide | exact absurd rfl hj) (upd_at _ _ _)
     · obtain rfl:=Option.some.inj hi;have q0:L.getD 0 false=true:=haf ⟨0,.data⟩ (by simp) rfl;obtain ⟨e18,eJ,eb⟩:x 18=.map (some b)∧JT b W∧w2.heap.size≤b:=hF 0 q0;have q1:L.getD 1 false=true:=haf ⟨1,.data⟩ (by simp) rfl;have e19:x 19=.string S:=hF 1 q1;obtain ⟨W',hrun,rJ,rR,rO,rG⟩:=put_all eJ (k:=1) (.inl rfl) hm1;have HF:=Lib.hid hF;have HBW:=Lib.hid hB;clear hi hF hB haf hun hs hlt;refine wpOp_step rfl ?_;intro K' hK';unfold FR
       go_simp
       refine hK' _ _ ?_;exact JR.entry (k:=1) (by simp [FR,x1,x5,e18,e19]) HF.out (HBW.out.grown rG HBW.out.size (fun g hg=>by cases hg;exact eb)) x1 x5 (fun _=>rJ) rO (by intro j hj;unfold keyF;split <;> first | decide | exact absurd rfl hj) ⟨getD_keep q0,rR⟩
     · obtain rfl:=Option.some.inj hi;have q0:L.getD 0 false=true:=haf ⟨0,.data⟩ (by simp) rfl;obtain ⟨e18,eJ,eb⟩:x 18=.map (some b)∧JT b W∧w2.heap.size≤b:=hF 0 q0;obtain ⟨W',hrun,rJ,rR,rO,rG⟩:=put_all eJ (k:=2) (.inr (.inl rfl)) (s:=⟨#[]⟩) (Nat.zero_le _);have HF:=Lib.hid hF;have HBW:=Lib.hid hB;clear hi hF hB haf hun hs hlt;refine wpOp_step rfl ?_;intro K' hK';unfold FR
       go_simp
       refine hK' _ _ ?_;exact JR.entry (k:=2) (by simp [FR,x1,x5,e18]) HF.out (HBW.out.grown rG HBW.out.size (fun g hg=>by cases hg;exact eb)) x1 x5 (fun _=>rJ) rO (by intro j hj;unfold keyF;split <;> first | decide | exact absurd rfl hj) ⟨getD_keep q0,rR⟩
     · obtain rfl:=Option.some.inj hi;have HF:=Lib.hid hF;have HBW:=Lib.hid hB;clear hi hF hB haf hun hs hlt;refine wpOp_step rfl ?_;intro K' hK';unfold FR
       go_simp
       refine hK' _ _ ?_;exact JR.slot 20 (.pointer (some ⟨w.heap.size,5,none⟩)) (by simp [FR,upd,x1,x5]) HF.out HBW.out x1 x5 id (fun _ _ h=>h) (by decide) (by intro j hj;unfold slotF;split <;> first | decide | exact absurd rfl hj) (upd_at _ _ _)
     · obtain rfl:=Option.some.inj hi;have q4:L.getD 4 false=true:=haf ⟨4,.data⟩ (by simp) rfl;have e20:x 20=.pointer (some ⟨w.heap.size,5,none⟩):=hF 4 q4;have hc:=H5.out W hB;have HF:=Lib.hid hF;have HBW:=Lib.hid hB;clear hi hF hB haf hun hs hlt;refine wpOp_step rfl ?_;intro K' hK';unfold FR
       go_simp
       refine hK' _ _ ?_;exact JR.slot 21 (.int .i64 N) (by simp [FR,upd,x1,x5,e20]) HF.out HBW.out x1 x5 id (fun _ _ h=>h) (by decide) (by intro j hj;unfold slotF;split <;> first | decide | exact absurd rfl hj) (upd_at _ _ _)
     · obtain rfl:=Option.some.inj hi;have q5:L.getD 5 false=true:=haf ⟨5,.data⟩ (by simp) rfl;have e21:x 21=.int .i64 N:=hF 5 q5;have HF:=Lib.hid hF;have HBW:=Lib.hid hB;clear hi hF hB haf hun hs hlt;refine wpOp_step rfl ?_;intro K' hK';unfold FR
       go_simp
       refine (zigr_any N _ hN0 hN1).mono ?_;rintro r W' ⟨rfl,rfl⟩;refine hK' _ _ ?_;exact JR.slot 22 (.int .u64 (zigN N)) (by simp [FR,upd,x1,x5,e21]) HF.out HBW.out x1 x5 id (fun _ _ h=>h) (by decide) (by intro j hj;unfold slotF;split <;> first | decide | exact absurd rfl hj) (upd_at _ _ _)
     · obtain rfl:=Option.some.inj hi;have q6:L.getD 6 false=true:=haf ⟨6,.data⟩ (by simp) rfl;have e22:x 22=.int .u64 (zigN N):=hF 6 q6;have HF:=Lib.hid hF;have HBW:=Lib.hid hB;clear hi hF hB haf hun hs hlt;refine wpOp_step rfl ?_;intro K' hK';unfold FR
       go_simp
       refine (rvary_int (zigN N) _ hz.1 hz.2).mono ?_;rintro r W' ⟨rfl,hb⟩;rw [HP3.out];refine hK' _ _ ?_;exact JR.slot 23 (.string P3) (by simp [FR,upd,x1,x5,e22]) HF.out (HBW.out.trans (hb.mono HBW.out.size)) x1 x5 (fun h=>h.below hb) (fun _ _ h=>h.below hb) (by decide) (by intro j hj;unfold slotF;split <;> first | decide | exact absurd rfl hj) (upd_at _ _ _)
     · obtain rfl:=Option.some.inj hi;have q0:L.getD 0 false=true:=haf ⟨0,.data⟩ (by simp) rfl;obtain ⟨e18,eJ,eb⟩:x 18=.map (some b)∧JT b W∧w2.heap.size≤b:=hF 0 q0;have q7:L.getD 7 false=true:=haf ⟨7,.data⟩ (by simp) rfl;have e23:x 23=.string P3:=hF 7 q7;obtain ⟨W',hrun,rJ,rR,rO,rG⟩:=put_all eJ (k:=3) (.inr (.inr (.inl rfl))) hm3;have HF:=Lib.hid hF;have HBW:=Lib.hid hB;clear hi hF hB haf hun hs hlt;refine wpOp_step rfl ?_;intro K' hK';unfold FR
       go_simp
       refine hK' _ _ ?_;exact JR.entry (k:=3) (by simp [FR,x1,x5,e18,e23]) HF.out (HBW.out.grown rG HBW.out.size (fun g hg=>by cases hg;exact eb)) x1 x5 (fun _=>rJ) rO (by intro j hj;unfold keyF;split <;> first | decide | exact absurd rfl hj) ⟨getD_keep q0,rR⟩
     · obtain rfl:=Option.some.inj hi;have HF:=Lib.hid hF;have HBW:=Lib.hid hB;clear hi hF hB haf hun hs hlt;refine wpOp_step rfl ?_;intro K' hK';unfold FR
       go_simp
       refine hK' _ _ ?_;exact JR.slot 24 (.pointer (some ⟨w.heap.size,5,none⟩)) (by simp [FR,upd,x1,x5]) HF.out HBW.out x1 x5 id (fun _ _ h=>h) (by decide) (by intro j hj;unfold slotF;split <;> first | decide | exact absurd rfl hj) (upd_at _ _ _)
     · obtain rfl:=Option.some.inj hi;have q9:L.getD 9 false=true:=haf ⟨9,.data⟩ (by simp) rfl;have e24:x 24=.pointer (some ⟨w.heap.size,5,none⟩):=hF 9 q9;have hc:=H5.out W hB;have HF:=Lib.hid hF;have HBW:=Lib.hid hB;clear hi hF hB haf hun hs hlt;refine wpOp_step rfl ?_;intro K' hK';unfold FR
       go_simp
       refine hK' _ _ ?_;exact JR.slot 25 (.int .i64 N) (by simp [FR,upd,x1,x5,e24]) HF.out HBW.out x1 x5 id (fun _ _ h=>h) (by decide) (by intro j hj;unfold slotF;split <;> first | decide | exact absurd rfl hj) (upd_at _ _ _)
     · obtain rfl:=Option.some.inj hi;have q10:L.getD 10 false=true:=haf ⟨10,.data⟩ (by simp) rfl;have e25:x 25=.int .i64 N:=hF 10 q10;have HF:=Lib.hid hF;have HBW:=Lib.hid hB;clear hi hF hB haf hun hs hlt;refine wpOp_step rfl ?_;intro K' hK';unfold FR
       go_simp
       rw [HX.out];refine hK' _ _ ?_;exact JR.slot 26 (.int .i64 X) (by simp [FR,upd,x1,x5,e25]) HF.out HBW.out x1 x5 id (fun _ _ h=>h) (by decide) (by intro j hj;unfold slotF;split <;> first | decide | exact absurd rfl hj) (upd_at _ _ _)
     · obtain rfl:=Option.some.inj hi;have q11:L.getD 11 false=true:=haf ⟨11,.data⟩ (by simp) rfl;have e26:x 26=.int .i64 X:=hF 11 q11;have HF:=Lib.hid hF;have HBW:=Lib.hid hB;clear hi hF hB haf hun hs hlt;refine wpOp_step rfl ?_;intro K' hK';unfold FR
       go_simp
       refine hK' _ _ ?_;exact JR.slot 27 (.int .u64 X) (by simp [FR,upd,x1,x5,e26]) HF.out HBW.out x1 x5 id (fun _ _ h=>h) (by decide) (by intro j hj;unfold slotF;split <;> first | decide | exact absurd rfl hj) (upd_at _ _ _)
     · obtain rfl:=Option.some.inj hi;have q12:L.getD 12 false=true:=haf ⟨12,.data⟩ (by simp) rfl;have e27:x 27=.int .u64 X:=hF 12 q12;have HF:=Lib.hid hF;have HBW:=Lib.hid hB;clear hi hF hB haf hun hs hlt;refine wpOp_step rfl ?_;intro K' hK';unfold FR
       go_simp
       refine (rvary_int X _ hmx.1 (Int.le_trans hmx.2 (by decide))).mono ?_;rintro r W' ⟨rfl,hb⟩;rw [HP4.out];refine hK' _ _ ?_;exact JR.slot 28 (.string P4) (by simp [FR,upd,x1,x5,e27]) HF.out (HBW.out.trans (hb.mono HBW.out.size)) x1 x5 (fun h=>h.below hb) (fun _ _ h=>h.below hb) (by decide) (by intro j hj;unfold slotF;split <;> first | decide | exact absurd rfl hj) (upd_at _ _ _)
     · obtain rfl:=Option.some.inj hi;have HF:=Lib.hid hF;have HBW:=Lib.hid hB;clear hi hF hB haf hun hs hlt;refine wpOp_step rfl ?_;intro K' hK';unfold FR
       go_simp
       refine hK' _ _ ?_;exact JR.slot 29 (.string S) (by simp [FR,upd,x1,x5]) HF.out HBW.out x1 x5 id (fun _ _ h=>h) (by decide) (by intro j hj;unfold slotF;split <;> first | decide | exact absurd rfl hj) (upd_at _ _ _)
     · obtain rfl:=Option.some.inj hi;have q13:L.getD 13 false=true:=haf ⟨13,.data⟩ (by simp) rfl;have e28:x 28=.string P4:=hF 13 q13;have q14:L.getD 14 false=true:=haf ⟨14,.data⟩ (by simp) rfl;have e29:x 29=.string S:=hF 14 q14;have HF:=Lib.hid hF;have HBW:=Lib.hid hB;clear hi hF hB haf hun hs hlt;refine wpOp_step rfl ?_;intro K' hK';unfold FR
       go_simp
       refine hK' _ _ ?_;exact JR.slot 30 (.string (P4++S)) (by simp [FR,upd,x1,x5,e28,e29]) HF.out HBW.out x1 x5 id (fun _ _ h=>h) (by decide) (by intro j hj;unfold slotF;split <;> first | decide | exact absurd rfl hj) (upd_at _ _ _)
     · obtain rfl:=Option.some.inj hi;have q0:L.getD 0 false=true:=haf ⟨0,.data⟩ (by simp) rfl;obtain ⟨e18,eJ,eb⟩:x 18=.map (some b)∧JT b W∧w2.heap.size≤b:=hF 0 q0;have q15:L.getD 15 false=true:=haf ⟨15,.data⟩ (by simp) rfl;have e30:x 30=.string (P4++S):=hF 15 q15;obtain ⟨W',hrun,rJ,rR,rO,rG⟩:=put_all eJ (k:=4) (.inr (.inr (.inr rfl))) hm4;have HF:=Lib.hid hF;have HBW:=Lib.hid hB;clear hi hF hB haf hun hs hlt;refine wpOp_step rfl ?_;intro K' hK';unfold FR
       go_simp
       refine hK' _ _ ?_;exact JR.entry (k:=4) (by simp [FR,x1,x5,e18,e30]) HF.out (HBW.out.grown rG HBW.out.size (fun g hg=>by cases hg;exact eb)) x1 x5 (fun _=>rJ) rO (by intro j hj;unfold keyF;split <;> first | decide | exact absurd rfl hj) ⟨getD_keep q0,rR⟩
     · obtain rfl:=Option.some.inj hi;have hall:∀ j,j<17→L.getD j false=true:=fun j hj=>haf ⟨j,.data⟩ (by rcases (show j=0∨j=1∨j=2∨j=3∨j=4∨j=5∨j=6∨j=7∨j=8∨j=9∨j=10∨j=11∨j=12∨j=13∨j=14∨j=15∨j=16 by omega) with rfl | rfl | rfl | rfl | rfl | rfl | rfl | rfl | rfl | rfl | rfl | rfl | rfl | rfl | rfl | rfl | rfl <;> simp) rfl
       have q0:L.getD 0 false=true:=haf ⟨0,.data⟩ (by simp) rfl;obtain ⟨e18,eJ,eb⟩:x 18=.map (some b)∧JT b W∧w2.heap.size≤b:=hF 0 q0;have HF:=Lib.hid hF;have HBW:=Lib.hid hB;clear hi hF hB haf hun hs hlt;refine wpOp_step rfl ?_;intro K' hK';unfold FR
       go_simp
       refine hK' _ _ ?_;exact JR.slot 31 (.map (some b)) (by simp [FR,upd,x1,x5,e18]) HF.out HBW.out x1 x5 id (fun _ _ h=>h) (by decide) (by intro j hj;unfold slotF;split <;> first | decide | exact absurd rfl hj) ⟨upd_at _ _ _,fun j hj=>getD_keep (hall j hj)⟩
     · obtain rfl:=Option.some.inj hi;have HF:=Lib.hid hF;have HBW:=Lib.hid hB;clear hi hF hB haf hun hs hlt;refine wpOp_step rfl ?_;intro K' hK';unfold FR
       go_simp
       refine hK' _ _ ?_;exact JR.slot 32 (.pointer (some ⟨w.heap.size,2,none⟩)) (by simp [FR,upd,x1,x5]) HF.out HBW.out x1 x5 id (fun _ _ h=>h) (by decide) (by intro j hj;unfold slotF;split <;> first | decide | exact absurd rfl hj) (upd_at _ _ _)
     · obtain rfl:=Option.some.inj hi;have q18:L.getD 18 false=true:=haf ⟨18,.data⟩ (by simp) rfl;have e32:x 32=.pointer (some ⟨w.heap.size,2,none⟩):=hF 18 q18;have hc:=H2.out W hB;have HF:=Lib.hid hF;have HBW:=Lib.hid hB;clear hi hF hB haf hun hs hlt;refine wpOp_step rfl ?_;intro K' hK';unfold FR
       go_simp
       refine hK' _ _ ?_;exact JR.slot 33 (.int .i64 K) (by simp [FR,upd,x1,x5,e32]) HF.out HBW.out x1 x5 id (fun _ _ h=>h) (by decide) (by intro j hj;unfold slotF;split <;> first | decide | exact absurd rfl hj) (upd_at _ _ _)
     · obtain rfl:=Option.some.inj hi;have q17:L.getD 17 false=true:=haf ⟨17,.data⟩ (by simp) rfl;obtain ⟨e31,hall⟩:x 31=.map (some b)∧∀ j,j<17→L.getD j false=true:=hF 17 q17;have q19:L.getD 19 false=true:=haf ⟨19,.data⟩ (by simp) rfl;have e33:x 33=.int .i64 K:=hF 19 q19;have r1:L.getD 0 false=true∧RT b W 1 S:=hF 2 (hall 2 (by decide));have r2:L.getD 0 false=true∧RT b W 2 ⟨#[]⟩:=hF 3 (hall 3 (by decide));have r3:L.getD 0 false=true∧RT b W 3 P3:=hF 8 (hall 8 (by decide));have r4:L.getD 0 false=true∧RT b W 4 (P4++S):=hF 16 (hall 16 (by decide));have hrun:=look_all (tail_one r1.2 r2.2 r3.2 r4.2 HAT.out) HKB.out;have HF:=Lib.hid hF;have HBW:=Lib.hid hB;clear hi hF hB haf hun hs hlt;refine wpOp_step rfl ?_;intro K' hK';unfold FR
       go_simp
       refine hK' _ _ ?_;exact JR.slot 34 (.string (tailB K val N)) (by simp [FR,upd,x1,x5,e31,e33]) HF.out HBW.out x1 x5 id (fun _ _ h=>h) (by decide) (by intro j hj;unfold slotF;split <;> first | decide | exact absurd rfl hj) (upd_at _ _ _)
     · obtain rfl:=Option.some.inj hi;have q20:L.getD 20 false=true:=haf ⟨20,.data⟩ (by simp) rfl;have e34:x 34=.string (tailB K val N):=hF 20 q20;have HF:=Lib.hid hF;have HBW:=Lib.hid hB;clear hi hF hB haf hun hs hlt;refine wpOp_step rfl ?_;intro K' hK';unfold FR
       go_simp
       refine hK' _ _ ?_;exact JR.slot 2 (.string (tailB K val N)) (by simp [FR,upd,x1,x5,e34]) HF.out HBW.out x1 x5 id (fun _ _ h=>h) (by decide) (by intro j hj;unfold slotF;split <;> first | decide | exact absurd rfl hj) (upd_at _ _ _)
     · obtain rfl:=Option.some.inj hi;have HF:=Lib.hid hF;have HBW:=Lib.hid hB;clear hi hF hB haf hun hs hlt;refine wpOp_step rfl ?_;intro K' hK';unfold FR
       go_simp
       refine hK' _ _ ?_;exact JR.slot 3 (.int .i64 0) (by simp [FR,upd,x1,x5]) HF.out HBW.out x1 x5 id (fun _ _ h=>h) (by decide) (by intro j hj;unfold slotF;split <;> first | decide | exact absurd rfl hj) (upd_at _ _ _)
 · have hne:((E:Int) != 0)=true:=by simp;omega
   have HT:=Lib.hid (tailF_bad (by rw [HE.out];exact h0));go_wp2;go_ret2;rw [HT.out,HE.out];exact ⟨rfl,HB1.out⟩
end Go.Proofs.YtgfinhehgfbdgaaGreatDoor
namespace Go.Proofs.YtgfinhehgfbdgaaGreatDoor
open Go.RowKit
def keysW (l:List Wr):List ByteArray:=l.map (·.key)
def tailL (x:Wr):List UInt8:=(tailB x.kind x.value x.n).data.toList
def placeF (h:List Ent) (r:Int):Nat:=h.findIdx (fun e=>decide (e.rep=r))
def textsB (T:List ByteArray):List UInt8:=T.flatMap fun k=>spanL k.data.toList
def oneB (h:List Ent) (ahead:Int) (x:Wr) (n:Nat):List UInt8 :=
 [UInt8.ofNat x.kind.toNat]++putL (x.time-ahead).toNat++putL (placeF h x.rep)++putL n++tailL x
def rowB (h:List Ent):Int→List Wr→List Nat→List UInt8
 | _,[],_=>[]
 | _,_::_,[]=>[]
 | ahead,x::r,n::N=>oneB h ahead x n++rowB h x.time r N
def bodyL (f h:List Ent) (l:List Wr):List UInt8 :=
 vwriteL f++vwriteL h++putL (tabK [] (keysW l)).length++textsB (tabK [] (keysW l))++putL l.length++rowB h 0 l (atK [] (keysW l))
def bodyF (f h:List Ent) (l:List Wr):List UInt8×Nat×Int :=
 if (batF f h l).1≠0 then ([],batF f h l) else if 20000<(bodyL f h l).length then ([],4,-1) else (bodyL f h l,0,-1)
theorem bodyF_bad {f h:List Ent} {l:List Wr} (h0:(batF f h l).1≠0):bodyF f h l=([],batF f h l):=by unfold bodyF;rw [if_pos h0]
theorem bodyF_big {f h:List Ent} {l:List Wr} (h0:(batF f h l).1=0) (h1:20000<(bodyL f h l).length):bodyF f h l=([],4,-1):=by unfold bodyF;rw [if_neg (by simpa using h0),if_pos h1]
theorem bodyF_ok {f h:List Ent} {l:List Wr} (h0:(batF f h l).1=0) (h1:¬ 20000<(bodyL f h l).length):bodyF f h l=(bodyL f h l,0,-1):=by unfold bodyF;rw [if_neg (by simpa using h0),if_neg h1]
theorem textsB_cons (k:ByteArray) (T:List ByteArray):textsB (k::T)=spanL k.data.toList++textsB T:=by simp [textsB]
theorem rowB_cons (h:List Ent) (ahead:Int) (x:Wr) (r:List Wr) (n:Nat) (N:List Nat):rowB h ahead (x::r) (n::N)=oneB h ahead x n++rowB h x.time r N:=rfl
def kindF:List UInt8→Nat×Nat×Nat
 | []=>(0,0,7)
 | c::_=>if c.toNat<1∨4<c.toNat then (0,0,1) else (c.toNat,1,0)
def unT (s:List UInt8):Nat→Nat→List ByteArray→(Nat×Nat) ⊕ (Nat×List ByteArray)
 | 0,a,T=>.inr (a,T)
 | k+1,a,T=>if (getS (s.drop a)).2.2≠0 then .inl ((getS (s.drop a)).2.2,a) else unT s k (a+(getS (s.drop a)).2.1) (T++[⟨(getS (s.drop a)).1.toArray⟩])
theorem unT_bad {s t:List UInt8} {k a n e:Nat} {T:List ByteArray} (h:getS (s.drop a)=(t,n,e)) (he:e≠0):unT s (k+1) a T=.inl (e,a):=by unfold unT;rw [h,if_pos he]
theorem unT_ok {s t:List UInt8} {k a n:Nat} {T:List ByteArray} (h:getS (s.drop a)=(t,n,0)):unT s (k+1) a T=unT s k (a+n) (T++[⟨t.toArray⟩]):=by rw [unT,h,if_neg (by simp)]
def fillN (K:Int) (l:List UInt8):Nat:=(getN K l).2.1+(getV K (l.drop (getN K l).2.1)).2.1
def fillV (K:Int) (l:List UInt8):ByteArray:=⟨(getV K (l.drop (getN K l).2.1)).1.toArray⟩
def unOne (s:List UInt8) (h:List Ent) (T:List ByteArray) (a:Nat) (ahead:Int):(Nat×Nat) ⊕ (Nat×Wr×Nat) :=
 match kindF (s.drop a) with
 | (K,_,e)=>if e≠0 then .inl (e,a) else
   match intL (s.drop (a+1)) (1099511627776-ahead) with
   | (t,k1,e)=>if e≠0 then .inl (e,a+1) else
     match intL (s.drop (a+1+k1)) ((h.length:Int)-1) with
     | (p,k2,e)=>if e≠0 then .inl (e,a+1+k1) else
       match intL (s.drop (a+1+k1+k2)) ((T.length:Int)-1) with
       | (n,k3,e)=>if e≠0 then .inl (e,a+1+k1+k2) else
         if fillE (ahead+t) (h.getD p ⟨0,0⟩).rep K (T.getD n ⟨#[]⟩) (s.drop (a+1+k1+k2+k3))≠0 then .inl (fillE (ahead+t) (h.getD p ⟨0,0⟩).rep K (T.getD n ⟨#[]⟩) (s.drop (a+1+k1+k2+k3)),a+1+k1+k2+k3)
         else .inr (a+1+k1+k2+k3+fillN K (s.drop (a+1+k1+k2+k3)),⟨ahead+t,(h.getD p ⟨0,0⟩).rep,K,T.getD n ⟨#[]⟩,fillV K (s.drop (a+1+k1+k2+k3)),(getN K (s.drop (a+1+k1+k2+k3))).1⟩,n)
section
variable {s:List UInt8} {h:List Ent} {T:List ByteArray} {a:Nat} {ahead:Int} {K j t k1 p k2 n k3 e:Nat}
theorem unOne_kind (h0:kindF (s.drop a)=(K,j,e)) (he:e≠0):unOne s h T a ahead=.inl (e,a):=by unfold unOne;rw [h0];simp only;rw [if_pos he]
theorem unOne_time (h0:kindF (s.drop a)=(K,j,0)) (h1:intL (s.drop (a+1)) (1099511627776-ahead)=(t,k1,e)) (he:e≠0):unOne s h T a ahead=.inl (e,a+1):=by
 unfold unOne;rw [h0];simp only;rw [if_neg (by simp),h1];simp only;rw [if_pos he]
theorem unOne_rep (h0:kindF (s.drop a)=(K,j,0)) (h1:intL (s.drop (a+1)) (1099511627776-ahead)=(t,k1,0)) (h2:intL (s.drop (a+1+k1)) ((h.length:Int)-1)=(p,k2,e)) (he:e≠0):unOne s h T a ahead=.inl (e,a+1+k1):=by
 unfold unOne;rw [h0];simp only;rw [if_neg (by simp),h1];simp only;rw [if_neg (by simp),h2];simp only;rw [if_pos he]
theorem unOne_key (h0:kindF (s.drop a)=(K,j,0)) (h1:intL (s.drop (a+1)) (1099511627776-ahead)=(t,k1,0)) (h2:intL (s.drop (a+1+k1)) ((h.length:Int)-1)=(p,k2,0))
   (h3:intL (s.drop (a+1+k1+k2)) ((T.length:Int)-1)=(n,k3,e)) (he:e≠0):unOne s h T a ahead=.inl (e,a+1+k1+k2):=by
 unfold unOne;rw [h0];simp only;rw [if_neg (by simp),h1];simp only;rw [if_neg (by simp),h2];simp only;rw [if_neg (by simp),h3];simp only;rw [if_pos he]
theorem unOne_fill (h0:kindF (s.drop a)=(K,j,0)) (h1:intL (s.drop (a+1)) (1099511627776-ahead)=(t,k1,0)) (h2:intL (s.drop (a+1+k1)) ((h.length:Int)-1)=(p,k2,0))
   (h3:intL (s.drop (a+1+k1+k2)) ((T.length:Int)-1)=(n,k3,0)) (h4:fillE (ahead+t) (h.getD p ⟨0,0⟩).rep K (T.getD n ⟨#[]⟩) (s.drop (a+1+k1+k2+k3))=e) (he:e≠0):unOne s h T a ahead=.inl (e,a+1+k1+k2+k3):=by
 unfold unOne;rw [h0];simp only;rw [if_neg (by simp),h1];simp only;rw [if_neg (by simp),h2];simp only;rw [if_neg (by simp),h3];simp only;rw [if_neg (by simp),if_pos (by rw [h4];exact he),h4]
theorem unOne_ok (h0:kindF (s.drop a)=(K,j,0)) (h1:intL (s.drop (a+1)) (1099511627776-ahead)=(t,k1,0)) (h2:intL (s.drop (a+1+k1)) ((h.length:Int)-1)=(p,k2,0))
   (h3:intL (s.drop (a+1+k1+k2)) ((T.length:Int)-1)=(n,k3,0)) (h4:fillE (ahead+t) (h.getD p ⟨0,0⟩).rep K (T.getD n ⟨#[]⟩) (s.drop (a+1+k1+k2+k3))=0) :
   unOne s h T a ahead=.inr (a+1+k1+k2+k3+fillN K (s.drop (a+1+k1+k2+k3)),⟨ahead+t,(h.getD p ⟨0,0⟩).rep,K,T.getD n ⟨#[]⟩,fillV K (s.drop (a+1+k1+k2+k3)),(getN K (s.drop (a+1+k1+k2+k3))).1⟩,n):=by
 unfold unOne;rw [h0];simp only;rw [if_neg (by simp),h1];simp only;rw [if_neg (by simp),h2];simp only;rw [if_neg (by simp),h3];simp only;rw [if_neg (by simp),if_neg (by rw [h4];simp)]
end
def unW (s:List UInt8) (h:List Ent) (T:List ByteArray):Nat→Nat→Int→List Wr→List Nat→(Nat×Nat) ⊕ (Nat×List Wr×List Nat)
 | 0,a,_,W,N=>.inr (a,W,N)
 | k+1,a,ahead,W,N=>match unOne s h T a ahead with
   | .inl r=>.inl r
   | .inr (b,x,n)=>unW s h T k b x.time (W++[x]) (N++[n])
theorem unW_bad {s:List UInt8} {h:List Ent} {T:List ByteArray} {k a:Nat} {ahead:Int} {W:List Wr} {N:List Nat} {r:Nat×Nat} (h0:unOne s h T a ahead=.inl r):unW s h T (k+1) a ahead W N=.inl r:=by rw [unW,h0]
theorem unW_ok {s:List UInt8} {h:List Ent} {T:List ByteArray} {k a b n:Nat} {ahead:Int} {W:List Wr} {N:List Nat} {x:Wr} (h0:unOne s h T a ahead=.inr (b,x,n)):unW s h T (k+1) a ahead W N=unW s h T k b x.time (W++[x]) (N++[n]):=by rw [unW,h0]
def unbF (s:List UInt8):(Nat×Int) ⊕ (List Ent×List Ent×List Wr) :=
 if 20000<s.length then .inl (4,-1) else
 match vreadF s with
 | (e,n,f)=>if e≠0 then .inl (e,0) else
   match vreadF (s.drop n) with
   | (e,m,h)=>if e≠0 then .inl (e,(n:Int)) else
     match intL (s.drop (n+m)) 60 with
     | (k,j,e)=>if e≠0 then .inl (e,((n+m:Nat):Int)) else
       match unT s k (n+m+j) [] with
       | .inl (e,p)=>.inl (e,(p:Int))
       | .inr (b,T)=>match intL (s.drop b) 60 with
         | (k2,j2,e)=>if e≠0 then .inl (e,(b:Int)) else
           match unW s h T k2 (b+j2) 0 [] [] with
           | .inl (e,p)=>.inl (e,(p:Int))
           | .inr (c,W,N)=>if c<s.length then .inl (3,(c:Int))
             else if (listF T (N.map Int.ofNat)).2.1≠0 then .inl ((listF T (N.map Int.ofNat)).2.1,(s.length:Int))
             else if (batF f h W).1≠0 then .inl ((batF f h W).1,(s.length:Int))
             else .inr (f,h,W)
section
variable {s:List UInt8} {f h:List Ent} {T:List ByteArray} {W:List Wr} {N:List Nat} {n m k j b k2 j2 c e p:Nat}
theorem unb_long (h0:20000<s.length):unbF s=.inl (4,-1):=by unfold unbF;rw [if_pos h0]
theorem unb_from (h0:¬ 20000<s.length) (h1:vreadF s=(e,n,f)) (he:e≠0):unbF s=.inl (e,0):=by unfold unbF;rw [if_neg h0,h1];simp only;rw [if_pos he]
theorem unb_have (h0:¬ 20000<s.length) (h1:vreadF s=(0,n,f)) (h2:vreadF (s.drop n)=(e,m,h)) (he:e≠0):unbF s=.inl (e,(n:Int)):=by
 unfold unbF;rw [if_neg h0,h1];simp only;rw [if_neg (by simp),h2];simp only;rw [if_pos he]
theorem unb_texts (h0:¬ 20000<s.length) (h1:vreadF s=(0,n,f)) (h2:vreadF (s.drop n)=(0,m,h)) (h3:intL (s.drop (n+m)) 60=(k,j,e)) (he:e≠0):unbF s=.inl (e,((n+m:Nat):Int)):=by
 unfold unbF;rw [if_neg h0,h1];simp only;rw [if_neg (by simp),h2];simp only;rw [if_neg (by simp),h3];simp only;rw [if_pos he]
theorem unb_text (h0:¬ 20000<s.length) (h1:vreadF s=(0,n,f)) (h2:vreadF (s.drop n)=(0,m,h)) (h3:intL (s.drop (n+m)) 60=(k,j,0)) (h4:unT s k (n+m+j) []=.inl (e,p)):unbF s=.inl (e,(p:Int)):=by
 unfold unbF;rw [if_neg h0,h1];simp only;rw [if_neg (by simp),h2];simp only;rw [if_neg (by simp),h3];simp only;rw [if_neg (by simp),h4]
theorem unb_writes (h0:¬ 20000<s.length) (h1:vreadF s=(0,n,f)) (h2:vreadF (s.drop n)=(0,m,h)) (h3:intL (s.drop (n+m)) 60=(k,j,0)) (h4:unT s k (n+m+j) []=.inr (b,T)) (h5:intL (s.drop b) 60=(k2,j2,e)) (he:e≠0):unbF s=.inl (e,(b:Int)):=by
 unfold unbF;rw [if_neg h0,h1];simp only;rw [if_neg (by simp),h2];simp only;rw [if_neg (by simp),h3];simp only;rw [if_neg (by simp),h4];simp only;rw [h5];simp only;rw [if_pos he]
theorem unb_write (h0:¬ 20000<s.length) (h1:vreadF s=(0,n,f)) (h2:vreadF (s.drop n)=(0,m,h)) (h3:intL (s.drop (n+m)) 60=(k,j,0)) (h4:unT s k (n+m+j) []=.inr (b,T)) (h5:intL (s.drop b) 60=(k2,j2,0)) (h6:unW s h T k2 (b+j2) 0 [] []=.inl (e,p)):unbF s=.inl (e,(p:Int)):=by
 unfold unbF;rw [if_neg h0,h1];simp only;rw [if_neg (by simp),h2];simp only;rw [if_neg (by simp),h3];simp only;rw [if_neg (by simp),h4];simp only;rw [h5];simp only;rw [if_neg (by simp),h6]
theorem unb_rest (h0:¬ 20000<s.length) (h1:vreadF s=(0,n,f)) (h2:vreadF (s.drop n)=(0,m,h)) (h3:intL (s.drop (n+m)) 60=(k,j,0)) (h4:unT s k (n+m+j) []=.inr (b,T)) (h5:intL (s.drop b) 60=(k2,j2,0)) (h6:unW s h T k2 (b+j2) 0 [] []=.inr (c,W,N)) :
   unbF s=if c<s.length then .inl (3,(c:Int)) else if (listF T (N.map Int.ofNat)).2.1≠0 then .inl ((listF T (N.map Int.ofNat)).2.1,(s.length:Int)) else if (batF f h W).1≠0 then .inl ((batF f h W).1,(s.length:Int)) else .inr (f,h,W):=by
 unfold unbF;rw [if_neg h0,h1];simp only;rw [if_neg (by simp),h2];simp only;rw [if_neg (by simp),h3];simp only;rw [if_neg (by simp),h4];simp only;rw [h5];simp only;rw [if_neg (by simp),h6]
end
end Go.Proofs.YtgfinhehgfbdgaaGreatDoor
