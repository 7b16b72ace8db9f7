import Derived.Test.YtgfinhehgfbdgaaGreatDoorRa28
import Derived.Test.YtgfinhehgfbdgaaGreatDoorRa37
import Derived.Test.YtgfinhehgfbdgaaGreatDoorRa34
namespace Go.Proofs.YtgfinhehgfbdgaaGreatDoor
open Go.RowKit
theorem rbright_at (vf vh vw:Value) (f h:List Ent) (l:List Wr) (e:Nat) (pl:Int) (w:World) (hx:BatIs w vf vh vw f h l) (hb:batF f h l=(e,pl)) :
   Calls Tryz.prog 71 #[.agg #[vf,vh,vw]] w fun r w'=>r=.returned (.agg #[.int .i64 (e:Int),.int .i64 pl])∧Below w.heap.size w w' :=
 (rbright_any vf vh vw f h l w hx.1 hx.2.1 hx.2.2.1 hx.2.2.2.1 hx.2.2.2.2.1 hx.2.2.2.2.2.2).mono fun r w' ⟨h1,h2⟩=>⟨by rw [h1,hb];rfl,h2⟩
def rowF (w:World) (F:Nat) (e p:Int):Prop:=w.heap[F]? = some (.cells #[.int .i64 e,.int .i64 p] 29 (0,0))
theorem rowF.at {w:World} {F:Nat} {e p:Int} (h:rowF w F e p):w.cell? ⟨F,0,none⟩=some (.int .i64 e)∧w.cell? ⟨F,1,none⟩=some (.int .i64 p) :=
 ⟨by rw [cell_of_row _ _ _ _ _ (0,0) h];rfl,by rw [cell_of_row _ _ _ _ _ (0,0) h];rfl⟩
theorem rowF.frozen {w:World} {F:Nat} {e p:Int} (h:rowF w F e p) (j:Nat):w.frozen? ⟨F,j,none⟩=false:=frozen_of_row w F j _ _ h
theorem rowF.below {w w':World} {F m:Nat} {e p:Int} (h:rowF w F e p) (hb:Below m w w') (hm:F<m):rowF w' F e p:=(hb.block F hm).trans h
theorem rowF.put {w:World} {F:Nat} {e p:Int} (h:rowF w F e p) (a b:Int):rowF ((w.setCell ⟨F,0,none⟩ (.int .i64 a)).setCell ⟨F,1,none⟩ (.int .i64 b)) F a b :=
 heap_setCell_same _ F 1 _ _ _ (heap_setCell_same w F 0 _ _ _ h)
theorem below_put {w w':World} {m F:Nat} (hb:Below m w w') (hF:m≤F) (u v:Value):Below m w ((w'.setCell ⟨F,0,none⟩ u).setCell ⟨F,1,none⟩ v) :=
 Below.setCell (p:=⟨F,1,none⟩) (Below.setCell (p:=⟨F,0,none⟩) hb hF u) hF v
set_option maxRecDepth 100000 in
set_option maxHeartbeats 8000000 in
theorem rbody_bad (w:World) (vf vh vw:Value) (f h:List Ent) (l:List Wr) (e:Nat) (pl:Int) (hx:BatIs w vf vh vw f h l) (hb:batF f h l=(e,pl)) (he:e≠0) :
   Calls Tryz.prog 36 #[.agg #[vf,vh,vw]] w fun r w'=>r=.returned (.tuple #[.string ⟨#[]⟩,.agg #[.int .i64 (e:Int),.int .i64 pl]])∧Below w.heap.size w w':=by
 have HX:=Lib.hid hx;obtain ⟨hf,hh,hv,_⟩:=hx;obtain ⟨af,cf,rfl,_⟩:=hf.form;obtain ⟨ah,ch,rfl,_⟩:=hh.form;obtain ⟨aw,cw,rfl,_⟩:=hv.form;have HBF:=Lib.hid hb;have hz:((e:Int) == 0)=false:=by simp;omega
 generalize f.length=nf at HX ⊢;generalize h.length=nh at HX ⊢;generalize l.length=n at HX ⊢;clear hf hh hv hb;go_enter Tryz.func36,Tryz.ntmps36
 go_wp2_with fail
 have HA:=Lib.hid ((batAt_new w (.slice af nf cf) (.slice ah nh ch) (.slice aw n cw) 25).below ((Below.refl _ _).alloc (Nat.le_refl _) (.cells #[.int .i64 0,.int .i64 0] 29)) (by simp));have HF:Hid (rowF ((w.alloc (.cells #[.slice af nf cf,.slice ah nh ch,.slice aw n cw] 25)).alloc (.cells #[.int .i64 0,.int .i64 0] 29)) (w.heap.size+1) 0 0):=Lib.hid (heap_alloc2_new w _ _);have HW:Hid (Below w.heap.size w ((w.alloc (.cells #[.slice af nf cf,.slice ah nh ch,.slice aw n cw] 25)).alloc (.cells #[.int .i64 0,.int .i64 0] 29))):=Lib.hid (((Below.refl _ _).alloc (Nat.le_refl _) _).alloc (by simp) _);have HZ:Hid (w.heap.size+1<((w.alloc (.cells #[.slice af nf cf,.slice ah nh ch,.slice aw n cw] 25)).alloc (.cells #[.int .i64 0,.int .i64 0] 29)).heap.size):=Lib.hid (by simp);have HBW:Hid (w.heap.size≤w.heap.size+1):=Lib.hid (Nat.le_succ _);generalize (w.alloc (.cells #[.slice af nf cf,.slice ah nh ch,.slice aw n cw] 25)).alloc (.cells #[.int .i64 0,.int .i64 0] 29)=W at HA HF HW HZ ⊢;generalize w.heap.size+1=F at HF HZ HBW ⊢;refine (rbright_at _ _ _ f h l e pl W (HX.out.below HW.out) HBF.out).mono ?_;rintro r w1 ⟨rfl,hb1⟩;have HB1:=Lib.hid hb1;clear hb1;have HF1:=Lib.hid (HF.out.below HB1.out HZ.out)
 have HW1:Hid (Below w.heap.size w w1):=HW.out.trans (HB1.out.mono HW.out.size);have HZ1:Hid (F<w1.heap.size):=Lib.hid (Nat.lt_of_lt_of_le HZ.out HB1.out.size);go_wp2_with fail
 refine (is_any (e:Int) pl _).mono ?_;rintro r w2 ⟨rfl,hb2⟩;rw [hz];have HB2:Hid (Below w1.heap.size w1 w2):=Lib.hid (((Below.refl _ _).alloc (Nat.le_refl _) _).trans (hb2.mono (by simp)));have HF2:=Lib.hid (HF1.out.below HB2.out HZ1.out);have HT2:Hid (rowF w2 w1.heap.size e pl):=Lib.hid (rowF.below (w:=w1.alloc (.cells #[.int .i64 e,.int .i64 pl] 29)) (heap_alloc_new w1 _) hb2 (by simp));have HW2:Hid (Below w.heap.size w w2):=HW1.out.trans (HB2.out.mono HW1.out.size);clear hb2;obtain ⟨c0,c1⟩:=HT2.out.at;obtain ⟨c2,c3⟩:=HF2.out.at;have g0:=HF2.out.frozen 0;have g1:=HF2.out.frozen 1;go_wp2;go_region
 have HF3:Hid (rowF ((w2.setCell ⟨F,0,none⟩ (.int .i64 (e:Int))).setCell ⟨F,1,none⟩ (.int .i64 pl)).drew F e pl):=Lib.hid (HF2.out.put e pl);have HW3:Hid (Below w.heap.size w ((w2.setCell ⟨F,0,none⟩ (.int .i64 (e:Int))).setCell ⟨F,1,none⟩ (.int .i64 pl)).drew):=Lib.hid (below_put HW2.out HBW.out _ _).drew;generalize ((w2.setCell ⟨F,0,none⟩ (.int .i64 (e:Int))).setCell ⟨F,1,none⟩ (.int .i64 pl)).drew=w3 at HF3 HW3 ⊢;clear c0 c1 c2 c3 g0 g1;obtain ⟨c0,c1⟩:=HF3.out.at;go_wp2;refine bodyPost_ret (v:=.tuple #[.string ⟨#[]⟩,.agg #[.int .i64 (e:Int),.int .i64 pl]]) (by simp [results,Tryz.results36,go_sem,c0,c1]) rfl ?_;exact ⟨rfl,HW3.out⟩
end Go.Proofs.YtgfinhehgfbdgaaGreatDoor
namespace Go.Proofs.YtgfinhehgfbdgaaGreatDoor
open Go.RowKit
theorem bodyF_fits {f h:List Ent} {l:List Wr} {s:List UInt8} {pl:Int} (hb:bodyF f h l=(s,0,pl)):s.length≤20000:=by
 by_cases hr:(batF f h l).1=0
 · by_cases hbg:20000<(bodyL f h l).length
   · rw [bodyF_big hr hbg] at hb;injection hb with _ hb;injection hb with hb _;cases hb
   · rw [bodyF_ok hr hbg] at hb;injection hb with hb _;rw [←hb];omega
 · rw [bodyF_bad hr] at hb;injection hb with _ hb;exact absurd (by rw [hb]) hr
theorem frm_seal (S P T:ByteArray) (hP:packL S.data.toList=P.data.toList) (hT:frmL S.data.toList=T.data.toList):sealB ((⟨#[80,84]⟩:ByteArray)++⟨#[3]⟩++P)=T:=by
 apply bytes_ext
 rw [sealB_data,←hT];unfold frmL;rw [hP];simp
set_option maxRecDepth 100000 in
set_option maxHeartbeats 2400000 in
theorem fwrite_as (vf vh vw:Value) (f h:List Ent) (l:List Wr) (T:ByteArray) (e:Nat) (pl:Int) (w:World) (hx:BatIs w vf vh vw f h l) (hg:errT w) (hb:frmF f h l=(T.data.toList,e,pl)) :
   Calls Tryz.prog 12 #[.agg #[vf,vh,vw]] w fun r w'=>∃ err,r=.returned (.tuple #[.string T,err])∧anyErr w' err (e,pl)∧Below w.heap.size w w':=by
 have HX:=Lib.hid hx;have HG:=Lib.hid hg;obtain ⟨hf,hh,hv,_⟩:=hx;obtain ⟨af,cf,rfl,_⟩:=hf.form;obtain ⟨ah,ch,rfl,_⟩:=hh.form;obtain ⟨aw,cw,rfl,_⟩:=hv.form;obtain ⟨S,x,q,hbf⟩:∃ (S:ByteArray) (x:Nat) (q:Int),bodyF f h l=(S.data.toList,x,q):=⟨⟨(bodyF f h l).1.toArray⟩,(bodyF f h l).2.1,(bodyF f h l).2.2,by simp⟩;have HBF:=Lib.hid hbf;obtain ⟨d0,d1,d2⟩:=batAt_new w (.slice af f.length cf) (.slice ah h.length ch) (.slice aw l.length cw) 25;have HW:Hid (Below w.heap.size w (w.alloc (.cells #[.slice af f.length cf,.slice ah h.length ch,.slice aw l.length cw] 25))):=Lib.hid ((Below.refl _ _).alloc (Nat.le_refl _) _);generalize f.length=nf at HX HW d0 d1 d2 ⊢;generalize h.length=nh at HX HW d0 d1 d2 ⊢;generalize l.length=n at HX HW d0 d1 d2 ⊢;clear hf hh hv hg;by_cases hx0:x=0
 · subst hx0;rw [frmF_ok hbf] at hb;injection hb with hT hb
   injection hb with h1 h2
   subst h1 h2;have hsz:S.size≤20000:=by rw [size_data];exact bodyF_fits hbf
   obtain ⟨P,hP⟩:∃ P:ByteArray,packL S.data.toList=P.data.toList:=⟨⟨(packL S.data.toList).toArray⟩,by simp⟩;have hpz:P.size≤20004:=by
     rw [size_data,←hP,packL_len,←size_data,putL_size hsz];split <;> split <;> omega
   obtain ⟨B,hB⟩:∃ B:ByteArray,B=⟨#[3]⟩:=⟨_,rfl⟩;obtain ⟨A,hA⟩:∃ A:ByteArray,A=⟨#[80,84]⟩:=⟨_,rfl⟩;have hsl:sealB (A++B++P)=T:=by rw [hA,hB];exact frm_seal S P T hP hT
   have hAz:A.size=2:=by rw [hA];rfl
   have hBz:B.size=1:=by rw [hB];rfl
   have HSL:=Lib.hid hsl;have HPK:=Lib.hid (fun w'=>pack_any S P w' hsz hP);have HBB:=Lib.hid hB;have ha1:¬ (9223372036854775807<A.size+B.size):=by omega
   have ha2:¬ (9223372036854775807<(A++B).size+P.size):=by rw [ByteArray.size_append];omega
   have ha3:¬ (9223372036854775807<A.size+B.size+P.size):=by omega
   have HSZ:Hid ((A++B++P).size≤140737488351232):=Lib.hid (by rw [ByteArray.size_append,ByteArray.size_append];omega);have hA2:(⟨#[80,84]⟩:ByteArray)=A:=hA.symm;clear hbf hT hP hB hsl hA;go_enter Tryz.func12,Tryz.ntmps12
   rw [hA2];go_wp2_with fail
   refine (bwrite_any _ _ _ f h l _ (HX.out.below HW.out) (HG.out.below HW.out)).mono ?_;rintro r w1 ⟨err,rfl,hat,hb1⟩;rw [HBF.out] at hat ⊢;obtain rfl:=hat.nil rfl;rw [bs_of];have HB1:Hid (Below w.heap.size w w1):=HW.out.trans (hb1.mono HW.out.size);clear hb1 hat d0 d1 d2;go_wp2;have hcA:=byte_lit 3 3 B rfl HBB.out (by omega) (w1.alloc (.cells #[.int .u8 3] 5)) w1.heap.size (heap_alloc_new w1 _);have hcD:=byte_lit 3 3 B rfl HBB.out (by omega) (w1.alloc (.cells #[.int .u8 3] 5)).drew w1.heap.size (heap_alloc_new w1 _);have HBA:Hid (Below w1.heap.size w1 (w1.alloc (.cells #[.int .u8 3] 5))):=Lib.hid ((Below.refl _ _).alloc (Nat.le_refl _) _)
   go_region_with (first
     | (go_at_call 41;((with_reducible refine (HPK.out w1.drew).mono ?_);rintro r w2 ⟨rfl,hb2⟩;have HB2:Hid (Below w1.heap.size w1 w2):=Lib.hid (undrewP hb2);have HB3:Hid (Below w1.heap.size w1 (w2.alloc (.cells #[.int .u8 3] 5))):=Lib.hid (HB2.out.alloc HB2.out.size _);have hcB:=byte_lit 3 3 B rfl HBB.out (by omega) (w2.alloc (.cells #[.int .u8 3] 5)) w2.heap.size (heap_alloc_new w2 _);clear hb2))
     | (go_at_call 41;((with_reducible refine (HPK.out (w1.alloc (.cells #[.int .u8 3] 5)).drew).mono ?_);rintro r w2 ⟨rfl,hb2⟩;have HB3:Hid (Below w1.heap.size w1 w2):=Lib.hid (HBA.out.trans ((undrewP hb2).mono (by simp)));have hcB:=byte_lit 3 3 B rfl HBB.out (by omega) w2 w1.heap.size (((undrewP hb2).block _ (by simp)).trans (heap_alloc_new w1 _));clear hb2))
     | (go_at_call 35;((refine (seal_any _ _ HSZ.out).mono ?_);rintro r w4 ⟨rfl,hb4⟩;have HB4:Hid (Below w1.heap.size w1 w4):=Lib.hid (HB3.out.trans (hb4.mono HB3.out.size));clear hb4)))
   all_goals
     clear hcA hcB hcD;go_wp2;go_ret2;exact ⟨.nilIface,by rw [←HSL.out];rfl,.inl (.inl ⟨rfl,rfl⟩),HB1.out.trans (HB4.out.mono HB1.out.size)⟩
 · rw [frmF_bad hbf hx0] at hb;injection hb with hT hb
   injection hb with h1 h2
   subst h1 h2;have hTe:T=⟨#[]⟩:=by rw [←bs_of T,←hT]
   subst hTe;clear hbf hT;go_enter Tryz.func12,Tryz.ntmps12
   go_wp2_with fail
   refine (bwrite_any _ _ _ f h l _ (HX.out.below HW.out) (HG.out.below HW.out)).mono ?_;rintro r w1 ⟨err,rfl,hat,hb1⟩;rw [HBF.out] at hat ⊢;have HAT:=Lib.hid hat;obtain ⟨t,u,rfl⟩:=hat.iface hx0;have HB1:Hid (Below w.heap.size w w1):=HW.out.trans (hb1.mono HW.out.size);clear hb1 hat d0 d1 d2;go_wp2;go_ret2;exact ⟨.iface t u,rfl,HAT.out,HB1.out⟩
end Go.Proofs.YtgfinhehgfbdgaaGreatDoor
namespace Go.Proofs.YtgfinhehgfbdgaaGreatDoor
open Go.RowKit
theorem read_few (s:List UInt8):(readF s).2.length≤20000∧∀ t∈(readF s).2,t.own.size≤20000:=by
 by_cases h:(readF s).1.1=0
 · have h2:=(read_only h).1;exact ⟨(right_few h2).1,right_own h2⟩
 · rw [read_bad h];exact ⟨Nat.zero_le _,fun t ht=>by cases ht⟩
set_option maxRecDepth 100000 in
set_option maxHeartbeats 4000000 in
theorem rswell_any (s:ByteArray) (w:World) (hs:s.size≤400000) (e:Nat) (pl:Int) (he:(readF s.data.toList).1=(e,pl)) :
   Calls Tryz.prog 46 #[.string s] w fun r w'=>r=.returned (.tuple #[.string ⟨(swellF s.data.toList).toArray⟩,.agg #[.int .i64 (e:Int),.int .i64 pl]])∧Below w.heap.size w w':=by
 have HE:=Lib.hid he;have HFQ:Hid ((.agg #[.int .i64 ((readF s.data.toList).1.1:Nat),.int .i64 (readF s.data.toList).1.2]:Value)=.agg #[.int .i64 (e:Int),.int .i64 pl]):=Lib.hid (show (.agg #[.int .i64 ((readF s.data.toList).1.1:Nat),.int .i64 (readF s.data.toList).1.2]:Value)=.agg #[.int .i64 (e:Int),.int .i64 pl] by rw [he]);by_cases h0:e=0
 · subst h0;have hr:(readF s.data.toList).1.1=0:=by rw [he]
   have hpl:pl=-1:=by have:=read_good hr;rw [he] at this;exact (Prod.mk.inj this).2
   subst hpl;have hr2:=(read_only hr).1;obtain ⟨l,hl⟩:∃ l,(readF s.data.toList).2=l:=⟨_,rfl⟩;have hfew:=(read_few s.data.toList).1;have hown:=(read_few s.data.toList).2;rw [hl] at hr2 hfew hown;have HL:=Lib.hid hl;have HLN:Hid (l.length≤9223372036854775807):=Lib.hid (show l.length≤9223372036854775807 by omega);have HZ:Hid (∀ t∈l,t.own.size≤140737488351232):=Lib.hid (show ∀ t∈l,t.own.size≤140737488351232 from fun t ht=>by have:=hown t ht;omega);have HTX:Hid ((⟨(textF l).toArray⟩:ByteArray)=⟨(swellF s.data.toList).toArray⟩):=Lib.hid (show (⟨(textF l).toArray⟩:ByteArray)=⟨(swellF s.data.toList).toArray⟩ by rw [swell_ok hr,hl];unfold textF;rw [if_pos hr2]);have HFV:Hid (faultV (rightF l 0 0)=.agg #[.int .i64 0,.int .i64 (-1)]):=Lib.hid (show faultV (rightF l 0 0)=.agg #[.int .i64 0,.int .i64 (-1)] by rw [rightF_any hr2];rfl);clear hr hr2 hl hfew hown he;go_enter Tryz.func46,Tryz.ntmps46
   go_wp2_with fail
   refine (rread_any s _ hs).mono ?_;rintro r w1 ⟨v,rfl,hok,hb1⟩;rw [HL.out] at hok;rw [HFQ.out];have HK:=Lib.hid hok;have HB1:=Lib.hid hb1;clear hok hb1;go_wp2_with fail
   refine (is_any 0 (-1) _).mono ?_;rintro r w2 ⟨rfl,hb2⟩;have hz1:=HB1.out.size;rw [World.size_alloc] at hz1;have HB2:Hid (Below (w.heap.size+1) (w.alloc (.cells #[.int .i64 0,.int .i64 0] 29)) w2):=((HB1.out.mono (by simp)).alloc (by omega) _).trans (hb2.mono (by simp;omega));have HK2:=Lib.hid ((HK.out.alloc _).below hb2);clear hb2;go_wp2_with fail
   refine (rtext_any v l _ HK2.out.is HLN.out HZ.out).mono ?_;rintro r w3 ⟨rfl,hb3⟩;rw [HTX.out,HFV.out];have hz2:=HB2.out.size;rw [World.size_alloc] at hz2;have HB3:Hid (Below (w.heap.size+1) (w.alloc (.cells #[.int .i64 0,.int .i64 0] 29)) w3):=HB2.out.trans (hb3.mono hz2);clear hb3;have x0:w3.cell? ⟨w.heap.size,0,none⟩=some (.int .i64 0):=(HB3.out.cell (by exact Nat.lt_succ_self _)).trans (by simp);have x1:w3.cell? ⟨w.heap.size,1,none⟩=some (.int .i64 0):=(HB3.out.cell (by exact Nat.lt_succ_self _)).trans (by simp);have y0:w3.frozen? ⟨w.heap.size,0,none⟩=false:=(HB3.out.frozen (by exact Nat.lt_succ_self _)).trans (by simp);have y1:w3.frozen? ⟨w.heap.size,1,none⟩=false:=(HB3.out.frozen (by exact Nat.lt_succ_self _)).trans (by simp);have HBW:Hid (Below w.heap.size w w3):=((Below.refl _ _).alloc (Nat.le_refl _) _).trans (HB3.out.mono (Nat.le_succ _));go_wp2;refine bodyPost_ret (v:=.tuple #[.string ⟨(swellF s.data.toList).toArray⟩,.agg #[.int .i64 0,.int .i64 (-1)]]) (by simp [results,Tryz.results46,go_sem,x0,x1]) rfl ?_;exact ⟨rfl,(HBW.out.setCell (Nat.le_refl _) _).setCell (Nat.le_refl _) _⟩
 · have hr:¬ (readF s.data.toList).1.1=0:=by rw [he];exact h0
   have HSB:Hid ((⟨(swellF s.data.toList).toArray⟩:ByteArray)=⟨#[]⟩):=Lib.hid (show (⟨(swellF s.data.toList).toArray⟩:ByteArray)=⟨#[]⟩ by rw [swell_bad hr]);have hbe:((e:Int) == 0)=false:=by simp;omega
   have HBE:=Lib.hid hbe;clear hr h0 he hbe;go_enter Tryz.func46,Tryz.ntmps46
   go_wp2_with fail
   refine (rread_any s _ hs).mono ?_;rintro r w0 ⟨v,rfl,_,hb0⟩;rw [HFQ.out];have HB0:=Lib.hid hb0;have hz0:=hb0.size;rw [World.size_alloc] at hz0;clear hb0;go_wp2_with fail
   refine (is_any e pl _).mono ?_;rintro r w1 ⟨rfl,hb1⟩;rw [HBE.out];have hB1:Below (w.heap.size+1) (w.alloc (.cells #[.int .i64 0,.int .i64 0] 29)) w1:=(HB0.out.mono (by simp)).alloc (by omega) _ |>.trans (hb1.mono (by simp;omega))
   have hl0:w0.heap.size<(w0.alloc (.cells #[.int .i64 e,.int .i64 pl] 29)).heap.size:=by simp
   have u0:w1.cell? ⟨w0.heap.size,0,none⟩=some (.int .i64 e):=(hb1.cell hl0).trans (by simp);have u1:w1.cell? ⟨w0.heap.size,1,none⟩=some (.int .i64 pl):=(hb1.cell hl0).trans (by simp);have x0:w1.cell? ⟨w.heap.size,0,none⟩=some (.int .i64 0):=(hB1.cell (by exact Nat.lt_succ_self _)).trans (by simp);have x1:w1.cell? ⟨w.heap.size,1,none⟩=some (.int .i64 0):=(hB1.cell (by exact Nat.lt_succ_self _)).trans (by simp);have y0:w1.frozen? ⟨w.heap.size,0,none⟩=false:=(hB1.frozen (by exact Nat.lt_succ_self _)).trans (by simp);have y1:w1.frozen? ⟨w.heap.size,1,none⟩=false:=(hB1.frozen (by exact Nat.lt_succ_self _)).trans (by simp);have HBW:Hid (Below w.heap.size w w1):=((Below.refl _ _).alloc (Nat.le_refl _) _).trans (hB1.mono (Nat.le_succ _));clear hb1 hB1;go_wp2;go_region
   go_wp2;refine bodyPost_ret (v:=.tuple #[.string ⟨#[]⟩,.agg #[.int .i64 e,.int .i64 pl]]) (by simp [results,Tryz.results46,go_sem,x0,x1]) rfl ?_;rw [HSB.out];exact ⟨rfl,by first | exact ((HBW.out.drew).setCell (Nat.le_refl _) _).setCell (Nat.le_refl _) _ | exact ((HBW.out.setCell (Nat.le_refl _) _).setCell (Nat.le_refl _) _).drew⟩
end Go.Proofs.YtgfinhehgfbdgaaGreatDoor
