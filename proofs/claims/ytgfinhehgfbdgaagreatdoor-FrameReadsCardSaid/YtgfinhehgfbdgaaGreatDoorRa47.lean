import Derived.Test.YtgfinhehgfbdgaaGreatDoorRa41
namespace Go.Proofs.YtgfinhehgfbdgaaGreatDoor
open Go.RowKit
theorem rbody_as (vf vh vw:Value) (f h:List Ent) (l:List Wr) (S:ByteArray) (e:Nat) (pl:Int) (w:World) (hx:BatIs w vf vh vw f h l) (hb:bodyF f h l=(S.data.toList,e,pl)) :
   Calls Tryz.prog 36 #[.agg #[vf,vh,vw]] w fun r w'=>r=.returned (.tuple #[.string S,.agg #[.int .i64 (e:Int),.int .i64 pl]])∧Below w.heap.size w w':=by
 by_cases hr:(batF f h l).1=0
 · refine (rbody_good w vf vh vw f h l hx hr).mono ?_;rintro r w' ⟨rfl,h2⟩;have h3:pl=-1:=by
     by_cases hbg:20000<(bodyL f h l).length
     · rw [bodyF_big hr hbg] at hb;injection hb with _ hb;injection hb with _ hb;exact hb.symm
     · rw [bodyF_ok hr hbg] at hb;injection hb with _ hb;injection hb with _ hb;exact hb.symm
   rw [hb,h3];exact ⟨by rw [bs_of],h2⟩
 · obtain ⟨e',pl',hbf⟩:∃ e' pl',batF f h l=(e',pl'):=⟨_,_,rfl⟩;have hn:e'≠0:=by rw [hbf] at hr;exact hr
   refine (rbody_bad w vf vh vw f h l e' pl' hx hbf hn).mono ?_;rintro r w' ⟨rfl,h2⟩;rw [bodyF_bad hr,hbf] at hb;injection hb with h3 h4
   injection h4 with h4 h5
   subst h4 h5;have:S=⟨#[]⟩:=by rw [←bs_of S,←h3]
   rw [this];exact ⟨rfl,h2⟩
end Go.Proofs.YtgfinhehgfbdgaaGreatDoor
namespace Go.Proofs.YtgfinhehgfbdgaaGreatDoor
open Go.RowKit
theorem rowF.away {w:World} {F G:Nat} {a b:Int} (h:rowF w G a b) (hne:G≠F) (u v:Value):rowF ((w.setCell ⟨F,0,none⟩ u).setCell ⟨F,1,none⟩ v) G a b :=
 by unfold rowF;rw [heap_setCell_other _ _ _ _ (fun e=>hne e),heap_setCell_other _ _ _ _ (fun e=>hne e)];exact h
theorem bodyF_minus {f h:List Ent} {l:List Wr} {s:List UInt8} {q:Int} (hb:bodyF f h l=(s,0,q)):q=-1:=by
 by_cases hr:(batF f h l).1=0
 · by_cases hbg:20000<(bodyL f h l).length
   · rw [bodyF_big hr hbg] at hb;injection hb with _ hb;injection hb with hb _;cases hb
   · rw [bodyF_ok hr hbg] at hb;injection hb with _ hb;injection hb with _ hb;exact hb.symm
 · rw [bodyF_bad hr] at hb;injection hb with _ hb;exact absurd (by rw [hb]) hr
theorem frm_bytes (S T:ByteArray) (hsz:S.size≤20000) (h:frmL S.data.toList=T.data.toList) :
   ∃ Z N:ByteArray,sqL S.data.toList=Z.data.toList∧putL S.size=N.data.toList∧N.size≤3∧Z.size≤220000 ∧
     ((Z.size<S.size∧sealL ((⟨#[80,84,3,1]⟩:ByteArray)++N++Z).data.toList=T.data.toList)∨(S.size≤Z.size∧sealL ((⟨#[80,84,3,0]⟩:ByteArray)++N++S).data.toList=T.data.toList)):=by
 have e1:sqL S.data.toList=(⟨(sqL S.data.toList).toArray⟩:ByteArray).data.toList:=by simp
 have e2:putL S.size=(⟨(putL S.size).toArray⟩:ByteArray).data.toList:=by simp
 generalize (⟨(sqL S.data.toList).toArray⟩:ByteArray)=Z at e1;generalize (⟨(putL S.size).toArray⟩:ByteArray)=N at e2;refine ⟨Z,N,e1,e2,?_,?_,?_⟩
 · rw [size_data,←e2,putL_size hsz];split <;> split <;> omega
 · rw [size_data,←e1];exact sq_len _ (by rw [←size_data];exact hsz)
 · unfold frmL packL at h;rw [e1,←size_data,←size_data,e2] at h;by_cases hc:Z.size<S.size
   · rw [if_pos hc] at h;exact .inl ⟨hc,by rw [←h];simp⟩
   · rw [if_neg hc] at h;exact .inr ⟨by omega,by rw [←h];simp⟩
set_option maxRecDepth 100000 in
set_option maxHeartbeats 4000000 in
theorem rframe_as (vf vh vw:Value) (f h:List Ent) (l:List Wr) (T:ByteArray) (e:Nat) (pl:Int) (w:World) (hx:BatIs w vf vh vw f h l) (hb:frmF f h l=(T.data.toList,e,pl)) :
   Calls Tryz.prog 11 #[.agg #[vf,vh,vw]] w fun r w'=>r=.returned (.tuple #[.string T,.agg #[.int .i64 (e:Int),.int .i64 pl]])∧Below w.heap.size w w':=by
 have HX:=Lib.hid hx;obtain ⟨hf,hh,hv,_⟩:=hx;obtain ⟨af,cf,rfl,_⟩:=hf.form;obtain ⟨ah,ch,rfl,_⟩:=hh.form;obtain ⟨aw,cw,rfl,_⟩:=hv.form;obtain ⟨S,x,q,hbf⟩:∃ (S:ByteArray) (x:Nat) (q:Int),bodyF f h l=(S.data.toList,x,q):=⟨⟨(bodyF f h l).1.toArray⟩,(bodyF f h l).2.1,(bodyF f h l).2.2,by simp⟩;have HBF:=Lib.hid hbf;generalize f.length=nf at HX ⊢;generalize h.length=nh at HX ⊢;generalize l.length=n at HX ⊢;have HA:=Lib.hid ((batAt_new w (.slice af nf cf) (.slice ah nh ch) (.slice aw n cw) 25).below ((Below.refl _ _).alloc (Nat.le_refl _) (.cells #[.int .i64 0,.int .i64 0] 29)) (by simp));have HF:Hid (rowF ((w.alloc (.cells #[.slice af nf cf,.slice ah nh ch,.slice aw n cw] 25)).alloc (.cells #[.int .i64 0,.int .i64 0] 29)) (w.heap.size+1) 0 0):=Lib.hid (heap_alloc2_new w _ _);have HW:Hid (Below w.heap.size w ((w.alloc (.cells #[.slice af nf cf,.slice ah nh ch,.slice aw n cw] 25)).alloc (.cells #[.int .i64 0,.int .i64 0] 29))):=Lib.hid (((Below.refl _ _).alloc (Nat.le_refl _) _).alloc (by simp) _);have HZ:Hid (w.heap.size+1<((w.alloc (.cells #[.slice af nf cf,.slice ah nh ch,.slice aw n cw] 25)).alloc (.cells #[.int .i64 0,.int .i64 0] 29)).heap.size):=Lib.hid (by simp);have HBW:Hid (w.heap.size≤w.heap.size+1):=Lib.hid (Nat.le_succ _)
 obtain ⟨A1,hA1⟩:∃ A:ByteArray,(⟨#[80,84,3,1]⟩:ByteArray)=A:=⟨_,rfl⟩;obtain ⟨A0,hA0⟩:∃ A:ByteArray,(⟨#[80,84,3,0]⟩:ByteArray)=A:=⟨_,rfl⟩;have HA1:=Lib.hid hA1;have HA0:=Lib.hid hA0;have HAz1:Hid (A1.size=4):=Lib.hid (by rw [←hA1];rfl);have HAz0:Hid (A0.size=4):=Lib.hid (by rw [←hA0];rfl);clear hf hh hv hA1 hA0;go_enter Tryz.func11,Tryz.ntmps11
 rw [HA1.out,HA0.out];go_wp2_with fail
 generalize (w.alloc (.cells #[.slice af nf cf,.slice ah nh ch,.slice aw n cw] 25)).alloc (.cells #[.int .i64 0,.int .i64 0] 29)=W at HA HF HW HZ ⊢;generalize w.heap.size+1=F at HF HZ HBW ⊢;refine (rbody_as _ _ _ f h l S x q W (HX.out.below HW.out) HBF.out).mono ?_;rintro r w1 ⟨rfl,hb1⟩;have HB1:Hid (Below W.heap.size W (w1.alloc (.cells #[.int .i64 (x:Int),.int .i64 q] 29))):=Lib.hid (hb1.alloc hb1.size _);have HF1:=Lib.hid (HF.out.below HB1.out HZ.out);have HT1:Hid (rowF (w1.alloc (.cells #[.int .i64 (x:Int),.int .i64 q] 29)) w1.heap.size (x:Int) q):=Lib.hid (heap_alloc_new w1 _);have HW1:Hid (Below w.heap.size w (w1.alloc (.cells #[.int .i64 (x:Int),.int .i64 q] 29))):=HW.out.trans (HB1.out.mono HW.out.size);have HZ1:Hid (F<w1.heap.size∧w1.heap.size<(w1.alloc (.cells #[.int .i64 (x:Int),.int .i64 q] 29)).heap.size):=Lib.hid ⟨Nat.lt_of_lt_of_le HZ.out hb1.size,by simp⟩;clear hb1;obtain ⟨c0,c1⟩:=HT1.out.at;go_wp2_with fail
 generalize w1.alloc (.cells #[.int .i64 (x:Int),.int .i64 q] 29)=W1 at HB1 HF1 HT1 HW1 HZ1 c0 c1 ⊢;generalize w1.heap.size=G at HT1 HZ1 c0 c1 ⊢;refine (is_any (x:Int) q _).mono ?_;rintro r w2 ⟨rfl,hb2⟩;have HF2:=Lib.hid (HF1.out.below hb2 (by have:=HZ1.out;omega));have HT2:=Lib.hid (HT1.out.below hb2 HZ1.out.2);have HW2:Hid (Below w.heap.size w w2):=HW1.out.trans (hb2.mono HW1.out.size);have HZ2:Hid (F<G∧G<w2.heap.size):=Lib.hid ⟨HZ1.out.1,Nat.lt_of_lt_of_le HZ1.out.2 hb2.size⟩;clear hb2 c0 c1 HB1;obtain ⟨c0,c1⟩:=HT2.out.at;obtain ⟨c2,c3⟩:=HF2.out.at;have g0:=HF2.out.frozen 0;have g1:=HF2.out.frozen 1;by_cases hx0:x=0
 · subst hx0;have hq:q=-1:=bodyF_minus hbf;subst hq;rw [frmF_ok hbf] at hb;injection hb with hT hb
   injection hb with h1 h2
   subst h1 h2;have hsz:S.size≤20000:=by
     by_cases hr:(batF f h l).1=0
     · by_cases hbg:20000<(bodyL f h l).length
       · rw [bodyF_big hr hbg] at hbf;injection hbf with _ hbf;injection hbf with hbf _;cases hbf
       · rw [bodyF_ok hr hbg] at hbf;injection hbf with hbf _;rw [size_data,←hbf];omega
     · rw [bodyF_bad hr] at hbf;injection hbf with _ hbf;exact absurd (by rw [hbf]) hr
   obtain ⟨Z,N,hZ,hN,hnz,hzz,hcs⟩:=frm_bytes S T hsz hT;have HSQ:=Lib.hid hZ;have HN:=Lib.hid hN;clear hZ hN hT hbf;have hz:((0:Int) == 0)=true:=rfl;go_wp2_with fail
   refine (rsq_to S Z w2 hsz HSQ.out).mono ?_;rintro r w3 ⟨rfl,hb3⟩;have HB3:Hid (Below w2.heap.size w2 (w3.alloc (.cells #[.int .i64 0,.int .i64 (-1)] 29))):=Lib.hid (hb3.alloc hb3.size _);have HF3:=Lib.hid (HF2.out.below HB3.out (by have:=HZ2.out;omega));have HT3:=Lib.hid (HT2.out.below HB3.out HZ2.out.2);have HW3:Hid (Below w.heap.size w (w3.alloc (.cells #[.int .i64 0,.int .i64 (-1)] 29))):=HW2.out.trans (HB3.out.mono HW2.out.size);have HZ3:Hid (F<G∧G<(w3.alloc (.cells #[.int .i64 0,.int .i64 (-1)] 29)).heap.size):=Lib.hid ⟨HZ2.out.1,Nat.lt_of_lt_of_le HZ2.out.2 HB3.out.size⟩;clear hb3 c0 c1 c2 c3 g0 g1;go_wp2_with fail
   generalize w3.alloc (.cells #[.int .i64 0,.int .i64 (-1)] 29)=W3 at HB3 HF3 HT3 HW3 HZ3 ⊢;refine (rvary_as S.size _ N W3 (by omega) rfl (by rw [HN.out,bs_of])).mono ?_;rintro r w4 ⟨rfl,hb4⟩;have HF4:=Lib.hid (HF3.out.below hb4 (by have:=HZ3.out;omega));have HT4:=Lib.hid (HT3.out.below hb4 HZ3.out.2);have HW4:Hid (Below w.heap.size w w4):=HW3.out.trans (hb4.mono HW3.out.size);have HZ4:Hid (F<G∧G<w4.heap.size):=Lib.hid ⟨HZ3.out.1,Nat.lt_of_lt_of_le HZ3.out.2 hb4.size⟩;clear hb4;rcases hcs with ⟨hc,hsl⟩ | ⟨hc,hsl⟩
   · have hci:(Z.size:Int)<(S.size:Int):=by omega
     have HSL:=Lib.hid hsl;clear hc hsl;obtain ⟨c0,c1⟩:=HT4.out.at;obtain ⟨c2,c3⟩:=HF4.out.at;have g0:=HF4.out.frozen 0;have g1:=HF4.out.frozen 1;rw [HA1.out] at HSL;have hA2:=HAz1.out;have HNE:Hid (G≠F):=Lib.hid (by have:=HZ4.out;omega);have ha1:¬ (9223372036854775807<A1.size+N.size):=by omega
     have ha2:¬ (9223372036854775807<(A1++N).size+Z.size):=by rw [ByteArray.size_append];omega
     have ha3:¬ (9223372036854775807<A1.size+N.size+Z.size):=by omega
     have HSZ:Hid ((A1++N++Z).size≤1000000):=Lib.hid (by rw [ByteArray.size_append,ByteArray.size_append];omega);clear hA2;go_wp2;go_region_held3 (fun w'=>w'.cell? ⟨G,0,none⟩=some (.int .i64 0)∧w'.cell? ⟨G,1,none⟩=some (.int .i64 (-1))) (first | exact ⟨c0,c1⟩ | exact k1 | exact k2 | fail) (first
       | (go_at_call 40;((refine (rseal_to _ T _ HSZ.out HSL.out).mono ?_);rintro r w5 ⟨rfl,hb5⟩;have HB5:Hid (Below w4.heap.size w4 w5):=Lib.hid (undrew hb5);have HT5:=Lib.hid (HT4.out.below HB5.out HZ4.out.2);have k1:=HT5.out.at;have k2:=(HT5.out.away HNE.out (.int .i64 0) (.int .i64 (-1))).at;have HF5:=Lib.hid (HF4.out.below HB5.out (by have:=HZ4.out;omega));obtain ⟨c4,c5⟩:=HF5.out.at;have g4:=HF5.out.frozen 0;have g5:=HF5.out.frozen 1;clear hb5))
       | fail)
     have HF6:Hid (rowF ((w5.setCell ⟨F,0,none⟩ (.int .i64 0)).setCell ⟨F,1,none⟩ (.int .i64 (-1))) F 0 (-1)):=Lib.hid (HF5.out.put 0 (-1));have HW6:Hid (Below w.heap.size w ((w5.setCell ⟨F,0,none⟩ (.int .i64 0)).setCell ⟨F,1,none⟩ (.int .i64 (-1)))):=Lib.hid (below_put (HW4.out.trans (HB5.out.mono HW4.out.size)) HBW.out _ _);generalize (w5.setCell ⟨F,0,none⟩ (.int .i64 0)).setCell ⟨F,1,none⟩ (.int .i64 (-1))=w6 at HF6 HW6 ⊢;clear c0 c1 c2 c3 c4 c5 g0 g1 g4 g5 k1 k2;obtain ⟨c0,c1⟩:=HF6.out.at;go_wp2;refine bodyPost_ret (v:=.tuple #[.string T,.agg #[.int .i64 0,.int .i64 (-1)]]) (by simp [results,Tryz.results11,go_sem,c0,c1]) rfl ?_;exact ⟨rfl,HW6.out⟩
   · have hci:(S.size:Int)≤(Z.size:Int):=by omega
     have HSL:=Lib.hid hsl;clear hc hsl;obtain ⟨c0,c1⟩:=HT4.out.at;obtain ⟨c2,c3⟩:=HF4.out.at;have g0:=HF4.out.frozen 0;have g1:=HF4.out.frozen 1;rw [HA0.out] at HSL;have hA2:=HAz0.out;have HNE:Hid (G≠F):=Lib.hid (by have:=HZ4.out;omega);have ha1:¬ (9223372036854775807<A0.size+N.size):=by omega
     have ha2:¬ (9223372036854775807<(A0++N).size+S.size):=by rw [ByteArray.size_append];omega
     have ha3:¬ (9223372036854775807<A0.size+N.size+S.size):=by omega
     have HSZ:Hid ((A0++N++S).size≤1000000):=Lib.hid (by rw [ByteArray.size_append,ByteArray.size_append];omega);clear hA2;go_wp2;go_region_held3 (fun w'=>w'.cell? ⟨G,0,none⟩=some (.int .i64 0)∧w'.cell? ⟨G,1,none⟩=some (.int .i64 (-1))) (first | exact ⟨c0,c1⟩ | exact k1 | exact k2 | fail) (first
       | (go_at_call 40;((refine (rseal_to _ T _ HSZ.out HSL.out).mono ?_);rintro r w5 ⟨rfl,hb5⟩;have HB5:Hid (Below w4.heap.size w4 w5):=Lib.hid (undrew hb5);have HT5:=Lib.hid (HT4.out.below HB5.out HZ4.out.2);have k1:=HT5.out.at;have k2:=(HT5.out.away HNE.out (.int .i64 0) (.int .i64 (-1))).at;have HF5:=Lib.hid (HF4.out.below HB5.out (by have:=HZ4.out;omega));obtain ⟨c4,c5⟩:=HF5.out.at;have g4:=HF5.out.frozen 0;have g5:=HF5.out.frozen 1;clear hb5))
       | fail)
     have HF6:Hid (rowF ((w5.setCell ⟨F,0,none⟩ (.int .i64 0)).setCell ⟨F,1,none⟩ (.int .i64 (-1))) F 0 (-1)):=Lib.hid (HF5.out.put 0 (-1));have HW6:Hid (Below w.heap.size w ((w5.setCell ⟨F,0,none⟩ (.int .i64 0)).setCell ⟨F,1,none⟩ (.int .i64 (-1)))):=Lib.hid (below_put (HW4.out.trans (HB5.out.mono HW4.out.size)) HBW.out _ _);generalize (w5.setCell ⟨F,0,none⟩ (.int .i64 0)).setCell ⟨F,1,none⟩ (.int .i64 (-1))=w6 at HF6 HW6 ⊢;clear c0 c1 c2 c3 c4 c5 g0 g1 g4 g5 k1 k2;obtain ⟨c0,c1⟩:=HF6.out.at;go_wp2;refine bodyPost_ret (v:=.tuple #[.string T,.agg #[.int .i64 0,.int .i64 (-1)]]) (by simp [results,Tryz.results11,go_sem,c0,c1]) rfl ?_;exact ⟨rfl,HW6.out⟩
 · have hz:((x:Int) == 0)=false:=by simp;omega
   rw [frmF_bad hbf hx0] at hb;injection hb with hT hb
   injection hb with h1 h2
   subst h1 h2;have hTe:T=⟨#[]⟩:=by rw [←bs_of T,←hT]
   subst hTe;clear hbf;go_wp2;go_region
   have HF3:Hid (rowF ((w2.setCell ⟨F,0,none⟩ (.int .i64 (x:Int))).setCell ⟨F,1,none⟩ (.int .i64 q)).drew F x q):=Lib.hid (HF2.out.put x q);have HW3:Hid (Below w.heap.size w ((w2.setCell ⟨F,0,none⟩ (.int .i64 (x:Int))).setCell ⟨F,1,none⟩ (.int .i64 q)).drew):=Lib.hid (below_put HW2.out HBW.out _ _).drew;generalize ((w2.setCell ⟨F,0,none⟩ (.int .i64 (x:Int))).setCell ⟨F,1,none⟩ (.int .i64 q)).drew=w3 at HF3 HW3 ⊢;clear c0 c1 c2 c3 g0 g1;obtain ⟨c0,c1⟩:=HF3.out.at;go_wp2;refine bodyPost_ret (v:=.tuple #[.string ⟨#[]⟩,.agg #[.int .i64 (x:Int),.int .i64 q]]) (by simp [results,Tryz.results11,go_sem,c0,c1]) rfl ?_;exact ⟨rfl,HW3.out⟩
end Go.Proofs.YtgfinhehgfbdgaaGreatDoor
