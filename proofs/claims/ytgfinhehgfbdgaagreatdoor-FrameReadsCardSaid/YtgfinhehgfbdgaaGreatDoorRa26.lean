import Derived.Test.YtgfinhehgfbdgaaGreatDoorRa24
namespace Go.Proofs.YtgfinhehgfbdgaaGreatDoor
open Go.RowKit
theorem idxB_0 (x y:Value) (w:World):(Instr.index 139 (.agg #[x,y]) (.int .i64 0)).run Tryz.prog w=.ok x w:=by kernel_rfl
theorem idxB_1 (x y:Value) (w:World):(Instr.index 139 (.agg #[x,y]) (.int .i64 1)).run Tryz.prog w=.ok y w:=by kernel_rfl
theorem bcov_as (va vb:Value) (a b:List Ent) (x:Bool) (w:World) (ha:IsEnts w va a) (hb:IsEnts w vb b) (hla:a.length≤9223372036854775807) (hlb:b.length≤9223372036854775807) (hx:covB a b=x) :
   Calls Tryz.prog 102 #[va,vb] w fun r w'=>r=.returned (.bool x)∧Below w.heap.size w w':=by
 subst hx;exact vcov_any va vb a b w ha hb hla hlb
set_option maxRecDepth 100000 in
set_option maxHeartbeats 4000000 in
theorem bbounds_any (vf vh vw:Value) (f h:List Ent) (l:List Wr) (w:World) (hf:IsEnts w vf f) (hh:IsEnts w vh h) (hv:IsWrs w vw l) (hlf:f.length≤9223372036854775807) (hlh:h.length≤9223372036854775807) (hg:errT w) :
   Calls Tryz.prog 58 #[.agg #[vf,vh,vw]] w fun r w'=>r=.returned (errV (bbE f h))∧Below w.heap.size w w':=by
 have HF:=Lib.hid hf;have HH:=Lib.hid hh;have HG:=Lib.hid hg;have HLF:=Lib.hid hlf;have HLH:=Lib.hid hlh;obtain ⟨af,cf,rfl,_⟩:=hf.form;obtain ⟨ah,ch,rfl,_⟩:=hh.form;obtain ⟨aw,cw,rfl,_⟩:=hv.form;obtain ⟨nf,hnf⟩:∃ n,n=f.length:=⟨_,rfl⟩;obtain ⟨nh,hnh⟩:∃ n,n=h.length:=⟨_,rfl⟩;obtain ⟨n,hn⟩:∃ n,n=l.length:=⟨_,rfl⟩;rw [←hnf] at HF ⊢;rw [←hnh] at HH ⊢;rw [←hn];have HA:=Lib.hid (batAt_new w (.slice af nf cf) (.slice ah nh ch) (.slice aw n cw) 25);have HW0:Hid (Below w.heap.size w (w.alloc (.cells #[.slice af nf cf,.slice ah nh ch,.slice aw n cw] 25))):=Lib.hid ((Below.refl _ _).alloc (Nat.le_refl _) _);have HZ:Hid (w.heap.size<(w.alloc (.cells #[.slice af nf cf,.slice ah nh ch,.slice aw n cw] 25)).heap.size):=Lib.hid (by simp);have i0:=idxB_0;have i1:=idxB_1;clear hf hh hv hg hlf hlh hnf hnh hn;go_enter Tryz.func58,Tryz.ntmps58
 go_wp2;generalize w.alloc (.cells #[.slice af nf cf,.slice ah nh ch,.slice aw n cw] 25)=W at HA HW0 HZ ⊢;have HE:Hid (∀ w',Below W.heap.size W w'→Below w.heap.size w w'):=Lib.hid (fun w' hx=>HW0.out.trans (hx.mono HW0.out.size))
 go_loopw [11] (fun i wr=>∃ k:Nat,k≤2∧i=.int .i64 k∧(k=0∨(k=1∧(vrightF f).1=0)∨(k=2∧(vrightF f).1=0∧(vrightF h).1=0))∧Below W.heap.size W wr) (fun i _=>2-(intOf i).toNat)
 case atStart=>exact ⟨0,by omega,rfl,.inl rfl,Below.refl _ _⟩
 case round =>
   obtain ⟨k,hk,rfl,hj,hbel⟩:=hrel;have HB:=Lib.hid hbel;clear hbel;rcases hj with rfl | ⟨rfl,h1⟩ | ⟨rfl,h1,h2⟩
   · by_cases h1:(vrightF f).1=0
     · have H1:=Lib.hid h1;clear h1;go_wp2_with fail
       refine (vright_any _ f _ (HF.out.below (HE.out _ HB.out)) HLF.out).mono ?_;rintro r w1 ⟨err,rfl,hat,hb1⟩;obtain rfl:=hat.nil H1.out;have HB1:Hid (Below W.heap.size W w1):=HB.out.trans (hb1.mono HB.out.size);clear hat hb1;go_wp2;go_roundw
       case rel=>exact ⟨1,by omega,by go_num,.inr (.inl ⟨rfl,H1.out⟩),HB1.out⟩
       case measure=>simp [intOf]
     · have H1:=Lib.hid h1;have HR:Hid (bbE f h=(vrightF f).1):=Lib.hid (by unfold bbE;rw [if_pos h1]);have HQ:=Lib.hid (errV_no h1);clear h1;go_wp2_with fail
       refine (vright_any _ f _ (HF.out.below (HE.out _ HB.out)) HLF.out).mono ?_;rintro r w1 ⟨err,rfl,hat,hb1⟩;have HER:=Lib.hid (hat.isErr H1.out);obtain ⟨t,u,rfl⟩:=hat.iface H1.out;have HB1:Hid (Below W.heap.size W w1):=HB.out.trans (hb1.mono HB.out.size);clear hat hb1;go_wp2_with fail
       refine (tell_err _ _ _ (HG.out.below (HE.out _ HB1.out)) HER.out).mono ?_;rintro r w2 ⟨rfl,hb2⟩;have HB2:Hid (Below W.heap.size W w2):=HB1.out.trans (hb2.mono HB1.out.size);clear hb2;go_wp2;go_ret;exact ⟨by rw [HR.out,HQ.out];rfl,HE.out _ HB2.out⟩
   · by_cases h2:(vrightF h).1=0
     · have H2:=Lib.hid h2;have H1:=Lib.hid h1;clear h2 h1;go_wp2_with fail
       refine (vright_any _ h _ (HH.out.below (HE.out _ HB.out)) HLH.out).mono ?_;rintro r w1 ⟨err,rfl,hat,hb1⟩;obtain rfl:=hat.nil H2.out;have HB1:Hid (Below W.heap.size W w1):=HB.out.trans (hb1.mono HB.out.size);clear hat hb1;go_wp2;go_roundw
       case rel=>exact ⟨2,by omega,by go_num,.inr (.inr ⟨rfl,H1.out,H2.out⟩),HB1.out⟩
       case measure=>simp [intOf]
     · have H2:=Lib.hid h2;have HR:Hid (bbE f h=(vrightF h).1):=Lib.hid (by unfold bbE;rw [if_neg (by simpa using h1),if_pos h2]);have HQ:=Lib.hid (errV_no h2);clear h2 h1;go_wp2_with fail
       refine (vright_any _ h _ (HH.out.below (HE.out _ HB.out)) HLH.out).mono ?_;rintro r w1 ⟨err,rfl,hat,hb1⟩;have HER:=Lib.hid (hat.isErr H2.out);obtain ⟨t,u,rfl⟩:=hat.iface H2.out;have HB1:Hid (Below W.heap.size W w1):=HB.out.trans (hb1.mono HB.out.size);clear hat hb1;go_wp2_with fail
       refine (tell_err _ _ _ (HG.out.below (HE.out _ HB1.out)) HER.out).mono ?_;rintro r w2 ⟨rfl,hb2⟩;have HB2:Hid (Below W.heap.size W w2):=HB1.out.trans (hb2.mono HB1.out.size);clear hb2;go_wp2;go_ret;exact ⟨by rw [HR.out,HQ.out];rfl,HE.out _ HB2.out⟩
   · obtain ⟨c,hc⟩:∃ c,covB h f=c:=⟨_,rfl⟩;have HC:=Lib.hid hc;have HR:Hid (bbE f h=if c=false then 13 else 0):=Lib.hid (by unfold bbE;rw [if_neg (by simpa using h1),if_neg (by simpa using h2),hc]);obtain ⟨d0,d1,d2⟩:=HA.out.below HB.out HZ.out;clear h1 h2 hc;go_wp2_with fail
     refine (bcov_as _ _ h f c _ (HH.out.below (HE.out _ HB.out)) (HF.out.below (HE.out _ HB.out)) HLH.out HLF.out HC.out).mono ?_;rintro r w1 ⟨rfl,hb1⟩;have HB1:Hid (Below W.heap.size W w1):=HB.out.trans (hb1.mono HB.out.size);clear hb1 d0 d1 d2;cases c with
     | true =>
       go_wp2;go_ret;exact ⟨by rw [HR.out];rfl,HE.out _ HB1.out⟩
     | false =>
       go_wp2;go_ret;exact ⟨by rw [HR.out];rfl,HE.out _ HB1.out⟩
theorem bbounds_as (vf vh vw:Value) (f h:List Ent) (l:List Wr) (e:Nat) (w:World) (hf:IsEnts w vf f) (hh:IsEnts w vh h) (hv:IsWrs w vw l) (hlf:f.length≤9223372036854775807) (hlh:h.length≤9223372036854775807) (hg:errT w) (he:bbE f h=e) :
   Calls Tryz.prog 58 #[.agg #[vf,vh,vw]] w fun r w'=>r=.returned (errV e)∧Below w.heap.size w w':=by
 subst he;exact bbounds_any vf vh vw f h l w hf hh hv hlf hlh hg
set_option maxRecDepth 100000 in
set_option maxHeartbeats 4000000 in
theorem bright_any (vf vh vw:Value) (f h:List Ent) (l:List Wr) (w:World) (hf:IsEnts w vf f) (hh:IsEnts w vh h) (hv:IsWrs w vw l) (hlf:f.length≤9223372036854775807) (hlh:h.length≤9223372036854775807) (hok:∀ t∈l,WrOk t) (hg:errT w) :
   Calls Tryz.prog 23 #[.agg #[vf,vh,vw]] w (VRightIs w (batF f h l)):=by
 have HF:=Lib.hid hf;have HH:=Lib.hid hh;have HV:=Lib.hid hv;have HG:=Lib.hid hg;have HLF:=Lib.hid hlf;have HLH:=Lib.hid hlh;have HOK:=Lib.hid hok;obtain ⟨af,cf,rfl,_⟩:=hf.form;obtain ⟨ah,ch,rfl,_⟩:=hh.form;obtain ⟨aw,cw,rfl,_⟩:=hv.form;obtain ⟨nf,hnf⟩:∃ n,n=f.length:=⟨_,rfl⟩;obtain ⟨nh,hnh⟩:∃ n,n=h.length:=⟨_,rfl⟩;obtain ⟨n,hn⟩:∃ n,n=l.length:=⟨_,rfl⟩;rw [←hnf] at HF ⊢;rw [←hnh] at HH ⊢;rw [←hn] at HV ⊢;have HN:=Lib.hid hn;have HA:=Lib.hid (batAt_new w (.slice af nf cf) (.slice ah nh ch) (.slice aw n cw) 25);have HW0:Hid (Below w.heap.size w (w.alloc (.cells #[.slice af nf cf,.slice ah nh ch,.slice aw n cw] 25))):=Lib.hid ((Below.refl _ _).alloc (Nat.le_refl _) _);have HZ:Hid (w.heap.size<(w.alloc (.cells #[.slice af nf cf,.slice ah nh ch,.slice aw n cw] 25)).heap.size):=Lib.hid (by simp);obtain ⟨eb,heb⟩:∃ e,bbE f h=e:=⟨_,rfl⟩;have HEB:=Lib.hid heb;clear hf hh hv hg hlf hlh hnf hnh hn hok heb;go_enter Tryz.func23,Tryz.ntmps23
 go_wp2_with fail
 generalize w.alloc (.cells #[.slice af nf cf,.slice ah nh ch,.slice aw n cw] 25)=W at HA HW0 HZ ⊢;have HE:Hid (∀ w',Below W.heap.size W w'→Below w.heap.size w w'):=Lib.hid (fun w' hx=>HW0.out.trans (hx.mono HW0.out.size));refine (bbounds_as _ _ _ f h l eb _ (HF.out.below HW0.out) (HH.out.below HW0.out) (HV.out.below HW0.out) HLF.out HLH.out (HG.out.below HW0.out) HEB.out).mono ?_;rintro r w1 ⟨rfl,hb1⟩;have HB1:Hid (Below W.heap.size W w1):=Lib.hid hb1;clear hb1;by_cases h0:eb=0
 · subst h0;rw [errV_ok];obtain ⟨d0,d1,d2⟩:=HA.out.below HB1.out HZ.out;by_cases h6:60<n
   · have HR:=Lib.hid (batF_many HEB.out (show 60<l.length by rw [←HN.out];exact h6));have h6':(60:Int)<(n:Int):=by omega
     go_wp2;go_ret;rw [HR.out];exact ⟨_,rfl,.inr ⟨by decide,rfl,rfl⟩,HE.out _ HB1.out⟩
   · have HR:=Lib.hid (batF_rest (ws:=l) HEB.out (show ¬ 60<l.length by rw [←HN.out];exact h6));have h6':¬ (60:Int)<(n:Int):=by omega
     have hn6:n≤60:=by omega
     clear h6;go_wp2;clear d0 d1 d2
     go_loopw [19] (fun i wr=>∃ (k:Nat) (p:Option Wr),k≤n∧i=.int .i64 k∧((k=0∧p=none)∨∃ j q,k=j+1∧l[j]? = some q∧p=some q)∧bwr f h l 0 none=bwr f h (l.drop k) k p∧Below W.heap.size W wr) (fun i _=>n-(intOf i).toNat)
     case atStart=>exact ⟨0,none,by omega,rfl,.inl ⟨rfl,rfl⟩,rfl,HB1.out⟩
     case round =>
       obtain ⟨k,p,hk,rfl,hla,heq,hbel⟩:=hrel;have HEQ:=Lib.hid heq;have HLA:=Lib.hid hla;have HB:=Lib.hid hbel;clear heq hbel hla;by_cases hlt:k<n
       · have hkl:k<l.length:=by have:=HN.out;omega
         obtain ⟨t,ht⟩:∃ t,l[k]? = some t:=⟨l[k],List.getElem?_eq_getElem hkl⟩;have hd:l.drop k=t::l.drop (k+1):=by
           rw [List.drop_eq_getElem_cons hkl];congr 1;rw [List.getElem?_eq_getElem hkl] at ht;exact Option.some.inj ht
         have HD:=Lib.hid hd;have HT:=Lib.hid ht;obtain ⟨e,he⟩:∃ e,bwE f h p t=e:=⟨_,rfl⟩;have HEE:=Lib.hid he;obtain ⟨d0,d1,d2⟩:=HA.out.below HB.out HZ.out;clear ht hkl hd he;go_wp2_with fail
         refine (bwrong_any _ _ _ f h l k t p e _ (HF.out.below (HE.out _ HB.out)) (HH.out.below (HE.out _ HB.out)) (HV.out.below (HE.out _ HB.out)) HLF.out HLH.out (by have:=HN.out;omega) HT.out HLA.out HOK.out (HG.out.below (HE.out _ HB.out)) HEE.out).mono ?_;rintro r w2 ⟨rfl,hb2⟩;have HB2:Hid (Below W.heap.size W w2):=HB.out.trans (hb2.mono HB.out.size);clear hb2 d0 d1 d2;by_cases hz:e=0
         · subst hz;have HN2:Hid (bwr f h l 0 none=bwr f h (l.drop (k+1)) (k+1) (some t)):=Lib.hid (show bwr f h l 0 none=bwr f h (l.drop (k+1)) (k+1) (some t) by rw [HEQ.out,HD.out,bwr_good HEE.out]);go_wp2;go_roundw
           case rel=>exact ⟨k+1,some t,by omega,by go_num,.inr ⟨k,t,rfl,HT.out,rfl⟩,HN2.out,HB2.out⟩
           case measure=>simp [intOf];omega
         · have HN2:Hid (bwr f h l 0 none=(e,(k:Int))):=Lib.hid (show bwr f h l 0 none=(e,(k:Int)) by rw [HEQ.out,HD.out,bwr_bad HEE.out hz]);have hne:((e:Int) != 0)=true:=by simp;omega
           have H0:=Lib.hid hz;have hz2:=HB2.out.size;clear hz;go_wp2;go_ret;rw [HR.out,HN2.out];exact ⟨_,rfl,.inl (atIs.new w2 e k H0.out),HE.out _ (HB2.out.alloc hz2 _)⟩
       · have HN2:Hid (bwr f h l 0 none=(0,-1)):=Lib.hid (show bwr f h l 0 none=(0,-1) by rw [HEQ.out,List.drop_eq_nil_of_le (by have:=HN.out;omega)];rfl);go_wp2;go_ret;exact ⟨_,rfl,.inl (.inl ⟨HR.out.trans HN2.out,rfl⟩),HE.out _ HB.out⟩
 · have HR:=Lib.hid (batF_bb (ws:=l) HEB.out h0);have H0:=Lib.hid h0;rw [errV_no h0];clear h0;go_wp2;go_ret;rw [HR.out];exact ⟨_,rfl,.inr ⟨H0.out,rfl,rfl⟩,HE.out _ HB1.out⟩
end Go.Proofs.YtgfinhehgfbdgaaGreatDoor
namespace Go.Proofs.YtgfinhehgfbdgaaGreatDoor
open Go.RowKit
theorem rof_as (v:Value) (l:List Ent) (x y:Int) (w:World) (hv:IsEnts w v l) (hl:l.length≤9223372036854775807) (h:ofF l x=y) :
   Calls Tryz.prog 178 #[v,.int .i64 x] w fun r w'=>r=.returned (.int .i64 y)∧w=w':=by
 subst h;exact rof_any v l x w hv hl
theorem rof_q (v:Value) (l:List Ent) (x y:Int) (w:World) (n:Nat) (hv:IsEnts w v l) (hl:l.length≤9223372036854775807) (h:ofF l x=y) :
   Calls Tryz.prog 178 #[v,.int .i64 x] (w.drewN n) fun r w'=>r=.returned (.int .i64 y)∧∃ m,w'=w.drewN m :=
 (rof_as v l x y (w.drewN n) (hv.drewN n) hl h).mono fun _ _ ⟨h1,h2⟩=>⟨h1,n,h2.symm⟩
theorem rvright_as (v:Value) (l:List Ent) (e:Nat) (pl:Int) (w:World) (hv:IsEnts w v l) (hl:l.length≤9223372036854775807) (h:vrightF l=(e,pl)) :
   Calls Tryz.prog 131 #[v] w fun r w'=>r=.returned (.agg #[.int .i64 (e:Int),.int .i64 pl])∧Below w.heap.size w w' :=
 (rvright_any v l w hv hl).mono fun r w' ⟨h1,h2⟩=>⟨by rw [h1,h];rfl,h2⟩
theorem covA_dropR {a b:List Ent} {k:Nat} {t:Ent} (h:b[k]? = some t):covA a (b.drop k)=(decide (t.time≤ofF a t.rep) && covA a (b.drop (k+1))):=by
 obtain ⟨hk,ht⟩:=List.getElem?_eq_some_iff.1 h;rw [List.drop_eq_getElem_cons hk,ht];rfl
set_option maxRecDepth 100000 in
set_option maxHeartbeats 4000000 in
theorem rcov_any (va vb:Value) (a b:List Ent) (w:World) (ha:IsEnts w va a) (hb:IsEnts w vb b) (hla:a.length≤9223372036854775807) (hlb:b.length≤9223372036854775807) :
   Calls Tryz.prog 132 #[va,vb] w fun r w'=>r=.returned (.bool (covB a b))∧Below w.heap.size w w':=by
 have HVA:=Lib.hid ha;have HVB:=Lib.hid hb;have HLA:=Lib.hid hla;have HLB:Hid (b.length≤9223372036854775807):=Lib.hid hlb;obtain ⟨aa,ca,rfl,_⟩:=ha.form;obtain ⟨ab,cb,rfl,fb⟩:=hb.form;have FB:=Lib.hid fb;obtain ⟨na,hna⟩:∃ n,n=a.length:=⟨_,rfl⟩;obtain ⟨nb,hnb⟩:∃ n,n=b.length:=⟨_,rfl⟩;have HNB:=Lib.hid hnb;rw [←hna] at HVA ⊢;rw [←hnb] at HVB hlb ⊢;clear ha hb hla fb hna hnb;obtain ⟨ea,pa,hra⟩:∃ e pl,vrightF a=(e,pl):=⟨_,_,rfl⟩;obtain ⟨eb,pb,hrb⟩:∃ e pl,vrightF b=(e,pl):=⟨_,_,rfl⟩;have HRA:=Lib.hid hra;have HRB:=Lib.hid hrb;have HC:Hid (covB a b=(decide (ea=0) && decide (eb=0) && covA a b)):=Lib.hid (show covB a b=(decide (ea=0) && decide (eb=0) && covA a b) by unfold covB;rw [hra,hrb]);clear hra hrb;by_cases h1:ea=0
 · have hne:((ea:Int) == 0)=true:=by simp;exact h1
   by_cases h2:eb=0
   · have hne2:((eb:Int) == 0)=true:=by simp;exact h2
     have HC2:Hid (covB a b=(true && covA a b)):=Lib.hid (show covB a b=(true && covA a b) by rw [HC.out,decide_eq_true h1,decide_eq_true h2];rfl);clear h1 h2 HC;go_enter Tryz.func132,Tryz.ntmps132
     go_wp2_with fail
     refine (rvright_as _ a ea pa _ HVA.out HLA.out HRA.out).mono ?_;rintro r w1 ⟨rfl,hb1⟩;have HB1:=Lib.hid hb1;clear hb1;go_wp2_with fail
     refine (is_any ea pa _).mono ?_;rintro r w2 ⟨rfl,hb2⟩;rw [hne];have HB2:Hid (Below w.heap.size w w2):=HB1.out.trans (hb2.mono HB1.out.size);clear hb2;go_wp2_with fail
     refine (rvright_as _ b eb pb _ (HVB.out.below HB2.out) HLB.out HRB.out).mono ?_;rintro r w3 ⟨rfl,hb3⟩;have HB3:Hid (Below w.heap.size w w3):=HB2.out.trans (hb3.mono HB2.out.size);clear hb3;go_wp2_with fail
     refine (is_any eb pb _).mono ?_;rintro r w4 ⟨rfl,hb4⟩;rw [hne2];have HB4:Hid (Below w.heap.size w w4):=HB3.out.trans (hb4.mono HB3.out.size);clear hb4;go_wp2
     go_loopw [5,18] (fun o i wr=>∃ (k:Nat) (ok:Bool),k≤nb∧i=.int .i64 k∧o=.bool ok∧covB a b=(ok && covA a (b.drop k))∧Below w.heap.size w wr) (fun _ i _=>nb-(intOf i).toNat)
     case atStart=>exact ⟨0,true,by omega,rfl,rfl,HC2.out,HB4.out⟩
     case round =>
       obtain ⟨k,ok,hk,rfl,rfl,heq,hbel⟩:=hrel;have HEQ:=Lib.hid heq;have HB:=Lib.hid hbel;have hzr:=hbel.size;clear heq hbel;by_cases hlt:k<nb
       · obtain ⟨t, ht⟩ : ∃ t, b[k]? = some t := ⟨b[k]'(by have := HNB.out; omega), List.getElem?_eq_getElem _⟩;obtain ⟨b1,o1,rfl,hb1,p0,p1⟩:=FB.out k t ht;have hd:=covA_dropR (a:=a) ht;obtain ⟨rep,time⟩:=t;simp only at p0 p1 hd
         have q0:=(HB.out.cell (p:=⟨b1,o1+k * 2,none⟩) hb1).trans p0;have q1:=(HB.out.cell (p:=⟨b1,o1+k * 2+1,none⟩) hb1).trans p1;cases ok with
         | false =>
           have HW:Hid (covB a b=(false && covA a (b.drop (k+1)))):=HEQ;clear p0 p1 ht hd;go_wp2
           go_quiet (fail)
           go_wp2;go_roundw
           case rel=>exact ⟨k+1,false,by omega,by go_num,rfl,HW.out,below_drewN (HB.out.alloc hzr _) _⟩
           case measure=>simp [intOf];omega
         | true =>
           obtain ⟨x,hx⟩:∃ x,ofF a rep=x:=⟨_,rfl⟩;rw [hx] at hd;have HX:=Lib.hid hx;by_cases hlx:time≤x
           · have HW:Hid (covB a b=(true && covA a (b.drop (k+1)))):=Lib.hid (show covB a b=(true && covA a (b.drop (k+1))) by rw [HEQ.out,hd,decide_eq_true hlx,Bool.true_and]);clear p0 p1 ht hd hx;go_wp2
             go_quiet ((go_at_call 178;exact rof_q _ a rep x _ _ ((HVA.out.below HB.out).alloc _) HLA.out HX.out))
             go_wp2;go_roundw
             case rel=>exact ⟨k+1,true,by omega,by go_num,rfl,HW.out,below_drewN (HB.out.alloc hzr _) _⟩
             case measure=>simp [intOf];omega
           · have HW:Hid (covB a b=(false && covA a (b.drop (k+1)))):=Lib.hid (show covB a b=(false && covA a (b.drop (k+1))) by rw [HEQ.out,hd,decide_eq_false hlx];rfl);clear p0 p1 ht hd hx;go_wp2
             go_quiet ((go_at_call 178;exact rof_q _ a rep x _ _ ((HVA.out.below HB.out).alloc _) HLA.out HX.out))
             go_wp2;go_roundw
             case rel=>exact ⟨k+1,false,by omega,by go_num,by first | rfl | (congr 1;exact decide_eq_false (by omega)),HW.out,below_drewN (HB.out.alloc hzr _) _⟩
             case measure=>simp [intOf];omega
       · have HW:Hid (covB a b=ok):=Lib.hid (show covB a b=ok by rw [HEQ.out,List.drop_eq_nil_of_le (by have:=HNB.out;omega)];show (ok && true)=ok;simp);go_wp2;go_ret;exact ⟨by rw [HW.out];rfl,HB.out⟩
   · have hne2:((eb:Int) == 0)=false:=by simp;exact h2
     have HC2:Hid (covB a b=false):=Lib.hid (show covB a b=false by rw [HC.out,decide_eq_false h2];simp);clear h1 h2 HC;go_enter Tryz.func132,Tryz.ntmps132
     go_wp2_with fail
     refine (rvright_as _ a ea pa _ HVA.out HLA.out HRA.out).mono ?_;rintro r w1 ⟨rfl,hb1⟩;have HB1:=Lib.hid hb1;clear hb1;go_wp2_with fail
     refine (is_any ea pa _).mono ?_;rintro r w2 ⟨rfl,hb2⟩;rw [hne];have HB2:Hid (Below w.heap.size w w2):=HB1.out.trans (hb2.mono HB1.out.size);clear hb2;go_wp2_with fail
     refine (rvright_as _ b eb pb _ (HVB.out.below HB2.out) HLB.out HRB.out).mono ?_;rintro r w3 ⟨rfl,hb3⟩;have HB3:Hid (Below w.heap.size w w3):=HB2.out.trans (hb3.mono HB2.out.size);clear hb3;go_wp2_with fail
     refine (is_any eb pb _).mono ?_;rintro r w4 ⟨rfl,hb4⟩;rw [hne2];have HB4:Hid (Below w.heap.size w w4):=HB3.out.trans (hb4.mono HB3.out.size);clear hb4;go_wp2
     go_loopw [5,18] (fun o i wr=>∃ (k:Nat),k≤nb∧i=.int .i64 k∧o=.bool false∧Below w.heap.size w wr) (fun _ i _=>nb-(intOf i).toNat)
     case atStart=>exact ⟨0,by omega,rfl,rfl,HB4.out⟩
     case round =>
       obtain ⟨k,hk,rfl,rfl,hbel⟩:=hrel;have HB:=Lib.hid hbel;have hzr:=hbel.size;clear hbel;by_cases hlt:k<nb
       · obtain ⟨t, ht⟩ : ∃ t, b[k]? = some t := ⟨b[k]'(by have := HNB.out; omega), List.getElem?_eq_getElem _⟩;obtain ⟨b1,o1,rfl,hb1,p0,p1⟩:=FB.out k t ht;obtain ⟨rep,time⟩:=t;simp only at p0 p1
         have q0:=(HB.out.cell (p:=⟨b1,o1+k * 2,none⟩) hb1).trans p0;have q1:=(HB.out.cell (p:=⟨b1,o1+k * 2+1,none⟩) hb1).trans p1;clear p0 p1 ht;go_wp2
         go_quiet (fail)
         go_wp2;go_roundw
         case rel=>exact ⟨k+1,by omega,by go_num,rfl,below_drewN (HB.out.alloc hzr _) _⟩
         case measure=>simp [intOf];omega
       · go_wp2;go_ret;exact ⟨by rw [HC2.out];rfl,HB.out⟩
 · have hne:((ea:Int) == 0)=false:=by simp;exact h1
   have HC2:Hid (covB a b=false):=Lib.hid (show covB a b=false by rw [HC.out,decide_eq_false h1];simp);clear h1 HC;go_enter Tryz.func132,Tryz.ntmps132
   go_wp2_with fail
   refine (rvright_as _ a ea pa _ HVA.out HLA.out HRA.out).mono ?_;rintro r w1 ⟨rfl,hb1⟩;have HB1:=Lib.hid hb1;clear hb1;go_wp2_with fail
   refine (is_any ea pa _).mono ?_;rintro r w2 ⟨rfl,hb2⟩;rw [hne];have HB4:Hid (Below w.heap.size w w2):=HB1.out.trans (hb2.mono HB1.out.size);clear hb2;go_wp2
   go_loopw [5,18] (fun o i wr=>∃ (k:Nat),k≤nb∧i=.int .i64 k∧o=.bool false∧Below w.heap.size w wr) (fun _ i _=>nb-(intOf i).toNat)
   case atStart=>exact ⟨0,by omega,rfl,rfl,HB4.out⟩
   case round =>
     obtain ⟨k,hk,rfl,rfl,hbel⟩:=hrel;have HB:=Lib.hid hbel;have hzr:=hbel.size;clear hbel;by_cases hlt:k<nb
     · obtain ⟨t, ht⟩ : ∃ t, b[k]? = some t := ⟨b[k]'(by have := HNB.out; omega), List.getElem?_eq_getElem _⟩;obtain ⟨b1,o1,rfl,hb1,p0,p1⟩:=FB.out k t ht;obtain ⟨rep,time⟩:=t;simp only at p0 p1
       have q0:=(HB.out.cell (p:=⟨b1,o1+k * 2,none⟩) hb1).trans p0;have q1:=(HB.out.cell (p:=⟨b1,o1+k * 2+1,none⟩) hb1).trans p1;clear p0 p1 ht;go_wp2
       go_quiet (fail)
       go_wp2;go_roundw
       case rel=>exact ⟨k+1,by omega,by go_num,rfl,below_drewN (HB.out.alloc hzr _) _⟩
       case measure=>simp [intOf];omega
     · go_wp2;go_ret;exact ⟨by rw [HC2.out];rfl,HB.out⟩
end Go.Proofs.YtgfinhehgfbdgaaGreatDoor
namespace Go.Proofs.YtgfinhehgfbdgaaGreatDoor
open Go.RowKit
theorem late_time {q x:Wr} (h:late q x):q.time≤x.time:=by
 unfold late cI orF cmpF wid at h;simp only at h
 split at h <;> split at h <;> simp_all <;> omega
theorem wE_facts {x:Wr} (h:wE x=0):1≤x.kind∧x.kind≤4∧1≤x.time∧x.time≤1099511627776∧0≤x.rep∧x.rep≤200∧x.key.size≤40∧x.value.size≤300∧(tailL x).length≤320∧WrOk x:=by
 obtain ⟨h1,h2,h3,h4,h5,h6⟩:=wriE_good h;unfold idOk at h2;have h2:=of_decide_eq_true h2;have hn:=numB_size h6;have hs:=spanB_le h4;have hv:(valB x.kind x.value).size≤310:=by unfold valB;split <;> first | exact hs | exact Nat.zero_le _
 have ht:(tailL x).length≤320:=by unfold tailL;rw [←size_data,back_t];omega
 have hN : -9223372036854775808≤x.n∧x.n≤9223372036854775807:=by
   unfold fitsN at h6;by_cases k3:x.kind=3
   · rw [if_pos k3] at h6;simp only [Bool.and_eq_true,decide_eq_true_eq] at h6;omega
   · rw [if_neg k3] at h6;by_cases k4:x.kind=4
     · rw [if_pos k4] at h6;simp only [Bool.and_eq_true,decide_eq_true_eq] at h6;omega
     · have : x.n = 0 := by
         by_cases hN:x.n=0
         · exact hN
         · exact absurd (.inr ⟨hN,by unfold hasN;rw [decide_eq_false k3,decide_eq_false k4];rfl⟩) h5
       omega
 exact ⟨by omega,by omega,h2.1,h2.2.1,h2.2.2.1,h2.2.2.2,h3,h4,ht,hN.1,hN.2,by omega,by omega⟩
theorem place_bound {h:List Ent} {r:Int} {e:Ent} (he:e∈h) (hr:e.rep=r):placeF h r<h.length:=List.findIdx_lt_length_of_exists ⟨e,he,by simpa using hr⟩
def okRow (h:List Ent) (T:List ByteArray):Int→List Wr→List Nat→Prop
 | _,[],N=>N=[]
 | _,_::_,[]=>False
 | ahead,x::r,n::N=>(wE x=0∧ahead≤x.time∧placeF h x.rep<h.length∧T[n]? = some x.key)∧okRow h T x.time r N
theorem okRow_of (h:List Ent) (l:List Wr):∀ (T0:List ByteArray) (ahead:Int),(∀ x∈l,wE x=0∧ahead≤x.time∧placeF h x.rep<h.length)→l.Pairwise late→okRow h (tabK T0 (keysW l)) ahead l (atK T0 (keysW l)):=by
 induction l with
 | nil=>intro T0 ahead _ _;rfl
 | cons x r ih =>
   intro T0 ahead hx hp;rw [List.pairwise_cons] at hp;obtain ⟨h1,h2,h3⟩:=hx x List.mem_cons_self;refine ⟨⟨h1,h2,h3,?_⟩,ih (addK T0 x.key) x.time (fun y hy=>⟨(hx y (List.mem_cons_of_mem _ hy)).1,late_time (hp.1 y hy),(hx y (List.mem_cons_of_mem _ hy)).2.2⟩) hp.2⟩;have hpre:addK T0 x.key <+: tabK T0 (keysW (x::r)):=tabK_pre (keysW r) (addK T0 x.key);have hat:(addK T0 x.key)[idxB T0 x.key]? = some x.key:=by
     by_cases hm:x.key∈T0
     · rw [addK_in hm];exact idxB_get hm
     · rw [addK_new hm,idxB_new hm];simp
   obtain ⟨t,ht⟩:=hpre;rw [←ht,List.getElem?_append_left (List.getElem?_eq_some_iff.1 hat).1];exact hat
theorem right_okRow {f h:List Ent} {l:List Wr} (hr:rightB f h l):okRow h (tabK [] (keysW l)) 0 l (atK [] (keysW l)):=by
 rw [rightB_iff] at hr;obtain ⟨⟨g1,g2,g3⟩,g4,g5,g6⟩:=hr;refine okRow_of h l [] 0 (fun x hx=>?_) g6;obtain ⟨h1,h2⟩:=g5 x hx;have hf:=wE_facts h1;refine ⟨h1,by omega,?_⟩;unfold wiF wid at h2;simp only [Bool.and_eq_true,decide_eq_true_eq] at h2
 obtain ⟨e,he,h3,_⟩:=ofF_has (l:=h) (x:=x.rep) (by omega);exact place_bound he h3
theorem okRow_len {h:List Ent} {T:List ByteArray} (l:List Wr):∀ (ahead:Int) (N:List Nat),okRow h T ahead l N→N.length=l.length:=by
 induction l with
 | nil=>intro ahead N hN;have hN:N=[]:=hN;rw [hN];rfl
 | cons x r ih =>
   intro ahead N hN;cases N with
   | nil=>exact absurd hN id
   | cons n N=>rw [List.length_cons,List.length_cons,ih _ _ hN.2]
theorem oneB_len {h:List Ent} {ahead:Int} {x:Wr} {n:Nat} (hw:wE x=0) (hp:placeF h x.rep≤1000) (h0:0≤ahead) (hn:n≤1000):(oneB h ahead x n).length≤351:=by
 have hf:=wE_facts hw;have h1:=putL_le10 (n:=(x.time-ahead).toNat) (by omega);have h2:=putL_le10 (n:=placeF h x.rep) (by omega);have h3:=putL_le10 (n:=n) (by omega);unfold oneB;simp only [List.length_append,List.length_cons,List.length_nil]
 omega
theorem rowB_len {h:List Ent} {T:List ByteArray} (hh:h.length≤1000) (hT:T.length≤1000) (l:List Wr):∀ (ahead:Int) (N:List Nat),0≤ahead→okRow h T ahead l N→(rowB h ahead l N).length≤l.length * 351:=by
 induction l with
 | nil=>intro ahead N _ _;simp [rowB]
 | cons x r ih =>
   intro ahead N h0 hN;cases N with
   | nil=>exact absurd hN id
   | cons n N =>
     obtain ⟨⟨h1,h2,h3,h4⟩,h5⟩:=hN;have hf:=wE_facts h1;have hn:n<T.length:=(List.getElem?_eq_some_iff.1 h4).1;have:=oneB_len (n:=n) h1 (show placeF h x.rep≤1000 by omega) h0 (by omega);have:=ih x.time N (by omega) h5;rw [rowB_cons,List.length_append,List.length_cons];omega
theorem textsB_len {T:List ByteArray} (h:∀ k∈T,k.size≤40):(textsB T).length≤T.length * 50:=by
 induction T with
 | nil=>simp [textsB]
 | cons k T ih =>
   have h1:=h k List.mem_cons_self;have h2:=ih fun y hy=>h y (List.mem_cons_of_mem _ hy)
   have h3:=putL_le10 (n:=k.data.toList.length) (by rw [←size_data];omega);rw [textsB_cons,List.length_append,List.length_cons];unfold spanL;rw [List.length_append,←size_data];rw [←size_data] at h3;omega
theorem tab_keys {l:List Wr} {k:ByteArray} (hk:k∈tabK [] (keysW l)):∃ x∈l,x.key=k:=by
 rcases tabK_sub _ _ _ hk with h | h
 · cases h
 · exact List.mem_map.1 h
theorem tab_small {f h:List Ent} {l:List Wr} (hr:rightB f h l):(∀ k∈tabK [] (keysW l),k.size≤40)∧(tabK [] (keysW l)).length≤60:=by
 rw [rightB_iff] at hr;refine ⟨fun k hk=>?_,?_⟩
 · obtain ⟨x,hx,rfl⟩:=tab_keys hk;have:=wE_facts (hr.2.2.1 x hx).1;omega
 · have:=tabK_len (keysW l) [];unfold keysW at this ⊢;rw [List.length_map] at this;have:=hr.2.1;simp at *
   omega
theorem vwriteF_right {l:List Ent} (h:rightV l):vwriteF l=vwriteL l:=by unfold vwriteF;rw [if_pos ((vright_ok l).2 h)]
theorem drop_put {s:List UInt8} {a k:Nat} {p:List UInt8} (hp:p=(s.drop a).take k):s.drop a=p++s.drop (a+k):=by
 rw [hp,←List.drop_drop];exact (List.take_append_drop _ _).symm
theorem kindF_cons (c:UInt8) (r:List UInt8):kindF (c::r)=if c.toNat<1∨4<c.toNat then (0,0,1) else (c.toNat,1,0):=rfl
end Go.Proofs.YtgfinhehgfbdgaaGreatDoor
namespace Go.Proofs.YtgfinhehgfbdgaaGreatDoor
open Go.RowKit
theorem intL_time {l:List UInt8} {ahead:Int} (h0:0≤ahead) (h1:ahead≤1099511627776) {t k e:Nat} (h:intL l (1099511627776-ahead)=(t,k,e)) :
   (e=0∧intL l 1099511627776=(t,k,0)∧ahead+(t:Int)≤1099511627776) ∨
   (e≠0∧(∃ t' k',intL l 1099511627776=(t',k',e))∨(e=2∧∃ t' k',intL l 1099511627776=(t',k',0)∧1099511627776<ahead+(t':Int))):=by
 rcases getL_cases l with ⟨d,hg,hd⟩ | ⟨n,j,hg,_,_,_,_⟩
 · rw [intL_bad hg hd] at h;injection h with h2 h3
   injection h3 with h3 h4
   subst h2 h3 h4;exact .inr (.inl ⟨hd,_,_,intL_bad hg hd⟩)
 · by_cases hm:(1099511627776:Int)<(n:Int)
   · rw [intL_range hg (by omega)] at h;injection h with h2 h3
     injection h3 with h3 h4
     subst h2 h3 h4;exact .inr (.inl ⟨by decide,_,_,intL_range hg (by omega)⟩)
   · by_cases hm2:1099511627776-ahead<(n:Int)
     · rw [intL_range hg (by omega)] at h;injection h with h2 h3
       injection h3 with h3 h4
       subst h2 h3 h4;exact .inr (.inr ⟨rfl,_,_,intL_ok hg (by omega),by omega⟩)
     · rw [intL_ok hg (by omega)] at h;injection h with h2 h3
       injection h3 with h3 h4
       subst h2 h3 h4;exact .inl ⟨rfl,intL_ok hg (by omega),by omega⟩
end Go.Proofs.YtgfinhehgfbdgaaGreatDoor
namespace Go.Proofs.YtgfinhehgfbdgaaGreatDoor
open Go.RowKit
set_option maxRecDepth 100000 in
theorem bthrow_nil (w:World):Calls Tryz.prog 109 #[.nilIface] w fun e w'=>e=.returned (.tuple #[])∧w=w':=by
 go_enter Tryz.func109,Tryz.ntmps109
 go_wp2
 go_end0
 exact ⟨rfl,rfl⟩
set_option maxRecDepth 100000 in
theorem bthrow_err (t:TypeId) (v:Value) (w:World):Calls Tryz.prog 109 #[.iface t v] w fun e w'=>e=.panicked [{ v:=.iface t v,recovered:=false }]∧w'=w:=by
 go_enter Tryz.func109,Tryz.ntmps109
 go_wp2;exact ⟨rfl,rfl,rfl⟩
set_option maxRecDepth 100000 in
theorem wtext_any (B b:Nat) (l:List UInt8) (s:ByteArray) (w:World) (h:isBldW w B b l) (hl:l.length≤1000000) (hs:s.size≤1000000) (hBw:B≤w.heap.size) :
   Calls Tryz.prog 110 #[.pointer (some ⟨b,0,none⟩),.string s,.nilIface] w fun e w'=>e=.returned (.tuple #[])∧isBldW w' B b (l++s.data.toList)∧Below B w w'∧NonB b w w':=by
 have H:=Lib.hid h;clear h;go_enter Tryz.func110,Tryz.ntmps110
 go_wp2_with fail
 refine (bthrow_nil _).mono ?_;rintro r w1 ⟨rfl,rfl⟩;go_wp2_with fail
 refine (wbld_write B b l s _ H.out (by omega) hBw).mono ?_;rintro r w2 ⟨rfl,hbl,hb2,hn2⟩;have H2:=Lib.hid hbl;have HB2:=Lib.hid hb2;have HN2:=Lib.hid hn2;clear hbl hb2 hn2;go_wp2
 go_end0
 exact ⟨rfl,H2.out,HB2.out,HN2.out⟩
set_option maxRecDepth 100000 in
set_option maxHeartbeats 2000000 in
theorem wnum2_any (B b n:Nat) (l:List UInt8) (w:World) (h:isBldW w B b l) (hn:n≤1099511627776) (hl:l.length≤1000000) (hBw:B≤w.heap.size) :
   Calls Tryz.prog 114 #[.pointer (some ⟨b,0,none⟩),.int .i64 (n:Int)] w fun e w'=>e=.returned (.tuple #[])∧isBldW w' B b (l++putL n)∧Below B w w'∧NonB b w w':=by
 have H:=Lib.hid h;have hp:=putL_le10 (n:=n) (by omega);have hk:IntKind.u64.wrap (n:Int)=(n:Int):=IntWalk.u64_in _ (by omega);obtain ⟨P,hP⟩:∃ P:ByteArray,⟨(putL n).toArray⟩=P:=⟨_,rfl⟩;have hPd:putL n=P.data.toList:=by rw [←hP]
 have hPs:P.size≤10:=by rw [←hP,bs_size];exact hp
 have HPD:=Lib.hid hPd;have HP:=Lib.hid hP;rw [hPd];clear h hp hP hPd;go_enter Tryz.func114,Tryz.ntmps114
 go_wp2;go_region_held3 (fun w'=>True) (trivial) (first
   | (go_at_call 68;((with_reducible refine (put_nat n _ (by omega)).mono ?_);rintro r w1 ⟨rfl,hb1⟩;rw [HP.out];have HB1:Hid (Below w.heap.size w w1):=Lib.hid (undrew3 hb1);clear hb1))
   | (go_at_call 122;((with_reducible refine (wbld_write B b l P w1 (H.out.below HB1.out) (by omega) (by have:=HB1.out.size;omega)).mono ?_);rintro r w2 ⟨rfl,hbl,hb2,hn2⟩;have H2:=Lib.hid hbl;have HB2:=Lib.hid ((HB1.out.mono hBw).trans hb2);have HN2:=Lib.hid ((NonB.of (b:=b) HB1.out).trans hn2 HB1.out.size);clear hbl hb2 hn2))
   | fail)
 go_wp2
 go_end0
 exact ⟨rfl,H2.out,HB2.out,HN2.out⟩
set_option maxRecDepth 100000 in
set_option maxHeartbeats 4000000 in
theorem keysOf_any (v:Value) (l:List Wr) (w:World) (hv:IsWrs w v l) (hl:l.length≤1000000) :
   Calls Tryz.prog 113 #[v] w fun e w'=>∃ u,e=.returned u∧ownsS w' w.heap.size u (keysW l)∧Below w.heap.size w w':=by
 obtain ⟨a1,c1,rfl,f1⟩:=hv.form;have F1:=Lib.hid f1;obtain ⟨n,hn⟩:∃ n,n=l.length:=⟨_,rfl⟩;rw [←hn] at hl ⊢;have HN:=Lib.hid hn;clear f1 hn hv;go_enter Tryz.func113,Tryz.ntmps113
 go_wp2
 go_loopw [3,8] (fun x i wr=>∃ k:Nat,k≤n∧i=.int .i64 k∧ownsS wr w.heap.size x ((keysW l).take k)∧Below w.heap.size w wr) (fun _ i _=>n-(intOf i).toNat)
 case atStart=>exact ⟨0,Nat.zero_le _,rfl,ownsS_nil _ _,Below.refl _ _⟩
 case round =>
   obtain ⟨k,hk,rfl,hos,hbel⟩:=hrel;have HO:=Lib.hid hos;have HB:=Lib.hid hbel;obtain ⟨ad,cp,rfl,hcp,g1⟩:=hos.isTexts;have hkl:((keysW l).take k).length=k:=by rw [List.length_take];have:=HN.out;unfold keysW;rw [List.length_map];omega
   have HKL:=Lib.hid hkl;rw [hkl] at HO hcp;rw [hkl];clear hos hbel hkl g1 hcp;by_cases hlt:k<n
   · obtain ⟨x, hx⟩ : ∃ x, l[k]? = some x := ⟨l[k]'(by have := HN.out; omega), List.getElem?_eq_getElem _⟩;obtain ⟨b1,o1,rfl,hb1,p0,p1,p2,p3,p4,p5⟩:=F1.out k x hx;have q0:=(HB.out.cell (p:=⟨b1,o1+k * 6,none⟩) hb1).trans p0;have q1:=(HB.out.cell (p:=⟨b1,o1+k * 6+1,none⟩) hb1).trans p1;have q2:=(HB.out.cell (p:=⟨b1,o1+k * 6+2,none⟩) hb1).trans p2;have q3:=(HB.out.cell (p:=⟨b1,o1+k * 6+3,none⟩) hb1).trans p3;have q4:=(HB.out.cell (p:=⟨b1,o1+k * 6+4,none⟩) hb1).trans p4;have q5:=(HB.out.cell (p:=⟨b1,o1+k * 6+5,none⟩) hb1).trans p5;have HTK:Hid ((keysW l).take k++[x.key]=(keysW l).take (k+1)):=Lib.hid (show _=_ by
       have h2:(keysW l)[k]? = some x.key:=by unfold keysW;rw [List.getElem?_map,hx];rfl
       obtain ⟨hk2,e⟩:=List.getElem?_eq_some_iff.1 h2;rw [←e,List.take_append_getElem hk2])
     obtain ⟨T,R,K,key,val,N⟩:=x;dsimp only at q0 q1 q2 q3 q4 q5 HTK
     clear p0 p1 p2 p3 p4 p5 hx;obtain ⟨L,hL⟩:∃ L,(keysW l).take k=L:=⟨_,rfl⟩;rw [hL] at HO HKL HTK;clear hL;go_wp2_with (at_builtin;refine wpList_append_str rfl _ _ rfl w.heap.size _ L rfl ((HO.out.alloc _).alloc _) ⟨wr.heap.size+1,0,none⟩ 1 rfl key (by simp [Addr.add]) (by have:=HKL.out;omega) (by have:=HB.out.size;simp;omega) ?_)
     intro g cap w4 ho4 hg4;rw [HTK.out] at ho4;have HO4:=Lib.hid ho4;have HB4:Hid (Below w.heap.size w w4):=Lib.hid (((HB.out.alloc HB.out.size _).alloc (by have:=HB.out.size;simp;omega) _).grown hg4 (by have:=HB.out.size;simp;omega) (fun g hg=>(HO.out.lt g hg).1));have HKL1:Hid (L.length+1=k+1):=Lib.hid (by rw [HKL.out]);rw [HKL1.out] at HO4 ⊢;clear ho4 hg4;go_wp2;go_roundw
     case rel=>exact ⟨k+1,by omega,by go_num,HO4.out,HB4.out⟩
     case measure=>simp [intOf];omega
   · have HT:Hid ((keysW l).take k=keysW l):=Lib.hid (List.take_of_length_le (by unfold keysW;rw [List.length_map];have:=HN.out;omega));go_wp2;go_ret;rw [HT.out] at HO;exact ⟨_,rfl,HO.out,HB.out⟩
end Go.Proofs.YtgfinhehgfbdgaaGreatDoor
namespace Go.Proofs.YtgfinhehgfbdgaaGreatDoor
open Go.RowKit
theorem vread_cases (s:List UInt8):(∃ e,vreadF s=(e,0,[])∧e≠0)∨∃ n l,vreadF s=(0,n,l):=by
 rcases intL_cases s 16 with ⟨e,hi,he,_⟩ | ⟨R,j,hi,_⟩
 · exact .inl ⟨e,vread_few hi he,he⟩
 · match hr:rdA R (s.drop j) j 0 [] with
   | .inl e =>
     refine .inl ⟨e,vread_bad hi hr,?_⟩;have:∀ (k:Nat) (s:List UInt8) (used:Nat) (least:Int) (acc:List Ent),rdA k s used least acc=.inl e→e≠0:=by
       intro k
       induction k with
       | zero=>intro s used least acc h;cases h
       | succ k ih =>
         intro s used least acc h
         match hg:getR s 0 least [] with
         | .inl e'=>rw [rdA_bad hg] at h;injection h with h;subst h;exact getR_err hg
         | .inr (run,j)=>rw [rdA_ok hg] at h;exact ih _ _ _ _ h
     exact this _ _ _ _ _ hr
   | .inr (l,n) =>
     by_cases h0:(vrightF l).1=0
     · exact .inr ⟨n,l,vread_ok hi hr h0⟩
     · exact .inl ⟨_,vread_wrong hi hr h0,h0⟩
end Go.Proofs.YtgfinhehgfbdgaaGreatDoor
namespace Go.Proofs.YtgfinhehgfbdgaaGreatDoor
open Go.RowKit
def Sc (w:World) (S:Nat) (s:ByteArray) (a:Nat):Prop:=w.heap[S]? = some (.cells #[.string s,.int .i64 (a:Int)] 122 (0,0))
theorem Sc.cells {w:World} {S:Nat} {s:ByteArray} {a:Nat} (h:Sc w S s a):w.cell? ⟨S,0,none⟩=some (.string s)∧w.cell? ⟨S,1,none⟩=some (.int .i64 (a:Int))∧w.frozen? ⟨S,1,none⟩=false∧S<w.heap.size:=by
 refine ⟨cell_of_row _ _ 0 _ _ (0,0) h,cell_of_row _ _ 1 _ _ (0,0) h,Lib.frozen_of_heap h 1,?_⟩;exact (Array.getElem?_eq_some_iff.1 h).1
theorem Sc.kept {w w':World} {S:Nat} {s:ByteArray} {a:Nat} {row:Option Nat} (h:Sc w S s a) (hg:w.grownBy w' row) (hne:row≠some S):Sc w' S s a:=(hg.block S h.cells.2.2.2 (fun e=>hne e.symm)).trans h
theorem Sc.moved {w:World} {S:Nat} {s:ByteArray} {a b:Nat} (h:Sc w S s a):Sc (w.setCell ⟨S,1,none⟩ (.int .i64 (b:Int))) S s b:=by
 unfold Sc at h ⊢;simp [World.setCell,Array.getElem?_modify,h]
theorem grown_drewN (w:World) (n:Nat) (row:Option Nat):w.grownBy (w.drewN n) row:=⟨rfl,rfl,rfl,Nat.le_refl _,fun _ _ _=>rfl⟩
theorem grown_setS {w w1:World} {S:Nat} (h:w.grownBy w1 (some S)) (v:Value):w.grownBy (w1.setCell ⟨S,1,none⟩ v) (some S) :=
 ⟨h.os,h.tape,h.output,by simpa using h.size,fun k hk hne=>by
   have hk2:S≠k:=fun e=>hne (by rw [e])
   simp only [World.setCell,Array.getElem?_modify,if_neg hk2]
   exact h.block k hk hne⟩
theorem rint_q (s:ByteArray) (most:Int) (V:Value) (w:World) (m:Nat) (hs:s.size≤maxLen) (h0 : -9223372036854775808≤most) (h1:most≤9223372036854775807) (hV:intR (intL s.data.toList most)=V) :
   Calls Tryz.prog 45 #[.string s,.int .i64 most] (w.drewN m) fun r w'=>r=.returned V∧∃ q,w'=w.drewN q :=
 (rint_any s most (w.drewN m) hs h0 h1).mono fun _ _ ⟨h2,h3⟩=>⟨by rw [h2,hV],m,h3.symm⟩
set_option maxRecDepth 100000 in
theorem next_ok (S:Nat) (s:ByteArray) (a n k:Nat) (most:Int) (w:World) (h:Sc w S s a) (hs:s.size≤1000000) (ha:a≤s.size) (hm0:0≤most) (hm:most≤1099511627776) (hg:intL (s.data.toList.drop a) most=(n,k,0)) (hk:k≤10) :
   Calls Tryz.prog 91 #[.pointer (some ⟨S,0,none⟩),.int .i64 most] w fun e w'=>e=.returned (.int .i64 (n:Int))∧Sc w' S s (a+k)∧w.grownBy w' (some S):=by
 obtain ⟨c0,c1,z1,hS⟩:=h.cells;have H:=Lib.hid h;have HM:Hid ((s.extract a s.size).size≤maxLen):=Lib.hid (show (s.extract a s.size).size≤maxLen by rw [ByteArray.size_extract];unfold maxLen;omega);have HGL:Hid (intR (intL (s.extract a s.size).data.toList most)=.tuple #[.int .i64 (n:Int),.int .i64 (k:Int),.int .i64 0]):=Lib.hid (show intR (intL (s.extract a s.size).data.toList most)=.tuple #[.int .i64 (n:Int),.int .i64 (k:Int),.int .i64 0] by rw [ext_dropV,hg];rfl);have d3:(0:Int)≤(a:Int):=by omega
 have d4:(a:Int)≤(s.size:Int):=by omega
 have kw:IntKind.i64.wrap ((a:Int)+(k:Int))=(a:Int)+(k:Int):=IntWalk.i64_in _ (by omega);clear h hg;go_enter Tryz.func91,Tryz.ntmps91
 go_wp2
 go_quiet ((go_at_call 45;with_reducible exact rint_q (s.extract a s.size) most _ _ _ HM.out (by omega) (by omega) HGL.out))
 go_wp2;go_ret;have e:(a:Int)+(k:Int)=((a+k:Nat):Int):=by simp
 rw [e];refine ⟨rfl,Sc.moved (H.out.kept (grown_drewN w _ none) (by simp)),?_⟩;exact grown_setS (grown_drewN w _ _) _
set_option maxRecDepth 100000 in
theorem next_bad (S:Nat) (s:ByteArray) (a x:Nat) (most:Int) (w:World) (h:Sc w S s a) (hs:s.size≤1000000) (ha:a≤s.size) (hm0:0≤most) (hm:most≤1099511627776) (hg:intL (s.data.toList.drop a) most=(0,0,x)) (hx:x≠0) :
   Calls Tryz.prog 91 #[.pointer (some ⟨S,0,none⟩),.int .i64 most] w fun e w'=>e=.panicked [{ v:=.iface 190 (.agg #[.int .i64 (x:Int),.int .i64 (a:Int)]),recovered:=false }]∧w.grownBy w' (some S):=by
 obtain ⟨c0,c1,z1,hS⟩:=h.cells;have H:=Lib.hid h;have HM:Hid ((s.extract a s.size).size≤maxLen):=Lib.hid (show (s.extract a s.size).size≤maxLen by rw [ByteArray.size_extract];unfold maxLen;omega);have HGL:Hid (intR (intL (s.extract a s.size).data.toList most)=.tuple #[.int .i64 0,.int .i64 0,.int .i64 (x:Int)]):=Lib.hid (show intR (intL (s.extract a s.size).data.toList most)=.tuple #[.int .i64 0,.int .i64 0,.int .i64 (x:Int)] by rw [ext_dropV,hg];rfl);have d3:(0:Int)≤(a:Int):=by omega
 have d4:(a:Int)≤(s.size:Int):=by omega
 have hne:((x:Int) != 0)=true:=by simp;omega
 clear h hg hx;go_enter Tryz.func91,Tryz.ntmps91
 go_wp2
 go_quiet ((go_at_call 45;with_reducible exact rint_q (s.extract a s.size) most _ _ _ HM.out (by omega) (by omega) HGL.out))
 go_wp2_with fail
 refine (throw_any x (a:Int) _).mono ?_;rintro r w' ⟨rfl,rfl⟩
 first
   | exact ⟨rfl,rfl,grown_drewN w _ _⟩
   | (show bodyPost _ _ _ _ _ _;exact ⟨rfl,rfl,grown_drewN w _ _⟩)
   | exact (show (_∧_∧_) from ⟨rfl,rfl,grown_drewN w _ _⟩)
   | (refine And.intro rfl (And.intro rfl ?_);exact grown_drewN w _ _)
   | (refine And.intro rfl ?_;exact grown_drewN w _ _)
theorem grown_on {w w1 w2:World} {S:Nat} {row:Option Nat} (h:w.grownBy w1 (some S)) (h2:w1.grownBy w2 row) (hr:∀ k,row=some k→k=S∨w.heap.size≤k):w.grownBy w2 (some S):=by
 refine ⟨h2.os.trans h.os,h2.tape.trans h.tape,h2.output.trans h.output,Nat.le_trans h.size h2.size,fun k hk hne=>?_⟩;rw [h2.block k (Nat.lt_of_lt_of_le hk h.size) (fun e=>by
   rcases hr k e.symm with rfl | h
   · exact hne rfl
   · omega)]
 exact h.block k hk hne
end Go.Proofs.YtgfinhehgfbdgaaGreatDoor
