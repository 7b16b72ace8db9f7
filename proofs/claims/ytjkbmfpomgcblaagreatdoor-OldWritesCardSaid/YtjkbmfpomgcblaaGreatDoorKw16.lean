import Derived.Test.YtjkbmfpomgcblaaGreatDoorKw14
import Derived.WalkLawsBesides
namespace Go.Proofs.YtjkbmfpomgcblaaGreatDoor
open Go.RowKit
theorem idxB_0 (x y:Value) (w:World):(Instr.index 183 (.agg #[x,y]) (.int .i64 0)).run Tryz.prog w=.ok x w:=by kernel_rfl
theorem idxB_1 (x y:Value) (w:World):(Instr.index 183 (.agg #[x,y]) (.int .i64 1)).run Tryz.prog w=.ok y w:=by kernel_rfl
theorem bcov_as (va vb:Value) (a b:List Ent) (x:Bool) (w:World) (ha:IsEnts w va a) (hb:IsEnts w vb b) (hla:a.length≤9223372036854775807) (hlb:b.length≤9223372036854775807) (hx:covB a b=x) :
   Calls Tryz.prog 144 #[va,vb] w fun r w'=>r=.returned (.bool x)∧Below w.heap.size w w':=by
 subst hx;exact vcov_any va vb a b w ha hb hla hlb
set_option maxRecDepth 100000 in
set_option maxHeartbeats 4000000 in
theorem bbounds_any (vf vh vw:Value) (f h:List Ent) (l:List Wr) (w:World) (hf:IsEnts w vf f) (hh:IsEnts w vh h) (hv:IsWrs w vw l) (hlf:f.length≤9223372036854775807) (hlh:h.length≤9223372036854775807) (hg:errT w) :
   Calls Tryz.prog 90 #[.agg #[vf,vh,vw]] w fun r w'=>r=.returned (errV (bbE f h))∧Below w.heap.size w w':=by
 have HF:=Lib.hid hf
 have HH:=Lib.hid hh
 have HG:=Lib.hid hg
 have HLF:=Lib.hid hlf
 have HLH:=Lib.hid hlh
 obtain ⟨af,cf,rfl,_⟩:=hf.form
 obtain ⟨ah,ch,rfl,_⟩:=hh.form
 obtain ⟨aw,cw,rfl,_⟩:=hv.form
 obtain ⟨nf,hnf⟩:∃ n,n=f.length:=⟨_,rfl⟩
 obtain ⟨nh,hnh⟩:∃ n,n=h.length:=⟨_,rfl⟩
 obtain ⟨n,hn⟩:∃ n,n=l.length:=⟨_,rfl⟩
 rw [←hnf] at HF ⊢
 rw [←hnh] at HH ⊢
 rw [←hn]
 have HA:=Lib.hid (batAt_new w (.slice af nf cf) (.slice ah nh ch) (.slice aw n cw) 25)
 have HW0:Hid (Below w.heap.size w (w.alloc (.cells #[.slice af nf cf,.slice ah nh ch,.slice aw n cw] 25))):=Lib.hid ((Below.refl _ _).alloc (Nat.le_refl _) _)
 have HZ:Hid (w.heap.size < (w.alloc (.cells #[.slice af nf cf,.slice ah nh ch,.slice aw n cw] 25)).heap.size):=Lib.hid (by simp)
 have i0:=idxB_0
 have i1:=idxB_1
 clear hf hh hv hg hlf hlh hnf hnh hn
 go_enter Tryz.func90,Tryz.ntmps90
 go_wp2
 generalize w.alloc (.cells #[.slice af nf cf,.slice ah nh ch,.slice aw n cw] 25)=W at HA HW0 HZ ⊢
 have HE:Hid (∀ w',Below W.heap.size W w'→Below w.heap.size w w'):=Lib.hid (fun w' hx=>HW0.out.trans (hx.mono HW0.out.size))
 go_loopw [11] (fun i wr=>∃ k:Nat,k≤2∧i=.int .i64 k∧(k=0∨(k=1∧(vrightF f).1=0)∨(k=2∧(vrightF f).1=0∧(vrightF h).1=0))∧Below W.heap.size W wr) (fun i _=>2 - (intOf i).toNat)
 case atStart=>exact ⟨0,by omega,rfl,.inl rfl,Below.refl _ _⟩
 case round =>
   obtain ⟨k,hk,rfl,hj,hbel⟩:=hrel
   have HB:=Lib.hid hbel
   clear hbel
   rcases hj with rfl | ⟨rfl,h1⟩ | ⟨rfl,h1,h2⟩
   · by_cases h1:(vrightF f).1=0
     · have H1:=Lib.hid h1
       clear h1
       go_wp2_with fail
       refine (vright_any _ f _ (HF.out.below (HE.out _ HB.out)) HLF.out).mono ?_
       rintro r w1 ⟨err,rfl,hat,hb1⟩
       obtain rfl:=hat.nil H1.out
       have HB1:Hid (Below W.heap.size W w1):=HB.out.trans (hb1.mono HB.out.size)
       clear hat hb1
       go_wp2
       go_roundw
       case rel=>exact ⟨1,by omega,by go_num,.inr (.inl ⟨rfl,H1.out⟩),HB1.out⟩
       case measure=>simp [intOf]
     · have H1:=Lib.hid h1
       have HR:Hid (bbE f h=(vrightF f).1):=Lib.hid (by unfold bbE;rw [if_pos h1])
       have HQ:=Lib.hid (errV_no h1)
       clear h1
       go_wp2_with fail
       refine (vright_any _ f _ (HF.out.below (HE.out _ HB.out)) HLF.out).mono ?_
       rintro r w1 ⟨err,rfl,hat,hb1⟩
       have HER:=Lib.hid (hat.isErr H1.out)
       obtain ⟨t,u,rfl⟩:=hat.iface H1.out
       have HB1:Hid (Below W.heap.size W w1):=HB.out.trans (hb1.mono HB.out.size)
       clear hat hb1
       go_wp2_with fail
       refine (tell_err _ _ _ (HG.out.below (HE.out _ HB1.out)) HER.out).mono ?_
       rintro r w2 ⟨rfl,hb2⟩
       have HB2:Hid (Below W.heap.size W w2):=HB1.out.trans (hb2.mono HB1.out.size)
       clear hb2
       go_wp2
       go_ret
       exact ⟨by rw [HR.out,HQ.out];rfl,HE.out _ HB2.out⟩
   · by_cases h2:(vrightF h).1=0
     · have H2:=Lib.hid h2
       have H1:=Lib.hid h1
       clear h2 h1
       go_wp2_with fail
       refine (vright_any _ h _ (HH.out.below (HE.out _ HB.out)) HLH.out).mono ?_
       rintro r w1 ⟨err,rfl,hat,hb1⟩
       obtain rfl:=hat.nil H2.out
       have HB1:Hid (Below W.heap.size W w1):=HB.out.trans (hb1.mono HB.out.size)
       clear hat hb1
       go_wp2
       go_roundw
       case rel=>exact ⟨2,by omega,by go_num,.inr (.inr ⟨rfl,H1.out,H2.out⟩),HB1.out⟩
       case measure=>simp [intOf]
     · have H2:=Lib.hid h2
       have HR:Hid (bbE f h=(vrightF h).1):=Lib.hid (by unfold bbE;rw [if_neg (by simpa using h1),if_pos h2])
       have HQ:=Lib.hid (errV_no h2)
       clear h2 h1
       go_wp2_with fail
       refine (vright_any _ h _ (HH.out.below (HE.out _ HB.out)) HLH.out).mono ?_
       rintro r w1 ⟨err,rfl,hat,hb1⟩
       have HER:=Lib.hid (hat.isErr H2.out)
       obtain ⟨t,u,rfl⟩:=hat.iface H2.out
       have HB1:Hid (Below W.heap.size W w1):=HB.out.trans (hb1.mono HB.out.size)
       clear hat hb1
       go_wp2_with fail
       refine (tell_err _ _ _ (HG.out.below (HE.out _ HB1.out)) HER.out).mono ?_
       rintro r w2 ⟨rfl,hb2⟩
       have HB2:Hid (Below W.heap.size W w2):=HB1.out.trans (hb2.mono HB1.out.size)
       clear hb2
       go_wp2
       go_ret
       exact ⟨by rw [HR.out,HQ.out];rfl,HE.out _ HB2.out⟩
   · obtain ⟨c,hc⟩:∃ c,covB h f=c:=⟨_,rfl⟩
     have HC:=Lib.hid hc
     have HR:Hid (bbE f h=if c=false then 13 else 0):=Lib.hid (by unfold bbE;rw [if_neg (by simpa using h1),if_neg (by simpa using h2),hc])
     obtain ⟨d0,d1,d2⟩:=HA.out.below HB.out HZ.out
     clear h1 h2 hc
     go_wp2_with fail
     refine (bcov_as _ _ h f c _ (HH.out.below (HE.out _ HB.out)) (HF.out.below (HE.out _ HB.out)) HLH.out HLF.out HC.out).mono ?_
     rintro r w1 ⟨rfl,hb1⟩
     have HB1:Hid (Below W.heap.size W w1):=HB.out.trans (hb1.mono HB.out.size)
     clear hb1 d0 d1 d2
     cases c with
     | true =>
       go_wp2
       go_ret
       exact ⟨by rw [HR.out];rfl,HE.out _ HB1.out⟩
     | false =>
       go_wp2
       go_ret
       exact ⟨by rw [HR.out];rfl,HE.out _ HB1.out⟩
theorem bbounds_as (vf vh vw:Value) (f h:List Ent) (l:List Wr) (e:Nat) (w:World) (hf:IsEnts w vf f) (hh:IsEnts w vh h) (hv:IsWrs w vw l) (hlf:f.length≤9223372036854775807) (hlh:h.length≤9223372036854775807) (hg:errT w) (he:bbE f h=e) :
   Calls Tryz.prog 90 #[.agg #[vf,vh,vw]] w fun r w'=>r=.returned (errV e)∧Below w.heap.size w w':=by
 subst he;exact bbounds_any vf vh vw f h l w hf hh hv hlf hlh hg
set_option maxRecDepth 100000 in
set_option maxHeartbeats 4000000 in
theorem bright_any (vf vh vw:Value) (f h:List Ent) (l:List Wr) (w:World) (hf:IsEnts w vf f) (hh:IsEnts w vh h) (hv:IsWrs w vw l) (hlf:f.length≤9223372036854775807) (hlh:h.length≤9223372036854775807) (hok:∀ t∈l,WrOk t) (hg:errT w) :
   Calls Tryz.prog 43 #[.agg #[vf,vh,vw]] w (VRightIs w (batF f h l)):=by
 have HF:=Lib.hid hf
 have HH:=Lib.hid hh
 have HV:=Lib.hid hv
 have HG:=Lib.hid hg
 have HLF:=Lib.hid hlf
 have HLH:=Lib.hid hlh
 have HOK:=Lib.hid hok
 obtain ⟨af,cf,rfl,_⟩:=hf.form
 obtain ⟨ah,ch,rfl,_⟩:=hh.form
 obtain ⟨aw,cw,rfl,_⟩:=hv.form
 obtain ⟨nf,hnf⟩:∃ n,n=f.length:=⟨_,rfl⟩
 obtain ⟨nh,hnh⟩:∃ n,n=h.length:=⟨_,rfl⟩
 obtain ⟨n,hn⟩:∃ n,n=l.length:=⟨_,rfl⟩
 rw [←hnf] at HF ⊢
 rw [←hnh] at HH ⊢
 rw [←hn] at HV ⊢
 have HN:=Lib.hid hn
 have HA:=Lib.hid (batAt_new w (.slice af nf cf) (.slice ah nh ch) (.slice aw n cw) 25)
 have HW0:Hid (Below w.heap.size w (w.alloc (.cells #[.slice af nf cf,.slice ah nh ch,.slice aw n cw] 25))):=Lib.hid ((Below.refl _ _).alloc (Nat.le_refl _) _)
 have HZ:Hid (w.heap.size < (w.alloc (.cells #[.slice af nf cf,.slice ah nh ch,.slice aw n cw] 25)).heap.size):=Lib.hid (by simp)
 obtain ⟨eb,heb⟩:∃ e,bbE f h=e:=⟨_,rfl⟩
 have HEB:=Lib.hid heb
 clear hf hh hv hg hlf hlh hnf hnh hn hok heb
 go_enter Tryz.func43,Tryz.ntmps43
 go_wp2_with fail
 generalize w.alloc (.cells #[.slice af nf cf,.slice ah nh ch,.slice aw n cw] 25)=W at HA HW0 HZ ⊢
 have HE:Hid (∀ w',Below W.heap.size W w'→Below w.heap.size w w'):=Lib.hid (fun w' hx=>HW0.out.trans (hx.mono HW0.out.size))
 refine (bbounds_as _ _ _ f h l eb _ (HF.out.below HW0.out) (HH.out.below HW0.out) (HV.out.below HW0.out) HLF.out HLH.out (HG.out.below HW0.out) HEB.out).mono ?_
 rintro r w1 ⟨rfl,hb1⟩
 have HB1:Hid (Below W.heap.size W w1):=Lib.hid hb1
 clear hb1
 by_cases h0:eb=0
 · subst h0
   rw [errV_ok]
   obtain ⟨d0,d1,d2⟩:=HA.out.below HB1.out HZ.out
   by_cases h6:60 < n
   · have HR:=Lib.hid (batF_many HEB.out (show 60 < l.length by rw [←HN.out];exact h6))
     have h6':(60:Int) < (n:Int):=by omega
     go_wp2
     go_ret
     rw [HR.out]
     exact ⟨_,rfl,.inr ⟨by decide,rfl,rfl⟩,HE.out _ HB1.out⟩
   · have HR:=Lib.hid (batF_rest (ws:=l) HEB.out (show ¬ 60 < l.length by rw [←HN.out];exact h6))
     have h6':¬ (60:Int) < (n:Int):=by omega
     have hn6:n≤60:=by omega
     clear h6
     go_wp2
     clear d0 d1 d2
     go_loopw [19] (fun i wr=>∃ (k:Nat) (p:Option Wr),k≤n∧i=.int .i64 k∧((k=0∧p=none)∨∃ j q,k=j + 1∧l[j]? = some q∧p=some q)∧bwr f h l 0 none=bwr f h (l.drop k) k p∧Below W.heap.size W wr) (fun i _=>n - (intOf i).toNat)
     case atStart=>exact ⟨0,none,by omega,rfl,.inl ⟨rfl,rfl⟩,rfl,HB1.out⟩
     case round =>
       obtain ⟨k,p,hk,rfl,hla,heq,hbel⟩:=hrel
       have HEQ:=Lib.hid heq
       have HLA:=Lib.hid hla
       have HB:=Lib.hid hbel
       clear heq hbel hla
       by_cases hlt:k < n
       · have hkl:k < l.length:=by have:=HN.out;omega
         obtain ⟨t,ht⟩:∃ t,l[k]? = some t:=⟨l[k],List.getElem?_eq_getElem hkl⟩
         have hd:l.drop k=t :: l.drop (k + 1):=by
           rw [List.drop_eq_getElem_cons hkl];congr 1
           rw [List.getElem?_eq_getElem hkl] at ht;exact Option.some.inj ht
         have HD:=Lib.hid hd
         have HT:=Lib.hid ht
         obtain ⟨e,he⟩:∃ e,bwE f h p t=e:=⟨_,rfl⟩
         have HEE:=Lib.hid he
         obtain ⟨d0,d1,d2⟩:=HA.out.below HB.out HZ.out
         clear ht hkl hd he
         go_wp2_with fail
         refine (bwrong_any _ _ _ f h l k t p e _ (HF.out.below (HE.out _ HB.out)) (HH.out.below (HE.out _ HB.out)) (HV.out.below (HE.out _ HB.out)) HLF.out HLH.out (by have:=HN.out;omega) HT.out HLA.out HOK.out (HG.out.below (HE.out _ HB.out)) HEE.out).mono ?_
         rintro r w2 ⟨rfl,hb2⟩
         have HB2:Hid (Below W.heap.size W w2):=HB.out.trans (hb2.mono HB.out.size)
         clear hb2 d0 d1 d2
         by_cases hz:e=0
         · subst hz
           have HN2:Hid (bwr f h l 0 none=bwr f h (l.drop (k + 1)) (k + 1) (some t)):=Lib.hid (show bwr f h l 0 none=bwr f h (l.drop (k + 1)) (k + 1) (some t) by rw [HEQ.out,HD.out,bwr_good HEE.out])
           go_wp2
           go_roundw
           case rel=>exact ⟨k + 1,some t,by omega,by go_num,.inr ⟨k,t,rfl,HT.out,rfl⟩,HN2.out,HB2.out⟩
           case measure=>simp [intOf];omega
         · have HN2:Hid (bwr f h l 0 none=(e,(k:Int))):=Lib.hid (show bwr f h l 0 none=(e,(k:Int)) by rw [HEQ.out,HD.out,bwr_bad HEE.out hz])
           have hne:((e:Int) != 0)=true:=by simp;omega
           have H0:=Lib.hid hz
           have hz2:=HB2.out.size
           clear hz
           go_wp2
           go_ret
           rw [HR.out,HN2.out]
           exact ⟨_,rfl,.inl (atIs.new w2 e k H0.out),HE.out _ (HB2.out.alloc hz2 _)⟩
       · have HN2:Hid (bwr f h l 0 none=(0,-1)):=Lib.hid (show bwr f h l 0 none=(0,-1) by rw [HEQ.out,List.drop_eq_nil_of_le (by have:=HN.out;omega)];rfl)
         go_wp2
         go_ret
         exact ⟨_,rfl,.inl (.inl ⟨HR.out.trans HN2.out,rfl⟩),HE.out _ HB.out⟩
 · have HR:=Lib.hid (batF_bb (ws:=l) HEB.out h0)
   have H0:=Lib.hid h0
   rw [errV_no h0]
   clear h0
   go_wp2
   go_ret
   rw [HR.out]
   exact ⟨_,rfl,.inr ⟨H0.out,rfl,rfl⟩,HE.out _ HB1.out⟩
end Go.Proofs.YtjkbmfpomgcblaaGreatDoor
namespace Go.Proofs.YtjkbmfpomgcblaaGreatDoor
open Go.RowKit
set_option maxRecDepth 100000 in
theorem bthrow_nil (w:World):Calls Tryz.prog 103 #[.nilIface] w fun e w'=>e=.returned (.tuple #[])∧w=w':=by
 go_enter Tryz.func103,Tryz.ntmps103
 go_wp2
 go_end0
 exact ⟨rfl,rfl⟩
set_option maxRecDepth 100000 in
theorem bthrow_err (t:TypeId) (v:Value) (w:World):Calls Tryz.prog 103 #[.iface t v] w fun e w'=>e=.panicked [{ v:=.iface t v,recovered:=false }]∧w'=w:=by
 go_enter Tryz.func103,Tryz.ntmps103
 go_wp2
 exact ⟨rfl,rfl,rfl⟩
set_option maxRecDepth 100000 in
theorem wtext_any (B b:Nat) (l:List UInt8) (s:ByteArray) (w:World) (h:isBldW w B b l) (hl:l.length≤1000000) (hs:s.size≤1000000) (hBw:B≤w.heap.size) :
   Calls Tryz.prog 104 #[.pointer (some ⟨b,0,none⟩),.string s,.nilIface] w fun e w'=>e=.returned (.tuple #[])∧isBldW w' B b (l ++ s.data.toList)∧Below B w w'∧NonB b w w':=by
 have H:=Lib.hid h
 clear h
 go_enter Tryz.func104,Tryz.ntmps104
 go_wp2_with fail
 refine (bthrow_nil _).mono ?_
 rintro r w1 ⟨rfl,rfl⟩
 go_wp2_with fail
 refine (wbld_write B b l s _ H.out (by omega) hBw).mono ?_
 rintro r w2 ⟨rfl,hbl,hb2,hn2⟩
 have H2:=Lib.hid hbl
 have HB2:=Lib.hid hb2
 have HN2:=Lib.hid hn2
 clear hbl hb2 hn2
 go_wp2
 go_end0
 exact ⟨rfl,H2.out,HB2.out,HN2.out⟩
set_option maxRecDepth 100000 in
set_option maxHeartbeats 2000000 in
theorem wnum2_any (B b n:Nat) (l:List UInt8) (w:World) (h:isBldW w B b l) (hn:n≤1099511627776) (hl:l.length≤1000000) (hBw:B≤w.heap.size) :
   Calls Tryz.prog 108 #[.pointer (some ⟨b,0,none⟩),.int .i64 (n:Int)] w fun e w'=>e=.returned (.tuple #[])∧isBldW w' B b (l ++ putL n)∧Below B w w'∧NonB b w w':=by
 have H:=Lib.hid h
 have hp:=putL_le10 (n:=n) (by omega)
 have hk:IntKind.u64.wrap (n:Int)=(n:Int):=IntWalk.u64_in _ (by omega)
 obtain ⟨P,hP⟩:∃ P:ByteArray,⟨(putL n).toArray⟩=P:=⟨_,rfl⟩
 have hPd:putL n=P.data.toList:=by rw [←hP]
 have hPs:P.size≤10:=by rw [←hP,bs_size];exact hp
 have HPD:=Lib.hid hPd
 have HP:=Lib.hid hP
 rw [hPd]
 clear h hp hP hPd
 go_enter Tryz.func108,Tryz.ntmps108
 go_wp2
 go_region_held3 (fun w'=>True) (trivial) (first
   | (go_at_call 89;((with_reducible refine (put_nat n _ (by omega)).mono ?_);rintro r w1 ⟨rfl,hb1⟩;rw [HP.out];have HB1:Hid (Below w.heap.size w w1):=Lib.hid (undrew3 hb1);clear hb1))
   | (go_at_call 44;((with_reducible refine (wbld_write B b l P w1 (H.out.below HB1.out) (by omega) (by have:=HB1.out.size;omega)).mono ?_);rintro r w2 ⟨rfl,hbl,hb2,hn2⟩;have H2:=Lib.hid hbl;have HB2:=Lib.hid ((HB1.out.mono hBw).trans hb2);have HN2:=Lib.hid ((NonB.of (b:=b) HB1.out).trans hn2 HB1.out.size);clear hbl hb2 hn2))
   | fail)
 go_wp2
 go_end0
 exact ⟨rfl,H2.out,HB2.out,HN2.out⟩
set_option maxRecDepth 100000 in
set_option maxHeartbeats 4000000 in
theorem keysOf_any (v:Value) (l:List Wr) (w:World) (hv:IsWrs w v l) (hl:l.length≤1000000) :
   Calls Tryz.prog 107 #[v] w fun e w'=>∃ u,e=.returned u∧ownsS w' w.heap.size u (keysW l)∧Below w.heap.size w w':=by
 obtain ⟨a1,c1,rfl,f1⟩:=hv.form
 have F1:=Lib.hid f1
 obtain ⟨n,hn⟩:∃ n,n=l.length:=⟨_,rfl⟩
 rw [←hn] at hl ⊢
 have HN:=Lib.hid hn
 clear f1 hn hv
 go_enter Tryz.func107,Tryz.ntmps107
 go_wp2
 go_loopw [3,8] (fun x i wr=>∃ k:Nat,k≤n∧i=.int .i64 k∧ownsS wr w.heap.size x ((keysW l).take k)∧Below w.heap.size w wr) (fun _ i _=>n - (intOf i).toNat)
 case atStart=>exact ⟨0,Nat.zero_le _,rfl,ownsS_nil _ _,Below.refl _ _⟩
 case round =>
   obtain ⟨k,hk,rfl,hos,hbel⟩:=hrel
   have HO:=Lib.hid hos
   have HB:=Lib.hid hbel
   obtain ⟨ad,cp,rfl,hcp,g1⟩:=hos.isTexts
   have hkl:((keysW l).take k).length=k:=by rw [List.length_take];have:=HN.out;unfold keysW;rw [List.length_map];omega
   have HKL:=Lib.hid hkl
   rw [hkl] at HO hcp
   rw [hkl]
   clear hos hbel hkl g1 hcp
   by_cases hlt:k < n
   · obtain ⟨x, hx⟩ : ∃ x, l[k]? = some x := ⟨l[k]'(by have := HN.out; omega), List.getElem?_eq_getElem _⟩
     obtain ⟨b1,o1,rfl,hb1,p0,p1,p2,p3,p4,p5⟩:=F1.out k x hx
     have q0:=(HB.out.cell (p:=⟨b1,o1 + k * 6,none⟩) hb1).trans p0
     have q1:=(HB.out.cell (p:=⟨b1,o1 + k * 6 + 1,none⟩) hb1).trans p1
     have q2:=(HB.out.cell (p:=⟨b1,o1 + k * 6 + 2,none⟩) hb1).trans p2
     have q3:=(HB.out.cell (p:=⟨b1,o1 + k * 6 + 3,none⟩) hb1).trans p3
     have q4:=(HB.out.cell (p:=⟨b1,o1 + k * 6 + 4,none⟩) hb1).trans p4
     have q5:=(HB.out.cell (p:=⟨b1,o1 + k * 6 + 5,none⟩) hb1).trans p5
     have HTK:Hid ((keysW l).take k ++ [x.key]=(keysW l).take (k + 1)):=Lib.hid (show _=_ by
       have h2:(keysW l)[k]? = some x.key:=by unfold keysW;rw [List.getElem?_map,hx];rfl
       obtain ⟨hk2,e⟩:=List.getElem?_eq_some_iff.1 h2;rw [←e,List.take_append_getElem hk2])
     obtain ⟨T,R,K,key,val,N⟩:=x
     dsimp only at q0 q1 q2 q3 q4 q5 HTK
     clear p0 p1 p2 p3 p4 p5 hx
     obtain ⟨L,hL⟩:∃ L,(keysW l).take k=L:=⟨_,rfl⟩
     rw [hL] at HO HKL HTK
     clear hL
     go_wp2_with (at_builtin;refine wpList_append_str rfl _ _ rfl w.heap.size _ L rfl ((HO.out.alloc _).alloc _) ⟨wr.heap.size + 1,0,none⟩ 1 rfl key (by simp [Addr.add]) (by have:=HKL.out;omega) (by have:=HB.out.size;simp;omega) ?_)
     intro g cap w4 ho4 hg4
     rw [HTK.out] at ho4
     have HO4:=Lib.hid ho4
     have HB4:Hid (Below w.heap.size w w4):=Lib.hid (((HB.out.alloc HB.out.size _).alloc (by have:=HB.out.size;simp;omega) _).grown hg4 (by have:=HB.out.size;simp;omega) (fun g hg=>(HO.out.lt g hg).1))
     have HKL1:Hid (L.length + 1=k + 1):=Lib.hid (by rw [HKL.out])
     rw [HKL1.out] at HO4 ⊢
     clear ho4 hg4
     go_wp2
     go_roundw
     case rel=>exact ⟨k + 1,by omega,by go_num,HO4.out,HB4.out⟩
     case measure=>simp [intOf];omega
   · have HT:Hid ((keysW l).take k=keysW l):=Lib.hid (List.take_of_length_le (by unfold keysW;rw [List.length_map];have:=HN.out;omega))
     go_wp2
     go_ret
     rw [HT.out] at HO
     exact ⟨_,rfl,HO.out,HB.out⟩
end Go.Proofs.YtjkbmfpomgcblaaGreatDoor
namespace Go.Proofs.YtjkbmfpomgcblaaGreatDoor
open Go.RowKit
theorem brightB (vf vh vw:Value) (f h:List Ent) (l:List Wr) (w:World) (hx:BatIs w vf vh vw f h l) (hg:errT w) :
   Calls Tryz.prog 43 #[.agg #[vf,vh,vw]] w (VRightIs w (batF f h l)) :=
 bright_any vf vh vw f h l w hx.1 hx.2.1 hx.2.2.1 hx.2.2.2.1 hx.2.2.2.2.1 hx.2.2.2.2.2.2 hg
end Go.Proofs.YtjkbmfpomgcblaaGreatDoor
namespace Go.Proofs.YtjkbmfpomgcblaaGreatDoor
open Go.RowKit
theorem rof_as (v:Value) (l:List Ent) (x y:Int) (w:World) (hv:IsEnts w v l) (hl:l.length≤9223372036854775807) (h:ofF l x=y) :
   Calls Tryz.prog 168 #[v,.int .i64 x] w fun r w'=>r=.returned (.int .i64 y)∧w=w':=by
 subst h;exact rof_any v l x w hv hl
theorem rof_q (v:Value) (l:List Ent) (x y:Int) (w:World) (n:Nat) (hv:IsEnts w v l) (hl:l.length≤9223372036854775807) (h:ofF l x=y) :
   Calls Tryz.prog 168 #[v,.int .i64 x] (w.drewN n) fun r w'=>r=.returned (.int .i64 y)∧∃ m,w'=w.drewN m :=
 (rof_as v l x y (w.drewN n) (hv.drewN n) hl h).mono fun _ _ ⟨h1,h2⟩=>⟨h1,n,h2.symm⟩
theorem rvright_as (v:Value) (l:List Ent) (e:Nat) (pl:Int) (w:World) (hv:IsEnts w v l) (hl:l.length≤9223372036854775807) (h:vrightF l=(e,pl)) :
   Calls Tryz.prog 112 #[v] w fun r w'=>r=.returned (.agg #[.int .i64 (e:Int),.int .i64 pl])∧Below w.heap.size w w' :=
 (rvright_any v l w hv hl).mono fun r w' ⟨h1,h2⟩=>⟨by rw [h1,h];rfl,h2⟩
theorem covA_dropR {a b:List Ent} {k:Nat} {t:Ent} (h:b[k]? = some t):covA a (b.drop k)=(decide (t.time≤ofF a t.rep) && covA a (b.drop (k + 1))):=by
 obtain ⟨hk,ht⟩:=List.getElem?_eq_some_iff.1 h
 rw [List.drop_eq_getElem_cons hk,ht];rfl
set_option maxRecDepth 100000 in
set_option maxHeartbeats 4000000 in
theorem rcov_any (va vb:Value) (a b:List Ent) (w:World) (ha:IsEnts w va a) (hb:IsEnts w vb b) (hla:a.length≤9223372036854775807) (hlb:b.length≤9223372036854775807) :
   Calls Tryz.prog 113 #[va,vb] w fun r w'=>r=.returned (.bool (covB a b))∧Below w.heap.size w w':=by
 have HVA:=Lib.hid ha
 have HVB:=Lib.hid hb
 have HLA:=Lib.hid hla
 have HLB:Hid (b.length≤9223372036854775807):=Lib.hid hlb
 obtain ⟨aa,ca,rfl,_⟩:=ha.form
 obtain ⟨ab,cb,rfl,fb⟩:=hb.form
 have FB:=Lib.hid fb
 obtain ⟨na,hna⟩:∃ n,n=a.length:=⟨_,rfl⟩
 obtain ⟨nb,hnb⟩:∃ n,n=b.length:=⟨_,rfl⟩
 have HNB:=Lib.hid hnb
 rw [←hna] at HVA ⊢
 rw [←hnb] at HVB hlb ⊢
 clear ha hb hla fb hna hnb
 obtain ⟨ea,pa,hra⟩:∃ e pl,vrightF a=(e,pl):=⟨_,_,rfl⟩
 obtain ⟨eb,pb,hrb⟩:∃ e pl,vrightF b=(e,pl):=⟨_,_,rfl⟩
 have HRA:=Lib.hid hra
 have HRB:=Lib.hid hrb
 have HC:Hid (covB a b=(decide (ea=0) && decide (eb=0) && covA a b)):=Lib.hid (show covB a b=(decide (ea=0) && decide (eb=0) && covA a b) by unfold covB;rw [hra,hrb])
 clear hra hrb
 by_cases h1:ea=0
 · have hne:((ea:Int) == 0)=true:=by simp;exact h1
   by_cases h2:eb=0
   · have hne2:((eb:Int) == 0)=true:=by simp;exact h2
     have HC2:Hid (covB a b=(true && covA a b)):=Lib.hid (show covB a b=(true && covA a b) by rw [HC.out,decide_eq_true h1,decide_eq_true h2];rfl)
     clear h1 h2 HC
     go_enter Tryz.func113,Tryz.ntmps113
     go_wp2_with fail
     refine (rvright_as _ a ea pa _ HVA.out HLA.out HRA.out).mono ?_
     rintro r w1 ⟨rfl,hb1⟩
     have HB1:=Lib.hid hb1
     clear hb1
     go_wp2_with fail
     refine (is_any ea pa _).mono ?_
     rintro r w2 ⟨rfl,hb2⟩
     rw [hne]
     have HB2:Hid (Below w.heap.size w w2):=HB1.out.trans (hb2.mono HB1.out.size)
     clear hb2
     go_wp2_with fail
     refine (rvright_as _ b eb pb _ (HVB.out.below HB2.out) HLB.out HRB.out).mono ?_
     rintro r w3 ⟨rfl,hb3⟩
     have HB3:Hid (Below w.heap.size w w3):=HB2.out.trans (hb3.mono HB2.out.size)
     clear hb3
     go_wp2_with fail
     refine (is_any eb pb _).mono ?_
     rintro r w4 ⟨rfl,hb4⟩
     rw [hne2]
     have HB4:Hid (Below w.heap.size w w4):=HB3.out.trans (hb4.mono HB3.out.size)
     clear hb4
     go_wp2
     go_loopw [5,18] (fun o i wr=>∃ (k:Nat) (ok:Bool),k≤nb∧i=.int .i64 k∧o=.bool ok∧covB a b=(ok && covA a (b.drop k))∧Below w.heap.size w wr) (fun _ i _=>nb - (intOf i).toNat)
     case atStart=>exact ⟨0,true,by omega,rfl,rfl,HC2.out,HB4.out⟩
     case round =>
       obtain ⟨k,ok,hk,rfl,rfl,heq,hbel⟩:=hrel
       have HEQ:=Lib.hid heq
       have HB:=Lib.hid hbel
       have hzr:=hbel.size
       clear heq hbel
       by_cases hlt:k < nb
       · obtain ⟨t, ht⟩ : ∃ t, b[k]? = some t := ⟨b[k]'(by have := HNB.out; omega), List.getElem?_eq_getElem _⟩
         obtain ⟨b1,o1,rfl,hb1,p0,p1⟩:=FB.out k t ht
         have hd:=covA_dropR (a:=a) ht
         obtain ⟨rep,time⟩:=t
         simp only at p0 p1 hd
         have q0:=(HB.out.cell (p:=⟨b1,o1 + k * 2,none⟩) hb1).trans p0
         have q1:=(HB.out.cell (p:=⟨b1,o1 + k * 2 + 1,none⟩) hb1).trans p1
         cases ok with
         | false =>
           have HW:Hid (covB a b=(false && covA a (b.drop (k + 1)))):=HEQ
           clear p0 p1 ht hd
           go_wp2
           go_quiet (fail)
           go_wp2
           go_roundw
           case rel=>exact ⟨k + 1,false,by omega,by go_num,rfl,HW.out,below_drewN (HB.out.alloc hzr _) _⟩
           case measure=>simp [intOf];omega
         | true =>
           obtain ⟨x,hx⟩:∃ x,ofF a rep=x:=⟨_,rfl⟩
           rw [hx] at hd
           have HX:=Lib.hid hx
           by_cases hlx:time≤x
           · have HW:Hid (covB a b=(true && covA a (b.drop (k + 1)))):=Lib.hid (show covB a b=(true && covA a (b.drop (k + 1))) by rw [HEQ.out,hd,decide_eq_true hlx,Bool.true_and])
             clear p0 p1 ht hd hx
             go_wp2
             go_quiet ((go_at_call 168;exact rof_q _ a rep x _ _ ((HVA.out.below HB.out).alloc _) HLA.out HX.out))
             go_wp2
             go_roundw
             case rel=>exact ⟨k + 1,true,by omega,by go_num,rfl,HW.out,below_drewN (HB.out.alloc hzr _) _⟩
             case measure=>simp [intOf];omega
           · have HW:Hid (covB a b=(false && covA a (b.drop (k + 1)))):=Lib.hid (show covB a b=(false && covA a (b.drop (k + 1))) by rw [HEQ.out,hd,decide_eq_false hlx];rfl)
             clear p0 p1 ht hd hx
             go_wp2
             go_quiet ((go_at_call 168;exact rof_q _ a rep x _ _ ((HVA.out.below HB.out).alloc _) HLA.out HX.out))
             go_wp2
             go_roundw
             case rel=>exact ⟨k + 1,false,by omega,by go_num,by first | rfl | (congr 1;exact decide_eq_false (by omega)),HW.out,below_drewN (HB.out.alloc hzr _) _⟩
             case measure=>simp [intOf];omega
       · have HW:Hid (covB a b=ok):=Lib.hid (show covB a b=ok by rw [HEQ.out,List.drop_eq_nil_of_le (by have:=HNB.out;omega)];show (ok && true)=ok;simp)
         go_wp2
         go_ret
         exact ⟨by rw [HW.out];rfl,HB.out⟩
   · have hne2:((eb:Int) == 0)=false:=by simp;exact h2
     have HC2:Hid (covB a b=false):=Lib.hid (show covB a b=false by rw [HC.out,decide_eq_false h2];simp)
     clear h1 h2 HC
     go_enter Tryz.func113,Tryz.ntmps113
     go_wp2_with fail
     refine (rvright_as _ a ea pa _ HVA.out HLA.out HRA.out).mono ?_
     rintro r w1 ⟨rfl,hb1⟩
     have HB1:=Lib.hid hb1
     clear hb1
     go_wp2_with fail
     refine (is_any ea pa _).mono ?_
     rintro r w2 ⟨rfl,hb2⟩
     rw [hne]
     have HB2:Hid (Below w.heap.size w w2):=HB1.out.trans (hb2.mono HB1.out.size)
     clear hb2
     go_wp2_with fail
     refine (rvright_as _ b eb pb _ (HVB.out.below HB2.out) HLB.out HRB.out).mono ?_
     rintro r w3 ⟨rfl,hb3⟩
     have HB3:Hid (Below w.heap.size w w3):=HB2.out.trans (hb3.mono HB2.out.size)
     clear hb3
     go_wp2_with fail
     refine (is_any eb pb _).mono ?_
     rintro r w4 ⟨rfl,hb4⟩
     rw [hne2]
     have HB4:Hid (Below w.heap.size w w4):=HB3.out.trans (hb4.mono HB3.out.size)
     clear hb4
     go_wp2
     go_loopw [5,18] (fun o i wr=>∃ (k:Nat),k≤nb∧i=.int .i64 k∧o=.bool false∧Below w.heap.size w wr) (fun _ i _=>nb - (intOf i).toNat)
     case atStart=>exact ⟨0,by omega,rfl,rfl,HB4.out⟩
     case round =>
       obtain ⟨k,hk,rfl,rfl,hbel⟩:=hrel
       have HB:=Lib.hid hbel
       have hzr:=hbel.size
       clear hbel
       by_cases hlt:k < nb
       · obtain ⟨t, ht⟩ : ∃ t, b[k]? = some t := ⟨b[k]'(by have := HNB.out; omega), List.getElem?_eq_getElem _⟩
         obtain ⟨b1,o1,rfl,hb1,p0,p1⟩:=FB.out k t ht
         obtain ⟨rep,time⟩:=t
         simp only at p0 p1
         have q0:=(HB.out.cell (p:=⟨b1,o1 + k * 2,none⟩) hb1).trans p0
         have q1:=(HB.out.cell (p:=⟨b1,o1 + k * 2 + 1,none⟩) hb1).trans p1
         clear p0 p1 ht
         go_wp2
         go_quiet (fail)
         go_wp2
         go_roundw
         case rel=>exact ⟨k + 1,by omega,by go_num,rfl,below_drewN (HB.out.alloc hzr _) _⟩
         case measure=>simp [intOf];omega
       · go_wp2
         go_ret
         exact ⟨by rw [HC2.out];rfl,HB.out⟩
 · have hne:((ea:Int) == 0)=false:=by simp;exact h1
   have HC2:Hid (covB a b=false):=Lib.hid (show covB a b=false by rw [HC.out,decide_eq_false h1];simp)
   clear h1 HC
   go_enter Tryz.func113,Tryz.ntmps113
   go_wp2_with fail
   refine (rvright_as _ a ea pa _ HVA.out HLA.out HRA.out).mono ?_
   rintro r w1 ⟨rfl,hb1⟩
   have HB1:=Lib.hid hb1
   clear hb1
   go_wp2_with fail
   refine (is_any ea pa _).mono ?_
   rintro r w2 ⟨rfl,hb2⟩
   rw [hne]
   have HB4:Hid (Below w.heap.size w w2):=HB1.out.trans (hb2.mono HB1.out.size)
   clear hb2
   go_wp2
   go_loopw [5,18] (fun o i wr=>∃ (k:Nat),k≤nb∧i=.int .i64 k∧o=.bool false∧Below w.heap.size w wr) (fun _ i _=>nb - (intOf i).toNat)
   case atStart=>exact ⟨0,by omega,rfl,rfl,HB4.out⟩
   case round =>
     obtain ⟨k,hk,rfl,rfl,hbel⟩:=hrel
     have HB:=Lib.hid hbel
     have hzr:=hbel.size
     clear hbel
     by_cases hlt:k < nb
     · obtain ⟨t, ht⟩ : ∃ t, b[k]? = some t := ⟨b[k]'(by have := HNB.out; omega), List.getElem?_eq_getElem _⟩
       obtain ⟨b1,o1,rfl,hb1,p0,p1⟩:=FB.out k t ht
       obtain ⟨rep,time⟩:=t
       simp only at p0 p1
       have q0:=(HB.out.cell (p:=⟨b1,o1 + k * 2,none⟩) hb1).trans p0
       have q1:=(HB.out.cell (p:=⟨b1,o1 + k * 2 + 1,none⟩) hb1).trans p1
       clear p0 p1 ht
       go_wp2
       go_quiet (fail)
       go_wp2
       go_roundw
       case rel=>exact ⟨k + 1,by omega,by go_num,rfl,below_drewN (HB.out.alloc hzr _) _⟩
       case measure=>simp [intOf];omega
     · go_wp2
       go_ret
       exact ⟨by rw [HC2.out];rfl,HB.out⟩
end Go.Proofs.YtjkbmfpomgcblaaGreatDoor
