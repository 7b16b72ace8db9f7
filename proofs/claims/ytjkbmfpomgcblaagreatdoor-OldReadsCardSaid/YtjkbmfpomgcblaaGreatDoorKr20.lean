import Derived.Test.YtjkbmfpomgcblaaGreatDoorKr17
import Derived.Test.YtjkbmfpomgcblaaGreatDoorKr18
namespace Go.Proofs.YtjkbmfpomgcblaaGreatDoor
open Go.RowKit
theorem idxB_0 (x y:Value) (w:World):(Instr.index 183 (.agg #[x,y]) (.int .i64 0)).run Tryz.prog w=.ok x w:=by kernel_rfl
theorem idxB_1 (x y:Value) (w:World):(Instr.index 183 (.agg #[x,y]) (.int .i64 1)).run Tryz.prog w=.ok y w:=by kernel_rfl
theorem bcov_as (va vb:Value) (a b:List Ent) (x:Bool) (w:World) (ha:IsEnts w va a) (hb:IsEnts w vb b) (hla:a.length≤9223372036854775807) (hlb:b.length≤9223372036854775807) (hx:covB a b=x) :
   Calls Tryz.prog 144 #[va,vb] w fun r w'=>r=.returned (.bool x)∧Below w.heap.size w w':=by
 subst hx;exact vcov_any va vb a b w ha hb hla hlb
set_option maxRecDepth 100000 in
set_option maxHeartbeats 4000000 in
theorem bbounds_any (vf vh vw:Value) (f h:List Ent) (l:List Wr) (w:World) (hf:IsEnts w vf f) (hh:IsEnts w vh h) (hv:IsWrs w vw l) (hlf:f.length≤9223372036854775807) (hlh:h.length≤9223372036854775807) (hg:errT w) :
   Calls Tryz.prog 90 #[.agg #[vf,vh,vw]] w fun r w'=>r=.returned (errV (bbE f h))∧Below w.heap.size w w':=by
 have HF:=Lib.hid hf
 have HH:=Lib.hid hh
 have HG:=Lib.hid hg
 have HLF:=Lib.hid hlf
 have HLH:=Lib.hid hlh
 obtain ⟨af,cf,rfl,_⟩:=hf.form
 obtain ⟨ah,ch,rfl,_⟩:=hh.form
 obtain ⟨aw,cw,rfl,_⟩:=hv.form
 obtain ⟨nf,hnf⟩:∃ n,n=f.length:=⟨_,rfl⟩
 obtain ⟨nh,hnh⟩:∃ n,n=h.length:=⟨_,rfl⟩
 obtain ⟨n,hn⟩:∃ n,n=l.length:=⟨_,rfl⟩
 rw [←hnf] at HF ⊢
 rw [←hnh] at HH ⊢
 rw [←hn]
 have HA:=Lib.hid (batAt_new w (.slice af nf cf) (.slice ah nh ch) (.slice aw n cw) 25)
 have HW0:Hid (Below w.heap.size w (w.alloc (.cells #[.slice af nf cf,.slice ah nh ch,.slice aw n cw] 25))):=Lib.hid ((Below.refl _ _).alloc (Nat.le_refl _) _)
 have HZ:Hid (w.heap.size < (w.alloc (.cells #[.slice af nf cf,.slice ah nh ch,.slice aw n cw] 25)).heap.size):=Lib.hid (by simp)
 have i0:=idxB_0
 have i1:=idxB_1
 clear hf hh hv hg hlf hlh hnf hnh hn
 go_enter Tryz.func90,Tryz.ntmps90
 go_wp2
 generalize w.alloc (.cells #[.slice af nf cf,.slice ah nh ch,.slice aw n cw] 25)=W at HA HW0 HZ ⊢
 have HE:Hid (∀ w',Below W.heap.size W w'→Below w.heap.size w w'):=Lib.hid (fun w' hx=>HW0.out.trans (hx.mono HW0.out.size))
 go_loopw [11] (fun i wr=>∃ k:Nat,k≤2∧i=.int .i64 k∧(k=0∨(k=1∧(vrightF f).1=0)∨(k=2∧(vrightF f).1=0∧(vrightF h).1=0))∧Below W.heap.size W wr) (fun i _=>2 - (intOf i).toNat)
 case atStart=>exact ⟨0,by omega,rfl,.inl rfl,Below.refl _ _⟩
 case round =>
   obtain ⟨k,hk,rfl,hj,hbel⟩:=hrel
   have HB:=Lib.hid hbel
   clear hbel
   rcases hj with rfl | ⟨rfl,h1⟩ | ⟨rfl,h1,h2⟩
   · by_cases h1:(vrightF f).1=0
     · have H1:=Lib.hid h1
       clear h1
       go_wp2_with fail
       refine (vright_any _ f _ (HF.out.below (HE.out _ HB.out)) HLF.out).mono ?_
       rintro r w1 ⟨err,rfl,hat,hb1⟩
       obtain rfl:=hat.nil H1.out
       have HB1:Hid (Below W.heap.size W w1):=HB.out.trans (hb1.mono HB.out.size)
       clear hat hb1
       go_wp2
       go_roundw
       case rel=>exact ⟨1,by omega,by go_num,.inr (.inl ⟨rfl,H1.out⟩),HB1.out⟩
       case measure=>simp [intOf]
     · have H1:=Lib.hid h1
       have HR:Hid (bbE f h=(vrightF f).1):=Lib.hid (by unfold bbE;rw [if_pos h1])
       have HQ:=Lib.hid (errV_no h1)
       clear h1
       go_wp2_with fail
       refine (vright_any _ f _ (HF.out.below (HE.out _ HB.out)) HLF.out).mono ?_
       rintro r w1 ⟨err,rfl,hat,hb1⟩
       have HER:=Lib.hid (hat.isErr H1.out)
       obtain ⟨t,u,rfl⟩:=hat.iface H1.out
       have HB1:Hid (Below W.heap.size W w1):=HB.out.trans (hb1.mono HB.out.size)
       clear hat hb1
       go_wp2_with fail
       refine (tell_err _ _ _ (HG.out.below (HE.out _ HB1.out)) HER.out).mono ?_
       rintro r w2 ⟨rfl,hb2⟩
       have HB2:Hid (Below W.heap.size W w2):=HB1.out.trans (hb2.mono HB1.out.size)
       clear hb2
       go_wp2
       go_ret
       exact ⟨by rw [HR.out,HQ.out];rfl,HE.out _ HB2.out⟩
   · by_cases h2:(vrightF h).1=0
     · have H2:=Lib.hid h2
       have H1:=Lib.hid h1
       clear h2 h1
       go_wp2_with fail
       refine (vright_any _ h _ (HH.out.below (HE.out _ HB.out)) HLH.out).mono ?_
       rintro r w1 ⟨err,rfl,hat,hb1⟩
       obtain rfl:=hat.nil H2.out
       have HB1:Hid (Below W.heap.size W w1):=HB.out.trans (hb1.mono HB.out.size)
       clear hat hb1
       go_wp2
       go_roundw
       case rel=>exact ⟨2,by omega,by go_num,.inr (.inr ⟨rfl,H1.out,H2.out⟩),HB1.out⟩
       case measure=>simp [intOf]
     · have H2:=Lib.hid h2
       have HR:Hid (bbE f h=(vrightF h).1):=Lib.hid (by unfold bbE;rw [if_neg (by simpa using h1),if_pos h2])
       have HQ:=Lib.hid (errV_no h2)
       clear h2 h1
       go_wp2_with fail
       refine (vright_any _ h _ (HH.out.below (HE.out _ HB.out)) HLH.out).mono ?_
       rintro r w1 ⟨err,rfl,hat,hb1⟩
       have HER:=Lib.hid (hat.isErr H2.out)
       obtain ⟨t,u,rfl⟩:=hat.iface H2.out
       have HB1:Hid (Below W.heap.size W w1):=HB.out.trans (hb1.mono HB.out.size)
       clear hat hb1
       go_wp2_with fail
       refine (tell_err _ _ _ (HG.out.below (HE.out _ HB1.out)) HER.out).mono ?_
       rintro r w2 ⟨rfl,hb2⟩
       have HB2:Hid (Below W.heap.size W w2):=HB1.out.trans (hb2.mono HB1.out.size)
       clear hb2
       go_wp2
       go_ret
       exact ⟨by rw [HR.out,HQ.out];rfl,HE.out _ HB2.out⟩
   · obtain ⟨c,hc⟩:∃ c,covB h f=c:=⟨_,rfl⟩
     have HC:=Lib.hid hc
     have HR:Hid (bbE f h=if c=false then 13 else 0):=Lib.hid (by unfold bbE;rw [if_neg (by simpa using h1),if_neg (by simpa using h2),hc])
     obtain ⟨d0,d1,d2⟩:=HA.out.below HB.out HZ.out
     clear h1 h2 hc
     go_wp2_with fail
     refine (bcov_as _ _ h f c _ (HH.out.below (HE.out _ HB.out)) (HF.out.below (HE.out _ HB.out)) HLH.out HLF.out HC.out).mono ?_
     rintro r w1 ⟨rfl,hb1⟩
     have HB1:Hid (Below W.heap.size W w1):=HB.out.trans (hb1.mono HB.out.size)
     clear hb1 d0 d1 d2
     cases c with
     | true =>
       go_wp2
       go_ret
       exact ⟨by rw [HR.out];rfl,HE.out _ HB1.out⟩
     | false =>
       go_wp2
       go_ret
       exact ⟨by rw [HR.out];rfl,HE.out _ HB1.out⟩
theorem bbounds_as (vf vh vw:Value) (f h:List Ent) (l:List Wr) (e:Nat) (w:World) (hf:IsEnts w vf f) (hh:IsEnts w vh h) (hv:IsWrs w vw l) (hlf:f.length≤9223372036854775807) (hlh:h.length≤9223372036854775807) (hg:errT w) (he:bbE f h=e) :
   Calls Tryz.prog 90 #[.agg #[vf,vh,vw]] w fun r w'=>r=.returned (errV e)∧Below w.heap.size w w':=by
 subst he;exact bbounds_any vf vh vw f h l w hf hh hv hlf hlh hg
set_option maxRecDepth 100000 in
set_option maxHeartbeats 4000000 in
theorem bright_any (vf vh vw:Value) (f h:List Ent) (l:List Wr) (w:World) (hf:IsEnts w vf f) (hh:IsEnts w vh h) (hv:IsWrs w vw l) (hlf:f.length≤9223372036854775807) (hlh:h.length≤9223372036854775807) (hok:∀ t∈l,WrOk t) (hg:errT w) :
   Calls Tryz.prog 43 #[.agg #[vf,vh,vw]] w (VRightIs w (batF f h l)):=by
 have HF:=Lib.hid hf
 have HH:=Lib.hid hh
 have HV:=Lib.hid hv
 have HG:=Lib.hid hg
 have HLF:=Lib.hid hlf
 have HLH:=Lib.hid hlh
 have HOK:=Lib.hid hok
 obtain ⟨af,cf,rfl,_⟩:=hf.form
 obtain ⟨ah,ch,rfl,_⟩:=hh.form
 obtain ⟨aw,cw,rfl,_⟩:=hv.form
 obtain ⟨nf,hnf⟩:∃ n,n=f.length:=⟨_,rfl⟩
 obtain ⟨nh,hnh⟩:∃ n,n=h.length:=⟨_,rfl⟩
 obtain ⟨n,hn⟩:∃ n,n=l.length:=⟨_,rfl⟩
 rw [←hnf] at HF ⊢
 rw [←hnh] at HH ⊢
 rw [←hn] at HV ⊢
 have HN:=Lib.hid hn
 have HA:=Lib.hid (batAt_new w (.slice af nf cf) (.slice ah nh ch) (.slice aw n cw) 25)
 have HW0:Hid (Below w.heap.size w (w.alloc (.cells #[.slice af nf cf,.slice ah nh ch,.slice aw n cw] 25))):=Lib.hid ((Below.refl _ _).alloc (Nat.le_refl _) _)
 have HZ:Hid (w.heap.size < (w.alloc (.cells #[.slice af nf cf,.slice ah nh ch,.slice aw n cw] 25)).heap.size):=Lib.hid (by simp)
 obtain ⟨eb,heb⟩:∃ e,bbE f h=e:=⟨_,rfl⟩
 have HEB:=Lib.hid heb
 clear hf hh hv hg hlf hlh hnf hnh hn hok heb
 go_enter Tryz.func43,Tryz.ntmps43
 go_wp2_with fail
 generalize w.alloc (.cells #[.slice af nf cf,.slice ah nh ch,.slice aw n cw] 25)=W at HA HW0 HZ ⊢
 have HE:Hid (∀ w',Below W.heap.size W w'→Below w.heap.size w w'):=Lib.hid (fun w' hx=>HW0.out.trans (hx.mono HW0.out.size))
 refine (bbounds_as _ _ _ f h l eb _ (HF.out.below HW0.out) (HH.out.below HW0.out) (HV.out.below HW0.out) HLF.out HLH.out (HG.out.below HW0.out) HEB.out).mono ?_
 rintro r w1 ⟨rfl,hb1⟩
 have HB1:Hid (Below W.heap.size W w1):=Lib.hid hb1
 clear hb1
 by_cases h0:eb=0
 · subst h0
   rw [errV_ok]
   obtain ⟨d0,d1,d2⟩:=HA.out.below HB1.out HZ.out
   by_cases h6:60 < n
   · have HR:=Lib.hid (batF_many HEB.out (show 60 < l.length by rw [←HN.out];exact h6))
     have h6':(60:Int) < (n:Int):=by omega
     go_wp2
     go_ret
     rw [HR.out]
     exact ⟨_,rfl,.inr ⟨by decide,rfl,rfl⟩,HE.out _ HB1.out⟩
   · have HR:=Lib.hid (batF_rest (ws:=l) HEB.out (show ¬ 60 < l.length by rw [←HN.out];exact h6))
     have h6':¬ (60:Int) < (n:Int):=by omega
     have hn6:n≤60:=by omega
     clear h6
     go_wp2
     clear d0 d1 d2
     go_loopw [19] (fun i wr=>∃ (k:Nat) (p:Option Wr),k≤n∧i=.int .i64 k∧((k=0∧p=none)∨∃ j q,k=j + 1∧l[j]? = some q∧p=some q)∧bwr f h l 0 none=bwr f h (l.drop k) k p∧Below W.heap.size W wr) (fun i _=>n - (intOf i).toNat)
     case atStart=>exact ⟨0,none,by omega,rfl,.inl ⟨rfl,rfl⟩,rfl,HB1.out⟩
     case round =>
       obtain ⟨k,p,hk,rfl,hla,heq,hbel⟩:=hrel
       have HEQ:=Lib.hid heq
       have HLA:=Lib.hid hla
       have HB:=Lib.hid hbel
       clear heq hbel hla
       by_cases hlt:k < n
       · have hkl:k < l.length:=by have:=HN.out;omega
         obtain ⟨t,ht⟩:∃ t,l[k]? = some t:=⟨l[k],List.getElem?_eq_getElem hkl⟩
         have hd:l.drop k=t :: l.drop (k + 1):=by
           rw [List.drop_eq_getElem_cons hkl];congr 1
           rw [List.getElem?_eq_getElem hkl] at ht;exact Option.some.inj ht
         have HD:=Lib.hid hd
         have HT:=Lib.hid ht
         obtain ⟨e,he⟩:∃ e,bwE f h p t=e:=⟨_,rfl⟩
         have HEE:=Lib.hid he
         obtain ⟨d0,d1,d2⟩:=HA.out.below HB.out HZ.out
         clear ht hkl hd he
         go_wp2_with fail
         refine (bwrong_any _ _ _ f h l k t p e _ (HF.out.below (HE.out _ HB.out)) (HH.out.below (HE.out _ HB.out)) (HV.out.below (HE.out _ HB.out)) HLF.out HLH.out (by have:=HN.out;omega) HT.out HLA.out HOK.out (HG.out.below (HE.out _ HB.out)) HEE.out).mono ?_
         rintro r w2 ⟨rfl,hb2⟩
         have HB2:Hid (Below W.heap.size W w2):=HB.out.trans (hb2.mono HB.out.size)
         clear hb2 d0 d1 d2
         by_cases hz:e=0
         · subst hz
           have HN2:Hid (bwr f h l 0 none=bwr f h (l.drop (k + 1)) (k + 1) (some t)):=Lib.hid (show bwr f h l 0 none=bwr f h (l.drop (k + 1)) (k + 1) (some t) by rw [HEQ.out,HD.out,bwr_good HEE.out])
           go_wp2
           go_roundw
           case rel=>exact ⟨k + 1,some t,by omega,by go_num,.inr ⟨k,t,rfl,HT.out,rfl⟩,HN2.out,HB2.out⟩
           case measure=>simp [intOf];omega
         · have HN2:Hid (bwr f h l 0 none=(e,(k:Int))):=Lib.hid (show bwr f h l 0 none=(e,(k:Int)) by rw [HEQ.out,HD.out,bwr_bad HEE.out hz])
           have hne:((e:Int) != 0)=true:=by simp;omega
           have H0:=Lib.hid hz
           have hz2:=HB2.out.size
           clear hz
           go_wp2
           go_ret
           rw [HR.out,HN2.out]
           exact ⟨_,rfl,.inl (atIs.new w2 e k H0.out),HE.out _ (HB2.out.alloc hz2 _)⟩
       · have HN2:Hid (bwr f h l 0 none=(0,-1)):=Lib.hid (show bwr f h l 0 none=(0,-1) by rw [HEQ.out,List.drop_eq_nil_of_le (by have:=HN.out;omega)];rfl)
         go_wp2
         go_ret
         exact ⟨_,rfl,.inl (.inl ⟨HR.out.trans HN2.out,rfl⟩),HE.out _ HB.out⟩
 · have HR:=Lib.hid (batF_bb (ws:=l) HEB.out h0)
   have H0:=Lib.hid h0
   rw [errV_no h0]
   clear h0
   go_wp2
   go_ret
   rw [HR.out]
   exact ⟨_,rfl,.inr ⟨H0.out,rfl,rfl⟩,HE.out _ HB1.out⟩
end Go.Proofs.YtjkbmfpomgcblaaGreatDoor
namespace Go.Proofs.YtjkbmfpomgcblaaGreatDoor
open Go.RowKit
theorem vread_cases (s:List UInt8):(∃ e,vreadF s=(e,0,[])∧e≠0)∨∃ n l,vreadF s=(0,n,l):=by
 rcases intL_cases s 16 with ⟨e,hi,he,_⟩ | ⟨R,j,hi,_⟩
 · exact .inl ⟨e,vread_few hi he,he⟩
 · match hr:rdA R (s.drop j) j 0 [] with
   | .inl e =>
     refine .inl ⟨e,vread_bad hi hr,?_⟩
     have:∀ (k:Nat) (s:List UInt8) (used:Nat) (least:Int) (acc:List Ent),rdA k s used least acc=.inl e→e≠0:=by
       intro k
       induction k with
       | zero=>intro s used least acc h;cases h
       | succ k ih =>
         intro s used least acc h
         match hg:getR s 0 least [] with
         | .inl e'=>rw [rdA_bad hg] at h;injection h with h;subst h;exact getR_err hg
         | .inr (run,j)=>rw [rdA_ok hg] at h;exact ih _ _ _ _ h
     exact this _ _ _ _ _ hr
   | .inr (l,n) =>
     by_cases h0:(vrightF l).1=0
     · exact .inr ⟨n,l,vread_ok hi hr h0⟩
     · exact .inl ⟨_,vread_wrong hi hr h0,h0⟩
end Go.Proofs.YtjkbmfpomgcblaaGreatDoor
namespace Go.Proofs.YtjkbmfpomgcblaaGreatDoor
open Go.RowKit
set_option maxRecDepth 100000 in
theorem bthrow_err (t:TypeId) (v:Value) (w:World):Calls Tryz.prog 103 #[.iface t v] w fun e w'=>e=.panicked [{ v:=.iface t v,recovered:=false }]∧w'=w:=by
 go_enter Tryz.func103,Tryz.ntmps103
 go_wp2
 exact ⟨rfl,rfl,rfl⟩
end Go.Proofs.YtjkbmfpomgcblaaGreatDoor
namespace Go.Proofs.YtjkbmfpomgcblaaGreatDoor
open Go.RowKit
theorem brightB (vf vh vw:Value) (f h:List Ent) (l:List Wr) (w:World) (hx:BatIs w vf vh vw f h l) (hg:errT w) :
   Calls Tryz.prog 43 #[.agg #[vf,vh,vw]] w (VRightIs w (batF f h l)) :=
 bright_any vf vh vw f h l w hx.1 hx.2.1 hx.2.2.1 hx.2.2.2.1 hx.2.2.2.2.1 hx.2.2.2.2.2.2 hg
end Go.Proofs.YtjkbmfpomgcblaaGreatDoor
namespace Go.Proofs.YtjkbmfpomgcblaaGreatDoor
open Go.RowKit
def Sc (w:World) (S:Nat) (s:ByteArray) (a:Nat):Prop:=w.heap[S]? = some (.cells #[.string s,.int .i64 (a:Int)] 97 (0,0))
theorem Sc.cells {w:World} {S:Nat} {s:ByteArray} {a:Nat} (h:Sc w S s a):w.cell? ⟨S,0,none⟩=some (.string s)∧w.cell? ⟨S,1,none⟩=some (.int .i64 (a:Int))∧w.frozen? ⟨S,1,none⟩=false∧S < w.heap.size:=by
 refine ⟨cell_of_row _ _ 0 _ _ (0,0) h,cell_of_row _ _ 1 _ _ (0,0) h,Lib.frozen_of_heap h 1,?_⟩
 exact (Array.getElem?_eq_some_iff.1 h).1
theorem Sc.kept {w w':World} {S:Nat} {s:ByteArray} {a:Nat} {row:Option Nat} (h:Sc w S s a) (hg:w.grownBy w' row) (hne:row≠some S):Sc w' S s a:=(hg.block S h.cells.2.2.2 (fun e=>hne e.symm)).trans h
theorem Sc.moved {w:World} {S:Nat} {s:ByteArray} {a b:Nat} (h:Sc w S s a):Sc (w.setCell ⟨S,1,none⟩ (.int .i64 (b:Int))) S s b:=by
 unfold Sc at h ⊢
 simp [World.setCell,Array.getElem?_modify,h]
theorem grown_drewN (w:World) (n:Nat) (row:Option Nat):w.grownBy (w.drewN n) row:=⟨rfl,rfl,rfl,Nat.le_refl _,fun _ _ _=>rfl⟩
theorem grown_setS {w w1:World} {S:Nat} (h:w.grownBy w1 (some S)) (v:Value):w.grownBy (w1.setCell ⟨S,1,none⟩ v) (some S) :=
 ⟨h.os,h.tape,h.output,by simpa using h.size,fun k hk hne=>by
   have hk2:S≠k:=fun e=>hne (by rw [e])
   simp only [World.setCell,Array.getElem?_modify,if_neg hk2]
   exact h.block k hk hne⟩
theorem rint_q (s:ByteArray) (most:Int) (V:Value) (w:World) (m:Nat) (hs:s.size≤maxLen) (h0 : -9223372036854775808≤most) (h1:most≤9223372036854775807) (hV:intR (intL s.data.toList most)=V) :
   Calls Tryz.prog 128 #[.string s,.int .i64 most] (w.drewN m) fun r w'=>r=.returned V∧∃ q,w'=w.drewN q :=
 (rint_any s most (w.drewN m) hs h0 h1).mono fun _ _ ⟨h2,h3⟩=>⟨by rw [h2,hV],m,h3.symm⟩
set_option maxRecDepth 100000 in
theorem next_ok (S:Nat) (s:ByteArray) (a n k:Nat) (most:Int) (w:World) (h:Sc w S s a) (hs:s.size≤1000000) (ha:a≤s.size) (hm0:0≤most) (hm:most≤1099511627776) (hg:intL (s.data.toList.drop a) most=(n,k,0)) (hk:k≤10) :
   Calls Tryz.prog 76 #[.pointer (some ⟨S,0,none⟩),.int .i64 most] w fun e w'=>e=.returned (.int .i64 (n:Int))∧Sc w' S s (a + k)∧w.grownBy w' (some S):=by
 obtain ⟨c0,c1,z1,hS⟩:=h.cells
 have H:=Lib.hid h
 have HM:Hid ((s.extract a s.size).size≤maxLen):=Lib.hid (show (s.extract a s.size).size≤maxLen by rw [ByteArray.size_extract];unfold maxLen;omega)
 have HGL:Hid (intR (intL (s.extract a s.size).data.toList most)=.tuple #[.int .i64 (n:Int),.int .i64 (k:Int),.int .i64 0]):=Lib.hid (show intR (intL (s.extract a s.size).data.toList most)=.tuple #[.int .i64 (n:Int),.int .i64 (k:Int),.int .i64 0] by rw [ext_dropV,hg];rfl)
 have d3:(0:Int)≤(a:Int):=by omega
 have d4:(a:Int)≤(s.size:Int):=by omega
 have kw:IntKind.i64.wrap ((a:Int) + (k:Int))=(a:Int) + (k:Int):=IntWalk.i64_in _ (by omega)
 clear h hg
 go_enter Tryz.func76,Tryz.ntmps76
 go_wp2
 go_quiet ((go_at_call 128;with_reducible exact rint_q (s.extract a s.size) most _ _ _ HM.out (by omega) (by omega) HGL.out))
 go_wp2
 go_ret
 have e:(a:Int) + (k:Int)=((a + k:Nat):Int):=by simp
 rw [e]
 refine ⟨rfl,Sc.moved (H.out.kept (grown_drewN w _ none) (by simp)),?_⟩
 exact grown_setS (grown_drewN w _ _) _
set_option maxRecDepth 100000 in
theorem next_bad (S:Nat) (s:ByteArray) (a x:Nat) (most:Int) (w:World) (h:Sc w S s a) (hs:s.size≤1000000) (ha:a≤s.size) (hm0:0≤most) (hm:most≤1099511627776) (hg:intL (s.data.toList.drop a) most=(0,0,x)) (hx:x≠0) :
   Calls Tryz.prog 76 #[.pointer (some ⟨S,0,none⟩),.int .i64 most] w fun e w'=>e=.panicked [{ v:=.iface 156 (.agg #[.int .i64 (x:Int),.int .i64 (a:Int)]),recovered:=false }]∧w.grownBy w' (some S):=by
 obtain ⟨c0,c1,z1,hS⟩:=h.cells
 have H:=Lib.hid h
 have HM:Hid ((s.extract a s.size).size≤maxLen):=Lib.hid (show (s.extract a s.size).size≤maxLen by rw [ByteArray.size_extract];unfold maxLen;omega)
 have HGL:Hid (intR (intL (s.extract a s.size).data.toList most)=.tuple #[.int .i64 0,.int .i64 0,.int .i64 (x:Int)]):=Lib.hid (show intR (intL (s.extract a s.size).data.toList most)=.tuple #[.int .i64 0,.int .i64 0,.int .i64 (x:Int)] by rw [ext_dropV,hg];rfl)
 have d3:(0:Int)≤(a:Int):=by omega
 have d4:(a:Int)≤(s.size:Int):=by omega
 have hne:((x:Int) != 0)=true:=by simp;omega
 clear h hg hx
 go_enter Tryz.func76,Tryz.ntmps76
 go_wp2
 go_quiet ((go_at_call 128;with_reducible exact rint_q (s.extract a s.size) most _ _ _ HM.out (by omega) (by omega) HGL.out))
 go_wp2_with fail
 refine (throw_any x (a:Int) _).mono ?_
 rintro r w' ⟨rfl,rfl⟩
 first
   | exact ⟨rfl,rfl,grown_drewN w _ _⟩
   | (show bodyPost _ _ _ _ _ _;exact ⟨rfl,rfl,grown_drewN w _ _⟩)
   | exact (show (_∧_∧_) from ⟨rfl,rfl,grown_drewN w _ _⟩)
   | (refine And.intro rfl (And.intro rfl ?_);exact grown_drewN w _ _)
   | (refine And.intro rfl ?_;exact grown_drewN w _ _)
theorem grown_on {w w1 w2:World} {S:Nat} {row:Option Nat} (h:w.grownBy w1 (some S)) (h2:w1.grownBy w2 row) (hr:∀ k,row=some k→k=S∨w.heap.size≤k):w.grownBy w2 (some S):=by
 refine ⟨h2.os.trans h.os,h2.tape.trans h.tape,h2.output.trans h.output,Nat.le_trans h.size h2.size,fun k hk hne=>?_⟩
 rw [h2.block k (Nat.lt_of_lt_of_le hk h.size) (fun e=>by
   rcases hr k e.symm with rfl | h
   · exact hne rfl
   · omega)]
 exact h.block k hk hne
end Go.Proofs.YtjkbmfpomgcblaaGreatDoor
namespace Go.Proofs.YtjkbmfpomgcblaaGreatDoor
open Go.RowKit
theorem rof_as (v:Value) (l:List Ent) (x y:Int) (w:World) (hv:IsEnts w v l) (hl:l.length≤9223372036854775807) (h:ofF l x=y) :
   Calls Tryz.prog 168 #[v,.int .i64 x] w fun r w'=>r=.returned (.int .i64 y)∧w=w':=by
 subst h;exact rof_any v l x w hv hl
theorem rof_q (v:Value) (l:List Ent) (x y:Int) (w:World) (n:Nat) (hv:IsEnts w v l) (hl:l.length≤9223372036854775807) (h:ofF l x=y) :
   Calls Tryz.prog 168 #[v,.int .i64 x] (w.drewN n) fun r w'=>r=.returned (.int .i64 y)∧∃ m,w'=w.drewN m :=
 (rof_as v l x y (w.drewN n) (hv.drewN n) hl h).mono fun _ _ ⟨h1,h2⟩=>⟨h1,n,h2.symm⟩
theorem rvright_as (v:Value) (l:List Ent) (e:Nat) (pl:Int) (w:World) (hv:IsEnts w v l) (hl:l.length≤9223372036854775807) (h:vrightF l=(e,pl)) :
   Calls Tryz.prog 112 #[v] w fun r w'=>r=.returned (.agg #[.int .i64 (e:Int),.int .i64 pl])∧Below w.heap.size w w' :=
 (rvright_any v l w hv hl).mono fun r w' ⟨h1,h2⟩=>⟨by rw [h1,h];rfl,h2⟩
theorem covA_dropR {a b:List Ent} {k:Nat} {t:Ent} (h:b[k]? = some t):covA a (b.drop k)=(decide (t.time≤ofF a t.rep) && covA a (b.drop (k + 1))):=by
 obtain ⟨hk,ht⟩:=List.getElem?_eq_some_iff.1 h
 rw [List.drop_eq_getElem_cons hk,ht];rfl
set_option maxRecDepth 100000 in
set_option maxHeartbeats 4000000 in
theorem rcov_any (va vb:Value) (a b:List Ent) (w:World) (ha:IsEnts w va a) (hb:IsEnts w vb b) (hla:a.length≤9223372036854775807) (hlb:b.length≤9223372036854775807) :
   Calls Tryz.prog 113 #[va,vb] w fun r w'=>r=.returned (.bool (covB a b))∧Below w.heap.size w w':=by
 have HVA:=Lib.hid ha
 have HVB:=Lib.hid hb
 have HLA:=Lib.hid hla
 have HLB:Hid (b.length≤9223372036854775807):=Lib.hid hlb
 obtain ⟨aa,ca,rfl,_⟩:=ha.form
 obtain ⟨ab,cb,rfl,fb⟩:=hb.form
 have FB:=Lib.hid fb
 obtain ⟨na,hna⟩:∃ n,n=a.length:=⟨_,rfl⟩
 obtain ⟨nb,hnb⟩:∃ n,n=b.length:=⟨_,rfl⟩
 have HNB:=Lib.hid hnb
 rw [←hna] at HVA ⊢
 rw [←hnb] at HVB hlb ⊢
 clear ha hb hla fb hna hnb
 obtain ⟨ea,pa,hra⟩:∃ e pl,vrightF a=(e,pl):=⟨_,_,rfl⟩
 obtain ⟨eb,pb,hrb⟩:∃ e pl,vrightF b=(e,pl):=⟨_,_,rfl⟩
 have HRA:=Lib.hid hra
 have HRB:=Lib.hid hrb
 have HC:Hid (covB a b=(decide (ea=0) && decide (eb=0) && covA a b)):=Lib.hid (show covB a b=(decide (ea=0) && decide (eb=0) && covA a b) by unfold covB;rw [hra,hrb])
 clear hra hrb
 by_cases h1:ea=0
 · have hne:((ea:Int) == 0)=true:=by simp;exact h1
   by_cases h2:eb=0
   · have hne2:((eb:Int) == 0)=true:=by simp;exact h2
     have HC2:Hid (covB a b=(true && covA a b)):=Lib.hid (show covB a b=(true && covA a b) by rw [HC.out,decide_eq_true h1,decide_eq_true h2];rfl)
     clear h1 h2 HC
     go_enter Tryz.func113,Tryz.ntmps113
     go_wp2_with fail
     refine (rvright_as _ a ea pa _ HVA.out HLA.out HRA.out).mono ?_
     rintro r w1 ⟨rfl,hb1⟩
     have HB1:=Lib.hid hb1
     clear hb1
     go_wp2_with fail
     refine (is_any ea pa _).mono ?_
     rintro r w2 ⟨rfl,hb2⟩
     rw [hne]
     have HB2:Hid (Below w.heap.size w w2):=HB1.out.trans (hb2.mono HB1.out.size)
     clear hb2
     go_wp2_with fail
     refine (rvright_as _ b eb pb _ (HVB.out.below HB2.out) HLB.out HRB.out).mono ?_
     rintro r w3 ⟨rfl,hb3⟩
     have HB3:Hid (Below w.heap.size w w3):=HB2.out.trans (hb3.mono HB2.out.size)
     clear hb3
     go_wp2_with fail
     refine (is_any eb pb _).mono ?_
     rintro r w4 ⟨rfl,hb4⟩
     rw [hne2]
     have HB4:Hid (Below w.heap.size w w4):=HB3.out.trans (hb4.mono HB3.out.size)
     clear hb4
     go_wp2
     go_loopw [5,18] (fun o i wr=>∃ (k:Nat) (ok:Bool),k≤nb∧i=.int .i64 k∧o=.bool ok∧covB a b=(ok && covA a (b.drop k))∧Below w.heap.size w wr) (fun _ i _=>nb - (intOf i).toNat)
     case atStart=>exact ⟨0,true,by omega,rfl,rfl,HC2.out,HB4.out⟩
     case round =>
       obtain ⟨k,ok,hk,rfl,rfl,heq,hbel⟩:=hrel
       have HEQ:=Lib.hid heq
       have HB:=Lib.hid hbel
       have hzr:=hbel.size
       clear heq hbel
       by_cases hlt:k < nb
       · obtain ⟨t, ht⟩ : ∃ t, b[k]? = some t := ⟨b[k]'(by have := HNB.out; omega), List.getElem?_eq_getElem _⟩
         obtain ⟨b1,o1,rfl,hb1,p0,p1⟩:=FB.out k t ht
         have hd:=covA_dropR (a:=a) ht
         obtain ⟨rep,time⟩:=t
         simp only at p0 p1 hd
         have q0:=(HB.out.cell (p:=⟨b1,o1 + k * 2,none⟩) hb1).trans p0
         have q1:=(HB.out.cell (p:=⟨b1,o1 + k * 2 + 1,none⟩) hb1).trans p1
         cases ok with
         | false =>
           have HW:Hid (covB a b=(false && covA a (b.drop (k + 1)))):=HEQ
           clear p0 p1 ht hd
           go_wp2
           go_quiet (fail)
           go_wp2
           go_roundw
           case rel=>exact ⟨k + 1,false,by omega,by go_num,rfl,HW.out,below_drewN (HB.out.alloc hzr _) _⟩
           case measure=>simp [intOf];omega
         | true =>
           obtain ⟨x,hx⟩:∃ x,ofF a rep=x:=⟨_,rfl⟩
           rw [hx] at hd
           have HX:=Lib.hid hx
           by_cases hlx:time≤x
           · have HW:Hid (covB a b=(true && covA a (b.drop (k + 1)))):=Lib.hid (show covB a b=(true && covA a (b.drop (k + 1))) by rw [HEQ.out,hd,decide_eq_true hlx,Bool.true_and])
             clear p0 p1 ht hd hx
             go_wp2
             go_quiet ((go_at_call 168;exact rof_q _ a rep x _ _ ((HVA.out.below HB.out).alloc _) HLA.out HX.out))
             go_wp2
             go_roundw
             case rel=>exact ⟨k + 1,true,by omega,by go_num,rfl,HW.out,below_drewN (HB.out.alloc hzr _) _⟩
             case measure=>simp [intOf];omega
           · have HW:Hid (covB a b=(false && covA a (b.drop (k + 1)))):=Lib.hid (show covB a b=(false && covA a (b.drop (k + 1))) by rw [HEQ.out,hd,decide_eq_false hlx];rfl)
             clear p0 p1 ht hd hx
             go_wp2
             go_quiet ((go_at_call 168;exact rof_q _ a rep x _ _ ((HVA.out.below HB.out).alloc _) HLA.out HX.out))
             go_wp2
             go_roundw
             case rel=>exact ⟨k + 1,false,by omega,by go_num,by first | rfl | (congr 1;exact decide_eq_false (by omega)),HW.out,below_drewN (HB.out.alloc hzr _) _⟩
             case measure=>simp [intOf];omega
       · have HW:Hid (covB a b=ok):=Lib.hid (show covB a b=ok by rw [HEQ.out,List.drop_eq_nil_of_le (by have:=HNB.out;omega)];show (ok && true)=ok;simp)
         go_wp2
         go_ret
         exact ⟨by rw [HW.out];rfl,HB.out⟩
   · have hne2:((eb:Int) == 0)=false:=by simp;exact h2
     have HC2:Hid (covB a b=false):=Lib.hid (show covB a b=false by rw [HC.out,decide_eq_false h2];simp)
     clear h1 h2 HC
     go_enter Tryz.func113,Tryz.ntmps113
     go_wp2_with fail
     refine (rvright_as _ a ea pa _ HVA.out HLA.out HRA.out).mono ?_
     rintro r w1 ⟨rfl,hb1⟩
     have HB1:=Lib.hid hb1
     clear hb1
     go_wp2_with fail
     refine (is_any ea pa _).mono ?_
     rintro r w2 ⟨rfl,hb2⟩
     rw [hne]
     have HB2:Hid (Below w.heap.size w w2):=HB1.out.trans (hb2.mono HB1.out.size)
     clear hb2
     go_wp2_with fail
     refine (rvright_as _ b eb pb _ (HVB.out.below HB2.out) HLB.out HRB.out).mono ?_
     rintro r w3 ⟨rfl,hb3⟩
     have HB3:Hid (Below w.heap.size w w3):=HB2.out.trans (hb3.mono HB2.out.size)
     clear hb3
     go_wp2_with fail
     refine (is_any eb pb _).mono ?_
     rintro r w4 ⟨rfl,hb4⟩
     rw [hne2]
     have HB4:Hid (Below w.heap.size w w4):=HB3.out.trans (hb4.mono HB3.out.size)
     clear hb4
     go_wp2
     go_loopw [5,18] (fun o i wr=>∃ (k:Nat),k≤nb∧i=.int .i64 k∧o=.bool false∧Below w.heap.size w wr) (fun _ i _=>nb - (intOf i).toNat)
     case atStart=>exact ⟨0,by omega,rfl,rfl,HB4.out⟩
     case round =>
       obtain ⟨k,hk,rfl,rfl,hbel⟩:=hrel
       have HB:=Lib.hid hbel
       have hzr:=hbel.size
       clear hbel
       by_cases hlt:k < nb
       · obtain ⟨t, ht⟩ : ∃ t, b[k]? = some t := ⟨b[k]'(by have := HNB.out; omega), List.getElem?_eq_getElem _⟩
         obtain ⟨b1,o1,rfl,hb1,p0,p1⟩:=FB.out k t ht
         obtain ⟨rep,time⟩:=t
         simp only at p0 p1
         have q0:=(HB.out.cell (p:=⟨b1,o1 + k * 2,none⟩) hb1).trans p0
         have q1:=(HB.out.cell (p:=⟨b1,o1 + k * 2 + 1,none⟩) hb1).trans p1
         clear p0 p1 ht
         go_wp2
         go_quiet (fail)
         go_wp2
         go_roundw
         case rel=>exact ⟨k + 1,by omega,by go_num,rfl,below_drewN (HB.out.alloc hzr _) _⟩
         case measure=>simp [intOf];omega
       · go_wp2
         go_ret
         exact ⟨by rw [HC2.out];rfl,HB.out⟩
 · have hne:((ea:Int) == 0)=false:=by simp;exact h1
   have HC2:Hid (covB a b=false):=Lib.hid (show covB a b=false by rw [HC.out,decide_eq_false h1];simp)
   clear h1 HC
   go_enter Tryz.func113,Tryz.ntmps113
   go_wp2_with fail
   refine (rvright_as _ a ea pa _ HVA.out HLA.out HRA.out).mono ?_
   rintro r w1 ⟨rfl,hb1⟩
   have HB1:=Lib.hid hb1
   clear hb1
   go_wp2_with fail
   refine (is_any ea pa _).mono ?_
   rintro r w2 ⟨rfl,hb2⟩
   rw [hne]
   have HB4:Hid (Below w.heap.size w w2):=HB1.out.trans (hb2.mono HB1.out.size)
   clear hb2
   go_wp2
   go_loopw [5,18] (fun o i wr=>∃ (k:Nat),k≤nb∧i=.int .i64 k∧o=.bool false∧Below w.heap.size w wr) (fun _ i _=>nb - (intOf i).toNat)
   case atStart=>exact ⟨0,by omega,rfl,rfl,HB4.out⟩
   case round =>
     obtain ⟨k,hk,rfl,rfl,hbel⟩:=hrel
     have HB:=Lib.hid hbel
     have hzr:=hbel.size
     clear hbel
     by_cases hlt:k < nb
     · obtain ⟨t, ht⟩ : ∃ t, b[k]? = some t := ⟨b[k]'(by have := HNB.out; omega), List.getElem?_eq_getElem _⟩
       obtain ⟨b1,o1,rfl,hb1,p0,p1⟩:=FB.out k t ht
       obtain ⟨rep,time⟩:=t
       simp only at p0 p1
       have q0:=(HB.out.cell (p:=⟨b1,o1 + k * 2,none⟩) hb1).trans p0
       have q1:=(HB.out.cell (p:=⟨b1,o1 + k * 2 + 1,none⟩) hb1).trans p1
       clear p0 p1 ht
       go_wp2
       go_quiet (fail)
       go_wp2
       go_roundw
       case rel=>exact ⟨k + 1,by omega,by go_num,rfl,below_drewN (HB.out.alloc hzr _) _⟩
       case measure=>simp [intOf];omega
     · go_wp2
       go_ret
       exact ⟨by rw [HC2.out];rfl,HB.out⟩
end Go.Proofs.YtjkbmfpomgcblaaGreatDoor
namespace Go.Proofs.YtjkbmfpomgcblaaGreatDoor
open Go.RowKit
def WU (w1:World) (vt vn:Value) (T:List ByteArray) (N:List Nat) (pre:List UInt8) (wr:World):Prop :=
 isBldW wr w1.heap.size w1.heap.size pre∧Below w1.heap.size w1 wr∧ownsS wr (w1.heap.size + 1) vt T∧ownsN wr (w1.heap.size + 1) vn N
theorem WU.lt {w1 wr:World} {vt vn:Value} {T:List ByteArray} {N:List Nat} {pre:List UInt8} (h:WU w1 vt vn T N pre wr):w1.heap.size < wr.heap.size:=h.1.lt.2
theorem WU.calls {w1 wr w':World} {vt vn:Value} {T:List ByteArray} {N:List Nat} {pre:List UInt8} (h:WU w1 vt vn T N pre wr) (hb:Below wr.heap.size wr w'):WU w1 vt vn T N pre w' :=
 ⟨h.1.below hb,h.2.1.trans (hb.mono h.2.1.size),h.2.2.1.below hb,h.2.2.2.below hb⟩
theorem WU.alloc {w1 wr:World} {vt vn:Value} {T:List ByteArray} {N:List Nat} {pre:List UInt8} (h:WU w1 vt vn T N pre wr) (o:Obj):WU w1 vt vn T N pre (wr.alloc o):=h.calls ((Below.refl _ _).alloc (Nat.le_refl _) o)
theorem WU.put {w1 wr w':World} {vt vn:Value} {T:List ByteArray} {N:List Nat} {pre pre':List UInt8} (h:WU w1 vt vn T N pre wr) (h1:isBldW w' w1.heap.size w1.heap.size pre') (hb:Below w1.heap.size wr w') (hn:NonB w1.heap.size wr w'):WU w1 vt vn T N pre' w' :=
 ⟨h1,h.2.1.trans hb,NonB.row hn h.2.2.1 (by decide) (fun e=>by have:=(h.2.2.1.lt _ e).1;omega),NonB.row hn h.2.2.2 (by decide) (fun e=>by have:=(h.2.2.2.lt _ e).1;omega)⟩
def WQ (w1:World) (vt vn:Value) (T:List ByteArray) (N:List Nat) (Q:Nat) (x:Wr) (pre:List UInt8) (wr:World):Prop :=
 WU w1 vt vn T N pre wr∧wrBlk wr Q x∧w1.heap.size < Q
theorem WQ.calls {w1 wr w':World} {vt vn:Value} {T:List ByteArray} {N:List Nat} {Q:Nat} {x:Wr} {pre:List UInt8} (h:WQ w1 vt vn T N Q x pre wr) (hb:Below wr.heap.size wr w'):WQ w1 vt vn T N Q x pre w' :=
 ⟨h.1.calls hb,(hb.block Q (Array.getElem?_eq_some_iff.1 h.2.1).1).trans h.2.1,h.2.2⟩
theorem WQ.put {w1 wr w':World} {vt vn:Value} {T:List ByteArray} {N:List Nat} {Q:Nat} {x:Wr} {pre pre':List UInt8} (h:WQ w1 vt vn T N Q x pre wr) (h1:isBldW w' w1.heap.size w1.heap.size pre') (hb:Below w1.heap.size wr w') (hn:NonB w1.heap.size wr w'):WQ w1 vt vn T N Q x pre' w' :=
 ⟨h.1.put h1 hb hn,(hn Q (Array.getElem?_eq_some_iff.1 h.2.1).1 (by have:=h.2.2;omega) (fun cs fz hc=>by rw [h.2.1] at hc;injection hc with hc;injection hc with _ ht;exact absurd ht (by decide))).trans h.2.1,h.2.2⟩
theorem WQ.cells {w1 wr:World} {vt vn:Value} {T:List ByteArray} {N:List Nat} {Q:Nat} {x:Wr} {pre:List UInt8} (h:WQ w1 vt vn T N Q x pre wr):wrAt wr Q x.time x.rep x.kind x.key x.value x.n :=
 ⟨cell_of_row _ _ 0 _ _ _ h.2.1,cell_of_row _ _ 1 _ _ _ h.2.1,cell_of_row _ _ 2 _ _ _ h.2.1,cell_of_row _ _ 3 _ _ _ h.2.1,cell_of_row _ _ 4 _ _ _ h.2.1,cell_of_row _ _ 5 _ _ _ h.2.1⟩
theorem brightB_as2 (vf vh vw:Value) (f h:List Ent) (l:List Wr) (e:Nat) (pl:Int) (w:World) (hx:BatIs w vf vh vw f h l) (hg:errT w) (hb:batF f h l=(e,pl)) :
   Calls Tryz.prog 43 #[.agg #[vf,vh,vw]] w (VRightIs w (e,pl)):=by
 rw [←hb];exact brightB vf vh vw f h l w hx hg
end Go.Proofs.YtjkbmfpomgcblaaGreatDoor
