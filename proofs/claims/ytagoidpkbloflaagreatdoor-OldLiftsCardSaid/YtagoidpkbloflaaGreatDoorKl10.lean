import Derived.Test.YtagoidpkbloflaaGreatDoorKlq
import Derived.Test.YtagoidpkbloflaaGreatDoorKl09
namespace Go.Proofs.YtagoidpkbloflaaGreatDoor
open Lib (hid)
set_option maxRecDepth 100000
set_option maxHeartbeats 8000000
section
open Go.RowKit
def iJ (f h:List Ent) (l:List Wr) (f2 h2:List Ent) (l2:List Wr):Bool:=decide (f=f2) && decide (h=h2) && decide (l=l2)
theorem rm (f h:List Ent) (l:List Wr):iJ f h l f h l=true:=by simp [iJ]
def bat2 (w:World) (B:Nat) (a b c d e g:Value):Prop :=
 w.cell? ⟨B,0,none⟩=some a∧w.cell? ⟨B,1,none⟩=some b∧w.cell? ⟨B,2,none⟩=some c∧w.cell? ⟨B+1,0,none⟩=some d∧w.cell? ⟨B+1,1,none⟩=some e∧w.cell? ⟨B+1,2,none⟩=some g
theorem tG (w:World) (a b c d e g:Value) (t u:TypeId):bat2 ((w.alloc (.cells #[a,b,c] t)).alloc (.cells #[d,e,g] u)) w.heap.size a b c d e g:=by
 unfold bat2;simp
theorem bat2.drewN {w:World} {B:Nat} {a b c d e g:Value} (h:bat2 w B a b c d e g) (n:Nat):bat2 (w.drewN n) B a b c d e g:=h
theorem bat2.below {w w':World} {B:Nat} {a b c d e g:Value} {m:Nat} (h:bat2 w B a b c d e g) (hb:Below m w w') (hm:B+1<m):bat2 w' B a b c d e g :=
 ⟨(hb.cell (Ed hm)).trans h.1,(hb.cell (Ed hm)).trans h.2.1,(hb.cell (Ed hm)).trans h.2.2.1,(hb.cell hm).trans h.2.2.2.1,(hb.cell hm).trans h.2.2.2.2.1,(hb.cell hm).trans h.2.2.2.2.2⟩
end
section
theorem jo (x1 x2 y1 y2:Int):cI (x1,x2) (y1,y2)=if x1<y1∨x1=y1∧x2<y2 then -1 else if x1=y1∧x2=y2 then 0 else 1:=by
 unfold cI orF cmpF;simp only
 repeat' split
 all_goals omega
theorem uB (x1 x2 y1 y2:Int):cI (y1,y2) (x1,x2)=- cI (x1,x2) (y1,y2):=by
 rw [jo,jo]
 repeat' split
 all_goals omega
theorem oY (x1 x2 y1 y2:Int):cI (x1,x2) (y1,y2)=-1∨cI (x1,x2) (y1,y2)=0∨cI (x1,x2) (y1,y2)=1:=by
 rw [jo]
 repeat' split
 all_goals omega
theorem uC {x1 x2 y1 y2 z1 z2:Int} (h1:cI (x1,x2) (y1,y2)=-1) (h2:cI (y1,y2) (z1,z2)=-1):cI (x1,x2) (z1,z2)=-1:=by
 rw [jo] at h1 h2 ⊢;split at h1
 ·split at h2
  ·rw [if_pos (by omega)]
  ·split at h2 <;> omega
 ·split at h1 <;> omega
end
section
open Go.RowKit
theorem Cx (x1 x2:Int) (vf vh:Value) (f h:List Ent) (w:World) (hf:ae w vf f) (hh:ae w vh h) (hlf:f.length≤9223372036854775807) (hlh:h.length≤9223372036854775807) (b:Bool) (hb:wiF (x1,x2) f h=b) :
 Calls Tryz.prog 169 #[.agg #[.int .i64 x1,.int .i64 x2],vf,vh] w fun e w'=>e=.returned (.bool b)∧Below w.heap.size w w':=by
 subst hb;obtain ⟨p,hp⟩:∃ p,ofF f x2=p:=⟨_,rfl⟩;obtain ⟨q,hq⟩:∃ q,ofF h x2=q:=⟨_,rfl⟩;have HP:=hid hp;have HQ:=hid hq;have HLF:=hid hlf;have HLH:=hid hlh;have HF:Hid (ae (w.alloc (.cells #[.int .i64 x1,.int .i64 x2] 76)).drew vf f):=hid ((hf.alloc _).drewN 1);have HH:Hid (ae (w.alloc (.cells #[.int .i64 x1,.int .i64 x2] 76)).drew vh h):=hid ((hh.alloc _).drewN 1);have c0:(w.alloc (.cells #[.int .i64 x1,.int .i64 x2] 76)).cell? ⟨w.heap.size,0,none⟩=some (.int .i64 x1)∧(w.alloc (.cells #[.int .i64 x1,.int .i64 x2] 76)).cell? ⟨w.heap.size,1,none⟩=some (.int .i64 x2):=by simp
 have hval:wiF (x1,x2) f h=(decide (p<x1) && decide (x1≤q)):=by unfold wiF;simp only;rw [hp,hq]
 have HB0:Hid (Below w.heap.size w (w.alloc (.cells #[.int .i64 x1,.int .i64 x2] 76)).drew):=hid ((Below.refl _ _).alloc (Db _) _).drew;by_cases h1:p<x1
 ·by_cases h2:x1≤q
  ·have HW:Hid (wiF (x1,x2) f h=true):=hid (by rw [hval,DX h1,DX h2];rfl);clear hf hh hp hq hlf hlh hval;rw [HW.out];go_enter Tryz.func169,Tryz.ntmps169
   go_wp2;go_region_held3 (fun w'=>w'.cell? ⟨w.heap.size,0,none⟩=some (.int .i64 x1)∧w'.cell? ⟨w.heap.size,1,none⟩=some (.int .i64 x2)) (first | exact c0 | exact c2 | exact c3) (first
    | (go_at_call 195;((with_reducible refine (iW vf f x2 p _ HF.out HLF.out HP.out).mono ?_);rintro r w2 ⟨rfl,hb2⟩;have c2:w2.cell? ⟨w.heap.size,0,none⟩=some (.int .i64 x1)∧w2.cell? ⟨w.heap.size,1,none⟩=some (.int .i64 x2):=⟨(hb2.cell (by simp)).trans c0.1,(hb2.cell (by simp)).trans c0.2⟩;have HB2:Hid (Below w.heap.size w w2):=(HB0.out.trans (hb2.mono (by simp)));have HH2:=hid (HH.out.below hb2);have HZ2:Hid (w.heap.size<w2.heap.size):=(Dv (by simp) hb2.size);clear hb2))
    | (go_at_call 195;((with_reducible refine (iW vh h x2 q w2 HH2.out HLH.out HQ.out).mono ?_);rintro r w3 ⟨rfl,hb3⟩;have c3:w3.cell? ⟨w.heap.size,0,none⟩=some (.int .i64 x1)∧w3.cell? ⟨w.heap.size,1,none⟩=some (.int .i64 x2):=⟨(hb3.cell HZ2.out).trans c2.1,(hb3.cell HZ2.out).trans c2.2⟩;have HB3:Hid (Below w.heap.size w w3):=(HB2.out.trans (hb3.mono HB2.out.size));clear hb3)))
   go_wp2;go_ret;exact ⟨rfl,HB3.out⟩
  ·have HW:Hid (wiF (x1,x2) f h=false):=hid (by rw [hval,DX h1,Dx h2];rfl);have d7:decide (x1≤q)=false:=Dx h2;clear hf hh hp hq hlf hlh hval h2;rw [HW.out];go_enter Tryz.func169,Tryz.ntmps169
   go_wp2;go_region_held3 (fun w'=>w'.cell? ⟨w.heap.size,0,none⟩=some (.int .i64 x1)∧w'.cell? ⟨w.heap.size,1,none⟩=some (.int .i64 x2)) (first | exact c0 | exact c2 | exact c3) (first
    | (go_at_call 195;((with_reducible refine (iW vf f x2 p _ HF.out HLF.out HP.out).mono ?_);rintro r w2 ⟨rfl,hb2⟩;have c2:w2.cell? ⟨w.heap.size,0,none⟩=some (.int .i64 x1)∧w2.cell? ⟨w.heap.size,1,none⟩=some (.int .i64 x2):=⟨(hb2.cell (by simp)).trans c0.1,(hb2.cell (by simp)).trans c0.2⟩;have HB2:Hid (Below w.heap.size w w2):=(HB0.out.trans (hb2.mono (by simp)));have HH2:=hid (HH.out.below hb2);have HZ2:Hid (w.heap.size<w2.heap.size):=(Dv (by simp) hb2.size);clear hb2))
    | (go_at_call 195;((with_reducible refine (iW vh h x2 q w2 HH2.out HLH.out HQ.out).mono ?_);rintro r w3 ⟨rfl,hb3⟩;have c3:w3.cell? ⟨w.heap.size,0,none⟩=some (.int .i64 x1)∧w3.cell? ⟨w.heap.size,1,none⟩=some (.int .i64 x2):=⟨(hb3.cell HZ2.out).trans c2.1,(hb3.cell HZ2.out).trans c2.2⟩;have HB3:Hid (Below w.heap.size w w3):=(HB2.out.trans (hb3.mono HB2.out.size));clear hb3)))
   go_wp2;go_ret;exact ⟨rfl,HB3.out⟩
 ·have HW:Hid (wiF (x1,x2) f h=false):=hid (by rw [hval,Dx h1];rfl);have d6:decide (p<x1)=false:=Dx h1;clear hf hh hp hq hlf hlh hval h1;rw [HW.out];go_enter Tryz.func169,Tryz.ntmps169
  go_wp2;refine Ea (S:=fun w'=>w'.cell? ⟨w.heap.size,0,none⟩=some (.int .i64 x1)∧w'.cell? ⟨w.heap.size,1,none⟩=some (.int .i64 x2)) (by kernel_rfl) c0 (fun hHeld=>?_);refine tkO 0 ?_
  refine tkO 1 ?_
  refine tkO 2 ?_
  refine tkO 3 ?_
  refine tkO 4 ?_
  refine Dm (rs:=[5]) (by kernel_rfl) (by simp) ?_;refine Dk rfl (fun K hK=>?_) Dn
  go_simp
  refine (iW vf f x2 p _ HF.out HLF.out HP.out).mono ?_;rintro r w2 ⟨rfl,hb2⟩;have c2:w2.cell? ⟨w.heap.size,0,none⟩=some (.int .i64 x1)∧w2.cell? ⟨w.heap.size,1,none⟩=some (.int .i64 x2):=⟨(hb2.cell (by simp)).trans c0.1,(hb2.cell (by simp)).trans c0.2⟩;have HB2:Hid (Below w.heap.size w w2):=HB0.out.trans (hb2.mono (by simp));clear hb2;refine hK.out _ _ c2 (fun hHeld2=>sp ?_);clear hK hHeld
  refine tkO 6 ?_
  refine tkO 7 ?_
  refine Ee (i:=8) (v:=undef) rfl (by kernel_rfl) (by kernel_rfl) (by kernel_rfl) (fun _ _ _ h=>h) (Or.inr ⟨by rfl,rfl⟩) (by assumption) (sp ?_)
  refine Ee (i:=10) (v:=undef) rfl (by kernel_rfl) (by kernel_rfl) (by kernel_rfl) (fun _ _ _ h=>h) (Or.inr ⟨by rfl,rfl⟩) (by assumption) (sp ?_)
  refine Ee (i:=11) (v:=undef) rfl (by kernel_rfl) (by kernel_rfl) (by kernel_rfl) (fun _ _ _ h=>h) (Or.inr ⟨by rfl,rfl⟩) (by assumption) (sp ?_)
  refine Ee (i:=9) (v:=undef) rfl (by kernel_rfl) (by kernel_rfl) (by kernel_rfl) (fun _ _ _ h=>h) (Or.inr ⟨by rfl,rfl⟩) (by assumption) (sp ?_)
  refine Ee (i:=12) (v:=undef) rfl (by kernel_rfl) (by kernel_rfl) (by kernel_rfl) (fun _ _ _ h=>h) (Or.inr ⟨by rfl,rfl⟩) (by assumption) (sp ?_)
  refine Ee (i:=13) (v:=undef) rfl (by kernel_rfl) (by kernel_rfl) (by kernel_rfl) (fun _ _ _ h=>h) (Or.inr ⟨by rfl,rfl⟩) (by assumption) (sp ?_)
  refine Ee (i:=14) (v:=undef) rfl (by kernel_rfl) (by kernel_rfl) (by kernel_rfl) (fun _ _ _ h=>h) (Or.inr ⟨by rfl,rfl⟩) (by assumption) (sp ?_)
  refine tkO 15 ?_
  refine tkO 16 ?_
  refine DZ (by kernel_rfl) ?_ _;go_wp2;go_ret;exact ⟨rfl,HB2.out⟩
end
section
open Go.RowKit
def RTk (s:ByteArray) (B a:Nat) (v:Value) (w wr:World):Prop :=
 ∃ (f fr:Nat) (acc:List Tok),fr≤a∧a≤s.size∧s.size≤a+f∧acc.length≤a∧toks s.data.toList=acc++tks s.data.toList f fr a∧Below B w wr ∧
  ((fr=a∧(acc=[]∨∃ r b n,acc=r++[repT b n])∧ax wr B v acc)∨(fr<a∧ax wr B v (acc++[⟨s.extract fr a,0,0⟩])))
theorem pend (s:ByteArray) (fr a:Nat) (h:fr<a) (ha:a≤s.size):ownT ((s.data.toList.take a).drop fr)=[⟨s.extract fr a,0,0⟩]:=by
 have hne:(s.data.toList.take a).drop fr≠[]:=by
  intro e;have:=congrArg List.length e;rw [Dj,DK,←ac] at this;simp at this;omega
 rw [mG hne,←cE,bF]
theorem qI (s:ByteArray) (a:Nat):ownT ((s.data.toList.take a).drop a)=[]:=by
 have:(s.data.toList.take a).drop a=[]:=by apply DD;simp;omega
 rw [this];rfl
theorem vJ (s:ByteArray) (fr a:Nat) (h:fr≤a) (ha:a<s.size):s.extract fr a++s.extract a (a+1)=s.extract fr (a+1):=by
 apply cX
 rw [bE,cE,cE,cE];have hl:a<s.data.toList.length:=by rw [←ac];exact ha
 rw [←List.drop_append_of_le_length (by rw [DK];omega)]
 congr 1
 rw [E8 hl]
 congr 1
 rw [List.drop_append_of_le_length (by rw [DK];omega)];simp
theorem vK (s:ByteArray) (fr a:Nat) (h:fr<a) (ha:a≤s.size):(s.extract fr a).toList.isEmpty=false:=by
 rw [toL];have hl:(s.extract fr a).data.toList.length=a-fr:=by rw [←ac,DJ];omega
 cases h2:(s.extract fr a).data.toList with
 | nil=>rw [h2] at hl;simp at hl;omega
 | cons=>rfl
theorem Ah (s:ByteArray) (w:World) (hs:s.size≤400000) :
 Calls Tryz.prog 52 #[.string s] w (ou w (toks s.data.toList)):=by
 have HS : Hid (s.size ≤ maxLen) := by have h : s.size ≤ maxLen := by unfold maxLen; omega
                                       exact h
 have hlen:s.data.toList.length=s.size:=(ac s).symm;have HL:=hid hlen;clear hlen;go_enter Tryz.func52,Tryz.ntmps52
 go_wp2
 go_loopw [3,4] (fun v a wr=>∃ a':Nat,a=.int .i64 a'∧a'≤s.size∧RTk s w.heap.size a' v w wr) (fun _ a _=>s.size-(intOf a).toNat)
 case atStart=>exact ⟨0,rfl,by omega,s.size,0,[],Db _,Ds _,by omega,by simp,by unfold toks;rw [HL.out];rfl,Below.refl _ _,.inl ⟨rfl,.inl rfl,fK _ _⟩⟩
 case round =>
  obtain ⟨a,rfl,ha,hRT⟩:=hrel;have HRT:=hid hRT;clear hRT;by_cases hlt:a<s.size
  ·obtain ⟨f,fr,acc,hfr,_,hf,hac,heq,hbel,hown⟩:=HRT.out;have HBEL:=hid hbel;have HOWN:=hid hown;have HEQ:=hid heq;clear hbel hown heq HRT;obtain ⟨f,rfl⟩:∃ f',f=f'+1:=⟨f-1,by omega⟩;have hl:a<s.data.toList.length:=by rw [HL.out];exact hlt
   rcases lX s.data.toList a with ⟨hz,_⟩ | ⟨b,n,hfn,_,hb1,hb2,hb3,hn1,hn2,hn3,_⟩
   ·have HR : Hid (dR (find s.data.toList a) = .tuple #[.int .i64 0, .int .i64 0]) := by
     have h:dR (find s.data.toList a)=.tuple #[.int .i64 0,.int .i64 0]:=by rw [hz];rfl
     exact h
    have HN:Hid (toks s.data.toList=acc++tks s.data.toList f fr (a+1)):=by
     have h:toks s.data.toList=acc++tks s.data.toList f fr (a+1):=by rw [HEQ.out,nk hl (by rw [hz])]
     exact h
    clear hz hl HEQ;rcases HOWN.out with ⟨hfa,hacc,ho⟩ | ⟨hfa,ho⟩
    ·subst hfa;have HACC:=hid hacc;have HO:=hid ho;obtain ⟨t,ht⟩:∃ t:ByteArray,t=⟨#[]⟩:=⟨_,rfl⟩;have HT:=hid ht;have HB0:Hid (Below w.heap.size w wr):=HBEL.out;obtain ⟨k,hk⟩:∃ k,k=acc.length:=⟨_,rfl⟩;have HK:=hid hk;have hkl:k≤s.size:=by omega
     have HKL : Hid (acc.length + 1 ≤ 1000000) := by have h : acc.length + 1 ≤ 1000000 := by omega
                                                     exact h
     have e1:(fr:Int)≤(fr:Int)+1:=by omega
     have e2:(fr:Int)+1≤(s.size:Int):=by omega
     have hzr:=HB0.out.size;have HAC:=hid hac;clear ho HOWN HBEL hacc ht;rcases HACC.out with hnil | ⟨r,b0,n0,hrep⟩
     ·obtain ⟨va,vc,hv,_⟩:=HO.out.is.form;have hkz:acc.length=0:=by rw [hnil];rfl
      rw [hkz] at hv;subst hv;clear hkz hac hk HACC hnil;go_wp2_with fail
      refine (ki s fr _ HS.out hlt).mono ?_;rintro e w1 ⟨rfl,q1,rfl⟩;rw [HR.out];go_wp2_with (at_builtin;refine fU rfl _ _ rfl w.heap.size _ acc rfl ((HO.out.drewN _).alloc _) wr.heap.size 1 rfl ⟨⟨#[]⟩,0,0⟩ ?a1 ?a2 ?a3 ?_)
      case a1=>exact e8 _ _ _ _
      case a2=>exact HKL.out
      case a3=>simp;omega
      ·intro g cap w2 ho2 hg2;have hbel2:Below w.heap.size w w2:=((below_drewN HB0.out q1).alloc hzr _).grown hg2 (by simp;omega) (fun g hg=>(HO.out.lt g hg).1);have HB2:=hid hbel2;obtain ⟨hc1,hc2,hc3⟩:=ho2.last rfl;simp only at hc1
       rw [←HT.out] at hc1;have HO2:=hid ho2;rw [←HK.out] at hc1 hc2;rw [←HK.out];have htz:t.size≤400000:=by rw [HT.out];decide
       clear ho2 hg2 hbel2;go_wp2;go_region
       clear hc1 hc2 htz;go_wp2;go_roundw
       case rel =>
        refine ⟨fr+1,by go_num,by omega,f,fr,acc,by omega,by omega,by omega,by have:=HAC.out;omega,HN.out,(below_drewN HB2.out _).setCell hc3 _,.inr ⟨by omega,?_⟩⟩;rw [HK.out,HT.out,show (⟨#[]⟩:ByteArray)++s.extract fr (fr+1)=s.extract fr (fr+1) from cX (by rw [bE];rfl)];exact (HO2.out.drewN _).stored rfl _
       case measure=>simp [intOf];omega
     ·have ho:=HO.out;rw [hrep] at ho;obtain ⟨g0,cap0,hv⟩:=ho.form;subst hv;obtain ⟨hc1,hc2,hc3⟩:=ho.last rfl;obtain ⟨k0,hk0⟩:∃ k,k=r.length:=⟨_,rfl⟩;have hkk:acc.length=k0+1:=by rw [hrep,hk0,Df];rfl
      rw [←hk0] at hc1 hc2 HO;rw [←hk0];have hc1':wr.cell? ⟨g0,k0 * 3,none⟩=some (.string ⟨#[]⟩):=hc1;have hkb:((k0:Int)+1 == 0)=false:=by simp;omega
      have hkl0:k0≤s.size:=by omega
      clear ho hac hk HACC hrep hc1 hk0 hkk;go_wp2_with fail
      refine (ki s fr _ HS.out hlt).mono ?_;rintro e w1 ⟨rfl,q1,rfl⟩;rw [HR.out];go_wp2_with (at_builtin;refine fU rfl _ _ rfl w.heap.size _ acc rfl ((HO.out.drewN _).alloc _) wr.heap.size 1 rfl ⟨⟨#[]⟩,0,0⟩ ?b1 ?b2 ?b3 ?_)
      case b1=>exact e8 _ _ _ _
      case b2=>exact HKL.out
      case b3=>simp;omega
      ·intro g cap w2 ho2 hg2;clear hc1' hc2 hc3 hkb;have hbel2:Below w.heap.size w w2:=((below_drewN HB0.out q1).alloc hzr _).grown hg2 (by simp;omega) (fun g hg=>(HO.out.lt g hg).1);have HB2:=hid hbel2;obtain ⟨hc1,hc2,hc3⟩:=ho2.last rfl;simp only at hc1
       rw [←HT.out] at hc1;have HO2:=hid ho2;rw [←HK.out] at hc1 hc2;rw [←HK.out];have htz:t.size≤400000:=by rw [HT.out];decide
       clear ho2 hg2 hbel2;go_wp2;go_region
       clear hc1 hc2 htz;go_wp2;go_roundw
       case rel =>
        refine ⟨fr+1,by go_num,by omega,f,fr,acc,by omega,by omega,by omega,by have:=HAC.out;omega,HN.out,(below_drewN HB2.out _).setCell hc3 _,.inr ⟨by omega,?_⟩⟩;rw [HK.out,HT.out,show (⟨#[]⟩:ByteArray)++s.extract fr (fr+1)=s.extract fr (fr+1) from cX (by rw [bE];rfl)];exact (HO2.out.drewN _).stored rfl _
       case measure=>simp [intOf];omega
    ·obtain ⟨g,cap,hv⟩:=ho.form;subst hv;obtain ⟨hc1,hc2,hc3⟩:=ho.last rfl;have HO:=hid ho;obtain ⟨k,hk⟩:∃ k,k=acc.length:=⟨_,rfl⟩;rw [←hk] at hc1 hc2 HO;rw [←hk];have HK:=hid hk;obtain ⟨t,ht⟩:∃ t,t=s.extract fr a:=⟨_,rfl⟩;have hte:t.toList.isEmpty=false:=by rw [ht];exact vK s fr a hfa ha
     have htz:t.size≤400000:=by rw [ht,DJ];omega
     have hkb:((k:Int)+1 == 0)=false:=by simp;omega
     simp only at hc1
     rw [←ht] at hc1;have HT:=hid ht;have e1:(a:Int)≤(a:Int)+1:=by omega
     have e2:(a:Int)+1≤(s.size:Int):=by omega
     have hkl:k≤s.size:=by omega
     have HAC:=hid hac;clear ho hk ht HOWN hac;go_wp2_with fail
     refine (ki s a _ HS.out hlt).mono ?_;rintro e w1 ⟨rfl,q1,rfl⟩;rw [HR.out];go_wp2;go_region
     clear hc1 hc2 hte htz hkb;go_wp2;go_roundw
     case rel =>
      refine ⟨a+1,by go_num,by omega,f,fr,acc,by omega,by omega,by omega,by have:=HAC.out;omega,HN.out,(below_drewN HBEL.out _).setCell hc3 _,.inr ⟨by omega,?_⟩⟩;rw [HK.out,HT.out,vJ s fr a hfr hlt];have h:=HO.out;rw [HK.out] at h;exact (h.drewN _).stored rfl _
     case measure=>simp [intOf];omega
   ·rw [HL.out] at hn3;have HR:Hid (dR (find s.data.toList a)=.tuple #[.int .i64 b,.int .i64 n]):=by
     have h:dR (find s.data.toList a)=.tuple #[.int .i64 b,.int .i64 n]:=by rw [hfn];rfl
     exact h
    obtain ⟨L1,hL1,ho1⟩:∃ L1,acc++ownT ((s.data.toList.take a).drop fr)=L1∧ax wr w.heap.size u3 L1:=by
     refine ⟨_,rfl,?_⟩;rcases HOWN.out with ⟨h1,_,h2⟩ | ⟨h1,h2⟩
     ·rw [h1,qI,DV];exact h2
     ·rw [pend s fr a h1 ha];exact h2
    have hol:L1.length≤a+1:=by
     rw [←hL1,Df];have:(ownT ((s.data.toList.take a).drop fr)).length≤1:=by unfold ownT;split <;> simp
     omega
    have HN:Hid (toks s.data.toList=(L1++[repT b n])++tks s.data.toList f (a+n) (a+n)):=by
     have h:toks s.data.toList=(L1++[repT b n])++tks s.data.toList f (a+n) (a+n):=by
      rw [HEQ.out,nj hl hfn (by omega),←hL1];simp
     exact h
    have HO1:=hid ho1;have HOL:=hid hol
    have HOL1 : Hid (L1.length + 1 ≤ 1000000) := by have h : L1.length + 1 ≤ 1000000 := by omega
                                                    exact h
    have hn0:0<n:=by omega
    have hz1:=HBEL.out.size;clear hfn hl HEQ hL1 ho1 hol HOWN;go_wp2_with fail
    refine (ki s a _ HS.out hlt).mono ?_;rintro e w1 ⟨rfl,q1,rfl⟩;rw [HR.out];go_wp2_with (at_builtin;refine fU rfl _ _ rfl w.heap.size _ L1 rfl ((HO1.out.drewN _).alloc _) wr.heap.size 1 rfl (repT b n) ?d1 ?d2 ?d3 ?_)
    case d1=>exact e8 _ _ _ _
    case d2=>exact HOL1.out
    case d3=>simp;omega
    ·intro g cap w2 ho2 hg2;have HB2:Hid (Below w.heap.size w w2):=((below_drewN HBEL.out q1).alloc hz1 _).grown hg2 (by simp;omega) (fun g hg=>(HO1.out.lt g hg).1);have HO2:=hid ho2;clear ho2 hg2;go_wp2;go_roundw
     case rel=>exact ⟨a+n,by go_num,by omega,f,a+n,_,Db _,by omega,by omega,by rw [Df];simp only [List.length_singleton];have:=HOL.out;omega,HN.out,HB2.out,.inl ⟨rfl,.inr ⟨_,_,_,rfl⟩,HO2.out⟩⟩
     case measure=>simp [intOf];omega
  ·obtain rfl:a=s.size:=by omega
   obtain ⟨f,fr,acc,hfr,_,hf,hac,heq,hbel,hown⟩:=HRT.out;have HBEL:=hid hbel;have HN:Hid (ax wr w.heap.size u3 (toks s.data.toList)):=by
    have h:ax wr w.heap.size u3 (toks s.data.toList):=by
     rw [heq,ni (by rw [HL.out];omega)];rcases hown with ⟨h1,_,h2⟩ | ⟨h1,h2⟩
     ·rw [h1,qI,DV];exact h2
     ·rw [pend s fr s.size h1 (Db _)];exact h2
    exact h
   clear hbel hown heq HRT;go_wp2;go_ret;exact ⟨_,rfl,HN.out,HBEL.out⟩
end
section
open Go.RowKit
def wE (x:Wr):Nat:=wriE x.time x.rep x.kind x.key x.value x.n
def wid (x:Wr):Int×Int:=(x.time,x.rep)
def late (q x:Wr):Prop:=cI (wid x) (wid q)=1
instance (q x : Wr) : Decidable (late q x) := by unfold late; infer_instance
def dT:Option Wr→Wr→Prop
 | none,_=>True
 | some q,x=>late q x
instance (p : Option Wr) (x : Wr) : Decidable (dT p x) := by cases p <;> (unfold dT; infer_instance)
def bwE (f h:List Ent) (p:Option Wr) (x:Wr):Nat:=if wE x≠0 then wE x else if ¬ dT p x then 10 else if wiF (wid x) f h=false then 6 else 0
def bwr (f h:List Ent):List Wr→Nat→Option Wr→Nat×Int
 | [],_,_=>(0,-1)
 | x::r,i,p=>if bwE f h p x≠0 then (bwE f h p x,(i:Int)) else bwr f h r (i+1) (some x)
def bbE (f h:List Ent):Nat:=if (au f).1≠0 then (au f).1 else if (au h).1≠0 then (au h).1 else if covB h f=false then 13 else 0
def batF (f h:List Ent) (ws:List Wr):Nat×Int:=if bbE f h≠0 then (bbE f h,-1) else if 60<ws.length then (4,-1) else bwr f h ws 0 none
theorem fs {f h:List Ent} {x:Wr} {r:List Wr} {i:Nat} {p:Option Wr} {e:Nat} (hx:bwE f h p x=e) (he:e≠0):bwr f h (x::r) i p=(e,(i:Int)):=by subst hx;rw [bwr,if_pos he]
theorem gQ {f h:List Ent} {x:Wr} {r:List Wr} {i:Nat} {p:Option Wr} (hx:bwE f h p x=0):bwr f h (x::r) i p=bwr f h r (i+1) (some x):=by rw [bwr,if_neg (by rw [hx];simp)]
theorem gL {f h:List Ent} {ws:List Wr} {e:Nat} (hx:bbE f h=e) (he:e≠0):batF f h ws=(e,-1):=by subst hx;unfold batF;rw [if_pos he]
theorem lE {f h:List Ent} {ws:List Wr} (hx:bbE f h=0) (hl:60<ws.length):batF f h ws=(4,-1):=by unfold batF;rw [if_neg (by rw [hx];simp),if_pos hl]
theorem lF {f h:List Ent} {ws:List Wr} (hx:bbE f h=0) (hl:¬ 60<ws.length):batF f h ws=bwr f h ws 0 none:=by unfold batF;rw [if_neg (by rw [hx];simp),if_neg hl]
theorem oW {f h:List Ent} {p:Option Wr} {x:Wr} {e:Nat} (hx:wE x=e) (he:e≠0):bwE f h p x=e:=by subst hx;unfold bwE;rw [if_pos he]
theorem oV {f h:List Ent} {p:Option Wr} {x:Wr} (hx:wE x=0) (hl:¬ dT p x):bwE f h p x=10:=by unfold bwE;rw [if_neg (by rw [hx];simp),if_pos hl]
theorem jm {f h:List Ent} {p:Option Wr} {x:Wr} (hx:wE x=0) (hl:dT p x) (hw:wiF (wid x) f h=false):bwE f h p x=6:=by unfold bwE;rw [if_neg (by rw [hx];simp),if_neg (by simpa using hl),if_pos hw]
theorem gP {f h:List Ent} {p:Option Wr} {x:Wr} (hx:wE x=0) (hl:dT p x) (hw:wiF (wid x) f h=true):bwE f h p x=0:=by unfold bwE;rw [if_neg (by rw [hx];simp),if_neg (by simpa using hl),if_neg (by rw [hw];decide)]
theorem ur {f h:List Ent} {p:Option Wr} {x:Wr}:bwE f h p x=0↔wE x=0∧dT p x∧wiF (wid x) f h=true:=by
 constructor
 ·intro h0;unfold bwE at h0;split at h0
  ·rename_i h1;exact absurd h0 h1
  ·rename_i h1;split at h0
   ·simp at h0
   ·rename_i h2;split at h0
    ·simp at h0
    ·rename_i h3;exact ⟨by simpa using h1,by simpa using h2,by simpa using h3⟩
 ·rintro ⟨h1,h2,h3⟩;exact gP h1 h2 h3
def okW (f h:List Ent):Option Wr→List Wr→Prop
 | _,[]=>True
 | p,x::r=>bwE f h p x=0∧okW f h (some x) r
theorem ut {f h:List Ent} (l:List Wr):∀ i p,(bwr f h l i p).1=0↔okW f h p l:=by
 induction l with
 | nil=>intro i p;simp [bwr,okW]
 | cons x r ih =>
  intro i p;by_cases h0:bwE f h p x=0
  ·rw [gQ h0,ih];exact ⟨fun h1=>⟨h0,h1⟩,fun h1=>h1.2⟩
  ·rw [fs rfl h0];exact ⟨fun h1=>absurd h1 h0,fun h1=>absurd h1.1 h0⟩
theorem uu {f h:List Ent} (l:List Wr):∀ i p,(bwr f h l i p).1=0→bwr f h l i p=(0,-1):=by
 induction l with
 | nil=>intro i p _;rfl
 | cons x r ih =>
  intro i p h1;by_cases h0:bwE f h p x=0
  ·rw [gQ h0] at h1 ⊢;exact ih _ _ h1
  ·rw [fs rfl h0] at h1;exact absurd h1 h0
theorem tJ {f h:List Ent}:bbE f h=0↔cG f∧cG h∧covB h f=true:=by
 rw [←ec,←ec];unfold bbE
 constructor
 ·intro h0;split at h0
  ·rename_i h1;exact absurd h0 h1
  ·rename_i h1;split at h0
   ·rename_i h2;exact absurd h0 h2
   ·rename_i h2;split at h0
    ·simp at h0
    ·rename_i h3;exact ⟨by simpa using h1,by simpa using h2,by simpa using h3⟩
 ·rintro ⟨h1,h2,h3⟩;rw [if_neg (by simpa using h1),if_neg (by simpa using h2),if_neg (by rw [h3];decide)]
theorem tH {f h:List Ent} {ws:List Wr}:(batF f h ws).1=0↔(cG f∧cG h∧covB h f=true)∧ws.length≤60∧okW f h none ws:=by
 rw [←tJ];by_cases h1:bbE f h=0
 ·by_cases h2:60<ws.length
  ·rw [lE h1 h2]
   constructor
   ·intro h;cases h
   ·intro h;omega
  ·rw [lF h1 h2,ut];exact ⟨fun h=>⟨h1,by omega,h⟩,fun h=>h.2.2⟩
 ·rw [gL rfl h1];exact ⟨fun h=>absurd h h1,fun h=>absurd h.1 h1⟩
theorem oB {f h:List Ent} {ws:List Wr} (h0:(batF f h ws).1=0):batF f h ws=(0,-1):=by
 unfold batF at h0 ⊢;split
 ·rename_i h1;rw [if_pos h1] at h0;exact absurd h0 h1
 ·rename_i h1;rw [if_neg h1] at h0;split
  ·rename_i h2;rw [if_pos h2] at h0;cases h0
  ·rename_i h2;rw [if_neg h2] at h0;exact uu _ _ _ h0
theorem mw {q x:Wr}:late q x↔cI (wid q) (wid x)=-1:=by
 unfold late wid;have:=uB x.time x.rep q.time q.rep;omega
theorem xn {a b c:Wr} (h1:late a b) (h2:late b c):late a c:=by
 rw [mw] at h1 h2 ⊢;exact uC h1 h2
theorem y9 {f h:List Ent} (l:List Wr):∀ p,okW f h p l↔(∀ x∈l,wE x=0∧dT p x∧wiF (wid x) f h=true)∧l.Pairwise late:=by
 induction l with
 | nil=>intro p;simp [okW]
 | cons x r ih =>
  intro p;show bwE f h p x=0∧okW f h (some x) r↔_
  rw [ih (some x),ur,List.pairwise_cons]
  constructor
  ·rintro ⟨h1,h2,h3⟩;refine ⟨fun y hy=>?_,fun y hy=>(h2 y hy).2.1,h3⟩;rcases Et.1 hy with rfl | hy
   ·exact h1
   ·obtain ⟨g1,g2,g3⟩:=h2 y hy;refine ⟨g1,?_,g3⟩;cases p with
    | none=>trivial
    | some q=>exact xn h1.2.1 g2
  ·rintro ⟨h1,h2,h3⟩;exact ⟨h1 x EO,fun y hy=>⟨(h1 y (Eu _ hy)).1,h2 y hy,(h1 y (Eu _ hy)).2.2⟩,h3⟩
theorem ya {f h:List Ent} {l:List Wr}:okW f h none l↔(∀ x∈l,wE x=0∧wiF (wid x) f h=true)∧l.Pairwise late:=by
 rw [y9];exact ⟨fun ⟨h1,h2⟩=>⟨fun x hx=>⟨(h1 x hx).1,(h1 x hx).2.2⟩,h2⟩,fun ⟨h1,h2⟩=>⟨fun x hx=>⟨(h1 x hx).1,trivial,(h1 x hx).2⟩,h2⟩⟩
def ff (f h:List Ent) (ws:List Wr):Prop:=(batF f h ws).1=0
theorem iG {f h:List Ent} {ws:List Wr}:ff f h ws↔(cG f∧cG h∧covB h f=true)∧ws.length≤60∧(∀ x∈ws,wE x=0∧wiF (wid x) f h=true)∧ws.Pairwise late:=by
 unfold ff;rw [tH,ya]
end
section
open Go.RowKit
theorem qN (vf vh vw uf uh uw:Value) (f h:List Ent) (l:List Wr) (f2 h2:List Ent) (l2:List Wr) (c:Bool) (w:World) (hx:aR w vf vh vw f h l) (hy:aR w uf uh uw f2 h2 l2) (hc:iJ f h l f2 h2 l2=c) :
 Calls Tryz.prog 10 #[.agg #[vf,vh,vw],.agg #[uf,uh,uw]] w fun e w'=>e=.returned (.bool c)∧Below w.heap.size w w':=by
 subst hc;have HX:=hid hx;have HY:=hid hy;obtain ⟨hf,hh,hv,_⟩:=hx;obtain ⟨af,cf,rfl,_⟩:=hf.form;obtain ⟨ah,ch,rfl,_⟩:=hh.form;obtain ⟨aw,cw,rfl,_⟩:=hv.form;obtain ⟨hf2,hh2,hv2,_⟩:=hy;obtain ⟨bf,df,rfl,_⟩:=hf2.form;obtain ⟨bh,dh,rfl,_⟩:=hh2.form;obtain ⟨bw,dw,rfl,_⟩:=hv2.form;clear hf hh hv hf2 hh2 hv2;obtain ⟨nf,hn1⟩:∃ n,n=f.length:=⟨_,rfl⟩;obtain ⟨nh,hn2⟩:∃ n,n=h.length:=⟨_,rfl⟩;obtain ⟨n,hn3⟩:∃ n,n=l.length:=⟨_,rfl⟩;obtain ⟨mf,hn4⟩:∃ n,n=f2.length:=⟨_,rfl⟩;obtain ⟨mh,hn5⟩:∃ n,n=h2.length:=⟨_,rfl⟩;obtain ⟨m,hn6⟩:∃ n,n=l2.length:=⟨_,rfl⟩;rw [←hn1,←hn2,←hn3] at HX ⊢;rw [←hn4,←hn5,←hn6] at HY ⊢;obtain ⟨c1,e1⟩:∃ c,decide (f=f2)=c:=⟨_,rfl⟩;obtain ⟨c2,e2⟩:∃ c,decide (h=h2)=c:=⟨_,rfl⟩;obtain ⟨c3,e3⟩:∃ c,decide (l=l2)=c:=⟨_,rfl⟩;have HR:Hid (iJ f h l f2 h2 l2=(c1 && c2 && c3)):=hid (by unfold iJ;rw [e1,e2,e3]);have H1:=hid e1;have H2:=hid e2;have H3:=hid e3;have HW0:Hid (Below w.heap.size w ((w.alloc (.cells #[.slice af nf cf,.slice ah nh ch,.slice aw n cw] 25)).alloc (.cells #[.slice bf mf df,.slice bh mh dh,.slice bw m dw] 25))):=hid (((Below.refl _ _).alloc (Db _) _).alloc (by simp) _);have HA:Hid (bat2 ((w.alloc (.cells #[.slice af nf cf,.slice ah nh ch,.slice aw n cw] 25)).alloc (.cells #[.slice bf mf df,.slice bh mh dh,.slice bw m dw] 25)) w.heap.size (.slice af nf cf) (.slice ah nh ch) (.slice aw n cw) (.slice bf mf df) (.slice bh mh dh) (.slice bw m dw)):=hid (tG _ _ _ _ _ _ _ _ _)
 clear hn1 hn2 hn3 hn4 hn5 hn6 e1 e2 e3;rw [HR.out];go_enter Tryz.func10,Tryz.ntmps10
 go_wp2_with fail
 generalize (w.alloc (.cells #[.slice af nf cf,.slice ah nh ch,.slice aw n cw] 25)).alloc (.cells #[.slice bf mf df,.slice bh mh dh,.slice bw m dw] 25)=W at HA HW0 ⊢;have HX0:=hid (HX.out.below HW0.out);have HY0:=hid (HY.out.below HW0.out);refine (qS _ _ f f2 c1 _ HX0.out.1 HY0.out.1 HX0.out.2.2.2.1 HY0.out.2.2.2.1 H1.out).mono ?_;rintro r w1 ⟨rfl,q1,rfl⟩;cases c1 with
 | false =>
  go_wp2;go_ret;exact ⟨rfl,below_drewN HW0.out _⟩
 | true =>
  obtain ⟨d0,d1,d2,d3,d4,d5⟩:=HA.out.drewN q1;go_wp2_with fail
  refine (qS _ _ h h2 c2 _ (HX0.out.2.1.drewN q1) (HY0.out.2.1.drewN q1) HX0.out.2.2.2.2.1 HY0.out.2.2.2.2.1 H2.out).mono ?_;rintro r w2 ⟨rfl,q2,rfl⟩;rw [World.drewN_drewN];clear d0 d1 d2 d3 d4 d5;cases c2 with
  | false =>
   go_wp2;go_ret;exact ⟨rfl,below_drewN HW0.out _⟩
  | true =>
   obtain ⟨d0,d1,d2,d3,d4,d5⟩:=HA.out.drewN (q1+q2);go_wp2_with fail
   refine (zJ _ _ l l2 c3 _ (HX0.out.2.2.1.drewN (q1+q2)) (HY0.out.2.2.1.drewN (q1+q2)) HX0.out.2.2.2.2.2.1 HY0.out.2.2.2.2.2.1 H3.out).mono ?_;rintro r w3 ⟨rfl,q3,rfl⟩;rw [World.drewN_drewN];clear d0 d1 d2 d3 d4 d5;go_wp2;go_ret;exact ⟨by first | rfl | simp,below_drewN HW0.out _⟩
end
section
open Go.RowKit
theorem sK (x1 x2:Int) (vf vh:Value) (f h:List Ent) (b:Bool) (w:World) (hf:ae w vf f) (hh:ae w vh h) (hlf:f.length≤9223372036854775807) (hlh:h.length≤9223372036854775807) (hb:wiF (x1,x2) f h=b) :
 Calls Tryz.prog 169 #[.agg #[.int .i64 x1,.int .i64 x2],vf,vh] w fun e w'=>e=.returned (.bool b)∧Below w.heap.size w w':=Cx x1 x2 vf vh f h w hf hh hlf hlh b hb
end
section
open Go.RowKit
theorem uy (x1 x2 y1 y2:Int):cI (x1,x2) (y1,y2)=if x1<y1∨x1=y1∧x2<y2 then -1 else if x1=y1∧x2=y2 then 0 else 1:=by
 unfold cI orF cmpF;simp only
 repeat' split
 all_goals omega
theorem qO (x1 x2 y1 y2 c:Int) (w:World) (h:cI (x1,x2) (y1,y2)=c):Calls Tryz.prog 71 #[.agg #[.int .i64 x1,.int .i64 x2],.agg #[.int .i64 y1,.int .i64 y2]] w fun e w'=>e=.returned (.int .i64 c)∧Below w.heap.size w w':=by
 subst h;have hc:=uy x1 x2 y1 y2;by_cases h1:x1<y1
 ·have HW:Hid (cI (x1,x2) (y1,y2)=-1):=hid (by rw [hc,if_pos (.inl h1)]);clear hc;go_enter Tryz.func71,Tryz.ntmps71
  go_wp2;go_ret;exact ⟨by rw [HW.out];rfl,((Below.refl _ _).alloc (Db _) _).alloc (by simp) _⟩
 ·by_cases h2:x1=y1
  ·subst h2;by_cases h3:x2<y2
   ·have HW:Hid (cI (x1,x2) (x1,y2)=-1):=hid (by rw [hc,if_pos (.inr ⟨rfl,h3⟩)]);clear hc h1;go_enter Tryz.func71,Tryz.ntmps71
    go_wp2;go_ret;exact ⟨by rw [HW.out];rfl,((Below.refl _ _).alloc (Db _) _).alloc (by simp) _⟩
   ·by_cases h4:x2=y2
    ·subst h4;have HW:Hid (cI (x1,x2) (x1,x2)=0):=hid (by rw [hc,if_neg (by omega),if_pos ⟨rfl,rfl⟩]);clear hc h1 h3;go_enter Tryz.func71,Tryz.ntmps71
     go_wp2;go_ret;exact ⟨by rw [HW.out];rfl,((Below.refl _ _).alloc (Db _) _).alloc (by simp) _⟩
    ·have HW:Hid (cI (x1,x2) (x1,y2)=1):=hid (by rw [hc,if_neg (by omega),if_neg (by omega)]);have b1:(x2 == y2)=false:=by simpa using h4
     have d3:y2<x2:=by omega
     have d4:decide (x2<y2)=false:=Dx h3;clear hc h1 h3;go_enter Tryz.func71,Tryz.ntmps71
     go_wp2;go_ret;exact ⟨by rw [HW.out];rfl,((Below.refl _ _).alloc (Db _) _).alloc (by simp) _⟩
  ·have HW:Hid (cI (x1,x2) (y1,y2)=1):=hid (by rw [hc,if_neg (by omega),if_neg (by omega)]);have b1:(x1 == y1)=false:=by simpa using h2
   have d4:decide (x1<y1)=false:=Dx h1;clear hc;go_enter Tryz.func71,Tryz.ntmps71
   go_wp2;go_ret;exact ⟨by rw [HW.out];rfl,((Below.refl _ _).alloc (Db _) _).alloc (by simp) _⟩
theorem rl (x1 x2:Int) (vf vh:Value) (f h:List Ent) (w:World) (hf:ae w vf f) (hh:ae w vh h) (hlf:f.length≤9223372036854775807) (hlh:h.length≤9223372036854775807) (b:Bool) (hb:wiF (x1,x2) f h=b) :
 Calls Tryz.prog 72 #[.agg #[.int .i64 x1,.int .i64 x2],vf,vh] w fun e w'=>e=.returned (.bool b)∧Below w.heap.size w w':=by
 subst hb;obtain ⟨p,hp⟩:∃ p,ofF f x2=p:=⟨_,rfl⟩;obtain ⟨q,hq⟩:∃ q,ofF h x2=q:=⟨_,rfl⟩;have HP:=hid hp;have HQ:=hid hq;have HLF:=hid hlf;have HLH:=hid hlh;have HF:Hid (ae (w.alloc (.cells #[.int .i64 x1,.int .i64 x2] 76)) vf f):=hid (hf.alloc _);have HH:Hid (ae (w.alloc (.cells #[.int .i64 x1,.int .i64 x2] 76)) vh h):=hid (hh.alloc _);have hval:wiF (x1,x2) f h=(decide (p<x1) && decide (x1≤q)):=by unfold wiF;simp only;rw [hp,hq]
 by_cases h1:p<x1
 ·by_cases h2:x1≤q
  ·have HW:Hid (wiF (x1,x2) f h=true):=hid (by rw [hval,DX h1,DX h2];rfl);clear hf hh hp hq hlf hlh hval;rw [HW.out];go_enter Tryz.func72,Tryz.ntmps72
   go_wp2
   go_quiet ((first | (go_at_call 101;with_reducible exact iI vf f x2 p _ _ HF.out HLF.out HP.out) | (go_at_call 101;with_reducible exact iI vh h x2 q _ _ HH.out HLH.out HQ.out)))
   go_wp2;go_ret;exact ⟨rfl,below_drewN ((Below.refl _ _).alloc (Db _) _) _⟩
  ·have HW:Hid (wiF (x1,x2) f h=false):=hid (by rw [hval,DX h1,Dx h2];rfl);have d7:decide (x1≤q)=false:=Dx h2;clear hf hh hp hq hlf hlh hval h2;rw [HW.out];go_enter Tryz.func72,Tryz.ntmps72
   go_wp2
   go_quiet ((first | (go_at_call 101;with_reducible exact iI vf f x2 p _ _ HF.out HLF.out HP.out) | (go_at_call 101;with_reducible exact iI vh h x2 q _ _ HH.out HLH.out HQ.out)))
   go_wp2;go_ret;exact ⟨rfl,below_drewN ((Below.refl _ _).alloc (Db _) _) _⟩
 ·have HW:Hid (wiF (x1,x2) f h=false):=hid (by rw [hval,Dx h1];rfl);have d6:decide (p<x1)=false:=Dx h1;clear hf hh hp hq hlf hlh hval h1;rw [HW.out];go_enter Tryz.func72,Tryz.ntmps72
  go_wp2
  go_quiet ((first | (go_at_call 101;with_reducible exact iI vf f x2 p _ _ HF.out HLF.out HP.out)))
  go_wp2;go_ret;exact ⟨rfl,below_drewN ((Below.refl _ _).alloc (Db _) _) _⟩
end
