import Derived.Test.YtdhognaoejiglaaGreatDoorKb23
namespace Go.Proofs.YtdhognaoejiglaaGreatDoor
open Lib (hid)
set_option maxRecDepth 100000
set_option maxHeartbeats 8000000
section
open Go.RowKit
def mv (w:World) (s:List UInt8) (e:Ending) (w':World):Prop :=
 ∃ v,e=.returned (.tuple #[v,.int .i64 ((ay s).2.1:Nat),noV (ay s).1])∧ag w' w.heap.size v (ay s).2.2∧Below w.heap.size w w'
theorem pk {w:World} {s:List UInt8} {e:Nat} (h:ay s=(e,0,[])) (he:e≠0) (w':World) (hb:Below w.heap.size w w'):mv w s (.returned (.tuple #[.slice none 0 0,.int .i64 0,.iface 68 (.int .i64 (e:Nat))])) w':=by
 refine ⟨.slice none 0 0,?_,?_,hb⟩
 ·rw [h];simp only;rw [eZ he];rfl
 ·rw [h];exact fd _ _
theorem FR {w:World} {s:List UInt8} {n:Nat} {l:List Ent} (h:ay s=(0,n,l)) (v:Value) (w':World) (ho:ag w' w.heap.size v l) (hb:Below w.heap.size w w'):mv w s (.returned (.tuple #[v,.int .i64 (n:Nat),.nilIface])) w':=by
 refine ⟨v,?_,?_,hb⟩
 ·rw [h];rfl
 ·rw [h];exact ho
theorem FK {w:World} {x:Nat ⊕ (List Ent×Nat)} {er:Nat} (h:x=.inl er) {e:Ending} {w':World} (hg:ir w x e w'):e=.returned (.tuple #[.slice none 0 0,.int .i64 0,.iface 68 (.int .i64 (er:Nat))])∧Below w.heap.size w w':=by
 rw [h] at hg;exact hg
theorem FL {w:World} {x:Nat ⊕ (List Ent×Nat)} {run:List Ent} {k:Nat} (h:x=.inr (run,k)) {e:Ending} {w':World} (hg:ir w x e w'):∃ v,e=.returned (.tuple #[v,.int .i64 (k:Nat),.nilIface])∧ag w' w.heap.size v run∧Below w.heap.size w w':=by
 rw [h] at hg;exact hg
theorem rq {s:List UInt8} {used e:Nat} {least:Int} {acc:List Ent} (h:getR s used least acc=.inl e):e≠0:=by
 have htm:∀ (k:Nat) (s:List UInt8) (used:Nat) (r:Int) (acc:List Ent),tmA k s used r acc=.inl e→e≠0:=by
  intro k
  induction k with
  | zero=>intro s used r acc h;cases h
  | succ k ih =>
   intro s used r acc h;rcases ba s 1099511627776 with ⟨e',hi,he,_⟩ | ⟨t,j,hi,_⟩
   ·rw [lY hi he] at h;injection h with h;subst h;exact he
   ·rw [jv hi] at h;exact ih _ _ _ _ h
 rcases ba s 200 with ⟨e',hi,he,_⟩ | ⟨g,j,hi,_⟩
 ·rw [kF hi he] at h;injection h with h;subst h;exact he
 ·rcases ba (s.drop j) 16 with ⟨e',hi2,he,_⟩ | ⟨c,i,hi2,_⟩
  ·rw [kG hi hi2 he] at h;injection h with h;subst h;exact he
  ·rw [iP hi hi2] at h;exact htm _ _ _ _ _ h
theorem yw {l:List Ent}:∀ {r:Int},cY r l→∀ e∈l,r≤e.rep∧e.rep<r+l.length:=by
 induction l with
 | nil=>intro r _ e h;cases h
 | cons d t ih =>
  intro r h e he;rw [List.length_cons];rcases List.mem_cons.1 he with rfl | he
  ·have:=h.1;omega
  ·have:=ih h.2 e he;omega
theorem vB (s:ByteArray) (w:World) (hs:s.size≤1000000) (hg:errT w) :
 Calls Tryz.prog 187 #[.string s] w (mv w s.data.toList):=by
 have HG:=hid hg;have hsl:s.data.toList.length=s.size:=(aj s).symm;have HSL:=hid hsl;have HM0:Hid (s.size≤maxLen):=hid (show s.size≤maxLen by unfold maxLen;omega);clear hsl hg;rcases ba s.data.toList 16 with ⟨e,hi,he,_⟩ | ⟨R,j,hi,hR,hj1,hj2,hj3,_⟩
 ·have HI:=hid hi;have HV:=hid (pj hi he);have HNE:=hid he;clear hi he;go_enter Tryz.func187,Tryz.ntmps187
  go_wp2_with fail
  refine (jz _ 16 _ HM0.out (by decide) (by decide) e HI.out HNE.out).mono ?_;rintro r w' ⟨rfl,rfl⟩;go_wp2;go_ret3;exact pk HV.out HNE.out _ (Below.refl _ _)
 ·have HI:=hid hi;rw [HSL.out] at hj3;have hR16:R≤16:=by omega
  clear hi;go_enter Tryz.func187,Tryz.ntmps187
  go_wp2_with fail
  refine (jA _ 16 _ HM0.out (by decide) (by decide) R j HI.out).mono ?_;rintro r w' ⟨rfl,rfl⟩;go_wp2
  go_loopw [6,8,9,24] (fun av lv bv i wr=>∃ (k a:Nat) (least:Int) (acc:List Ent),k≤R∧i=.int .i64 k∧av=.int .i64 a∧a≤s.size∧bv=.int .i64 least∧0≤least∧least≤300 * (k:Int)∧acc.length≤17 * k∧rdA R (s.data.toList.drop j) j 0 []=rdA (R-k) (s.data.toList.drop a) a least acc∧ag wr w.heap.size lv acc∧Below w.heap.size w wr) (fun _ _ _ i _=>R-(intOf i).toNat)
  case atStart=>exact ⟨0,j,0,[],by omega,rfl,rfl,hj3,rfl,by omega,by omega,by simp,rfl,fd _ _,Below.refl _ _⟩
  case round =>
   obtain ⟨k,a,least,acc,hk,rfl,rfl,has,rfl,hl0,hl3,hal,heq,ho,hb⟩:=hrel;have HEQ:=hid heq;have HO:=hid ho;have HB:=hid hb;have hzr:=hb.size;have HAL:=hid hal;have HE:=hid (cZ s a);have hxs:(s.extract a s.size).size≤1000000:=by rw [ByteArray.size_extract];omega
   have HXS:=hid hxs;have e3:(0:Int)≤(a:Int):=by omega
   have e4:(a:Int)≤(s.size:Int):=by omega
   clear heq ho hb hal hxs;by_cases hlt:k<R
   ·have hlt':(k:Int)<(R:Int):=by omega
    obtain ⟨c',hc'⟩:∃ c',R-k=c'+1:=⟨R-k-1,by omega⟩
    match hgr:getR (s.data.toList.drop a) 0 least [] with
    | .inl e =>
     have HGR:Hid (getR (s.extract a s.size).data.toList 0 least []=.inl e):=hid (show getR (s.extract a s.size).data.toList 0 least []=.inl e by rw [HE.out];exact hgr);have HV:=hid (pi HI.out (show rdA R (s.data.toList.drop j) j 0 []=.inl e by rw [HEQ.out,hc',lx hgr]));have HNE:=hid (rq hgr);clear hgr hc';go_wp2_with fail
     refine (vz (s.extract a s.size) least _ HXS.out hl0 (by omega)).mono ?_;intro r w1 hgi;obtain ⟨rfl,hb1⟩:=FK HGR.out hgi;have HB1:Hid (Below w.heap.size w w1):=HB.out.trans (hb1.mono hzr);clear hgi hb1;go_wp2;go_ret3;exact pk HV.out HNE.out _ HB1.out
    | .inr (run,i) =>
     have HGR:Hid (getR (s.extract a s.size).data.toList 0 least []=.inr (run,i)):=hid (show getR (s.extract a s.size).data.toList 0 least []=.inr (run,i) by rw [HE.out];exact hgr);obtain ⟨run',hr',g1,g2,g3,g4,g5,_,g6,_,_⟩:=rt hgr;rw [List.nil_append] at hr';subst hr';rw [List.length_drop,HSL.out] at g6;have hpos:0<run.length:=List.length_pos_iff.2 g1;have hlast:=iI g5 g1;have hbd:=yw g5;have HRB:Hid (∀ e∈run,0≤e.rep∧e.rep≤1000000):=hid (show ∀ e∈run,0≤e.rep∧e.rep≤1000000 from fun e he=>by have:=hbd e he;omega);have HNIL:=hid g1;obtain ⟨lr,hlr⟩:∃ x,(run.getLastD ⟨0,0⟩).rep=x:=⟨_,rfl⟩;have HLR:=hid hlr;have HST:Hid (rdA R (s.data.toList.drop j) j 0 []=rdA (R-(k+1)) (s.data.toList.drop (a+i)) (a+i) (lr+2) (acc++run)):=hid (show rdA R (s.data.toList.drop j) j 0 []=rdA (R-(k+1)) (s.data.toList.drop (a+i)) (a+i) (lr+2) (acc++run) by
      rw [HEQ.out,hc',jj hgr,List.drop_drop,hlr,show R-(k+1)=c' by omega])
     rw [hlr] at hlast;have HLB:Hid (0≤lr+2∧lr+2≤300 * ((k+1:Nat):Int)):=hid (show 0≤lr+2∧lr+2≤300 * ((k+1:Nat):Int) by omega);have HRL:Hid (run.length≤17):=hid g2;have HAI:Hid (a+i≤s.size):=hid (show a+i≤s.size by omega);have hib:(i:Int)≤1000000:=by omega
     clear hgr hc' g1 g2 g3 g4 g5 g6 hbd hlr hlast;go_wp2_with fail
     refine (vz (s.extract a s.size) least _ HXS.out hl0 (by omega)).mono ?_;intro r w1 hgi;obtain ⟨v,rfl,how,hb1⟩:=FL HGR.out hgi;have HOW:=hid how;have HB1:Hid (Below w.heap.size w w1):=HB.out.trans (hb1.mono hzr);have HO1:=hid (HO.out.below hb1);have HZ:Hid (∀ x,Value.ownBlock u8=some x→x<wr.heap.size):=hid (fun x hx=>(HO.out.lt x hx).2);rcases how.form with ⟨_,hn⟩ | ⟨gB,cap,rfl,hgb,hgl,hcs⟩
     ·rw [hn] at hpos;simp at hpos
     ·have HCS:=hid hcs;clear hgi hb1 how hcs;go_wp2_with (at_builtin;refine Gd rfl _ _ rfl w.heap.size _ acc rfl HO1.out gB 0 cap run.length rfl run rfl (fun j u hj=>by rw [Nat.zero_add];exact HCS.out j u hj) hpos ?c1 ?c2 ?_)
      case c1=>have:=HAL.out;have:=HRL.out;omega
      case c2=>have:=HB1.out.size;omega
      ·intro g3 cap3 w3 ho3 hg3;have HO3:=hid ho3;have HB3:Hid (Below w.heap.size w w3):=HB1.out.grown hg3 HB1.out.size (fun k hk=>(HO1.out.lt k hk).1);have HRW:Hid (ae w3 (.slice (some ⟨gB,0,none⟩) run.length cap) run):=hid (World.ownsRow.kept HOW.out hg3 (.inr (fun e=>by have:=HZ.out gB e.symm;omega)) |> fun h=>(show ag w3 wr.heap.size _ run from h).is);have HAL3:Hid ((acc++run).length≤17 * (k+1)):=hid (show (acc++run).length≤17 * (k+1) by have:=HAL.out;have:=HRL.out;rw [List.length_append];omega);obtain ⟨q,hq⟩:∃ q,run.length=q:=⟨_,rfl⟩;rw [hq] at HRW hpos ⊢;have HQ:=hid hq;clear ho3 hg3 hq;go_wp2_with fail
       refine (q7 _ run _ HRW.out HNIL.out (by have:=HRL.out;omega) HRB.out).mono ?_;rintro r w' ⟨rfl,rfl⟩;rw [HLR.out];go_wp2;go_roundw
       case rel=>exact ⟨k+1,a+i,lr+2,acc++run,by omega,by go_num,by go_num,HAI.out,rfl,HLB.out.1,HLB.out.2,HAL3.out,HST.out,by have h:=HO3.out;rw [HQ.out] at h;exact h,HB3.out⟩
       case measure=>simp [intOf];omega
   ·have hkr:k=R:=by omega
    have HRR:Hid (rdA R (s.data.toList.drop j) j 0 []=.inr (acc,a)):=hid (show rdA R (s.data.toList.drop j) j 0 []=.inr (acc,a) by rw [HEQ.out,hkr,Nat.sub_self];rfl);have hlt':(R:Int)≤(k:Int):=by omega
    have hal9:acc.length≤9223372036854775807:=by have:=HAL.out;omega
    have HI9:=hid hal9;clear hkr hal9;by_cases h0:(aq acc).1=0
    ·have HV:=hid (ma HI.out HRR.out h0);have H0:=hid h0;clear h0;go_wp2_with fail
     refine (ig _ acc _ HO.out.is HI9.out (HG.out.below HB.out)).mono ?_;rintro r w1 ⟨rfl,hb1⟩;rw [H0.out,gW];have HB1:Hid (Below w.heap.size w w1):=HB.out.trans (hb1.mono hzr);have HO1:=hid (HO.out.below hb1);clear hb1;go_wp2;go_ret3;exact FR HV.out _ _ HO1.out HB1.out
    ·have HV:=hid (pn HI.out HRR.out h0);have HQ:=hid (eZ h0);have H0:=hid h0;clear h0;go_wp2_with fail
     refine (ig _ acc _ HO.out.is HI9.out (HG.out.below HB.out)).mono ?_;rintro r w1 ⟨rfl,hb1⟩;rw [HQ.out];have HB1:Hid (Below w.heap.size w w1):=HB.out.trans (hb1.mono hzr);clear hb1;go_wp2;go_ret3;exact pk HV.out H0.out _ HB1.out
end
section
open Go.RowKit
theorem zV (x y:Value) (w:World):(Instr.index 114 (.agg #[x,y]) (.int .i64 0)).run Tryz.prog w=.ok x w:=by kernel_rfl
theorem zW (x y:Value) (w:World):(Instr.index 114 (.agg #[x,y]) (.int .i64 1)).run Tryz.prog w=.ok y w:=by kernel_rfl
theorem dn (va vb:Value) (a b:List Ent) (x:Bool) (w:World) (ha:ae w va a) (hb:ae w vb b) (hla:a.length≤9223372036854775807) (hlb:b.length≤9223372036854775807) (hx:covB a b=x) :
 Calls Tryz.prog 26 #[va,vb] w fun r w'=>r=.returned (.bool x)∧Below w.heap.size w w':=by
 subst hx;exact FI va vb a b w ha hb hla hlb
theorem xy (vf vh vw:Value) (f h:List Ent) (l:List Wr) (w:World) (hf:ae w vf f) (hh:ae w vh h) (hv:az w vw l) (hlf:f.length≤9223372036854775807) (hlh:h.length≤9223372036854775807) (hg:errT w) :
 Calls Tryz.prog 48 #[.agg #[vf,vh,vw]] w fun r w'=>r=.returned (errV (bbE f h))∧Below w.heap.size w w':=by
 have HF:=hid hf;have HH:=hid hh;have HG:=hid hg;have HLF:=hid hlf;have HLH:=hid hlh;obtain ⟨af,cf,rfl,_⟩:=hf.form;obtain ⟨ah,ch,rfl,_⟩:=hh.form;obtain ⟨aw,cw,rfl,_⟩:=hv.form;obtain ⟨nf,hnf⟩:∃ n,n=f.length:=⟨_,rfl⟩;obtain ⟨nh,hnh⟩:∃ n,n=h.length:=⟨_,rfl⟩;obtain ⟨n,hn⟩:∃ n,n=l.length:=⟨_,rfl⟩;rw [←hnf] at HF ⊢;rw [←hnh] at HH ⊢;rw [←hn];have HA:=hid (eV w (.slice af nf cf) (.slice ah nh ch) (.slice aw n cw) 47);have HW0:Hid (Below w.heap.size w (w.alloc (.cells #[.slice af nf cf,.slice ah nh ch,.slice aw n cw] 47))):=hid ((Below.refl _ _).alloc (Nat.le_refl _) _);have HZ:Hid (w.heap.size<(w.alloc (.cells #[.slice af nf cf,.slice ah nh ch,.slice aw n cw] 47)).heap.size):=hid (by simp);have i0:=zV;have i1:=zW;clear hf hh hv hg hlf hlh hnf hnh hn;go_enter Tryz.func48,Tryz.ntmps48
 go_wp2;generalize w.alloc (.cells #[.slice af nf cf,.slice ah nh ch,.slice aw n cw] 47)=W at HA HW0 HZ ⊢;have HE:Hid (∀ w',Below W.heap.size W w'→Below w.heap.size w w'):=hid (fun w' hx=>HW0.out.trans (hx.mono HW0.out.size))
 go_loopw [11] (fun i wr=>∃ k:Nat,k≤2∧i=.int .i64 k∧(k=0∨(k=1∧(aq f).1=0)∨(k=2∧(aq f).1=0∧(aq h).1=0))∧Below W.heap.size W wr) (fun i _=>2-(intOf i).toNat)
 case atStart=>exact ⟨0,by omega,rfl,.inl rfl,Below.refl _ _⟩
 case round =>
  obtain ⟨k,hk,rfl,hj,hbel⟩:=hrel;have HB:=hid hbel;clear hbel;rcases hj with rfl | ⟨rfl,h1⟩ | ⟨rfl,h1,h2⟩
  ·by_cases h1:(aq f).1=0
   ·have H1:=hid h1;clear h1;go_wp2_with fail
    refine (cC _ f _ (HF.out.below (HE.out _ HB.out)) HLF.out).mono ?_;rintro r w1 ⟨err,rfl,hat,hb1⟩;obtain rfl:=hat.nil H1.out;have HB1:Hid (Below W.heap.size W w1):=HB.out.trans (hb1.mono HB.out.size);clear hat hb1;go_wp2;go_roundw
    case rel=>exact ⟨1,by omega,by go_num,.inr (.inl ⟨rfl,H1.out⟩),HB1.out⟩
    case measure=>simp [intOf]
   ·have H1:=hid h1;have HR:Hid (bbE f h=(aq f).1):=hid (by unfold bbE;rw [if_pos h1]);have HQ:=hid (iL h1);clear h1;go_wp2_with fail
    refine (cC _ f _ (HF.out.below (HE.out _ HB.out)) HLF.out).mono ?_;rintro r w1 ⟨err,rfl,hat,hb1⟩;have HER:=hid (hat.isErr H1.out);obtain ⟨t,u,rfl⟩:=hat.iface H1.out;have HB1:Hid (Below W.heap.size W w1):=HB.out.trans (hb1.mono HB.out.size);clear hat hb1;go_wp2_with fail
    refine (dM _ _ _ (HG.out.below (HE.out _ HB1.out)) HER.out).mono ?_;rintro r w2 ⟨rfl,hb2⟩;have HB2:Hid (Below W.heap.size W w2):=HB1.out.trans (hb2.mono HB1.out.size);clear hb2;go_wp2;go_ret;exact ⟨by rw [HR.out,HQ.out];rfl,HE.out _ HB2.out⟩
  ·by_cases h2:(aq h).1=0
   ·have H2:=hid h2;have H1:=hid h1;clear h2 h1;go_wp2_with fail
    refine (cC _ h _ (HH.out.below (HE.out _ HB.out)) HLH.out).mono ?_;rintro r w1 ⟨err,rfl,hat,hb1⟩;obtain rfl:=hat.nil H2.out;have HB1:Hid (Below W.heap.size W w1):=HB.out.trans (hb1.mono HB.out.size);clear hat hb1;go_wp2;go_roundw
    case rel=>exact ⟨2,by omega,by go_num,.inr (.inr ⟨rfl,H1.out,H2.out⟩),HB1.out⟩
    case measure=>simp [intOf]
   ·have H2:=hid h2;have HR:Hid (bbE f h=(aq h).1):=hid (by unfold bbE;rw [if_neg (by simpa using h1),if_pos h2]);have HQ:=hid (iL h2);clear h2 h1;go_wp2_with fail
    refine (cC _ h _ (HH.out.below (HE.out _ HB.out)) HLH.out).mono ?_;rintro r w1 ⟨err,rfl,hat,hb1⟩;have HER:=hid (hat.isErr H2.out);obtain ⟨t,u,rfl⟩:=hat.iface H2.out;have HB1:Hid (Below W.heap.size W w1):=HB.out.trans (hb1.mono HB.out.size);clear hat hb1;go_wp2_with fail
    refine (dM _ _ _ (HG.out.below (HE.out _ HB1.out)) HER.out).mono ?_;rintro r w2 ⟨rfl,hb2⟩;have HB2:Hid (Below W.heap.size W w2):=HB1.out.trans (hb2.mono HB1.out.size);clear hb2;go_wp2;go_ret;exact ⟨by rw [HR.out,HQ.out];rfl,HE.out _ HB2.out⟩
  ·obtain ⟨c,hc⟩:∃ c,covB h f=c:=⟨_,rfl⟩;have HC:=hid hc;have HR:Hid (bbE f h=if c=false then 13 else 0):=hid (by unfold bbE;rw [if_neg (by simpa using h1),if_neg (by simpa using h2),hc]);obtain ⟨d0,d1,d2⟩:=HA.out.below HB.out HZ.out;clear h1 h2 hc;go_wp2_with fail
   refine (dn _ _ h f c _ (HH.out.below (HE.out _ HB.out)) (HF.out.below (HE.out _ HB.out)) HLH.out HLF.out HC.out).mono ?_;rintro r w1 ⟨rfl,hb1⟩;have HB1:Hid (Below W.heap.size W w1):=HB.out.trans (hb1.mono HB.out.size);clear hb1 d0 d1 d2;cases c with
   | true =>
    go_wp2;go_ret;exact ⟨by rw [HR.out];rfl,HE.out _ HB1.out⟩
   | false =>
    go_wp2;go_ret;exact ⟨by rw [HR.out];rfl,HE.out _ HB1.out⟩
theorem xz (vf vh vw:Value) (f h:List Ent) (l:List Wr) (e:Nat) (w:World) (hf:ae w vf f) (hh:ae w vh h) (hv:az w vw l) (hlf:f.length≤9223372036854775807) (hlh:h.length≤9223372036854775807) (hg:errT w) (he:bbE f h=e) :
 Calls Tryz.prog 48 #[.agg #[vf,vh,vw]] w fun r w'=>r=.returned (errV e)∧Below w.heap.size w w':=by
 subst he;exact xy vf vh vw f h l w hf hh hv hlf hlh hg
theorem mJ (vf vh vw:Value) (f h:List Ent) (l:List Wr) (w:World) (hf:ae w vf f) (hh:ae w vh h) (hv:az w vw l) (hlf:f.length≤9223372036854775807) (hlh:h.length≤9223372036854775807) (hok:∀ t∈l,WrOk t) (hg:errT w) :
 Calls Tryz.prog 28 #[.agg #[vf,vh,vw]] w (iu w (batF f h l)):=by
 have HF:=hid hf;have HH:=hid hh;have HV:=hid hv;have HG:=hid hg;have HLF:=hid hlf;have HLH:=hid hlh;have HOK:=hid hok;obtain ⟨af,cf,rfl,_⟩:=hf.form;obtain ⟨ah,ch,rfl,_⟩:=hh.form;obtain ⟨aw,cw,rfl,_⟩:=hv.form;obtain ⟨nf,hnf⟩:∃ n,n=f.length:=⟨_,rfl⟩;obtain ⟨nh,hnh⟩:∃ n,n=h.length:=⟨_,rfl⟩;obtain ⟨n,hn⟩:∃ n,n=l.length:=⟨_,rfl⟩;rw [←hnf] at HF ⊢;rw [←hnh] at HH ⊢;rw [←hn] at HV ⊢;have HN:=hid hn;have HA:=hid (eV w (.slice af nf cf) (.slice ah nh ch) (.slice aw n cw) 47);have HW0:Hid (Below w.heap.size w (w.alloc (.cells #[.slice af nf cf,.slice ah nh ch,.slice aw n cw] 47))):=hid ((Below.refl _ _).alloc (Nat.le_refl _) _);have HZ:Hid (w.heap.size<(w.alloc (.cells #[.slice af nf cf,.slice ah nh ch,.slice aw n cw] 47)).heap.size):=hid (by simp);obtain ⟨eb,heb⟩:∃ e,bbE f h=e:=⟨_,rfl⟩;have HEB:=hid heb;clear hf hh hv hg hlf hlh hnf hnh hn hok heb;go_enter Tryz.func28,Tryz.ntmps28
 go_wp2_with fail
 generalize w.alloc (.cells #[.slice af nf cf,.slice ah nh ch,.slice aw n cw] 47)=W at HA HW0 HZ ⊢;have HE:Hid (∀ w',Below W.heap.size W w'→Below w.heap.size w w'):=hid (fun w' hx=>HW0.out.trans (hx.mono HW0.out.size));refine (xz _ _ _ f h l eb _ (HF.out.below HW0.out) (HH.out.below HW0.out) (HV.out.below HW0.out) HLF.out HLH.out (HG.out.below HW0.out) HEB.out).mono ?_;rintro r w1 ⟨rfl,hb1⟩;have HB1:Hid (Below W.heap.size W w1):=hid hb1;clear hb1;by_cases h0:eb=0
 ·subst h0;rw [kv];obtain ⟨d0,d1,d2⟩:=HA.out.below HB1.out HZ.out;by_cases h6:60<n
  ·have HR:=hid (pW HEB.out (show 60<l.length by rw [←HN.out];exact h6));have h6':(60:Int)<(n:Int):=by omega
   go_wp2;go_ret;rw [HR.out];exact ⟨_,rfl,.inr ⟨by decide,rfl,rfl⟩,HE.out _ HB1.out⟩
  ·have HR:=hid (pY (ws:=l) HEB.out (show ¬ 60<l.length by rw [←HN.out];exact h6));have h6':¬ (60:Int)<(n:Int):=by omega
   have hn6:n≤60:=by omega
   clear h6;go_wp2;clear d0 d1 d2
   go_loopw [19] (fun i wr=>∃ (k:Nat) (p:Option Wr),k≤n∧i=.int .i64 k∧((k=0∧p=none)∨∃ j q,k=j+1∧l[j]? = some q∧p=some q)∧bwr f h l 0 none=bwr f h (l.drop k) k p∧Below W.heap.size W wr) (fun i _=>n-(intOf i).toNat)
   case atStart=>exact ⟨0,none,by omega,rfl,.inl ⟨rfl,rfl⟩,rfl,HB1.out⟩
   case round =>
    obtain ⟨k,p,hk,rfl,hla,heq,hbel⟩:=hrel;have HEQ:=hid heq;have HLA:=hid hla;have HB:=hid hbel;clear heq hbel hla;by_cases hlt:k<n
    ·have hkl:k<l.length:=by have:=HN.out;omega
     obtain ⟨t,ht⟩:∃ t,l[k]? = some t:=⟨l[k],List.getElem?_eq_getElem hkl⟩;have hd:l.drop k=t::l.drop (k+1):=by
      rw [List.drop_eq_getElem_cons hkl];congr 1;rw [List.getElem?_eq_getElem hkl] at ht;exact Option.some.inj ht
     have HD:=hid hd;have HT:=hid ht;obtain ⟨e,he⟩:∃ e,bwE f h p t=e:=⟨_,rfl⟩;have HEE:=hid he;obtain ⟨d0,d1,d2⟩:=HA.out.below HB.out HZ.out;clear ht hkl hd he;go_wp2_with fail
     refine (xS _ _ _ f h l k t p e _ (HF.out.below (HE.out _ HB.out)) (HH.out.below (HE.out _ HB.out)) (HV.out.below (HE.out _ HB.out)) HLF.out HLH.out (by have:=HN.out;omega) HT.out HLA.out HOK.out (HG.out.below (HE.out _ HB.out)) HEE.out).mono ?_;rintro r w2 ⟨rfl,hb2⟩;have HB2:Hid (Below W.heap.size W w2):=HB.out.trans (hb2.mono HB.out.size);clear hb2 d0 d1 d2;by_cases hz:e=0
     ·subst hz;have HN2:Hid (bwr f h l 0 none=bwr f h (l.drop (k+1)) (k+1) (some t)):=hid (show bwr f h l 0 none=bwr f h (l.drop (k+1)) (k+1) (some t) by rw [HEQ.out,HD.out,mN HEE.out]);go_wp2;go_roundw
      case rel=>exact ⟨k+1,some t,by omega,by go_num,.inr ⟨k,t,rfl,HT.out,rfl⟩,HN2.out,HB2.out⟩
      case measure=>simp [intOf];omega
     ·have HN2:Hid (bwr f h l 0 none=(e,(k:Int))):=hid (show bwr f h l 0 none=(e,(k:Int)) by rw [HEQ.out,HD.out,mM HEE.out hz]);have hne:((e:Int) != 0)=true:=by simp;omega
      have H0:=hid hz;have hz2:=HB2.out.size;clear hz;go_wp2;go_ret;rw [HR.out,HN2.out];exact ⟨_,rfl,.inl (atIs.new w2 e k H0.out),HE.out _ (HB2.out.alloc hz2 _)⟩
    ·have HN2:Hid (bwr f h l 0 none=(0,-1)):=hid (show bwr f h l 0 none=(0,-1) by rw [HEQ.out,List.drop_eq_nil_of_le (by have:=HN.out;omega)];rfl);go_wp2;go_ret;exact ⟨_,rfl,.inl (.inl ⟨HR.out.trans HN2.out,rfl⟩),HE.out _ HB.out⟩
 ·have HR:=hid (pV (ws:=l) HEB.out h0);have H0:=hid h0;rw [iL h0];clear h0;go_wp2;go_ret;rw [HR.out];exact ⟨_,rfl,.inr ⟨H0.out,rfl,rfl⟩,HE.out _ HB1.out⟩
end
section
open Go.RowKit
def aN (l:List Wr):List ByteArray:=l.map (·.key)
def dj (x:Wr):List UInt8:=(bc x.kind x.value x.n).data.toList
def bF (h:List Ent) (r:Int):Nat:=h.findIdx (fun e=>decide (e.rep=r))
def bA (T:List ByteArray):List UInt8:=T.flatMap fun k=>bT k.data.toList
def oneB (h:List Ent) (ahead:Int) (x:Wr) (n:Nat):List UInt8 :=
 [UInt8.ofNat x.kind.toNat]++putL (x.time-ahead).toNat++putL (bF h x.rep)++putL n++dj x
def rowB (h:List Ent):Int→List Wr→List Nat→List UInt8
 | _,[],_=>[]
 | _,_::_,[]=>[]
 | ahead,x::r,n::N=>oneB h ahead x n++rowB h x.time r N
def aK (f h:List Ent) (l:List Wr):List UInt8 :=
 aG f++aG h++putL (tabK [] (aN l)).length++bA (tabK [] (aN l))++putL l.length++rowB h 0 l (atK [] (aN l))
def aJ (f h:List Ent) (l:List Wr):List UInt8×Nat×Int :=
 if (batF f h l).1≠0 then ([],batF f h l) else if 20000<(aK f h l).length then ([],4,-1) else (aK f h l,0,-1)
theorem mH {f h:List Ent} {l:List Wr} (h0:(batF f h l).1≠0):aJ f h l=([],batF f h l):=by unfold aJ;rw [if_pos h0]
theorem jW {f h:List Ent} {l:List Wr} (h0:(batF f h l).1=0) (h1:20000<(aK f h l).length):aJ f h l=([],4,-1):=by unfold aJ;rw [if_neg (by simpa using h0),if_pos h1]
theorem gI {f h:List Ent} {l:List Wr} (h0:(batF f h l).1=0) (h1:¬ 20000<(aK f h l).length):aJ f h l=(aK f h l,0,-1):=by unfold aJ;rw [if_neg (by simpa using h0),if_neg h1]
theorem ju (k:ByteArray) (T:List ByteArray):bA (k::T)=bT k.data.toList++bA T:=by simp [bA]
theorem lC (h:List Ent) (ahead:Int) (x:Wr) (r:List Wr) (n:Nat) (N:List Nat):rowB h ahead (x::r) (n::N)=oneB h ahead x n++rowB h x.time r N:=rfl
def ar:List UInt8→Nat×Nat×Nat
 | []=>(0,0,7)
 | c::_=>if c.toNat<1∨4<c.toNat then (0,0,1) else (c.toNat,1,0)
def unT (s:List UInt8):Nat→Nat→List ByteArray→(Nat×Nat) ⊕ (Nat×List ByteArray)
 | 0,a,T=>.inr (a,T)
 | k+1,a,T=>if (getS (s.drop a)).2.2≠0 then .inl ((getS (s.drop a)).2.2,a) else unT s k (a+(getS (s.drop a)).2.1) (T++[⟨(getS (s.drop a)).1.toArray⟩])
theorem m7 {s t:List UInt8} {k a n e:Nat} {T:List ByteArray} (h:getS (s.drop a)=(t,n,e)) (he:e≠0):unT s (k+1) a T=.inl (e,a):=by unfold unT;rw [h,if_pos he]
theorem jx {s t:List UInt8} {k a n:Nat} {T:List ByteArray} (h:getS (s.drop a)=(t,n,0)):unT s (k+1) a T=unT s k (a+n) (T++[⟨t.toArray⟩]):=by rw [unT,h,if_neg (by simp)]
def cH (K:Int) (l:List UInt8):Nat:=(getN K l).2.1+(getV K (l.drop (getN K l).2.1)).2.1
def cy (K:Int) (l:List UInt8):ByteArray:=⟨(getV K (l.drop (getN K l).2.1)).1.toArray⟩
def br (s:List UInt8) (h:List Ent) (T:List ByteArray) (a:Nat) (ahead:Int):(Nat×Nat) ⊕ (Nat×Wr×Nat) :=
 match ar (s.drop a) with
 | (K,_,e)=>if e≠0 then .inl (e,a) else
  match intL (s.drop (a+1)) (1099511627776-ahead) with
  | (t,k1,e)=>if e≠0 then .inl (e,a+1) else
   match intL (s.drop (a+1+k1)) ((h.length:Int)-1) with
   | (p,k2,e)=>if e≠0 then .inl (e,a+1+k1) else
    match intL (s.drop (a+1+k1+k2)) ((T.length:Int)-1) with
    | (n,k3,e)=>if e≠0 then .inl (e,a+1+k1+k2) else
     if aH (ahead+t) (h.getD p ⟨0,0⟩).rep K (T.getD n ⟨#[]⟩) (s.drop (a+1+k1+k2+k3))≠0 then .inl (aH (ahead+t) (h.getD p ⟨0,0⟩).rep K (T.getD n ⟨#[]⟩) (s.drop (a+1+k1+k2+k3)),a+1+k1+k2+k3)
     else .inr (a+1+k1+k2+k3+cH K (s.drop (a+1+k1+k2+k3)),⟨ahead+t,(h.getD p ⟨0,0⟩).rep,K,T.getD n ⟨#[]⟩,cy K (s.drop (a+1+k1+k2+k3)),(getN K (s.drop (a+1+k1+k2+k3))).1⟩,n)
section
variable {s:List UInt8} {h:List Ent} {T:List ByteArray} {a:Nat} {ahead:Int} {K j t k1 p k2 n k3 e:Nat}
theorem uF (h0:ar (s.drop a)=(K,j,e)) (he:e≠0):br s h T a ahead=.inl (e,a):=by unfold br;rw [h0];simp only;rw [if_pos he]
theorem uI (h0:ar (s.drop a)=(K,j,0)) (h1:intL (s.drop (a+1)) (1099511627776-ahead)=(t,k1,e)) (he:e≠0):br s h T a ahead=.inl (e,a+1):=by
 unfold br;rw [h0];simp only;rw [if_neg (by simp),h1];simp only;rw [if_pos he]
theorem uH (h0:ar (s.drop a)=(K,j,0)) (h1:intL (s.drop (a+1)) (1099511627776-ahead)=(t,k1,0)) (h2:intL (s.drop (a+1+k1)) ((h.length:Int)-1)=(p,k2,e)) (he:e≠0):br s h T a ahead=.inl (e,a+1+k1):=by
 unfold br;rw [h0];simp only;rw [if_neg (by simp),h1];simp only;rw [if_neg (by simp),h2];simp only;rw [if_pos he]
theorem uE (h0:ar (s.drop a)=(K,j,0)) (h1:intL (s.drop (a+1)) (1099511627776-ahead)=(t,k1,0)) (h2:intL (s.drop (a+1+k1)) ((h.length:Int)-1)=(p,k2,0))
 (h3:intL (s.drop (a+1+k1+k2)) ((T.length:Int)-1)=(n,k3,e)) (he:e≠0):br s h T a ahead=.inl (e,a+1+k1+k2):=by
 unfold br;rw [h0];simp only;rw [if_neg (by simp),h1];simp only;rw [if_neg (by simp),h2];simp only;rw [if_neg (by simp),h3];simp only;rw [if_pos he]
theorem uD (h0:ar (s.drop a)=(K,j,0)) (h1:intL (s.drop (a+1)) (1099511627776-ahead)=(t,k1,0)) (h2:intL (s.drop (a+1+k1)) ((h.length:Int)-1)=(p,k2,0))
 (h3:intL (s.drop (a+1+k1+k2)) ((T.length:Int)-1)=(n,k3,0)) (h4:aH (ahead+t) (h.getD p ⟨0,0⟩).rep K (T.getD n ⟨#[]⟩) (s.drop (a+1+k1+k2+k3))=e) (he:e≠0):br s h T a ahead=.inl (e,a+1+k1+k2+k3):=by
 unfold br;rw [h0];simp only;rw [if_neg (by simp),h1];simp only;rw [if_neg (by simp),h2];simp only;rw [if_neg (by simp),h3];simp only;rw [if_neg (by simp),if_pos (by rw [h4];exact he),h4]
theorem oX (h0:ar (s.drop a)=(K,j,0)) (h1:intL (s.drop (a+1)) (1099511627776-ahead)=(t,k1,0)) (h2:intL (s.drop (a+1+k1)) ((h.length:Int)-1)=(p,k2,0))
 (h3:intL (s.drop (a+1+k1+k2)) ((T.length:Int)-1)=(n,k3,0)) (h4:aH (ahead+t) (h.getD p ⟨0,0⟩).rep K (T.getD n ⟨#[]⟩) (s.drop (a+1+k1+k2+k3))=0) :
 br s h T a ahead=.inr (a+1+k1+k2+k3+cH K (s.drop (a+1+k1+k2+k3)),⟨ahead+t,(h.getD p ⟨0,0⟩).rep,K,T.getD n ⟨#[]⟩,cy K (s.drop (a+1+k1+k2+k3)),(getN K (s.drop (a+1+k1+k2+k3))).1⟩,n):=by
 unfold br;rw [h0];simp only;rw [if_neg (by simp),h1];simp only;rw [if_neg (by simp),h2];simp only;rw [if_neg (by simp),h3];simp only;rw [if_neg (by simp),if_neg (by rw [h4];simp)]
end
def unW (s:List UInt8) (h:List Ent) (T:List ByteArray):Nat→Nat→Int→List Wr→List Nat→(Nat×Nat) ⊕ (Nat×List Wr×List Nat)
 | 0,a,_,W,N=>.inr (a,W,N)
 | k+1,a,ahead,W,N=>match br s h T a ahead with
  | .inl r=>.inl r
  | .inr (b,x,n)=>unW s h T k b x.time (W++[x]) (N++[n])
theorem uR {s:List UInt8} {h:List Ent} {T:List ByteArray} {k a:Nat} {ahead:Int} {W:List Wr} {N:List Nat} {r:Nat×Nat} (h0:br s h T a ahead=.inl r):unW s h T (k+1) a ahead W N=.inl r:=by rw [unW,h0]
theorem pa {s:List UInt8} {h:List Ent} {T:List ByteArray} {k a b n:Nat} {ahead:Int} {W:List Wr} {N:List Nat} {x:Wr} (h0:br s h T a ahead=.inr (b,x,n)):unW s h T (k+1) a ahead W N=unW s h T k b x.time (W++[x]) (N++[n]):=by rw [unW,h0]
def unbF (s:List UInt8):(Nat×Int) ⊕ (List Ent×List Ent×List Wr) :=
 if 20000<s.length then .inl (4,-1) else
 match ay s with
 | (e,n,f)=>if e≠0 then .inl (e,0) else
  match ay (s.drop n) with
  | (e,m,h)=>if e≠0 then .inl (e,(n:Int)) else
   match intL (s.drop (n+m)) 60 with
   | (k,j,e)=>if e≠0 then .inl (e,((n+m:Nat):Int)) else
    match unT s k (n+m+j) [] with
    | .inl (e,p)=>.inl (e,(p:Int))
    | .inr (b,T)=>match intL (s.drop b) 60 with
     | (k2,j2,e)=>if e≠0 then .inl (e,(b:Int)) else
      match unW s h T k2 (b+j2) 0 [] [] with
      | .inl (e,p)=>.inl (e,(p:Int))
      | .inr (c,W,N)=>if c<s.length then .inl (3,(c:Int))
       else if (bC T (N.map Int.ofNat)).2.1≠0 then .inl ((bC T (N.map Int.ofNat)).2.1,(s.length:Int))
       else if (batF f h W).1≠0 then .inl ((batF f h W).1,(s.length:Int))
       else .inr (f,h,W)
section
variable {s:List UInt8} {f h:List Ent} {T:List ByteArray} {W:List Wr} {N:List Nat} {n m k j b k2 j2 c e p:Nat}
theorem uW (h0:20000<s.length):unbF s=.inl (4,-1):=by unfold unbF;rw [if_pos h0]
theorem uU (h0:¬ 20000<s.length) (h1:ay s=(e,n,f)) (he:e≠0):unbF s=.inl (e,0):=by unfold unbF;rw [if_neg h0,h1];simp only;rw [if_pos he]
theorem uV (h0:¬ 20000<s.length) (h1:ay s=(0,n,f)) (h2:ay (s.drop n)=(e,m,h)) (he:e≠0):unbF s=.inl (e,(n:Int)):=by
 unfold unbF;rw [if_neg h0,h1];simp only;rw [if_neg (by simp),h2];simp only;rw [if_pos he]
theorem uZ (h0:¬ 20000<s.length) (h1:ay s=(0,n,f)) (h2:ay (s.drop n)=(0,m,h)) (h3:intL (s.drop (n+m)) 60=(k,j,e)) (he:e≠0):unbF s=.inl (e,((n+m:Nat):Int)):=by
 unfold unbF;rw [if_neg h0,h1];simp only;rw [if_neg (by simp),h2];simp only;rw [if_neg (by simp),h3];simp only;rw [if_pos he]
theorem uY (h0:¬ 20000<s.length) (h1:ay s=(0,n,f)) (h2:ay (s.drop n)=(0,m,h)) (h3:intL (s.drop (n+m)) 60=(k,j,0)) (h4:unT s k (n+m+j) []=.inl (e,p)):unbF s=.inl (e,(p:Int)):=by
 unfold unbF;rw [if_neg h0,h1];simp only;rw [if_neg (by simp),h2];simp only;rw [if_neg (by simp),h3];simp only;rw [if_neg (by simp),h4]
theorem ve (h0:¬ 20000<s.length) (h1:ay s=(0,n,f)) (h2:ay (s.drop n)=(0,m,h)) (h3:intL (s.drop (n+m)) 60=(k,j,0)) (h4:unT s k (n+m+j) []=.inr (b,T)) (h5:intL (s.drop b) 60=(k2,j2,e)) (he:e≠0):unbF s=.inl (e,(b:Int)):=by
 unfold unbF;rw [if_neg h0,h1];simp only;rw [if_neg (by simp),h2];simp only;rw [if_neg (by simp),h3];simp only;rw [if_neg (by simp),h4];simp only;rw [h5];simp only;rw [if_pos he]
theorem vd (h0:¬ 20000<s.length) (h1:ay s=(0,n,f)) (h2:ay (s.drop n)=(0,m,h)) (h3:intL (s.drop (n+m)) 60=(k,j,0)) (h4:unT s k (n+m+j) []=.inr (b,T)) (h5:intL (s.drop b) 60=(k2,j2,0)) (h6:unW s h T k2 (b+j2) 0 [] []=.inl (e,p)):unbF s=.inl (e,(p:Int)):=by
 unfold unbF;rw [if_neg h0,h1];simp only;rw [if_neg (by simp),h2];simp only;rw [if_neg (by simp),h3];simp only;rw [if_neg (by simp),h4];simp only;rw [h5];simp only;rw [if_neg (by simp),h6]
theorem pc (h0:¬ 20000<s.length) (h1:ay s=(0,n,f)) (h2:ay (s.drop n)=(0,m,h)) (h3:intL (s.drop (n+m)) 60=(k,j,0)) (h4:unT s k (n+m+j) []=.inr (b,T)) (h5:intL (s.drop b) 60=(k2,j2,0)) (h6:unW s h T k2 (b+j2) 0 [] []=.inr (c,W,N)) :
 unbF s=if c<s.length then .inl (3,(c:Int)) else if (bC T (N.map Int.ofNat)).2.1≠0 then .inl ((bC T (N.map Int.ofNat)).2.1,(s.length:Int)) else if (batF f h W).1≠0 then .inl ((batF f h W).1,(s.length:Int)) else .inr (f,h,W):=by
 unfold unbF;rw [if_neg h0,h1];simp only;rw [if_neg (by simp),h2];simp only;rw [if_neg (by simp),h3];simp only;rw [if_neg (by simp),h4];simp only;rw [h5];simp only;rw [if_neg (by simp),h6]
end
end
