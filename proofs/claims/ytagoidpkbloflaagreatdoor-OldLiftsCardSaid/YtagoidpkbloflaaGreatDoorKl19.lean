import Derived.Test.YtagoidpkbloflaaGreatDoorKlq
import Derived.Test.YtagoidpkbloflaaGreatDoorKl10
import Derived.Test.YtagoidpkbloflaaGreatDoorKl17
import Derived.Test.YtagoidpkbloflaaGreatDoorKl18
namespace Go.Proofs.YtagoidpkbloflaaGreatDoor
open Lib (hid)
set_option maxRecDepth 100000
set_option maxHeartbeats 8000000
section
open Go.RowKit
theorem pm:errV 0=.nilIface:=rfl
theorem jw {e:Nat} (h:e≠0):errV e=.iface 26 (.int .i64 e):=by unfold errV;rw [if_neg h]
def eQ (w:World) (B:Nat) (vf vh vw:Value):Prop :=
 w.cell? ⟨B,0,none⟩=some vf∧w.cell? ⟨B,1,none⟩=some vh∧w.cell? ⟨B,2,none⟩=some vw
theorem eQ.below {w w':World} {B:Nat} {vf vh vw:Value} {m:Nat} (h:eQ w B vf vh vw) (hb:Below m w w') (hm:B<m):eQ w' B vf vh vw :=
 ⟨(hb.cell hm).trans h.1,(hb.cell hm).trans h.2.1,(hb.cell hm).trans h.2.2⟩
theorem cy (w:World) (vf vh vw:Value) (t:TypeId):eQ (w.alloc (.cells #[vf,vh,vw] t)) w.heap.size vf vh vw:=by
 unfold eQ;simp
theorem CO (x:Wr) (e:Nat) (w:World) (hk:x.key.size≤140737488351232) (hv:x.value.size≤140737488351232) (he:wE x=e) :
 Calls Tryz.prog 165 #[.agg #[.int .i64 x.time,.int .i64 x.rep,.int .i64 x.kind,.string x.key,.string x.value,.int .i64 x.n]] w fun r w'=>r=.returned (errV e)∧Below w.heap.size w w':=by
 subst he;exact oj x.time x.rep x.kind x.key x.value x.n w hk hv
theorem uv (vf vh vw:Value) (f h:List Ent) (l:List Wr) (k:Nat) (x:Wr) (p:Option Wr) (e:Nat) (w:World) (hf:ae w vf f) (hh:ae w vh h) (hv:bj w vw l) (hlf:f.length≤9223372036854775807) (hlh:h.length≤9223372036854775807) (hl:l.length≤60)
 (hx:l[k]? = some x) (hp:(k=0∧p=none)∨∃ j q,k=j+1∧l[j]? = some q∧p=some q) (hok:∀ t∈l,WrOk t) (hg:errT w) (he:bwE f h p x=e) :
 Calls Tryz.prog 124 #[.agg #[vf,vh,vw],.int .i64 (k:Int)] w fun r w'=>r=.returned (.int .i64 (e:Nat))∧Below w.heap.size w w':=by
 have HF:=hid hf;have HH:=hid hh;have HG:=hid hg;have HLF:=hid hlf;have HLH:=hid hlh;obtain ⟨aw,cw,rfl,fw⟩:=hv.form;have FW:=hid fw;obtain ⟨n,hn⟩:∃ n,n=l.length:=⟨_,rfl⟩;rw [←hn] at hl ⊢;have hkn:k<n:=by rw [hn];exact (Do.1 hx).1
 obtain ⟨b1,o1,rfl,hb1,p0,p1,p2,p3,p4,p5⟩:=fw k x hx;have HOK:=hid (hok x (DB hx));obtain ⟨ew,hew⟩:∃ ew,wE x=ew:=⟨_,rfl⟩;have HEW:=hid hew;have HE:=hid he;have HP:=hid hp;clear hf hh hg hlf hlh hv fw hn hx hp hok he hew;go_enter Tryz.func124,Tryz.ntmps124
 go_wp2_with fail
 refine (CO x ew _ HOK.out.2.2.1 HOK.out.2.2.2 HEW.out).mono ?_;rintro r w1 ⟨rfl,hb2⟩;have hz1:w.heap.size+1<w1.heap.size:=by have:=hb2.size;simp at this;omega
 have HZ1:=hid hz1;have HBA1:Hid (eQ w1 w.heap.size vf vh (.slice (some ⟨b1,o1,none⟩) n cw)):=hid (((cy w vf vh (.slice (some ⟨b1,o1,none⟩) n cw) 25).below ((Below.refl _ _).alloc (Db _) _) (by simp)).below hb2 (by simp;omega));have HWA1:Hid (wrAt w1 (w.heap.size+1) x.time x.rep x.kind x.key x.value x.n):=hid ((by simpa using fj (w.alloc (.cells #[vf,vh,.slice (some ⟨b1,o1,none⟩) n cw] 25)) x.time x.rep x.kind x.key x.value x.n 78:wrAt _ (w.heap.size+1) x.time x.rep x.kind x.key x.value x.n).below hb2 (by simp));have HB1:Hid (Below w.heap.size w w1):=hid ((((Below.refl _ _).alloc (Db _) _).alloc (by simp) _).trans (hb2.mono (by simp;omega)));clear hb2 p0 p1 p2 p3 p4 p5 hz1;by_cases h0:ew=0
 ·subst h0;rw [pm];have hla:dT p x∨¬ dT p x:=Classical.em _;rcases HP.out with ⟨hk0,hp0⟩ | ⟨j,q,hkj,hq,hpq⟩
  ·subst hk0 hp0;obtain ⟨b,hb⟩:∃ b,wiF (x.time,x.rep) f h=b:=⟨_,rfl⟩;have HWI:=hid hb;have HR:Hid (e=if b=true then 0 else 6):=hid (by
    rw [←HE.out];cases b with
    | true=>rw [gP (p:=none) HEW.out trivial hb];rfl
    | false=>rw [jm (p:=none) HEW.out trivial hb];rfl)
   clear hb hla;obtain ⟨c0,c1,c2,c3,c4,c5⟩:=HWA1.out;obtain ⟨d0,d1,d2⟩:=HBA1.out;go_wp2
   go_quiet (fail)
   go_wp2_with fail
   refine (sK x.time x.rep vf vh f h b _ (HF.out.below (below_drewN HB1.out _)) (HH.out.below (below_drewN HB1.out _)) HLF.out HLH.out HWI.out).mono ?_;rintro r w2 ⟨rfl,hb2⟩;have HB2:Hid (Below w.heap.size w w2):=(below_drewN HB1.out _).trans (hb2.mono HB1.out.size);clear hb2 c0 c1 c2 c3 c4 c5 d0 d1 d2;cases b with
   | true =>
    go_wp2;go_ret;exact ⟨by rw [HR.out];rfl,HB2.out⟩
   | false =>
    go_wp2;go_ret;exact ⟨by rw [HR.out];rfl,HB2.out⟩
  ·obtain ⟨b2,o2,hbo,_,q0,q1,_⟩:=FW.out j q hq;simp only [E1,Eq,and_true] at hbo
   obtain ⟨rfl,rfl⟩:=hbo;have r0:=(HB1.out.cell (p:=⟨b1,o1+j * 6,none⟩) hb1).trans q0;have r1:=(HB1.out.cell (p:=⟨b1,o1+j * 6+1,none⟩) hb1).trans q1;have HK:=hid hkj;have hj1:(k:Int)-1=(j:Int):=by omega
   have hj2:IntKind.i64.wrap ((k:Int)-1)=(j:Int):=by rw [hj1];exact Dh _ (by omega)
   have hj3:IntKind.i64.wrap (j:Int)=(j:Int):=Dh _ (by omega);have hk0:(0:Int)<(k:Int):=by omega
   have z1:0<k:=by omega
   have z2:decide (0<k)=true:=by simp;omega
   have z3:decide ((0:Int)<(k:Int))=true:=by simp;omega
   have hjn:(j:Int)<(n:Int):=by omega
   have hjn':j<n:=by omega
   have hj0:(0:Int)≤(j:Int):=by omega
   obtain ⟨c,hc⟩:∃ c,cI (x.time,x.rep) (q.time,q.rep)=c:=⟨_,rfl⟩;have HC:=hid hc;have hc3:c=-1∨c=0∨c=1:=by rw [←hc];exact oY _ _ _ _
   obtain ⟨c0,c1,c2,c3,c4,c5⟩:=HWA1.out;obtain ⟨d0,d1,d2⟩:=HBA1.out;subst hpq;clear q0 q1 hq hkj hc hla;have hb1':b1<w1.heap.size:=Dv hb1 HB1.out.size;have k1:w1.cell? ⟨w.heap.size+1,0,none⟩=some (.int .i64 x.time)∧w1.cell? ⟨w.heap.size+1,1,none⟩=some (.int .i64 x.rep)∧w1.cell? ⟨w.heap.size,2,none⟩=some (.slice (some ⟨b1,o1,none⟩) n cw)∧w1.cell? ⟨b1,o1+j * 6,none⟩=some (.int .i64 q.time)∧w1.cell? ⟨b1,o1+j * 6+1,none⟩=some (.int .i64 q.rep):=⟨c0,c1,d2,r0,r1⟩;by_cases hcl:c=1
   ·subst hcl;obtain ⟨b,hb⟩:∃ b,wiF (x.time,x.rep) f h=b:=⟨_,rfl⟩;have HWI:=hid hb;have HR:Hid (e=if b=true then 0 else 6):=hid (by
     rw [←HE.out];cases b with
     | true=>rw [gP (p:=some q) HEW.out HC.out hb];rfl
     | false=>rw [jm (p:=some q) HEW.out HC.out hb];rfl)
    clear hb hc3;go_wp2;go_region_held3 (fun w'=>w'.cell? ⟨w.heap.size+1,0,none⟩=some (.int .i64 x.time)∧w'.cell? ⟨w.heap.size+1,1,none⟩=some (.int .i64 x.rep)∧w'.cell? ⟨w.heap.size,2,none⟩=some (.slice (some ⟨b1,o1,none⟩) n cw)∧w'.cell? ⟨b1,o1+j * 6,none⟩=some (.int .i64 q.time)∧w'.cell? ⟨b1,o1+j * 6+1,none⟩=some (.int .i64 q.rep)) (first | exact k1 | exact k2 | fail) (first | (go_at_call 168;((with_reducible refine (pH x.time x.rep q.time q.rep 1 _ HC.out).mono ?_);rintro r w2 ⟨rfl,hb2⟩;have HB2:Hid (Below w1.heap.size w1 w2):=hid (bQ hb2);have k2:w2.cell? ⟨w.heap.size+1,0,none⟩=some (.int .i64 x.time)∧w2.cell? ⟨w.heap.size+1,1,none⟩=some (.int .i64 x.rep)∧w2.cell? ⟨w.heap.size,2,none⟩=some (.slice (some ⟨b1,o1,none⟩) n cw)∧w2.cell? ⟨b1,o1+j * 6,none⟩=some (.int .i64 q.time)∧w2.cell? ⟨b1,o1+j * 6+1,none⟩=some (.int .i64 q.rep):=⟨(HB2.out.cell HZ1.out).trans c0,(HB2.out.cell HZ1.out).trans c1,(HB2.out.cell (Ed HZ1.out)).trans d2,(HB2.out.cell hb1').trans r0,(HB2.out.cell hb1').trans r1⟩;clear hb2)) | fail)
    obtain ⟨e0,e1,e2,e3,e4⟩:=k2;have g0:=(HB2.out.cell (p:=⟨w.heap.size,0,none⟩) (Ed HZ1.out)).trans d0;have g1:=(HB2.out.cell (p:=⟨w.heap.size,1,none⟩) (Ed HZ1.out)).trans d1;go_wp2_with fail
    have HB3:Hid (Below w.heap.size w w2):=HB1.out.trans (HB2.out.mono HB1.out.size);refine (sK x.time x.rep vf vh f h b _ (HF.out.below HB3.out) (HH.out.below HB3.out) HLF.out HLH.out HWI.out).mono ?_;rintro r w3 ⟨rfl,hb3⟩;have HB4:Hid (Below w.heap.size w w3):=HB3.out.trans (hb3.mono HB3.out.size);clear hb3 k1 e0 e1 e2 e3 e4 g0 g1 c0 c1 c2 c3 c4 c5 d0 d1 d2;cases b with
    | true =>
     go_wp2;go_ret;exact ⟨by rw [HR.out];rfl,HB4.out⟩
    | false =>
     go_wp2;go_ret;exact ⟨by rw [HR.out];rfl,HB4.out⟩
   ·have HR:Hid (e=10):=hid (by rw [←HE.out,oV (p:=some q) HEW.out (fun hl=>hcl (HC.out.symm.trans hl))]);have y1:c≤0:=by omega
    have y2:decide (c≤0)=true:=by simp;omega
    clear hc3 hcl;go_wp2;go_region_held3 (fun w'=>w'.cell? ⟨w.heap.size+1,0,none⟩=some (.int .i64 x.time)∧w'.cell? ⟨w.heap.size+1,1,none⟩=some (.int .i64 x.rep)∧w'.cell? ⟨w.heap.size,2,none⟩=some (.slice (some ⟨b1,o1,none⟩) n cw)∧w'.cell? ⟨b1,o1+j * 6,none⟩=some (.int .i64 q.time)∧w'.cell? ⟨b1,o1+j * 6+1,none⟩=some (.int .i64 q.rep)) (first | exact k1 | exact k2 | fail) (first | (go_at_call 168;((with_reducible refine (pH x.time x.rep q.time q.rep c _ HC.out).mono ?_);rintro r w2 ⟨rfl,hb2⟩;have HB2:Hid (Below w1.heap.size w1 w2):=hid (bQ hb2);have k2:w2.cell? ⟨w.heap.size+1,0,none⟩=some (.int .i64 x.time)∧w2.cell? ⟨w.heap.size+1,1,none⟩=some (.int .i64 x.rep)∧w2.cell? ⟨w.heap.size,2,none⟩=some (.slice (some ⟨b1,o1,none⟩) n cw)∧w2.cell? ⟨b1,o1+j * 6,none⟩=some (.int .i64 q.time)∧w2.cell? ⟨b1,o1+j * 6+1,none⟩=some (.int .i64 q.rep):=⟨(HB2.out.cell HZ1.out).trans c0,(HB2.out.cell HZ1.out).trans c1,(HB2.out.cell (Ed HZ1.out)).trans d2,(HB2.out.cell hb1').trans r0,(HB2.out.cell hb1').trans r1⟩;clear hb2)) | fail)
    go_wp2;go_ret;exact ⟨by rw [HR.out];rfl,HB1.out.trans (HB2.out.mono HB1.out.size)⟩
 ·have HR:Hid (e=ew):=hid (by rw [←HE.out,oW HEW.out h0]);rw [jw h0];go_wp2_with fail
  refine (e7 _ (ew:Int) _ (HG.out.below HB1.out) (.inl rfl)).mono ?_;rintro r w2 ⟨rfl,hb2⟩;have HB2:Hid (Below w.heap.size w w2):=HB1.out.trans (hb2.mono HB1.out.size);clear hb2;go_wp2;go_ret;exact ⟨by rw [HR.out];rfl,HB2.out⟩
end
section
open Go.RowKit
def ly (w:World) (s:List UInt8) (e:Ending) (w':World):Prop :=
 ∃ v,e=.returned (.tuple #[v,.int .i64 ((aj s).2.1:Nat),noV (aj s).1])∧ai w' w.heap.size v (aj s).2.2∧Below w.heap.size w w'
theorem ob {w:World} {s:List UInt8} {e:Nat} (h:aj s=(e,0,[])) (he:e≠0) (w':World) (hb:Below w.heap.size w w'):ly w s (.returned (.tuple #[.slice none 0 0,.int .i64 0,.iface 26 (.int .i64 (e:Nat))])) w':=by
 refine ⟨.slice none 0 0,?_,?_,hb⟩
 ·rw [h];simp only;rw [jQ he];rfl
 ·rw [h];exact cm _ _
theorem Ci {w:World} {s:List UInt8} {n:Nat} {l:List Ent} (h:aj s=(0,n,l)) (v:Value) (w':World) (ho:ai w' w.heap.size v l) (hb:Below w.heap.size w w'):ly w s (.returned (.tuple #[v,.int .i64 (n:Nat),.nilIface])) w':=by
 refine ⟨v,?_,?_,hb⟩
 ·rw [h];rfl
 ·rw [h];exact ho
theorem Cb {w:World} {x:Nat ⊕ (List Ent×Nat)} {er:Nat} (h:x=.inl er) {e:Ending} {w':World} (hg:gI w x e w'):e=.returned (.tuple #[.slice none 0 0,.int .i64 0,.iface 26 (.int .i64 (er:Nat))])∧Below w.heap.size w w':=by
 rw [h] at hg;exact hg
theorem Cc {w:World} {x:Nat ⊕ (List Ent×Nat)} {run:List Ent} {k:Nat} (h:x=.inr (run,k)) {e:Ending} {w':World} (hg:gI w x e w'):∃ v,e=.returned (.tuple #[v,.int .i64 (k:Nat),.nilIface])∧ai w' w.heap.size v run∧Below w.heap.size w w':=by
 rw [h] at hg;exact hg
theorem py {s:List UInt8} {used e:Nat} {least:Int} {acc:List Ent} (h:getR s used least acc=.inl e):e≠0:=by
 have htm:∀ (k:Nat) (s:List UInt8) (used:Nat) (r:Int) (acc:List Ent),tmA k s used r acc=.inl e→e≠0:=by
  intro k
  induction k with
  | zero=>intro s used r acc h;cases h
  | succ k ih =>
   intro s used r acc h;rcases ar s 1099511627776 with ⟨e',hi,he,_⟩ | ⟨t,j,hi,_⟩
   ·rw [gx hi he] at h;injection h with h;subst h;exact he
   ·rw [gy hi] at h;exact ih _ _ _ _ h
 rcases ar s 200 with ⟨e',hi,he,_⟩ | ⟨g,j,hi,_⟩
 ·rw [gZ hi he] at h;injection h with h;subst h;exact he
 ·rcases ar (s.drop j) 16 with ⟨e',hi2,he,_⟩ | ⟨c,i,hi2,_⟩
  ·rw [hH hi hi2 he] at h;injection h with h;subst h;exact he
  ·rw [i7 hi hi2] at h;exact htm _ _ _ _ _ h
theorem uN {l:List Ent}:∀ {r:Int},dl r l→∀ e∈l,r≤e.rep∧e.rep<r+l.length:=by
 induction l with
 | nil=>intro r _ e h;cases h
 | cons d t ih =>
  intro r h e he;rw [DM];rcases Et.1 he with rfl | he
  ·have:=h.1;omega
  ·have:=ih h.2 e he;omega
theorem sD (s:ByteArray) (w:World) (hs:s.size≤1000000) (hg:errT w) :
 Calls Tryz.prog 109 #[.string s] w (ly w s.data.toList):=by
 have HG:=hid hg;have hsl:s.data.toList.length=s.size:=(ac s).symm;have HSL:=hid hsl;have HM0:Hid (s.size≤maxLen):=hid (show s.size≤maxLen by unfold maxLen;omega);clear hsl hg;rcases ar s.data.toList 16 with ⟨e,hi,he,_⟩ | ⟨R,j,hi,hR,hj1,hj2,hj3,_⟩
 ·have HI:=hid hi;have HV:=hid (lc hi he);have HNE:=hid he;clear hi he;go_enter Tryz.func109,Tryz.ntmps109
  go_wp2_with fail
  refine (iU _ 16 _ HM0.out (by decide) (by decide) e HI.out HNE.out).mono ?_;rintro r w' ⟨rfl,rfl⟩;go_wp2;go_ret3;exact ob HV.out HNE.out _ (Below.refl _ _)
 ·have HI:=hid hi;rw [HSL.out] at hj3;have hR16:R≤16:=by omega
  clear hi;go_enter Tryz.func109,Tryz.ntmps109
  go_wp2_with fail
  refine (iV _ 16 _ HM0.out (by decide) (by decide) R j HI.out).mono ?_;rintro r w' ⟨rfl,rfl⟩;go_wp2
  go_loopw [6,8,9,24] (fun av lv bv i wr=>∃ (k a:Nat) (least:Int) (acc:List Ent),k≤R∧i=.int .i64 k∧av=.int .i64 a∧a≤s.size∧bv=.int .i64 least∧0≤least∧least≤300 * (k:Int)∧acc.length≤17 * k∧rdA R (s.data.toList.drop j) j 0 []=rdA (R-k) (s.data.toList.drop a) a least acc∧ai wr w.heap.size lv acc∧Below w.heap.size w wr) (fun _ _ _ i _=>R-(intOf i).toNat)
  case atStart=>exact ⟨0,j,0,[],by omega,rfl,rfl,hj3,rfl,by omega,by omega,by simp,rfl,cm _ _,Below.refl _ _⟩
  case round =>
   obtain ⟨k,a,least,acc,hk,rfl,rfl,has,rfl,hl0,hl3,hal,heq,ho,hb⟩:=hrel;have HEQ:=hid heq;have HO:=hid ho;have HB:=hid hb;have hzr:=hb.size;have HAL:=hid hal;have HE:=hid (aS s a);have hxs:(s.extract a s.size).size≤1000000:=by rw [DJ];omega
   have HXS:=hid hxs;have e3:(0:Int)≤(a:Int):=by omega
   have e4:(a:Int)≤(s.size:Int):=by omega
   clear heq ho hb hal hxs;by_cases hlt:k<R
   ·have hlt':(k:Int)<(R:Int):=by omega
    obtain ⟨c',hc'⟩:∃ c',R-k=c'+1:=⟨R-k-1,by omega⟩
    match hgr:getR (s.data.toList.drop a) 0 least [] with
    | .inl e =>
     have HGR:Hid (getR (s.extract a s.size).data.toList 0 least []=.inl e):=hid (show getR (s.extract a s.size).data.toList 0 least []=.inl e by rw [HE.out];exact hgr);have HV:=hid (fS HI.out (show rdA R (s.data.toList.drop j) j 0 []=.inl e by rw [HEQ.out,hc',fd hgr]));have HNE:=hid (py hgr);clear hgr hc';go_wp2_with fail
     refine (sB (s.extract a s.size) least _ HXS.out hl0 (by omega)).mono ?_;intro r w1 hgi;obtain ⟨rfl,hb1⟩:=Cb HGR.out hgi;have HB1:Hid (Below w.heap.size w w1):=HB.out.trans (hb1.mono hzr);clear hgi hb1;go_wp2;go_ret3;exact ob HV.out HNE.out _ HB1.out
    | .inr (run,i) =>
     have HGR:Hid (getR (s.extract a s.size).data.toList 0 least []=.inr (run,i)):=hid (show getR (s.extract a s.size).data.toList 0 least []=.inr (run,i) by rw [HE.out];exact hgr);obtain ⟨run',hr',g1,g2,g3,g4,g5,_,g6,_,_⟩:=pz hgr;rw [E7] at hr';subst hr';rw [Dj,HSL.out] at g6;have hpos:0<run.length:=EJ.2 g1;have hlast:=gR g5 g1;have hbd:=uN g5;have HRB:Hid (∀ e∈run,0≤e.rep∧e.rep≤1000000):=hid (show ∀ e∈run,0≤e.rep∧e.rep≤1000000 from fun e he=>by have:=hbd e he;omega);have HNIL:=hid g1;obtain ⟨lr,hlr⟩:∃ x,(run.getLastD ⟨0,0⟩).rep=x:=⟨_,rfl⟩;have HLR:=hid hlr;have HST:Hid (rdA R (s.data.toList.drop j) j 0 []=rdA (R-(k+1)) (s.data.toList.drop (a+i)) (a+i) (lr+2) (acc++run)):=hid (show rdA R (s.data.toList.drop j) j 0 []=rdA (R-(k+1)) (s.data.toList.drop (a+i)) (a+i) (lr+2) (acc++run) by
      rw [HEQ.out,hc',gl hgr,Dy,hlr,show R-(k+1)=c' by omega])
     rw [hlr] at hlast;have HLB:Hid (0≤lr+2∧lr+2≤300 * ((k+1:Nat):Int)):=hid (show 0≤lr+2∧lr+2≤300 * ((k+1:Nat):Int) by omega);have HRL:Hid (run.length≤17):=hid g2;have HAI:Hid (a+i≤s.size):=hid (show a+i≤s.size by omega);have hib:(i:Int)≤1000000:=by omega
     clear hgr hc' g1 g2 g3 g4 g5 g6 hbd hlr hlast;go_wp2_with fail
     refine (sB (s.extract a s.size) least _ HXS.out hl0 (by omega)).mono ?_;intro r w1 hgi;obtain ⟨v,rfl,how,hb1⟩:=Cc HGR.out hgi;have HOW:=hid how;have HB1:Hid (Below w.heap.size w w1):=HB.out.trans (hb1.mono hzr);have HO1:=hid (HO.out.below hb1);have HZ:Hid (∀ x,Value.ownBlock u8=some x→x<wr.heap.size):=hid (fun x hx=>(HO.out.lt x hx).2);rcases how.form with ⟨_,hn⟩ | ⟨gB,cap,rfl,hgb,hgl,hcs⟩
     ·rw [hn] at hpos;simp at hpos
     ·have HCS:=hid hcs;clear hgi hb1 how hcs;go_wp2_with (at_builtin;refine CA rfl _ _ rfl w.heap.size _ acc rfl HO1.out gB 0 cap run.length rfl run rfl (fun j u hj=>by rw [DY];exact HCS.out j u hj) hpos ?c1 ?c2 ?_)
      case c1=>have:=HAL.out;have:=HRL.out;omega
      case c2=>have:=HB1.out.size;omega
      ·intro g3 cap3 w3 ho3 hg3;have HO3:=hid ho3;have HB3:Hid (Below w.heap.size w w3):=HB1.out.grown hg3 HB1.out.size (fun k hk=>(HO1.out.lt k hk).1);have HRW:Hid (ae w3 (.slice (some ⟨gB,0,none⟩) run.length cap) run):=hid (Dt HOW.out hg3 (.inr (fun e=>by have:=HZ.out gB e.symm;omega)) |> fun h=>(show ai w3 wr.heap.size _ run from h).is);have HAL3:Hid ((acc++run).length≤17 * (k+1)):=hid (show (acc++run).length≤17 * (k+1) by have:=HAL.out;have:=HRL.out;rw [Df];omega);obtain ⟨q,hq⟩:∃ q,run.length=q:=⟨_,rfl⟩;rw [hq] at HRW hpos ⊢;have HQ:=hid hq;clear ho3 hg3 hq;go_wp2_with fail
       refine (oD _ run _ HRW.out HNIL.out (by have:=HRL.out;omega) HRB.out).mono ?_;rintro r w' ⟨rfl,rfl⟩;rw [HLR.out];go_wp2;go_roundw
       case rel=>exact ⟨k+1,a+i,lr+2,acc++run,by omega,by go_num,by go_num,HAI.out,rfl,HLB.out.1,HLB.out.2,HAL3.out,HST.out,by have h:=HO3.out;rw [HQ.out] at h;exact h,HB3.out⟩
       case measure=>simp [intOf];omega
   ·have hkr:k=R:=by omega
    have HRR:Hid (rdA R (s.data.toList.drop j) j 0 []=.inr (acc,a)):=hid (show rdA R (s.data.toList.drop j) j 0 []=.inr (acc,a) by rw [HEQ.out,hkr,Nat.sub_self];rfl);have hlt':(R:Int)≤(k:Int):=by omega
    have hal9:acc.length≤9223372036854775807:=by have:=HAL.out;omega
    have HI9:=hid hal9;clear hkr hal9;by_cases h0:(au acc).1=0
    ·have HV:=hid (ld HI.out HRR.out h0);have H0:=hid h0;clear h0;go_wp2_with fail
     refine (sw _ acc _ HO.out.is HI9.out (HG.out.below HB.out)).mono ?_;rintro r w1 ⟨rfl,hb1⟩;rw [H0.out,xH];have HB1:Hid (Below w.heap.size w w1):=HB.out.trans (hb1.mono hzr);have HO1:=hid (HO.out.below hb1);clear hb1;go_wp2;go_ret3;exact Ci HV.out _ _ HO1.out HB1.out
    ·have HV:=hid (lf HI.out HRR.out h0);have HQ:=hid (jQ h0);have H0:=hid h0;clear h0;go_wp2_with fail
     refine (sw _ acc _ HO.out.is HI9.out (HG.out.below HB.out)).mono ?_;rintro r w1 ⟨rfl,hb1⟩;rw [HQ.out];have HB1:Hid (Below w.heap.size w w1):=HB.out.trans (hb1.mono hzr);clear hb1;go_wp2;go_ret3;exact ob HV.out H0.out _ HB1.out
end
section
open Go.RowKit
theorem zY (v:Value) (l:List Ent) (x y:Int) (w:World) (hv:ae w v l) (hl:l.length≤9223372036854775807) (h:ofF l x=y) :
 Calls Tryz.prog 101 #[v,.int .i64 x] w fun r w'=>r=.returned (.int .i64 y)∧w=w':=by
 subst h;exact zX v l x w hv hl
theorem r6 (v:Value) (l:List Ent) (x y:Int) (w:World) (n:Nat) (hv:ae w v l) (hl:l.length≤9223372036854775807) (h:ofF l x=y) :
 Calls Tryz.prog 101 #[v,.int .i64 x] (w.drewN n) fun r w'=>r=.returned (.int .i64 y)∧∃ m,w'=w.drewN m :=
 (zY v l x y (w.drewN n) (hv.drewN n) hl h).mono fun _ _ ⟨h1,h2⟩=>⟨h1,n,h2.symm⟩
theorem eD (v:Value) (l:List Ent) (e:Nat) (pl:Int) (w:World) (hv:ae w v l) (hl:l.length≤9223372036854775807) (h:au l=(e,pl)) :
 Calls Tryz.prog 69 #[v] w fun r w'=>r=.returned (.agg #[.int .i64 (e:Int),.int .i64 pl])∧Below w.heap.size w w' :=
 (Au v l w hv hl).mono fun r w' ⟨h1,h2⟩=>⟨by rw [h1,h];rfl,h2⟩
theorem uV {a b:List Ent} {k:Nat} {t:Ent} (h:b[k]? = some t):covA a (b.drop k)=(decide (t.time≤ofF a t.rep) && covA a (b.drop (k+1))):=by
 obtain ⟨hk,ht⟩:=Do.1 h;rw [DA hk,ht];rfl
theorem zm (va vb:Value) (a b:List Ent) (w:World) (ha:ae w va a) (hb:ae w vb b) (hla:a.length≤9223372036854775807) (hlb:b.length≤9223372036854775807) :
 Calls Tryz.prog 70 #[va,vb] w fun r w'=>r=.returned (.bool (covB a b))∧Below w.heap.size w w':=by
 have HVA:=hid ha;have HVB:=hid hb;have HLA:=hid hla;have HLB:Hid (b.length≤9223372036854775807):=hid hlb;obtain ⟨aa,ca,rfl,_⟩:=ha.form;obtain ⟨ab,cb,rfl,fb⟩:=hb.form;have FB:=hid fb;obtain ⟨na,hna⟩:∃ n,n=a.length:=⟨_,rfl⟩;obtain ⟨nb,hnb⟩:∃ n,n=b.length:=⟨_,rfl⟩;have HNB:=hid hnb;rw [←hna] at HVA ⊢;rw [←hnb] at HVB hlb ⊢;clear ha hb hla fb hna hnb;obtain ⟨ea,pa,hra⟩:∃ e pl,au a=(e,pl):=⟨_,_,rfl⟩;obtain ⟨eb,pb,hrb⟩:∃ e pl,au b=(e,pl):=⟨_,_,rfl⟩;have HRA:=hid hra;have HRB:=hid hrb;have HC:Hid (covB a b=(decide (ea=0) && decide (eb=0) && covA a b)):=hid (show covB a b=(decide (ea=0) && decide (eb=0) && covA a b) by unfold covB;rw [hra,hrb]);clear hra hrb;by_cases h1:ea=0
 ·have hne:((ea:Int) == 0)=true:=by simp;exact h1
  by_cases h2:eb=0
  ·have hne2:((eb:Int) == 0)=true:=by simp;exact h2
   have HC2:Hid (covB a b=(true && covA a b)):=hid (show covB a b=(true && covA a b) by rw [HC.out,DX h1,DX h2];rfl);clear h1 h2 HC;go_enter Tryz.func70,Tryz.ntmps70
   go_wp2_with fail
   refine (eD _ a ea pa _ HVA.out HLA.out HRA.out).mono ?_;rintro r w1 ⟨rfl,hb1⟩;have HB1:=hid hb1;clear hb1;go_wp2_with fail
   refine (aH ea pa _).mono ?_;rintro r w2 ⟨rfl,hb2⟩;rw [hne];have HB2:Hid (Below w.heap.size w w2):=HB1.out.trans (hb2.mono HB1.out.size);clear hb2;go_wp2_with fail
   refine (eD _ b eb pb _ (HVB.out.below HB2.out) HLB.out HRB.out).mono ?_;rintro r w3 ⟨rfl,hb3⟩;have HB3:Hid (Below w.heap.size w w3):=HB2.out.trans (hb3.mono HB2.out.size);clear hb3;go_wp2_with fail
   refine (aH eb pb _).mono ?_;rintro r w4 ⟨rfl,hb4⟩;rw [hne2];have HB4:Hid (Below w.heap.size w w4):=HB3.out.trans (hb4.mono HB3.out.size);clear hb4;go_wp2
   go_loopw [5,18] (fun o i wr=>∃ (k:Nat) (ok:Bool),k≤nb∧i=.int .i64 k∧o=.bool ok∧covB a b=(ok && covA a (b.drop k))∧Below w.heap.size w wr) (fun _ i _=>nb-(intOf i).toNat)
   case atStart=>exact ⟨0,true,by omega,rfl,rfl,HC2.out,HB4.out⟩
   case round =>
    obtain ⟨k,ok,hk,rfl,rfl,heq,hbel⟩:=hrel;have HEQ:=hid heq;have HB:=hid hbel;have hzr:=hbel.size;clear heq hbel;by_cases hlt:k<nb
    ·obtain ⟨t, ht⟩ : ∃ t, b[k]? = some t := ⟨b[k]'(by have := HNB.out; omega), Di _⟩;obtain ⟨b1,o1,rfl,hb1,p0,p1⟩:=FB.out k t ht;have hd:=uV (a:=a) ht;obtain ⟨rep,time⟩:=t;simp only at p0 p1 hd
     have q0:=(HB.out.cell (p:=⟨b1,o1+k * 2,none⟩) hb1).trans p0;have q1:=(HB.out.cell (p:=⟨b1,o1+k * 2+1,none⟩) hb1).trans p1;cases ok with
     | false =>
      have HW:Hid (covB a b=(false && covA a (b.drop (k+1)))):=HEQ;clear p0 p1 ht hd;go_wp2
      go_quiet (fail)
      go_wp2;go_roundw
      case rel=>exact ⟨k+1,false,by omega,by go_num,rfl,HW.out,below_drewN (HB.out.alloc hzr _) _⟩
      case measure=>simp [intOf];omega
     | true =>
      obtain ⟨x,hx⟩:∃ x,ofF a rep=x:=⟨_,rfl⟩;rw [hx] at hd;have HX:=hid hx;by_cases hlx:time≤x
      ·have HW:Hid (covB a b=(true && covA a (b.drop (k+1)))):=hid (show covB a b=(true && covA a (b.drop (k+1))) by rw [HEQ.out,hd,DX hlx,Bool.true_and]);clear p0 p1 ht hd hx;go_wp2
       go_quiet ((go_at_call 101;exact r6 _ a rep x _ _ ((HVA.out.below HB.out).alloc _) HLA.out HX.out))
       go_wp2;go_roundw
       case rel=>exact ⟨k+1,true,by omega,by go_num,rfl,HW.out,below_drewN (HB.out.alloc hzr _) _⟩
       case measure=>simp [intOf];omega
      ·have HW:Hid (covB a b=(false && covA a (b.drop (k+1)))):=hid (show covB a b=(false && covA a (b.drop (k+1))) by rw [HEQ.out,hd,Dx hlx];rfl);clear p0 p1 ht hd hx;go_wp2
       go_quiet ((go_at_call 101;exact r6 _ a rep x _ _ ((HVA.out.below HB.out).alloc _) HLA.out HX.out))
       go_wp2;go_roundw
       case rel=>exact ⟨k+1,false,by omega,by go_num,by first | rfl | (congr 1;exact Dx (by omega)),HW.out,below_drewN (HB.out.alloc hzr _) _⟩
       case measure=>simp [intOf];omega
    ·have HW:Hid (covB a b=ok):=hid (show covB a b=ok by rw [HEQ.out,DD (by have:=HNB.out;omega)];show (ok && true)=ok;simp);go_wp2;go_ret;exact ⟨by rw [HW.out];rfl,HB.out⟩
  ·have hne2:((eb:Int) == 0)=false:=by simp;exact h2
   have HC2:Hid (covB a b=false):=hid (show covB a b=false by rw [HC.out,Dx h2];simp);clear h1 h2 HC;go_enter Tryz.func70,Tryz.ntmps70
   go_wp2_with fail
   refine (eD _ a ea pa _ HVA.out HLA.out HRA.out).mono ?_;rintro r w1 ⟨rfl,hb1⟩;have HB1:=hid hb1;clear hb1;go_wp2_with fail
   refine (aH ea pa _).mono ?_;rintro r w2 ⟨rfl,hb2⟩;rw [hne];have HB2:Hid (Below w.heap.size w w2):=HB1.out.trans (hb2.mono HB1.out.size);clear hb2;go_wp2_with fail
   refine (eD _ b eb pb _ (HVB.out.below HB2.out) HLB.out HRB.out).mono ?_;rintro r w3 ⟨rfl,hb3⟩;have HB3:Hid (Below w.heap.size w w3):=HB2.out.trans (hb3.mono HB2.out.size);clear hb3;go_wp2_with fail
   refine (aH eb pb _).mono ?_;rintro r w4 ⟨rfl,hb4⟩;rw [hne2];have HB4:Hid (Below w.heap.size w w4):=HB3.out.trans (hb4.mono HB3.out.size);clear hb4;go_wp2
   go_loopw [5,18] (fun o i wr=>∃ (k:Nat),k≤nb∧i=.int .i64 k∧o=.bool false∧Below w.heap.size w wr) (fun _ i _=>nb-(intOf i).toNat)
   case atStart=>exact ⟨0,by omega,rfl,rfl,HB4.out⟩
   case round =>
    obtain ⟨k,hk,rfl,rfl,hbel⟩:=hrel;have HB:=hid hbel;have hzr:=hbel.size;clear hbel;by_cases hlt:k<nb
    ·obtain ⟨t, ht⟩ : ∃ t, b[k]? = some t := ⟨b[k]'(by have := HNB.out; omega), Di _⟩;obtain ⟨b1,o1,rfl,hb1,p0,p1⟩:=FB.out k t ht;obtain ⟨rep,time⟩:=t;simp only at p0 p1
     have q0:=(HB.out.cell (p:=⟨b1,o1+k * 2,none⟩) hb1).trans p0;have q1:=(HB.out.cell (p:=⟨b1,o1+k * 2+1,none⟩) hb1).trans p1;clear p0 p1 ht;go_wp2
     go_quiet (fail)
     go_wp2;go_roundw
     case rel=>exact ⟨k+1,by omega,by go_num,rfl,below_drewN (HB.out.alloc hzr _) _⟩
     case measure=>simp [intOf];omega
    ·go_wp2;go_ret;exact ⟨by rw [HC2.out];rfl,HB.out⟩
 ·have hne:((ea:Int) == 0)=false:=by simp;exact h1
  have HC2:Hid (covB a b=false):=hid (show covB a b=false by rw [HC.out,Dx h1];simp);clear h1 HC;go_enter Tryz.func70,Tryz.ntmps70
  go_wp2_with fail
  refine (eD _ a ea pa _ HVA.out HLA.out HRA.out).mono ?_;rintro r w1 ⟨rfl,hb1⟩;have HB1:=hid hb1;clear hb1;go_wp2_with fail
  refine (aH ea pa _).mono ?_;rintro r w2 ⟨rfl,hb2⟩;rw [hne];have HB4:Hid (Below w.heap.size w w2):=HB1.out.trans (hb2.mono HB1.out.size);clear hb2;go_wp2
  go_loopw [5,18] (fun o i wr=>∃ (k:Nat),k≤nb∧i=.int .i64 k∧o=.bool false∧Below w.heap.size w wr) (fun _ i _=>nb-(intOf i).toNat)
  case atStart=>exact ⟨0,by omega,rfl,rfl,HB4.out⟩
  case round =>
   obtain ⟨k,hk,rfl,rfl,hbel⟩:=hrel;have HB:=hid hbel;have hzr:=hbel.size;clear hbel;by_cases hlt:k<nb
   ·obtain ⟨t, ht⟩ : ∃ t, b[k]? = some t := ⟨b[k]'(by have := HNB.out; omega), Di _⟩;obtain ⟨b1,o1,rfl,hb1,p0,p1⟩:=FB.out k t ht;obtain ⟨rep,time⟩:=t;simp only at p0 p1
    have q0:=(HB.out.cell (p:=⟨b1,o1+k * 2,none⟩) hb1).trans p0;have q1:=(HB.out.cell (p:=⟨b1,o1+k * 2+1,none⟩) hb1).trans p1;clear p0 p1 ht;go_wp2
    go_quiet (fail)
    go_wp2;go_roundw
    case rel=>exact ⟨k+1,by omega,by go_num,rfl,below_drewN (HB.out.alloc hzr _) _⟩
    case measure=>simp [intOf];omega
   ·go_wp2;go_ret;exact ⟨by rw [HC2.out];rfl,HB.out⟩
end
section
open Go.RowKit
theorem jV {w:World} {base base':Nat} {e1 e2:TypeId} {k1 k2 n1 n2:Nat} {v1 v2:Value} {x1 x2:List Value} (h1:w.ownsRow base e1 k1 v1 n1 x1) (h2:w.ownsRow base' e2 k2 v2 n2 x2) (hne:e1≠e2) :
 v1.ownBlock=none∨v1.ownBlock≠v2.ownBlock:=by
 rcases h1.2 with ⟨rfl,_⟩ | ⟨g,cap,cur,rfl,_,hh,_⟩
 ·exact .inl rfl
 ·refine .inr ?_;rcases h2.2 with ⟨rfl,_⟩ | ⟨g',cap',cur',rfl,_,hh',_⟩
  ·simp [Value.ownBlock]
  ·intro e;have:g=g':=by simpa [Value.ownBlock] using e
   subst this;rw [hh] at hh';injection hh' with hh'
   injection hh' with _ ht
   exact hne ht
def tb (w:World) (s:List UInt8) (e:Ending) (w':World):Prop :=
 ∃ v err,e=.returned (.tuple #[v,err])∧ax w' w.heap.size v (am s).2∧atIs w' err (am s).1∧Below w.heap.size w w'
theorem atIs.iface {w:World} {v:Value} {r:Nat×Int} (h:atIs w v r) (h0:r.1≠0):∃ t u,v=.iface t u:=by
 rcases h with ⟨h,_⟩ | ⟨_,b,h,_⟩
 ·exact absurd (by rw [h]) h0
 ·exact ⟨_,_,h⟩
theorem atIs.nil {w:World} {v:Value} {r:Nat×Int} (h:atIs w v r) (h0:r.1=0):v=.nilIface:=by
 rcases h with ⟨_,h⟩ | ⟨h,_⟩
 ·exact h
 ·exact absurd h0 h
theorem pB {l:List UInt8} {e p:Nat} (hg:getT l=.inl (e,p)):e≠0:=by
 intro h0;subst h0;unfold getT at hg;split at hg
 ·rename_i hne;injection hg with hg;injection hg with hg _;exact hne hg
 ·split at hg
  ·split at hg
   ·injection hg with hg;injection hg with hg _;omega
   ·split at hg
    ·injection hg with hg;injection hg with hg _;omega
    ·cases hg
  ·split at hg
   ·injection hg with hg;injection hg with hg _;omega
   ·split at hg
    ·rename_i hne;injection hg with hg;injection hg with hg _;exact hne hg
    ·cases hg
theorem qX (l:List Tok) (b:List Nat):(dX l b).1=(a8 l 0 0).1:=by
 unfold dX;split
 ·rename_i h;exact h.symm
 ·rfl
theorem qd (s:ByteArray) (w:World) (hs:s.size≤400000) (hg:errT w) :
 Calls Tryz.prog 104 #[.string s] w (tb w s.data.toList):=by
 have HG:=hid hg;have hlen:s.data.toList.length=s.size:=(ac s).symm;have HL:=hid hlen;clear hg hlen;go_enter Tryz.func104,Tryz.ntmps104
 go_wp2
 go_loopw [4,5,6] (fun lv bv av wr=>∃ (f a:Nat) (l:List Tok) (b:List Nat),av=.int .i64 a∧a≤s.size∧s.size≤a+f∧l.length≤a∧b.length=l.length∧(∀ t∈l,t.own.size≤140737488351232)∧rdF s.data.toList s.data.toList.length 0 [] []=rdF s.data.toList f a l b∧ax wr w.heap.size lv l∧aG wr w.heap.size bv b∧Below w.heap.size w wr) (fun _ _ av _=>s.size-(intOf av).toNat)
 case atStart=>exact ⟨s.size,0,[],[],rfl,by omega,by omega,by simp,rfl,(fun t h=>by cases h),by rw [HL.out],fK _ _,dr _ _,Below.refl _ _⟩
 case round =>
  obtain ⟨f,a,l,b,rfl,ha,hf,hla,hbl,hz,heq,hok,hon,hbel⟩:=hrel;have HZ:=hid hz;have HBL:=hid hbl;have HEQ:=hid heq;have HK:=hid hok;have HN:=hid hon;have HB:=hid hbel;have hzr:=hbel.size;have HGR:=hid (HG.out.below (hbel.mono (Db _)));clear hz hbl heq hok hon hbel;by_cases hlt:a<s.size
  ·obtain ⟨f',rfl⟩:∃ f',f=f'+1:=⟨f-1,by omega⟩;have hlt':a<s.data.toList.length:=by rw [HL.out];exact hlt
   match hgt:getT (s.data.toList.drop a) with
   | .inl (e,p) =>
    have HE:Hid (rdF s.data.toList s.data.toList.length 0 [] []=.inl (e,a+p)):=hid (show rdF s.data.toList s.data.toList.length 0 [] []=.inl (e,a+p) by rw [HEQ.out,iC hlt' hgt]);have HNE:=hid (pB hgt);have HGT:=hid hgt;clear hgt hlt';go_wp2_with fail
    refine (qc s a _ (by omega) (by omega) HGR.out).mono ?_;rw [HGT.out];rintro r w1 ⟨err,rfl,hat,hb1⟩;have HAT:=hid hat;have HB1:Hid (Below w.heap.size w w1):=HB.out.trans (hb1.mono hzr);have hz1:=HB1.out.size;obtain ⟨ty,u,rfl⟩:=hat.iface HNE.out;clear hat hb1;go_wp2;go_ret2;refine ⟨_,_,rfl,?_⟩;rw [ke HE.out];exact ⟨fK _ _,HAT.out.below ((Below.refl _ _).alloc (Db _) _),HB1.out.alloc hz1 _⟩
   | .inr (t,k) =>
    obtain ⟨k1,k2,_,_,k5⟩:=m9 hgt;rw [Dj,HL.out] at k2 k5;have HE:Hid (rdF s.data.toList s.data.toList.length 0 [] []=rdF s.data.toList f' (a+k) (l++[t]) (b++[a])):=hid (show rdF s.data.toList s.data.toList.length 0 [] []=rdF s.data.toList f' (a+k) (l++[t]) (b++[a]) by rw [HEQ.out,gm hlt' hgt]);have HGT:=hid hgt;have HZ2:Hid (∀ u∈l++[t],u.own.size≤140737488351232):=hid (show ∀ u∈l++[t],u.own.size≤140737488351232 from fun u hu=>by
     rcases Ef.1 hu with hu | hu
     ·exact HZ.out u hu
     ·rw [Ek.1 hu];omega)
    have HTV:Hid (tokV t=.agg #[.string t.own,.int .i64 t.back,.int .i64 t.size]):=rfl;clear hgt hlt' k5;go_wp2_with fail
    refine (qc s a _ (by omega) (by omega) HGR.out).mono ?_;rw [HGT.out];rintro r w1 ⟨rfl,hb1⟩;have HB1:Hid (Below w.heap.size w w1):=HB.out.trans (hb1.mono hzr);have hz1:=HB1.out.size;have HK1:=hid (HK.out.below hb1);have HN1:=hid (HN.out.below hb1);clear hb1;rw [HTV.out];go_wp2_with (at_builtin;refine fU rfl _ _ rfl w.heap.size _ l rfl ((HK1.out.alloc _).alloc _) (w1.heap.size+1) 1 rfl t ?c1 ?c2 ?c3 ?_)
    case c1=>have:=e8 (w1.alloc (.cells #[.string t.own,.int .i64 t.back,.int .i64 t.size] 142)) t.own t.back t.size;simpa using this
    case c2=>omega
    case c3=>simp;omega
    ·intro g cap w2 ho2 hg2;have HB2:Hid (Below w.heap.size w w2):=((HB1.out.alloc hz1 _).alloc (by simp;omega) _).grown hg2 (by simp;omega) (fun g hg=>(HK1.out.lt g hg).1);have HN2:=hid (show aG w2 w.heap.size _ b from Dt ((HN1.out.alloc _).alloc _) hg2 (jV HN1.out HK1.out (show 3≠142 by decide)));have HK2:=hid ho2;have hz2:=HB2.out.size;clear ho2 hg2;go_wp2_with (at_builtin;refine cU rfl _ _ rfl w.heap.size _ b rfl (HN2.out.alloc _) ⟨w2.heap.size,0,none⟩ 1 rfl a ?c4 ?c5 ?c6 ?_)
     case c4=>simp [Addr.add]
     case c5=>have:=HBL.out;omega
     case c6=>simp;omega
     ·intro g' cap' w3 ho3 hg3;have HB3:Hid (Below w.heap.size w w3):=(HB2.out.alloc hz2 _).grown hg3 (by simp;omega) (fun g hg=>(HN2.out.lt g hg).1);have HK3:Hid (ax w3 w.heap.size (.slice (some ⟨g,0,none⟩) (l.length+1) cap) (l++[t])):=Dt (HK2.out.alloc _) hg3 (jV HK2.out HN2.out (show 142≠3 by decide));have HN3:=hid ho3;clear ho3 hg3;obtain ⟨l1,hl1⟩:∃ l1,l++[t]=l1:=⟨_,rfl⟩;have hll:l1.length=l.length+1:=by rw [←hl1];simp
      rw [hl1] at HK3 HE HZ2;have HBL2:Hid ((b++[a]).length=l1.length):=hid (show (b++[a]).length=l1.length by rw [hll,Df,HBL.out];rfl);clear hl1;go_wp2;go_roundw
      case rel=>exact ⟨f',a+k,l1,b++[a],by go_num,by omega,by omega,by omega,HBL2.out,HZ2.out,HE.out,HK3.out,HN3.out,HB3.out⟩
      case measure=>simp [intOf];omega
  ·have hlt':¬ a<s.data.toList.length:=by rw [HL.out];exact hlt
   have HE:Hid (rdF s.data.toList s.data.toList.length 0 [] []=.inr (l,b)):=hid (show rdF s.data.toList s.data.toList.length 0 [] []=.inr (l,b) by rw [HEQ.out,iD hlt']);clear hlt';go_wp2_with fail
   refine (xy _ _ l b w.heap.size _ HK.out.is (by omega) HZ.out HN.out HBL.out).mono ?_;rintro r w1 ⟨err,rfl,hat,hb1⟩;have HAT:=hid hat;have HB1:Hid (Below w.heap.size w w1):=HB.out.trans (hb1.mono hzr);have HK1:=hid (HK.out.below hb1);clear hb1;by_cases hr:(a8 l 0 0).1=0
   ·obtain rfl:=hat.nil (by rw [qX];exact hr);have HRD:=hid (kf HE.out hr);clear hat hr;go_wp2;go_ret2;refine ⟨_,_,rfl,?_⟩;rw [HRD.out];exact ⟨HK1.out,.inl ⟨rfl,rfl⟩,HB1.out⟩
   ·obtain ⟨ty,u,rfl⟩:=hat.iface (by rw [qX];exact hr);have HRD:=hid (kg HE.out hr);have HAT2:Hid (atIs w1 (.iface ty u) ((a8 l 0 0).1,((b.getD (a8 l 0 0).2.toNat 0:Nat):Int))):=by
     have h:=HAT.out;unfold dX at h;rw [if_neg hr] at h;exact h
    clear hat hr;go_wp2;go_ret2;refine ⟨_,_,rfl,?_⟩;rw [HRD.out];exact ⟨fK _ _,HAT2.out,HB1.out⟩
end
