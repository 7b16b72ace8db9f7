import Derived.Test.YtagoidpkbloflaaGreatDoorKlq
import Derived.Test.YtagoidpkbloflaaGreatDoorKl22
namespace Go.Proofs.YtagoidpkbloflaaGreatDoor
open Lib (hid)
set_option maxRecDepth 100000
set_option maxHeartbeats 8000000
open Go.RowKit
theorem mn {w w':World} {row:Option Nat} (h:w.drew.grownBy w' row):w.grownBy w' row:=⟨h.os,h.tape,h.output,h.size,h.block⟩
theorem RW.mid {w2 w3:World} {base g cap B:Nat} {vs:List Value} {v:Value} {cur:List Ent}
 (ho:aL w2 base (.slice (some ⟨g,0,none⟩) (vs.length+1) cap) (vs++[v])) (he:ai w2 B v cur) (hg:w2.grownBy w3 v.ownBlock) :
 w3.cell? ⟨g,vs.length,none⟩=some v∧w3.frozen? ⟨g,vs.length,none⟩=false:=by
 have ho4:aL w3 base (.slice (some ⟨g,0,none⟩) (vs.length+1) cap) (vs++[v]):=Dt ho hg (by
  rcases jW he ho (show 73≠22 by decide) with h | h
  ·exact .inr (by rw [h];simp [Value.ownBlock])
  ·exact .inr (fun e=>h e.symm))
 have:=ho4.last rfl;exact ⟨this.1,this.2.1⟩
theorem RW.step {w w0 w3 w4:World} {g q cap B m g2 cap2 c2:Nat} {vs:List Value} {v:Value} {R:List (List Ent)} {cur cur2:List Ent} {o:Obj}
 (hq:q=vs.length+1) (hm:m=vs.length) (ho:aL w3 (w.heap.size+1) (.slice (some ⟨g,0,none⟩) q cap) (vs++[v])) (ha:areD w3 B vs R) (he:ai w3 B v cur) (hB1:w.heap.size+1≤B) (hB2:B≤w3.heap.size)
 (hbel:Below (w.heap.size+1) w0 w3) (ho4:ai w4 B (.slice (some ⟨g2,0,none⟩) c2 cap2) cur2) (hg:(w3.alloc o).grownBy w4 v.ownBlock) (hr:v.ownBlock=some g2∨g2=(w3.alloc o).heap.size) :
 w4.cell? ⟨g,m,none⟩=some v∧w4.frozen? ⟨g,m,none⟩=false∧RW w (.slice (some ⟨g,0,none⟩) q cap) R cur2 (w4.setCell ⟨g,m,none⟩ (.slice (some ⟨g2,0,none⟩) c2 cap2))∧Below (w.heap.size+1) w0 (w4.setCell ⟨g,m,none⟩ (.slice (some ⟨g2,0,none⟩) c2 cap2)):=by
 subst hq hm;have hbo:Below w3.heap.size w3 (w3.alloc o):=(Below.refl _ _).alloc (Db _) o;have ho1:=ho.below hbo;have he1:=he.below hbo;have ha1:areD (w3.alloc o) B vs R:=fo (jE hbo) (Db _) (fun u r _ _=>by cases hu:u.ownBlock with
  | none=>exact .inl rfl
  | some k=>exact .inr (by simp)) ha
 have hm:=RW.mid ho1 he1 hg;obtain ⟨h1,_,_⟩:=RW.grow ho1 ha1 he1 hB1 (Dl hB2 hbo.size) ho4 hg hr;have hgl:=ho.lt g rfl;refine ⟨hm.1,hm.2,h1,?_⟩;refine Below.setCell ((hbel.alloc (by omega) o).grown hg (by have:=hbo.size;omega) (fun k hk=>?_)) hgl.1 _;have:=(he.lt k hk).1;omega
theorem uZ (r:List Ent):∀ (cur:List Ent) (p:Int),∃ x R,cutB cur p r=(cur++x)::R:=by
 induction r with
 | nil=>intro cur p;exact ⟨[],[],by simp [cutB]⟩
 | cons e r ih =>
  intro cur p;by_cases h:p+1=e.rep
  ·rw [lQ h];obtain ⟨x,R,hx⟩:=ih (cur++[e]) e.rep;exact ⟨e::x,R,by rw [hx];simp⟩
  ·rw [lP h];exact ⟨[],_,by rw [DV]⟩
theorem uY {l cur r:List Ent} {R:List (List Ent)} {p:Int} (h:R++cutB cur p r=aM l) (hl:(aM l).flatten=l):cur.length≤l.length:=by
 obtain ⟨x,R2,hx⟩:=uZ r cur p;rw [hx] at h;rw [←hl,←h];simp only [List.flatten_append,EG,Df]
 omega
theorem vI {w wr:World} {l:List Ent} {k:Nat} {rv:Value} {R:List (List Ent)} {cur:List Ent} (hrw:(k=0∧rv=.slice none 0 0)∨(0<k∧RW w rv R cur wr)) (hat:eM l k R cur) (hk:k=l.length) :
 ∃ a c vs,rv=.slice a (aM l).length c∧aL wr (w.heap.size+1) (.slice a (aM l).length c) vs∧areE wr vs (aM l):=by
 rcases hrw with ⟨hk0,rfl⟩ | ⟨hkp,hrw⟩
 ·obtain rfl:l=[]:=E0.1 (by omega);exact ⟨none,0,[],rfl,jX _ _,(trivial:areE wr [] [])⟩
 ·obtain ⟨g,cap,B,vs,v0,hrv,ho,ha,he,_,_⟩:=hrw;rcases hat with ⟨h,_,_⟩ | ⟨j,d,hkj,_,hrs⟩
  ·omega
  ·have e:l.drop k=[]:=DD (by omega);rw [e] at hrs;have e2:cutB cur d.rep []=[cur]:=rfl;rw [e2] at hrs;have hare:areE wr (vs++[v0]) (aM l):=by rw [←hrs];exact lD he.is (tx ha)
   have hlen:=lC hare;rw [Df] at hlen;have hl:vs.length+1=(aM l).length:=hlen;refine ⟨some ⟨g,0,none⟩,cap,vs++[v0],by rw [hrv,hl],?_,hare⟩;rw [hrv,hl] at ho;exact ho
theorem Av (v:Value) (l:List Ent) (w:World) (hv:ae w v l) (hl:l.length≤9223372036854775807) (h0:(au l).1=0) :
 Calls Tryz.prog 46 #[v] w (th w l):=by
 have HV:=hid hv;have HLL:=hid hl;have HW:Hid (cj l=aC l):=hid (show cj l=aC l by unfold cj;rw [if_pos h0]);have hrt:=(ec l).1 h0;have hgd:=oc h0;have HR:=hid hgd;have HFV:=hid (cO hgd);have HRT:=hid hrt;obtain ⟨hwl,hrl⟩:=fT hrt;have HRL:=hid hrl;have hrm:=fun e he=>gh hrt.2 e he
 have HRM:=hid hrm;have hl16:=hrt.1;obtain ⟨a1,c1,rfl,f1⟩:=hv.form;have F1:=hid f1;obtain ⟨n,hn⟩:∃ n,n=l.length:=⟨_,rfl⟩;rw [←hn] at HV hl16 ⊢;have HN:=hid hn;clear hv hl hn h0 hrt hgd f1 hrm hwl hrl;go_enter Tryz.func46,Tryz.ntmps46
 go_wp2_with fail
 refine (eD _ l 0 (-1) _ (HV.out.alloc _) HLL.out HR.out).mono ?_;rintro r w1 ⟨rfl,hb1⟩;have HB1:Hid (Below (w.heap.size+1) (w.alloc (.cells #[.int .i64 0,.int .i64 0] 28)) w1):=hid (hb1.mono (by simp));have hz1:=hb1.size;rw [DE] at hz1;clear hb1;go_wp2_with fail
 refine (aH 0 (-1) _).mono ?_;rintro r w2 ⟨rfl,hb2⟩;have HB2:Hid (Below (w.heap.size+1) (w.alloc (.cells #[.int .i64 0,.int .i64 0] 28)) w2):=hid ((HB1.out.alloc (by omega) _).trans (hb2.mono (by simp;omega)));clear hb2 hz1;go_wp2
 go_loopw [5,23] (fun rv i wr=>∃ (k:Nat) (R:List (List Ent)) (cur:List Ent),k≤n∧i=.int .i64 k∧eM l k R cur∧((k=0∧rv=.slice none 0 0)∨(0<k∧RW w rv R cur wr))∧Below (w.heap.size+1) (w.alloc (.cells #[.int .i64 0,.int .i64 0] 28)) wr) (fun _ i _=>n-(intOf i).toNat)
 case atStart=>exact ⟨0,[],[],by omega,rfl,.inl ⟨rfl,rfl,rfl⟩,.inl ⟨rfl,rfl⟩,HB2.out⟩
 case round =>
  obtain ⟨k,R,cur,hk,rfl,hat,hrw,hbel⟩:=hrel;have HAT:=hid hat;have HB:=hid hbel;have hzr:=hbel.size;rw [DE] at hzr;have HBW:Hid (Below w.heap.size w wr):=((Below.refl _ _).alloc (Db _) _).trans (hbel.mono (Dq _));clear hat hbel;by_cases hlt:k<n
  ·have hkl:k<l.length:=by have:=HN.out;omega
   obtain ⟨t,ht⟩:∃ t,l[k]? = some t:=⟨l[k],Di hkl⟩;have HT:=hid ht;obtain ⟨b,off,rfl,hb,p0,p1⟩:=F1.out k t ht;have hd:l.drop k=t::l.drop (k+1):=by
    rw [DA hkl];congr 1;rw [Di hkl] at ht;exact Dr ht
   have HD:=hid hd;have hm:=HRM.out t (DB ht);have q0:=(HBW.out.cell (p:=⟨b,off+k * 2,none⟩) hb).trans p0;have q1:=(HBW.out.cell (p:=⟨b,off+k * 2+1,none⟩) hb).trans p1;clear p0 p1 hkl ht hd;rcases hrw with ⟨hk0,rfl⟩ | ⟨hkp,hrw⟩
   ·-- the first entry
    have HK0:=hid hk0;have HS:Hid (eM l (k+1) [] [t]):=hid (show eM l (k+1) [] [t] from .inr ⟨k,t,rfl,HT.out,by
     have h:=HRT.out.2;have e:l=t::l.drop 1:=by have:=HD.out;rw [hk0] at this;simpa using this
     rw [hk0,E7];have h2:=v6 (l.drop 1) [] t (-1) (by rw [←e];exact h);rw [←e] at h2;exact h2.symm⟩)
    obtain ⟨rep,time⟩:=t;simp only at q0 q1 hm
    have hg:((k:Int) == 0)=true:=by simp;exact hk0
    clear hk0;go_wp2
    go_quiet (fail)
    go_wp2_with (at_builtin;refine li rfl _ _ rfl (w.heap.size+1) _ [] rfl (jX _ _) ⟨wr.heap.size+1,0,none⟩ 1 rfl (.slice none 0 0) ⟨_,_,_,rfl⟩ ?c1 ?c2 ?c3 ?_)
    case c1 =>
     have h:=Dg (wr.alloc (.cells #[.int .i64 rep,.int .i64 time] 73)) (.cells #[.slice none 0 0] 22);rw [DE] at h;exact Dd _ _ 0 _ _ (0,0) h
    case c2=>simp
    case c3=>simp;omega
    ·intro g cap w3 ho3 hg3;obtain ⟨q,hq⟩:∃ q,q=1:=⟨_,rfl⟩;have hqs:(Value.slice (some ⟨g,0,none⟩) 1 cap)=.slice (some ⟨g,0,none⟩) q cap:=by rw [hq]
     first
      | rw [hqs]
      | rw [show (Value.slice (some ⟨g,0,none⟩) (0+1) cap)=.slice (some ⟨g,0,none⟩) q cap by rw [hq]]
      | rw [show (Value.slice (some ⟨g,0,none⟩) (([]:List Value).length+1) cap)=.slice (some ⟨g,0,none⟩) q cap by rw [hq];rfl]
     clear hqs;have HCL:Hid (([]:List Ent).length+1≤1000000):=hid (by simp);have HRL3:Hid (([]:List (List Ent)).length≤16):=hid (by simp);have HRW3:Hid (RW w (.slice (some ⟨g,0,none⟩) q cap) [] [] w3):=hid (show RW w (.slice (some ⟨g,0,none⟩) q cap) [] [] w3 by subst hq;exact ⟨g,cap,w3.heap.size,[],.slice none 0 0,rfl,ho3,trivial,cm _ _,by have:=hg3.size;simp at this;omega,Db _⟩);clear hq;have HB3:Hid (Below (w.heap.size+1) (w.alloc (.cells #[.int .i64 0,.int .i64 0] 28)) w3):=hid ((below_drewN (HB.out.alloc (by omega) _) _).alloc (by simp;omega) _ |>.grown hg3 (by simp;omega) (fun g hg=>by simp [Value.ownBlock] at hg));have hg4:World.grownBy _ w3 none:=hg3;have hbx:=(below_drewN (Below.refl (wr.heap.size+1) (wr.alloc (.cells #[.int .i64 rep,.int .i64 time] 73))) nq).alloc (by simp) (.cells #[.slice none 0 0] 22);have x0:w3.cell? ⟨wr.heap.size,0,none⟩=some (.int .i64 rep):=(hg4.cell_far ⟨wr.heap.size,0,none⟩ (by simp;omega) (by simp)).trans ((hbx.cell (by simp)).trans (by simp));have x1:w3.cell? ⟨wr.heap.size,1,none⟩=some (.int .i64 time):=(hg4.cell_far ⟨wr.heap.size,1,none⟩ (by simp;omega) (by simp)).trans ((hbx.cell (by simp)).trans (by simp));obtain ⟨g',cap',B,vs,v0,hrv,ho,ha,he,hB1,hB2⟩:=HRW3.out
     simp only [EK,E1,Eq,and_true] at hrv
     obtain ⟨rfl,hqv,rfl⟩:=hrv;have HO:=hid ho;have HA:=hid ha;have HE:=hid he;have HQV:=hid hqv;have HBB:Hid (w.heap.size+1≤B∧B≤w3.heap.size):=hid ⟨hB1,hB2⟩;have hvl:=jg ha;obtain ⟨m,hm⟩:∃ m,m=vs.length:=⟨_,rfl⟩;have HM:=hid hm;have hms:m≤16:=by have:=HRL3.out;omega
     have hmq:m<q:=by omega
     have hmq1:(q:Int)-1=(m:Int):=by omega
     have hmq2:IntKind.i64.wrap ((q:Int)-1)=(m:Int):=by rw [hmq1];exact Dh _ (by omega)
     have hmq5:IntKind.i64.wrap (m:Int)=(m:Int):=Dh _ (by omega);have hmq3:(m:Int)<(q:Int):=by omega
     have hmq4:(0:Int)≤(m:Int):=by omega
     have z0:w3.cell? ⟨g,m,none⟩=some v0:=by
      have:=(HO.out.last hqv).1;rw [←hm] at this;exact this
     have z1:(w3.alloc (.cells #[.int .i64 rep,.int .i64 time] 73)).cell? ⟨g,m,none⟩=some v0:=by
      have:=((HO.out.alloc (.cells #[.int .i64 rep,.int .i64 time] 73)).last hqv).1;rw [←hm] at this;exact this
     clear ho ha he hqv hm hB1 hB2 hvl;go_wp2;refine E6 ?_
     go_region_law (first | (refine eF _ rfl _ _ rfl B v0 ([]:List Ent) rfl (HE.out.alloc _) w3.heap.size 1 rfl ⟨rep,time⟩ (by exact cY _ _ _) HCL.out (by have:=HBB.out;simp;omega) ?_;intro g2 cap2 w4 ho4 hg4 hr4;have HST:=hid (RW.step HQV.out HM.out HO.out HA.out HE.out HBB.out.1 HBB.out.2 HB3.out ho4 (mn hg4) hr4);have u0:=HST.out.1;have u1:=HST.out.2.1;clear ho4 hg4 hr4))
     all_goals
      refine DT ?_;go_wp2;go_roundw
      case rel=>exact ⟨k+1,([]:List (List Ent)),([]:List Ent)++[⟨rep,time⟩],by omega,by go_num,HS.out,.inr ⟨by omega,HST.out.2.2.1⟩,HST.out.2.2.2⟩
      case measure=>simp [intOf];omega
   ·obtain ⟨j, d, hkj, hdj, hrs⟩ : ∃ j d, k = j + 1 ∧ l[j]? = some d ∧ R ++ cutB cur d.rep (l.drop k) = aM l := by
     rcases HAT.out with ⟨h,_,_⟩ | h
     ·omega
     ·exact h
    obtain ⟨b',off',hbo,_,p0,_⟩:=F1.out j d hdj;simp only [E1,Eq,and_true] at hbo
    obtain ⟨rfl,rfl⟩:=hbo;have u0:=(HBW.out.cell (p:=⟨b,off+j * 2,none⟩) hb).trans p0;have hmd:=HRM.out d (DB hdj);have hRl:R.length≤16:=by have:=HRL.out;rw [←hrs,Df] at this;omega
    rw [HD.out] at hrs;have hg:((k:Int) == 0)=false:=by simp;omega
    have hw1:(k:Int)-1=(j:Int):=by omega
    have hw2:IntKind.i64.wrap ((k:Int)-1)=(j:Int):=by rw [hw1];exact Dh _ (by omega)
    have hw3:IntKind.i64.wrap (d.rep+1)=d.rep+1:=Dh _ (by omega);have hjn:j<n:=by omega
    have hjn':(j:Int)<(n:Int):=by omega
    have hj0:(0:Int)≤(j:Int):=by omega
    have hjw:IntKind.i64.wrap (j:Int)=(j:Int):=Dh _ (by omega);clear hkj;clear p0 hdj;obtain ⟨g,cap,B,vs,v0,hrv,ho,ha,he,hB1,hB2⟩:=hrw;have hvs:=jg ha;obtain ⟨q,hq⟩:∃ q,q=vs.length+1:=⟨_,rfl⟩;rw [←hq] at hrv;subst hrv;have HQ:=hid hq;have hgl:=ho.lt g rfl;have HO:=hid ho;have HA:=hid ha;have HE:=hid he;have HCL:Hid (cur.length+1≤1000000):=hid (show cur.length+1≤1000000 by have:=uY hrs (ko HRT.out.2).2;have:=HN.out;omega);have hzw:w.heap.size+1≤wr.heap.size:=by omega
    clear ho ha he hq;by_cases hon:d.rep+1=t.rep
    ·rw [lQ hon] at hrs;have HS:Hid (eM l (k+1) R (cur++[t])):=hid (show eM l (k+1) R (cur++[t]) from .inr ⟨k,t,rfl,HT.out,hrs⟩);obtain ⟨rep,time⟩:=t;simp only at q0 q1 hm hon
     have hne:(d.rep+1 == rep)=true:=by simp;exact hon
     have hne2:d.rep+1=rep:=hon;have hmd5:d.rep≤200:=by omega
     have u2:(wr.alloc (.cells #[.int .i64 rep,.int .i64 time] 73)).cell? ⟨b,off+j * 2,none⟩=some (.int .i64 d.rep):=(((Below.refl wr.heap.size wr).alloc (Db _) _).cell (by show b<wr.heap.size;omega)).trans u0;have HRL3:=hid hRl;clear hrs hRl hvs;go_wp2
     go_quiet (fail)
     obtain ⟨w3,hw3⟩:∃ w3,w3=World.drewN (wr.alloc (.cells #[.int .i64 rep,.int .i64 time] 73)) nq:=⟨_,rfl⟩;rw [←hw3];have hb3:Below wr.heap.size wr w3:=by rw [hw3];exact below_drewN ((Below.refl _ _).alloc (Db _) _) _
     have hb4:Below (wr.heap.size+1) (wr.alloc (.cells #[.int .i64 rep,.int .i64 time] 73)) w3:=by rw [hw3];exact below_drewN (Below.refl _ _) _
     have HRW3:Hid (RW w (.slice (some ⟨g,0,none⟩) q cap) R cur w3):=hid (RW.below ⟨g,cap,B,vs,v0,by rw [HQ.out],HO.out,HA.out,HE.out,hB1,hB2⟩ hb3);have HB3:Hid (Below (w.heap.size+1) (w.alloc (.cells #[.int .i64 0,.int .i64 0] 28)) w3):=hid (HB.out.trans (hb3.mono hzw));have x0:w3.cell? ⟨wr.heap.size,0,none⟩=some (.int .i64 rep):=(hb4.cell (by simp)).trans (by simp);have x1:w3.cell? ⟨wr.heap.size,1,none⟩=some (.int .i64 time):=(hb4.cell (by simp)).trans (by simp);clear hw3 hb3 hb4 HO HA HE HQ hB1 hB2 hgl u0 u2;obtain ⟨g',cap',B,vs,v0,hrv,ho,ha,he,hB1,hB2⟩:=HRW3.out;simp only [EK,E1,Eq,and_true] at hrv
     obtain ⟨rfl,hqv,rfl⟩:=hrv;have HO:=hid ho;have HA:=hid ha;have HE:=hid he;have HQV:=hid hqv;have HBB:Hid (w.heap.size+1≤B∧B≤w3.heap.size):=hid ⟨hB1,hB2⟩;have hvl:=jg ha;obtain ⟨m,hm⟩:∃ m,m=vs.length:=⟨_,rfl⟩;have HM:=hid hm;have hms:m≤16:=by have:=HRL3.out;omega
     have hmq:m<q:=by omega
     have hmq1:(q:Int)-1=(m:Int):=by omega
     have hmq2:IntKind.i64.wrap ((q:Int)-1)=(m:Int):=by rw [hmq1];exact Dh _ (by omega)
     have hmq5:IntKind.i64.wrap (m:Int)=(m:Int):=Dh _ (by omega);have hmq3:(m:Int)<(q:Int):=by omega
     have hmq4:(0:Int)≤(m:Int):=by omega
     have z0:w3.cell? ⟨g,m,none⟩=some v0:=by
      have:=(HO.out.last hqv).1;rw [←hm] at this;exact this
     have z1:(w3.alloc (.cells #[.int .i64 rep,.int .i64 time] 73)).cell? ⟨g,m,none⟩=some v0:=by
      have:=((HO.out.alloc (.cells #[.int .i64 rep,.int .i64 time] 73)).last hqv).1;rw [←hm] at this;exact this
     clear ho ha he hqv hm hB1 hB2 hvl;go_wp2;refine E6 ?_
     go_region_law (first | (refine eF _ rfl _ _ rfl B v0 cur rfl (HE.out.alloc _) w3.heap.size 1 rfl ⟨rep,time⟩ (by exact cY _ _ _) HCL.out (by have:=HBB.out;simp;omega) ?_;intro g2 cap2 w4 ho4 hg4 hr4;have HST:=hid (RW.step HQV.out HM.out HO.out HA.out HE.out HBB.out.1 HBB.out.2 HB3.out ho4 (mn hg4) hr4);have u0:=HST.out.1;have u1:=HST.out.2.1;clear ho4 hg4 hr4))
     all_goals
      refine DT ?_;go_wp2;go_roundw
      case rel=>exact ⟨k+1,R,cur++[⟨rep,time⟩],by omega,by go_num,HS.out,.inr ⟨by omega,HST.out.2.2.1⟩,HST.out.2.2.2⟩
      case measure=>simp [intOf];omega
    ·rw [lP hon] at hrs;have HS:Hid (eM l (k+1) (R++[cur]) [t]):=hid (show eM l (k+1) (R++[cur]) [t] from .inr ⟨k,t,rfl,HT.out,by rw [←hrs];simp⟩);have HRL3:Hid ((R++[cur]).length≤16):=hid (show (R++[cur]).length≤16 by have:=HRL.out;rw [←hrs] at this;simp at this ⊢;omega);have HCL0:=HCL.out;obtain ⟨rep,time⟩:=t;simp only at q0 q1 hm hon
     have hne:(d.rep+1 == rep)=false:=by simp;exact hon
     have hmd5:d.rep≤200:=by omega
     have u2:(wr.alloc (.cells #[.int .i64 rep,.int .i64 time] 73)).cell? ⟨b,off+j * 2,none⟩=some (.int .i64 d.rep):=(((Below.refl wr.heap.size wr).alloc (Db _) _).cell (by show b<wr.heap.size;omega)).trans u0;have HV16:Hid (vs.length≤16):=hid (by omega);clear hrs hRl hvs HCL;have HCL:Hid (([]:List Ent).length+1≤1000000):=hid (by simp);go_wp2
     go_quiet (fail)
     obtain ⟨wq,hwq⟩:∃ wq,wq=World.drewN (wr.alloc (.cells #[.int .i64 rep,.int .i64 time] 73)) nq:=⟨_,rfl⟩;rw [←hwq];have hbq:Below wr.heap.size wr wq:=by rw [hwq];exact below_drewN ((Below.refl _ _).alloc (Db _) _) _
     have hbq4:Below (wr.heap.size+1) (wr.alloc (.cells #[.int .i64 rep,.int .i64 time] 73)) wq:=by rw [hwq];exact below_drewN (Below.refl _ _) _
     have hzq:wq.heap.size=wr.heap.size+1:=by rw [hwq];simp
     have xq0:wq.cell? ⟨wr.heap.size,0,none⟩=some (.int .i64 rep):=(hbq4.cell (by simp)).trans (by simp);have xq1:wq.cell? ⟨wr.heap.size,1,none⟩=some (.int .i64 time):=(hbq4.cell (by simp)).trans (by simp);have HBQ:=hid hbq;have HOQ:=hid (HO.out.below hbq);have HZQ:=hid hzq;clear hwq hbq hbq4 hzq;go_wp2_with (at_builtin;refine li rfl _ _ rfl (w.heap.size+1) _ (vs++[v0]) rfl (HOQ.out.alloc _) ⟨wq.heap.size,0,none⟩ 1 rfl (.slice none 0 0) ⟨_,_,_,rfl⟩ ?c1 ?c2 ?c3 ?_)
     case c1=>exact Dd _ _ 0 _ _ (0,0) (Dg wq _)
     case c2=>have:=HV16.out;simp;omega
     case c3=>have:=HZQ.out;simp;omega
     intro g2 cap2 w3 ho3 hg3;have hq:=HQ.out;have hzq:=HZQ.out;obtain ⟨q2,hq2⟩:∃ q2,q2=vs.length+1+1:=⟨_,rfl⟩;have hqs:(Value.slice (some ⟨g2,0,none⟩) (vs.length+1+1) cap2)=.slice (some ⟨g2,0,none⟩) q2 cap2:=by rw [hq2]
     first
      | rw [hqs]
      | rw [show (Value.slice (some ⟨g2,0,none⟩) ((vs++[v0]).length+1) cap2)=.slice (some ⟨g2,0,none⟩) q2 cap2 by rw [hq2];simp]
     clear hqs;have hg4:World.grownBy _ w3 (some g):=hg3;have HRW3:Hid (RW w (.slice (some ⟨g2,0,none⟩) q2 cap2) (R++[cur]) [] w3):=hid (show RW w (.slice (some ⟨g2,0,none⟩) q2 cap2) (R++[cur]) [] w3 by
      have h1:=HO.out;rw [hq] at h1;have h2:aL w3 (w.heap.size+1) (.slice (some ⟨g2,0,none⟩) (vs.length+1+1) cap2) ((vs++[v0])++[.slice none 0 0]):=by simpa using ho3
      have h:=RW.cut h1 HA.out HE.out hB1 hB2 (HBQ.out.alloc HBQ.out.size _) h2 hg4;rw [Df] at h;rw [hq2];exact h)
     have HB3:Hid (Below (w.heap.size+1) (w.alloc (.cells #[.int .i64 0,.int .i64 0] 28)) w3):=hid (((HB.out.trans (HBQ.out.mono hzw)).alloc (by omega) _).grown hg4 (by simp;omega) (fun k hk=>by cases hk;exact hgl.1));have hgne:some wr.heap.size≠some g:=by simp;omega
     have x0:w3.cell? ⟨wr.heap.size,0,none⟩=some (.int .i64 rep):=(hg4.cell_far ⟨wr.heap.size,0,none⟩ (by simp;omega) hgne).trans ((((Below.refl wq.heap.size wq).alloc (Db _) _).cell (by show wr.heap.size<wq.heap.size;omega)).trans xq0);have x1:w3.cell? ⟨wr.heap.size,1,none⟩=some (.int .i64 time):=(hg4.cell_far ⟨wr.heap.size,1,none⟩ (by simp;omega) hgne).trans ((((Below.refl wq.heap.size wq).alloc (Db _) _).cell (by show wr.heap.size<wq.heap.size;omega)).trans xq1);clear ho3 hg3 hg4 hgne hq2 HO HA HE HQ HOQ HBQ hB1 hB2 hgl u0 u2 xq0 xq1 hq hzq HZQ;obtain ⟨q,rfl⟩:∃ q,q=q2:=⟨_,rfl⟩;obtain ⟨gY,capY,B,vs,v0,hrv,ho,ha,he,hB1,hB2⟩:=HRW3.out;simp only [EK,E1,Eq,and_true] at hrv
     obtain ⟨rfl,hqv,rfl⟩:=hrv;have HO:=hid ho;have HA:=hid ha;have HE:=hid he;have HQV:=hid hqv;have HBB:Hid (w.heap.size+1≤B∧B≤w3.heap.size):=hid ⟨hB1,hB2⟩;have hvl:=jg ha;obtain ⟨m,hm⟩:∃ m,m=vs.length:=⟨_,rfl⟩;have HM:=hid hm;have hms:m≤16:=by have:=HRL3.out;omega
     have hmq:m<q:=by omega
     have hmq1:(q:Int)-1=(m:Int):=by omega
     have hmq2:IntKind.i64.wrap ((q:Int)-1)=(m:Int):=by rw [hmq1];exact Dh _ (by omega)
     have hmq5:IntKind.i64.wrap (m:Int)=(m:Int):=Dh _ (by omega);have hmq3:(m:Int)<(q:Int):=by omega
     have hmq4:(0:Int)≤(m:Int):=by omega
     have z0:w3.cell? ⟨g2,m,none⟩=some v0:=by
      have:=(HO.out.last hqv).1;rw [←hm] at this;exact this
     have z1:(w3.alloc (.cells #[.int .i64 rep,.int .i64 time] 73)).cell? ⟨g2,m,none⟩=some v0:=by
      have:=((HO.out.alloc (.cells #[.int .i64 rep,.int .i64 time] 73)).last hqv).1;rw [←hm] at this;exact this
     clear ho ha he hqv hm hB1 hB2 hvl;go_wp2;refine E6 ?_
     go_region_law (first | (refine eF _ rfl _ _ rfl B v0 ([]:List Ent) rfl (HE.out.alloc _) w3.heap.size 1 rfl ⟨rep,time⟩ (by exact cY _ _ _) HCL.out (by have:=HBB.out;simp;omega) ?_;intro g2 cap2 w4 ho4 hg4 hr4;have HST:=hid (RW.step HQV.out HM.out HO.out HA.out HE.out HBB.out.1 HBB.out.2 HB3.out ho4 (mn hg4) hr4);have u0:=HST.out.1;have u1:=HST.out.2.1;clear ho4 hg4 hr4))
     all_goals
      refine DT ?_;go_wp2;go_roundw
      case rel=>exact ⟨k+1,(R++[cur]),([]:List Ent)++[⟨rep,time⟩],by omega,by go_num,HS.out,.inr ⟨by omega,HST.out.2.2.1⟩,HST.out.2.2.2⟩
      case measure=>simp [intOf];omega
  ·have hkn:k=n:=by omega
   obtain ⟨ra,rc,vs,rfl,hown,hare⟩:=vI hrw HAT.out (show k=l.length by have:=HN.out;omega);clear hrw;obtain ⟨wo,rfl⟩:∃ wo,wo=wr:=⟨_,rfl⟩;have hlen:=lC hare;obtain ⟨R2,hR2⟩:∃ R2,aM l=R2:=⟨_,rfl⟩;obtain ⟨hr1,hr2⟩:=ko HRT.out.2;obtain ⟨hwl,hrl⟩:=fT HRT.out;have HIN:Hid (∀ run∈R2,run.length≤16∧∀ e∈run,0≤e.rep∧e.rep≤200∧1≤e.time∧e.time≤1099511627776):=hid (show ∀ run∈R2,run.length≤16∧∀ e∈run,0≤e.rep∧e.rep≤200∧1≤e.time∧e.time≤1099511627776 from fun run hr=>by
    rw [←hR2] at hr;refine ⟨Dl (List.sublist_flatten_of_mem hr).length_le (by rw [hr2];exact HRT.out.1),fun e he=>?_⟩;have:=HRM.out e (by rw [←hr2];exact List.mem_flatten.2 ⟨run,hr,he⟩);omega)
   have hvw:putL (aM l).length++bg 0 (aM l)=aC l:=rfl;rw [hR2] at hr1 hrl hvw hare hlen hown ⊢;obtain ⟨m,hm⟩:∃ m,m=R2.length:=⟨_,rfl⟩;rw [←hm] at hrl hvw hown ⊢;have HM:=hid hm;have HOW:=hid hown;have HARE:=hid hare;have HWL:=hid hwl;have HR1:=hid hr1;obtain ⟨P0,hP0⟩:∃ P:ByteArray,⟨(putL m).toArray⟩=P:=⟨_,rfl⟩;have HP0:=hid hP0;have HVW:Hid (P0.data.toList++bg 0 R2=aC l):=hid (show P0.data.toList++bg 0 R2=aC l by rw [←hP0];exact hvw);have km:IntKind.u64.wrap (m:Int)=(m:Int):=DI _ (by omega);have x0:wo.cell? ⟨w.heap.size,0,none⟩=some (.int .i64 0):=(HB.out.cell (by exact Du _)).trans (by simp);have x1:wo.cell? ⟨w.heap.size,1,none⟩=some (.int .i64 0):=(HB.out.cell (by exact Du _)).trans (by simp);have y0:wo.frozen? ⟨w.heap.size,0,none⟩=false:=(HB.out.frozen (by exact Du _)).trans (by simp);have y1:wo.frozen? ⟨w.heap.size,1,none⟩=false:=(HB.out.frozen (by exact Du _)).trans (by simp);have X:=hid (show (wo.cell? ⟨w.heap.size,0,none⟩=some (.int .i64 0)∧wo.cell? ⟨w.heap.size,1,none⟩=some (.int .i64 0))∧wo.frozen? ⟨w.heap.size,0,none⟩=false∧wo.frozen? ⟨w.heap.size,1,none⟩=false from ⟨⟨x0,x1⟩,y0,y1⟩)
   have hltw:w.heap.size<wo.heap.size:=by omega
   clear hown hare hlen hr1 hr2 hwl hvw hm hP0 x0 x1 y0 y1 hR2 hkn;go_wp2_with fail
   refine (fO m P0 _ (by omega) HP0.out).mono ?_;rintro r w3 ⟨rfl,hb3⟩;have HB3:=hid hb3;clear hb3;go_wp2
   go_loopw [8,9,66] (fun sv ev i wz=>∃ (k:Nat) (least en:Int) (S:ByteArray),k≤m∧i=.int .i64 k∧sv=.string S∧ev=.int .i64 en∧((en=-1∧least=0)∨(0≤en∧en≤200∧least=en+2))∧S.data.toList++bg least (R2.drop k)=aC l∧eq least (R2.drop k)∧Below wo.heap.size wo wz) (fun _ _ i _=>m-(intOf i).toNat)
   case atStart=>exact ⟨0,0,-1,P0,by omega,rfl,rfl,rfl,.inl ⟨rfl,rfl⟩,HVW.out,HR1.out,HB3.out⟩
   case round =>
    obtain ⟨wz,rfl⟩:∃ wz,wz=wr:=⟨_,rfl⟩;obtain ⟨k,least,en,S,hk,rfl,rfl,rfl,hen,heq,hrun,hbz⟩:=hrel;have HBZ:=hid hbz;have HEQ:=hid heq;have hpre:S.data.toList.length≤500:=by have:=HWL.out;rw [←heq,Df] at this;omega
    clear hbz;by_cases hlt:k<m
    ·obtain ⟨run, hru⟩ : ∃ run, R2[k]? = some run := ⟨R2[k]'(by have := HM.out; omega), Di _⟩;have hRd:R2.drop k=run::R2.drop (k+1):=by
      obtain ⟨h1,h2⟩:=Do.1 hru;rw [DA h1,h2]
     rw [hRd] at hrun heq;obtain ⟨g1,g2,g3,g4⟩:=hrun;obtain ⟨hr16,hre⟩:=HIN.out run (DB hru);have hpos:0<run.length:=EJ.2 g1;obtain ⟨vk,hvk,hiv⟩:=ox HARE.out hru;obtain ⟨bb,off,cc,rfl,hcc,hbb,hcs⟩:=hiv.lies hpos;have hlast:=gR g3 g1;have h0e:run[0]? = some (run.headD ⟨0,0⟩):=by
      cases run with
      | nil=>exact absurd rfl g1
      | cons e t=>rfl
     have hle:run[run.length-1]? = some (run.getLastD ⟨0,0⟩):=by
      rw [List.getLastD_eq_getLast?,List.getLast?_eq_getElem?,Di (show run.length-1<run.length by omega)];rfl
     have hhead:=hre _ (DB h0e);have hlt2:=hre _ (DB hle);have p0:wo.cell? ⟨bb,off,none⟩=some (.int .i64 (run.headD ⟨0,0⟩).rep):=by
      have:=hcs 0 _ ((cZ run 0 0 _ h0e (by omega)).trans rfl)
      simpa using this
     have pl:=hcs ((run.length-1) * 2) _ ((cZ run (run.length-1) 0 _ hle (by omega)).trans rfl);have HCS:=hid hcs;have HG4:=hid g4;have HRE:=hid hre;obtain ⟨q,hq⟩:∃ q,q=run.length:=⟨_,rfl⟩;have HQ:=hid hq;obtain ⟨lr,hlr⟩:∃ x,(run.getLastD ⟨0,0⟩).rep=x:=⟨_,rfl⟩;obtain ⟨hd,hhd⟩:∃ x,(run.headD ⟨0,0⟩).rep=x:=⟨_,rfl⟩;have hbn:S.data.toList++(putL ((run.headD ⟨0,0⟩).rep-least).toNat++putL (run.length-1)++aN run)++bg ((run.getLastD ⟨0,0⟩).rep+2) (R2.drop (k+1))=aC l:=by
      rw [←heq,bg,E3];rfl
     rw [hlr] at hlt2 hbn HG4 hlast pl;rw [hhd] at hhead p0 g2 hbn hlast;rw [←hq] at hr16 hpos hcc hlast hvk hbn pl;obtain ⟨gp,hgp⟩:=DS (show 0≤hd-least by omega);obtain ⟨q1,hq1⟩:∃ q1,q1=q-1:=⟨_,rfl⟩;rw [←hq1] at pl hbn;rw [hgp,E2] at hbn;have HBN:=hid hbn;have PL:=hid pl;have hqq:(q:Int)-1=(q1:Int):=by omega
     have hgp2:gp≤200:=by omega
     have hq12:q1≤16:=by omega
     have hqlt:q1<q:=by omega
     have hqlt':(q1:Int)<(q:Int):=by omega
     have hq10:(0:Int)≤(q1:Int):=by omega
     obtain ⟨T1,hT1⟩:∃ T:ByteArray,⟨(putL gp).toArray⟩=T:=⟨_,rfl⟩;obtain ⟨T2,hT2⟩:∃ T:ByteArray,⟨(putL q1).toArray⟩=T:=⟨_,rfl⟩;have HT1:=hid hT1;have HT2:=hid hT2;have hs1:T1.size≤10:=by rw [←hT1,bm];exact aK (by omega)
     have hs2:T2.size≤10:=by rw [←hT2,bm];exact aK (by omega)
     have hs3:S.size≤500:=hpre;have HPG:Hid ((putL gp++putL q1).length≤20):=hid (show (putL gp++putL q1).length≤20 by
      have h1:=aK (n:=gp) (by omega);have h2:=aK (n:=q1) (by omega);rw [Df];omega)
     rcases HOW.out.forms with ⟨_,hnil⟩ | ⟨g,cap,hrv,hgB,hgl,_,hgc⟩
     ·rw [hnil] at hvk;simp at hvk
     simp only [EK] at hrv
     obtain ⟨rfl,hmv,rfl⟩:=hrv;clear hmv;have hgk:=(HBZ.out.cell (p:=⟨g,k,none⟩) hgl).trans (hgc k _ hvk);have xz0:=(HBZ.out.cell (p:=⟨bb,off,none⟩) hbb).trans p0;have hq0:(0:Int)<(q:Int):=by omega
     have hq00:0<q:=by omega
     clear hru hRd heq g1 g3 g4 hre hvk hcs h0e p0 hhd hlr hq hq1 hgc hlast hle pl hbn hT1 hT2 hiv hpre;rcases hen with ⟨rfl,rfl⟩ | ⟨he0,he2,rfl⟩
     ·obtain rfl:hd=(gp:Int):=by omega
      have k1':IntKind.u64.wrap (gp:Int)=(gp:Int):=DI _ (by omega);have k2':IntKind.u64.wrap (q1:Int)=(q1:Int):=DI _ (by omega);have k3':IntKind.i64.wrap (q1:Int)=(q1:Int):=Dh _ (by omega);go_wp2_with fail
      refine (fO gp T1 _ (by omega) HT1.out).mono ?_;rintro r w4 ⟨rfl,hb4⟩;have HB4:=hid (HBZ.out.trans (hb4.mono HBZ.out.size));clear hb4;go_wp2_with fail
      refine (fO q1 T2 _ (by omega) HT2.out).mono ?_;rintro r w5 ⟨rfl,hb5⟩;have HB5:=hid (HB4.out.trans (hb5.mono HB4.out.size));clear hb5;go_wp2
      go_loopw [8,96] (fun sv i wy=>∃ (j:Nat) (U:ByteArray),j≤q∧i=.int .i64 j∧sv=.string U∧U.data.toList=S.data.toList++(putL gp++putL q1++aN (run.take j))∧Below wo.heap.size wo wy) (fun _ i _=>q-(intOf i).toNat)
      case atStart=>exact ⟨0,_,by omega,rfl,rfl,by rw [←HT1.out,←HT2.out];simp [aN],HB5.out⟩
      case round =>
       obtain ⟨j,U,hj,rfl,rfl,hU,hby⟩:=hrel;have HU:=hid hU;have HBY:=hid hby;clear hU hby;by_cases hjl:j<q
       ·obtain ⟨t, ht⟩ : ∃ t, run[j]? = some t := ⟨run[j]'(by have := HQ.out; omega), Di _⟩;have y0:=HCS.out (j * 2) _ ((cZ run j 0 t ht (by omega)).trans rfl);have y1:=HCS.out (j * 2+1) _ ((cZ run j 1 t ht (by omega)).trans rfl);have htm:=HRE.out t (DB ht);have htl:=kI (run.take j) (fun e he=>(HRE.out e (List.mem_of_mem_take he)).2.2.2);have htl2:(run.take j).length≤j:=List.length_take_le _ _;have htk:run.take (j+1)=run.take j++[t]:=by
         obtain ⟨h1,h2⟩:=Do.1 ht;rw [E8 h1,h2]
        obtain ⟨rep,time⟩:=t;simp only at y0 y1 htm
        obtain ⟨tn,rfl⟩:=DS (show 0≤time by omega);obtain ⟨T3,hT3⟩:∃ T:ByteArray,⟨(putL tn).toArray⟩=T:=⟨_,rfl⟩;have HT3:=hid hT3;have hs4:T3.size≤10:=by rw [←hT3,bm];exact aK (by omega)
        have hs5:U.size≤1000:=by
         have h1:U.size=U.data.toList.length:=rfl;have h2:S.data.toList.length=S.size:=rfl;have h3:=HPG.out;rw [h1,HU.out,Df,Df,h2];omega
        have HU2:Hid ((U++T3).data.toList=S.data.toList++(putL gp++putL q1++aN (run.take (j+1)))):=hid (show (U++T3).data.toList=S.data.toList++(putL gp++putL q1++aN (run.take (j+1))) by
         have h:=HU.out;rw [htk,ng,←hT3];simp [h,aN])
        have z0:=(HBY.out.cell (p:=⟨bb,off+j * 2,none⟩) hbb).trans y0;have z1:wr.cell? ⟨bb,off+j * 2+1,none⟩=some (.int .i64 (tn:Int)):=(HBY.out.cell (p:=⟨bb,off+j * 2+1,none⟩) hbb).trans (by rw [Nat.add_assoc];exact y1);have k4':IntKind.u64.wrap (tn:Int)=(tn:Int):=DI _ (by omega);clear y0 y1 ht htk htl htl2 hT3;go_wp2_with fail
        refine (fO tn T3 _ (by omega) HT3.out).mono ?_;rintro r w6 ⟨rfl,hb6⟩;have HB6:=hid ((HBY.out.alloc HBY.out.size _).trans (hb6.mono (by have:=HBY.out.size;simp;omega)));clear hb6;go_wp2;go_roundw
        case rel=>exact ⟨j+1,U++T3,by omega,by go_num,rfl,HU2.out,HB6.out⟩
        case measure=>simp [intOf];omega
       ·have hjq:j=q:=by omega
        have HU2:Hid (U.data.toList++bg (lr+2) (R2.drop (k+1))=aC l):=hid (show U.data.toList++bg (lr+2) (R2.drop (k+1))=aC l by
         have h:=HU.out;rw [hjq,HQ.out,ES] at h;rw [h,←HBN.out])
        have z2:wr.cell? ⟨bb,off+q1 * 2,none⟩=some (.int .i64 lr):=(HBY.out.cell (p:=⟨bb,off+q1 * 2,none⟩) hbb).trans PL.out;have HLR2:=hid (show 0≤lr∧lr≤200 by omega);clear hjq;go_wp2;go_roundw
        case rel=>exact ⟨k+1,lr+2,lr,U,by omega,by go_num,rfl,rfl,.inr ⟨HLR2.out.1,HLR2.out.2,rfl⟩,HU2.out,HG4.out,HBY.out⟩
        case measure=>simp [intOf];omega
     ·have e1:IntKind.i64.wrap (hd-en)=hd-en:=Dh _ (by omega);have e2:hd-en-2=(gp:Int):=by omega
      have e3:IntKind.i64.wrap (gp:Int)=(gp:Int):=Dh _ (by omega);clear hgp;have k1':IntKind.u64.wrap (gp:Int)=(gp:Int):=DI _ (by omega);have k2':IntKind.u64.wrap (q1:Int)=(q1:Int):=DI _ (by omega);have k3':IntKind.i64.wrap (q1:Int)=(q1:Int):=Dh _ (by omega);go_wp2_with fail
      refine (fO gp T1 _ (by omega) HT1.out).mono ?_;rintro r w4 ⟨rfl,hb4⟩;have HB4:=hid (HBZ.out.trans (hb4.mono HBZ.out.size));clear hb4;go_wp2_with fail
      refine (fO q1 T2 _ (by omega) HT2.out).mono ?_;rintro r w5 ⟨rfl,hb5⟩;have HB5:=hid (HB4.out.trans (hb5.mono HB4.out.size));clear hb5;go_wp2
      go_loopw [8,96] (fun sv i wy=>∃ (j:Nat) (U:ByteArray),j≤q∧i=.int .i64 j∧sv=.string U∧U.data.toList=S.data.toList++(putL gp++putL q1++aN (run.take j))∧Below wo.heap.size wo wy) (fun _ i _=>q-(intOf i).toNat)
      case atStart=>exact ⟨0,_,by omega,rfl,rfl,by rw [←HT1.out,←HT2.out];simp [aN],HB5.out⟩
      case round =>
       obtain ⟨j,U,hj,rfl,rfl,hU,hby⟩:=hrel;have HU:=hid hU;have HBY:=hid hby;clear hU hby;by_cases hjl:j<q
       ·obtain ⟨t, ht⟩ : ∃ t, run[j]? = some t := ⟨run[j]'(by have := HQ.out; omega), Di _⟩;have y0:=HCS.out (j * 2) _ ((cZ run j 0 t ht (by omega)).trans rfl);have y1:=HCS.out (j * 2+1) _ ((cZ run j 1 t ht (by omega)).trans rfl);have htm:=HRE.out t (DB ht);have htl:=kI (run.take j) (fun e he=>(HRE.out e (List.mem_of_mem_take he)).2.2.2);have htl2:(run.take j).length≤j:=List.length_take_le _ _;have htk:run.take (j+1)=run.take j++[t]:=by
         obtain ⟨h1,h2⟩:=Do.1 ht;rw [E8 h1,h2]
        obtain ⟨rep,time⟩:=t;simp only at y0 y1 htm
        obtain ⟨tn,rfl⟩:=DS (show 0≤time by omega);obtain ⟨T3,hT3⟩:∃ T:ByteArray,⟨(putL tn).toArray⟩=T:=⟨_,rfl⟩;have HT3:=hid hT3;have hs4:T3.size≤10:=by rw [←hT3,bm];exact aK (by omega)
        have hs5:U.size≤1000:=by
         have h1:U.size=U.data.toList.length:=rfl;have h2:S.data.toList.length=S.size:=rfl;have h3:=HPG.out;rw [h1,HU.out,Df,Df,h2];omega
        have HU2:Hid ((U++T3).data.toList=S.data.toList++(putL gp++putL q1++aN (run.take (j+1)))):=hid (show (U++T3).data.toList=S.data.toList++(putL gp++putL q1++aN (run.take (j+1))) by
         have h:=HU.out;rw [htk,ng,←hT3];simp [h,aN])
        have z0:=(HBY.out.cell (p:=⟨bb,off+j * 2,none⟩) hbb).trans y0;have z1:wr.cell? ⟨bb,off+j * 2+1,none⟩=some (.int .i64 (tn:Int)):=(HBY.out.cell (p:=⟨bb,off+j * 2+1,none⟩) hbb).trans (by rw [Nat.add_assoc];exact y1);have k4':IntKind.u64.wrap (tn:Int)=(tn:Int):=DI _ (by omega);clear y0 y1 ht htk htl htl2 hT3;go_wp2_with fail
        refine (fO tn T3 _ (by omega) HT3.out).mono ?_;rintro r w6 ⟨rfl,hb6⟩;have HB6:=hid ((HBY.out.alloc HBY.out.size _).trans (hb6.mono (by have:=HBY.out.size;simp;omega)));clear hb6;go_wp2;go_roundw
        case rel=>exact ⟨j+1,U++T3,by omega,by go_num,rfl,HU2.out,HB6.out⟩
        case measure=>simp [intOf];omega
       ·have hjq:j=q:=by omega
        have HU2:Hid (U.data.toList++bg (lr+2) (R2.drop (k+1))=aC l):=hid (show U.data.toList++bg (lr+2) (R2.drop (k+1))=aC l by
         have h:=HU.out;rw [hjq,HQ.out,ES] at h;rw [h,←HBN.out])
        have z2:wr.cell? ⟨bb,off+q1 * 2,none⟩=some (.int .i64 lr):=(HBY.out.cell (p:=⟨bb,off+q1 * 2,none⟩) hbb).trans PL.out;have HLR2:=hid (show 0≤lr∧lr≤200 by omega);clear hjq;go_wp2;go_roundw
        case rel=>exact ⟨k+1,lr+2,lr,U,by omega,by go_num,rfl,rfl,.inr ⟨HLR2.out.1,HLR2.out.2,rfl⟩,HU2.out,HG4.out,HBY.out⟩
        case measure=>simp [intOf];omega
    ·have hkm:k=m:=by omega
     have HS:Hid (S.data.toList=aC l):=hid (show S.data.toList=aC l by
      have h:=HEQ.out;rw [hkm,HM.out,DD (Db _)] at h;have e:bg least []=[]:=rfl;rw [e,DV] at h;exact h)
     have HSS:Hid (S=⟨(cj l).toArray⟩):=hid (show S=⟨(cj l).toArray⟩ by
      rw [HW.out,←HS.out])
     have hz:=HBZ.out.size;have x0':=(HBZ.out.cell (p:=⟨w.heap.size,0,none⟩) hltw).trans X.out.1.1;have x1':=(HBZ.out.cell (p:=⟨w.heap.size,1,none⟩) hltw).trans X.out.1.2;have y0':=(HBZ.out.frozen (p:=⟨w.heap.size,0,none⟩) hltw).trans X.out.2.1;have y1':=(HBZ.out.frozen (p:=⟨w.heap.size,1,none⟩) hltw).trans X.out.2.2;have HLT:=hid (Dv hltw hz);clear hkm heq hrun hen;go_wp2_with fail
     refine (dF _).mono ?_;rintro r w4 ⟨rfl,hb4⟩;have d0:=(hb4.cell (p:=⟨w.heap.size,0,none⟩) HLT.out).trans x0';have d1:=(hb4.cell (p:=⟨w.heap.size,1,none⟩) HLT.out).trans x1';have f0:=(hb4.frozen (p:=⟨w.heap.size,0,none⟩) HLT.out).trans y0';have f1:=(hb4.frozen (p:=⟨w.heap.size,1,none⟩) HLT.out).trans y1';have HB4:Hid (Below w.heap.size w w4):=hid ((HBW.out.trans (HBZ.out.mono (DG hltw))).trans (hb4.mono (DG HLT.out)));clear hb4 x0' x1' y0' y1';go_wp2;refine Dc (v:=.tuple #[.string S,.agg #[.int .i64 0,.int .i64 (-1)]]) (by simp [results,Tryz.results46,go_sem,d0,d1]) rfl ?_;rw [HSS.out];exact ⟨by rw [HFV.out];rfl,(HB4.out.setCell (Db _) _).setCell (Db _) _⟩
