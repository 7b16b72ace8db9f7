import Derived.Test.YtdhognaoejiglaaGreatDoorKb21
namespace Go.Proofs.YtdhognaoejiglaaGreatDoor
open Lib (hid)
set_option maxRecDepth 100000
set_option maxHeartbeats 8000000
section
open Go.RowKit
def mu (w:World) (a b:List Ent) (e:Ending) (w':World):Prop :=
 ∃ v,e=.returned (.tuple #[v,noV (aR a b).1])∧ag w' w.heap.size v (aR a b).2∧Below w.heap.size w w'
theorem GQ:Tryz.zeroCells113=arrA fun _=>0:=by rw [←xi];kernel_rfl
theorem GR (w:World):w.alloc (.cells Tryz.zeroCells113 113)=w.alloc (.cells (arrA fun _=>0) 113):=by rw [GQ]
theorem zX (x y:Value) (w:World):(Instr.index 114 (.agg #[x,y]) (.int .i64 0)).run Tryz.prog w=.ok x w:=by kernel_rfl
theorem zY (x y:Value) (w:World):(Instr.index 114 (.agg #[x,y]) (.int .i64 1)).run Tryz.prog w=.ok y w:=by kernel_rfl
theorem rQ (G:Nat→Int) (k:Nat) (x:Int) (w:World) (h:k<201) (hx:G k=x):(Instr.index 113 (.agg (arrA G)) (.int .i64 (k:Int))).run Tryz.prog w=.ok (.int .i64 x) w:=by
 have h2:=gH G k h;rw [hx] at h2;simp [Instr.index,run_underlying Tryz.underlying113,asIntOf,h2,go_sem]
 intro hc;omega
def JL (a b:List Ent) (w:World) (k:Nat) (wr:World):Prop :=
 (k=0∧TJ (fun _=>0) w wr)∨(k=1∧aB a∧TJ (aP (fun _=>0) a) w wr)∨(k=2∧aB a∧aB b∧TJ (eq a b) w wr)
theorem nH {a b:List Ent} {e:Nat} (h:aR a b=(e,[])) (w w':World) (he:e≠0) (hb:Below w.heap.size w w'):mu w a b (.returned (.tuple #[.slice none 0 0,.iface 68 (.int .i64 (e:Nat))])) w':=by
 refine ⟨.slice none 0 0,?_,?_,hb⟩
 ·rw [h];simp only;rw [eZ he]
 ·rw [h];exact fd _ _
theorem Ak {a b:List Ent} {l:List Ent} (h:aR a b=(0,l)) (w w':World) (v:Value) (ho:ag w' w.heap.size v l) (hb:Below w.heap.size w w'):mu w a b (.returned (.tuple #[v,.nilIface])) w':=by
 refine ⟨v,?_,?_,hb⟩
 ·rw [h];rfl
 ·rw [h];exact ho
theorem vA (va vb:Value) (a b:List Ent) (w:World) (ha:ae w va a) (hb:ae w vb b) (hla:a.length≤9223372036854775807) (hlb:b.length≤9223372036854775807) (hg:errT w) :
 Calls Tryz.prog 46 #[va,vb] w (mu w a b):=by
 have HVA:=hid ha;have HVB:=hid hb;have HLA:=hid hla;have HLB:=hid hlb;have HG:=hid hg;obtain ⟨aa,ca,rfl,fa⟩:=ha.form;obtain ⟨ab,cb,rfl,fb⟩:=hb.form;have FA:=hid fa;have FB:=hid fb;obtain ⟨na,hna⟩:∃ n,n=a.length:=⟨_,rfl⟩;obtain ⟨nb,hnb⟩:∃ n,n=b.length:=⟨_,rfl⟩;have HNA:=hid hna;have HNB:=hid hnb;rw [←hna] at HVA ⊢;rw [←hnb] at HVB ⊢;clear ha hb hla hlb hg fa fb hna hnb;have i0:=zX;have i1:=zY;go_enter Tryz.func46,Tryz.ntmps46
 go_wp2;rw [GR]
 go_loopw [18] (fun i wr=>∃ k:Nat,k≤2∧i=.int .i64 k∧JL a b w k wr) (fun i _=>2-(intOf i).toNat)
 case atStart=>exact ⟨0,by omega,rfl,.inl ⟨rfl,TJ.start w⟩⟩
 case round =>
  obtain ⟨k,hk,rfl,hj⟩:=hrel;rcases hj with ⟨rfl,hT⟩ | ⟨rfl,hra,hT⟩ | ⟨rfl,hra,hrb,hT⟩
  ·have HT:=hid hT;have HB:=hid hT.2;have hzr:=hT.lt;clear hT;by_cases h0:(aq a).1=0
   ·have H0:=hid h0;have HRA:=hid ((bO a).1 h0);clear h0;go_wp2_with fail
    refine (ig _ a _ (HVA.out.below HB.out) HLA.out (HG.out.below HB.out)).mono ?_;rintro r w1 ⟨rfl,hb1⟩;rw [H0.out,gW];have HT1:=hid (HT.out.below hb1);clear hb1;go_wp2
    go_loopw [28] (fun i wr=>∃ k:Nat,k≤na∧i=.int .i64 k∧TJ (aP (fun _=>0) (a.take k)) w wr) (fun i _=>na-(intOf i).toNat)
    case atStart=>exact ⟨0,by omega,rfl,HT1.out⟩
    case round =>
     obtain ⟨k,hk,rfl,hT⟩:=hrel;by_cases hlt:k<na
     ·obtain ⟨t, ht⟩ : ∃ t, a[k]? = some t := ⟨a[k]'(by have := HNA.out; omega), List.getElem?_eq_getElem _⟩;obtain ⟨b1,o1,rfl,hb1,p0,p1⟩:=FA.out k t ht;have hm:=bJ HRA.out.2 t (List.mem_of_getElem? ht);have hsn:=um ht;obtain ⟨rep,time⟩:=t;simp only at p0 p1 hm
      obtain ⟨r,rfl⟩:=Int.eq_ofNat_of_zero_le hm.1;have hr:r<201:=by omega
      have hr':(r:Int)<201:=by omega
      have hr0:(0:Int)≤(r:Int):=by omega
      have q0:=(hT.2.cell (p:=⟨b1,o1+k * 2,none⟩) hb1).trans p0;have q1:=(hT.2.cell (p:=⟨b1,o1+k * 2+1,none⟩) hb1).trans p1;obtain ⟨c0,y0⟩:=(hT.alloc (.cells #[.int .i64 (r:Int),.int .i64 time] 58)).cells r hr;have hzt:=hT.lt;have h16:na≤16:=by rw [HNA.out];exact HRA.out.1
      have HT0:=hid hT;have HT2:=hid (hT.alloc (.cells #[.int .i64 (r:Int),.int .i64 time] 58));obtain ⟨x,hx⟩:∃ x,aP (fun _=>0) (a.take k) r=x:=⟨_,rfl⟩;obtain ⟨m,hmx⟩:∃ m,max x time=m:=⟨_,rfl⟩;have hmx2:(if x<time then time else x)=m:=by rw [←hmx];split <;> omega
      rw [hx] at c0;have HST:Hid (aP (fun _=>0) (a.take (k+1))=updT (aP (fun _=>0) (a.take k)) r m):=hid (show aP (fun _=>0) (a.take (k+1))=updT (aP (fun _=>0) (a.take k)) r m by rw [hsn,rd];simp only [Int.toNat_natCast];rw [hx,hmx]);have HRL:=hid hr;clear hm hsn ht p0 p1 hT hx hr;go_wp2;go_region
      all_goals
       go_wp2;go_roundw
       case rel=>exact ⟨k+1,by omega,by go_num,by rw [HST.out];first | exact ((HT0.out.set r HRL.out m).alloc _).drew | exact (HT2.out.set r HRL.out m).drew | exact HT2.out.drew.set r HRL.out m | exact HT2.out.set r HRL.out m⟩
       case measure=>simp [intOf];omega
     ·have hkn:k=na:=by omega
      have HT3:Hid (TJ (aP (fun _=>0) a) w wr):=hid (show TJ (aP (fun _=>0) a) w wr by
       have h:=hT;rw [hkn,HNA.out,List.take_length] at h;exact h)
      clear hT hkn;go_wp2;go_roundw
      case rel=>exact ⟨1,by omega,rfl,.inr (.inl ⟨rfl,HRA.out,HT3.out⟩)⟩
      case measure=>simp [intOf]
   ·have HJ:=hid (rY (b:=b) h0);have H0:=hid h0;have HQ:=hid (eZ h0);clear h0;go_wp2_with fail
    refine (ig _ a _ (HVA.out.below HB.out) HLA.out (HG.out.below HB.out)).mono ?_;rintro r w1 ⟨rfl,hb1⟩;rw [HQ.out];have HB1:=hid (HT.out.below hb1).2;clear hb1;go_wp2;go_ret2;exact nH HJ.out w _ H0.out HB1.out
  ·have HT:=hid hT;have HB:=hid hT.2;have hzr:=hT.lt;have HRA:=hid hra;clear hT hra;by_cases h0:(aq b).1=0
   ·have H0:=hid h0;have HRB:=hid ((bO b).1 h0);clear h0;go_wp2_with fail
    refine (ig _ b _ (HVB.out.below HB.out) HLB.out (HG.out.below HB.out)).mono ?_;rintro r w1 ⟨rfl,hb1⟩;rw [H0.out,gW];have HT1:=hid (HT.out.below hb1);clear hb1;go_wp2
    go_loopw [28] (fun i wr=>∃ k:Nat,k≤nb∧i=.int .i64 k∧TJ (aP (aP (fun _=>0) a) (b.take k)) w wr) (fun i _=>nb-(intOf i).toNat)
    case atStart=>exact ⟨0,by omega,rfl,HT1.out⟩
    case round =>
     obtain ⟨k,hk,rfl,hT⟩:=hrel;by_cases hlt:k<nb
     ·obtain ⟨t, ht⟩ : ∃ t, b[k]? = some t := ⟨b[k]'(by have := HNB.out; omega), List.getElem?_eq_getElem _⟩;obtain ⟨b1,o1,rfl,hb1,p0,p1⟩:=FB.out k t ht;have hm:=bJ HRB.out.2 t (List.mem_of_getElem? ht);have hsn:=um ht;obtain ⟨rep,time⟩:=t;simp only at p0 p1 hm
      obtain ⟨r,rfl⟩:=Int.eq_ofNat_of_zero_le hm.1;have hr:r<201:=by omega
      have hr':(r:Int)<201:=by omega
      have hr0:(0:Int)≤(r:Int):=by omega
      have q0:=(hT.2.cell (p:=⟨b1,o1+k * 2,none⟩) hb1).trans p0;have q1:=(hT.2.cell (p:=⟨b1,o1+k * 2+1,none⟩) hb1).trans p1;obtain ⟨c0,y0⟩:=(hT.alloc (.cells #[.int .i64 (r:Int),.int .i64 time] 58)).cells r hr;have hzt:=hT.lt;have h16:nb≤16:=by rw [HNB.out];exact HRB.out.1
      have HT0:=hid hT;have HT2:=hid (hT.alloc (.cells #[.int .i64 (r:Int),.int .i64 time] 58));obtain ⟨x,hx⟩:∃ x,aP (aP (fun _=>0) a) (b.take k) r=x:=⟨_,rfl⟩;obtain ⟨m,hmx⟩:∃ m,max x time=m:=⟨_,rfl⟩;have hmx2:(if x<time then time else x)=m:=by rw [←hmx];split <;> omega
      rw [hx] at c0;have HST:Hid (aP (aP (fun _=>0) a) (b.take (k+1))=updT (aP (aP (fun _=>0) a) (b.take k)) r m):=hid (show aP (aP (fun _=>0) a) (b.take (k+1))=updT (aP (aP (fun _=>0) a) (b.take k)) r m by rw [hsn,rd];simp only [Int.toNat_natCast];rw [hx,hmx]);have HRL:=hid hr;clear hm hsn ht p0 p1 hT hx hr;go_wp2;go_region
      all_goals
       go_wp2;go_roundw
       case rel=>exact ⟨k+1,by omega,by go_num,by rw [HST.out];first | exact ((HT0.out.set r HRL.out m).alloc _).drew | exact (HT2.out.set r HRL.out m).drew | exact HT2.out.drew.set r HRL.out m | exact HT2.out.set r HRL.out m⟩
       case measure=>simp [intOf];omega
     ·have hkn:k=nb:=by omega
      have HT3:Hid (TJ (aP (aP (fun _=>0) a) b) w wr):=hid (show TJ (aP (aP (fun _=>0) a) b) w wr by
       have h:=hT;rw [hkn,HNB.out,List.take_length] at h;exact h)
      clear hT hkn;go_wp2;go_roundw
      case rel=>exact ⟨2,by omega,rfl,.inr (.inr ⟨rfl,HRA.out,HRB.out,HT3.out⟩)⟩
      case measure=>simp [intOf]
   ·have HJ:=hid (s5 ((bO a).2 HRA.out) h0);have H0:=hid h0;have HQ:=hid (eZ h0);clear h0;go_wp2_with fail
    refine (ig _ b _ (HVB.out.below HB.out) HLB.out (HG.out.below HB.out)).mono ?_;rintro r w1 ⟨rfl,hb1⟩;rw [HQ.out];have HB1:=hid (HT.out.below hb1).2;clear hb1;go_wp2;go_ret2;exact nH HJ.out w _ H0.out HB1.out
  ·have HRA:=hid hra;have HRB:=hid hrb;have HB:=hid hT.2;have hzr:=hT.lt;have HG2:=hid hT.1;have HI:=hid (xl (eq a b));clear hra hrb hT;go_wp2_with (with_reducible refine wpList_load_row rfl _ _ rfl _ rfl _ _ _ _ HG2.out Tryz.underlying113 rfl HI.out ?_)
   have HJL:Hid (cO a b=tab (eq a b) 201):=hid (show cO a b=tab (eq a b) 201 from (Es HRA.out.2 HRB.out.2 201).symm);have HGT:Hid (∀ r,eq a b r≤1099511627776):=hid (show ∀ r,eq a b r≤1099511627776 from fun r=>by rw [qm HRA.out.2 HRB.out.2];exact (rX HRA.out.2 HRB.out.2 r).2);obtain ⟨G,hG⟩:∃ G,eq a b=G:=⟨_,rfl⟩;rw [hG] at HJL HGT ⊢;clear HG2 HI hG
   go_loopw [12,45] (fun lv i wr=>∃ k:Nat,k≤201∧i=.int .i64 k∧ag wr w.heap.size lv (tab G k)∧Below w.heap.size w wr) (fun _ i _=>201-(intOf i).toNat)
   case atStart=>exact ⟨0,by omega,rfl,fd _ _,HB.out⟩
   case round =>
    obtain ⟨k,hk,rfl,ho,hb⟩:=hrel;have HO:=hid ho;have HB2:=hid hb;have hz2:=hb.size;clear ho hb;by_cases hlt:k<201
    ·have hlt':(k:Int)<201:=by omega
     have hlen:=ug G k;by_cases hp:0<G k
     ·have HT:=hid (jr hp);obtain ⟨y,hy⟩:∃ y,G k=y:=⟨_,rfl⟩;rw [hy] at hp HT;have hm:=fun W=>rQ G k y W hlt hy
      clear hy;go_wp2_with (at_builtin;refine pv rfl _ _ rfl w.heap.size _ (tab G k) rfl (HO.out.alloc _) wr.heap.size 1 rfl ⟨k,y⟩ ?c1 ?c2 ?c3 ?_)
      case c1=>exact kq _ _ _
      case c2=>omega
      case c3=>simp;omega
      ·intro g cap w2 ho2 hg2;have HO2:Hid (ag w2 w.heap.size (.slice (some ⟨g,0,none⟩) ((tab G k).length+1) cap) (tab G (k+1))):=hid (show ag w2 w.heap.size (.slice (some ⟨g,0,none⟩) ((tab G k).length+1) cap) (tab G (k+1)) by rw [HT.out];exact ho2);have HB3:Hid (Below w.heap.size w w2):=(HB2.out.alloc hz2 _).grown hg2 (by simp;omega) (fun g hg=>(HO.out.lt g hg).1);clear ho2 hg2;go_wp2;go_roundw
       case rel=>exact ⟨k+1,by omega,by go_num,HO2.out,HB3.out⟩
       case measure=>simp [intOf];omega
     ·have HT:=hid (jq hp);obtain ⟨y,hy⟩:∃ y,G k=y:=⟨_,rfl⟩;rw [hy] at hp;have hm:=fun W=>rQ G k y W hlt hy
      clear hy;go_wp2;go_roundw
      case rel=>exact ⟨k+1,by omega,by go_num,by rw [HT.out];exact HO.out,HB2.out⟩
      case measure=>simp [intOf];omega
    ·obtain rfl:k=201:=by omega
     have H0A:=hid ((bO a).2 HRA.out);have H0B:=hid ((bO b).2 HRB.out);rw [←HJL.out] at HO;obtain ⟨av,cv,hv,_⟩:=HO.out.is.form;subst hv;obtain ⟨m,hm⟩:∃ m,m=(cO a b).length:=⟨_,rfl⟩;have HM:=hid hm;have hml:m≤201:=by rw [hm,HJL.out];exact ug G 201
     rw [←hm] at HO ⊢;clear hm hlt;by_cases h16:16<m
     ·have HJ:=hid (s6 H0A.out H0B.out (by rw [←HM.out];exact h16));go_wp2;go_ret2;exact nH HJ.out w _ (by decide) HB2.out
     ·have HJ:=hid (kO H0A.out H0B.out (by rw [←HM.out];exact h16));go_wp2;go_ret2;exact Ak HJ.out w _ _ HO.out HB2.out
end
section
open Go.RowKit
theorem cZ (s:ByteArray) (a:Nat):(s.extract a s.size).data.toList=s.data.toList.drop a:=by
 rw [fX,List.take_of_length_le (by rw [←aj];exact Nat.le_refl _)]
theorem jz (s:ByteArray) (most:Int) (w:World) (hs:s.size≤maxLen) (h0 : -9223372036854775808≤most) (h1:most≤9223372036854775807) (e:Nat) (h:intL s.data.toList most=(0,0,e)) (he:e≠0) :
 Calls Tryz.prog 155 #[.string s,.int .i64 most] w fun r w'=>r=.returned (.tuple #[.int .i64 0,.int .i64 0,.iface 68 (.int .i64 (e:Nat))])∧w=w' :=
 (gd s most w hs h0 h1).mono fun r w' ⟨h1,h2⟩=>⟨h1.trans (by rw [h];unfold intV errV;rw [if_neg he];rfl),h2⟩
theorem jA (s:ByteArray) (most:Int) (w:World) (hs:s.size≤maxLen) (h0 : -9223372036854775808≤most) (h1:most≤9223372036854775807) (n k:Nat) (h:intL s.data.toList most=(n,k,0)) :
 Calls Tryz.prog 155 #[.string s,.int .i64 most] w fun r w'=>r=.returned (.tuple #[.int .i64 n,.int .i64 k,.nilIface])∧w=w' :=
 (gd s most w hs h0 h1).mono fun r w' ⟨h1,h2⟩=>⟨h1.trans (by rw [h];rfl),h2⟩
def ir (w:World) (r:Nat ⊕ (List Ent×Nat)) (e:Ending) (w':World):Prop :=
 match r with
 | .inl er=>e=.returned (.tuple #[.slice none 0 0,.int .i64 0,.iface 68 (.int .i64 (er:Nat))])∧Below w.heap.size w w'
 | .inr (run,k)=>∃ v,e=.returned (.tuple #[v,.int .i64 (k:Nat),.nilIface])∧ag w' w.heap.size v run∧Below w.heap.size w w'
theorem pe {w:World} {x:Nat ⊕ (List Ent×Nat)} {er:Nat} (h:x=.inl er) (w':World) (hb:Below w.heap.size w w'):ir w x (.returned (.tuple #[.slice none 0 0,.int .i64 0,.iface 68 (.int .i64 (er:Nat))])) w':=by
 rw [h];exact ⟨rfl,hb⟩
theorem FM {w:World} {x:Nat ⊕ (List Ent×Nat)} {run:List Ent} {k:Nat} (h:x=.inr (run,k)) (v:Value) (w':World) (ho:ag w' w.heap.size v run) (hb:Below w.heap.size w w'):ir w x (.returned (.tuple #[v,.int .i64 (k:Nat),.nilIface])) w':=by
 rw [h];exact ⟨v,rfl,ho,hb⟩
theorem zT (w:World):(Instr.index 288 (.agg #[.int .i64 200,.int .i64 16]) (.int .i64 0)).run Tryz.prog w=.ok (.int .i64 200) w:=by kernel_rfl
theorem zU (w:World):(Instr.index 288 (.agg #[.int .i64 200,.int .i64 16]) (.int .i64 1)).run Tryz.prog w=.ok (.int .i64 16) w:=by kernel_rfl
def HD (w wr:World) (g c:Int):Prop:=wr.heap[w.heap.size]? = some (.cells #[.int .i64 g,.int .i64 c] 288 (0,0))∧Below w.heap.size w wr
theorem HD.start (w:World):HD w (w.alloc (.cells #[.int .i64 0,.int .i64 0] 288)) 0 0:=⟨heap_alloc_new _ _,(Below.refl _ _).alloc (Nat.le_refl _) _⟩
theorem HD.lt {w wr:World} {g c:Int} (h:HD w wr g c):w.heap.size<wr.heap.size:=(Array.getElem?_eq_some_iff.1 h.1).1
theorem HD.cells {w wr:World} {g c:Int} (h:HD w wr g c):wr.cell? ⟨w.heap.size,0,none⟩=some (.int .i64 g)∧wr.cell? ⟨w.heap.size,1,none⟩=some (.int .i64 c)∧wr.frozen? ⟨w.heap.size,0,none⟩=false∧wr.frozen? ⟨w.heap.size,1,none⟩=false :=
 ⟨cell_of_row _ _ 0 _ _ (0,0) h.1,cell_of_row _ _ 1 _ _ (0,0) h.1,frozen_of_row _ _ _ _ _ h.1,frozen_of_row _ _ _ _ _ h.1⟩
theorem HD.set0 {w wr:World} {g c:Int} (h:HD w wr g c) (x:Int):HD w (wr.setCell ⟨w.heap.size,0,none⟩ (.int .i64 x)) x c:=⟨by rw [heap_setCell_same _ _ _ _ _ _ h.1];rfl,h.2.setCell (Nat.le_refl _) _⟩
theorem HD.set1 {w wr:World} {g c:Int} (h:HD w wr g c) (x:Int):HD w (wr.setCell ⟨w.heap.size,1,none⟩ (.int .i64 x)) g x:=⟨by rw [heap_setCell_same _ _ _ _ _ _ h.1];rfl,h.2.setCell (Nat.le_refl _) _⟩
def HL (s:List UInt8) (w:World) (k a:Nat) (wr:World):Prop :=
 (k=0∧a=0∧HD w wr 0 0) ∨
 (k=1∧∃ g,intL s 200=(g,a,0)∧a≤s.length∧HD w wr (g:Nat) 0) ∨
 (k=2∧∃ g j c i,a=j+i∧j+i≤s.length∧g≤200∧c≤16∧intL s 200=(g,j,0)∧intL (s.drop j) 16=(c,i,0)∧HD w wr (g:Nat) (c:Nat))
theorem vz (s:ByteArray) (least:Int) (w:World) (hs:s.size≤1000000) (hl0:0≤least) (hl1:least≤1000000) :
 Calls Tryz.prog 209 #[.string s,.int .i64 least] w (ir w (getR s.data.toList 0 least [])):=by
 have i0:=zT;have i1:=zU;have hsl:s.data.toList.length=s.size:=(aj s).symm;have HSL:=hid hsl;clear hsl;go_enter Tryz.func209,Tryz.ntmps209
 go_wp2
 go_loopw [7,20] (fun av i wr=>∃ k a:Nat,k≤2∧i=.int .i64 k∧av=.int .i64 a∧HL s.data.toList w k a wr) (fun _ i _=>2-(intOf i).toNat)
 case atStart=>exact ⟨0,0,by omega,rfl,rfl,.inl ⟨rfl,rfl,HD.start w⟩⟩
 case round =>
  obtain ⟨k,a,hk,rfl,rfl,hh⟩:=hrel;have HM:Hid ((s.extract a s.size).size≤maxLen):=hid (show (s.extract a s.size).size≤maxLen by rw [ByteArray.size_extract];unfold maxLen;omega);have HE:=hid (cZ s a);have d3:(0:Int)≤(a:Int):=by omega
  rcases hh with ⟨rfl,ha,hd⟩ | ⟨rfl,g,hg,hal,hd⟩ | ⟨rfl,g,j,c,i,ha,hji,hg2,hc2,hg,hc,hd⟩
  ·have HDD:=hid hd;obtain ⟨c0,c1,y0,y1⟩:=hd.cells;have hz:=hd.lt;have HA:=hid ha;have d4:(a:Int)≤(s.size:Int):=by omega
   clear hd ha;rcases ba s.data.toList 200 with ⟨e,hi,he,_⟩ | ⟨n,j,hi,hn,hj1,hj2,hj3,_⟩
   ·have HI:Hid (intL (s.extract a s.size).data.toList 200=(0,0,e)):=hid (show intL (s.extract a s.size).data.toList 200=(0,0,e) by rw [HE.out,HA.out];exact hi);have HR:=hid (kF (used:=0) (least:=least) (acc:=[]) hi he);have HNE:=hid he;clear hi he;go_wp2_with fail
    refine (jz _ 200 _ HM.out (by decide) (by decide) e HI.out HNE.out).mono ?_;rintro r w' ⟨rfl,rfl⟩;go_wp2;go_ret3;exact pe HR.out _ HDD.out.2
   ·have HI:Hid (intL (s.extract a s.size).data.toList 200=(n,j,0)):=hid (show intL (s.extract a s.size).data.toList 200=(n,j,0) by rw [HE.out,HA.out];exact hi);have HI2:=hid hi;have hj4:j≤s.size:=by rw [←HSL.out];exact hj3
    have HJ3:=hid hj3;have eaj:(a:Int)+(j:Int)=(j:Int):=by have:=HA.out;omega
    clear hi hj3;go_wp2_with fail
    refine (jA _ 200 _ HM.out (by decide) (by decide) n j HI.out).mono ?_;rintro r w' ⟨rfl,rfl⟩;go_wp2;go_roundw
    case rel=>exact ⟨1,j,by omega,rfl,rfl,.inr (.inl ⟨rfl,n,HI2.out,HJ3.out,HDD.out.set0 _⟩)⟩
    case measure=>simp [intOf]
  ·have HDD:=hid hd;obtain ⟨c0,c1,y0,y1⟩:=hd.cells;have hz:=hd.lt;have HG:=hid hg;have hg2:(g:Int)≤200:=by
    rcases ba s.data.toList 200 with ⟨e,hi,he,_⟩ | ⟨n,j,hi,hn,_⟩
    ·rw [hg] at hi;simp only [Prod.mk.injEq] at hi;exact absurd hi.2.2.symm he
    ·rw [hg] at hi;simp only [Prod.mk.injEq] at hi;omega
   have has:a≤s.size:=by rw [←HSL.out];exact hal
   have d4:(a:Int)≤(s.size:Int):=by omega
   clear hd hg hal;rcases ba (s.data.toList.drop a) 16 with ⟨e,hi,he,_⟩ | ⟨n,j,hi,hn,hj1,hj2,hj3,_⟩
   ·have HI:Hid (intL (s.extract a s.size).data.toList 16=(0,0,e)):=hid (show intL (s.extract a s.size).data.toList 16=(0,0,e) by rw [HE.out];exact hi);have HR:=hid (kG (used:=0) (least:=least) (acc:=[]) HG.out hi he);have HNE:=hid he;clear hi he;go_wp2_with fail
    refine (jz _ 16 _ HM.out (by decide) (by decide) e HI.out HNE.out).mono ?_;rintro r w' ⟨rfl,rfl⟩;go_wp2;go_ret3;exact pe HR.out _ HDD.out.2
   ·have HI:Hid (intL (s.extract a s.size).data.toList 16=(n,j,0)):=hid (show intL (s.extract a s.size).data.toList 16=(n,j,0) by rw [HE.out];exact hi);have HI2:=hid hi;rw [List.length_drop,HSL.out] at hj3;have HJ3:Hid (a+j≤s.data.toList.length):=hid (show a+j≤s.data.toList.length by rw [HSL.out];omega);have hn16:n≤16:=by omega
    have hg200:g≤200:=by omega
    clear hi;go_wp2_with fail
    refine (jA _ 16 _ HM.out (by decide) (by decide) n j HI.out).mono ?_;rintro r w' ⟨rfl,rfl⟩;go_wp2;go_roundw
    case rel=>exact ⟨2,a+j,by omega,rfl,by go_num,.inr (.inr ⟨rfl,g,a,n,j,rfl,HJ3.out,hg200,hn16,HG.out,HI2.out,HDD.out.set1 _⟩)⟩
    case measure=>simp [intOf]
  ·have HDD:=hid hd;obtain ⟨c0,c1,y0,y1⟩:=hd.cells;have HR:=hid (iP (used:=0) (least:=least) (acc:=[]) hg hc);have HA:=hid ha;have has:a≤s.size:=by rw [←HSL.out,ha];exact hji
   have HST:Hid (getR s.data.toList 0 least []=tmA (c+1) (s.data.toList.drop a) a (least+g) []):=hid (show getR s.data.toList 0 least []=tmA (c+1) (s.data.toList.drop a) a (least+g) [] by
    rw [HR.out,ha,List.drop_drop,Nat.zero_add])
   have eg:0≤least+(g:Int):=by omega
   have eg2:least+(g:Int)≤1000200:=by omega
   have hz:=hd.lt;clear hd ha hg hc hji;rw [show ((2:Nat):Int)=2 from rfl];go_wp2
   go_loopw [7,14,46] (fun av rv i wr=>∃ (m b:Nat) (acc:List Ent),m≤c+1∧i=.int .i64 m∧av=.int .i64 b∧b≤s.size∧acc.length=m∧getR s.data.toList 0 least []=tmA (c+1-m) (s.data.toList.drop b) b (least+g+m) acc∧ag wr (w.heap.size+1) rv acc∧HD w wr g c) (fun _ _ i _=>c+1-(intOf i).toNat)
   case atStart=>exact ⟨0,a,[],by omega,rfl,rfl,has,rfl,by simpa using HST.out,fd _ _,HDD.out⟩
   case round =>
    obtain ⟨m,b,acc,hm,rfl,rfl,hbs,hal,heq,ho,hd⟩:=hrel;have HEQ:=hid heq;have HO:=hid ho;have HDJ:=hid hd;have HAL:=hid hal;obtain ⟨z0,z1,_,_⟩:=hd.cells;have hz2:=hd.lt;have HMB:Hid ((s.extract b s.size).size≤maxLen):=hid (show (s.extract b s.size).size≤maxLen by rw [ByteArray.size_extract];unfold maxLen;omega);have HEB:=hid (cZ s b);have e3:(0:Int)≤(b:Int):=by omega
    have e4:(b:Int)≤(s.size:Int):=by omega
    clear heq ho hd hal c0 c1 y0 y1;by_cases hlt:m<c+1
    ·have hlt':(m:Int)<(c:Int)+1:=by omega
     obtain ⟨c',hc'⟩:∃ c',c+1-m=c'+1:=⟨c-m,by omega⟩;rcases ba (s.data.toList.drop b) 1099511627776 with ⟨e,hi,he,_⟩ | ⟨n,j,hi,hn,hj1,hj2,hj3,_⟩
     ·have HI:Hid (intL (s.extract b s.size).data.toList 1099511627776=(0,0,e)):=hid (show intL (s.extract b s.size).data.toList 1099511627776=(0,0,e) by rw [HEB.out];exact hi);have HRB:Hid (getR s.data.toList 0 least []=.inl e):=hid (show getR s.data.toList 0 least []=.inl e by rw [HEQ.out,hc',lY hi he]);have HNE:=hid he;clear hi he hc';go_wp2_with fail
      refine (jz _ 1099511627776 _ HMB.out (by decide) (by decide) e HI.out HNE.out).mono ?_;rintro r w' ⟨rfl,rfl⟩;go_wp2;go_ret3;exact pe HRB.out _ HDJ.out.2
     ·have HI:Hid (intL (s.extract b s.size).data.toList 1099511627776=(n,j,0)):=hid (show intL (s.extract b s.size).data.toList 1099511627776=(n,j,0) by rw [HEB.out];exact hi);have HRB:Hid (getR s.data.toList 0 least []=tmA (c+1-(m+1)) (s.data.toList.drop (b+j)) (b+j) (least+g+((m+1:Nat):Int)) (acc++[⟨least+g+m,n⟩])):=hid (show getR s.data.toList 0 least []=tmA (c+1-(m+1)) (s.data.toList.drop (b+j)) (b+j) (least+g+((m+1:Nat):Int)) (acc++[⟨least+g+m,n⟩]) by
       rw [HEQ.out,hc',jv hi,List.drop_drop,show c+1-(m+1)=c' by omega]
       congr 1;omega)
      rw [List.length_drop,HSL.out] at hj3;obtain ⟨y,hy⟩:∃ y,y=least+(g:Int)+(m:Int):=⟨_,rfl⟩;rw [←hy] at HRB;have hyb:0≤y∧y≤1000300:=by omega
      have ey:least+(g:Int)+(m:Int)=y:=hy.symm;obtain ⟨acc2,hacc⟩:∃ acc2,acc++[(⟨y,(n:Int)⟩:Ent)]=acc2:=⟨_,rfl⟩;have HAC:=hid hacc;rw [hacc] at HRB;have HAL2:Hid (acc2.length=m+1):=hid (show acc2.length=m+1 by rw [←hacc,List.length_append,HAL.out];rfl);clear hi hc' hy hacc;go_wp2_with fail
      refine (jA _ 1099511627776 _ HMB.out (by decide) (by decide) n j HI.out).mono ?_;rintro r w' ⟨rfl,rfl⟩;go_wp2_with (at_builtin;refine pv rfl _ _ rfl (w.heap.size+1) _ acc rfl (HO.out.alloc _) _ 1 rfl ⟨y,n⟩ ?c1 ?c2 ?c3 ?_)
      case c1=>exact kq _ _ _
      case c2=>have:=HAL.out;omega
      case c3=>simp;omega
      ·intro gg cap w3 ho3 hg3;rw [HAC.out,HAL.out] at ho3;have HO3:=hid ho3;have HD3:Hid (HD w w3 g c):=hid (show HD w w3 g c from ⟨by
        rw [hg3.block _ (by simp;omega) (fun e=>by have:=(HO.out.lt w.heap.size e.symm).1;omega),Below.heap_alloc _ _ _ hz2];exact HDJ.out.1,(HDJ.out.2.alloc (Nat.le_of_lt hz2) _).grown hg3 (by simp;omega) (fun k hk=>by have:=(HO.out.lt k hk).1;omega)⟩)
       clear ho3 hg3;have hal3:=HAL.out;rw [hal3];clear hal3;go_wp2;go_roundw
       case rel=>exact ⟨m+1,b+j,acc2,by omega,by go_num,by go_num,by omega,HAL2.out,HRB.out,HO3.out,HD3.out⟩
       case measure=>simp [intOf];omega
    ·have hme:m=c+1:=by omega
     have HRE:Hid (getR s.data.toList 0 least []=.inr (acc,b)):=hid (show getR s.data.toList 0 least []=.inr (acc,b) by
      rw [HEQ.out,hme,Nat.sub_self];rfl)
     have hlt':(c:Int)+1≤(m:Int):=by omega
     clear hme;go_wp2;go_ret3;exact FM HRE.out _ _ (HO.out.mono (Nat.le_succ _)) HDJ.out.2
end
