import Derived.Test.YtagoidpkbloflaaGreatDoorKlq
import Derived.Test.YtagoidpkbloflaaGreatDoorKl33
import Derived.Test.YtagoidpkbloflaaGreatDoorKl32
namespace Go.Proofs.YtagoidpkbloflaaGreatDoor
open Lib (hid)
set_option maxRecDepth 100000
set_option maxHeartbeats 8000000
section
open Go.RowKit
theorem ui {f h:List Ent} {l:List Wr} {s:List UInt8} {pl:Int} (hb:aP f h l=(s,0,pl)):s.length≤20000:=by
 by_cases hr:(batF f h l).1=0
 ·by_cases hbg:20000<(cB f h l).length
  ·rw [fZ hr hbg] at hb;injection hb with _ hb;injection hb with hb _;cases hb
  ·rw [fq hr hbg] at hb;injection hb with hb _;rw [←hb];omega
 ·rw [gO hr] at hb;injection hb with _ hb;exact absurd (by rw [hb]) hr
theorem vT (S P T:ByteArray) (hP:dV S.data.toList=P.data.toList) (hT:frmL S.data.toList=T.data.toList):cS ((⟨#[80,84]⟩:ByteArray)++⟨#[3]⟩++P)=T:=by
 apply bY
 rw [kx,←hT];unfold frmL;rw [hP];simp
theorem px (vf vh vw:Value) (f h:List Ent) (l:List Wr) (T:ByteArray) (e:Nat) (pl:Int) (w:World) (hx:aR w vf vh vw f h l) (hg:errT w) (hb:frmF f h l=(T.data.toList,e,pl)) :
 Calls Tryz.prog 22 #[.agg #[vf,vh,vw]] w fun r w'=>∃ err,r=.returned (.tuple #[.string T,err])∧az w' err (e,pl)∧Below w.heap.size w w':=by
 have HX:=hid hx;have HG:=hid hg;obtain ⟨hf,hh,hv,_⟩:=hx;obtain ⟨af,cf,rfl,_⟩:=hf.form;obtain ⟨ah,ch,rfl,_⟩:=hh.form;obtain ⟨aw,cw,rfl,_⟩:=hv.form;obtain ⟨S,x,q,hbf⟩:∃ (S:ByteArray) (x:Nat) (q:Int),aP f h l=(S.data.toList,x,q):=⟨⟨(aP f h l).1.toArray⟩,(aP f h l).2.1,(aP f h l).2.2,by simp⟩;have HBF:=hid hbf;obtain ⟨d0,d1,d2⟩:=cy w (.slice af f.length cf) (.slice ah h.length ch) (.slice aw l.length cw) 25;have HW:Hid (Below w.heap.size w (w.alloc (.cells #[.slice af f.length cf,.slice ah h.length ch,.slice aw l.length cw] 25))):=hid ((Below.refl _ _).alloc (Db _) _);generalize f.length=nf at HX HW d0 d1 d2 ⊢;generalize h.length=nh at HX HW d0 d1 d2 ⊢;generalize l.length=n at HX HW d0 d1 d2 ⊢;clear hf hh hv hg;by_cases hx0:x=0
 ·subst hx0;rw [pw hbf] at hb;injection hb with hT hb
  injection hb with h1 h2
  subst h1 h2;have hsz:S.size≤20000:=by rw [ac];exact ui hbf
  obtain ⟨P,hP⟩:∃ P:ByteArray,dV S.data.toList=P.data.toList:=⟨⟨(dV S.data.toList).toArray⟩,by simp⟩;have hpz:P.size≤20004:=by
   rw [ac,←hP,yJ,←ac,mM hsz];split <;> split <;> omega
  obtain ⟨B,hB⟩:∃ B:ByteArray,B=⟨#[3]⟩:=⟨_,rfl⟩;obtain ⟨A,hA⟩:∃ A:ByteArray,A=⟨#[80,84]⟩:=⟨_,rfl⟩;have hsl:cS (A++B++P)=T:=by rw [hA,hB];exact vT S P T hP hT
  have hAz:A.size=2:=by rw [hA];rfl
  have hBz:B.size=1:=by rw [hB];rfl
  have HSL:=hid hsl;have HPK:=hid (fun w'=>yK S P w' hsz hP);have HBB:=hid hB;have ha1:¬ (9223372036854775807<A.size+B.size):=by omega
  have ha2:¬ (9223372036854775807<(A++B).size+P.size):=by rw [DH];omega
  have ha3:¬ (9223372036854775807<A.size+B.size+P.size):=by omega
  have HSZ:Hid ((A++B++P).size≤140737488351232):=hid (by rw [DH,DH];omega);have hA2:(⟨#[80,84]⟩:ByteArray)=A:=hA.symm;clear hbf hT hP hB hsl hA;go_enter Tryz.func22,Tryz.ntmps22
  rw [hA2];go_wp2_with fail
  refine (oX _ _ _ f h l _ (HX.out.below HW.out) (HG.out.below HW.out)).mono ?_;rintro r w1 ⟨err,rfl,hat,hb1⟩;rw [HBF.out] at hat ⊢;obtain rfl:=hat.nil rfl;rw [bF];have HB1:Hid (Below w.heap.size w w1):=HW.out.trans (hb1.mono HW.out.size);clear hb1 hat d0 d1 d2;go_wp2;have hcA:=dk 3 3 B rfl HBB.out (by omega) (w1.alloc (.cells #[.int .u8 3] 5)) w1.heap.size (Dg w1 _);have hcD:=dk 3 3 B rfl HBB.out (by omega) (w1.alloc (.cells #[.int .u8 3] 5)).drew w1.heap.size (Dg w1 _);have HBA:Hid (Below w1.heap.size w1 (w1.alloc (.cells #[.int .u8 3] 5))):=hid ((Below.refl _ _).alloc (Db _) _)
  go_region_with (first
   | (go_at_call 58;((with_reducible refine (HPK.out w1.drew).mono ?_);rintro r w2 ⟨rfl,hb2⟩;have HB2:Hid (Below w1.heap.size w1 w2):=hid (eH hb2);have HB3:Hid (Below w1.heap.size w1 (w2.alloc (.cells #[.int .u8 3] 5))):=hid (HB2.out.alloc HB2.out.size _);have hcB:=dk 3 3 B rfl HBB.out (by omega) (w2.alloc (.cells #[.int .u8 3] 5)) w2.heap.size (Dg w2 _);clear hb2))
   | (go_at_call 58;((with_reducible refine (HPK.out (w1.alloc (.cells #[.int .u8 3] 5)).drew).mono ?_);rintro r w2 ⟨rfl,hb2⟩;have HB3:Hid (Below w1.heap.size w1 w2):=hid (HBA.out.trans ((eH hb2).mono (by simp)));have hcB:=dk 3 3 B rfl HBB.out (by omega) w2 w1.heap.size (((eH hb2).block _ (by simp)).trans (Dg w1 _));clear hb2))
   | (go_at_call 57;((refine (AE _ _ HSZ.out).mono ?_);rintro r w4 ⟨rfl,hb4⟩;have HB4:Hid (Below w1.heap.size w1 w4):=hid (HB3.out.trans (hb4.mono HB3.out.size));clear hb4)))
  all_goals
   clear hcA hcB hcD;go_wp2;go_ret2;exact ⟨.nilIface,by rw [←HSL.out];rfl,.inl (.inl ⟨rfl,rfl⟩),HB1.out.trans (HB4.out.mono HB1.out.size)⟩
 ·rw [pv hbf hx0] at hb;injection hb with hT hb
  injection hb with h1 h2
  subst h1 h2;have hTe:T=⟨#[]⟩:=by rw [←bF T,←hT]
  subst hTe;clear hbf hT;go_enter Tryz.func22,Tryz.ntmps22
  go_wp2_with fail
  refine (oX _ _ _ f h l _ (HX.out.below HW.out) (HG.out.below HW.out)).mono ?_;rintro r w1 ⟨err,rfl,hat,hb1⟩;rw [HBF.out] at hat ⊢;have HAT:=hid hat;obtain ⟨t,u,rfl⟩:=hat.iface hx0;have HB1:Hid (Below w.heap.size w w1):=HW.out.trans (hb1.mono HW.out.size);clear hb1 hat d0 d1 d2;go_wp2;go_ret2;exact ⟨.iface t u,rfl,HAT.out,HB1.out⟩
end
section
open Go.RowKit
theorem pE {w w':World} {o:Obj} {R:Nat} (h:(w.alloc o).grownBy w' (some R)):w.grownBy w' (some R) :=
 ⟨h.os,h.tape,h.output,Dl (by simp) h.size,fun k hk hne=>(h.block k (by simp;omega) hne).trans (Below.heap_alloc _ _ _ hk)⟩
theorem ik (R:Nat) (s:ByteArray) (a n k:Nat) (most:Int) (w:World) (h:Rd w R s a) (hg:errT w) (hs:s.size≤1000000) (ha:a≤s.size) (h0 : -9223372036854775808≤most) (h1:most≤9223372036854775807) (hgv:intL (s.data.toList.drop a) most=(n,k,0)) (hk:k≤1000000) :
 Calls Tryz.prog 111 #[.pointer (some ⟨R,0,none⟩),.int .i64 most] w fun e w'=>e=.returned (.int .i64 (n:Int))∧Rd w' R s (a+k)∧w.grownBy w' (some R):=by
 have hmf:∀ (fn:Fn) (first cap:Array Value) (w:World),(Instr.makeFunc fn first cap).run Tryz.prog w=.ok (.func fn first cap) w:=fun _ _ _ _=>rfl
 have H:=hid (h.below ((Below.refl _ _).alloc (Db _) (.cells #[.int .i64 most] 3)));have HG:=hid (hg.alloc (.cells #[.int .i64 most] 3));have HGV:=hid hgv;have H0:=hid h0;have H1:=hid h1;clear h hg hgv h0 h1;go_enter Tryz.func111,Tryz.ntmps111
 go_wp2_with fail
 refine (wg R s a n k w.heap.size most _ H.out HG.out hs ha H0.out H1.out (by simp) HGV.out hk).mono ?_;rintro r w1 ⟨rfl,hr1,hg1⟩;have HR1:=hid hr1;have HG1:=hid (pE hg1);clear hr1 hg1;go_wp2;go_ret;exact ⟨rfl,HR1.out,HG1.out⟩
theorem ij (R:Nat) (s:ByteArray) (a x:Nat) (most:Int) (w:World) (h:Rd w R s a) (hg:errT w) (hs:s.size≤1000000) (ha:a≤s.size) (h0 : -9223372036854775808≤most) (h1:most≤9223372036854775807) (hgv:intL (s.data.toList.drop a) most=(0,0,x)) (hx:x≠0) :
 Calls Tryz.prog 111 #[.pointer (some ⟨R,0,none⟩),.int .i64 most] w fun e w'=>dL (x,(a:Int)) e w'∧w.grownBy w' (some R):=by
 have hmf:∀ (fn:Fn) (first cap:Array Value) (w:World),(Instr.makeFunc fn first cap).run Tryz.prog w=.ok (.func fn first cap) w:=fun _ _ _ _=>rfl
 have H:=hid (h.below ((Below.refl _ _).alloc (Db _) (.cells #[.int .i64 most] 3)));have HG:=hid (hg.alloc (.cells #[.int .i64 most] 3));have HGV:=hid hgv;have H0:=hid h0;have H1:=hid h1;clear h hg hgv h0 h1;go_enter Tryz.func111,Tryz.ntmps111
 go_wp2_with fail
 refine (wf R s a x 0 w.heap.size most _ H.out HG.out hs ha H0.out H1.out (by simp) HGV.out rfl hx).mono ?_;rintro r w1 ⟨⟨t,u,rfl,hne,ha⟩,hg1⟩;exact Dp rfl ⟨⟨t,u,rfl,hne,ha⟩,pE hg1⟩
theorem sJ (T R K:Int) (key val:ByteArray) (N:Int) (s V:ByteArray) (N':Int) (k:Nat) (w:World) (hk:key.size≤140737488351232) (hs:s.size≤140737488351232) (h0:aB T R K key s.data.toList=0) (hV:bP K s.data.toList=V) (hN:(getN K s.data.toList).1=N') (hn:bZ K s.data.toList=k) :
 Calls Tryz.prog 122 #[.agg #[.int .i64 T,.int .i64 R,.int .i64 K,.string key,.string val,.int .i64 N],.string s] w fun e w'=>e=.returned (.tuple #[.agg #[.int .i64 T,.int .i64 R,.int .i64 K,.string key,.string V,.int .i64 N'],.int .i64 (k:Int),.nilIface])∧Below w.heap.size w w':=by
 refine (sH T R K key val N s w hk hs).mono ?_;rintro e w' ⟨⟨r,rfl,hr⟩,hb⟩;refine ⟨?_,hb⟩;rcases hr with ⟨h1,_⟩ | ⟨_,h2⟩
 ·exact absurd h0 h1
 ·rw [h2,←hV,←hN,←hn];rfl
theorem sI (T R K:Int) (key val:ByteArray) (N:Int) (s:ByteArray) (x:Nat) (w:World) (hk:key.size≤140737488351232) (hs:s.size≤140737488351232) (h0:aB T R K key s.data.toList=x) (hx:x≠0) :
 Calls Tryz.prog 122 #[.agg #[.int .i64 T,.int .i64 R,.int .i64 K,.string key,.string val,.int .i64 N],.string s] w fun e w'=>e=.returned (.tuple #[.agg #[.int .i64 0,.int .i64 0,.int .i64 0,.string ⟨#[]⟩,.string ⟨#[]⟩,.int .i64 0],.int .i64 0,.iface 26 (.int .i64 (x:Int))])∧Below w.heap.size w w':=by
 refine (sH T R K key val N s w hk hs).mono ?_;rintro e w' ⟨⟨r,rfl,hr⟩,hb⟩;refine ⟨?_,hb⟩;rcases hr with ⟨_,h2⟩ | ⟨h1,_⟩
 ·rw [h2,h0,dy hx];rfl
 ·exact absurd (h0.symm.trans h1) hx
theorem qj (T R K:Int) (key val:ByteArray) (N:Int) (s V:ByteArray) (N':Int) (k Q:Nat) (w:World) (hQ:wrAt w Q T R K key val N) (hk:key.size≤140737488351232) (hs:s.size≤140737488351232) (h0:aB T R K key s.data.toList=0) (hV:bP K s.data.toList=V) (hN:(getN K s.data.toList).1=N') (hn:bZ K s.data.toList=k) :
 Calls Tryz.prog 160 #[.string s,.pointer (some ⟨Q,0,none⟩)] w fun e w'=>e=.returned (.tuple #[.agg #[.int .i64 T,.int .i64 R,.int .i64 K,.string key,.string V,.int .i64 N'],.int .i64 (k:Int),.nilIface])∧Below w.heap.size w w':=by
 obtain ⟨c0,c1,c2,c3,c4,c5⟩:=hQ.below ((Below.refl _ _).alloc (Db _) (.cells #[.int .i64 0,.int .i64 0,.int .i64 0,.string ⟨#[]⟩,.string ⟨#[]⟩,.int .i64 0] 78)) (bc hQ.1);have H0:=hid h0;have HV:=hid hV;have HN:=hid hN;have HK:=hid hn;clear h0 hV hN hn hQ;go_enter Tryz.func160,Tryz.ntmps160
 go_wp2_with fail
 refine (sJ T R K key val N s V N' k _ hk hs H0.out HV.out HN.out HK.out).mono ?_;rintro r w1 ⟨rfl,hb1⟩;have hq:w1.heap[w.heap.size]? = some (.cells #[.int .i64 0,.int .i64 0,.int .i64 0,.string ⟨#[]⟩,.string ⟨#[]⟩,.int .i64 0] 78 (0,0)):=(hb1.block _ (by simp)).trans (Dg w _);have HB1:Hid (Below w.heap.size w w1):=hid (((Below.refl _ _).alloc (Db _) _).trans (hb1.mono (by simp)));have HQ:=hid hq;clear hb1 c0 c1 c2 c3 c4 c5;have HI:=hid (cW (.int .i64 T) (.int .i64 R) (.int .i64 K) (.string key) (.string V) (.int .i64 N'));have HONE:=hid (cV T R K key V N');have HSAME:=hid (di T R K key V N');obtain ⟨e0,e1,e2,e3,e4,e5⟩:=aI (bL hq #[.int .i64 T,.int .i64 R,.int .i64 K,.string key,.string V,.int .i64 N']);clear hq;go_wp2_with (with_reducible refine DO rfl _ _ _ rfl _ _ rfl rfl _ _ HQ.out HI.out HSAME.out HONE.out ?_)
 refine Dc (v:=.tuple #[.agg #[.int .i64 T,.int .i64 R,.int .i64 K,.string key,.string V,.int .i64 N'],.int .i64 (k:Int),.nilIface]) (by simp [results,Tryz.results160,go_sem,e0,e1,e2,e3,e4,e5]) rfl ?_;exact ⟨rfl,cz HB1.out (Db _) _⟩
theorem qi (T R K:Int) (key val:ByteArray) (N:Int) (s:ByteArray) (x Q:Nat) (w:World) (hQ:wrAt w Q T R K key val N) (hk:key.size≤140737488351232) (hs:s.size≤140737488351232) (h0:aB T R K key s.data.toList=x) (hx:x≠0) :
 Calls Tryz.prog 160 #[.string s,.pointer (some ⟨Q,0,none⟩)] w fun e w'=>e=.returned (.tuple #[.agg #[.int .i64 0,.int .i64 0,.int .i64 0,.string ⟨#[]⟩,.string ⟨#[]⟩,.int .i64 0],.int .i64 0,.iface 26 (.int .i64 (x:Int))])∧Below w.heap.size w w':=by
 obtain ⟨c0,c1,c2,c3,c4,c5⟩:=hQ.below ((Below.refl _ _).alloc (Db _) (.cells #[.int .i64 0,.int .i64 0,.int .i64 0,.string ⟨#[]⟩,.string ⟨#[]⟩,.int .i64 0] 78)) (bc hQ.1);have H0:=hid h0;clear h0 hQ;go_enter Tryz.func160,Tryz.ntmps160
 go_wp2_with fail
 refine (sI T R K key val N s x _ hk hs H0.out hx).mono ?_;rintro r w1 ⟨rfl,hb1⟩;have hq:w1.heap[w.heap.size]? = some (.cells #[.int .i64 0,.int .i64 0,.int .i64 0,.string ⟨#[]⟩,.string ⟨#[]⟩,.int .i64 0] 78 (0,0)):=(hb1.block _ (by simp)).trans (Dg w _);have HB1:Hid (Below w.heap.size w w1):=hid (((Below.refl _ _).alloc (Db _) _).trans (hb1.mono (by simp)));have HQ:=hid hq;clear hb1 c0 c1 c2 c3 c4 c5;have HI:=hid (cW (.int .i64 0) (.int .i64 0) (.int .i64 0) (.string ⟨#[]⟩) (.string ⟨#[]⟩) (.int .i64 0));have HONE:=hid (cV 0 0 0 ⟨#[]⟩ ⟨#[]⟩ 0);obtain ⟨e0,e1,e2,e3,e4,e5⟩:=aI (bL hq #[.int .i64 0,.int .i64 0,.int .i64 0,.string ⟨#[]⟩,.string ⟨#[]⟩,.int .i64 0]);clear hq;go_wp2_with (with_reducible refine DO rfl _ _ _ rfl _ _ rfl rfl _ _ HQ.out HI.out rfl HONE.out ?_)
 refine Dc (v:=.tuple #[.agg #[.int .i64 0,.int .i64 0,.int .i64 0,.string ⟨#[]⟩,.string ⟨#[]⟩,.int .i64 0],.int .i64 0,.iface 26 (.int .i64 (x:Int))]) (by simp [results,Tryz.results160,go_sem,e0,e1,e2,e3,e4,e5]) rfl ?_;exact ⟨rfl,cz HB1.out (Db _) _⟩
end
section
open Go.RowKit
theorem uJ {w w':World} {row:Option Nat} (hg:w.grownBy w' row) {b o:Nat} (hb:b<w.heap.size) (hne:some b≠row):w'.cell? ⟨b,o,none⟩=w.cell? ⟨b,o,none⟩:=by
 simp only [World.cell?];rw [hg.block b hb hne]
theorem errT.grownR {w w':World} {R:Nat} {s:ByteArray} {a:Nat} (h:errT w) (hr:Rd w R s a) (hg:w.grownBy w' (some R)):errT w':=by
 unfold errT at h ⊢;rw [uJ hg (bc h) (fun e=>by
  have e2:=Dr e;have h2:=hr.cells.1;rw [←e2,h] at h2;cases h2)]
 exact h
theorem Rd.grown {w w':World} {R:Nat} {s:ByteArray} {a:Nat} {row:Option Nat} (h:Rd w R s a) (hg:w.grownBy w' row) (hne:some R≠row):Rd w' R s a:=(hg.block R h.cells.2.2.2 hne).trans h
theorem qD {w w':World} {B R:Nat} {v:Value} {l:List ByteArray} (h:ak w B v l) (hR:R<B) (hg:w.grownBy w' (some R)):ak w' B v l :=
 Dt h hg (.inr (fun e=>by have:=(h.lt R e).1;omega))
def unTx (s:List UInt8) (a:Nat):(Nat×Nat) ⊕ (Nat×List ByteArray) :=
 if (intL (s.drop a) 60).2.2≠0 then .inl ((intL (s.drop a) 60).2.2,a) else unT s (intL (s.drop a) 60).1 (a+(intL (s.drop a) 60).2.1) []
theorem nG {s:List UInt8} {a k j e:Nat} (h:intL (s.drop a) 60=(k,j,e)) (he:e≠0):unTx s a=.inl (e,a):=by unfold unTx;rw [h,if_pos he]
theorem nH {s:List UInt8} {a k j:Nat} (h:intL (s.drop a) 60=(k,j,0)):unTx s a=unT s k (a+j) []:=by unfold unTx;rw [h,if_neg (by simp)]
def tq (w:World) (R:Nat) (s:ByteArray) (r:(Nat×Nat) ⊕ (Nat×List ByteArray)) (e:Ending) (w':World):Prop :=
 w.grownBy w' (some R)∧((∃ x p,r=.inl (x,p)∧dL (x,(p:Int)) e w')∨∃ b T v,r=.inr (b,T)∧e=.returned v∧ak w' w.heap.size v T∧Rd w' R s b)
theorem Bs (R:Nat) (s:ByteArray) (a:Nat) (w:World) (h:Rd w R s a) (hg:errT w) (hs:s.size≤1000000) (ha:a≤s.size) :
 Calls Tryz.prog 110 #[.pointer (some ⟨R,0,none⟩)] w (tq w R s (unTx s.data.toList a)):=by
 have H:=hid h;have HG:=hid hg;have HSL:Hid (s.data.toList.length=s.size):=hid (ac s).symm;have hR:=h.cells.2.2.2;clear h hg;rcases ar (s.data.toList.drop a) 60 with ⟨e,h1,he,_⟩ | ⟨n,k,h1,hn,hk1,hk10,hkl,hp⟩
 ·have H1:=hid h1;have HR:=hid (nG h1 he);clear h1;go_enter Tryz.func110,Tryz.ntmps110
  go_wp2_with fail
  refine (ij R s a e 60 _ H.out HG.out hs ha (by decide) (by decide) H1.out he).mono ?_;rintro r w1 ⟨⟨t,u,rfl,hne,ha⟩,hg1⟩;exact Dp rfl ⟨hg1,.inl ⟨e,a,HR.out,t,u,rfl,hne,ha⟩⟩
 ·have H1:=hid h1;have hkl2:k≤s.size-a:=by rw [Dj,HSL.out] at hkl;exact hkl
  have HR:=hid (nH h1);clear h1 hkl hp;go_enter Tryz.func110,Tryz.ntmps110
  go_wp2_with fail
  refine (ik R s a n k 60 _ H.out HG.out hs ha (by decide) (by decide) H1.out (by omega)).mono ?_;rintro r w1 ⟨rfl,hr1,hg1⟩;have HR1:=hid hr1;have HG1:=hid hg1;clear hr1 hg1;go_wp2
  go_loopw [3,6] (fun v i wr=>∃ (j b:Nat) (T:List ByteArray),j≤n∧i=.int .i64 j∧b≤s.size∧T.length=j∧unTx s.data.toList a=unT s.data.toList (n-j) b T∧ak wr w.heap.size v T∧Rd wr R s b∧w.grownBy wr (some R)) (fun _ i _=>n-(intOf i).toNat)
  case atStart=>exact ⟨0,a+k,[],Ds _,rfl,by omega,rfl,HR.out,bK _ _,HR1.out,HG1.out⟩
  case round =>
   obtain ⟨j,b,T,hj,rfl,hb,hTl,hres,hos,hrd,hgr⟩:=hrel;have HO:=hid hos;have HRD:=hid hrd;have HGR:=hid hgr;have HRES:=hid hres;have HTL:=hid hTl;have HEG:=hid (HG.out.grownR H.out hgr);obtain ⟨ad,cp,rfl,_,_⟩:=hos.isTexts;rw [hTl] at HO ⊢;clear hos hrd hgr hres hTl;by_cases hlt:j<n
   ·obtain ⟨m,hm⟩:∃ m,n-j=m+1:=⟨n-j-1,by omega⟩;rw [hm] at HRES;obtain ⟨t,c,e,hg⟩:∃ t c e,getS (s.data.toList.drop b)=(t,c,e):=⟨_,_,_,rfl⟩;by_cases he:e=0
    ·subst he;obtain ⟨w1',w2',w3',_⟩:=fl hg;rw [Dj,HSL.out] at w2';have HN:Hid (unTx s.data.toList a=unT s.data.toList (n-(j+1)) (b+c) (T++[⟨t.toArray⟩])):=hid (by rw [HRES.out,iQ hg,show n-(j+1)=m by omega]);have HGS:=hid hg;obtain ⟨B,hB⟩:∃ B:ByteArray,(⟨t.toArray⟩:ByteArray)=B:=⟨_,rfl⟩;rw [hB] at HN;have HB:=hid hB;clear hg hB w3';go_wp2_with fail
     refine (wj R s b 0 c t _ HRD.out HEG.out hs hb HGS.out (by omega) rfl).mono ?_;rintro r w2 ⟨rfl,hr2,hg2⟩;rw [HB.out];have HR2:=hid hr2;have HO2:=hid (qD HO.out hR hg2);have HG2:=hid (aO HGR.out hg2 (fun k hk=>.inl (by injection hk with hk;exact hk.symm)));clear hr2 hg2;go_wp2_with (at_builtin;refine fi rfl _ _ rfl w.heap.size _ T rfl (HO2.out.alloc _) ⟨w2.heap.size,0,none⟩ 1 rfl B (by simp [Addr.add]) (by have:=HTL.out;omega) (by have:=HG2.out.size;simp;omega) ?_)
     intro g cap w4 ho4 hg4;have HTL2:Hid (T.length+1=j+1):=hid (by rw [HTL.out]);rw [HTL2.out] at ho4 ⊢;have HO4:=hid ho4;have hgA:w2.grownBy w4 (Value.slice ad j cp).ownBlock:=⟨hg4.os,hg4.tape,hg4.output,Dl (by simp) hg4.size,fun k hk hne=>(hg4.block k (by simp;omega) hne).trans (Below.heap_alloc _ _ _ hk)⟩;have hneR:some R≠(Value.slice ad j cp).ownBlock:=fun e=>by have:=(HO2.out.lt R e.symm).1;omega
     have HR4:=hid (HR2.out.grown hgA hneR);have HG4:=hid (aO HG2.out hgA (fun k hk=>.inr (HO2.out.lt k hk).1));clear ho4 hg4 hgA hneR;go_wp2;go_roundw
     case rel=>exact ⟨j+1,b+c,T++[B],by omega,by go_num,by omega,by rw [Df,HTL.out];rfl,HN.out,HO4.out,HR4.out,HG4.out⟩
     case measure=>simp [intOf];omega
    ·have hz : t = [] ∧ c = 0 := by
      rcases cu (s.data.toList.drop b) with ⟨x,hx,hxe⟩ | ⟨x,y,hx,_⟩
      ·rw [g9 hx hxe] at hg;simp only [Dz] at hg;exact ⟨hg.1.symm,hg.2.1.symm⟩
      ·by_cases h2:2000<x
       ·rw [ga hx h2] at hg;simp only [Dz] at hg;exact ⟨hg.1.symm,hg.2.1.symm⟩
       ·by_cases h3:(s.data.toList.drop b).length<y+x
        ·rw [gb hx h2 h3] at hg;simp only [Dz] at hg;exact ⟨hg.1.symm,hg.2.1.symm⟩
        ·rw [gc hx h2 h3] at hg;simp only [Dz] at hg;exact absurd hg.2.2.symm he
     obtain ⟨rfl,rfl⟩:=hz;have HN:Hid (unTx s.data.toList a=.inl (e,b)):=hid (by rw [HRES.out,iP hg he]);have HGS:=hid hg;clear hg;go_wp2_with fail
     refine (wh R s b e 0 [] _ HRD.out HEG.out hs hb HGS.out rfl he rfl).mono ?_;rintro r w2 ⟨⟨t,u,rfl,hne,ha⟩,hg2⟩;exact Dp rfl ⟨aO HGR.out hg2 (fun k hk=>.inl (by injection hk with hk;exact hk.symm)),.inl ⟨e,b,HN.out,t,u,rfl,hne,ha⟩⟩
   ·have HN:Hid (unTx s.data.toList a=.inr (b,T)):=hid (by rw [HRES.out,show n-j=0 by omega];rfl);go_wp2;go_ret;exact ⟨HGR.out,.inr ⟨b,T,_,HN.out,rfl,HO.out,HRD.out⟩⟩
end
