import Derived.Test.YtagoidpkbloflaaGreatDoorKlq
import Derived.Test.YtagoidpkbloflaaGreatDoorKl15
namespace Go.Proofs.YtagoidpkbloflaaGreatDoor
open Lib (hid)
set_option maxRecDepth 100000
set_option maxHeartbeats 8000000
section
open Go.RowKit
theorem Cv (K:Int) (s:ByteArray) (w:World) (hs:s.size≤140737488351232) :
 Calls Tryz.prog 163 #[.int .i64 K,.string s] w fun e w'=>e=.returned (.tuple #[.int .i64 (getN K s.data.toList).1,.int .i64 (getN K s.data.toList).2.1,errV (getN K s.data.toList).2.2])∧w=w':=by
 have hs2:s.size≤maxLen:=by unfold maxLen;omega
 by_cases h3:K=3
 ·subst h3;have HR:Hid (getN 3 s.data.toList=(zagN (getL s.data.toList).1,(getL s.data.toList).2.1,(getL s.data.toList).2.2)):=hid (show _=_ by unfold getN;rw [if_pos rfl]);have HZ:Hid ((getL s.data.toList).1≤18446744073709551615):=hid (by
   show _≤_
   rcases cu s.data.toList with ⟨e,hg,he⟩ | ⟨n,k,hg,hn,_⟩
   ·rw [hg];exact Ds _
   ·rw [hg];exact hn)
  go_enter Tryz.func163,Tryz.ntmps163
  go_wp2_with fail
  refine (mg s _ hs2).mono ?_;rintro r w' ⟨rfl,rfl⟩;unfold numV;go_wp2_with fail
  refine (D5 _ _ (by omega) (by have:=HZ.out;omega)).mono ?_;rintro r w' ⟨rfl,rfl⟩;go_wp2;go_ret3;rw [HR.out];exact ⟨rfl,rfl⟩
 ·have b3:(K == 3)=false:=by simpa using h3
  by_cases h4:K=4
  ·subst h4;have HR:Hid (getN 4 s.data.toList=(((intL s.data.toList 1000).1:Int),(intL s.data.toList 1000).2.1,(intL s.data.toList 1000).2.2)):=hid (show _=_ by unfold getN;rw [if_neg (by decide),if_pos rfl]);go_enter Tryz.func163,Tryz.ntmps163
   go_wp2_with fail
   refine (fG s 1000 _ hs2 (by decide) (by decide)).mono ?_;rintro r w' ⟨rfl,rfl⟩;unfold intV;go_wp2;go_ret3;rw [HR.out];exact ⟨rfl,rfl⟩
  ·have b4:(K == 4)=false:=by simpa using h4
   have HR:Hid (getN K s.data.toList=(0,0,0)):=hid (show _=_ by unfold getN;rw [if_neg h3,if_neg h4]);go_enter Tryz.func163,Tryz.ntmps163
   go_wp2;go_ret3;rw [HR.out];exact ⟨rfl,rfl⟩
theorem Cw (K:Int) (s:ByteArray) (w:World) (hs:s.size≤140737488351232) :
 Calls Tryz.prog 164 #[.int .i64 K,.string s] w fun e w'=>e=.returned (.tuple #[.string ⟨(getV K s.data.toList).1.toArray⟩,.int .i64 (getV K s.data.toList).2.1,errV (getV K s.data.toList).2.2])∧Below w.heap.size w w':=by
 cases hV:hasV K with
 | false =>
  have HR:Hid (getV K s.data.toList=([],0,0)):=hid (show _=_ by unfold getV;rw [hV,if_neg (by decide)]);go_enter Tryz.func164,Tryz.ntmps164
  go_wp2_with (go_at_call 177;refine (dS K false _ hV).mono ?_;rintro r w3 ⟨rfl,rfl⟩)
  go_ret3;rw [HR.out];exact ⟨rfl,Below.refl _ _⟩
 | true =>
  have HR:Hid (getV K s.data.toList=getS s.data.toList):=hid (show _=_ by unfold getV;rw [hV,if_pos rfl]);go_enter Tryz.func164,Tryz.ntmps164
  go_wp2_with (first
   | (go_at_call 177;refine (dS K true _ hV).mono ?_;rintro r w3 ⟨rfl,rfl⟩)
   | (go_at_call 119;refine (kA s _ hs).mono ?_;rintro r w4 ⟨rfl,hb4⟩;have HB4:=hid hb4;clear hb4;unfold dv))
  go_ret3;rw [HR.out];exact ⟨rfl,HB4.out⟩
def aB (T R K:Int) (key:ByteArray) (l:List UInt8):Nat :=
 if (getN K l).2.2≠0 then (getN K l).2.2 else if (getV K (l.drop (getN K l).2.1)).2.2≠0 then (getV K (l.drop (getN K l).2.1)).2.2 else wriE T R K key ⟨(getV K (l.drop (getN K l).2.1)).1.toArray⟩ (getN K l).1
def bD:Value:=.agg #[.int .i64 0,.int .i64 0,.int .i64 0,.string ⟨#[]⟩,.string ⟨#[]⟩,.int .i64 0]
def eK (ev:Nat→Value) (T R K:Int) (key:ByteArray) (l:List UInt8) (r:Value):Prop :=
 (aB T R K key l≠0∧r=.tuple #[bD,.int .i64 0,ev (aB T R K key l)]) ∨
 (aB T R K key l=0∧r=.tuple #[.agg #[.int .i64 T,.int .i64 R,.int .i64 K,.string key,.string ⟨(getV K (l.drop (getN K l).2.1)).1.toArray⟩,.int .i64 (getN K l).1],.int .i64 (((getN K l).2.1+(getV K (l.drop (getN K l).2.1)).2.1:Nat):Int),ev 0])
theorem jz {T R K:Int} {key:ByteArray} {l:List UInt8} {n:Int} {k e:Nat} (h:getN K l=(n,k,e)) (he:e≠0):aB T R K key l=e:=by unfold aB;rw [h];exact if_pos he
theorem jA {T R K:Int} {key:ByteArray} {l v:List UInt8} {n:Int} {k j e:Nat} (h:getN K l=(n,k,0)) (h2:getV K (l.drop k)=(v,j,e)) (he:e≠0):aB T R K key l=e:=by
 unfold aB;rw [h];simp only [ne_eq,not_true_eq_false,if_false];rw [h2];exact if_pos he
theorem fu {T R K:Int} {key:ByteArray} {l v:List UInt8} {n:Int} {k j:Nat} (h:getN K l=(n,k,0)) (h2:getV K (l.drop k)=(v,j,0)):aB T R K key l=wriE T R K key ⟨v.toArray⟩ n:=by
 unfold aB;rw [h];simp only [ne_eq,not_true_eq_false,if_false];rw [h2];simp
theorem dz {ev:Nat→Value} {T R K:Int} {key:ByteArray} {l:List UInt8} {e:Nat} (h:aB T R K key l=e) (he:e≠0):eK ev T R K key l (.tuple #[bD,.int .i64 0,ev e]):=by
 refine .inl ⟨by rw [h];exact he,by rw [h]⟩
theorem gX {ev:Nat→Value} {T R K:Int} {key:ByteArray} {l v:List UInt8} {n:Int} {k j:Nat} (h:getN K l=(n,k,0)) (h2:getV K (l.drop k)=(v,j,0)) (h3:wriE T R K key ⟨v.toArray⟩ n=0) :
 eK ev T R K key l (.tuple #[.agg #[.int .i64 T,.int .i64 R,.int .i64 K,.string key,.string ⟨v.toArray⟩,.int .i64 n],.int .i64 ((k+j:Nat):Int),ev 0]):=by
 refine .inr ⟨by rw [fu h h2];exact h3,?_⟩;rw [h];simp only
 rw [h2]
def dE (w:World) (B:Nat):Prop:=w.frozen? ⟨B,0,none⟩=false∧w.frozen? ⟨B,1,none⟩=false∧w.frozen? ⟨B,2,none⟩=false∧w.frozen? ⟨B,3,none⟩=false∧w.frozen? ⟨B,4,none⟩=false∧w.frozen? ⟨B,5,none⟩=false
theorem dE.below {w w':World} {B m:Nat} (h:dE w B) (hb:Below m w w') (hm:B<m):dE w' B :=
 ⟨(hb.frozen hm).trans h.1,(hb.frozen hm).trans h.2.1,(hb.frozen hm).trans h.2.2.1,(hb.frozen hm).trans h.2.2.2.1,(hb.frozen hm).trans h.2.2.2.2.1,(hb.frozen hm).trans h.2.2.2.2.2⟩
theorem CN:(Tryz.prog.info? 78).map (·.size)=some 6:=by kernel_rfl
theorem cW (a0 a1 a2 a3 a4 a5:Value):(Tryz.prog.info? 78).map (·.size)=some (#[a0,a1,a2,a3,a4,a5]:Array Value).size:=CN
theorem cV (T R K:Int) (key val:ByteArray) (N:Int):(#[.int .i64 T,.int .i64 R,.int .i64 K,.string key,.string val,.int .i64 N]:Array Value).all (·.oneCell')=true:=by simp [Value.oneCell']
theorem di (T R K:Int) (key val:ByteArray) (N:Int):(#[.int .i64 0,.int .i64 0,.int .i64 0,.string ⟨#[]⟩,.string ⟨#[]⟩,.int .i64 0]:Array Value).size=(#[.int .i64 T,.int .i64 R,.int .i64 K,.string key,.string val,.int .i64 N]:Array Value).size:=rfl
theorem cd {w:World} {B:Nat} {cs:Array Value} {t:TypeId} (h:w.heap[B]? = some (.cells cs t (0,0))):dE w B:=by
 unfold dE;simp [World.frozen?,h]
theorem aI {w:World} {B:Nat} {T R K:Int} {key val:ByteArray} {N:Int} {t:TypeId} {fr:Nat×Nat} (h:w.heap[B]? = some (.cells #[.int .i64 T,.int .i64 R,.int .i64 K,.string key,.string val,.int .i64 N] t fr)):wrAt w B T R K key val N :=
 ⟨Dd _ _ 0 _ _ _ h,Dd _ _ 1 _ _ _ h,Dd _ _ 2 _ _ _ h,Dd _ _ 3 _ _ _ h,Dd _ _ 4 _ _ _ h,Dd _ _ 5 _ _ _ h⟩
theorem me (K:Int) (l:List UInt8):(getV K l).1.length≤l.length∧(getV K l).2.1≤l.length:=by
 unfold getV;split
 ·rcases cu l with ⟨e,hg,he⟩ | ⟨n,k,hg,hn,hk1,hk2,hk3⟩
  ·rw [g9 hg he];simp
  ·by_cases h2:2000<n
   ·rw [ga hg h2];simp
   ·by_cases h3:l.length<k+n
    ·rw [gb hg h2 h3];simp
    ·rw [gc hg h2 h3];simp only [DK,Dj]
     omega
 ·simp
theorem cz {m:Nat} {w w':World} (h:Below m w w') {B:Nat} (hB:m≤B) (cs:Array Value):Below m w (w'.setRow B cs) :=
 h.trans ⟨rfl,rfl,rfl,by simp [World.setRow],fun k hk=>by
  simp only [World.setRow,Dw]
  rw [if_neg (by omega)]⟩
theorem bL {w:World} {B:Nat} {old:Array Value} {t:TypeId} {fr:Nat×Nat} (h:w.heap[B]? = some (.cells old t fr)) (cs:Array Value):(w.setRow B cs).heap[B]? = some (.cells cs t fr):=by
 simp only [World.setRow,Dw,h]
 simp
theorem ed {m B:Nat} {w w':World} (h:Below m w w') (hB:m≤B) (a0 a1 a2 a3 a4 a5:Value) :
 Below m w ((((((w'.setCell ⟨B,0,none⟩ a0).setCell ⟨B,1,none⟩ a1).setCell ⟨B,2,none⟩ a2).setCell ⟨B,3,none⟩ a3).setCell ⟨B,4,none⟩ a4).setCell ⟨B,5,none⟩ a5) :=
 (((((h.setCell (p:=⟨B,0,none⟩) hB a0).setCell (p:=⟨B,1,none⟩) hB a1).setCell (p:=⟨B,2,none⟩) hB a2).setCell (p:=⟨B,3,none⟩) hB a3).setCell (p:=⟨B,4,none⟩) hB a4).setCell (p:=⟨B,5,none⟩) hB a5
theorem sH (T R K:Int) (key val:ByteArray) (N:Int) (s:ByteArray) (w:World) (hk:key.size≤140737488351232) (hs:s.size≤140737488351232) :
 Calls Tryz.prog 122 #[.agg #[.int .i64 T,.int .i64 R,.int .i64 K,.string key,.string val,.int .i64 N],.string s] w fun e w'=>(∃ r,e=.returned r∧eK errV T R K key s.data.toList r)∧Below w.heap.size w w':=by
 obtain ⟨n,k,e,hn⟩:∃ n k e,getN K s.data.toList=(n,k,e):=⟨_,_,_,rfl⟩;have hkl:=(m4 K s.data.toList);rw [hn] at hkl;simp only at hkl
 have HKL:=hid hkl;have HN:=hid hn;clear hn hkl;go_enter Tryz.func122,Tryz.ntmps122
 go_wp2_with fail
 refine (Cv K s _ hs).mono ?_;rintro r w1 ⟨rfl,rfl⟩;rw [HN.out];by_cases he:e=0
 ·subst he;obtain ⟨v,j,e,hv⟩:∃ v j e,getV K (s.data.toList.drop k)=(v,j,e):=⟨_,_,_,rfl⟩;have hx:(s.extract k s.size).data.toList=s.data.toList.drop k:=by rw [cE,DL (by rw [←ac];exact Db _)]
  have HV:Hid (getV K (s.extract k s.size).data.toList=(v,j,e)):=hid (by rw [hx];exact hv);have HV2:=hid hv;have HVL:Hid (v.length≤140737488351232∧j≤140737488351232):=hid (by
   show _∧_
   have h:=me K (s.data.toList.drop k);rw [hv,Dj,←ac] at h;simp only at h
   omega)
  have HSZ:Hid ((s.extract k s.size).size≤140737488351232):=hid (by show _≤_;rw [DJ];omega);have d1:(0:Int)≤(k:Int):=by omega
  have d2:(k:Int)≤(s.size:Int):=by have:=HKL.out.1;rw [←ac] at this;omega
  clear hv hx;rw [show errV 0=Value.nilIface from rfl];go_wp2;have HA0:=hid (fj w T R K key val N 78);obtain ⟨W0,hW0⟩:∃ W0,W0=((w.alloc (.cells #[.int .i64 T,.int .i64 R,.int .i64 K,.string key,.string val,.int .i64 N] 78)).alloc (.cells #[.int .i64 0,.int .i64 0,.int .i64 0,.string ⟨#[]⟩,.string ⟨#[]⟩,.int .i64 0] 78)):=⟨_,rfl⟩;have hs0:W0.heap.size=w.heap.size+1+1:=by rw [hW0];simp
  have ha0:wrAt W0 w.heap.size T R K key val N:=by rw [hW0];exact HA0.out.below ((Below.refl _ _).alloc (Db _) _) (by simp)
  have hz0:wrAt W0 (w.heap.size+1) 0 0 0 ⟨#[]⟩ ⟨#[]⟩ 0:=by rw [hW0];have h:=fj (w.alloc (.cells #[.int .i64 T,.int .i64 R,.int .i64 K,.string key,.string val,.int .i64 N] 78)) 0 0 0 ⟨#[]⟩ ⟨#[]⟩ 0 78;rw [DE] at h;exact h
  have hf0:dE W0 w.heap.size:=by rw [hW0];unfold dE;simp
  have hg0:dE W0 (w.heap.size+1):=by rw [hW0];unfold dE;simp
  have hb0:Below w.heap.size w W0:=by rw [hW0];exact ((Below.refl _ _).alloc (Db _) _).alloc (by simp) _
  have HRB0:Hid (W0.heap[w.heap.size]? = some (.cells #[.int .i64 T,.int .i64 R,.int .i64 K,.string key,.string val,.int .i64 N] 78 (0,0))∧W0.heap[w.heap.size+1]? = some (.cells #[.int .i64 0,.int .i64 0,.int .i64 0,.string ⟨#[]⟩,.string ⟨#[]⟩,.int .i64 0] 78 (0,0))∧w.heap.size+1<W0.heap.size):=hid (by
   rw [hW0];refine ⟨?_,?_,by simp⟩
   ·rw [Below.heap_alloc _ _ _ (by simp)];exact Dg _ _
   ·have h:=Dg (w.alloc (.cells #[.int .i64 T,.int .i64 R,.int .i64 K,.string key,.string val,.int .i64 N] 78)) (.cells #[.int .i64 0,.int .i64 0,.int .i64 0,.string ⟨#[]⟩,.string ⟨#[]⟩,.int .i64 0] 78);rw [DE] at h;exact h)
  rw [←hW0];clear hW0 HA0;have HRB:Hid (W0.heap[w.heap.size]? = some (.cells #[.int .i64 T,.int .i64 R,.int .i64 K,.string key,.string val,.int .i64 N] 78 (0,0))∧W0.heap[w.heap.size+1]? = some (.cells #[.int .i64 0,.int .i64 0,.int .i64 0,.string ⟨#[]⟩,.string ⟨#[]⟩,.int .i64 0] 78 (0,0))∧w.heap.size+1<W0.heap.size):=hid (HRB0.out);have HX:=hid (Dp hs0 (Dp ha0 (Dp hz0 (Dp hf0 (Dp hg0 hb0)))));obtain ⟨c0,c1,c2,c3,c4,c5⟩:=ha0;clear hs0 hz0 hf0 hg0 hb0;have HBD:Hid (Below W0.heap.size W0 W0.drew):=hid ((Below.refl _ _).drew);have HSW:Hid (w.heap.size<W0.heap.size):=hid (by have:=HX.out.1;omega);go_region_held3 (fun w'=>w'.cell? ⟨w.heap.size,2,none⟩=some (.int .i64 K)) (first | exact c2 | exact k4) (first | (go_at_call 164;((with_reducible refine (Cw K (s.extract k s.size) W0.drew HSZ.out).mono ?_);rintro r w4 ⟨rfl,hb4⟩;rw [HV.out];have HB4:Hid (Below W0.heap.size W0 w4):=hid (HBD.out.trans (hb4.mono HBD.out.size));have k4:w4.cell? ⟨w.heap.size,2,none⟩=some (.int .i64 K):=(HB4.out.cell HSW.out).trans c2;clear hb4)))
  obtain ⟨hs0,ha0,hz0,hf0,hg0,hb0⟩:=HX.out;have ha4:=ha0.below HB4.out HSW.out;have hz4:=hz0.below HB4.out (by omega);have hf4:=hf0.below HB4.out HSW.out;have hg4:=hg0.below HB4.out (by omega);have HBW:Hid (Below w.heap.size w w4):=hid (hb0.trans (HB4.out.mono (by omega)));have HL4:Hid (w.heap.size+1<w4.heap.size):=hid (by have:=HB4.out.size;omega);clear c0 c1 c2 c3 c4 c5 k4 hs0 ha0 hz0 hf0 hg0 hb0;by_cases h2:e=0
  ·subst h2;rw [show errV 0=Value.nilIface from rfl];have rB:w4.heap[w.heap.size]? = some (.cells #[.int .i64 T,.int .i64 R,.int .i64 K,.string key,.string val,.int .i64 N] 78 (0,0)):=(HB4.out.block _ HSW.out).trans HRB.out.1;have rZ:w4.heap[w.heap.size+1]? = some (.cells #[.int .i64 0,.int .i64 0,.int .i64 0,.string ⟨#[]⟩,.string ⟨#[]⟩,.int .i64 0] 78 (0,0)):=(HB4.out.block _ HRB.out.2.2).trans HRB.out.2.1
   have rB5:((w4.setCell ⟨w.heap.size,5,none⟩ (.int .i64 n)).setCell ⟨w.heap.size,4,none⟩ (.string ⟨v.toArray⟩)).heap[w.heap.size]? = some (.cells #[.int .i64 T,.int .i64 R,.int .i64 K,.string key,.string ⟨v.toArray⟩,.int .i64 n] 78 (0,0)) :=
    De _ _ 4 _ _ _ (De _ _ 5 _ _ _ rB)
   have rZ5:((w4.setCell ⟨w.heap.size,5,none⟩ (.int .i64 n)).setCell ⟨w.heap.size,4,none⟩ (.string ⟨v.toArray⟩)).heap[w.heap.size+1]? = some (.cells #[.int .i64 0,.int .i64 0,.int .i64 0,.string ⟨#[]⟩,.string ⟨#[]⟩,.int .i64 0] 78 (0,0)):=by
    rw [Eh _ _ _ _ (by show w.heap.size+1≠w.heap.size;omega),Eh _ _ _ _ (by show w.heap.size+1≠w.heap.size;omega)];exact rZ
   have HR5:=hid rB5;have HZ5:=hid rZ5;have HI:=hid (cW (.int .i64 T) (.int .i64 R) (.int .i64 K) (.string key) (.string ⟨v.toArray⟩) (.int .i64 n));have c4:w4.cell? ⟨w.heap.size,4,none⟩=some (.string val):=Dd _ _ 4 _ _ _ rB;have c5:w4.cell? ⟨w.heap.size,5,none⟩=some (.int .i64 N):=Dd _ _ 5 _ _ _ rB;obtain ⟨_,_,_,_,f4,f5⟩:=hf4;clear ha4 hz4 hg4 rB rZ rB5 rZ5;have HBS:Hid (Below w.heap.size w ((w4.setCell ⟨w.heap.size,5,none⟩ (.int .i64 n)).setCell ⟨w.heap.size,4,none⟩ (.string ⟨v.toArray⟩))):=hid ((HBW.out.setCell (p:=⟨w.heap.size,5,none⟩) (Db _) _).setCell (p:=⟨w.heap.size,4,none⟩) (Db _) _);have HLS:Hid (w.heap.size+1<((w4.setCell ⟨w.heap.size,5,none⟩ (.int .i64 n)).setCell ⟨w.heap.size,4,none⟩ (.string ⟨v.toArray⟩)).heap.size):=hid (by show _<_;have:=HL4.out;simpa [World.setCell] using this);go_wp2_with (with_reducible refine wpList_load_row rfl _ _ rfl _ rfl _ _ _ _ HR5.out Tryz.underlying78 rfl HI.out ?_)
   have hvl:(⟨v.toArray⟩:ByteArray).size≤140737488351232:=by rw [bm];exact HVL.out.1
   refine (oj T R K key ⟨v.toArray⟩ n _ hk hvl).mono ?_;rintro r w5 ⟨rfl,hb5⟩;obtain ⟨E,hE⟩:∃ E,wriE T R K key ⟨v.toArray⟩ n=E:=⟨_,rfl⟩;rw [hE];have rB6:=(hb5.block _ (Ed HLS.out)).trans HR5.out;have rZ6:=(hb5.block _ HLS.out).trans HZ5.out;have HB6:Hid (Below w.heap.size w w5):=hid (HBS.out.trans (hb5.mono HBS.out.size));have HL6:Hid (w.heap.size+1<w5.heap.size):=hid (Dv HLS.out hb5.size);have HRB6:=hid rB6;have HRZ6:=hid rZ6;have HE6:=hid hE;clear hb5 rB6 rZ6 c4 c5 f4 f5 hE HR5 HZ5 HBS HLS;by_cases h3:E=0
   ·subst h3;rw [show errV 0=Value.nilIface from rfl];obtain ⟨_,_,_,c3,_,_⟩:=aI HRB6.out;go_wp2_with fail
    refine (p6 key w5 (by omega)).mono ?_;rintro r w6 ⟨rfl,hb6⟩;have rB7:=(hb6.block _ (Ed HL6.out)).trans HRB6.out;have rZ7:=(hb6.block _ HL6.out).trans HRZ6.out;have HB7:Hid (Below w.heap.size w w6):=hid (HB6.out.trans (hb6.mono HB6.out.size));obtain ⟨_,_,_,c3,_,_⟩:=aI rB7;obtain ⟨_,_,_,f3,_,_⟩:=cd rB7;have HRB8:Hid ((w6.setCell ⟨w.heap.size,3,none⟩ (.string key)).heap[w.heap.size]? = some (.cells #[.int .i64 T,.int .i64 R,.int .i64 K,.string key,.string ⟨v.toArray⟩,.int .i64 n] 78 (0,0))):=hid (De _ _ 3 _ _ _ rB7);have HRZ8:Hid ((w6.setCell ⟨w.heap.size,3,none⟩ (.string key)).heap[w.heap.size+1]? = some (.cells #[.int .i64 0,.int .i64 0,.int .i64 0,.string ⟨#[]⟩,.string ⟨#[]⟩,.int .i64 0] 78 (0,0))):=hid (by
     show _=_
     rw [Eh _ _ _ _ (by show w.heap.size+1≠w.heap.size;omega)];exact rZ7)
    have HRZ9:=hid (bL HRZ8.out #[.int .i64 T,.int .i64 R,.int .i64 K,.string key,.string ⟨v.toArray⟩,.int .i64 n]);have HONE:=hid (cV T R K key ⟨v.toArray⟩ n);have HSAME:=hid (di T R K key ⟨v.toArray⟩ n);have hj1:j≤140737488351232:=HVL.out.2;have hk1:k≤10:=HKL.out.2;have HOUT:=hid (gX (ev:=errV) (R:=R) HN.out HV2.out HE6.out);clear hb6 rB7 rZ7 HRB6 HRZ6;go_wp2_with (first
     | (with_reducible refine wpList_load_row rfl _ _ rfl _ rfl _ _ _ _ HRB8.out Tryz.underlying78 rfl HI.out ?_)
     | (with_reducible refine DO rfl _ _ _ rfl _ _ rfl rfl _ _ HRZ8.out HI.out HSAME.out HONE.out ?_))
    obtain ⟨c0,c1,c2,c3,c4,c5⟩:=aI HRZ9.out;refine Dc (v:=.tuple #[.agg #[.int .i64 T,.int .i64 R,.int .i64 K,.string key,.string ⟨v.toArray⟩,.int .i64 n],.int .i64 ((k:Int)+j),.nilIface]) (by simp [results,Tryz.results122,go_sem,c0,c1,c2,c3,c4,c5]) rfl ?_;exact ⟨⟨_,rfl,HOUT.out⟩,cz (HB7.out.setCell (p:=⟨w.heap.size,3,none⟩) (Db _) _) (Dq _) _⟩
   ·have HR:=hid (dz (ev:=errV) (T:=T) (R:=R) (key:=key) ((fu (T:=T) (R:=R) (key:=key) HN.out HV2.out).trans HE6.out) h3);have HE:=hid (dy h3);rw [dy h3];obtain ⟨c0,c1,c2,c3,c4,c5⟩:=aI HRZ6.out;obtain ⟨f0,f1,f2,f3,f4,f5⟩:=cd HRZ6.out;go_wp2;refine Dc (v:=.tuple #[bD,.int .i64 0,.iface 26 (.int .i64 E)]) (by simp [results,Tryz.results122,go_sem,bD,c0,c1,c2,c3,c4,c5]) rfl ?_;exact ⟨⟨_,rfl,by rw [←HE.out];exact HR.out⟩,ed HB6.out (Dq _) _ _ _ _ _ _⟩
  ·have HR:=hid (dz (ev:=errV) (T:=T) (R:=R) (key:=key) (jA HN.out HV2.out h2) h2);have HE:=hid (dy h2);rw [dy h2];obtain ⟨c0,c1,c2,c3,c4,c5⟩:=hz4;obtain ⟨f0,f1,f2,f3,f4,f5⟩:=hg4;clear ha4 hf4;go_wp2;refine Dc (v:=.tuple #[bD,.int .i64 0,.iface 26 (.int .i64 e)]) (by simp [results,Tryz.results122,go_sem,bD,c0,c1,c2,c3,c4,c5]) rfl ?_;exact ⟨⟨_,rfl,by rw [←HE.out];exact HR.out⟩,ed HBW.out (Dq _) _ _ _ _ _ _⟩
 ·rw [dy he];have HR:=hid (dz (ev:=errV) (T:=T) (R:=R) (key:=key) (jz HN.out he) he);have HE:=hid (dy he);go_wp2;refine Dc (v:=.tuple #[bD,.int .i64 0,.iface 26 (.int .i64 e)]) (by simp [results,Tryz.results122,go_sem,bD]) rfl ?_;exact ⟨⟨_,rfl,by rw [←HE.out];exact HR.out⟩,((Below.refl _ _).alloc (Db _) _).alloc (by simp) _⟩
end
section
open Go.RowKit
theorem D1 {n:Int} (h0:0≤n):zigN (zagN n)=n:=by unfold zigN zagN;split <;> split <;> omega
theorem fl {l t:List UInt8} {k:Nat} (h:getS l=(t,k,0)):1≤k∧k≤l.length∧t.length≤2000∧cT t=l.take k:=by
 rcases cu l with ⟨e,hg,he⟩ | ⟨n,j,hg,hn,hk1,hk2,hk3⟩
 ·rw [g9 hg he] at h;simp only [Dz] at h;omega
 ·by_cases h2:2000<n
  ·rw [ga hg h2] at h;simp at h
  ·by_cases h3:l.length<j+n
   ·rw [gb hg h2 h3] at h;simp at h
   ·rw [gc hg h2 h3] at h;simp only [Dz] at h
    obtain ⟨rfl,rfl,_⟩:=h;obtain ⟨_,_,hp⟩:=fD hg;have hl:((l.drop j).take n).length=n:=by simp;omega
    refine ⟨by omega,by omega,by omega,?_⟩;unfold cT;rw [hl,hp,←Ez]
theorem tF (K:Int) (val:ByteArray) (N:Int):(b7 K val N).size=(numB K N).size+(valB K val).size:=by unfold b7;rw [eO]
theorem yh {K:Int} {l:List UInt8} {n:Int} {k:Nat} (h:getN K l=(n,k,0)):(numB K n).data.toList=l.take k∧k≤l.length:=by
 unfold getN at h;unfold numB;by_cases h3:K=3
 ·rw [if_pos h3] at h ⊢;obtain ⟨m,j,e,hg⟩:∃ m j e,getL l=(m,j,e):=⟨_,_,_,rfl⟩;rw [hg] at h;simp only [Dz] at h
  obtain ⟨rfl,rfl,rfl⟩:=h;have:=fD hg;rw [jk,D1 (by omega),E2];exact ⟨this.2.2,this.2.1⟩
 ·rw [if_neg h3] at h ⊢;by_cases h4:K=4
  ·rw [if_pos h4] at h ⊢;rcases cu l with ⟨e,hg,he⟩ | ⟨m,j,hg,_⟩
   ·rw [f8 hg he] at h;simp only [Dz] at h
    exact absurd h.2.2 he
   ·by_cases hm:(1000:Int)<0∨(1000:Int)<m
    ·rw [dG hg hm] at h;simp at h
    ·rw [eo hg hm] at h;simp only [Dz] at h
     obtain ⟨rfl,rfl,_⟩:=h;have:=fD hg;rw [jk,E2];exact ⟨this.2.2,this.2.1⟩
  ·rw [if_neg h4] at h ⊢;simp only [Dz] at h
   obtain ⟨_,rfl,_⟩:=h;exact ⟨by rw [List.take_zero],Ds _⟩
theorem yj {K:Int} {l v:List UInt8} {j:Nat} (h:getV K l=(v,j,0)):(valB K ⟨v.toArray⟩).data.toList=l.take j∧j≤l.length:=by
 unfold getV at h;unfold valB;cases hV:hasV K with
 | true =>
  rw [hV,if_pos rfl] at h;rw [if_pos rfl,kC,jk];have:=fl h;exact ⟨this.2.2.2,this.2.1⟩
 | false =>
  rw [hV,if_neg (by decide)] at h;rw [if_neg (by decide)];simp only [Dz] at h
  obtain ⟨_,rfl,_⟩:=h;exact ⟨by rw [List.take_zero],Ds _⟩
theorem yi {K:Int} {l v:List UInt8} {n:Int} {k j:Nat} (h:getN K l=(n,k,0)) (h2:getV K (l.drop k)=(v,j,0)):(b7 K ⟨v.toArray⟩ n).data.toList=l.take (k+j)∧k+j≤l.length:=by
 obtain ⟨a1,a2⟩:=yh h;obtain ⟨b1,b2⟩:=yj h2;rw [Dj] at b2;unfold b7;rw [bE,a1,b1];refine ⟨?_,by omega⟩;rw [Ez]
end
section
open Go.RowKit Go.Maps
theorem pU:Keyed Tryz.prog 3:=int_keyed Tryz.underlying3
theorem D7 (w:World):(zeroValue 9).run Tryz.prog w=.ok (.string ⟨#[]⟩) w:=by kernel_rfl
def cntT (D:DataW Unit):Nat:=(if has D (.int .i64 1) then 1 else 0)+(if has D (.int .i64 2) then 1 else 0)+(if has D (.int .i64 3) then 1 else 0)+(if has D (.int .i64 4) then 1 else 0)
def JT (b:Nat) (w:World):Prop:=∃ (D:DataW Unit) (n:Nat),w.ownsMap Tryz.prog 3 (plainElem Tryz.prog 9) b n D∧n≤4∧Tidy D∧n=cntT D
def RT (b:Nat) (w:World) (k:Int) (s:ByteArray):Prop:=∃ (D:DataW Unit) (n:Nat),w.ownsMap Tryz.prog 3 (plainElem Tryz.prog 9) b n D∧D.atKey (.int .i64 k) (.lit (.string []))=.lit (.string s.data.toList)
theorem yD {w:World} {b n:Nat} {D:DataW Unit} (h:w.ownsMap Tryz.prog 3 (plainElem Tryz.prog 9) b n D):w.ownsMap Tryz.prog 3 (plainElem Tryz.prog 9) b (Maps.size D) D:=by
 obtain ⟨es,clock,h1,h2,h3,rfl⟩:=h;refine ⟨es,clock,h1,h2,?_,rfl⟩;rw [size_eq,length_read];exact Db _
theorem yC {w:World} {b n m:Nat} {D D':DataW Unit} (h:w.ownsMap Tryz.prog 3 (plainElem Tryz.prog 9) b n D) (h':w.ownsMap Tryz.prog 3 (plainElem Tryz.prog 9) b m D'):D=D':=by
 obtain ⟨es,clock,h1,_,_,rfl⟩:=h;obtain ⟨es',clock',h1',_,_,rfl⟩:=h';rw [h1] at h1';simp only [E1,Obj.map.injEq] at h1'
 rw [h1'.1]
theorem JT.made (w:World):JT w.heap.size (w.alloc (.map #[] 0)):=⟨_,0,World.ownsMap_made _ _ _ _,by decide,tidy_empty,rfl⟩
theorem JT.below {b:Nat} {w w':World} (h:JT b w) (hb:Below w.heap.size w w'):JT b w':=by
 obtain ⟨D,n,h1,h2⟩:=h;exact ⟨D,n,h1.kept (row:=none) ⟨hb.os,hb.tape,hb.output,hb.size,fun k hk _=>hb.block k hk⟩ (by simp),h2⟩
theorem RT.below {b:Nat} {w w':World} {k:Int} {s:ByteArray} (h:RT b w k s) (hb:Below w.heap.size w w'):RT b w' k s:=by
 obtain ⟨D,n,h1,h2⟩:=h;exact ⟨D,n,h1.kept (row:=none) ⟨hb.os,hb.tape,hb.output,hb.size,fun k hk _=>hb.block k hk⟩ (by simp),h2⟩
theorem uL (D:DataW Unit):cntT D≤4:=by unfold cntT;split <;> split <;> split <;> split <;> decide
theorem uM {D:DataW Unit} (h:Tidy D) {k:Int} (hk:k=1∨k=2∨k=3∨k=4) (d:DataW Unit):cntT (D.put (.int .i64 k) d)=if has D (.int .i64 k) then cntT D else cntT D+1:=by
 have hs:∀ k:Int,has (D.put (.int .i64 k) d) (.int .i64 k)=true:=fun k=>has_put_same h.isMap (keyN k) d
 have ho:∀ j k:Int,j≠k→has (D.put (.int .i64 k) d) (.int .i64 j)=has D (.int .i64 j):=fun j k hne=>has_put_other (by simp;exact hne) d
 unfold cntT;rcases hk with rfl | rfl | rfl | rfl
 ·rw [hs,ho 2 1 (by decide),ho 3 1 (by decide),ho 4 1 (by decide)];cases has D (.int .i64 1) <;> simp <;> omega
 ·rw [hs,ho 1 2 (by decide),ho 3 2 (by decide),ho 4 2 (by decide)];cases has D (.int .i64 2) <;> simp <;> omega
 ·rw [hs,ho 1 3 (by decide),ho 2 3 (by decide),ho 4 3 (by decide)];cases has D (.int .i64 3) <;> simp <;> omega
 ·rw [hs,ho 1 4 (by decide),ho 2 4 (by decide),ho 3 4 (by decide)];cases has D (.int .i64 4) <;> simp <;> omega
theorem k8 {b:Nat} {w:World} (h:JT b w) {k:Int} (hk:k=1∨k=2∨k=3∨k=4) {s:ByteArray} (hs:s.size≤maxLen) :
 ∃ w',(Instr.mapUpdate 139 (.map (some b)) (.int .i64 k) (.string s)).run Tryz.prog w=.ok () w'∧JT b w'∧RT b w' k s∧(∀ j t,j≠k→RT b w j t→RT b w' j t)∧w.grownBy w' (some b):=by
 obtain ⟨D,n,h1,h2,h3,h4⟩:=h;have hkb : -9223372036854775808≤k∧k≤9223372036854775807:=by omega
 obtain ⟨w',hrun,r1,r2⟩:=World.ownsMap.update h1 pU Tryz.underlying139 (by unfold maxLen;omega) (key:=.int .i64 k) (keyOf_int_mk Tryz.underlying3 (WalkArith.wf_i64 hkb)) (plainElem_string Tryz.underlying9 hs);have ht:=h3.put (keyN k) (.lit (.string s.data.toList));have hc:=uM h3 hk (.lit (.string s.data.toList));refine ⟨w',hrun,⟨_,cntT (D.put (.int .i64 k) (.lit (.string s.data.toList))),?_,uL _,ht,rfl⟩,⟨_,_,r1,atKey_put_same h3.isMap (keyN k) _ _⟩,?_,r2⟩
 ·by_cases hh:has D (.int .i64 k)=true
  ·have hsz:=size_put h3 (k:=.int .i64 k) (.lit (.string s.data.toList));have hDn:=World.ownsMap.size_le h1;have h5:=yD r1;rw [hsz,if_pos hh] at h5;rw [hc,if_pos hh];exact h5.mono (by omega)
  ·rw [hc,if_neg hh,←h4];exact r1
 ·rintro j t hne ⟨D',n',q1,q2⟩;obtain rfl:=yC h1 q1;exact ⟨_,_,r1,by rw [atKey_put_other (by simp;exact hne)];exact q2⟩
theorem xw {b:Nat} {w:World} {k:Int} {s:ByteArray} (h:RT b w k s) (hk : -9223372036854775808≤k∧k≤9223372036854775807) :
 (Instr.lookup 139 (.map (some b)) (.int .i64 k) false).run Tryz.prog w=.ok (.string s) w:=by
 obtain ⟨D,n,hown,hat⟩:=h;obtain ⟨v,ps,hrun,hv⟩:=World.ownsMap.lookup hown pU Tryz.underlying139 (D7 w) (plainElem_string Tryz.underlying9 (s:=⟨#[]⟩) (by decide)) (key:=.int .i64 k) (keyOf_int_mk Tryz.underlying3 (WalkArith.wf_i64 hk));have e0:(⟨#[]⟩:ByteArray).data.toList=[]:=rfl;rw [e0,hat] at hv;obtain ⟨s',rfl,hs'⟩:=za Tryz.underlying9 hv;obtain rfl:s=s':=by
  simp only [Dz,DataW.lit.injEq,Lit.string.injEq] at hs'
  exact cX hs'.1
 exact hrun
theorem rj (n:Int) (w:World) (h0:0≤n) (h1:n≤18446744073709551615) :
 Calls Tryz.prog 20 #[.int .u64 n] w fun e w'=>e=.returned (.string ⟨(putL n.toNat).toArray⟩)∧Below w.heap.size w w':=by
 obtain ⟨m,rfl⟩:=DS h0;rw [E2];exact eC m w (by omega)
theorem Bb {T R K:Int} {key val:ByteArray} {N:Int} (h:wriE T R K key val N=0) :
 (K=1∧b7 K val N=bT val)∨(K=2∧b7 K val N=⟨#[]⟩)∨(K=3∧b7 K val N=⟨(putL (zigN N).toNat).toArray⟩)∨(K=4∧b7 K val N=⟨(putL (max 0 N).toNat).toArray⟩++bT val):=by
 obtain ⟨g1,_,_,_,_,g6⟩:=j7 h;unfold b7;have hc:K=1∨K=2∨K=3∨K=4:=by omega
 rcases hc with rfl | rfl | rfl | rfl
 ·exact .inl ⟨rfl,cX (by rw [bE];rfl)⟩
 ·exact .inr (.inl ⟨rfl,cX (by rw [bE];rfl)⟩)
 ·refine .inr (.inr (.inl ⟨rfl,cX ?_⟩));rw [bE];unfold numB valB;rw [if_pos rfl,if_neg (by decide)];exact DV _
 ·refine .inr (.inr (.inr ⟨rfl,?_⟩));have h0:0≤N:=by
   unfold aV at g6;rw [if_neg (by decide),if_pos rfl] at g6;simp at g6;exact g6.1
  unfold numB valB;rw [if_neg (by decide),if_pos rfl,if_pos (by decide),Int.max_eq_right h0]
theorem Bd {b:Nat} {W:World} {K:Int} {t S P3 Q:ByteArray} (h1:RT b W 1 S) (h2:RT b W 2 ⟨#[]⟩) (h3:RT b W 3 P3) (h4:RT b W 4 Q)
 (hc:(K=1∧t=S)∨(K=2∧t=⟨#[]⟩)∨(K=3∧t=P3)∨(K=4∧t=Q)):RT b W K t:=by
 rcases hc with ⟨rfl,rfl⟩ | ⟨rfl,rfl⟩ | ⟨rfl,rfl⟩ | ⟨rfl,rfl⟩
 ·exact h1
 ·exact h2
 ·exact h3
 ·exact h4
def Bl (r:ByteArray×Nat):Value:=.tuple #[.string r.1,.int .i64 (r.2:Nat)]
end
