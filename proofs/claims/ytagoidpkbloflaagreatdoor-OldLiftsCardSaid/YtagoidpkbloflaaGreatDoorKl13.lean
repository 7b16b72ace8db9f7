import Derived.Test.YtagoidpkbloflaaGreatDoorKlq
import Derived.Test.YtagoidpkbloflaaGreatDoorKl12
namespace Go.Proofs.YtagoidpkbloflaaGreatDoor
open Lib (hid)
set_option maxRecDepth 100000
set_option maxHeartbeats 8000000
section
open Go.RowKit
theorem dd (s:ByteArray) (w:World) (hs:s.size≤maxLen) (n k:Nat) (h:getL s.data.toList=(n,k,0)) :
 Calls Tryz.prog 61 #[.string s] w fun e w'=>e=.returned (.tuple #[.int .u64 n,.int .i64 k,.int .i64 0])∧w=w' :=
 (nX s w hs).mono fun e w' ⟨h1,h2⟩=>⟨h1.trans (by rw [h];rfl),h2⟩
theorem nY (s:ByteArray) (w:World) (hs:s.size≤maxLen) (e:Nat) (h:getL s.data.toList=(0,0,e)) :
 Calls Tryz.prog 61 #[.string s] w fun r w'=>r=.returned (.tuple #[.int .u64 0,.int .i64 0,.int .i64 e])∧w=w' :=
 (nX s w hs).mono fun r w' ⟨h1,h2⟩=>⟨h1.trans (by rw [h];rfl),h2⟩
theorem iH (s:ByteArray) (most:Int) (w:World) (hs:s.size≤maxLen) (h0 : -9223372036854775808≤most) (h1:most≤9223372036854775807) :
 Calls Tryz.prog 29 #[.string s,.int .i64 most] w fun r w'=>r=.returned (intR (intL s.data.toList most))∧w=w':=by
 rcases cu s.data.toList with ⟨e,hg,he⟩ | ⟨n,k,hg,hn,hk1,hk2,hk3⟩
 ·have HP : Hid (intR (intL s.data.toList most) = .tuple #[.int .i64 0, .int .i64 0, .int .i64 e]) := by
   show intR _=_
   rw [f8 hg he];rfl
  have HG:=hid hg;have hne:((e:Int) != 0)=true:=by simp;omega
  clear hg;rw [HP.out];go_enter Tryz.func29,Tryz.ntmps29
  go_wp2_with (go_at_call 61;refine (nY _ _ hs e HG.out).mono ?_;rintro r w' ⟨rfl,rfl⟩)
  go_ret3;exact ⟨rfl,rfl⟩
 ·by_cases hm:most<0
  ·have HP : Hid (intR (intL s.data.toList most) = .tuple #[.int .i64 0, .int .i64 0, .int .i64 2]) := by
    show intR _=_
    rw [dG hg (.inl hm)];rfl
   have HG:=hid hg;clear hg;rw [HP.out];go_enter Tryz.func29,Tryz.ntmps29
   go_wp2_with (go_at_call 61;refine (dd _ _ hs n k HG.out).mono ?_;rintro r w' ⟨rfl,rfl⟩)
   go_ret3;exact ⟨rfl,rfl⟩
  ·have hm':0≤most:=by omega
   by_cases hr:most<(n:Int)
   ·have HP : Hid (intR (intL s.data.toList most) = .tuple #[.int .i64 0, .int .i64 0, .int .i64 2]) := by
     show intR _=_
     rw [dG hg (.inr hr)];rfl
    have HG:=hid hg;clear hg hm;rw [HP.out];go_enter Tryz.func29,Tryz.ntmps29
    go_wp2_with (go_at_call 61;refine (dd _ _ hs n k HG.out).mono ?_;rintro r w' ⟨rfl,rfl⟩)
    go_ret3;exact ⟨rfl,rfl⟩
   ·have HP : Hid (intR (intL s.data.toList most) = .tuple #[.int .i64 n, .int .i64 k, .int .i64 0]) := by
     show intR _=_
     rw [eo hg (by omega)];rfl
    have HG:=hid hg;have hr':(n:Int)≤most:=by omega
    clear hg hm hr;rw [HP.out];go_enter Tryz.func29,Tryz.ntmps29
    go_wp2_with (go_at_call 61;refine (dd _ _ hs n k HG.out).mono ?_;rintro r w' ⟨rfl,rfl⟩)
    go_ret3;exact ⟨rfl,rfl⟩
end
section
open Go.RowKit
theorem pj {l:List ByteArray} {k:Nat} {s:ByteArray} (h:l[k]? = some s) (hs:s∈l.take k):dupG (l.take k) (l.drop k) k=some k:=by
 obtain ⟨hk,e⟩:=Do.1 h;rw [DA hk,e,dupG,if_pos hs]
theorem pk {l:List ByteArray} {k:Nat} {s:ByteArray} (h:l[k]? = some s) (hs:s ∉ l.take k):dupG (l.take k) (l.drop k) k=dupG (l.take (k+1)) (l.drop (k+1)) (k+1):=by
 obtain ⟨hk,e⟩:=Do.1 h;rw [DA hk,e,dupG,if_neg hs]
 congr 1
 rw [←e,EC hk]
def dupR (l:List ByteArray):Nat×Int:=match dupG [] l 0 with | some i=>(9,(i:Int)) | none=>(0,-1)
theorem xa (v:Value) (l:List ByteArray) (w:World) (hv:ba w v l) (hl:l.length≤1000000) (hs:∀ s∈l,s.size≤140737488351232) :
 Calls Tryz.prog 161 #[v] w (jc w (dupR l)):=by
 obtain ⟨a1,c1,rfl,_,f1⟩:=hv;have F1:=hid f1;have HS:=hid hs;obtain ⟨n,hn⟩:∃ n,n=l.length:=⟨_,rfl⟩;rw [←hn] at hl ⊢;have HN:=hid hn;clear f1 hs hn;have hmm:=@run_makeMap Tryz.prog;go_enter Tryz.func161,Tryz.ntmps161
 go_wp2
 go_loopw [9] (fun i wr=>∃ k:Nat,k≤n∧i=.int .i64 k∧dupG [] l 0=dupG (l.take k) (l.drop k) k∧cR wr w.heap.size k (l.take k)∧Below w.heap.size w wr) (fun i _=>n-(intOf i).toNat)
 case atStart=>exact ⟨0,Ds _,rfl,rfl,yG _,(Below.refl _ _).alloc (Db _) _⟩
 case round =>
  obtain ⟨k,hk,rfl,hd,hmap,hbel⟩:=hrel;have HD:=hid hd;have HM:=hid hmap;have HB:=hid hbel;clear hd hmap hbel;by_cases hlt:k<n
  ·obtain ⟨s, hs⟩ : ∃ s, l[k]? = some s := ⟨l[k]'(by have := HN.out; omega), Di _⟩;obtain ⟨b1,o1,rfl,hb1,p0⟩:=F1.out k s hs;have q0:=(HB.out.cell (p:=⟨b1,o1+k,none⟩) hb1).trans p0;have HSZ:Hid (s.size≤140737488351232):=hid (HS.out s (DB hs));have hsz:s.size≤maxLen:=by have:=HSZ.out;unfold maxLen;omega
   by_cases hin:s∈l.take k
   ·have HR:Hid (dupR l=(9,(k:Int))):=hid (show dupR l=_ by unfold dupR;rw [HD.out,pj hs hin]);clear p0 hs;go_wp2_with (at_lookup;refine sL rfl _ _ rfl w.heap.size k (l.take k) rfl HM.out s rfl hsz true (by simpa using hin) ?_)
    go_ret;rw [HR.out];exact ⟨_,rfl,atIs.new _ 9 _ (by decide),HB.out.alloc HB.out.size _⟩
   ·have HD2:=hid (HD.out.trans (pk hs hin));have HTK:Hid (l.take k++[s]=l.take (k+1)):=hid (show _=_ by obtain ⟨hk2,e⟩:=Do.1 hs;rw [←e,EC hk2]);clear p0 hs;go_wp2_with (first
     | (at_lookup;refine sL rfl _ _ rfl w.heap.size k (l.take k) rfl HM.out s rfl hsz false (by simpa using hin) ?_)
     | (at_mapUpdate;refine CH rfl _ _ _ rfl w.heap.size k (l.take k) rfl HM.out (by unfold maxLen;omega) s rfl rfl hsz ?_;intro w1 hm1 hg1))
    have HB1:Hid (Below w.heap.size w w1):=hid (HB.out.grown hg1 HB.out.size (fun g hg=>by cases hg;exact Db _));rw [HTK.out] at hm1;have HM1:=hid hm1;clear hm1 hg1;go_roundw
    case rel=>exact ⟨k+1,by omega,by go_num,HD2.out,HM1.out,HB1.out⟩
    case measure=>simp [intOf];omega
  ·have HR:Hid (dupR l=(0,-1)):=hid (show dupR l=_ by unfold dupR;rw [HD.out,DD (by have:=HN.out;omega)];rfl);go_wp2;go_ret;rw [HR.out];exact ⟨_,rfl,.inl ⟨rfl,rfl⟩,HB.out⟩
theorem qA {K told k:Nat} {l:List Int} {n:Int} (h:l[k]? = some n) (hn:n<0∨(K:Int)≤n):ordG K told (l.drop k) k=(2,(k:Int)):=by
 obtain ⟨hk,e⟩:=Do.1 h;rw [DA hk,e,ordG,if_pos hn]
theorem qx {K told k:Nat} {l:List Int} {n:Int} (h:l[k]? = some n) (hn:¬ (n<0∨(K:Int)≤n)) (ht:(told:Int)<n):ordG K told (l.drop k) k=(13,(k:Int)):=by
 obtain ⟨hk,e⟩:=Do.1 h;rw [DA hk,e,ordG,if_neg hn,if_pos ht]
theorem qz {K told k:Nat} {l:List Int} {n:Int} (h:l[k]? = some n) (hn:¬ (n<0∨(K:Int)≤n)) (ht:n<(told:Int)):ordG K told (l.drop k) k=ordG K told (l.drop (k+1)) (k+1):=by
 obtain ⟨hk,e⟩:=Do.1 h;rw [DA hk,e,ordG,if_neg hn,if_neg (by omega),if_neg (by omega)]
theorem qy {K told k:Nat} {l:List Int} {n:Int} (h:l[k]? = some n) (hn:¬ (n<0∨(K:Int)≤n)) (ht:n=(told:Int)):ordG K told (l.drop k) k=ordG K (told+1) (l.drop (k+1)) (k+1):=by
 obtain ⟨hk,e⟩:=Do.1 h;rw [DA hk,e,ordG,if_neg hn,if_neg (by omega),if_pos ht]
theorem x8 (v:Value) (l:List Int) (K:Nat) (w:World) (hv:bW w v l) (hl:l.length≤1000000) (hK:K≤1000000) :
 Calls Tryz.prog 162 #[v,.int .i64 (K:Int)] w (gJ w (ordG K 0 l 0)):=by
 obtain ⟨a1,c1,rfl,_,f1⟩:=hv;have F1:=hid f1;obtain ⟨n,hn⟩:∃ n,n=l.length:=⟨_,rfl⟩;rw [←hn] at hl ⊢;have HN:=hid hn;clear f1 hn;go_enter Tryz.func162,Tryz.ntmps162
 go_wp2
 go_loopw [5,10] (fun t i wr=>∃ k told:Nat,k≤n∧told≤k∧i=.int .i64 k∧t=.int .i64 told∧ordG K 0 l 0=ordG K told (l.drop k) k∧Below w.heap.size w wr) (fun _ i _=>n-(intOf i).toNat)
 case atStart=>exact ⟨0,0,Ds _,Db _,rfl,rfl,rfl,Below.refl _ _⟩
 case round =>
  obtain ⟨k,told,hk,htk,rfl,rfl,hd,hbel⟩:=hrel;have HD:=hid hd;have HB:=hid hbel;clear hd hbel;by_cases hlt:k<n
  ·obtain ⟨z, hz⟩ : ∃ z, l[k]? = some z := ⟨l[k]'(by have := HN.out; omega), Di _⟩;obtain ⟨b1,o1,rfl,hb1,p0⟩:=F1.out k z hz;have q0:=(HB.out.cell (p:=⟨b1,o1+k,none⟩) hb1).trans p0;by_cases hr:z<0∨(K:Int)≤z
   ·have HR:=hid (HD.out.trans (qA hz hr));clear p0 hz;by_cases h0:z<0
    ·go_wp2;go_ret;rw [HR.out];exact ⟨_,rfl,.inl (atIs.new _ 2 _ (by decide)),HB.out.alloc HB.out.size _⟩
    ·have h1:(K:Int)≤z:=by omega
     go_wp2;go_ret;rw [HR.out];exact ⟨_,rfl,.inl (atIs.new _ 2 _ (by decide)),HB.out.alloc HB.out.size _⟩
   ·have h0:¬ z<0:=by omega
    have h1:¬ (K:Int)≤z:=by omega
    by_cases hf:(told:Int)<z
    ·have HR:=hid (HD.out.trans (qx hz hr hf));clear p0 hz hr;go_wp2;go_ret;rw [HR.out];exact ⟨_,rfl,.inl (atIs.new _ 13 _ (by decide)),HB.out.alloc HB.out.size _⟩
    ·by_cases he:z=(told:Int)
     ·have HD2:=hid (HD.out.trans (qy hz hr he));clear p0 hz hr;subst he;go_wp2;go_roundw
      case rel=>exact ⟨k+1,told+1,by omega,by omega,by go_num,by go_num,HD2.out,HB.out⟩
      case measure=>simp [intOf];omega
     ·have HD2:=hid (HD.out.trans (qz hz hr (by omega)));have hb:(z == (told:Int))=false:=by simpa using he
      clear p0 hz hr;go_wp2;go_roundw
      case rel=>exact ⟨k+1,told,by omega,by omega,by go_num,rfl,HD2.out,HB.out⟩
      case measure=>simp [intOf];omega
  ·have HE:Hid (ordG K 0 l 0=if told<K then (8,-1) else (0,-1)):=hid (show _=_ by rw [HD.out,DD (by have:=HN.out;omega)];rfl);by_cases ht:told<K
   ·have HR:Hid (ordG K 0 l 0=(8,-1)):=hid (show _=_ by rw [HE.out,if_pos ht]);go_wp2;go_ret;rw [HR.out];exact ⟨_,rfl,.inr ⟨by decide,rfl,rfl⟩,HB.out⟩
   ·have HR:Hid (ordG K 0 l 0=(0,-1)):=hid (show _=_ by rw [HE.out,if_neg ht]);go_wp2;go_ret;rw [HR.out];exact ⟨_,rfl,.inl (.inl ⟨rfl,rfl⟩),HB.out⟩
end
section
open Go.RowKit
theorem jj (l:List UInt8):intL l 1023=bkL l:=by
 unfold intL bkL;by_cases h:(getL l).2.2≠0
 ·rw [if_pos h,if_pos h]
 ·rw [if_neg h,if_neg h];by_cases h2:1023<(getL l).1
  ·rw [if_pos (by omega),if_pos h2]
  ·rw [if_neg (by omega),if_neg h2]
def jd (w:World) (e:Nat) (pl:Int) (r:Ending) (w':World):Prop :=
 ∃ err,r=.returned (.tuple #[.agg #[.string ⟨#[]⟩,.int .i64 0,.int .i64 0],.int .i64 0,err])∧atIs w' err (e,pl)∧Below w.heap.size w w'
theorem ii (v:Value) (e:Nat) (pl:Int) (w:World) (hg:errT w) (hv:isErr w v e) (he:e≠0) :
 Calls Tryz.prog 187 #[v,.int .i64 pl] w (jd w e pl):=by
 have HG:=hid (hg.alloc (.cells #[.string ⟨#[]⟩,.int .i64 0,.int .i64 0] 142));have HV:=hid (hv.alloc (.cells #[.string ⟨#[]⟩,.int .i64 0,.int .i64 0] 142));clear hg hv;go_enter Tryz.func187,Tryz.ntmps187
 go_wp2_with fail
 refine (e7 v e _ HG.out HV.out).mono ?_;rintro r w1 ⟨rfl,hb1⟩;have hl:w.heap.size<w1.heap.size:=Dv (by simp) hb1.size;have d0:w1.cell? ⟨w.heap.size,0,none⟩=some (.string ⟨#[]⟩):=(hb1.cell (by simp)).trans (by simp);have d1:w1.cell? ⟨w.heap.size,1,none⟩=some (.int .i64 0):=(hb1.cell (by simp)).trans (by simp);have d2:w1.cell? ⟨w.heap.size,2,none⟩=some (.int .i64 0):=(hb1.cell (by simp)).trans (by simp);have g0:w1.frozen? ⟨w.heap.size,0,none⟩=false:=(hb1.frozen (by simp)).trans (by simp);have g1:w1.frozen? ⟨w.heap.size,1,none⟩=false:=(hb1.frozen (by simp)).trans (by simp);have g2:w1.frozen? ⟨w.heap.size,2,none⟩=false:=(hb1.frozen (by simp)).trans (by simp);have HB1:Hid (Below w.heap.size w w1):=((Below.refl _ _).alloc (Db _) _).trans (hb1.mono (by simp));have HE:=hid he;clear hb1 he;go_wp2;obtain ⟨W3,hW3⟩:∃ W3,((w1.setCell ⟨w.heap.size,0,none⟩ (.string ⟨#[]⟩)).setCell ⟨w.heap.size,1,none⟩ (.int .i64 0)).setCell ⟨w.heap.size,2,none⟩ (.int .i64 0)=W3:=⟨_,rfl⟩;rw [hW3];have z3:W3.heap.size=w1.heap.size:=by rw [←hW3];simp
 have HB3:Hid (Below w.heap.size w W3):=by rw [←hW3];exact ((HB1.out.setCell (Db _) _).setCell (Db _) _).setCell (Db _) _
 have e0:W3.cell? ⟨w.heap.size,0,none⟩=some (.string ⟨#[]⟩):=by rw [←hW3];simp [go_sem,d0]
 have e1:W3.cell? ⟨w.heap.size,1,none⟩=some (.int .i64 0):=by rw [←hW3];simp [go_sem,d1]
 have e2:W3.cell? ⟨w.heap.size,2,none⟩=some (.int .i64 0):=by rw [←hW3];simp [go_sem,d2]
 have hl3:w.heap.size<W3.heap.size:=by omega
 have n3:(W3.alloc (.cells #[.int .i64 e,.int .i64 pl] 106)).heap[w1.heap.size]? = some (.cells #[.int .i64 e,.int .i64 pl] 106 (0,0)):=by rw [←z3];exact Dg _ _
 have q0:=(DC W3 (.cells #[.int .i64 e,.int .i64 pl] 106) (⟨w.heap.size,0,none⟩:Addr) hl3).trans e0;have q1:=(DC W3 (.cells #[.int .i64 e,.int .i64 pl] 106) (⟨w.heap.size,1,none⟩:Addr) hl3).trans e1;have q2:=(DC W3 (.cells #[.int .i64 e,.int .i64 pl] 106) (⟨w.heap.size,2,none⟩:Addr) hl3).trans e2;refine Dc (v:=.tuple #[.agg #[.string ⟨#[]⟩,.int .i64 0,.int .i64 0],.int .i64 0,.iface 103 (.pointer (some ⟨w1.heap.size,0,none⟩))]) (by simp [results,Tryz.results187,go_sem,q0,q1,q2]) rfl ?_;exact ⟨_,rfl,.inr ⟨HE.out,w1.heap.size,rfl,by simp;omega,Dd _ _ 0 _ _ (0,0) n3,Dd _ _ 1 _ _ (0,0) n3⟩,HB3.out.alloc (by omega) _⟩
def lq (w:World) (a:Nat) (r:(Nat×Nat) ⊕ (Tok×Nat)) (e:Ending) (w':World):Prop :=
 match r with
 | .inl (er,p)=>jd w er ((a+p:Nat):Int) e w'
 | .inr (t,k)=>e=.returned (.tuple #[tokV t,.int .i64 ((a+k:Nat):Int),.nilIface])∧Below w.heap.size w w'
theorem jx (s:ByteArray) (a:Nat):(s.extract a s.size).data.toList=s.data.toList.drop a:=by
 rw [cE,DL (by rw [←ac];exact Db _)]
theorem wL (s:ByteArray) (w:World) (hs:s.size≤maxLen) (e:Nat) (h:bkL s.data.toList=(0,0,e)) (he:e≠0) :
 Calls Tryz.prog 74 #[.string s,.int .i64 1023] w fun r w'=>r=.returned (.tuple #[.int .i64 0,.int .i64 0,.iface 26 (.int .i64 e)])∧w=w' :=
 (fG s 1023 w hs (by omega) (by omega)).mono fun r w' ⟨h1,h2⟩=>⟨h1.trans (by rw [jj,h];unfold intV errV;rw [if_neg he];rfl),h2⟩
theorem wM (s:ByteArray) (w:World) (hs:s.size≤maxLen) (n k:Nat) (h:bkL s.data.toList=(n,k,0)) :
 Calls Tryz.prog 74 #[.string s,.int .i64 1023] w fun r w'=>r=.returned (.tuple #[.int .i64 n,.int .i64 k,.nilIface])∧w=w' :=
 (fG s 1023 w hs (by omega) (by omega)).mono fun r w' ⟨h1,h2⟩=>⟨h1.trans (by rw [jj,h];rfl),h2⟩
theorem i8 {a:Nat} {p:Int} {b:Nat} (h:((a+b:Nat):Int)=p) (e:Nat) (w:World) (r:Ending) (w':World) (hw:jd w e p r w'):lq w a (.inl (e,b)) r w':=by
 show jd w e ((a+b:Nat):Int) r w'
 rw [h];exact hw
theorem pC {a:Nat} {p:Int} {b:Nat} {t:Tok} {v:Value} (h:((a+b:Nat):Int)=p) (hv:tokV t=v) (w:World) (r:Ending) (w':World) (hw:r=.returned (.tuple #[v,.int .i64 p,.nilIface])∧Below w.heap.size w w'):lq w a (.inr (t,b)) r w':=by
 show r=.returned (.tuple #[tokV t,.int .i64 ((a+b:Nat):Int),.nilIface])∧_
 rw [h,hv];exact hw
theorem atIs.set3 {w:World} {v:Value} {r:Nat×Int} {B:Nat} {s:ByteArray} (h:atIs w v r) (h0:w.cell? ⟨B,0,none⟩=some (.string s)) (x y z:Value) :
 atIs (((w.setCell ⟨B,0,none⟩ x).setCell ⟨B,1,none⟩ y).setCell ⟨B,2,none⟩ z) v r:=by
 rcases h with h | ⟨h1,b,h2,h3,h4,h5⟩
 ·exact .inl h
 ·have hne : b ≠ B := by
   intro e;subst e;rw [h4] at h0;cases h0
  have hf:∀ o,(((w.setCell ⟨B,0,none⟩ x).setCell ⟨B,1,none⟩ y).setCell ⟨B,2,none⟩ z).cell? ⟨b,o,none⟩=w.cell? ⟨b,o,none⟩:=fun o=>by
   rw [Er _ _ _ _ (by simp),Er _ _ _ _ (by simp),Er _ _ _ _ (by simp)]
  exact .inr ⟨h1,b,h2,by simpa using h3,(hf 0).trans h4,(hf 1).trans h5⟩
theorem qc (s:ByteArray) (a:Nat) (w:World) (hs:s.size≤1000000) (ha:a≤s.size) (hg:errT w) :
 Calls Tryz.prog 149 #[.string s,.int .i64 (a:Int)] w (lq w a (getT (s.data.toList.drop a))):=by
 have HG0:=hid (hg.alloc (.cells #[.string ⟨#[]⟩,.int .i64 0,.int .i64 0] 142));have HD:=hid (jx s a);have hdl:(s.data.toList.drop a).length=s.size-a:=by rw [Dj,←ac]
 have HM:Hid ((s.extract a s.size).size≤maxLen):=hid (show (s.extract a s.size).size≤maxLen by rw [DJ];unfold maxLen;omega);have d3:(0:Int)≤(a:Int):=by omega
 have d4:(a:Int)≤(s.size:Int):=by omega
 clear hg;rcases cu (s.data.toList.drop a) with ⟨e,hg,he⟩ | ⟨n,k,hg,hn,hk1,hk2,hk3⟩
 ·rw [m8 hg he];have HGL:Hid (getL (s.extract a s.size).data.toList=(0,0,e)):=hid (show getL (s.extract a s.size).data.toList=(0,0,e) by rw [HD.out];exact hg);have HE:=hid he;clear hg he hdl;go_enter Tryz.func149,Tryz.ntmps149
  go_wp2_with fail
  refine (mi _ _ HM.out e HGL.out HE.out).mono ?_;rintro r w' ⟨rfl,rfl⟩;go_wp2_with fail
  refine (ii _ e a _ HG0.out (.inl rfl) HE.out).mono ?_;rintro r w1 ⟨err,rfl,hat,hb1⟩;have HAT:=hid hat;have hl1:w.heap.size<w1.heap.size:=Dv (by simp) hb1.size;clear hat;have d0:w1.cell? ⟨w.heap.size,0,none⟩=some (.string ⟨#[]⟩):=(hb1.cell (by simp)).trans (by simp);have d1:w1.cell? ⟨w.heap.size,1,none⟩=some (.int .i64 0):=(hb1.cell (by simp)).trans (by simp);have d2:w1.cell? ⟨w.heap.size,2,none⟩=some (.int .i64 0):=(hb1.cell (by simp)).trans (by simp);have g0:w1.frozen? ⟨w.heap.size,0,none⟩=false:=(hb1.frozen (by simp)).trans (by simp);have g1:w1.frozen? ⟨w.heap.size,1,none⟩=false:=(hb1.frozen (by simp)).trans (by simp);have g2:w1.frozen? ⟨w.heap.size,2,none⟩=false:=(hb1.frozen (by simp)).trans (by simp);have HB1:Hid (Below w.heap.size w w1):=((Below.refl _ _).alloc (Db _) _).trans (hb1.mono (by simp));clear hb1;go_wp2;refine Dc (v:=.tuple #[.agg #[.string ⟨#[]⟩,.int .i64 0,.int .i64 0],.int .i64 0,err]) (by simp [results,Tryz.results149,go_sem,d0,d1,d2]) rfl ?_;exact i8 (by omega) _ _ _ _ ⟨_,rfl,HAT.out.set3 d0 _ _ _,((HB1.out.setCell (Db _) _).setCell (Db _) _).setCell (Db _) _⟩
 ·rw [hdl] at hk3;have HGL:Hid (getL (s.extract a s.size).data.toList=(n,k,0)):=hid (show getL (s.extract a s.size).data.toList=(n,k,0) by rw [HD.out];exact hg);have HEQ:Hid (a+(s.size-a)=s.size):=hid (show a+(s.size-a)=s.size by omega);by_cases h2:n % 2=0
  ·have b2:((n:Int) % 2 == 0)=true:=by simp;omega
   by_cases h0:n=0
   ·subst h0;rw [mc hg];clear hg hdl h2 b2;go_enter Tryz.func149,Tryz.ntmps149
    go_wp2_with fail
    refine (dm _ _ HM.out 0 k HGL.out).mono ?_;rintro r w' ⟨rfl,rfl⟩;go_wp2_with fail
    refine (ii _ 3 a _ HG0.out (.inl rfl) (by decide)).mono ?_;rintro r w1 ⟨err,rfl,hat,hb1⟩;have HAT:=hid hat;have hl1:w.heap.size<w1.heap.size:=Dv (by simp) hb1.size;clear hat;have d0:w1.cell? ⟨w.heap.size,0,none⟩=some (.string ⟨#[]⟩):=(hb1.cell (by simp)).trans (by simp);have d1:w1.cell? ⟨w.heap.size,1,none⟩=some (.int .i64 0):=(hb1.cell (by simp)).trans (by simp);have d2:w1.cell? ⟨w.heap.size,2,none⟩=some (.int .i64 0):=(hb1.cell (by simp)).trans (by simp);have g0:w1.frozen? ⟨w.heap.size,0,none⟩=false:=(hb1.frozen (by simp)).trans (by simp);have g1:w1.frozen? ⟨w.heap.size,1,none⟩=false:=(hb1.frozen (by simp)).trans (by simp);have g2:w1.frozen? ⟨w.heap.size,2,none⟩=false:=(hb1.frozen (by simp)).trans (by simp);have HB1:Hid (Below w.heap.size w w1):=((Below.refl _ _).alloc (Db _) _).trans (hb1.mono (by simp));clear hb1;go_wp2;refine Dc (v:=.tuple #[.agg #[.string ⟨#[]⟩,.int .i64 0,.int .i64 0],.int .i64 0,err]) (by simp [results,Tryz.results149,go_sem,d0,d1,d2]) rfl ?_;exact i8 (by omega) _ _ _ _ ⟨_,rfl,HAT.out.set3 d0 _ _ _,((HB1.out.setCell (Db _) _).setCell (Db _) _).setCell (Db _) _⟩
   ·have b3:((n:Int) / 2 == 0)=false:=by simp;omega
    by_cases hl:s.size-a<k+n / 2
    ·rw [m7 hg h2 h0 (by rw [hdl];exact hl),hdl];have d5:(s.size:Int)-((a:Int)+(k:Int))<(n:Int) / 2:=by omega
     have d6:0≤(s.size:Int)-((a:Int)+(k:Int)):=by omega
     clear hg hdl h2;go_enter Tryz.func149,Tryz.ntmps149
     go_wp2_with fail
     refine (dm _ _ HM.out n k HGL.out).mono ?_;rintro r w' ⟨rfl,rfl⟩;go_wp2_with fail
     refine (ii _ 7 s.size _ HG0.out (.inl rfl) (by decide)).mono ?_;rintro r w1 ⟨err,rfl,hat,hb1⟩;have HAT:=hid hat;have hl1:w.heap.size<w1.heap.size:=Dv (by simp) hb1.size;clear hat;have d0:w1.cell? ⟨w.heap.size,0,none⟩=some (.string ⟨#[]⟩):=(hb1.cell (by simp)).trans (by simp);have d1:w1.cell? ⟨w.heap.size,1,none⟩=some (.int .i64 0):=(hb1.cell (by simp)).trans (by simp);have d2:w1.cell? ⟨w.heap.size,2,none⟩=some (.int .i64 0):=(hb1.cell (by simp)).trans (by simp);have g0:w1.frozen? ⟨w.heap.size,0,none⟩=false:=(hb1.frozen (by simp)).trans (by simp);have g1:w1.frozen? ⟨w.heap.size,1,none⟩=false:=(hb1.frozen (by simp)).trans (by simp);have g2:w1.frozen? ⟨w.heap.size,2,none⟩=false:=(hb1.frozen (by simp)).trans (by simp);have HB1:Hid (Below w.heap.size w w1):=((Below.refl _ _).alloc (Db _) _).trans (hb1.mono (by simp));clear hb1;go_wp2;refine Dc (v:=.tuple #[.agg #[.string ⟨#[]⟩,.int .i64 0,.int .i64 0],.int .i64 0,err]) (by simp [results,Tryz.results149,go_sem,d0,d1,d2]) rfl ?_;exact i8 (by rw [HEQ.out]) _ _ _ _ ⟨_,rfl,HAT.out.set3 d0 _ _ _,((HB1.out.setCell (Db _) _).setCell (Db _) _).setCell (Db _) _⟩
    ·obtain ⟨h,hh⟩:∃ h,h=n / 2:=⟨_,rfl⟩;obtain ⟨e,he⟩:∃ e,e=a+k+h:=⟨_,rfl⟩;have hD2:(s.extract (a+k) e).data.toList=((s.data.toList.drop a).drop k).take h:=by
      rw [cE,Dy,List.drop_take,he];congr 1;omega
     rw [ma hg h2 h0 (by rw [hdl];exact hl),←hh];rw [show (⟨⟨(((s.data.toList.drop a).drop k).take h).toArray⟩,0,0⟩:Tok)=⟨s.extract (a+k) e,0,0⟩ by rw [←hD2,bF]];obtain ⟨q,hq⟩:∃ q,q=a+k:=⟨_,rfl⟩;rw [←hq] at hD2 he ⊢;have d7:(n:Int) / 2=(h:Int):=by omega
     have d9:(a:Int)+(k:Int)=(q:Int):=by omega
     have d8:(q:Int)+(h:Int)=(e:Int):=by omega
     have b4:((h:Int) == 0)=false:=by simp;omega
     have d5:¬ ((s.size:Int)-(q:Int)<(h:Int)):=by omega
     have d6:0≤(s.size:Int)-(q:Int):=by omega
     have dA:(e:Int)≤(s.size:Int):=by omega
     have dB:(q:Int)≤(e:Int):=by omega
     have hh2:(h:Int)≤1000000:=by omega
     have HPL:Hid (((a+(k+h):Nat):Int)=(e:Int)):=hid (show ((a+(k+h):Nat):Int)=(e:Int) by omega);have HCZ:Hid ((s.extract q e).size≤140737488351232):=hid (show (s.extract q e).size≤140737488351232 by rw [DJ];omega);clear hg hdl h2 hh he hD2 hq b3;go_enter Tryz.func149,Tryz.ntmps149
     go_wp2_with fail
     refine (dm _ _ HM.out n k HGL.out).mono ?_;rintro r w' ⟨rfl,rfl⟩;go_wp2_with fail
     refine (lM _ _ HCZ.out).mono ?_;rintro r w1 ⟨rfl,hb1⟩;have d0:w1.cell? ⟨w.heap.size,0,none⟩=some (.string ⟨#[]⟩):=(hb1.cell (by simp)).trans (by simp);have d1:w1.cell? ⟨w.heap.size,1,none⟩=some (.int .i64 0):=(hb1.cell (by simp)).trans (by simp);have d2:w1.cell? ⟨w.heap.size,2,none⟩=some (.int .i64 0):=(hb1.cell (by simp)).trans (by simp);have g0:w1.frozen? ⟨w.heap.size,0,none⟩=false:=(hb1.frozen (by simp)).trans (by simp);have g1:w1.frozen? ⟨w.heap.size,1,none⟩=false:=(hb1.frozen (by simp)).trans (by simp);have g2:w1.frozen? ⟨w.heap.size,2,none⟩=false:=(hb1.frozen (by simp)).trans (by simp);have HB1:Hid (Below w.heap.size w w1):=((Below.refl _ _).alloc (Db _) _).trans (hb1.mono (by simp));clear hb1;go_wp2;refine Dc (v:=.tuple #[.agg #[.string (s.extract q e),.int .i64 0,.int .i64 0],.int .i64 (e:Int),.nilIface]) (by simp [results,Tryz.results149,go_sem,d0,d1,d2]) rfl ?_;exact pC HPL.out rfl _ _ _ ⟨rfl,((HB1.out.setCell (Db _) _).setCell (Db _) _).setCell (Db _) _⟩
  ·have b2:((n:Int) % 2 == 0)=false:=by simp;omega
   by_cases hb:63<n / 2
   ·rw [m6 hg h2 hb];have d5:63<(n:Int) / 2:=by omega
    clear hg hdl h2;go_enter Tryz.func149,Tryz.ntmps149
    go_wp2_with fail
    refine (dm _ _ HM.out n k HGL.out).mono ?_;rintro r w' ⟨rfl,rfl⟩;go_wp2_with fail
    refine (ii _ 2 a _ HG0.out (.inl rfl) (by decide)).mono ?_;rintro r w1 ⟨err,rfl,hat,hb1⟩;have HAT:=hid hat;have hl1:w.heap.size<w1.heap.size:=Dv (by simp) hb1.size;clear hat;have d0:w1.cell? ⟨w.heap.size,0,none⟩=some (.string ⟨#[]⟩):=(hb1.cell (by simp)).trans (by simp);have d1:w1.cell? ⟨w.heap.size,1,none⟩=some (.int .i64 0):=(hb1.cell (by simp)).trans (by simp);have d2:w1.cell? ⟨w.heap.size,2,none⟩=some (.int .i64 0):=(hb1.cell (by simp)).trans (by simp);have g0:w1.frozen? ⟨w.heap.size,0,none⟩=false:=(hb1.frozen (by simp)).trans (by simp);have g1:w1.frozen? ⟨w.heap.size,1,none⟩=false:=(hb1.frozen (by simp)).trans (by simp);have g2:w1.frozen? ⟨w.heap.size,2,none⟩=false:=(hb1.frozen (by simp)).trans (by simp);have HB1:Hid (Below w.heap.size w w1):=((Below.refl _ _).alloc (Db _) _).trans (hb1.mono (by simp));clear hb1;go_wp2;refine Dc (v:=.tuple #[.agg #[.string ⟨#[]⟩,.int .i64 0,.int .i64 0],.int .i64 0,err]) (by simp [results,Tryz.results149,go_sem,d0,d1,d2]) rfl ?_;exact i8 (by omega) _ _ _ _ ⟨_,rfl,HAT.out.set3 d0 _ _ _,((HB1.out.setCell (Db _) _).setCell (Db _) _).setCell (Db _) _⟩
   ·obtain ⟨q,hq⟩:∃ q,q=a+k:=⟨_,rfl⟩;obtain ⟨h,hh⟩:∃ h,h=n / 2:=⟨_,rfl⟩;have d7:(n:Int) / 2=(h:Int):=by omega
    have d9:(a:Int)+(k:Int)=(q:Int):=by omega
    have d5:(h:Int)≤63:=by omega
    have dA:(q:Int)≤(s.size:Int):=by omega
    have dB:(0:Int)≤(q:Int):=by omega
    have hE2:(s.data.toList.drop a).drop k=(s.extract q s.size).data.toList:=by rw [jx,Dy,hq]
    have HM2:Hid ((s.extract q s.size).size≤maxLen):=hid (show (s.extract q s.size).size≤maxLen by rw [DJ];unfold maxLen;omega);rcases lJ ((s.data.toList.drop a).drop k) with ⟨e,hk,he⟩ | ⟨m,j,hk,hm,hm2⟩
    ·rw [m5 hg h2 hb hk he];rw [hE2] at hk;have HK:=hid hk;have HE:=hid he;have HPL:Hid (((a+k:Nat):Int)=(q:Int)):=hid (show ((a+k:Nat):Int)=(q:Int) by omega);clear hg hdl h2 hh hE2 hk he hq hb;go_enter Tryz.func149,Tryz.ntmps149
     go_wp2_with fail
     refine (dm _ _ HM.out n k HGL.out).mono ?_;rintro r w' ⟨rfl,rfl⟩;go_wp2_with fail
     refine (wL _ _ HM2.out e HK.out HE.out).mono ?_;rintro r w' ⟨rfl,rfl⟩;go_wp2_with fail
     refine (ii _ e q _ HG0.out (.inl rfl) HE.out).mono ?_;rintro r w1 ⟨err,rfl,hat,hb1⟩;have HAT:=hid hat;have hl1:w.heap.size<w1.heap.size:=Dv (by simp) hb1.size;clear hat;have d0:w1.cell? ⟨w.heap.size,0,none⟩=some (.string ⟨#[]⟩):=(hb1.cell (by simp)).trans (by simp);have d1:w1.cell? ⟨w.heap.size,1,none⟩=some (.int .i64 0):=(hb1.cell (by simp)).trans (by simp);have d2:w1.cell? ⟨w.heap.size,2,none⟩=some (.int .i64 0):=(hb1.cell (by simp)).trans (by simp);have g0:w1.frozen? ⟨w.heap.size,0,none⟩=false:=(hb1.frozen (by simp)).trans (by simp);have g1:w1.frozen? ⟨w.heap.size,1,none⟩=false:=(hb1.frozen (by simp)).trans (by simp);have g2:w1.frozen? ⟨w.heap.size,2,none⟩=false:=(hb1.frozen (by simp)).trans (by simp);have HB1:Hid (Below w.heap.size w w1):=((Below.refl _ _).alloc (Db _) _).trans (hb1.mono (by simp));clear hb1;go_wp2;refine Dc (v:=.tuple #[.agg #[.string ⟨#[]⟩,.int .i64 0,.int .i64 0],.int .i64 0,err]) (by simp [results,Tryz.results149,go_sem,d0,d1,d2]) rfl ?_;exact i8 HPL.out _ _ _ _ ⟨_,rfl,HAT.out.set3 d0 _ _ _,((HB1.out.setCell (Db _) _).setCell (Db _) _).setCell (Db _) _⟩
    ·rw [mb hg h2 hb hk,←hh];have hj:=fD hm;rw [Dj,hdl] at hj;rw [hE2] at hk;have HK:=hid hk;have hj2:(j:Int)≤1000000:=by omega
     have HPL:Hid (((a+(k+j):Nat):Int)=(q:Int)+(j:Int)):=hid (show ((a+(k+j):Nat):Int)=(q:Int)+(j:Int) by omega);have HTV:Hid (tokV (repT (m+1) (h+4))=.agg #[.string ⟨#[]⟩,.int .i64 ((m:Int)+1),.int .i64 ((h:Int)+4)]):=hid (show tokV (repT (m+1) (h+4))=.agg #[.string ⟨#[]⟩,.int .i64 ((m:Int)+1),.int .i64 ((h:Int)+4)] by unfold tokV repT;simp);clear hg hdl h2 hh hE2 hk hq hb hj hm;go_enter Tryz.func149,Tryz.ntmps149
     go_wp2_with fail
     refine (dm _ _ HM.out n k HGL.out).mono ?_;rintro r w' ⟨rfl,rfl⟩;go_wp2_with fail
     refine (wM _ _ HM2.out m j HK.out).mono ?_;rintro r w' ⟨rfl,rfl⟩;go_wp2;refine Dc (v:=.tuple #[.agg #[.string ⟨#[]⟩,.int .i64 ((m:Int)+1),.int .i64 ((h:Int)+4)],.int .i64 ((q:Int)+(j:Int)),.nilIface]) (by simp [results,Tryz.results149,go_sem]) rfl ?_;exact pC HPL.out HTV.out _ _ _ ⟨rfl,(Below.refl _ _).alloc (Db _) _⟩
end
section
open Go.RowKit
def ts (w:World) (l:List Tok) (e:Ending) (w':World):Prop :=
 ∃ err,e=.returned (.tuple #[.string ⟨(bR l).toArray⟩,err])∧atIs w' err (a8 l 0 0)∧Below w.heap.size w w'
theorem xB (v:Value) (l:List Tok) (w:World) (hv:bX w v l) (hl:l.length≤9223372036854775807) (hz:∀ t∈l,t.own.size≤140737488351232) :
 Calls Tryz.prog 140 #[v] w (ts w l):=by
 have HV:=hid hv;have HLL:=hid hl;have HZ:=hid hz;by_cases hr:(a8 l 0 0).1=0
 ·have HR:=hid (fM hr);have HW:Hid (bR l=aZ l):=by
   have h:bR l=aZ l:=by unfold bR;rw [if_pos hr]
   exact h
  have HF:=hid (mU hr);obtain ⟨hfew,hcost,hsum⟩:=gr hr;have HC:=hid hcost;have HSZ:Hid (∀ t∈l,t.own.size≤20000):=by
   have h:∀ t∈l,t.own.size≤20000:=kj hr;exact h
  obtain ⟨a1,c1,rfl,f1⟩:=hv.form;have F1:=hid f1;obtain ⟨n,hn⟩:∃ n,n=l.length:=⟨_,rfl⟩;rw [←hn] at hl hfew ⊢ HV;have HN:=hid hn;have HR0:=hid hr;clear hv f1 hn hz hr hcost hsum;go_enter Tryz.func140,Tryz.ntmps140
  go_wp2_with fail
  refine (gq _ l _ HV.out HLL.out HZ.out).mono ?_;rintro r w0 ⟨err,rfl,hat,hb0⟩;obtain rfl:err=.nilIface:=by
   rcases hat with ⟨_,h⟩ | ⟨h,_⟩
   ·exact h
   ·exact absurd HR0.out h
  have HB0:=hid hb0;have hsz0:=hb0.size;clear hat hb0;go_wp2;obtain ⟨B,hB⟩:∃ B,B=w0.heap.size:=⟨_,rfl⟩;have HBN:Hid (b6 (w0.alloc (.cells #[.pointer none,.slice none 0 0] 184)) w.heap.size B []):=by
   have h:=oM w0 w.heap.size hsz0;rw [←hB] at h;exact h
  rw [←hB];have HBB:=hid hB;clear hB
  go_loopw [15] (fun i wr=>∃ k:Nat,k≤n∧i=.int .i64 k∧b6 wr w.heap.size B (aZ (l.take k))∧Below w.heap.size w wr) (fun i _=>n-(intOf i).toNat)
  case atStart=>exact ⟨0,by omega,rfl,HBN.out,HB0.out.alloc hsz0 _⟩
  case round =>
   obtain ⟨k,hk,rfl,hbl,hbel⟩:=hrel;have HBL:=hid hbl;have HB:=hid hbel;clear hbl hbel;by_cases hlt:k<n
   ·obtain ⟨t, ht⟩ : ∃ t, l[k]? = some t := ⟨l[k]'(by have := HN.out; omega), Di _⟩;obtain ⟨b1,o1,rfl,hb1,p0,p1,p2⟩:=F1.out k t ht;have HSN:=hid (sV l k t ht);have HTF:Hid (fine t):=(HF.out t (DB ht)).1;have HTS:Hid (t.own.size≤20000):=HSZ.out t (DB ht);have HTC:Hid (tokV t=.agg #[.string t.own,.int .i64 t.back,.int .i64 t.size]):=rfl;have HCT:Hid ((aZ (l.take k)).length+(putT t).length≤220000):=by
     have h:(aZ (l.take k)).length+(putT t).length≤220000:=by
      have h1:=pc (l:=l) (k+1);unfold cost at h1;rw [HSN.out,Df] at h1;have:=HC.out;unfold cost at this;omega
     exact h
    obtain ⟨own,back,size⟩:=t;simp only at p0 p1 p2
    have q0:=(HB.out.cell (p:=⟨b1,o1+k * 3,none⟩) hb1).trans p0;have q1:=(HB.out.cell (p:=⟨b1,o1+k * 3+1,none⟩) hb1).trans p1;have q2:=(HB.out.cell (p:=⟨b1,o1+k * 3+2,none⟩) hb1).trans p2;have hzr:=HB.out.size;clear p0 p1 p2 ht;go_wp2_with fail
    refine (xx ⟨own,back,size⟩ _ HTF.out HTS.out).mono ?_;rintro r w1 ⟨rfl,hb1'⟩;have HBL1:=hid ((HBL.out.alloc (.cells #[.string own,.int .i64 back,.int .i64 size] 142)).below hb1');have HB1:Hid (Below w.heap.size w w1):=(HB.out.alloc hzr _).trans (hb1'.mono (by simp;omega));have hzr1:=HB1.out.size;clear hb1' q0 q1 q2;go_wp2_with fail
    refine (ud w.heap.size B _ _ _ HBL1.out (by rw [bm];have:=HCT.out;omega) hzr1).mono ?_;rintro r w2 ⟨rfl,hbl2,hb2⟩;have HBL2:Hid (b6 w2 w.heap.size B (aZ (l.take (k+1)))):=by
     have h:b6 w2 w.heap.size B (aZ (l.take (k+1))):=by rw [HSN.out];exact hbl2
     exact h
    have HB2:=hid (HB1.out.trans hb2);clear hbl2 hb2;go_wp2;go_roundw
    case rel=>exact ⟨k+1,by omega,by go_num,HBL2.out,HB2.out⟩
    case measure=>simp [intOf];omega
   ·have hkn:k=n:=by omega
    have HBL':Hid (b6 wr w.heap.size B (bR l)):=by
     have h:b6 wr w.heap.size B (bR l):=by
      have h:=HBL.out;rw [hkn,HN.out,ES] at h;rw [HW.out];exact h
     exact h
    have hzr:=HB.out.size;clear hkn;go_wp2_with fail
    refine (oN w.heap.size B _ _ HBL'.out hzr).mono ?_;rintro r w1 ⟨rfl,hb1⟩;have HB1:=hid (HB.out.trans hb1);clear hb1;go_wp2;go_ret2;exact ⟨.nilIface,rfl,.inl ⟨HR.out,rfl⟩,HB1.out⟩
 ·have HW : Hid (bR l = []) := by
   have h:bR l=[]:=by unfold bR;rw [if_neg hr]
   exact h
  have HR0:=hid hr;obtain ⟨a1,c1,rfl,f1⟩:=hv.form;clear hv hz hr f1;go_enter Tryz.func140,Tryz.ntmps140
  go_wp2_with fail
  refine (gq _ l _ HV.out HLL.out HZ.out).mono ?_;rintro r w0 ⟨err,rfl,hat,hb0⟩;have HAT:=hid hat;have HB0:=hid hb0;clear hb0;obtain ⟨t,u,rfl⟩:∃ t u,err=.iface t u:=by
   rcases hat with ⟨h,_⟩ | ⟨_,b,h,_⟩
   ·exact absurd (by rw [h]) HR0.out
   ·exact ⟨_,_,h⟩
  clear hat;go_wp2;go_ret2;exact ⟨_,by rw [HW.out];rfl,HAT.out,HB0.out⟩
end
