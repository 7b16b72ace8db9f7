import Derived.Test.YtagoidpkbloflaaGreatDoorKlq
import Derived.Test.YtagoidpkbloflaaGreatDoorKl07
namespace Go.Proofs.YtagoidpkbloflaaGreatDoor
open Lib (hid)
set_option maxRecDepth 100000
set_option maxHeartbeats 8000000
section
open Go.RowKit
theorem mJ (s:List UInt8):Lib.hasPrefix s [80,84]=true↔s.take 2=[80,84]:=by
 unfold Lib.hasPrefix;rw [List.isPrefixOf_iff_prefix]
 constructor
 ·rintro ⟨r,rfl⟩;rfl
 ·intro h;exact ⟨s.drop 2,by rw [←h,EE]⟩
theorem qK {s:List UInt8} (h:s.take 2≠[80,84]):Lib.hasPrefix s [80,84]=false:=by
 cases hb:Lib.hasPrefix s [80,84] with
 | false=>rfl
 | true=>exact absurd ((mJ s).1 hb) h
def opnV (r:Nat×List UInt8×Nat):Value:=.tuple #[.int .i64 (r.1:Nat),.string ⟨r.2.1.toArray⟩,errC r.2.2]
theorem dO {e:Nat} (h:e≠0):errC e=.iface 26 (.int .i64 e):=by unfold errC;rw [if_neg h]
theorem bu:errC 0=.nilIface:=rfl
theorem vQ (s:ByteArray) (w:World) (hs:s.size≤140737488351232) :
 Calls Tryz.prog 40 #[.string s] w fun e w'=>e=.returned (opnV (opnF s.data.toList))∧Below w.heap.size w w':=by
 have hl:s.size=s.data.toList.length:=ac s;by_cases h8:s.size<8
 ·have h:opnF s.data.toList=(0,[],7):=io (by rw [←hl];exact h8);rw [h];have h8i:(s.size:Int)<8:=by omega
  clear h hl;go_enter Tryz.func40,Tryz.ntmps40
  go_wp2;go_ret3;exact ⟨rfl,Below.refl _ _⟩
 ·have h8l:¬ s.data.toList.length<8:=by rw [←hl];exact h8
  have h8i:8≤(s.size:Int):=by omega
  by_cases hp:s.data.toList.take 2=[80,84]
  ·have HPB:Hid (Lib.hasPrefix s.data.toList [80,84]=true):=hid ((mJ _).2 hp);have hsz:2<s.size:=by omega
   obtain ⟨c, hc⟩ : ∃ c : UInt8, s[2]'hsz = c := ⟨_, rfl⟩;have hwr:wrap64 (c.toNat:Int)=(c.toNat:Int):=IntWalk.wrap64_in _ (by have:=c.toNat_lt;omega);have hcd:s.data.toList.getD 2 0=c:=by
    rw [DN,Di (by omega),Option.getD_some,←hc];rfl
   by_cases hv:c.toNat<1∨3<c.toNat
   ·have h:opnF s.data.toList=(0,[],8):=iq h8l hp (by rw [hcd];exact hv);rw [h];clear h hl hp hcd;rcases hv with hv | hv
    ·have hvi:(c.toNat:Int)<1:=by omega
     go_enter Tryz.func40,Tryz.ntmps40
     go_wp2_with fail
     refine (Tryz.strings_HasPrefix s _ w).mono ?_;rintro r w1 ⟨rfl,rfl⟩;rw [HPB.out];go_wp2;go_ret3;exact ⟨rfl,Below.refl _ _⟩
    ·have hvi:3<(c.toNat:Int):=by omega
     have hvj:1≤(c.toNat:Int):=by omega
     go_enter Tryz.func40,Tryz.ntmps40
     go_wp2_with fail
     refine (Tryz.strings_HasPrefix s _ w).mono ?_;rintro r w1 ⟨rfl,rfl⟩;rw [HPB.out];go_wp2;go_ret3;exact ⟨rfl,Below.refl _ _⟩
   ·have hv1:1≤(c.toNat:Int):=by omega
    have hv2:(c.toNat:Int)≤3:=by omega
    obtain ⟨o,e,hop⟩:∃ o e,aF s.data.toList=(o,e):=⟨_,_,rfl⟩;have HO:Hid (fc (aF s.data.toList)=.tuple #[.string ⟨o.toArray⟩,errC e]):=hid (by show fc _=_;rw [hop];rfl);by_cases he:e=0
    ·subst he;have h:opnF s.data.toList=(c.toNat,o.drop 3,0):=by rw [ir h8l hp (by rw [hcd];exact hv) (by rw [hop]),hcd,hop]
     rw [h];obtain ⟨O,hO⟩:∃ O:ByteArray,(⟨o.toArray⟩:ByteArray)=O:=⟨_,rfl⟩;have hOd:o=O.data.toList:=by rw [←hO]
     have hoz:O.size=s.size-4:=by
      unfold aF at hop;split at hop
      ·injection hop with _ h2;cases h2
      ·split at hop
       ·injection hop with h1 _;rw [ac,←hOd,←h1,DK];omega
       ·injection hop with _ h2;cases h2
     have hO3:3≤(O.size:Int):=by omega
     have HR:Hid (opnV (c.toNat,o.drop 3,0)=.tuple #[.int .i64 (c.toNat:Nat),.string (O.extract 3 O.size),.nilIface]):=hid (by
      have e1:(⟨(o.drop 3).toArray⟩:ByteArray)=O.extract 3 O.size:=bY (by
       rw [dP,←hOd,DL (by rw [Dj,hOd,←ac];omega)])
      show Value.tuple #[.int .i64 (c.toNat:Nat),.string ⟨(o.drop 3).toArray⟩,errC 0]=_
      rw [e1];rfl)
     rw [hO] at HO;have HO3:=hid hoz;clear h hl hp hcd hop hO hOd hoz;go_enter Tryz.func40,Tryz.ntmps40
     go_wp2_with fail
     refine (Tryz.strings_HasPrefix s _ w).mono ?_;rintro r w1 ⟨rfl,rfl⟩;rw [HPB.out];go_wp2_with fail
     refine (qt s _ hs).mono ?_;rintro r w2 ⟨rfl,hb2⟩;rw [HO.out,bu];have HB2:=hid hb2;clear hb2;go_wp2;go_region
     go_wp2;go_ret3;exact ⟨by rw [HR.out];rfl,HB2.out.drew⟩
    ·have h:opnF s.data.toList=(0,[],e):=iu h8l hp (by rw [hcd];exact hv) (by rw [hop]) he;rw [h];have HR:Hid (opnV (0,[],e)=.tuple #[.int .i64 0,.string ⟨#[]⟩,.iface 26 (.int .i64 e)]):=hid (by unfold opnV;rw [dO he];rfl);rw [dO he] at HO;clear h hl hp hcd hop;go_enter Tryz.func40,Tryz.ntmps40
     go_wp2_with fail
     refine (Tryz.strings_HasPrefix s _ w).mono ?_;rintro r w1 ⟨rfl,rfl⟩;rw [HPB.out];go_wp2_with fail
     refine (qt s _ hs).mono ?_;rintro r w2 ⟨rfl,hb2⟩;rw [HO.out];have HB2:=hid hb2;clear hb2;go_wp2;go_ret3;exact ⟨by rw [HR.out];rfl,HB2.out⟩
  ·have HPB:Hid (Lib.hasPrefix s.data.toList [80,84]=false):=hid (qK hp);have h:opnF s.data.toList=(0,[],5):=ip h8l hp;rw [h];clear h hl hp;go_enter Tryz.func40,Tryz.ntmps40
   go_wp2_with fail
   refine (Tryz.strings_HasPrefix s _ w).mono ?_;rintro r w1 ⟨rfl,rfl⟩;rw [HPB.out];go_wp2;go_ret3;exact ⟨rfl,Below.refl _ _⟩
theorem fA (s I:ByteArray) (v e:Nat) (w:World) (hs:s.size≤140737488351232) (h:opnF s.data.toList=(v,I.data.toList,e)) :
 Calls Tryz.prog 40 #[.string s] w fun r w'=>r=.returned (.tuple #[.int .i64 (v:Int),.string I,errC e])∧Below w.heap.size w w':=by
 have h1:=vQ s w hs;rw [h] at h1;unfold opnV at h1;simp only [bF] at h1
 exact h1
theorem eI (s I:ByteArray) (v e:Nat) (w:World) (hs:s.size≤140737488351232) (h:opnF s.data.toList=(v,I.data.toList,e)) :
 Calls Tryz.prog 15 #[.string s] w fun r w'=>r=.returned (.tuple #[.int .i64 (v:Int),errC e])∧Below w.heap.size w w':=by
 have H:=hid h;obtain ⟨q,hq⟩:∃ q,errC e=q:=⟨_,rfl⟩;have HQ:=hid hq;rw [hq];clear h hq;go_enter Tryz.func15,Tryz.ntmps15
 go_wp2_with fail
 refine (fA s I v e _ hs H.out).mono ?_;rintro r w1 ⟨rfl,hb1⟩;rw [HQ.out];have HB1:=hid hb1;clear hb1;go_wp2;go_ret2;exact ⟨rfl,HB1.out⟩
theorem ib (s I:ByteArray) (v e:Nat) (w:World) (hs:s.size≤140737488351232) (h:opnF s.data.toList=(v,I.data.toList,e)) :
 Calls Tryz.prog 43 #[.string s] w fun r w'=>r=.returned (.tuple #[.string I,errC e])∧Below w.heap.size w w':=by
 have H:=hid h;obtain ⟨q,hq⟩:∃ q,errC e=q:=⟨_,rfl⟩;have HQ:=hid hq;rw [hq];clear h hq;go_enter Tryz.func43,Tryz.ntmps43
 go_wp2_with fail
 refine (fA s I v e _ hs H.out).mono ?_;rintro r w1 ⟨rfl,hb1⟩;rw [HQ.out];have HB1:=hid hb1;clear hb1;go_wp2;go_ret2;exact ⟨rfl,HB1.out⟩
end
section
open Go.RowKit
theorem zy (n:Nat) (w:World):(convert 94 9 (.slice (some ⟨w.heap.size,0,none⟩) 1 1)).run Tryz.prog (w.alloc (.cells #[.int .u8 ((n:Int) % 256)] 5))=.ok (.string ⟨#[UInt8.ofNat n]⟩) (w.alloc (.cells #[.int .u8 ((n:Int) % 256)] 5)):=by
 refine EW _ _ _ _ _ _ [UInt8.ofNat n] Tryz.underlying94 Tryz.underlying5 Tryz.underlying9 fun j hj=>?_
 obtain rfl:j=0:=by simp at hj;omega
 have hadd:(⟨w.heap.size,0,none⟩:Addr).add 0=⟨w.heap.size,0,none⟩:=rfl;rw [hadd,Dd _ _ _ _ _ _ (Dg w _)];simp
def tk (s:ByteArray) (n k:Nat):ByteArray:=s++⟨((br n).take k).toArray⟩
theorem BA (s:ByteArray) (n:Nat):tk s n 0=s:=by apply bY;unfold tk;simp
theorem By (s:ByteArray) (n k:Nat):(tk s n k).size≤s.size+4:=by
 unfold tk;rw [DH];have:(⟨((br n).take k).toArray⟩:ByteArray).size=((br n).take k).length:=by show ((br n).take k).toArray.size=_;simp
 rw [this];have h2:((br n).take k).length≤4:=List.length_take_le' _ _;omega
theorem Bz (s:ByteArray) (n k:Nat) (h:k<4):tk s n k++⟨#[UInt8.ofNat (n / 256 ^ k)]⟩=tk s n (k+1):=by
 apply bY
 unfold tk;simp only [ByteArray.data_append,Array.toList_append,E3]
 congr 1
 match k,h with
 | 0,_=>simp [br]
 | 1,_=>simp [br]
 | 2,_=>simp [br]
 | 3,_=>simp [br]
theorem Bx (s:ByteArray):tk s (sum s.data.toList) 4=cS s:=rfl
theorem vj (n k:Nat):((n / 256 ^ k:Nat):Int) / 256=((n / 256 ^ (k+1):Nat):Int):=by
 rw [Eb,←EX];omega
theorem mR (s:ByteArray) (w:World) (hs:s.size≤1000000) :
 Calls Tryz.prog 21 #[.string s] w fun e w'=>e=.returned (.string (cS s))∧Below w.heap.size w w':=by
 have hl:=rN s.data.toList;obtain ⟨n,hn⟩:∃ n,n=sum s.data.toList:=⟨_,rfl⟩;have HN:=hid hn;rw [←hn] at hl;clear hn;go_enter Tryz.func21,Tryz.ntmps21
 go_wp2_with fail
 refine (zA _ _ hs).mono ?_;rintro e w' ⟨rfl,rfl⟩;rw [←HN.out];go_wp2
 go_loopw [0,3,6] (fun t m c wr=>∃ k:Nat,k≤4∧c=.int .i64 k∧t=.string (tk s n k)∧m=.int .u32 (n / 256 ^ k:Nat)∧Below w.heap.size w wr) (fun _ _ c _=>4-(intOf c).toNat)
 case atStart=>exact ⟨0,by omega,rfl,by rw [BA],by simp,Below.refl _ _⟩
 case round =>
  obtain ⟨k,hk,rfl,rfl,rfl,hb⟩:=hrel;have HB:=hid hb;clear hb;by_cases hlt:k<4
  ·have hcv:=zy (n / 256 ^ k) wr;have hz:=By s n k;have hd:=vj n k;have ht:=Bz s n k hlt;have hm:n / 256 ^ k<4294967296:=Nat.lt_of_le_of_lt (Nat.div_le_self _ _) hl;obtain ⟨m2,hm2⟩:∃ m2,n / 256 ^ (k+1)=m2:=⟨_,rfl⟩;rw [hm2] at hd;have HM2:=hid hm2;clear hm2;generalize n / 256 ^ k=m at *;go_wp2;go_roundw
   case rel=>exact ⟨k+1,by omega,by go_num,rfl,by rw [HM2.out],HB.out.alloc HB.out.size _⟩
   case measure=>simp [intOf];omega
  ·obtain rfl:k=4:=by omega
   have HT:Hid (tk s n 4=cS s):=by
    have h:tk s n 4=cS s:=by rw [HN.out];exact Bx s
    exact h
   go_wp2;go_ret;exact ⟨by rw [←HT.out];rfl,HB.out⟩
def et (r:List UInt8×Nat):Value:=.tuple #[.string ⟨r.1.toArray⟩,.int .i64 r.2]
theorem AF (s:ByteArray) (k:Nat):dI (s.data.toList.take k)=s.data.toList↔s.data.toList.drop k=br (sum (s.data.toList.take k)):=by
 unfold dI
 constructor
 ·intro h;have h2:s.data.toList.take k++br (sum (s.data.toList.take k))=s.data.toList.take k++s.data.toList.drop k:=by rw [h,EE]
  exact (List.append_cancel_left h2).symm
 ·intro h;rw [←h,EE]
theorem pn (s:ByteArray) (k:Nat):(s.extract 0 k).data.toList=s.data.toList.take k:=by rw [dP,E4,Nat.sub_zero]
theorem mQ (s:ByteArray) (w:World) (hs:s.size≤1000000) :
 Calls Tryz.prog 28 #[.string s] w fun e w'=>e=.returned (et (aF s.data.toList))∧Below w.heap.size w w':=by
 by_cases h4:s.size<4
 ·have h:aF s.data.toList=([],7):=by unfold aF;rw [if_pos (by simpa using h4)]
  rw [h];go_enter Tryz.func28,Tryz.ntmps28
  go_wp2;go_ret2;exact ⟨rfl,Below.refl _ _⟩
 ·obtain ⟨k,hk⟩:∃ k,s.size=k+4:=⟨s.size-4,by omega⟩;have e1:(s.size:Int)-4=(k:Int):=by omega
  have e2:(0:Int)≤(k:Int):=by omega
  have e3:(k:Int)≤(s.size:Int):=by omega
  have hk2:k≤s.size:=by omega
  have HZ:Hid ((s.extract 0 k).size≤1000000):=by
   have h:(s.extract 0 k).size≤1000000:=by simp;omega
   exact h
  obtain ⟨_,t2,t3⟩:=qu s k hk;have hst:=AF s k;by_cases hq:s.data.toList.drop k=br (sum (s.data.toList.take k))
  ·have HO : Hid (et (aF s.data.toList) = .tuple #[.string (s.extract 0 k), .int .i64 0]) := by
    have h:aF s.data.toList=(s.data.toList.take k,0):=by
     unfold aF;rw [if_neg t3,t2,if_pos hq]
    show et _=_
    rw [h];unfold et;rw [rW];rfl
   have HS:Hid (cS (s.extract 0 k)=s):=by
    have h:cS (s.extract 0 k)=s:=by apply bY;rw [kx,pn];exact hst.2 hq
    exact h
   clear hq t2 t3 hk hst;go_enter Tryz.func28,Tryz.ntmps28
   go_wp2_with fail
   refine (mR _ _ HZ.out).mono ?_;rintro r w1 ⟨rfl,hb1⟩;rw [HS.out];have HB:=hid hb1;clear hb1;go_wp2;go_ret2;exact ⟨by rw [HO.out];rfl,HB.out⟩
  ·have HO : Hid (et (aF s.data.toList) = .tuple #[.string ⟨#[]⟩, .int .i64 15]) := by
    have h:aF s.data.toList=([],15):=by
     unfold aF;rw [if_neg t3,t2,if_neg hq]
    show et _=_
    rw [h]
    rfl
   have hne:¬ cS (s.extract 0 k)=s:=fun h=>hq (hst.1 (by have h2:=congrArg (fun b:ByteArray=>b.data.toList) h;rw [kx,pn] at h2;exact h2))
   have hb1:((cS (s.extract 0 k)).toList == s.toList)=false:=EB.2 (fun h=>hne (bY (by rw [←toL,←toL];exact h)));clear hq t2 t3 hk hst hne;go_enter Tryz.func28,Tryz.ntmps28
   go_wp2_with fail
   refine (mR _ _ HZ.out).mono ?_;rintro r w1 ⟨rfl,hbw⟩;have HB:=hid hbw;clear hbw;go_wp2;go_ret2;exact ⟨by rw [HO.out];rfl,HB.out⟩
end
section
open Go.RowKit
theorem zH (v1 v2:Value) (l m:List Ent) (w:World) (h1:ae w v1 l) (h2:ae w v2 m) (hl:l.length≤9223372036854775807) (hm:m.length≤9223372036854775807) :
 Calls Tryz.prog 24 #[v1,v2] w fun e w'=>e=.returned (.bool (decide (l=m)))∧∃ q,w'=w.drewN q:=by
 obtain ⟨a1,c1,rfl,f1⟩:=h1.form;obtain ⟨a2,c2,rfl,f2⟩:=h2.form;have F1:=hid f1;have F2:=hid f2;obtain ⟨n,hn⟩:∃ n,n=l.length:=⟨_,rfl⟩;obtain ⟨n2,hn2⟩:∃ n,n=m.length:=⟨_,rfl⟩;rw [←hn] at hl ⊢;rw [←hn2] at hm ⊢;have HN:=hid hn;have HN2:=hid hn2;clear h1 h2 f1 f2 hn hn2;by_cases hne:n=n2
 ·subst hne;go_enter Tryz.func24,Tryz.ntmps24
  go_wp2
  go_loopw [13] (fun i wr=>∃ k q:Nat,k≤n∧i=.int .i64 k∧l.take k=m.take k∧wr=w.drewN q) (fun i _=>n-(intOf i).toNat)
  case atStart=>exact ⟨0,0,by omega,rfl,rfl,rfl⟩
  case round =>
   obtain ⟨k,q,hk,rfl,htk,rfl⟩:=hrel;have HTK:=hid htk;clear htk;by_cases hlt:k<n
   ·obtain ⟨t, ht⟩ : ∃ t, l[k]? = some t := ⟨l[k]'(by have := HN.out; omega), Di _⟩;obtain ⟨u, hu⟩ : ∃ u, m[k]? = some u := ⟨m[k]'(by have := HN2.out; omega), Di _⟩;obtain ⟨b1,o1,rfl,_,p0,p1⟩:=F1.out k t ht;obtain ⟨b2,o2,rfl,_,q0,q1⟩:=F2.out k u hu;have HTT:=hid ht;have HUU:=hid hu;clear ht hu;obtain ⟨r1,t1⟩:=t;obtain ⟨r2,t2⟩:=u;simp only at p0 p1 q0 q1
    by_cases hr:r1=r2
    ·by_cases ht:t1=t2
     ·subst hr ht;have HST:=hid (vF HTK.out HTT.out HUU.out rfl);go_wp2
      go_quiet (fail)
      go_wp2;go_roundw
      case rel=>exact ⟨k+1,_,by omega,by go_num,HST.out,rfl⟩
      case measure=>simp [intOf];omega
     ·subst hr;have HE:Hid (decide (l=m)=false):=hid (show decide (l=m)=false by
       rw [Ei];rintro rfl;have:=HTT.out.symm.trans HUU.out;simp at this;exact ht this)
      have x1:(t1 == t2)=false:=by simpa using ht
      have x2:(t1 != t2)=true:=by simpa using ht
      go_wp2
      go_quiet (fail)
      go_wp2;go_ret;exact ⟨by rw [HE.out];rfl,by first | exact ⟨_,rfl⟩ | exact ⟨_,by rw [World.drewN_drewN]⟩⟩
    ·have HE : Hid (decide (l = m) = false) := hid (show decide (l = m) = false by
      rw [Ei];rintro rfl;have:=HTT.out.symm.trans HUU.out;simp at this;exact hr this.1)
     have x1:(r1 == r2)=false:=by simpa using hr
     have x2:(r1 != r2)=true:=by simpa using hr
     go_wp2
     go_quiet (fail)
     go_wp2;go_ret;exact ⟨by rw [HE.out];rfl,by first | exact ⟨_,rfl⟩ | exact ⟨_,by rw [World.drewN_drewN]⟩⟩
   ·have HE : Hid (decide (l = m) = true) := hid (show decide (l = m) = true by
     rw [Eo];have h:=HTK.out;rw [DL (by have:=HN.out;omega),DL (by have:=HN2.out;omega)] at h;exact h)
    go_wp2;go_ret;exact ⟨by rw [HE.out];rfl,by first | exact ⟨_,rfl⟩ | exact ⟨_,by rw [World.drewN_drewN]⟩⟩
 ·have HE : Hid (decide (l = m) = false) := hid (show decide (l = m) = false by
   rw [Ei];rintro rfl;exact hne (HN.out.trans HN2.out.symm))
  have x1:((n:Int) == (n2:Int))=false:=by simp;omega
  have x2:((n:Int) != (n2:Int))=true:=by simp;omega
  rw [HE.out];go_enter Tryz.func24,Tryz.ntmps24
  go_wp2;go_ret;exact ⟨rfl,0,rfl⟩
theorem qS (v1 v2:Value) (l m:List Ent) (c:Bool) (w:World) (h1:ae w v1 l) (h2:ae w v2 m) (hl:l.length≤9223372036854775807) (hm:m.length≤9223372036854775807) (hc:decide (l=m)=c) :
 Calls Tryz.prog 24 #[v1,v2] w fun e w'=>e=.returned (.bool c)∧∃ q,w'=w.drewN q :=
 (zH v1 v2 l m w h1 h2 hl hm).mono fun _ _ ⟨h1,h2⟩=>⟨by rw [h1,hc],h2⟩
theorem zI (v1 v2:Value) (l m:List Wr) (w:World) (h1:bj w v1 l) (h2:bj w v2 m) (hl:l.length≤9223372036854775807) (hm:m.length≤9223372036854775807) :
 Calls Tryz.prog 25 #[v1,v2] w fun e w'=>e=.returned (.bool (decide (l=m)))∧∃ q,w'=w.drewN q:=by
 obtain ⟨a1,c1,rfl,f1⟩:=h1.form;obtain ⟨a2,c2,rfl,f2⟩:=h2.form;have F1:=hid f1;have F2:=hid f2;obtain ⟨n,hn⟩:∃ n,n=l.length:=⟨_,rfl⟩;obtain ⟨n2,hn2⟩:∃ n,n=m.length:=⟨_,rfl⟩;rw [←hn] at hl ⊢;rw [←hn2] at hm ⊢;have HN:=hid hn;have HN2:=hid hn2;clear h1 h2 f1 f2 hn hn2;by_cases hne:n=n2
 ·subst hne;go_enter Tryz.func25,Tryz.ntmps25
  go_wp2
  go_loopw [13] (fun i wr=>∃ k q:Nat,k≤n∧i=.int .i64 k∧l.take k=m.take k∧wr=w.drewN q) (fun i _=>n-(intOf i).toNat)
  case atStart=>exact ⟨0,0,by omega,rfl,rfl,rfl⟩
  case round =>
   obtain ⟨k,q,hk,rfl,htk,rfl⟩:=hrel;have HTK:=hid htk;clear htk;by_cases hlt:k<n
   ·obtain ⟨t, ht⟩ : ∃ t, l[k]? = some t := ⟨l[k]'(by have := HN.out; omega), Di _⟩;obtain ⟨u, hu⟩ : ∃ u, m[k]? = some u := ⟨m[k]'(by have := HN2.out; omega), Di _⟩;obtain ⟨b1,o1,rfl,_,p0,p1,p2,p3,p4,p5⟩:=F1.out k t ht;obtain ⟨b2,o2,rfl,_,q0,q1,q2,q3,q4,q5⟩:=F2.out k u hu;have HTT:=hid ht;have HUU:=hid hu;clear ht hu;obtain ⟨T1,R1,K1,key1,val1,N1⟩:=t;obtain ⟨T2,R2,K2,key2,val2,N2⟩:=u;simp only at p0 p1 p2 p3 p4 p5 q0 q1 q2 q3 q4 q5
    by_cases he0:T1=T2
    ·subst he0;by_cases he1:R1=R2
     ·subst he1;by_cases he2:K1=K2
      ·subst he2;by_cases he3:key1=key2
       ·subst he3;by_cases he4:val1=val2
        ·subst he4;by_cases he5:N1=N2
         ·subst he5;have HST:=hid (CJ HTK.out HTT.out HUU.out rfl);go_wp2
          go_quiet (fail)
          go_wp2;go_roundw
          case rel=>exact ⟨k+1,_,by omega,by go_num,HST.out,rfl⟩
          case measure=>simp [intOf];omega
         ·have HE : Hid (decide (l = m) = false) := hid (show decide (l = m) = false by
           rw [Ei];rintro rfl;have:=HTT.out.symm.trans HUU.out;simp only [E1,Wr.mk.injEq] at this
           exact he5 this.2.2.2.2.2)
          have x1:(N1 == N2)=false:=by simpa using he5
          have x2:(N1 != N2)=true:=by simpa using he5
          go_wp2
          go_quiet (fail)
          go_wp2;go_ret;exact ⟨by rw [HE.out];rfl,by first | exact ⟨_,rfl⟩ | exact ⟨_,by rw [World.drewN_drewN]⟩⟩
        ·have HE : Hid (decide (l = m) = false) := hid (show decide (l = m) = false by
          rw [Ei];rintro rfl;have:=HTT.out.symm.trans HUU.out;simp only [E1,Wr.mk.injEq] at this
          exact he4 this.2.2.2.2.1)
         have x1:(val1.toList == val2.toList)=false:=by rw [Ew,Ew,EB];intro e9;exact he4 (bY e9)
         have x2:(val1.toList != val2.toList)=true:=by rw [bne,x1];rfl
         go_wp2
         go_quiet (fail)
         go_wp2;go_ret;exact ⟨by rw [HE.out];rfl,by first | exact ⟨_,rfl⟩ | exact ⟨_,by rw [World.drewN_drewN]⟩⟩
       ·have HE : Hid (decide (l = m) = false) := hid (show decide (l = m) = false by
         rw [Ei];rintro rfl;have:=HTT.out.symm.trans HUU.out;simp only [E1,Wr.mk.injEq] at this
         exact he3 this.2.2.2.1)
        have x1:(key1.toList == key2.toList)=false:=by rw [Ew,Ew,EB];intro e9;exact he3 (bY e9)
        have x2:(key1.toList != key2.toList)=true:=by rw [bne,x1];rfl
        go_wp2
        go_quiet (fail)
        go_wp2;go_ret;exact ⟨by rw [HE.out];rfl,by first | exact ⟨_,rfl⟩ | exact ⟨_,by rw [World.drewN_drewN]⟩⟩
      ·have HE : Hid (decide (l = m) = false) := hid (show decide (l = m) = false by
        rw [Ei];rintro rfl;have:=HTT.out.symm.trans HUU.out;simp only [E1,Wr.mk.injEq] at this
        exact he2 this.2.2.1)
       have x1:(K1 == K2)=false:=by simpa using he2
       have x2:(K1 != K2)=true:=by simpa using he2
       go_wp2
       go_quiet (fail)
       go_wp2;go_ret;exact ⟨by rw [HE.out];rfl,by first | exact ⟨_,rfl⟩ | exact ⟨_,by rw [World.drewN_drewN]⟩⟩
     ·have HE : Hid (decide (l = m) = false) := hid (show decide (l = m) = false by
       rw [Ei];rintro rfl;have:=HTT.out.symm.trans HUU.out;simp only [E1,Wr.mk.injEq] at this
       exact he1 this.2.1)
      have x1:(R1 == R2)=false:=by simpa using he1
      have x2:(R1 != R2)=true:=by simpa using he1
      go_wp2
      go_quiet (fail)
      go_wp2;go_ret;exact ⟨by rw [HE.out];rfl,by first | exact ⟨_,rfl⟩ | exact ⟨_,by rw [World.drewN_drewN]⟩⟩
    ·have HE : Hid (decide (l = m) = false) := hid (show decide (l = m) = false by
      rw [Ei];rintro rfl;have:=HTT.out.symm.trans HUU.out;simp only [E1,Wr.mk.injEq] at this
      exact he0 this.1)
     have x1:(T1 == T2)=false:=by simpa using he0
     have x2:(T1 != T2)=true:=by simpa using he0
     go_wp2
     go_quiet (fail)
     go_wp2;go_ret;exact ⟨by rw [HE.out];rfl,by first | exact ⟨_,rfl⟩ | exact ⟨_,by rw [World.drewN_drewN]⟩⟩
   ·have HE : Hid (decide (l = m) = true) := hid (show decide (l = m) = true by
     rw [Eo];have h:=HTK.out;rw [DL (by have:=HN.out;omega),DL (by have:=HN2.out;omega)] at h;exact h)
    go_wp2;go_ret;exact ⟨by rw [HE.out];rfl,by first | exact ⟨_,rfl⟩ | exact ⟨_,by rw [World.drewN_drewN]⟩⟩
 ·have HE : Hid (decide (l = m) = false) := hid (show decide (l = m) = false by
   rw [Ei];rintro rfl;exact hne (HN.out.trans HN2.out.symm))
  have x1:((n:Int) == (n2:Int))=false:=by simp;omega
  have x2:((n:Int) != (n2:Int))=true:=by simp;omega
  rw [HE.out];go_enter Tryz.func25,Tryz.ntmps25
  go_wp2;go_ret;exact ⟨rfl,0,rfl⟩
theorem zJ (v1 v2:Value) (l m:List Wr) (c:Bool) (w:World) (h1:bj w v1 l) (h2:bj w v2 m) (hl:l.length≤9223372036854775807) (hm:m.length≤9223372036854775807) (hc:decide (l=m)=c) :
 Calls Tryz.prog 25 #[v1,v2] w fun e w'=>e=.returned (.bool c)∧∃ q,w'=w.drewN q :=
 (zI v1 v2 l m w h1 h2 hl hm).mono fun _ _ ⟨h1,h2⟩=>⟨by rw [h1,hc],h2⟩
end
section
open Go.ChangeShapes Go.WideShapes Go.ChangeAt Go.RowKit
def aR (W:World) (vf vh vw:Value) (f h:List Ent) (l:List Wr):Prop :=
 ae W vf f∧ae W vh h∧bj W vw l∧f.length≤9223372036854775807∧h.length≤9223372036854775807∧l.length≤9223372036854775807∧∀ t∈l,WrOk t
theorem aR.below {w w':World} {vf vh vw:Value} {f h:List Ent} {l:List Wr} (hx:aR w vf vh vw f h l) (hb:Below w.heap.size w w'):aR w' vf vh vw f h l :=
 ⟨hx.1.below hb,hx.2.1.below hb,hx.2.2.1.below hb,hx.2.2.2⟩
theorem aR.alloc {w:World} {vf vh vw:Value} {f h:List Ent} {l:List Wr} (hx:aR w vf vh vw f h l) (o:Obj):aR (w.alloc o) vf vh vw f h l :=
 hx.below ((Below.refl _ _).alloc (Db _) o)
end
section
open Go.RowKit
def bB (l:List Tok):List UInt8:=if (a8 l 0 0).1=0 then aD [] l else []
def tp (w:World) (l:List Tok) (e:Ending) (w':World):Prop :=
 ∃ err,e=.returned (.tuple #[.string ⟨(bB l).toArray⟩,err])∧atIs w' err (a8 l 0 0)∧Below w.heap.size w w'
theorem rX (b:List UInt8) (t:Tok) (r:List Tok):aD b (t::r)=aD (co b t) r:=rfl
theorem zE (b:List UInt8) (k n:Nat):repL b k (n+1)=repL (b++[b.getD (b.length-k) 0]) k n:=rfl
theorem Bo (v:Value) (l:List Tok) (w:World) (hv:bX w v l) (hl:l.length≤9223372036854775807) (hz:∀ t∈l,t.own.size≤140737488351232) :
 Calls Tryz.prog 105 #[v] w (tp w l):=by
 have HV:=hid hv;have HLL:=hid hl;have HZ:=hid hz;by_cases hr:(a8 l 0 0).1=0
 ·have HR:=hid (fM hr);have HT:Hid (bB l=aD [] l):=by
   have h:bB l=aD [] l:=by unfold bB;rw [if_pos hr]
   exact h
  have HR0:=hid hr;obtain ⟨a1,c1,rfl,f1⟩:=hv.form;have F1:=hid f1;obtain ⟨n,hn⟩:∃ n,n=l.length:=⟨_,rfl⟩;rw [←hn] at hl ⊢ HV;have HN:=hid hn;clear hv f1 hn hz hr;go_enter Tryz.func105,Tryz.ntmps105
  go_wp2_with fail
  refine (gq _ l _ HV.out HLL.out HZ.out).mono ?_;rintro r w0 ⟨err,rfl,hat,hb0⟩;obtain rfl:err=.nilIface:=by
   rcases hat with ⟨_,h⟩ | ⟨h,_⟩
   ·exact h
   ·exact absurd HR0.out h
  have HB0:=hid hb0;clear hat hb0;go_wp2
  go_loopw [5,15] (fun v i wr=>∃ (k:Nat) (acc:List UInt8),k≤n∧i=.int .i64 k∧aD [] l=aD acc (l.drop k)∧(a8 (l.drop k) k acc.length).1=0∧acc.length≤20000∧aY wr w.heap.size v acc∧Below w.heap.size w wr) (fun _ i _=>n-(intOf i).toNat)
  case atStart=>exact ⟨0,[],by omega,rfl,rfl,HR0.out,by simp,yE _ _,HB0.out⟩
  case round =>
   obtain ⟨k,acc,hk,rfl,htx,hrt,hac,hown,hbel⟩:=hrel;have HTX:=hid htx;have HRT:=hid hrt;have HO:=hid hown;have HB:=hid hbel;clear htx hrt hown hbel;by_cases hlt:k<n
   ·have hkl:k<l.length:=by have:=HN.out;omega
    obtain ⟨t,ht⟩:∃ t,l[k]? = some t:=⟨l[k],Di hkl⟩;obtain ⟨b1,o1,rfl,hb1,p0,p1,p2⟩:=F1.out k t ht;have hd:l.drop k=t::l.drop (k+1):=by
     rw [DA hkl];congr 1;rw [Di hkl] at ht;exact Dr ht
    obtain ⟨own,back,size⟩:=t;simp only at p0 p1 p2
    have q0:=(HB.out.cell (p:=⟨b1,o1+k * 3,none⟩) hb1).trans p0;have q1:=(HB.out.cell (p:=⟨b1,o1+k * 3+1,none⟩) hb1).trans p1;have q2:=(HB.out.cell (p:=⟨b1,o1+k * 3+2,none⟩) hb1).trans p2;have hzr:=HB.out.size;have hrt:=HRT.out;rw [hd] at hrt;obtain ⟨hw0,hw1⟩:=gn hrt;have hle:=j8 hw0;obtain ⟨nn,hnn⟩:∃ nn:Nat,size=nn:=by
     rcases gF hw0 with ⟨_,h,_⟩ | ⟨_,h,_⟩
     ·exact ⟨0,h⟩
     ·exact DS (Int.le_trans (by decide) h)
    subst hnn;have hfacts:own.size≤20000∧nn≤67∧(0<nn→own.size=0∧1≤back∧back≤acc.length):=by
     rcases gF hw0 with ⟨h1,h2,h3,h4⟩ | ⟨h1,h2,h3,h4,h5,h6,h7⟩
     ·simp only at h1 h2 h3 h4
      exact ⟨by omega,by omega,fun h=>absurd h (by omega)⟩
     ·simp only at h1 h2 h3 h4 h5 h6 h7
      exact ⟨by omega,by omega,fun h=>⟨h1,h4,h6⟩⟩
    have HD:Hid (aD [] l=aD (repL (acc++own.data.toList) back.toNat nn) (l.drop (k+1))):=by
     have h:aD [] l=aD (repL (acc++own.data.toList) back.toNat nn) (l.drop (k+1)):=by
      rw [HTX.out,hd,rX];rfl
     exact h
    have HW1:Hid ((a8 (l.drop (k+1)) (k+1) ((acc++own.data.toList).length+nn)).1=0):=by
     have h:(a8 (l.drop (k+1)) (k+1) ((acc++own.data.toList).length+nn)).1=0:=by
      have e:(acc++own.data.toList).length+nn=acc.length+lenT ⟨own,back,nn⟩:=by
       rw [Df,←ac];show _=_+(own.size+(nn:Int).toNat);omega
      rw [e];exact hw1
     exact h
    have hle2:(acc++own.data.toList).length+nn≤20000:=by
     rw [Df,←ac];have h:lenT ⟨own,back,nn⟩=own.size+nn:=by show own.size+(nn:Int).toNat=_;omega
     omega
    obtain ⟨acc1,hacc1⟩:∃ acc1,acc++own.data.toList=acc1:=⟨_,rfl⟩;have hal:acc.length≤acc1.length:=by rw [←hacc1,Df];omega
    rw [hacc1] at HD HW1 hle2;have HA1:=hid hacc1;obtain ⟨f1',f2',f3'⟩:=hfacts;have HF3:=hid f3';clear p0 p1 p2 ht hd hkl hrt hw0 hw1 hle HTX HRT hacc1 f3';go_wp2_with (at_builtin;refine CC rfl _ _ rfl w.heap.size _ acc rfl (HO.out.alloc _) own rfl ?c1 ?c2 ?_)
    case c1=>omega
    case c2=>simp;omega
    ·intro v1 w1 ho1 hg1;rw [HA1.out] at ho1;have htb:cg w1 wr.heap.size ⟨own,back,nn⟩:=(e8 wr own back nn).grown hg1 ((HO.out.alloc _).ne_tok (e8 wr own back nn));have hbel1:Below w.heap.size w w1:=(HB.out.alloc hzr _).grown hg1 (by simp;omega) (fun g hg=>(HO.out.lt g hg).1);have HTB:=hid htb;have HO1:=hid ho1;have HB1:=hid hbel1;obtain ⟨_,_,t2⟩:=htb.cells;simp only at t2
     clear ho1 hg1 htb hbel1 q0 q1 q2;go_wp2;obtain ⟨Bt,hBt⟩:∃ B,B=wr.heap.size:=⟨_,rfl⟩;rw [←hBt];rw [←hBt] at HTB;clear t2 hBt hzr HB HO
     go_loopw [5,25] (fun v j wi=>∃ (j':Nat) (b:List UInt8),j'≤nn∧j=.int .i64 j'∧repL acc1 back.toNat nn=repL b back.toNat (nn-j')∧b.length=acc1.length+j'∧aY wi w.heap.size v b∧cg wi Bt ⟨own,back,nn⟩∧Below w.heap.size w wi) (fun _ j _=>nn-(intOf j).toNat)
     case atStart=>exact ⟨0,acc1,by omega,rfl,rfl,rfl,HO1.out,HTB.out,HB1.out⟩
     case round =>
      obtain ⟨j,b,hj,rfl,hrep,hbl,hown,htb,hbel⟩:=hrel;have HREP:=hid hrep;have HBL:=hid hbl;by_cases hjl:j<nn
      ·obtain ⟨_,hk1,hk2⟩:=HF3.out (by omega);obtain ⟨kb,rfl⟩:=DS (show 0≤back by omega);rcases hown.forms with ⟨_,hnil⟩ | ⟨g,cap,hv,hbg,hgl,hcells⟩
       ·rw [hnil] at hbl;simp at hbl;omega
       ·subst hv;obtain ⟨m,hm⟩:∃ m,m=b.length:=⟨_,rfl⟩;obtain ⟨r,hr⟩:∃ r,r=b.length-kb:=⟨_,rfl⟩;have hcr:=hcells r (by omega);obtain ⟨_,t1,_⟩:=htb.cells;simp only at t1
        have e1:(m:Int)-(kb:Int)=(r:Int):=by omega
        have hrm:r<m:=by omega
        have hm2:m≤20100:=by omega
        have HRN:Hid (repL acc1 kb nn=repL (b++[b.getD r 0]) kb (nn-(j+1))):=by
         have h:repL acc1 kb nn=repL (b++[b.getD r 0]) kb (nn-(j+1)):=by
          have h2:=HREP.out;rw [E2,show nn-j=(nn-(j+1))+1 by omega,zE,←hr] at h2;exact h2
         exact h
        obtain ⟨c,hc⟩:∃ c,b.getD r 0=c:=⟨_,rfl⟩;rw [hc] at hcr HRN;rw [←hm];have HOW:=hid hown;rw [←hm] at HOW;have HTB2:=hid htb;have HB2:=hid hbel;have HM:=hid hm;have hzi:=hbel.size;clear hrep hbl hown htb hbel hcells hr hc hm HREP;go_wp2_with (at_builtin;refine lg rfl _ _ rfl w.heap.size _ b rfl (HOW.out.alloc _) ⟨wr.heap.size,0,none⟩ 1 rfl ((c.toNat:Nat):Int) c ?d1 ?d2 ?d3 ?d4 ?_)
        case d2=>rfl
        case d3=>have:=HM.out;omega
        case d4=>first | omega | (simp;omega)
        ·intro v2 w2 ho2 hg2 _;have HB3:Hid (Below w.heap.size w w2):=(HB2.out.alloc hzi _).grown hg2 (by simp;omega) (fun g hg=>(HOW.out.lt g hg).1);have HTB3:Hid (cg w2 Bt ⟨own,kb,nn⟩):=(HTB2.out.alloc _).grown hg2 (HOW.out.ne_tok HTB2.out);have HO3:=hid ho2;clear ho2 hg2 hcr t1;go_wp2;go_roundw
         case rel=>exact ⟨j+1,b++[c],by omega,by go_num,by rw [E2];exact HRN.out,by rw [Df,List.length_singleton,HBL.out];omega,HO3.out,HTB3.out,HB3.out⟩
         case measure=>simp [intOf];omega
      ·have HRN : Hid (aD [] l = aD b (l.drop (k + 1))) := by
        have h:aD [] l=aD b (l.drop (k+1)):=by rw [HD.out,HREP.out,show nn-j=0 by omega];rfl
        exact h
       have HRW:Hid ((a8 (l.drop (k+1)) (k+1) b.length).1=0):=by
        have h:(a8 (l.drop (k+1)) (k+1) b.length).1=0:=by rw [hbl,show j=nn by omega];exact HW1.out
        exact h
       have HOW:=hid hown;have HB2:=hid hbel;obtain ⟨_,_,t2⟩:=htb.cells;clear hrep hbl hown hbel htb;go_wp2;go_roundw
       case rel=>exact ⟨k+1,b,by omega,by go_num,HRN.out,HRW.out,by have:=HBL.out;omega,HOW.out,HB2.out⟩
       case measure=>simp [intOf];omega
   ·have HRN : Hid (bB l = acc) := by
     have h:bB l=acc:=by rw [HT.out,HTX.out,DD (by have:=HN.out;omega)];rfl
     exact h
    have hcv:=mX HO.out;go_wp2;go_ret2;exact ⟨_,by rw [HRN.out];rfl,.inl ⟨HR.out,rfl⟩,HB.out⟩
 ·have HT : Hid (bB l = []) := by
   have h:bB l=[]:=by unfold bB;rw [if_neg hr]
   exact h
  have HR0:=hid hr;clear hv hl hz hr;go_enter Tryz.func105,Tryz.ntmps105
  go_wp2_with fail
  refine (gq _ l _ HV.out HLL.out HZ.out).mono ?_;rintro r w0 ⟨err,rfl,hat,hb0⟩;have HAT:=hid hat;have HB0:=hid hb0;obtain ⟨b,rfl,_⟩:∃ b,err=.iface 103 (.pointer (some ⟨b,0,none⟩))∧True:=by
   rcases hat with ⟨h,_⟩ | ⟨_,b,h,_⟩
   ·exact absurd (by rw [h]) HR0.out
   ·exact ⟨b,h,trivial⟩
  clear hat hb0;go_wp2;go_ret2;exact ⟨_,by rw [HT.out];rfl,HAT.out,HB0.out⟩
end
section
open Go.RowKit Go.Extern.Stop Go.Stop Go.Extern
def errT (w:World):Prop:=w.cell? ⟨0,0,none⟩=some (.iface 237 (.agg #[.pointer (some ⟨5,32,none⟩)]))
def dM (w:World) (t:Addr):World :=
 ((w.alloc (.cells #[.pointer (some t)] 151)).alloc (.cells #[.pointer (some ⟨5,151,none⟩),.pointer (some ⟨w.heap.size,0,none⟩),.int .u64 150] 198)).alloc (.cells #[.pointer (some ⟨5,151,none⟩),.pointer (some ⟨w.heap.size,0,none⟩),.int .u64 150] 198)
theorem bc {w:World} {a:Addr} {v:Value} (h:w.cell? a=some v):a.block<w.heap.size:=by
 rcases Eg a.block w.heap.size with h' | h'
 ·exact h'
 ·simp [World.cell?,Ep h'] at h
theorem tD (e:Int) (t:Addr) (old:Value) (w:World) (hg:errT w) (ht0:w.cell? t=some old) (hf0:w.frozen? t=false) :
 Calls Tryz.prog 94 #[.iface 26 (.int .i64 e),.iface 151 (.pointer (some t))] w fun ev w'=>ev=.returned (.bool true)∧((dM w t).alloc (.cells #[.int .i64 e] 26)).setCell t (.int .i64 e)=w':=by
 unfold dM;unfold errT at hg;have h6:=@DR Tryz.prog 142 _ (fun args=>ReflectliteValue.unpack (args.getD 0 (.tuple #[]))) Tryz.func142 (by kernel_rfl) (by kernel_rfl) (by kernel_rfl) (by kernel_rfl)
 have h7 := @DR Tryz.prog 143 _ (ReflectliteValue.methodAny (ReflectliteValue.valueError "reflectlite.Value.Type" 0) (fun t _ _ _ => ReflectliteType.toType t)) Tryz.func143 (by kernel_rfl) (by kernel_rfl) (by kernel_rfl) (by kernel_rfl)
 have h8 := @DR Tryz.prog 144 _ (ReflectliteValue.method (ReflectliteValue.valueError "reflectlite.Value.IsNil" 0) ReflectliteValue.isNil) Tryz.func144 (by kernel_rfl) (by kernel_rfl) (by kernel_rfl) (by kernel_rfl)
 have h27:=@DR Tryz.prog 235 _ (ReflectliteType.abiMethod fun t=>do pure (.int .u8 (←Rtype.kind t))) Tryz.func235 (by kernel_rfl) (by kernel_rfl) (by kernel_rfl) (by kernel_rfl);have h37:=@DR Tryz.prog 248 _ (ReflectliteType.method ReflectliteType.elem) Tryz.func248 (by kernel_rfl) (by kernel_rfl) (by kernel_rfl) (by kernel_rfl)
 have h38 := @DR Tryz.prog 249 _ (ReflectliteType.relation "Implements" ReflectliteType.implements_) Tryz.func249 (by kernel_rfl) (by kernel_rfl) (by kernel_rfl) (by kernel_rfl)
 have h10:=@DR Tryz.prog 182 _ ReflectliteType.typeOf Tryz.func182 (by kernel_rfl) (by kernel_rfl) (by kernel_rfl) (by kernel_rfl)
 have h35 := @DR Tryz.prog 246 _ (ReflectliteType.relation "AssignableTo" ReflectliteType.assignableTo) Tryz.func246 (by kernel_rfl) (by kernel_rfl) (by kernel_rfl) (by kernel_rfl)
 have h11 := @DR Tryz.prog 183 _ (ReflectliteValue.method (ReflectliteValue.valueError "reflectlite.Value.Elem" 0) ReflectliteValue.elem) Tryz.func183 (by kernel_rfl) (by kernel_rfl) (by kernel_rfl) (by kernel_rfl)
 have h12:=@DR Tryz.prog 184 _ ReflectliteValue.set Tryz.func184 (by kernel_rfl) (by kernel_rfl) (by kernel_rfl) (by kernel_rfl);have tO:=As.typeOfE;have mA:=As.methodAssignableTo;have aE:=As.assignableE;have vE:=As.valueOfE;have f6:=As.valueOfP;have f7:=As.typeP;have mK:=As.methodKind;have mE:=As.methodElem;have mI:=As.methodImplements;have kP:=As.kindP;have kE:=As.kindE;have eP:=As.elemP;have iE:=As.implementsE;have htl:=bc ht0;have hlt:0<w.heap.size:=bc hg;have n8:=As.isNilP ⟨w.heap.size,0,none⟩ t ((w.alloc (.cells #[.pointer (some t)] 151)).alloc (.cells #[.pointer (some ⟨5,151,none⟩),.pointer (some ⟨w.heap.size,0,none⟩),.int .u64 150] 198)) (by simp);have hg2:((w.alloc (.cells #[.pointer (some t)] 151)).alloc (.cells #[.pointer (some ⟨5,151,none⟩),.pointer (some ⟨w.heap.size,0,none⟩),.int .u64 150] 198)).cell? ⟨0,0,none⟩=some (.iface 237 (.agg #[.pointer (some ⟨5,32,none⟩)])):=by
  rw [DC _ _ ⟨0,0,none⟩ (by simp only [DE];omega),DC _ _ ⟨0,0,none⟩ hlt];exact hg
 have el:=As.elemVP ⟨w.heap.size,0,none⟩ t (((w.alloc (.cells #[.pointer (some t)] 151)).alloc (.cells #[.pointer (some ⟨5,151,none⟩),.pointer (some ⟨w.heap.size,0,none⟩),.int .u64 150] 198)).alloc (.cells #[.pointer (some ⟨5,151,none⟩),.pointer (some ⟨w.heap.size,0,none⟩),.int .u64 150] 198)) (by rw [DC _ _ ⟨w.heap.size,0,none⟩ (by simp;omega)];simp)
 have st:=As.setE t ⟨w.heap.size+1+1+1,0,none⟩ e old ((((w.alloc (.cells #[.pointer (some t)] 151)).alloc (.cells #[.pointer (some ⟨5,151,none⟩),.pointer (some ⟨w.heap.size,0,none⟩),.int .u64 150] 198)).alloc (.cells #[.pointer (some ⟨5,151,none⟩),.pointer (some ⟨w.heap.size,0,none⟩),.int .u64 150] 198)).alloc (.cells #[.int .i64 e] 26))
  (by rw [World.cell?_alloc_at _ _ _ _ (by simp)];rfl)
  (by rw [DC _ _ t (by simp;omega),DC _ _ t (by simp;omega),DC _ _ t (by simp;omega),DC _ _ t htl];exact ht0)
  (by rw [EF _ _ t (by simp;omega),EF _ _ t (by simp;omega),EF _ _ t (by simp;omega),EF _ _ t (Nat.ne_of_lt htl)];exact hf0)
 go_enter Tryz.func94,Tryz.ntmps94
 go_wp2;refine EA 1 ?_;rw [Ec];go_wp2;go_ret;exact ⟨rfl,rfl⟩
end
