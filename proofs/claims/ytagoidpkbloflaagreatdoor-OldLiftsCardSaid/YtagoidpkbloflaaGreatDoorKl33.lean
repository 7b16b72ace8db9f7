import Derived.Test.YtagoidpkbloflaaGreatDoorKlq
import Derived.Test.YtagoidpkbloflaaGreatDoorKl31
import Derived.Test.YtagoidpkbloflaaGreatDoorKl23
import Derived.Deep.RegionWith
namespace Go.Proofs.YtagoidpkbloflaaGreatDoor
open Lib (hid)
set_option maxRecDepth 100000
set_option maxHeartbeats 8000000
section
open Go.RowKit
def frmF (f h:List Ent) (l:List Wr):List UInt8×Nat×Int :=
 if (aP f h l).2.1≠0 then ([],(aP f h l).2) else (frmL (aP f h l).1,0,-1)
def unfF (s:List UInt8):(Nat×Int) ⊕ (List Ent×List Ent×List Wr) :=
 match opnF s with
 | (v,i,e)=>if e≠0 then .inl (e,-1) else if v≠3 then .inl (6,-1) else
  match unpF i with
  | (b,e)=>if e≠0 then .inl (e,-1) else
   match unbF b with
   | .inl r=>.inl r
   | .inr (f,h,l)=>if frmL b≠s then .inl (13,-1) else .inr (f,h,l)
section
variable {s i b:List UInt8} {v e x:Nat} {pl:Int} {f h:List Ent} {l:List Wr}
theorem nT (h0:opnF s=(v,i,e)) (he:e≠0):unfF s=.inl (e,-1):=by unfold unfF;rw [h0];simp only;rw [if_pos he]
theorem nV (h0:opnF s=(v,i,0)) (hv:v≠3):unfF s=.inl (6,-1):=by unfold unfF;rw [h0];simp only;rw [if_neg (by simp),if_pos hv]
theorem fR (h0:opnF s=(3,i,0)) (h1:unpF i=(b,e)) (he:e≠0):unfF s=.inl (e,-1):=by
 unfold unfF;rw [h0];simp only;rw [if_neg (by simp),if_neg (by simp),h1];simp only;rw [if_pos he]
theorem kZ (h0:opnF s=(3,i,0)) (h1:unpF i=(b,0)) (h2:unbF b=.inl (x,pl)):unfF s=.inl (x,pl):=by
 unfold unfF;rw [h0];simp only;rw [if_neg (by simp),if_neg (by simp),h1];simp only;rw [if_neg (by simp),h2]
theorem l5 (h0:opnF s=(3,i,0)) (h1:unpF i=(b,0)) (h2:unbF b=.inr (f,h,l)) (h3:frmL b≠s):unfF s=.inl (13,-1):=by
 unfold unfF;rw [h0];simp only;rw [if_neg (by simp),if_neg (by simp),h1];simp only;rw [if_neg (by simp),h2];simp only;rw [if_pos h3]
theorem l7 (h0:opnF s=(3,i,0)) (h1:unpF i=(b,0)) (h2:unbF b=.inr (f,h,l)) (h3:frmL b=s):unfF s=.inr (f,h,l):=by
 unfold unfF;rw [h0];simp only;rw [if_neg (by simp),if_neg (by simp),h1];simp only;rw [if_neg (by simp),h2];simp only;rw [if_neg (by simpa using h3)]
end
theorem lZ {b:List UInt8} {f h:List Ent} {l:List Wr} (hu:unbF b=.inr (f,h,l)):frmF f h l=(frmL b,0,-1)∧ff f h l∧cB f h l=b∧b.length≤20000:=by
 obtain ⟨h1,h2,h3⟩:=BT hu;have h4:aP f h l=(b,0,-1):=by rw [fq h1 (by rw [h2];omega),h2]
 refine ⟨?_,h1,h2,h3⟩;unfold frmF;rw [h4];rw [if_neg (by simp)]
theorem pv {f h:List Ent} {l:List Wr} {s:List UInt8} {e:Nat} {pl:Int} (h0:aP f h l=(s,e,pl)) (he:e≠0):frmF f h l=([],e,pl):=by unfold frmF;rw [h0,if_pos he]
theorem pw {f h:List Ent} {l:List Wr} {s:List UInt8} {pl:Int} (h0:aP f h l=(s,0,pl)):frmF f h l=(frmL s,0,-1):=by unfold frmF;rw [h0,if_neg (by simp)]
end
section
open Go.RowKit
theorem fH (s:ByteArray) (n k e:Nat) (w:World) (hs:s.size≤maxLen) (h:intL s.data.toList 20000=(n,k,e)) :
 Calls Tryz.prog 74 #[.string s,.int .i64 20000] w fun r w'=>r=.returned (.tuple #[.int .i64 (n:Int),.int .i64 (k:Int),errC e])∧w=w':=by
 have h1:=fG s 20000 w hs (by omega) (by omega);rw [h] at h1;exact h1
theorem pN {l:List UInt8} {n k:Nat} (h:intL l 20000=(n,k,0)):n≤20000∧k≤l.length:=by
 rcases cu l with ⟨e,hg,he⟩ | ⟨m,j,hg,_,_,_,hj⟩
 ·rw [f8 hg he] at h;injection h with _ h;injection h with _ h;exact absurd h he
 ·by_cases hm:(20000:Int)<0∨(20000:Int)<m
  ·rw [dG hg hm] at h;injection h with _ h;injection h with _ h;cases h
  ·rw [eo hg hm] at h;injection h with h1 h
   injection h with h2 _
   subst h1 h2;exact ⟨by omega,hj⟩
theorem B3 (s T:ByteArray) (e:Nat) (pl:Int) (w:World) (hs:s.size≤400000) (hg:errT w) (hT:bN s.data.toList=T.data.toList) (hr:(am s.data.toList).1=(e,pl)) :
 Calls Tryz.prog 75 #[.string s] w fun r w'=>∃ err,r=.returned (.tuple #[.string T,err])∧atIs w' err (e,pl)∧Below w.heap.size w w':=by
 refine (xA s w hs hg).mono ?_;rintro r w' ⟨err,rfl,hat,hb⟩;rw [hT,bF,hr] at *;exact ⟨err,rfl,hat,hb⟩
def unpV (r:List UInt8×Nat):Value:=.tuple #[.string ⟨r.1.toArray⟩,errC r.2]
theorem BU (i:ByteArray) (w:World) (h1:1≤i.size) (hs:i.size≤400000) (hg:errT w) :
 Calls Tryz.prog 41 #[.string i] w fun e w'=>e=.returned (unpV (unpF i.data.toList))∧Below w.heap.size w w':=by
 have HG:=hid hg;have hl:i.size=i.data.toList.length:=ac i;have hz:0<i.size:=by omega
 obtain ⟨c, hc⟩ : ∃ c : UInt8, i[0]'hz = c := ⟨_, rfl⟩;have hcd:i.data.toList.getD 0 0=c:=by
  rw [DN,Di (by omega),Option.getD_some,←hc];rfl
 have hzi:1≤(i.size:Int):=by omega
 clear hg;by_cases hc2:1<c.toNat
 ·rw [sh (by rw [hcd];exact hc2)];have e1:((c.toNat:Int) != 0)=true:=by simp;omega
  have e2:((c.toNat:Int) != 1)=true:=by simp;omega
  clear hl hcd hc2;go_enter Tryz.func41,Tryz.ntmps41
  go_wp2;go_ret2;exact ⟨rfl,Below.refl _ _⟩
 ·obtain ⟨n,k,e,hi⟩:∃ n k e,intL (i.data.toList.drop 1) 20000=(n,k,e):=⟨_,_,_,rfl⟩;have hiD:(i.extract 1 i.size).data.toList=i.data.toList.drop 1:=by rw [dP];exact DL (by simp)
  have HI:Hid (intL (i.extract 1 i.size).data.toList 20000=(n,k,e)):=hid (by rw [hiD];exact hi);have HIZ:Hid ((i.extract 1 i.size).size≤maxLen):=hid (by unfold maxLen;simp;omega);by_cases he:e=0
  ·subst he;obtain ⟨hn,hk⟩:=pN hi;rw [Dj,←hl] at hk;obtain ⟨R,hR⟩:∃ R:ByteArray,i.extract (1+k) i.size=R:=⟨_,rfl⟩;have hRd:(i.data.toList.drop 1).drop k=R.data.toList:=by
    rw [←hR,dP,Dy];exact (DL (by simp)).symm
   have hRz:R.size≤400000:=by rw [←hR];simp;omega
   have hkz:1+k≤i.size:=by omega
   have hk1:IntKind.i64.wrap (1+(k:Int))=1+(k:Int):=Dh _ (by omega);have hk2:(0:Int)≤1+(k:Int):=by omega
   have hk3:1+(k:Int)≤(i.size:Int):=by omega
   have hk4:(1+(k:Int)).toNat=1+k:=by omega
   rcases (show c.toNat=0∨c.toNat=1 by omega) with h0 | h0
   ·obtain rfl:c=0:=ED.1 h0;by_cases hn2:R.size=n
    ·have HQ : Hid (unpV (unpF i.data.toList) = .tuple #[.string R, .nilIface]) := hid (by
      rw [sj (by rw [hcd];rfl) hi (by rw [hRd,←ac];exact hn2),hRd];unfold unpV;rw [bF];rfl)
     rw [HQ.out];have hni:((R.size:Int) == (n:Int))=true:=by simp;omega
     clear hl hcd hiD hi hRd;go_enter Tryz.func41,Tryz.ntmps41
     go_wp2_with fail
     refine (fH (i.extract 1 i.size) n k 0 _ HIZ.out HI.out).mono ?_;rintro r w1 ⟨rfl,rfl⟩;rw [bu];go_wp2;go_ret2;exact ⟨rfl,Below.refl _ _⟩
    ·have HQ : Hid (unpV (unpF i.data.toList) = .tuple #[.string ⟨#[]⟩, .iface 26 (.int .i64 2)]) := hid (by
      rw [sn (by rw [hcd];rfl) hi (by rw [hRd,←ac];exact hn2)];rfl)
     rw [HQ.out];have hni:((R.size:Int) == (n:Int))=false:=by simp;omega
     clear hl hcd hiD hi hRd;go_enter Tryz.func41,Tryz.ntmps41
     go_wp2_with fail
     refine (fH (i.extract 1 i.size) n k 0 _ HIZ.out HI.out).mono ?_;rintro r w1 ⟨rfl,rfl⟩;rw [bu];go_wp2;go_ret2;exact ⟨rfl,Below.refl _ _⟩
   ·obtain rfl:c=1:=ED.1 h0;obtain ⟨x,pl,hx⟩:∃ x pl,(am R.data.toList).1=(x,pl):=⟨_,_,rfl⟩;obtain ⟨T,hT⟩:∃ T:ByteArray,bN R.data.toList=T.data.toList:=⟨⟨(bN R.data.toList).toArray⟩,by simp⟩;have HSW:=hid (fun w' hg=>B3 R T x pl w' hRz hg hT hx);by_cases hx0:x=0
    ·subst hx0;by_cases hn2:T.size=n
     ·have HQ : Hid (unpV (unpF i.data.toList) = .tuple #[.string T, .nilIface]) := hid (by
       rw [sk (by rw [hcd];rfl) hi (by rw [hRd,hx]) (by rw [hRd,hT,←ac];exact hn2),hRd,hT];unfold unpV;rw [bF];rfl)
      rw [HQ.out];have hni:((T.size:Int) == (n:Int))=true:=by simp;omega
      clear hl hcd hiD hi hRd hx hT;go_enter Tryz.func41,Tryz.ntmps41
      go_wp2_with fail
      refine (fH (i.extract 1 i.size) n k 0 _ HIZ.out HI.out).mono ?_;rintro r w1 ⟨rfl,rfl⟩;rw [bu];go_wp2_with fail
      refine (HSW.out w HG.out).mono ?_;rintro r w2 ⟨err,rfl,hat,hb2⟩;obtain rfl:=hat.nil rfl;have HB2:=hid hb2;clear hb2 hat;go_wp2;go_ret2;exact ⟨rfl,HB2.out⟩
     ·have HQ : Hid (unpV (unpF i.data.toList) = .tuple #[.string ⟨#[]⟩, .iface 26 (.int .i64 2)]) := hid (by
       rw [sq (by rw [hcd];rfl) hi (by rw [hRd,hx]) (by rw [hRd,hT,←ac];exact hn2)];rfl)
      rw [HQ.out];have hni:((T.size:Int) == (n:Int))=false:=by simp;omega
      clear hl hcd hiD hi hRd hx hT;go_enter Tryz.func41,Tryz.ntmps41
      go_wp2_with fail
      refine (fH (i.extract 1 i.size) n k 0 _ HIZ.out HI.out).mono ?_;rintro r w1 ⟨rfl,rfl⟩;rw [bu];go_wp2_with fail
      refine (HSW.out w HG.out).mono ?_;rintro r w2 ⟨err,rfl,hat,hb2⟩;obtain rfl:=hat.nil rfl;have HB2:=hid hb2;clear hb2 hat;go_wp2;go_ret2;exact ⟨rfl,HB2.out⟩
    ·have HQ : Hid (unpV (unpF i.data.toList) = .tuple #[.string ⟨#[]⟩, .iface 26 (.int .i64 x)]) := hid (by
      rw [sr (by rw [hcd];rfl) hi (by rw [hRd,hx]) hx0];unfold unpV;rw [dO hx0])
     rw [HQ.out];clear hl hcd hiD hi hRd hx hT;go_enter Tryz.func41,Tryz.ntmps41
     go_wp2_with fail
     refine (fH (i.extract 1 i.size) n k 0 _ HIZ.out HI.out).mono ?_;rintro r w1 ⟨rfl,rfl⟩;rw [bu];go_wp2_with fail
     refine (HSW.out w HG.out).mono ?_;rintro r w2 ⟨err,rfl,hat,hb2⟩;have HIE:=hid (hat.isErr hx0);obtain ⟨t,u,rfl⟩:=hat.iface hx0;have HB2:=hid hb2;clear hb2 hat;go_wp2_with fail
     refine (e7 _ (x:Int) w2 (HG.out.below HB2.out) HIE.out).mono ?_;rintro r w3 ⟨rfl,hb3⟩;have HB3:Hid (Below w.heap.size w w3):=HB2.out.trans (hb3.mono HB2.out.size);clear hb3;go_wp2;go_ret2;exact ⟨rfl,HB3.out⟩
  ·have HQ : Hid (unpV (unpF i.data.toList) = .tuple #[.string ⟨#[]⟩, .iface 26 (.int .i64 e)]) := hid (by
    rw [si (by rw [hcd];exact hc2) hi he];unfold unpV;rw [dO he])
   rw [HQ.out];have hie:intL (i.extract 1 i.size).data.toList 20000=(n,k,e):=HI.out;rcases (show c.toNat=0∨c.toNat=1 by omega) with h0 | h0
   ·obtain rfl:c=0:=ED.1 h0;clear hl hcd hiD hi hie;go_enter Tryz.func41,Tryz.ntmps41
    go_wp2_with fail
    refine (fH (i.extract 1 i.size) n k e _ HIZ.out HI.out).mono ?_;rintro r w1 ⟨rfl,rfl⟩;rw [dO he];go_wp2;go_ret2;exact ⟨rfl,Below.refl _ _⟩
   ·obtain rfl:c=1:=ED.1 h0;clear hl hcd hiD hi hie;go_enter Tryz.func41,Tryz.ntmps41
    go_wp2_with fail
    refine (fH (i.extract 1 i.size) n k e _ HIZ.out HI.out).mono ?_;rintro r w1 ⟨rfl,rfl⟩;rw [dO he];go_wp2;go_ret2;exact ⟨rfl,Below.refl _ _⟩
end
section
open Go.RowKit
theorem qe (s T:ByteArray) (w:World) (hs:s.size≤20000) (hT:sqL s.data.toList=T.data.toList) :
 Calls Tryz.prog 92 #[.string s] w fun e w'=>e=.returned (.tuple #[.string T,.nilIface])∧Below w.heap.size w w':=by
 have h:=xz s w hs;rw [hT,bF] at h;exact h
theorem qM (n:Nat) (N:ByteArray) (w:World) (h:n≤1000000) (hN:putL n=N.data.toList) :
 Calls Tryz.prog 93 #[.int .u64 (n:Int)] w fun e w'=>e=.returned (.string N)∧Below w.heap.size w w' :=
 k9 n n N w h rfl (by rw [hN,bF])
theorem ux (K:Nat) (B:ByteArray) (hB:B=⟨#[UInt8.ofNat K]⟩) (hK:K≤255) (W:World) (b:Nat) (h:W.heap[b]? = some (.cells #[.int .u8 (K:Int)] 5 (0,0))) :
 (convert 94 9 (.slice (some ⟨b,0,none⟩) 1 1)).run Tryz.prog W=.ok (.string B) W:=by
 subst hB;refine EW _ _ _ _ _ _ [UInt8.ofNat K] Tryz.underlying94 Tryz.underlying5 Tryz.underlying9 fun j hj=>?_
 obtain rfl:j=0:=by simp at hj;omega
 have hadd:(⟨b,0,none⟩:Addr).add 0=⟨b,0,none⟩:=rfl;rw [hadd,Dd _ _ _ _ _ _ h];simp
 omega
theorem dk (K:Nat) (k:Int) (B:ByteArray) (hk:(K:Int)=k) (hB:B=⟨#[UInt8.ofNat K]⟩) (hK:K≤255) (W:World) (b:Nat) (h:W.heap[b]? = some (.cells #[.int .u8 k] 5 (0,0))) :
 (convert 94 9 (.slice (some ⟨b,0,none⟩) 1 1)).run Tryz.prog W=.ok (.string B) W:=by
 subst hk;exact ux K B hB hK W b h
theorem eH {w w':World} (h:Below w.drew.heap.size w.drew w'):Below w.heap.size w w':=((Below.refl _ _).drew).trans h
theorem yL (s P:ByteArray) (hs:s.size≤20000) (hP:dV s.data.toList=P.data.toList) :
 ∃ T N:ByteArray,sqL s.data.toList=T.data.toList∧putL s.size=N.data.toList∧N.size≤3 ∧
  ((T.size<s.size∧(⟨#[1]⟩:ByteArray)++N++T=P)∨(s.size≤T.size∧(⟨#[0]⟩:ByteArray)++N++s=P)):=by
 have hl:s.size=s.data.toList.length:=ac s;have hz:=mM (n:=s.size) hs;have e1:sqL s.data.toList=(⟨(sqL s.data.toList).toArray⟩:ByteArray).data.toList:=by simp
 have e2:putL s.size=(⟨(putL s.size).toArray⟩:ByteArray).data.toList:=by simp
 generalize (⟨(sqL s.data.toList).toArray⟩:ByteArray)=T at e1;generalize (⟨(putL s.size).toArray⟩:ByteArray)=N at e2;have hT:T.size=(sqL s.data.toList).length:=by rw [e1,ac]
 have hN:N.size=(putL s.size).length:=by rw [e2,ac]
 refine ⟨T,N,e1,e2,by rw [hN,hz];split <;> split <;> omega,?_⟩;unfold dV at hP;rw [←hl] at hP;by_cases hc:T.size<s.size
 ·rw [if_pos (by rw [←hT];exact hc),e1,e2] at hP;exact .inl ⟨hc,bY (by simp [←hP])⟩
 ·rw [if_neg (by rw [←hT];exact hc),e2] at hP;exact .inr ⟨by omega,bY (by simp [←hP])⟩
theorem yK (s P:ByteArray) (w:World) (hs:s.size≤20000) (hP:dV s.data.toList=P.data.toList) :
 Calls Tryz.prog 58 #[.string s] w fun e w'=>e=.returned (.string P)∧Below w.heap.size w w':=by
 obtain ⟨T,N,hT,hN,hN3,hc⟩:=yL s P hs hP;have HT:=hid hT;have HN:=hid hN;have HTZ:Hid (T.size≤220000):=hid (by rw [ac,←hT];exact rA _ (by rw [←ac];exact hs));clear hT hN hP;rcases hc with ⟨hc,hp⟩ | ⟨hc,hp⟩
 ·have HP:=hid hp;have hi:(T.size:Int)<(s.size:Int):=by omega
  obtain ⟨B,hB⟩:∃ B:ByteArray,B=⟨#[1]⟩:=⟨_,rfl⟩;rw [←hB] at HP;have HBB:=hid hB;clear hB hp hc;go_enter Tryz.func58,Tryz.ntmps58
  go_wp2_with fail
  refine (qe s T _ hs HT.out).mono ?_;rintro r w1 ⟨rfl,hb1⟩;have HB1:=hid hb1;clear hb1;go_wp2;have hu:IntKind.u64.wrap (s.size:Int)=(s.size:Int):=by rw [IntKind.wrap_u64];omega
  have HPT:=hid (fun w'=>qM s.size N w' (by omega) HN.out);have ha1:¬ (9223372036854775807<B.size+N.size):=by rw [HBB.out];show ¬ (9223372036854775807<1+N.size);omega
  have ha2:¬ (9223372036854775807<(B++N).size+T.size):=by rw [DH,HBB.out];show ¬ (9223372036854775807<1+N.size+T.size);have:=HTZ.out;omega
  have ha3:¬ (9223372036854775807<B.size+N.size+T.size):=by rw [←DH];exact ha2
  have hcA:=dk 1 1 B rfl HBB.out (by omega) (w1.alloc (.cells #[.int .u8 1] 5)) w1.heap.size (Dg w1 _);have hcD:=dk 1 1 B rfl HBB.out (by omega) (w1.alloc (.cells #[.int .u8 1] 5)).drew w1.heap.size (Dg w1 _);have HBA:Hid (Below w1.heap.size w1 (w1.alloc (.cells #[.int .u8 1] 5))):=hid ((Below.refl _ _).alloc (Db _) _)
  go_region_with (first
   | (go_at_call 93;((with_reducible refine (HPT.out w1.drew).mono ?_);rintro r w2 ⟨rfl,hb2⟩;have HB2:Hid (Below w1.heap.size w1 w2):=hid (eH hb2);have hcB:=dk 1 1 B rfl HBB.out (by omega) (w2.alloc (.cells #[.int .u8 1] 5)) w2.heap.size (Dg w2 _);clear hb2))
   | (go_at_call 93;((with_reducible refine (HPT.out (w1.alloc (.cells #[.int .u8 1] 5)).drew).mono ?_);rintro r w2 ⟨rfl,hb2⟩;have HB2:Hid (Below w1.heap.size w1 w2):=hid (HBA.out.trans ((eH hb2).mono (by simp)));have hcB:=dk 1 1 B rfl HBB.out (by omega) w2 w1.heap.size (((eH hb2).block _ (by simp)).trans (Dg w1 _));clear hb2)))
  all_goals
   clear hcA hcB hcD;go_wp2;go_ret
   first
    | exact ⟨by rw [←HP.out];rfl,HB1.out.trans (HB2.out.mono HB1.out.size)⟩
    | exact ⟨by rw [←HP.out];rfl,HB1.out.trans ((HB2.out.alloc HB2.out.size _).mono HB1.out.size)⟩
 ·have HP:=hid hp;have hi:(s.size:Int)≤(T.size:Int):=by omega
  obtain ⟨B,hB⟩:∃ B:ByteArray,B=⟨#[0]⟩:=⟨_,rfl⟩;rw [←hB] at HP;have HBB:=hid hB;clear hB hp hc;go_enter Tryz.func58,Tryz.ntmps58
  go_wp2_with fail
  refine (qe s T _ hs HT.out).mono ?_;rintro r w1 ⟨rfl,hb1⟩;have HB1:=hid hb1;clear hb1;go_wp2;have hu:IntKind.u64.wrap (s.size:Int)=(s.size:Int):=by rw [IntKind.wrap_u64];omega
  have HPT:=hid (fun w'=>qM s.size N w' (by omega) HN.out);have ha1:¬ (9223372036854775807<B.size+N.size):=by rw [HBB.out];show ¬ (9223372036854775807<1+N.size);omega
  have ha2:¬ (9223372036854775807<(B++N).size+s.size):=by rw [DH,HBB.out];show ¬ (9223372036854775807<1+N.size+s.size);omega
  have ha3:¬ (9223372036854775807<B.size+N.size+s.size):=by rw [←DH];exact ha2
  have hcA:=dk 0 0 B rfl HBB.out (by omega) (w1.alloc (.cells #[.int .u8 0] 5)) w1.heap.size (Dg w1 _);have hcD:=dk 0 0 B rfl HBB.out (by omega) (w1.alloc (.cells #[.int .u8 0] 5)).drew w1.heap.size (Dg w1 _);have HBA:Hid (Below w1.heap.size w1 (w1.alloc (.cells #[.int .u8 0] 5))):=hid ((Below.refl _ _).alloc (Db _) _)
  go_region_with (first
   | (go_at_call 93;((with_reducible refine (HPT.out w1.drew).mono ?_);rintro r w2 ⟨rfl,hb2⟩;have HB2:Hid (Below w1.heap.size w1 w2):=hid (eH hb2);have hcB:=dk 0 0 B rfl HBB.out (by omega) (w2.alloc (.cells #[.int .u8 0] 5)) w2.heap.size (Dg w2 _);clear hb2))
   | (go_at_call 93;((with_reducible refine (HPT.out (w1.alloc (.cells #[.int .u8 0] 5)).drew).mono ?_);rintro r w2 ⟨rfl,hb2⟩;have HB2:Hid (Below w1.heap.size w1 w2):=hid (HBA.out.trans ((eH hb2).mono (by simp)));have hcB:=dk 0 0 B rfl HBB.out (by omega) w2 w1.heap.size (((eH hb2).block _ (by simp)).trans (Dg w1 _));clear hb2)))
  all_goals
   clear hcA hcB hcD;go_wp2;go_ret
   first
    | exact ⟨by rw [←HP.out];rfl,HB1.out.trans (HB2.out.mono HB1.out.size)⟩
    | exact ⟨by rw [←HP.out];rfl,HB1.out.trans ((HB2.out.alloc HB2.out.size _).mono HB1.out.size)⟩
end
section
open Go.RowKit
theorem kc (vf vh vw:Value) (f h:List Ent) (l:List Wr) (e:Nat) (pl:Int) (w:World) (hx:aR w vf vh vw f h l) (hb:batF f h l=(e,pl)) :
 Calls Tryz.prog 39 #[.agg #[vf,vh,vw]] w fun r w'=>r=.returned (.agg #[.int .i64 (e:Int),.int .i64 pl])∧Below w.heap.size w w' :=
 (zl vf vh vw f h l w hx.1 hx.2.1 hx.2.2.1 hx.2.2.2.1 hx.2.2.2.2.1 hx.2.2.2.2.2.2).mono fun r w' ⟨h1,h2⟩=>⟨by rw [h1,hb];rfl,h2⟩
def rowF (w:World) (F:Nat) (e p:Int):Prop:=w.heap[F]? = some (.cells #[.int .i64 e,.int .i64 p] 28 (0,0))
theorem rowF.at {w:World} {F:Nat} {e p:Int} (h:rowF w F e p):w.cell? ⟨F,0,none⟩=some (.int .i64 e)∧w.cell? ⟨F,1,none⟩=some (.int .i64 p) :=
 ⟨by rw [Dd _ _ _ _ _ (0,0) h];rfl,by rw [Dd _ _ _ _ _ (0,0) h];rfl⟩
theorem rowF.frozen {w:World} {F:Nat} {e p:Int} (h:rowF w F e p) (j:Nat):w.frozen? ⟨F,j,none⟩=false:=frozen_of_row w F j _ _ h
theorem rowF.below {w w':World} {F m:Nat} {e p:Int} (h:rowF w F e p) (hb:Below m w w') (hm:F<m):rowF w' F e p:=(hb.block F hm).trans h
theorem rowF.put {w:World} {F:Nat} {e p:Int} (h:rowF w F e p) (a b:Int):rowF ((w.setCell ⟨F,0,none⟩ (.int .i64 a)).setCell ⟨F,1,none⟩ (.int .i64 b)) F a b :=
 De _ F 1 _ _ _ (De w F 0 _ _ _ h)
theorem eR {w w':World} {m F:Nat} (hb:Below m w w') (hF:m≤F) (u v:Value):Below m w ((w'.setCell ⟨F,0,none⟩ u).setCell ⟨F,1,none⟩ v) :=
 Below.setCell (p:=⟨F,1,none⟩) (Below.setCell (p:=⟨F,0,none⟩) hb hF u) hF v
theorem zj (w:World) (vf vh vw:Value) (f h:List Ent) (l:List Wr) (e:Nat) (pl:Int) (hx:aR w vf vh vw f h l) (hb:batF f h l=(e,pl)) (he:e≠0) :
 Calls Tryz.prog 18 #[.agg #[vf,vh,vw]] w fun r w'=>r=.returned (.tuple #[.string ⟨#[]⟩,.agg #[.int .i64 (e:Int),.int .i64 pl]])∧Below w.heap.size w w':=by
 have HX:=hid hx;obtain ⟨hf,hh,hv,_⟩:=hx;obtain ⟨af,cf,rfl,_⟩:=hf.form;obtain ⟨ah,ch,rfl,_⟩:=hh.form;obtain ⟨aw,cw,rfl,_⟩:=hv.form;have HBF:=hid hb;have hz:((e:Int) == 0)=false:=by simp;omega
 generalize f.length=nf at HX ⊢;generalize h.length=nh at HX ⊢;generalize l.length=n at HX ⊢;clear hf hh hv hb;go_enter Tryz.func18,Tryz.ntmps18
 go_wp2_with fail
 have HA:=hid ((cy w (.slice af nf cf) (.slice ah nh ch) (.slice aw n cw) 25).below ((Below.refl _ _).alloc (Db _) (.cells #[.int .i64 0,.int .i64 0] 28)) (by simp));have HF:Hid (rowF ((w.alloc (.cells #[.slice af nf cf,.slice ah nh ch,.slice aw n cw] 25)).alloc (.cells #[.int .i64 0,.int .i64 0] 28)) (w.heap.size+1) 0 0):=hid (Em w _ _);have HW:Hid (Below w.heap.size w ((w.alloc (.cells #[.slice af nf cf,.slice ah nh ch,.slice aw n cw] 25)).alloc (.cells #[.int .i64 0,.int .i64 0] 28))):=hid (((Below.refl _ _).alloc (Db _) _).alloc (by simp) _);have HZ:Hid (w.heap.size+1<((w.alloc (.cells #[.slice af nf cf,.slice ah nh ch,.slice aw n cw] 25)).alloc (.cells #[.int .i64 0,.int .i64 0] 28)).heap.size):=hid (by simp);have HBW:Hid (w.heap.size≤w.heap.size+1):=hid (Dq _);generalize (w.alloc (.cells #[.slice af nf cf,.slice ah nh ch,.slice aw n cw] 25)).alloc (.cells #[.int .i64 0,.int .i64 0] 28)=W at HA HF HW HZ ⊢;generalize w.heap.size+1=F at HF HZ HBW ⊢;refine (kc _ _ _ f h l e pl W (HX.out.below HW.out) HBF.out).mono ?_;rintro r w1 ⟨rfl,hb1⟩;have HB1:=hid hb1;clear hb1;have HF1:=hid (HF.out.below HB1.out HZ.out)
 have HW1:Hid (Below w.heap.size w w1):=HW.out.trans (HB1.out.mono HW.out.size);have HZ1:Hid (F<w1.heap.size):=hid (Dv HZ.out HB1.out.size);go_wp2_with fail
 refine (aH (e:Int) pl _).mono ?_;rintro r w2 ⟨rfl,hb2⟩;rw [hz];have HB2:Hid (Below w1.heap.size w1 w2):=hid (((Below.refl _ _).alloc (Db _) _).trans (hb2.mono (by simp)));have HF2:=hid (HF1.out.below HB2.out HZ1.out);have HT2:Hid (rowF w2 w1.heap.size e pl):=hid (rowF.below (w:=w1.alloc (.cells #[.int .i64 e,.int .i64 pl] 28)) (Dg w1 _) hb2 (by simp));have HW2:Hid (Below w.heap.size w w2):=HW1.out.trans (HB2.out.mono HW1.out.size);clear hb2;obtain ⟨c0,c1⟩:=HT2.out.at;obtain ⟨c2,c3⟩:=HF2.out.at;have g0:=HF2.out.frozen 0;have g1:=HF2.out.frozen 1;go_wp2;go_region
 have HF3:Hid (rowF ((w2.setCell ⟨F,0,none⟩ (.int .i64 (e:Int))).setCell ⟨F,1,none⟩ (.int .i64 pl)).drew F e pl):=hid (HF2.out.put e pl);have HW3:Hid (Below w.heap.size w ((w2.setCell ⟨F,0,none⟩ (.int .i64 (e:Int))).setCell ⟨F,1,none⟩ (.int .i64 pl)).drew):=hid (eR HW2.out HBW.out _ _).drew;generalize ((w2.setCell ⟨F,0,none⟩ (.int .i64 (e:Int))).setCell ⟨F,1,none⟩ (.int .i64 pl)).drew=w3 at HF3 HW3 ⊢;clear c0 c1 c2 c3 g0 g1;obtain ⟨c0,c1⟩:=HF3.out.at;go_wp2;refine Dc (v:=.tuple #[.string ⟨#[]⟩,.agg #[.int .i64 (e:Int),.int .i64 pl]]) (by simp [results,Tryz.results18,go_sem,c0,c1]) rfl ?_;exact ⟨rfl,HW3.out⟩
end
