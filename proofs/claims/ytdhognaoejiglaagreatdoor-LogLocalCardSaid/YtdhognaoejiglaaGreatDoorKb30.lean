import Derived.Test.YtdhognaoejiglaaGreatDoorKb29
import Derived.Test.YtdhognaoejiglaaGreatDoorKb28
import Derived.Test.YtdhognaoejiglaaGreatDoorKb25
import Derived.Deep.RegionWith
import Derived.Defers
import Derived.Recover
namespace Go.Proofs.YtdhognaoejiglaaGreatDoor
open Lib (hid)
set_option maxRecDepth 100000
set_option maxHeartbeats 8000000
section
open Go.RowKit
theorem sD (s T:ByteArray) (w:World) (hs:s.size≤20000) (hT:sqL s.data.toList=T.data.toList) :
 Calls Tryz.prog 114 #[.string s] w fun e w'=>e=.returned (.tuple #[.string T,.nilIface])∧Below w.heap.size w w':=by
 have h:=Bn s w hs;rw [hT,bW] at h;exact h
theorem tr (n:Nat) (N:ByteArray) (w:World) (h:n≤1000000) (hN:putL n=N.data.toList) :
 Calls Tryz.prog 115 #[.int .u64 (n:Int)] w fun e w'=>e=.returned (.string N)∧Below w.heap.size w w' :=
 lu n n N w h rfl (by rw [hN,bW])
theorem xU (K:Nat) (B:ByteArray) (hB:B=⟨#[UInt8.ofNat K]⟩) (hK:K≤255) (W:World) (b:Nat) (h:W.heap[b]? = some (.cells #[.int .u8 (K:Int)] 5 (0,0))) :
 (convert 142 9 (.slice (some ⟨b,0,none⟩) 1 1)).run Tryz.prog W=.ok (.string B) W:=by
 subst hB;refine run_convert_bytes_back _ _ _ _ _ _ [UInt8.ofNat K] Tryz.underlying142 Tryz.underlying5 Tryz.underlying9 fun j hj=>?_
 obtain rfl:j=0:=by simp at hj;omega
 have hadd:(⟨b,0,none⟩:Addr).add 0=⟨b,0,none⟩:=rfl;rw [hadd,cell_of_row _ _ _ _ _ _ h];simp
 omega
theorem cE (K:Nat) (k:Int) (B:ByteArray) (hk:(K:Int)=k) (hB:B=⟨#[UInt8.ofNat K]⟩) (hK:K≤255) (W:World) (b:Nat) (h:W.heap[b]? = some (.cells #[.int .u8 k] 5 (0,0))) :
 (convert 142 9 (.slice (some ⟨b,0,none⟩) 1 1)).run Tryz.prog W=.ok (.string B) W:=by
 subst hk;exact xU K B hB hK W b h
theorem ec {w w':World} (h:Below w.drew.heap.size w.drew w'):Below w.heap.size w w':=((Below.refl _ _).drew).trans h
theorem CP (s P:ByteArray) (hs:s.size≤20000) (hP:db s.data.toList=P.data.toList) :
 ∃ T N:ByteArray,sqL s.data.toList=T.data.toList∧putL s.size=N.data.toList∧N.size≤3 ∧
  ((T.size<s.size∧(⟨#[1]⟩:ByteArray)++N++T=P)∨(s.size≤T.size∧(⟨#[0]⟩:ByteArray)++N++s=P)):=by
 have hl:s.size=s.data.toList.length:=aj s;have hz:=ol (n:=s.size) hs;have e1:sqL s.data.toList=(⟨(sqL s.data.toList).toArray⟩:ByteArray).data.toList:=by simp
 have e2:putL s.size=(⟨(putL s.size).toArray⟩:ByteArray).data.toList:=by simp
 generalize (⟨(sqL s.data.toList).toArray⟩:ByteArray)=T at e1;generalize (⟨(putL s.size).toArray⟩:ByteArray)=N at e2;have hT:T.size=(sqL s.data.toList).length:=by rw [e1,aj]
 have hN:N.size=(putL s.size).length:=by rw [e2,aj]
 refine ⟨T,N,e1,e2,by rw [hN,hz];split <;> split <;> omega,?_⟩;unfold db at hP;rw [←hl] at hP;by_cases hc:T.size<s.size
 ·rw [if_pos (by rw [←hT];exact hc),e1,e2] at hP;exact .inl ⟨hc,cX (by simp [←hP])⟩
 ·rw [if_neg (by rw [←hT];exact hc),e2] at hP;exact .inr ⟨by omega,cX (by simp [←hP])⟩
theorem CO (s P:ByteArray) (w:World) (hs:s.size≤20000) (hP:db s.data.toList=P.data.toList) :
 Calls Tryz.prog 87 #[.string s] w fun e w'=>e=.returned (.string P)∧Below w.heap.size w w':=by
 obtain ⟨T,N,hT,hN,hN3,hc⟩:=CP s P hs hP;have HT:=hid hT;have HN:=hid hN;have HTZ:Hid (T.size≤220000):=hid (by rw [aj,←hT];exact E9 _ (by rw [←aj];exact hs));clear hT hN hP;rcases hc with ⟨hc,hp⟩ | ⟨hc,hp⟩
 ·have HP:=hid hp;have hi:(T.size:Int)<(s.size:Int):=by omega
  obtain ⟨B,hB⟩:∃ B:ByteArray,B=⟨#[1]⟩:=⟨_,rfl⟩;rw [←hB] at HP;have HBB:=hid hB;clear hB hp hc;go_enter Tryz.func87,Tryz.ntmps87
  go_wp2_with fail
  refine (sD s T _ hs HT.out).mono ?_;rintro r w1 ⟨rfl,hb1⟩;have HB1:=hid hb1;clear hb1;go_wp2;have hu:IntKind.u64.wrap (s.size:Int)=(s.size:Int):=by rw [IntKind.wrap_u64];omega
  have HPT:=hid (fun w'=>tr s.size N w' (by omega) HN.out);have ha1:¬ (9223372036854775807<B.size+N.size):=by rw [HBB.out];show ¬ (9223372036854775807<1+N.size);omega
  have ha2:¬ (9223372036854775807<(B++N).size+T.size):=by rw [ByteArray.size_append,HBB.out];show ¬ (9223372036854775807<1+N.size+T.size);have:=HTZ.out;omega
  have ha3:¬ (9223372036854775807<B.size+N.size+T.size):=by rw [←ByteArray.size_append];exact ha2
  have hcA:=cE 1 1 B rfl HBB.out (by omega) (w1.alloc (.cells #[.int .u8 1] 5)) w1.heap.size (heap_alloc_new w1 _);have hcD:=cE 1 1 B rfl HBB.out (by omega) (w1.alloc (.cells #[.int .u8 1] 5)).drew w1.heap.size (heap_alloc_new w1 _);have HBA:Hid (Below w1.heap.size w1 (w1.alloc (.cells #[.int .u8 1] 5))):=hid ((Below.refl _ _).alloc (Nat.le_refl _) _)
  go_region_with (first
   | (go_at_call 115;((with_reducible refine (HPT.out w1.drew).mono ?_);rintro r w2 ⟨rfl,hb2⟩;have HB2:Hid (Below w1.heap.size w1 w2):=hid (ec hb2);have hcB:=cE 1 1 B rfl HBB.out (by omega) (w2.alloc (.cells #[.int .u8 1] 5)) w2.heap.size (heap_alloc_new w2 _);clear hb2))
   | (go_at_call 115;((with_reducible refine (HPT.out (w1.alloc (.cells #[.int .u8 1] 5)).drew).mono ?_);rintro r w2 ⟨rfl,hb2⟩;have HB2:Hid (Below w1.heap.size w1 w2):=hid (HBA.out.trans ((ec hb2).mono (by simp)));have hcB:=cE 1 1 B rfl HBB.out (by omega) w2 w1.heap.size (((ec hb2).block _ (by simp)).trans (heap_alloc_new w1 _));clear hb2)))
  all_goals
   clear hcA hcB hcD;go_wp2;go_ret
   first
    | exact ⟨by rw [←HP.out];rfl,HB1.out.trans (HB2.out.mono HB1.out.size)⟩
    | exact ⟨by rw [←HP.out];rfl,HB1.out.trans ((HB2.out.alloc HB2.out.size _).mono HB1.out.size)⟩
 ·have HP:=hid hp;have hi:(s.size:Int)≤(T.size:Int):=by omega
  obtain ⟨B,hB⟩:∃ B:ByteArray,B=⟨#[0]⟩:=⟨_,rfl⟩;rw [←hB] at HP;have HBB:=hid hB;clear hB hp hc;go_enter Tryz.func87,Tryz.ntmps87
  go_wp2_with fail
  refine (sD s T _ hs HT.out).mono ?_;rintro r w1 ⟨rfl,hb1⟩;have HB1:=hid hb1;clear hb1;go_wp2;have hu:IntKind.u64.wrap (s.size:Int)=(s.size:Int):=by rw [IntKind.wrap_u64];omega
  have HPT:=hid (fun w'=>tr s.size N w' (by omega) HN.out);have ha1:¬ (9223372036854775807<B.size+N.size):=by rw [HBB.out];show ¬ (9223372036854775807<1+N.size);omega
  have ha2:¬ (9223372036854775807<(B++N).size+s.size):=by rw [ByteArray.size_append,HBB.out];show ¬ (9223372036854775807<1+N.size+s.size);omega
  have ha3:¬ (9223372036854775807<B.size+N.size+s.size):=by rw [←ByteArray.size_append];exact ha2
  have hcA:=cE 0 0 B rfl HBB.out (by omega) (w1.alloc (.cells #[.int .u8 0] 5)) w1.heap.size (heap_alloc_new w1 _);have hcD:=cE 0 0 B rfl HBB.out (by omega) (w1.alloc (.cells #[.int .u8 0] 5)).drew w1.heap.size (heap_alloc_new w1 _);have HBA:Hid (Below w1.heap.size w1 (w1.alloc (.cells #[.int .u8 0] 5))):=hid ((Below.refl _ _).alloc (Nat.le_refl _) _)
  go_region_with (first
   | (go_at_call 115;((with_reducible refine (HPT.out w1.drew).mono ?_);rintro r w2 ⟨rfl,hb2⟩;have HB2:Hid (Below w1.heap.size w1 w2):=hid (ec hb2);have hcB:=cE 0 0 B rfl HBB.out (by omega) (w2.alloc (.cells #[.int .u8 0] 5)) w2.heap.size (heap_alloc_new w2 _);clear hb2))
   | (go_at_call 115;((with_reducible refine (HPT.out (w1.alloc (.cells #[.int .u8 0] 5)).drew).mono ?_);rintro r w2 ⟨rfl,hb2⟩;have HB2:Hid (Below w1.heap.size w1 w2):=hid (HBA.out.trans ((ec hb2).mono (by simp)));have hcB:=cE 0 0 B rfl HBB.out (by omega) w2 w1.heap.size (((ec hb2).block _ (by simp)).trans (heap_alloc_new w1 _));clear hb2)))
  all_goals
   clear hcA hcB hcD;go_wp2;go_ret
   first
    | exact ⟨by rw [←HP.out];rfl,HB1.out.trans (HB2.out.mono HB1.out.size)⟩
    | exact ⟨by rw [←HP.out];rfl,HB1.out.trans ((HB2.out.alloc HB2.out.size _).mono HB1.out.size)⟩
end
section
open Go.RowKit
theorem ge (s:ByteArray) (n k e:Nat) (w:World) (hs:s.size≤maxLen) (h:intL s.data.toList 20000=(n,k,e)) :
 Calls Tryz.prog 155 #[.string s,.int .i64 20000] w fun r w'=>r=.returned (.tuple #[.int .i64 (n:Int),.int .i64 (k:Int),errC e])∧w=w':=by
 have h1:=gd s 20000 w hs (by omega) (by omega);rw [h] at h1;exact h1
theorem Ab {l:List UInt8} {n k:Nat} (h:intL l 20000=(n,k,0)):n≤20000∧k≤l.length:=by
 rcases dC l with ⟨e,hg,he⟩ | ⟨m,j,hg,_,_,_,hj⟩
 ·rw [iY hg he] at h;injection h with _ h;injection h with _ h;exact absurd h he
 ·by_cases hm:(20000:Int)<0∨(20000:Int)<m
  ·rw [gT hg hm] at h;injection h with _ h;injection h with _ h;cases h
  ·rw [fE hg hm] at h;injection h with h1 h
   injection h with h2 _
   subst h1 h2;exact ⟨by omega,hj⟩
theorem En (s T:ByteArray) (e:Nat) (pl:Int) (w:World) (hs:s.size≤400000) (hg:errT w) (hT:dg s.data.toList=T.data.toList) (hr:(aL s.data.toList).1=(e,pl)) :
 Calls Tryz.prog 156 #[.string s] w fun r w'=>∃ err,r=.returned (.tuple #[.string T,err])∧atIs w' err (e,pl)∧Below w.heap.size w w':=by
 refine (Bo s w hs hg).mono ?_;rintro r w' ⟨err,rfl,hat,hb⟩;rw [hT,bW,hr] at *;exact ⟨err,rfl,hat,hb⟩
def unpV (r:List UInt8×Nat):Value:=.tuple #[.string ⟨r.1.toArray⟩,errC r.2]
theorem FE (i:ByteArray) (w:World) (h1:1≤i.size) (hs:i.size≤400000) (hg:errT w) :
 Calls Tryz.prog 120 #[.string i] w fun e w'=>e=.returned (unpV (unpF i.data.toList))∧Below w.heap.size w w':=by
 have HG:=hid hg;have hl:i.size=i.data.toList.length:=aj i;have hz:0<i.size:=by omega
 obtain ⟨c, hc⟩ : ∃ c : UInt8, i[0]'hz = c := ⟨_, rfl⟩;have hcd:i.data.toList.getD 0 0=c:=by
  rw [List.getD_eq_getElem?_getD,List.getElem?_eq_getElem (by omega),Option.getD_some,←hc];rfl
 have hzi:1≤(i.size:Int):=by omega
 clear hg;by_cases hc2:1<c.toNat
 ·rw [Fu (by rw [hcd];exact hc2)];have e1:((c.toNat:Int) != 0)=true:=by simp;omega
  have e2:((c.toNat:Int) != 1)=true:=by simp;omega
  clear hl hcd hc2;go_enter Tryz.func120,Tryz.ntmps120
  go_wp2;go_ret2;exact ⟨rfl,Below.refl _ _⟩
 ·obtain ⟨n,k,e,hi⟩:∃ n k e,intL (i.data.toList.drop 1) 20000=(n,k,e):=⟨_,_,_,rfl⟩;have hiD:(i.extract 1 i.size).data.toList=i.data.toList.drop 1:=by rw [iM];exact List.take_of_length_le (by simp)
  have HI:Hid (intL (i.extract 1 i.size).data.toList 20000=(n,k,e)):=hid (by rw [hiD];exact hi);have HIZ:Hid ((i.extract 1 i.size).size≤maxLen):=hid (by unfold maxLen;simp;omega);by_cases he:e=0
  ·subst he;obtain ⟨hn,hk⟩:=Ab hi;rw [List.length_drop,←hl] at hk;obtain ⟨R,hR⟩:∃ R:ByteArray,i.extract (1+k) i.size=R:=⟨_,rfl⟩;have hRd:(i.data.toList.drop 1).drop k=R.data.toList:=by
    rw [←hR,iM,List.drop_drop];exact (List.take_of_length_le (by simp)).symm
   have hRz:R.size≤400000:=by rw [←hR];simp;omega
   have hkz:1+k≤i.size:=by omega
   have hk1:IntKind.i64.wrap (1+(k:Int))=1+(k:Int):=IntWalk.i64_in _ (by omega);have hk2:(0:Int)≤1+(k:Int):=by omega
   have hk3:1+(k:Int)≤(i.size:Int):=by omega
   have hk4:(1+(k:Int)).toNat=1+k:=by omega
   rcases (show c.toNat=0∨c.toNat=1 by omega) with h0 | h0
   ·obtain rfl:c=0:=UInt8.toNat_inj.1 h0;by_cases hn2:R.size=n
    ·have HQ : Hid (unpV (unpF i.data.toList) = .tuple #[.string R, .nilIface]) := hid (by
      rw [vm (by rw [hcd];rfl) hi (by rw [hRd,←aj];exact hn2),hRd];unfold unpV;rw [bW];rfl)
     rw [HQ.out];have hni:((R.size:Int) == (n:Int))=true:=by simp;omega
     clear hl hcd hiD hi hRd;go_enter Tryz.func120,Tryz.ntmps120
     go_wp2_with fail
     refine (ge (i.extract 1 i.size) n k 0 _ HIZ.out HI.out).mono ?_;rintro r w1 ⟨rfl,rfl⟩;rw [bB];go_wp2;go_ret2;exact ⟨rfl,Below.refl _ _⟩
    ·have HQ : Hid (unpV (unpF i.data.toList) = .tuple #[.string ⟨#[]⟩, .iface 68 (.int .i64 2)]) := hid (by
      rw [Fx (by rw [hcd];rfl) hi (by rw [hRd,←aj];exact hn2)];rfl)
     rw [HQ.out];have hni:((R.size:Int) == (n:Int))=false:=by simp;omega
     clear hl hcd hiD hi hRd;go_enter Tryz.func120,Tryz.ntmps120
     go_wp2_with fail
     refine (ge (i.extract 1 i.size) n k 0 _ HIZ.out HI.out).mono ?_;rintro r w1 ⟨rfl,rfl⟩;rw [bB];go_wp2;go_ret2;exact ⟨rfl,Below.refl _ _⟩
   ·obtain rfl:c=1:=UInt8.toNat_inj.1 h0;obtain ⟨x,pl,hx⟩:∃ x pl,(aL R.data.toList).1=(x,pl):=⟨_,_,rfl⟩;obtain ⟨T,hT⟩:∃ T:ByteArray,dg R.data.toList=T.data.toList:=⟨⟨(dg R.data.toList).toArray⟩,by simp⟩;have HSW:=hid (fun w' hg=>En R T x pl w' hRz hg hT hx);by_cases hx0:x=0
    ·subst hx0;by_cases hn2:T.size=n
     ·have HQ : Hid (unpV (unpF i.data.toList) = .tuple #[.string T, .nilIface]) := hid (by
       rw [vo (by rw [hcd];rfl) hi (by rw [hRd,hx]) (by rw [hRd,hT,←aj];exact hn2),hRd,hT];unfold unpV;rw [bW];rfl)
      rw [HQ.out];have hni:((T.size:Int) == (n:Int))=true:=by simp;omega
      clear hl hcd hiD hi hRd hx hT;go_enter Tryz.func120,Tryz.ntmps120
      go_wp2_with fail
      refine (ge (i.extract 1 i.size) n k 0 _ HIZ.out HI.out).mono ?_;rintro r w1 ⟨rfl,rfl⟩;rw [bB];go_wp2_with fail
      refine (HSW.out w HG.out).mono ?_;rintro r w2 ⟨err,rfl,hat,hb2⟩;obtain rfl:=hat.nil rfl;have HB2:=hid hb2;clear hb2 hat;go_wp2;go_ret2;exact ⟨rfl,HB2.out⟩
     ·have HQ : Hid (unpV (unpF i.data.toList) = .tuple #[.string ⟨#[]⟩, .iface 68 (.int .i64 2)]) := hid (by
       rw [Fy (by rw [hcd];rfl) hi (by rw [hRd,hx]) (by rw [hRd,hT,←aj];exact hn2)];rfl)
      rw [HQ.out];have hni:((T.size:Int) == (n:Int))=false:=by simp;omega
      clear hl hcd hiD hi hRd hx hT;go_enter Tryz.func120,Tryz.ntmps120
      go_wp2_with fail
      refine (ge (i.extract 1 i.size) n k 0 _ HIZ.out HI.out).mono ?_;rintro r w1 ⟨rfl,rfl⟩;rw [bB];go_wp2_with fail
      refine (HSW.out w HG.out).mono ?_;rintro r w2 ⟨err,rfl,hat,hb2⟩;obtain rfl:=hat.nil rfl;have HB2:=hid hb2;clear hb2 hat;go_wp2;go_ret2;exact ⟨rfl,HB2.out⟩
    ·have HQ : Hid (unpV (unpF i.data.toList) = .tuple #[.string ⟨#[]⟩, .iface 68 (.int .i64 x)]) := hid (by
      rw [FC (by rw [hcd];rfl) hi (by rw [hRd,hx]) hx0];unfold unpV;rw [ez hx0])
     rw [HQ.out];clear hl hcd hiD hi hRd hx hT;go_enter Tryz.func120,Tryz.ntmps120
     go_wp2_with fail
     refine (ge (i.extract 1 i.size) n k 0 _ HIZ.out HI.out).mono ?_;rintro r w1 ⟨rfl,rfl⟩;rw [bB];go_wp2_with fail
     refine (HSW.out w HG.out).mono ?_;rintro r w2 ⟨err,rfl,hat,hb2⟩;have HIE:=hid (hat.isErr hx0);obtain ⟨t,u,rfl⟩:=hat.iface hx0;have HB2:=hid hb2;clear hb2 hat;go_wp2_with fail
     refine (dM _ (x:Int) w2 (HG.out.below HB2.out) HIE.out).mono ?_;rintro r w3 ⟨rfl,hb3⟩;have HB3:Hid (Below w.heap.size w w3):=HB2.out.trans (hb3.mono HB2.out.size);clear hb3;go_wp2;go_ret2;exact ⟨rfl,HB3.out⟩
  ·have HQ : Hid (unpV (unpF i.data.toList) = .tuple #[.string ⟨#[]⟩, .iface 68 (.int .i64 e)]) := hid (by
    rw [Fv (by rw [hcd];exact hc2) hi he];unfold unpV;rw [ez he])
   rw [HQ.out];have hie:intL (i.extract 1 i.size).data.toList 20000=(n,k,e):=HI.out;rcases (show c.toNat=0∨c.toNat=1 by omega) with h0 | h0
   ·obtain rfl:c=0:=UInt8.toNat_inj.1 h0;clear hl hcd hiD hi hie;go_enter Tryz.func120,Tryz.ntmps120
    go_wp2_with fail
    refine (ge (i.extract 1 i.size) n k e _ HIZ.out HI.out).mono ?_;rintro r w1 ⟨rfl,rfl⟩;rw [ez he];go_wp2;go_ret2;exact ⟨rfl,Below.refl _ _⟩
   ·obtain rfl:c=1:=UInt8.toNat_inj.1 h0;clear hl hcd hiD hi hie;go_enter Tryz.func120,Tryz.ntmps120
    go_wp2_with fail
    refine (ge (i.extract 1 i.size) n k e _ HIZ.out HI.out).mono ?_;rintro r w1 ⟨rfl,rfl⟩;rw [ez he];go_wp2;go_ret2;exact ⟨rfl,Below.refl _ _⟩
end
section
open Go.RowKit
def RoT (w:World) (R:Nat) (T:ByteArray) (e:Nat):Prop:=w.heap[R]? = some (.cells #[.string T,errV e] 218 (0,0))
def Ro (w:World) (R:Nat) (l:List UInt8) (e:Nat):Prop:=∃ T:ByteArray,T.data.toList=l∧T.size≤1000000∧RoT w R T e
theorem RoT.cells {w:World} {R:Nat} {T:ByteArray} {e:Nat} (h:RoT w R T e):w.cell? ⟨R,0,none⟩=some (.string T)∧w.cell? ⟨R,1,none⟩=some (errV e)∧w.frozen? ⟨R,0,none⟩=false∧w.frozen? ⟨R,1,none⟩=false∧R<w.heap.size :=
 ⟨cell_of_row _ _ 0 _ _ (0,0) h,cell_of_row _ _ 1 _ _ (0,0) h,Lib.frozen_of_heap h 0,Lib.frozen_of_heap h 1,(Array.getElem?_eq_some_iff.1 h).1⟩
theorem Ro.lt {w:World} {R:Nat} {l:List UInt8} {e:Nat} (h:Ro w R l e):R<w.heap.size:=by obtain ⟨T,_,_,h⟩:=h;exact h.cells.2.2.2.2
theorem Ro.kept {w w':World} {R:Nat} {l:List UInt8} {e:Nat} {row:Option Nat} (h:Ro w R l e) (hg:w.grownBy w' row) (hne:row≠some R):Ro w' R l e:=by
 have hl:=h.lt;obtain ⟨T,h1,h2,h3⟩:=h;exact ⟨T,h1,h2,(hg.block R hl (fun e=>hne e.symm)).trans h3⟩
theorem Ro.below {w w':World} {R:Nat} {l:List UInt8} {e:Nat} (h:Ro w R l e) (hb:Below w.heap.size w w'):Ro w' R l e:=h.kept (gO hb) (by simp)
theorem RoT.put {w:World} {R:Nat} {T:ByteArray} {e:Nat} (h:RoT w R T e) (X:ByteArray) (x:Nat):RoT ((w.setCell ⟨R,1,none⟩ (errV x)).setCell ⟨R,0,none⟩ (.string X)) R X x:=by
 unfold RoT at h ⊢;simp [World.setCell,Array.getElem?_modify,h]
theorem kI {w w1:World} {R:Nat} (h:Below w.heap.size w w1) (u v:Value):w.grownBy ((w1.setCell ⟨R,1,none⟩ u).setCell ⟨R,0,none⟩ v) (some R) :=
 ⟨h.os,h.tape,h.output,by simpa using h.size,fun k hk hne=>by
  have hk2:R≠k:=fun e=>hne (by rw [e])
  simp only [World.setCell,Array.getElem?_modify,if_neg hk2]
  exact h.block k hk⟩
theorem nB (w:World) (R:Nat):w.grownBy w (some R):=⟨rfl,rfl,rfl,Nat.le_refl _,fun _ _ _=>rfl⟩
theorem eY:errV 0=.nilIface:=rfl
theorem ku (x:Nat):errV x=.nilIface∨errV x=.iface 68 (.int .i64 x):=by
 by_cases h:x=0
 ·subst h;exact .inl rfl
 ·exact .inr (by unfold errV;rw [if_neg h])
theorem iK {e:Nat} (h:e≠0):errV e=.iface 68 (.int .i64 e):=by unfold errV;rw [if_neg h]
theorem kp {T:ByteArray} {k:Nat}:(T.extract k T.size).data.toList=T.data.toList.drop k:=by
 exact cZ T k
theorem kz {T:ByteArray} {k n:Nat} (h:T.size≤n):(T.extract k T.size).size≤n:=by rw [ByteArray.size_extract];omega
theorem Ch (t:ByteArray) (M:Nat) (most:Int) (n k x:Nat) (w:World) (ht:t.size≤maxLen) (h0 : -9223372036854775808≤most) (h1:most≤9223372036854775807) (hM:w.cell? ⟨M,0,none⟩=some (.int .i64 most)) (hi:intL t.data.toList most=(n,k,x)) :
 Calls Tryz.prog 194 #[.string t,.pointer (some ⟨M,0,none⟩)] w fun e w'=>e=.returned (.tuple #[.int .i64 (n:Int),.int .i64 (k:Int),errV x])∧Below w.heap.size w w':=by
 have HI:Hid (intV (intL t.data.toList most)=.tuple #[.int .i64 (n:Int),.int .i64 (k:Int),errV x]):=hid (by rw [hi];rfl);clear hi;obtain ⟨q,hq⟩:∃ q,errV x=q:=⟨_,rfl⟩;rw [hq] at HI ⊢;clear hq;go_enter Tryz.func194,Tryz.ntmps194
 go_wp2_with fail
 refine (gd t most w ht h0 h1).mono ?_;rintro r w' ⟨rfl,rfl⟩;rw [HI.out];go_wp2;go_ret3;exact ⟨rfl,Below.refl _ _⟩
theorem C2 (t:ByteArray) (w:World) (ht:t.size≤maxLen) :
 Calls Tryz.prog 195 #[.string t] w fun e w'=>e=.returned (.tuple #[.int .i64 ((ar t.data.toList).1:Nat),.int .i64 ((ar t.data.toList).2.1:Nat),errV (ar t.data.toList).2.2])∧Below w.heap.size w w':=by
 unfold maxLen at ht;by_cases h0:0<t.size
 ·have hne : (t.toList == []) = false := by
   have h:=jV h0;rw [bne] at h
   simpa using h
  obtain ⟨c, hc⟩ : ∃ c, t[0]'h0 = c := ⟨_, rfl⟩;have hl:ar t.data.toList=if c.toNat<1∨4<c.toNat then (0,0,1) else (c.toNat,1,0):=by
   have h1:t.data.toList=c::t.data.toList.drop 1:=by
    have h2:0<t.data.toList.length:=by rw [←aj];exact h0
    have h3:=List.drop_eq_getElem_cons h2;rw [List.drop_zero] at h3;have h4 : t.data.toList[0]'h2 = c := hc;rw [h4] at h3;exact h3
   rw [h1,j7]
  have HL:=hid hl;have d1:(0:Int)<(t.size:Int):=by omega
  clear hl;by_cases h1:c.toNat<1
  ·have HR:Hid (ar t.data.toList=(0,0,1)):=hid (by rw [HL.out,if_pos (.inl h1)]);have d2:(c.toNat:Int)<1:=by omega
   go_enter Tryz.func195,Tryz.ntmps195
   go_wp2;go_ret3;rw [HR.out];exact ⟨rfl,Below.refl _ _⟩
  ·by_cases h4:4<c.toNat
   ·have HR:Hid (ar t.data.toList=(0,0,1)):=hid (by rw [HL.out,if_pos (.inr h4)]);have d2:1≤(c.toNat:Int):=by omega
    have d3:4<(c.toNat:Int):=by omega
    go_enter Tryz.func195,Tryz.ntmps195
    go_wp2;go_ret3;rw [HR.out];exact ⟨rfl,Below.refl _ _⟩
   ·have HR:Hid (ar t.data.toList=(c.toNat,1,0)):=hid (by rw [HL.out,if_neg (by omega)]);have d2:1≤(c.toNat:Int):=by omega
    have d3:(c.toNat:Int)≤4:=by omega
    go_enter Tryz.func195,Tryz.ntmps195
    go_wp2;go_ret3;rw [HR.out];exact ⟨rfl,Below.refl _ _⟩
 ·obtain rfl:=iJ h0;go_enter Tryz.func195,Tryz.ntmps195
  go_wp2;go_ret3;exact ⟨rfl,Below.refl _ _⟩
theorem C3 (t:ByteArray) (n k x:Nat) (w:World) (ht:t.size≤maxLen) (hi:ar t.data.toList=(n,k,x)) :
 Calls Tryz.prog 195 #[.string t] w fun e w'=>e=.returned (.tuple #[.int .i64 (n:Int),.int .i64 (k:Int),errV x])∧Below w.heap.size w w' :=
 (C2 t w ht).mono fun e w' ⟨h1,h2⟩=>⟨by rw [h1,hi],h2⟩
theorem Cx (t K:ByteArray) (k x:Nat) (w:World) (ht:t.size≤1000000) (hi:getS t.data.toList=(K.data.toList,k,x)) :
 Calls Tryz.prog 197 #[.string t] w fun e w'=>e=.returned (.tuple #[.string K,.int .i64 (k:Int),errV x])∧Below w.heap.size w w' :=
 (lO t w (by omega)).mono fun e w' ⟨h1,h2⟩=>⟨by rw [h1,hi];rfl,h2⟩
theorem sP (R:Nat) (F:Value) (l:List UInt8) (e:Nat) (w:World) (h:Ro w R l e) (he:e≠0) :
 Calls Tryz.prog 193 #[.pointer (some ⟨R,0,none⟩),F] w fun r w'=>r=.returned (.int .i64 0)∧w=w':=by
 obtain ⟨T,_,_,hrow⟩:=h;obtain ⟨_,c1,_,_,_⟩:=hrow.cells;rw [iK he] at c1;clear hrow he;go_enter Tryz.func193,Tryz.ntmps193
 go_wp2;go_ret;exact ⟨rfl,rfl⟩
theorem BR (R:Nat) (F:Value) (l:List UInt8) (e:Nat) (w:World) (h:Ro w R l e) (he:e≠0) :
 Calls Tryz.prog 196 #[.pointer (some ⟨R,0,none⟩),F] w fun r w'=>r=.returned (.string ⟨#[]⟩)∧w=w':=by
 obtain ⟨T,_,_,hrow⟩:=h;obtain ⟨_,c1,_,_,_⟩:=hrow.cells;rw [iK he] at c1;clear hrow he;go_enter Tryz.func196,Tryz.ntmps196
 go_wp2;go_ret;exact ⟨rfl,rfl⟩
theorem BQ (R:Nat) (l:List UInt8) (M:Nat) (most:Int) (n:Nat) (k x:Nat) (w:World) (h:Ro w R l 0) (hm0 : -9223372036854775808≤most) (hm1:most≤9223372036854775807) (hM:w.cell? ⟨M,0,none⟩=some (.int .i64 most)) (hi:intL l most=(n,k,x)) (hk:k≤l.length) :
 Calls Tryz.prog 193 #[.pointer (some ⟨R,0,none⟩),.func (.func 194) #[] #[.pointer (some ⟨M,0,none⟩)]] w fun r w'=>r=.returned (.int .i64 (n:Int))∧Ro w' R (l.drop k) x∧w.grownBy w' (some R):=by
 obtain ⟨T,rfl,hT,hrow⟩:=h;have HI:=hid hi;have HT:=hid hT;have HROW:=hid hrow;have HM:Hid (T.size≤maxLen):=hid (by unfold maxLen;omega);obtain ⟨c0,c1,z0,z1,hR⟩:=hrow.cells;rw [eY] at c1;have d1:(0:Int)≤(k:Int):=by omega
 have d2:(k:Int)≤(T.size:Int):=by rw [aj];omega
 have H0:=hid hm0;have H1:=hid hm1;have HMC:=hid hM;clear hm0 hm1 hM;clear hi hrow hT hk;rcases ku x with hq | hq
 all_goals
  have HQ:=hid hq;clear hq;go_enter Tryz.func193,Tryz.ntmps193
  go_wp2_with fail
  refine (Ch T M most n k x w HM.out H0.out H1.out HMC.out HI.out).mono ?_;rintro r w1 ⟨rfl,hb1⟩;rw [HQ.out];have HB1:=hid hb1;have HR1:Hid (RoT w1 R T 0):=hid ((hb1.block R hR).trans HROW.out);clear c0 c1 z0 z1 hb1;obtain ⟨c0,c1,z0,z1,_⟩:=HR1.out.cells;rw [eY] at c1;go_wp2;go_ret;refine ⟨rfl,⟨T.extract k T.size,kp,kz HT.out,?_⟩,kI HB1.out _ _⟩;rw [←HQ.out];exact HR1.out.put _ x
theorem BP (R:Nat) (l:List UInt8) (n:Nat) (k x:Nat) (w:World) (h:Ro w R l 0)  (hi:ar l=(n,k,x)) (hk:k≤l.length) :
 Calls Tryz.prog 193 #[.pointer (some ⟨R,0,none⟩),.func (.func 195) #[] #[]] w fun r w'=>r=.returned (.int .i64 (n:Int))∧Ro w' R (l.drop k) x∧w.grownBy w' (some R):=by
 obtain ⟨T,rfl,hT,hrow⟩:=h;have HI:=hid hi;have HT:=hid hT;have HROW:=hid hrow;have HM:Hid (T.size≤maxLen):=hid (by unfold maxLen;omega);obtain ⟨c0,c1,z0,z1,hR⟩:=hrow.cells;rw [eY] at c1;have d1:(0:Int)≤(k:Int):=by omega
 have d2:(k:Int)≤(T.size:Int):=by rw [aj];omega
 clear hi hrow hT hk;rcases ku x with hq | hq
 all_goals
  have HQ:=hid hq;clear hq;go_enter Tryz.func193,Tryz.ntmps193
  go_wp2_with fail
  refine (C3 T n k x w HM.out HI.out).mono ?_;rintro r w1 ⟨rfl,hb1⟩;rw [HQ.out];have HB1:=hid hb1;have HR1:Hid (RoT w1 R T 0):=hid ((hb1.block R hR).trans HROW.out);clear c0 c1 z0 z1 hb1;obtain ⟨c0,c1,z0,z1,_⟩:=HR1.out.cells;rw [eY] at c1;go_wp2;go_ret;refine ⟨rfl,⟨T.extract k T.size,kp,kz HT.out,?_⟩,kI HB1.out _ _⟩;rw [←HQ.out];exact HR1.out.put _ x
theorem BS (R:Nat) (l:List UInt8) (K:ByteArray) (k x:Nat) (w:World) (h:Ro w R l 0)  (hi:getS l=(K.data.toList,k,x)) (hk:k≤l.length) :
 Calls Tryz.prog 196 #[.pointer (some ⟨R,0,none⟩),.func (.func 197) #[] #[]] w fun r w'=>r=.returned (.string K)∧Ro w' R (l.drop k) x∧w.grownBy w' (some R):=by
 obtain ⟨T,rfl,hT,hrow⟩:=h;have HI:=hid hi;have HT:=hid hT;have HROW:=hid hrow;have HM:Hid (T.size≤maxLen):=hid (by unfold maxLen;omega);obtain ⟨c0,c1,z0,z1,hR⟩:=hrow.cells;rw [eY] at c1;have d1:(0:Int)≤(k:Int):=by omega
 have d2:(k:Int)≤(T.size:Int):=by rw [aj];omega
 clear hi hrow hT hk;rcases ku x with hq | hq
 all_goals
  have HQ:=hid hq;clear hq;go_enter Tryz.func196,Tryz.ntmps196
  go_wp2_with fail
  refine (Cx T K k x w HT.out HI.out).mono ?_;rintro r w1 ⟨rfl,hb1⟩;rw [HQ.out];have HB1:=hid hb1;have HR1:Hid (RoT w1 R T 0):=hid ((hb1.block R hR).trans HROW.out);clear c0 c1 z0 z1 hb1;obtain ⟨c0,c1,z0,z1,_⟩:=HR1.out.cells;rw [eY] at c1;go_wp2;go_ret;refine ⟨rfl,⟨T.extract k T.size,kp,kz HT.out,?_⟩,kI HB1.out _ _⟩;rw [←HQ.out];exact HR1.out.put _ x
theorem rK {w w':World} {o:Obj} {row:Option Nat} (h:(w.alloc o).grownBy w' row):w.grownBy w' row :=
 ⟨h.os,h.tape,h.output,Nat.le_trans (by simp) h.size,fun k hk hne=>(h.block k (by simp;omega) hne).trans (Below.heap_alloc _ _ _ hk)⟩
theorem gX (R:Nat) (most:Int) (l l':List UInt8) (e e' n:Nat) (w:World) (h:Ro w R l e) (hm0 : -9223372036854775808≤most) (hm1:most≤9223372036854775807) (hn:numS most l e=(n,l',e')) :
 Calls Tryz.prog 161 #[.pointer (some ⟨R,0,none⟩),.int .i64 most] w fun r w'=>r=.returned (.int .i64 (n:Int))∧Ro w' R l' e'∧w.grownBy w' (some R):=by
 have hmf:∀ (fn:Fn) (first cap:Array Value) (w:World),(Instr.makeFunc fn first cap).run Tryz.prog w=.ok (.func fn first cap) w:=fun _ _ _ _=>rfl
 have H:=hid (h.below ((Below.refl _ _).alloc (Nat.le_refl _) (.cells #[.int .i64 most] 3)));by_cases he:e=0
 ·subst he;obtain ⟨n',k,x,hi⟩:∃ n k x,intL l most=(n,k,x):=⟨_,_,_,rfl⟩;rw [cP hi] at hn;injection hn with i1 hn;injection hn with i2 i3
  subst i1 i2 i3;have HI:=hid hi;have HK:=hid (rS hi).1;have H0:=hid hm0;have H1:=hid hm1;clear hi h hm0 hm1;go_enter Tryz.func161,Tryz.ntmps161
  go_wp2_with fail
  refine (BQ R l w.heap.size most n' k x _ H.out H0.out H1.out (by simp) HI.out HK.out).mono ?_;rintro r w1 ⟨rfl,hr1,hg1⟩;have HR1:=hid hr1;have HG1:=hid (rK hg1);clear hr1 hg1;go_wp2;go_ret;exact ⟨rfl,HR1.out,HG1.out⟩
 ·rw [dG he] at hn;injection hn with i1 hn;injection hn with i2 i3
  subst i1 i2 i3;clear h hm0 hm1;go_enter Tryz.func161,Tryz.ntmps161
  go_wp2_with fail
  refine (sP R _ l e _ H.out he).mono ?_;rintro r w1 ⟨rfl,rfl⟩;go_wp2;go_ret;exact ⟨rfl,H.out,rK (nB _ _)⟩
theorem C1 (R:Nat) (l l':List UInt8) (e e' n:Nat) (w:World) (h:Ro w R l e) (hn:dV l e=(n,l',e')) :
 Calls Tryz.prog 193 #[.pointer (some ⟨R,0,none⟩),.func (.func 195) #[] #[]] w fun r w'=>r=.returned (.int .i64 (n:Int))∧Ro w' R l' e'∧w.grownBy w' (some R):=by
 by_cases he:e=0
 ·subst he;obtain ⟨n',k,x,hi⟩:∃ n k x,ar l=(n,k,x):=⟨_,_,_,rfl⟩;rw [kQ hi] at hn;injection hn with i1 hn;injection hn with i2 i3
  subst i1 i2 i3;exact BP R l n' k x w h hi (Au hi).1
 ·rw [sd he] at hn;injection hn with i1 hn;injection hn with i2 i3
  subst i1 i2 i3;refine (sP R _ l e w h he).mono ?_;rintro r w' ⟨rfl,rfl⟩;exact ⟨rfl,h,nB _ _⟩
theorem Cw (R:Nat) (l l':List UInt8) (K:ByteArray) (e e':Nat) (w:World) (h:Ro w R l e) (hn:dy l e=(K.data.toList,l',e')) :
 Calls Tryz.prog 196 #[.pointer (some ⟨R,0,none⟩),.func (.func 197) #[] #[]] w fun r w'=>r=.returned (.string K)∧Ro w' R l' e'∧w.grownBy w' (some R):=by
 by_cases he:e=0
 ·subst he;obtain ⟨t,k,x,hi⟩:∃ n k x,getS l=(n,k,x):=⟨_,_,_,rfl⟩;rw [oO hi] at hn;injection hn with i1 hn;injection hn with i2 i3
  subst i1 i2 i3;exact BS R l K k x w h hi (ru hi).1
 ·rw [jt he] at hn;injection hn with i1 hn;injection hn with i2 i3
  subst i2 i3;refine (BR R _ l e w h he).mono ?_;rintro r w' ⟨rfl,rfl⟩;refine ⟨?_,h,nB _ _⟩;have:K=⟨#[]⟩:=by rw [←bW K,←i1]
  rw [this]
end
section
open Go.RowKit
theorem rV (v:Value) (xT:TypeId) (w:World):(Instr.typeAssert (.iface 68 v) xT 41 true).run Tryz.prog w=.ok (.tuple #[.iface 68 v,.bool true]) w :=
 run_typeAssert_hasB Tryz.underlying41 (by kernel_rfl) v xT w
theorem rU (v:Value) (xT:TypeId) (w:World):(Instr.typeAssert (.iface 84 v) xT 41 true).run Tryz.prog w=.ok (.tuple #[.iface 84 v,.bool true]) w :=
 run_typeAssert_hasB Tryz.underlying41 (by kernel_rfl) v xT w
theorem rW (xT:TypeId) (w:World):(Instr.typeAssert .nilIface xT 41 true).run Tryz.prog w=.ok (.tuple #[.nilIface,.bool false]) w:=by kernel_rfl
theorem y9 (E:Nat) (w:World) :
 CallsD Tryz.prog 138 #[.pointer (some ⟨E,0,none⟩)] .returning w fun r u' w'=>r=.returned (.tuple #[])∧u'=.returning∧w'=w:=by
 have iN:=rW;refine callsD_of_wpS Tryz.func138 rfl fun c₀ cs hu=>?_
 apply wpS_seq
 apply wpS_region
 simp [wpOpsS,go_sem,recoverD,hu,Tryz.ntmps138,Exit.thenS,iN]
 refine wpS_of_wp ?_;rw [show (#[.pointer (some ⟨E,0,none⟩)]++(((((((Array.replicate 9 undef).setIfInBounds 3 .nilIface).setIfInBounds 4 (.tuple #[.nilIface,.bool false])).setIfInBounds 2 (.tuple #[.nilIface,.bool false])).setIfInBounds 5 .nilIface).setIfInBounds 6 (.bool false)).setIfInBounds 0 .nilIface).setIfInBounds 1 (.bool false):Array Value)=#[.pointer (some ⟨E,0,none⟩),.nilIface,.bool false,.tuple #[.nilIface,.bool false],.nilIface,.tuple #[.nilIface,.bool false],.nilIface,.bool false,undef,undef] by kernel_rfl];go_wp2;cases c₀
 simp_all [bodyPostS,results,Tryz.results138]
theorem ya (E:Nat) (t:TypeId) (v old:Value) (older:List PanicEntry) (w:World) (ht:t=68∨t=84) (h0:w.cell? ⟨E,0,none⟩=some old) (z0:w.frozen? ⟨E,0,none⟩=false) :
 CallsD Tryz.prog 138 #[.pointer (some ⟨E,0,none⟩)] (.panicking ({ v:=.iface t v,recovered:=false }::older)) w fun r u' w' =>
  r=.returned (.tuple #[])∧u'=.panicking ({ v:=.iface t v,recovered:=true }::older)∧w'=w.setCell ⟨E,0,none⟩ (.iface t v):=by
 have iT:∀ (xT:TypeId) (w:World),(Instr.typeAssert (.iface t v) xT 41 true).run Tryz.prog w=.ok (.tuple #[.iface t v,.bool true]) w:=by
  rcases ht with rfl | rfl
  ·exact fun xT w=>rV v xT w
  ·exact fun xT w=>rU v xT w
 refine callsD_of_wpS Tryz.func138 rfl fun c₀ cs hu=>?_
 apply wpS_seq
 apply wpS_region
 simp [wpOpsS,go_sem,recoverD,hu,Tryz.ntmps138,Exit.thenS,iT]
 refine wpS_of_wp ?_;rw [show (#[.pointer (some ⟨E,0,none⟩)]++(((((((Array.replicate 9 undef).setIfInBounds 3 (.iface t v)).setIfInBounds 4 (.tuple #[.iface t v,.bool true])).setIfInBounds 2 (.tuple #[.iface t v,.bool true])).setIfInBounds 5 (.iface t v)).setIfInBounds 6 (.bool true)).setIfInBounds 0 (.iface t v)).setIfInBounds 1 (.bool true):Array Value)=#[.pointer (some ⟨E,0,none⟩),.iface t v,.bool true,.tuple #[.iface t v,.bool true],.iface t v,.tuple #[.iface t v,.bool true],.iface t v,.bool true,undef,undef] by kernel_rfl];go_wp2;simp [bodyPostS,results,Tryz.results138]
theorem ax.typed {w:World} {t:TypeId} {v:Value} {r:Nat×Int} (h:ax w (.iface t v) r):t=68∨t=84:=by
 rcases h with (⟨_,h⟩ | ⟨_,b,h,_⟩) | ⟨_,_,h⟩
 ·cases h
 ·injection h with h1 h2;exact .inr h1
 ·injection h with h1 h2;exact .inl h1
theorem ax.set {w:World} {v x:Value} {r:Nat×Int} {E:Nat} (h:ax w v r) (hE:w.cell? ⟨E,0,none⟩=some .nilIface):ax (w.setCell ⟨E,0,none⟩ x) v r:=by
 rcases h with (h | ⟨h0,b,h1,h2,h3,h4⟩) | h
 ·exact .inl (.inl h)
 ·have hne:b≠E:=fun e=>by rw [e,hE] at h3;cases h3
  refine .inl (.inr ⟨h0,b,h1,by simpa using h2,?_,?_⟩)
  ·rw [World.cell?_setCell_other _ _ _ _ (by intro e;first | (simp at e;done) | (simp at e;omega))];exact h3
  ·rw [World.cell?_setCell_other _ _ _ _ (by intro e;simp at e)];exact h4
 ·exact .inr h
def jL (w:World) (r:List UInt8×Nat×Int) (e:Ending) (w':World):Prop :=
 ∃ err,e=.returned (.tuple #[.string ⟨r.1.toArray⟩,err])∧ax w' err r.2∧Below w.heap.size w w'
def lI (E:Nat):List Deferred:=[{ target:=.fn (Fn.func 138) #[.pointer (some ⟨E,0,none⟩)],args:=#[] }]
theorem DJ {w W:World} {r:List UInt8×Nat×Int} {t:TypeId} {v:Value} (hb:Below w.heap.size w W) (hE:W.heap[w.heap.size]? = some (.cells #[.nilIface] 41 (0,0))) (hr1:r.1=[]) (ha:ax W (.iface t v) r.2) (tmps:Array Value)
 (t2:tmps[2]? = some (.string ⟨#[]⟩)) (t3:tmps[3]? = some (.pointer (some ⟨w.heap.size,0,none⟩))) :
 Leaves Tryz.prog Tryz.f110 tmps (jL w r) (lI w.heap.size) (.panicking [{ v:=.iface t v,recovered:=false }]) W:=by
 have c0:W.cell? ⟨w.heap.size,0,none⟩=some .nilIface:=cell_of_row _ _ 0 _ _ (0,0) hE;unfold lI;refine leaves_cons (f:=138) (args:=#[.pointer (some ⟨w.heap.size,0,none⟩)]) (by simp) (by simp [go_sem]) ?_;refine (ya w.heap.size t v .nilIface [] W ha.typed c0 (Lib.frozen_of_heap hE 0)).mono ?_;rintro r' u' w2 ⟨rfl,rfl,rfl⟩;have p0:(W.setCell ⟨w.heap.size,0,none⟩ (.iface t v)).cell? ⟨w.heap.size,0,none⟩=some (.iface t v):=World.cell?_setCell_same _ _ _ c0;refine ⟨.tuple #[.string ⟨#[]⟩,.iface t v],by simp [results,Tryz.results110,go_sem,t2,t3,p0],.iface t v,?_,ha.set c0,hb.setCell (by simp) _⟩;rw [hr1]
theorem DK {w W:World} {r:List UInt8×Nat×Int} (hb:Below w.heap.size w W) (hE:W.heap[w.heap.size]? = some (.cells #[.nilIface] 41 (0,0))) (hr2:r.2=(0,-1)) (tmps:Array Value)
 (t2:tmps[2]? = some (.string ⟨r.1.toArray⟩)) (t3:tmps[3]? = some (.pointer (some ⟨w.heap.size,0,none⟩))) :
 Leaves Tryz.prog Tryz.f110 tmps (jL w r) (lI w.heap.size) .returning W:=by
 have c0:W.cell? ⟨w.heap.size,0,none⟩=some .nilIface:=cell_of_row _ _ 0 _ _ (0,0) hE;unfold lI;refine leaves_cons (f:=138) (args:=#[.pointer (some ⟨w.heap.size,0,none⟩)]) (by simp) (by simp [go_sem]) ?_;refine (y9 w.heap.size W).mono ?_;rintro r' u' w2 ⟨rfl,rfl,rfl⟩;refine ⟨.tuple #[.string ⟨r.1.toArray⟩,.nilIface],by simp [results,Tryz.results110,go_sem,t2,t3,c0],.nilIface,rfl,?_,hb⟩;exact .inl (.inl ⟨hr2,rfl⟩)
theorem y8 (b:Nat) (w:World) (r:List UInt8×Nat×Int) (hf:Calls Tryz.prog 111 #[.pointer (some ⟨b,0,none⟩)] (w.alloc (.cells #[.nilIface] 41)) (iw (w.alloc (.cells #[.nilIface] 41)) r)) :
 Calls Tryz.prog 110 #[.func (.func 111) #[] #[.pointer (some ⟨b,0,none⟩)]] w (jL w r):=by
 have hmf:∀ (fn:Fn) (first cap:Array Value) (w:World),(Instr.makeFunc fn first cap).run Tryz.prog w=.ok (.func fn first cap) w:=fun _ _ _ _=>rfl
 have HF:=hid hf;clear hf
 go_enter_defers Tryz.func110,Tryz.ntmps110
 go_wp2_with fail
 refine HF.out.mono ?_;rintro e w1 ⟨hb1,hc⟩;have hbw:Below w.heap.size w w1:=((Below.refl _ _).alloc (Nat.le_refl _) _).trans (hb1.mono (by simp));have hE:w1.heap[w.heap.size]? = some (.cells #[.nilIface] 41 (0,0)):=(hb1.block _ (by simp)).trans (heap_alloc_new w _);have HB:=hid hbw;have HE:=hid hE;rcases hc with ⟨hr,rfl⟩ | ⟨hne,hr1,t,v,rfl,ha⟩
 ·have c0:w1.cell? ⟨w.heap.size,0,none⟩=some .nilIface:=cell_of_row _ _ 0 _ _ (0,0) hE;have z0:w1.frozen? ⟨w.heap.size,0,none⟩=false:=Lib.frozen_of_heap hE 0;have HR:=hid hr;have HS:Hid ((w1.setCell ⟨w.heap.size,0,none⟩ .nilIface).heap[w.heap.size]? = some (.cells #[.nilIface] 41 (0,0))):=hid (by rw [heap_setCell_same _ _ _ _ _ _ hE];rfl);have HBS:Hid (Below w.heap.size w (w1.setCell ⟨w.heap.size,0,none⟩ .nilIface)):=hid (hbw.setCell (by simp) _);clear hb1 hbw hE hr;go_wp2;exact DK HBS.out HS.out HR.out _ rfl rfl
 ·exact DJ HB.out HE.out hr1 ha _ rfl rfl
theorem GB (b:Nat) (vf vh vw:Value) (f h:List Ent) (l:List Wr) (w:World) (hx:aC w vf vh vw f h l) (hg:errT w) (hc:fp w b vf vh vw) :
 Calls Tryz.prog 111 #[.pointer (some ⟨b,0,none⟩)] w (iw w (aJ f h l)):=by
 have HX:=hid hx;have HG:=hid hg;obtain ⟨c0,c1,c2⟩:=hc;obtain ⟨af,cf,rfl,_⟩:=hx.1.form;obtain ⟨ah,ch,rfl,_⟩:=hx.2.1.form;obtain ⟨aw,cw,rfl,_⟩:=hx.2.2.1.form;generalize f.length=nf at HX c0 ⊢;generalize h.length=nh at HX c1 ⊢;generalize l.length=n at HX c2 ⊢;clear hx hg;have hw:Calls Tryz.prog 112 #[.agg #[.slice af nf cf,.slice ah nh ch,.slice aw n cw]] w (iw w (aJ f h l)):=by
  by_cases h0:(batF f h l).1=0
  ·exact GF _ _ _ f h l w HX.out HG.out h0
  ·exact GE _ _ _ f h l w HX.out HG.out h0
 have HW:=hid hw;clear hw;go_enter Tryz.func111,Tryz.ntmps111
 go_wp2_with fail
 refine HW.out.mono ?_;rintro e w1 ⟨hb1,hc⟩;rcases hc with ⟨hr,rfl⟩ | ⟨hne,hr1,t,v,rfl,ha⟩
 ·have HB:=hid hb1;have HR:=hid hr;clear hb1 hr;go_wp2;go_ret;exact ⟨HB.out,.inl ⟨HR.out,rfl⟩⟩
 ·exact And.intro rfl ⟨hb1,.inr ⟨hne,hr1,t,v,rfl,ha⟩⟩
theorem jZ (vf vh vw:Value) (f h:List Ent) (l:List Wr) (w:World) (hx:aC w vf vh vw f h l) (hg:errT w) :
 Calls Tryz.prog 85 #[.agg #[vf,vh,vw]] w (jL w (aJ f h l)):=by
 have hmf:∀ (fn:Fn) (first cap:Array Value) (w:World),(Instr.makeFunc fn first cap).run Tryz.prog w=.ok (.func fn first cap) w:=fun _ _ _ _=>rfl
 obtain ⟨W0,hW0⟩:∃ W0,w.alloc (.cells #[vf,vh,vw] 47)=W0:=⟨_,rfl⟩;have hb0:Below w.heap.size w W0:=by rw [←hW0];exact (Below.refl _ _).alloc (Nat.le_refl _) _
 have hz0:w.heap.size<W0.heap.size:=by rw [←hW0];simp
 have hc:=eV w vf vh vw 47;rw [hW0] at hc;have hx0:aC W0 vf vh vw f h l:=hx.below hb0;have hcat:=y8 w.heap.size W0 (aJ f h l) (GB w.heap.size vf vh vw f h l _ (hx0.alloc _) ((hg.below hb0).alloc _) (hc.below ((Below.refl _ _).alloc (Nat.le_refl _) _) hz0));have HCAT:=hid hcat;have HB0:=hid hb0;obtain ⟨af,cf,rfl,_⟩:=hx.1.form;obtain ⟨ah,ch,rfl,_⟩:=hx.2.1.form;obtain ⟨aw,cw,rfl,_⟩:=hx.2.2.1.form;generalize f.length=nf at hW0 ⊢;generalize h.length=nh at hW0 ⊢;generalize l.length=n at hW0 ⊢;clear hx hg hb0 hz0 hc hx0 hcat;go_enter Tryz.func85,Tryz.ntmps85
 go_wp2_with fail
 refine HCAT.out.mono ?_;rintro e w1 ⟨err,rfl,ha,hb1⟩;have HA:=hid ha;have HB1:Hid (Below w.heap.size w w1):=HB0.out.trans (hb1.mono HB0.out.size);clear ha hb1;go_wp2;go_ret2;exact ⟨err,rfl,HA.out,HB1.out⟩
end
