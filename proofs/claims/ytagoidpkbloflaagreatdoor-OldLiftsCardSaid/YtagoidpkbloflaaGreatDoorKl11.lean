import Derived.Test.YtagoidpkbloflaaGreatDoorKlq
import Derived.Test.YtagoidpkbloflaaGreatDoorKl09
import Derived.ChangeVars
import Derived.JoinedOf
import Derived.RowKit
import Derived.LaidLaws
import Derived.LaidHandle
import Derived.Stop.Joined
namespace Go.Proofs.YtagoidpkbloflaaGreatDoor
open Lib (hid)
set_option maxRecDepth 100000
set_option maxHeartbeats 8000000
section
open Go.RowKit Go.Extern.Stop Go.Stop Go.Extern
theorem tB (e:Int) (b off:Nat) (t:Addr) (old:Value) (w:World) (hg:errT w) (ht0:w.cell? t=some old) (hf0:w.frozen? t=false) (hp:w.cell? ⟨b,off,none⟩=some (.int .i64 e)) :
 Calls Tryz.prog 94 #[.iface 103 (.pointer (some ⟨b,off,none⟩)),.iface 151 (.pointer (some t))] w fun ev w'=>ev=.returned (.bool true)∧((dM w t).alloc (.cells #[.int .i64 e] 26)).setCell t (.int .i64 e)=w':=by
 unfold dM;unfold errT at hg;have h6:=@DR Tryz.prog 142 _ (fun args=>ReflectliteValue.unpack (args.getD 0 (.tuple #[]))) Tryz.func142 (by kernel_rfl) (by kernel_rfl) (by kernel_rfl) (by kernel_rfl)
 have h7 := @DR Tryz.prog 143 _ (ReflectliteValue.methodAny (ReflectliteValue.valueError "reflectlite.Value.Type" 0) (fun t _ _ _ => ReflectliteType.toType t)) Tryz.func143 (by kernel_rfl) (by kernel_rfl) (by kernel_rfl) (by kernel_rfl)
 have h8 := @DR Tryz.prog 144 _ (ReflectliteValue.method (ReflectliteValue.valueError "reflectlite.Value.IsNil" 0) ReflectliteValue.isNil) Tryz.func144 (by kernel_rfl) (by kernel_rfl) (by kernel_rfl) (by kernel_rfl)
 have h27:=@DR Tryz.prog 235 _ (ReflectliteType.abiMethod fun t=>do pure (.int .u8 (←Rtype.kind t))) Tryz.func235 (by kernel_rfl) (by kernel_rfl) (by kernel_rfl) (by kernel_rfl);have h37:=@DR Tryz.prog 248 _ (ReflectliteType.method ReflectliteType.elem) Tryz.func248 (by kernel_rfl) (by kernel_rfl) (by kernel_rfl) (by kernel_rfl)
 have h38 := @DR Tryz.prog 249 _ (ReflectliteType.relation "Implements" ReflectliteType.implements_) Tryz.func249 (by kernel_rfl) (by kernel_rfl) (by kernel_rfl) (by kernel_rfl)
 have h10:=@DR Tryz.prog 182 _ ReflectliteType.typeOf Tryz.func182 (by kernel_rfl) (by kernel_rfl) (by kernel_rfl) (by kernel_rfl)
 have h35 := @DR Tryz.prog 246 _ (ReflectliteType.relation "AssignableTo" ReflectliteType.assignableTo) Tryz.func246 (by kernel_rfl) (by kernel_rfl) (by kernel_rfl) (by kernel_rfl)
 have h11 := @DR Tryz.prog 183 _ (ReflectliteValue.method (ReflectliteValue.valueError "reflectlite.Value.Elem" 0) ReflectliteValue.elem) Tryz.func183 (by kernel_rfl) (by kernel_rfl) (by kernel_rfl) (by kernel_rfl)
 have h12:=@DR Tryz.prog 184 _ ReflectliteValue.set Tryz.func184 (by kernel_rfl) (by kernel_rfl) (by kernel_rfl) (by kernel_rfl);have tO:=As.typeOfE;have mA:=As.methodAssignableTo;have aE:=As.assignableE;have vE:=As.valueOfE;have f6:=As.valueOfP;have f7:=As.typeP;have mK:=As.methodKind;have mE:=As.methodElem;have mI:=As.methodImplements;have kP:=As.kindP;have kE:=As.kindE;have eP:=As.elemP;have iE:=As.implementsE;have tA:=As.typeOfA;have nA:=As.noAsA;have uA:=As.unwrapA;have aA:=As.assignableA;have hbl:b<w.heap.size:=bc hp;have hp3:(((w.alloc (.cells #[.pointer (some t)] 151)).alloc (.cells #[.pointer (some ⟨5,151,none⟩),.pointer (some ⟨w.heap.size,0,none⟩),.int .u64 150] 198)).alloc (.cells #[.pointer (some ⟨5,151,none⟩),.pointer (some ⟨w.heap.size,0,none⟩),.int .u64 150] 198)).cell? ⟨b,off,none⟩=some (.int .i64 e):=by
  rw [DC _ _ ⟨b,off,none⟩ (by simp;omega),DC _ _ ⟨b,off,none⟩ (by simp;omega),DC _ _ ⟨b,off,none⟩ hbl];exact hp
 have htl:=bc ht0;have hlt:0<w.heap.size:=bc hg;have n8:=As.isNilP ⟨w.heap.size,0,none⟩ t ((w.alloc (.cells #[.pointer (some t)] 151)).alloc (.cells #[.pointer (some ⟨5,151,none⟩),.pointer (some ⟨w.heap.size,0,none⟩),.int .u64 150] 198)) (by simp);have hg2:((w.alloc (.cells #[.pointer (some t)] 151)).alloc (.cells #[.pointer (some ⟨5,151,none⟩),.pointer (some ⟨w.heap.size,0,none⟩),.int .u64 150] 198)).cell? ⟨0,0,none⟩=some (.iface 237 (.agg #[.pointer (some ⟨5,32,none⟩)])):=by
  rw [DC _ _ ⟨0,0,none⟩ (by simp only [DE];omega),DC _ _ ⟨0,0,none⟩ hlt];exact hg
 have el:=As.elemVP ⟨w.heap.size,0,none⟩ t (((w.alloc (.cells #[.pointer (some t)] 151)).alloc (.cells #[.pointer (some ⟨5,151,none⟩),.pointer (some ⟨w.heap.size,0,none⟩),.int .u64 150] 198)).alloc (.cells #[.pointer (some ⟨5,151,none⟩),.pointer (some ⟨w.heap.size,0,none⟩),.int .u64 150] 198)) (by rw [DC _ _ ⟨w.heap.size,0,none⟩ (by simp;omega)];simp)
 have st:=As.setE t ⟨w.heap.size+1+1+1,0,none⟩ e old ((((w.alloc (.cells #[.pointer (some t)] 151)).alloc (.cells #[.pointer (some ⟨5,151,none⟩),.pointer (some ⟨w.heap.size,0,none⟩),.int .u64 150] 198)).alloc (.cells #[.pointer (some ⟨5,151,none⟩),.pointer (some ⟨w.heap.size,0,none⟩),.int .u64 150] 198)).alloc (.cells #[.int .i64 e] 26))
  (by rw [World.cell?_alloc_at _ _ _ _ (by simp)];rfl)
  (by rw [DC _ _ t (by simp;omega),DC _ _ t (by simp;omega),DC _ _ t (by simp;omega),DC _ _ t htl];exact ht0)
  (by rw [EF _ _ t (by simp;omega),EF _ _ t (by simp;omega),EF _ _ t (by simp;omega),EF _ _ t (Nat.ne_of_lt htl)];exact hf0)
 go_enter Tryz.func94,Tryz.ntmps94
 go_wp2;refine EA 2 ?_;rw [Ec];go_wp2;rw [Ec];go_wp2;go_ret;exact ⟨rfl,rfl⟩
end
section
open Go.RowKit
def dX (l:List Tok) (b:List Nat):Nat×Int:=if (a8 l 0 0).1=0 then (0,-1) else ((a8 l 0 0).1,((b.getD (a8 l 0 0).2.toNat 0:Nat):Int))
theorem qY {l:List Tok} {i a:Nat} (h:(a8 l i a).1≠0):∃ j,(a8 l i a).2=((i+j:Nat):Int)∧j<l.length:=by
 induction l generalizing i a with
 | nil=>exact absurd rfl h
 | cons t r ih =>
  by_cases hw:ap t a=0
  ·rw [eA hw] at h ⊢;obtain ⟨j,h1,h2⟩:=ih h;exact ⟨j+1,by rw [h1];congr 1;omega,by simp;omega⟩
  ·rw [ez hw];exact ⟨0,by simp,by simp⟩
theorem xy (v bv:Value) (l:List Tok) (b:List Nat) (base:Nat) (w:World) (hv:bX w v l) (hl:l.length≤9223372036854775807) (hz:∀ t∈l,t.own.size≤140737488351232) (hb:aG w base bv b) (hbl:b.length=l.length) :
 Calls Tryz.prog 150 #[v,bv] w (jc w (dX l b)):=by
 have iA:=As.isAtA;have nA:∀ (xT:TypeId) (w:World),(Instr.typeAssert .nilIface xT 103 true).run Tryz.prog w=.ok (.tuple #[.pointer none,.bool false]) w:=fun xT w=>by kernel_rfl
 by_cases hr:(a8 l 0 0).1=0
 ·have HRB:Hid (dX l b=(0,-1)):=hid (show dX l b=(0,-1) by unfold dX;rw [if_pos hr]);have HR0:=hid hr;have HV:=hid hv;have HZ:=hid hz;clear hr hv hz hb hbl;rw [HRB.out];go_enter Tryz.func150,Tryz.ntmps150
  go_wp2_with fail
  refine (gq _ l _ HV.out hl HZ.out).mono ?_;rintro r w0 ⟨err,rfl,hat,hb0⟩;obtain rfl:err=.nilIface:=by
   rcases hat with ⟨_,h⟩ | ⟨h,_⟩
   ·exact h
   ·exact absurd HR0.out h
  have HB0:=hid hb0;clear hat hb0;go_wp2;go_ret;exact ⟨_,rfl,.inl ⟨rfl,rfl⟩,HB0.out⟩
 ·obtain ⟨j,hj,hjl⟩:=qY hr;rw [DY] at hj;obtain ⟨e,he⟩:∃ e,(a8 l 0 0).1=e:=⟨_,rfl⟩;have hre:a8 l 0 0=(e,(j:Int)):=Prod.ext he hj;have hne:e≠0:=by rw [←he];exact hr
  obtain ⟨q,hq⟩:∃ q,b.getD j 0=q:=⟨_,rfl⟩;have HRB:Hid (dX l b=(e,(q:Int))):=hid (show dX l b=(e,(q:Int)) by unfold dX;rw [if_neg hr,hre];simp only [E2];rw [hq]);have HRE:=hid hre;have HNE:=hid hne;have HV:=hid hv;have HZ:=hid hz;have HBO:=hid hb;rcases hb.forms with ⟨_,hnil⟩ | ⟨g,cap,rfl,hbg,hgl,hcells⟩
  ·rw [hnil] at hbl;simp at hbl;omega
  ·have hcj:=hcells j (by omega);rw [hq] at hcj;have hjb:(j:Int)<(b.length:Int):=by omega
   have hj0:(0:Int)≤(j:Int):=by omega
   obtain ⟨n,hn⟩:∃ n,n=b.length:=⟨_,rfl⟩;rw [←hn] at hjb ⊢;clear hr hj he hre hne hv hz hb hbl hcells hjl hq hn;rw [HRB.out];go_enter Tryz.func150,Tryz.ntmps150
   go_wp2_with fail
   refine (gq _ l _ HV.out hl HZ.out).mono ?_;rintro r w0 ⟨err,rfl,hat,hb0⟩;rw [HRE.out] at hat;rcases hat with ⟨h,_⟩ | ⟨_,a,rfl,ha,c0,c1⟩
   ·exact absurd (congrArg Prod.fst h) HNE.out
   ·simp only at c0 c1
    have c2:w0.cell? ⟨g,j,none⟩=some (.int .i64 (q:Int)):=(hb0.cell hgl).trans hcj;have HB0:=hid hb0;have hsz:=hb0.size;clear hb0 hcj;go_wp2;go_region
    go_wp2;go_ret;exact ⟨_,rfl,atIs.new w0 e (q:Int) HNE.out,(HB0.out.alloc hsz _).drew⟩
end
section
open Go.ChangeShapes Go.WideShapes Go.RowKit
def kH : List (String × DataW Unit) := [("errors.errorType", Rows.laid_errors_errorType)]
theorem own:ownKnob Tryz.prog.godebug=none:=by kernel_rfl
theorem xd : Tryz.prog.globalNamed "errors.errorType" = some 0 := by kernel_rfl
theorem xf : (Tryz.prog.cutTypes.find? (·.1 == "internal/reflectlite.rtype")).map (·.2) = some 237 := by kernel_rfl
theorem xg:Tryz.prog.types.size=303:=by kernel_rfl
theorem xe:((List.range 303).filter fun t=>Tryz.prog.rowNamed t [101,114,114,111,114])=[32]:=by kernel_rfl
theorem vG {W:World} (h:laidMetH Tryz.prog kH W):errT W:=by
 have h':laidMet Tryz.prog [] W∧handlesMet Tryz.prog kH W:=h;obtain ⟨name,u,ty,e1,e2,e3,e4,e5⟩:=h'.2 _ (Ek.2 rfl);have en:name=[101,114,114,111,114]:=(Dr e1).symm;subst en;obtain rfl:=Dr (xf.symm.trans e2);have hm:ty∈(List.range 303).filter fun t=>Tryz.prog.rowNamed t [101,114,114,111,114]:=List.mem_filter.2 ⟨List.mem_range.2 (by rw [←xg];exact e3),e4⟩
 rw [xe] at hm;obtain rfl:=Ek.1 hm;have hh:typeHandle Tryz.prog 32=.pointer (some ⟨5,32,none⟩):=by kernel_rfl
 rw [hh] at e5;unfold errT
 simpa using World.var?_cell xd e5 0
noncomputable def xb (os:Os):World :=
 let w0:=World.holding Tryz.prog os ⟨#[],#[],[]⟩
 { w0 with heap := w0.heap.modify 0 fun
     | .cells _ t frozen=>.cells #[.iface 237 (.agg #[.pointer (some ⟨5,32,none⟩)])] t frozen
     | o=>o }
end
section
open Go.RowKit
theorem jM (k:Nat) (hk:k<10) (w:World):Calls Tryz.prog 100 #[.int .i64 (k:Int)] w fun e w'=>e=.returned (.string ⟨(Lib.decDigits k).toArray⟩)∧w=w' :=
 (Tryz.strconv_Itoa_small k (by omega) w).mono fun e w' ⟨h1,h2⟩=>⟨h1,h2.symm⟩
theorem eZ (c:UInt8) (b:Bool) (w:World) (h:decide (0≤Lib.indexByte [50,51] c)=b):Calls Tryz.prog 99 #[.string ⟨#[50,51]⟩,.string ⟨#[c]⟩] w fun e w'=>e=.returned (.bool b)∧w=w' :=
 (Tryz.strings_Contains_one ⟨#[50,51]⟩ c w).mono fun e w' ⟨h1,h2⟩=>⟨by rw [h1];exact congrArg (fun x=>Ending.returned (.bool x)) h,h2.symm⟩
theorem pR (w:World):Calls Tryz.prog 100 #[.int .i64 1] w fun e w'=>e=.returned (.string ⟨#[49]⟩)∧w=w':=(jM 1 (by decide) w).mono fun e w' ⟨h1,h2⟩=>⟨by rw [h1];exact congrArg (fun x=>Ending.returned (.string ⟨x⟩)) (show (Lib.decDigits 1).toArray=#[49] by decide +kernel),h2⟩
theorem wR (w:World):Calls Tryz.prog 100 #[.int .i64 2] w fun e w'=>e=.returned (.string ⟨#[50]⟩)∧w=w':=(jM 2 (by decide) w).mono fun e w' ⟨h1,h2⟩=>⟨by rw [h1];exact congrArg (fun x=>Ending.returned (.string ⟨x⟩)) (show (Lib.decDigits 2).toArray=#[50] by decide +kernel),h2⟩
theorem wT (w:World):Calls Tryz.prog 100 #[.int .i64 3] w fun e w'=>e=.returned (.string ⟨#[51]⟩)∧w=w':=(jM 3 (by decide) w).mono fun e w' ⟨h1,h2⟩=>⟨by rw [h1];exact congrArg (fun x=>Ending.returned (.string ⟨x⟩)) (show (Lib.decDigits 3).toArray=#[51] by decide +kernel),h2⟩
theorem jL (w:World):Calls Tryz.prog 100 #[.int .i64 4] w fun e w'=>e=.returned (.string ⟨#[52]⟩)∧w=w':=(jM 4 (by decide) w).mono fun e w' ⟨h1,h2⟩=>⟨by rw [h1];exact congrArg (fun x=>Ending.returned (.string ⟨x⟩)) (show (Lib.decDigits 4).toArray=#[52] by decide +kernel),h2⟩
theorem gw (T R K:Int) (key val:ByteArray) (N:Int) (w:World) (hk:key.size≤140737488351232) (hv:val.size≤140737488351232) :
 Calls Tryz.prog 68 #[.agg #[.int .i64 T,.int .i64 R,.int .i64 K,.string key,.string val,.int .i64 N]] w fun e w'=>e=.returned (.int .i64 (wriE T R K key val N:Nat))∧Below w.heap.size w w':=by
 have HN0:=hid (fj w T R K key val N 78);by_cases hK:K<1∨4<K
 ·rw [sR hK];have hw:∀ w:World,Calls Tryz.prog 27 #[.int .i64 K,.int .i64 1,.int .i64 4] w fun e w'=>e=.returned (.bool false)∧w=w':=by
   intro w;by_cases h1:K<1
   ·exact bV K 1 4 w h1
   ·exact bU K 1 4 w (by omega) (by omega)
  go_enter Tryz.func68,Tryz.ntmps68
  go_wp2_with fail
  refine (hw _).mono ?_;rintro r w' ⟨rfl,rfl⟩;go_wp2;go_ret;exact ⟨rfl,(Below.refl _ _).alloc (Db _) _⟩
 ·have h1:1≤K:=by omega
  have h2:K≤4:=by omega
  cases hiD:idOk T R with
  | false =>
   rw [sQ hK hiD];go_enter Tryz.func68,Tryz.ntmps68
   go_wp2_with fail
   refine (aQ K 1 4 _ h1 h2).mono ?_;rintro r w' ⟨rfl,rfl⟩;go_wp2_with fail
   refine (qW T R false _ hiD).mono ?_;rintro r w1 ⟨rfl,hb1⟩;have HB1:=hid (((Below.refl _ _).alloc (Db _) _).trans (hb1.mono (by simp)));clear hb1;go_wp2;go_ret;exact ⟨rfl,HB1.out⟩
  | true =>
   go_enter Tryz.func68,Tryz.ntmps68
   go_wp2_with fail
   refine (aQ K 1 4 _ h1 h2).mono ?_;rintro r w' ⟨rfl,rfl⟩;go_wp2_with fail
   refine (qW T R true _ hiD).mono ?_;rintro r w1 ⟨rfl,hb1⟩;have HA1:=hid (HN0.out.below hb1 (by simp));have HB1:=hid (((Below.refl _ _).alloc (Db _) _).trans (hb1.mono (by simp)));have HID:=hid hiD;clear hb1 hiD;obtain ⟨c0,c1,c2,c3,c4,c5⟩:=HA1.out;by_cases hs:40<key.size∨300<val.size
   ·have HW:=hid (sT (N:=N) hK HID.out hs);by_cases h3:40<key.size
    ·go_wp2;go_ret;rw [HW.out];exact ⟨rfl,HB1.out⟩
    ·have h4:300<val.size:=by omega
     go_wp2;go_ret;rw [HW.out];exact ⟨rfl,HB1.out⟩
   ·have h3:¬ 40<key.size:=by omega
    have h4:¬ 300<val.size:=by omega
    have HW:=hid (sS (N:=N) hK HID.out hs);clear hs;have hcase:K=1∨K=2∨K=3∨K=4:=by omega
    clear hK h1 h2;rcases hcase with rfl | rfl | rfl | rfl
    ·skip
     by_cases hve:0<val.size
     ·have b0:¬ val.toList=[]:=by have:=eS hve;simpa using this
      by_cases hn:N=0
      ·subst hn;have HR:Hid (wriE T R 1 key val 0=0):=hid (by rw [HW.out];simp [hasV,hasN,aV,hve]);go_wp2_with (first | (go_at_call 100;refine (pR _).mono ?_;rintro r w2 ⟨rfl,rfl⟩) | (go_at_call 99;refine (eZ 49 false _ (by decide +kernel)).mono ?_;rintro r w3 ⟨rfl,rfl⟩))
       go_ret;rw [HR.out];exact ⟨rfl,HB1.out⟩
      ·skip
       have HR:Hid (wriE T R 1 key val N=3):=hid (by rw [HW.out];simp [hasV,hasN,hve,hn]);go_wp2_with (first | (go_at_call 100;refine (pR _).mono ?_;rintro r w2 ⟨rfl,rfl⟩) | (go_at_call 99;refine (eZ 49 false _ (by decide +kernel)).mono ?_;rintro r w3 ⟨rfl,rfl⟩))
       go_ret;rw [HR.out];exact ⟨rfl,HB1.out⟩
     ·obtain rfl:=eV hve;have z0:(⟨#[]⟩:ByteArray).size=0:=rfl;by_cases hn:N=0
      ·subst hn;have HR:Hid (wriE T R 1 key ⟨#[]⟩ 0=0):=hid (by rw [HW.out];simp [hasV,hasN,aV,z0]);go_wp2;go_ret;rw [HR.out];exact ⟨rfl,HB1.out⟩
      ·skip
       have HR:Hid (wriE T R 1 key ⟨#[]⟩ N=3):=hid (by rw [HW.out];simp [hasV,hasN,z0,hn]);go_wp2;go_ret;rw [HR.out];exact ⟨rfl,HB1.out⟩
    ·skip
     by_cases hve:0<val.size
     ·have b0:¬ val.toList=[]:=by have:=eS hve;simpa using this
      have HR:Hid (wriE T R 2 key val N=3):=hid (by rw [HW.out];simp [hasV,hasN,hve]);go_wp2_with (first | (go_at_call 100;refine (wR _).mono ?_;rintro r w2 ⟨rfl,rfl⟩) | (go_at_call 99;refine (eZ 50 true _ (by decide +kernel)).mono ?_;rintro r w3 ⟨rfl,rfl⟩))
      go_ret;rw [HR.out];exact ⟨rfl,HB1.out⟩
     ·obtain rfl:=eV hve;have z0:(⟨#[]⟩:ByteArray).size=0:=rfl;by_cases hn:N=0
      ·subst hn;have HR:Hid (wriE T R 2 key ⟨#[]⟩ 0=0):=hid (by rw [HW.out];simp [hasV,hasN,aV,z0]);go_wp2;go_ret;rw [HR.out];exact ⟨rfl,HB1.out⟩
      ·skip
       have HR:Hid (wriE T R 2 key ⟨#[]⟩ N=3):=hid (by rw [HW.out];simp [hasV,hasN,z0,hn]);go_wp2;go_ret;rw [HR.out];exact ⟨rfl,HB1.out⟩
    ·skip
     by_cases hve:0<val.size
     ·have b0:¬ val.toList=[]:=by have:=eS hve;simpa using this
      have HR:Hid (wriE T R 3 key val N=3):=hid (by rw [HW.out];simp [hasV,hasN,hve]);go_wp2_with (first | (go_at_call 100;refine (wT _).mono ?_;rintro r w2 ⟨rfl,rfl⟩) | (go_at_call 99;refine (eZ 51 true _ (by decide +kernel)).mono ?_;rintro r w3 ⟨rfl,rfl⟩))
      go_ret;rw [HR.out];exact ⟨rfl,HB1.out⟩
     ·obtain rfl:=eV hve;have z0:(⟨#[]⟩:ByteArray).size=0:=rfl;by_cases hn:N=0
      ·subst hn;have HR:Hid (wriE T R 3 key ⟨#[]⟩ 0=0):=hid (by rw [HW.out];simp [hasV,hasN,aV,z0]);go_wp2_with (first | (go_at_call 27;refine (aQ 0 (-1125899906842624) 1125899906842624 _ (by decide) (by decide)).mono ?_;rintro r w4 ⟨rfl,rfl⟩))
       go_ret;rw [HR.out];exact ⟨rfl,HB1.out⟩
      ·skip
       by_cases n0:(-1125899906842624)≤N
       ·by_cases n1:N≤1125899906842624
        ·skip
         have HR:Hid (wriE T R 3 key ⟨#[]⟩ N=0):=hid (by rw [HW.out];simp [hasV,hasN,aV,z0,n0,n1]);go_wp2_with (first | (go_at_call 27;refine (aQ N (-1125899906842624) 1125899906842624 _ n0 n1).mono ?_;rintro r w4 ⟨rfl,rfl⟩))
         go_ret;rw [HR.out];exact ⟨rfl,HB1.out⟩
        ·skip
         have HR:Hid (wriE T R 3 key ⟨#[]⟩ N=2):=hid (by rw [HW.out];simp [hasV,hasN,aV,z0,n1]);go_wp2_with (first | (go_at_call 27;refine (bU N (-1125899906842624) 1125899906842624 _ n0 (by omega)).mono ?_;rintro r w4 ⟨rfl,rfl⟩))
         go_ret;rw [HR.out];exact ⟨rfl,HB1.out⟩
       ·skip
        have HR:Hid (wriE T R 3 key ⟨#[]⟩ N=2):=hid (by rw [HW.out];simp [hasV,hasN,aV,z0,n0]);go_wp2_with (first | (go_at_call 27;refine (bV N (-1125899906842624) 1125899906842624 _ (by omega)).mono ?_;rintro r w4 ⟨rfl,rfl⟩))
        go_ret;rw [HR.out];exact ⟨rfl,HB1.out⟩
    ·skip
     by_cases hve:0<val.size
     ·have b0:¬ val.toList=[]:=by have:=eS hve;simpa using this
      by_cases hn:N=0
      ·subst hn;have HR:Hid (wriE T R 4 key val 0=0):=hid (by rw [HW.out];simp [hasV,hasN,aV,hve]);go_wp2_with (first | (go_at_call 100;refine (jL _).mono ?_;rintro r w2 ⟨rfl,rfl⟩) | (go_at_call 99;refine (eZ 52 false _ (by decide +kernel)).mono ?_;rintro r w3 ⟨rfl,rfl⟩) | (go_at_call 27;refine (aQ 0 0 1000 _ (by decide) (by decide)).mono ?_;rintro r w4 ⟨rfl,rfl⟩))
       go_ret;rw [HR.out];exact ⟨rfl,HB1.out⟩
      ·skip
       by_cases n0:0≤N
       ·by_cases n1:N≤1000
        ·skip
         have HR:Hid (wriE T R 4 key val N=0):=hid (by rw [HW.out];simp [hasV,hasN,aV,hve,n0,n1]);go_wp2_with (first | (go_at_call 100;refine (jL _).mono ?_;rintro r w2 ⟨rfl,rfl⟩) | (go_at_call 99;refine (eZ 52 false _ (by decide +kernel)).mono ?_;rintro r w3 ⟨rfl,rfl⟩) | (go_at_call 27;refine (aQ N 0 1000 _ n0 n1).mono ?_;rintro r w4 ⟨rfl,rfl⟩))
         go_ret;rw [HR.out];exact ⟨rfl,HB1.out⟩
        ·skip
         have HR:Hid (wriE T R 4 key val N=2):=hid (by rw [HW.out];simp [hasV,hasN,aV,hve,n1]);go_wp2_with (first | (go_at_call 100;refine (jL _).mono ?_;rintro r w2 ⟨rfl,rfl⟩) | (go_at_call 99;refine (eZ 52 false _ (by decide +kernel)).mono ?_;rintro r w3 ⟨rfl,rfl⟩) | (go_at_call 27;refine (bU N 0 1000 _ n0 (by omega)).mono ?_;rintro r w4 ⟨rfl,rfl⟩))
         go_ret;rw [HR.out];exact ⟨rfl,HB1.out⟩
       ·skip
        have HR:Hid (wriE T R 4 key val N=2):=hid (by rw [HW.out];simp [hasV,hasN,aV,hve,n0]);go_wp2_with (first | (go_at_call 100;refine (jL _).mono ?_;rintro r w2 ⟨rfl,rfl⟩) | (go_at_call 99;refine (eZ 52 false _ (by decide +kernel)).mono ?_;rintro r w3 ⟨rfl,rfl⟩) | (go_at_call 27;refine (bV N 0 1000 _ (by omega)).mono ?_;rintro r w4 ⟨rfl,rfl⟩))
        go_ret;rw [HR.out];exact ⟨rfl,HB1.out⟩
     ·obtain rfl:=eV hve;have z0:(⟨#[]⟩:ByteArray).size=0:=rfl;by_cases hn:N=0
      ·subst hn;have HR:Hid (wriE T R 4 key ⟨#[]⟩ 0=0):=hid (by rw [HW.out];simp [hasV,hasN,aV,z0]);go_wp2_with (first | (go_at_call 27;refine (aQ 0 0 1000 _ (by decide) (by decide)).mono ?_;rintro r w4 ⟨rfl,rfl⟩))
       go_ret;rw [HR.out];exact ⟨rfl,HB1.out⟩
      ·skip
       by_cases n0:0≤N
       ·by_cases n1:N≤1000
        ·skip
         have HR:Hid (wriE T R 4 key ⟨#[]⟩ N=0):=hid (by rw [HW.out];simp [hasV,hasN,aV,z0,n0,n1]);go_wp2_with (first | (go_at_call 27;refine (aQ N 0 1000 _ n0 n1).mono ?_;rintro r w4 ⟨rfl,rfl⟩))
         go_ret;rw [HR.out];exact ⟨rfl,HB1.out⟩
        ·skip
         have HR:Hid (wriE T R 4 key ⟨#[]⟩ N=2):=hid (by rw [HW.out];simp [hasV,hasN,aV,z0,n1]);go_wp2_with (first | (go_at_call 27;refine (bU N 0 1000 _ n0 (by omega)).mono ?_;rintro r w4 ⟨rfl,rfl⟩))
         go_ret;rw [HR.out];exact ⟨rfl,HB1.out⟩
       ·skip
        have HR:Hid (wriE T R 4 key ⟨#[]⟩ N=2):=hid (by rw [HW.out];simp [hasV,hasN,aV,z0,n0]);go_wp2_with (first | (go_at_call 27;refine (bV N 0 1000 _ (by omega)).mono ?_;rintro r w4 ⟨rfl,rfl⟩))
        go_ret;rw [HR.out];exact ⟨rfl,HB1.out⟩
end
section
open Go.ChangeShapes Go.WideShapes Go.RowKit
def iO : List (String × DataW Unit) := [("math/bits.deBruijn32tab", Rows.laid_math_bits_deBruijn32tab), ("math/bits.deBruijn64tab", Rows.laid_math_bits_deBruijn64tab), ("internal/strconv.uint64pow10", Rows.laid_internal_strconv_uint64pow10), ("errors.errorType", Rows.laid_errors_errorType)]
def Bw : List (String × DataW Unit) := [("math/bits.deBruijn32tab", Rows.laid_math_bits_deBruijn32tab), ("math/bits.deBruijn64tab", Rows.laid_math_bits_deBruijn64tab), ("internal/strconv.uint64pow10", Rows.laid_internal_strconv_uint64pow10)]
theorem vH {W:World} (h:laidMetH Tryz.prog iO W):errT W:=by
 have h':laidMet Tryz.prog Bw W∧handlesMet Tryz.prog kH W:=h;exact vG (show laidMetH Tryz.prog kH W from ⟨laidMet_nil _ _,h'.2⟩)
noncomputable def pY (os:Os):World :=
 let w0:=xb os
 { w0 with heap := ((w0.heap.modify 3 fun
     | .cells _ t frozen=>.cells ((#[0,1,28,2,29,14,24,3,30,22,20,15,25,17,4,8,31,27,13,23,21,19,16,7,26,12,18,6,11,5,10,9]:Array Int).map (Value.int .u8)) t frozen
     | o=>o).modify 4 fun
     | .cells _ t frozen=>.cells ((#[0,1,56,2,57,49,28,3,61,58,42,50,38,29,17,4,62,47,59,36,45,43,51,22,53,39,33,30,24,18,12,5,63,55,48,27,60,41,37,16,46,35,44,21,52,32,23,11,54,26,40,15,34,20,31,10,25,14,19,9,13,8,7,6]:Array Int).map (Value.int .u8)) t frozen
     | o=>o).modify 2 fun
     | .cells _ t frozen=>.cells ((#[1,10,100,1000,10000,100000,1000000,10000000,100000000,1000000000,10000000000,100000000000,1000000000000,10000000000000,100000000000000,1000000000000000,10000000000000000,100000000000000000,1000000000000000000,10000000000000000000]:Array Int).map (Value.int .u64)) t frozen
     | o=>o }
theorem xc (os:Os) (args:Array Value):laidMetH Tryz.prog iO ((pY os).forCall (fun _ _=>0) ⟨#[],args,[]⟩).memory :=
 laidMetH_of_parts (laidMet_of_run' 8 (by kernel_rfl) (by kernel_rfl)) (by kernel_rfl)
end
section
open Go.RowKit
theorem Bi (w:World):Calls Tryz.prog 59 #[.nilIface] w fun e w'=>e=.returned (.int .i64 0)∧w=w':=by
 go_enter Tryz.func59,Tryz.ntmps59
 go_wp2;go_ret;exact ⟨rfl,rfl⟩
theorem errT.alloc {w:World} (h:errT w) (o:Obj):errT (w.alloc o):=by
 unfold errT at h ⊢;rw [DC _ _ _ (bc h)];exact h
theorem errT.below {w w':World} (h:errT w) (hb:Below w.heap.size w w'):errT w':=by
 unfold errT at h ⊢;rw [hb.cell (bc h)];exact h
theorem oy {w w':World} {B:Nat} {e:Int} {old:Value} (hB:B<w.heap.size) (ht0:w.cell? ⟨B,0,none⟩=some old)
 (h:((dM w ⟨B,0,none⟩).alloc (.cells #[.int .i64 e] 26)).setCell ⟨B,0,none⟩ (.int .i64 e)=w'):w'.cell? ⟨B,0,none⟩=some (.int .i64 e)∧Below B w w':=by
 subst h;have hs:(dM w ⟨B,0,none⟩).heap.size=w.heap.size+1+1+1:=by simp [dM]
 have hc:((dM w ⟨B,0,none⟩).alloc (.cells #[.int .i64 e] 26)).cell? ⟨B,0,none⟩=some old:=by
  rw [DC _ _ _ (by rw [hs];show B<_;omega)];unfold dM;rw [DC _ _ _ (by simp;omega),DC _ _ _ (by simp;omega),DC _ _ _ hB];exact ht0
 refine ⟨ET _ _ _ hc,?_⟩;refine Below.setCell ?_ (show B≤B from Db _) _;refine Below.alloc ?_ (by rw [hs];omega) _;unfold dM;exact (((Below.refl _ _).alloc (by omega) _).alloc (by simp;omega) _).alloc (by simp;omega) _
def isErr (w:World) (v:Value) (e:Int):Prop :=
 v=.iface 26 (.int .i64 e)∨∃ b off pl,v=.iface 103 (.pointer (some ⟨b,off,none⟩))∧w.cell? ⟨b,off,none⟩=some (.int .i64 e)∧w.cell? ⟨b,off+1,none⟩=some (.int .i64 pl)
theorem tC (v:Value) (e:Int) (B:Nat) (old:Value) (w:World) (hg:errT w) (hB:B<w.heap.size) (ht0:w.cell? ⟨B,0,none⟩=some old) (hf0:w.frozen? ⟨B,0,none⟩=false) (hv:isErr w v e) :
 Calls Tryz.prog 94 #[v,.iface 151 (.pointer (some ⟨B,0,none⟩))] w fun ev w'=>ev=.returned (.bool true)∧w'.cell? ⟨B,0,none⟩=some (.int .i64 e)∧Below B w w':=by
 rcases hv with rfl | ⟨b,off,pl,rfl,hp,_⟩
 ·exact (tD e _ old w hg ht0 hf0).mono fun _ _ ⟨h1,h2⟩=>⟨h1,oy hB ht0 h2⟩
 ·exact (tB e b off _ old w hg ht0 hf0 hp).mono fun _ _ ⟨h1,h2⟩=>⟨h1,oy hB ht0 h2⟩
theorem isErr.alloc {w:World} {v:Value} {e:Int} (h:isErr w v e) (o:Obj):isErr (w.alloc o) v e:=by
 rcases h with h | ⟨b,off,pl,h1,h2,h3⟩
 ·exact .inl h
 ·exact .inr ⟨b,off,pl,h1,by rw [DC _ _ _ (bc h2)];exact h2,by rw [DC _ _ _ (bc h3)];exact h3⟩
theorem isErr.below {w w':World} {v:Value} {e:Int} (h:isErr w v e) (hb:Below w.heap.size w w'):isErr w' v e:=by
 rcases h with h | ⟨b,off,pl,h1,h2,h3⟩
 ·exact .inl h
 ·exact .inr ⟨b,off,pl,h1,by rw [hb.cell (bc h2)];exact h2,by rw [hb.cell (bc h3)];exact h3⟩
theorem isErr.iface {w:World} {v:Value} {e:Int} (h:isErr w v e):∃ t u,v=.iface t u:=by
 rcases h with h | ⟨b,off,pl,h1,h2,h3⟩
 ·exact ⟨_,_,h⟩
 ·exact ⟨_,_,h1⟩
theorem e7 (v:Value) (e:Int) (w:World) (hg:errT w) (hv:isErr w v e):Calls Tryz.prog 59 #[v] w fun r w'=>r=.returned (.int .i64 e)∧Below w.heap.size w w':=by
 have HG:=hid (hg.alloc (.cells #[.int .i64 0] 26));have HV:=hid (hv.alloc (.cells #[.int .i64 0] 26));obtain ⟨t,u,rfl⟩:=hv.iface;clear hg hv;go_enter Tryz.func59,Tryz.ntmps59
 go_wp2_with (go_at_call 94;refine (tC _ e w.heap.size (.int .i64 0) _ HG.out (by simp) (by simp) (by simp) HV.out).mono ?_;rintro ev w' ⟨rfl,hc,hb⟩;clear HG HV)
 go_ret;exact ⟨rfl,((Below.refl _ _).alloc (Db _) _).trans (by assumption)⟩
end
section
open Go.RowKit
theorem dm (s:ByteArray) (w:World) (hs:s.size≤maxLen) (n k:Nat) (h:getL s.data.toList=(n,k,0)) :
 Calls Tryz.prog 103 #[.string s] w fun e w'=>e=.returned (.tuple #[.int .u64 n,.int .i64 k,.nilIface])∧w=w' :=
 (mg s w hs).mono fun e w' ⟨h1,h2⟩=>⟨h1.trans (by rw [h];rfl),h2⟩
theorem mi (s:ByteArray) (w:World) (hs:s.size≤maxLen) (e:Nat) (h:getL s.data.toList=(0,0,e)) (he:e≠0) :
 Calls Tryz.prog 103 #[.string s] w fun r w'=>r=.returned (.tuple #[.int .u64 0,.int .i64 0,.iface 26 (.int .i64 e)])∧w=w' :=
 (mg s w hs).mono fun r w' ⟨h1,h2⟩=>⟨h1.trans (by rw [h];unfold numV errV;rw [if_neg he];rfl),h2⟩
theorem ka (n:Nat) (w:World) (h:n≤18446744073709551615) :
 Calls Tryz.prog 93 #[.int .u64 (n:Int)] w fun e w'=>e=.returned (.string ⟨(putL n).toArray⟩)∧Below w.heap.size w w' :=
 mN (n:Int) w (by omega) (by omega)
end
section
open Go.RowKit
def dW (w:World) (v:Value) (e pl:Int):Prop :=
 (v=.nilIface∧e=0∧pl=-1)∨(v=.iface 26 (.int .i64 e)∧pl=-1)∨∃ b off,v=.iface 103 (.pointer (some ⟨b,off,none⟩))∧w.cell? ⟨b,off,none⟩=some (.int .i64 e)∧w.cell? ⟨b,off+1,none⟩=some (.int .i64 pl)
theorem dW.alloc {w:World} {v:Value} {e pl:Int} (h:dW w v e pl) (o:Obj):dW (w.alloc o) v e pl:=by
 rcases h with h | h | ⟨b,off,h1,h2,h3⟩
 ·exact .inl h
 ·exact .inr (.inl h)
 ·exact .inr (.inr ⟨b,off,h1,by rw [DC _ _ _ (bc h2)];exact h2,by rw [DC _ _ _ (bc h3)];exact h3⟩)
theorem dW.below {w w':World} {v:Value} {e pl:Int} (h:dW w v e pl) (hb:Below w.heap.size w w'):dW w' v e pl:=by
 rcases h with h | h | ⟨b,off,h1,h2,h3⟩
 ·exact .inl h
 ·exact .inr (.inl h)
 ·exact .inr (.inr ⟨b,off,h1,by rw [hb.cell (bc h2)];exact h2,by rw [hb.cell (bc h3)];exact h3⟩)
theorem z6 (w:World):Calls Tryz.prog 23 #[.nilIface] w fun r w'=>r=.returned (.tuple #[.int .i64 0,.int .i64 (-1)])∧w=w':=by
 go_enter Tryz.func23,Tryz.ntmps23
 go_wp2_with (go_at_call 59;refine (Bi _).mono ?_;rintro e w' ⟨rfl,rfl⟩)
 refine EA 1 ?_;rw [Ec];go_wp2;go_ret2;exact ⟨rfl,rfl⟩
theorem yW (e:Int) (w:World) (hg:errT w):Calls Tryz.prog 23 #[.iface 26 (.int .i64 e)] w fun r w'=>r=.returned (.tuple #[.int .i64 e,.int .i64 (-1)])∧Below w.heap.size w w':=by
 have nU:=As.noUnwrapE;have nA:=As.noAtE;have HG:=hid hg;clear hg;go_enter Tryz.func23,Tryz.ntmps23
 go_wp2_with (go_at_call 59;refine (e7 _ e _ HG.out (.inl rfl)).mono ?_;rintro r w' ⟨rfl,hb⟩)
 refine EA 1 ?_;rw [Ec];go_wp2;go_ret2;exact ⟨rfl,by assumption⟩
theorem yT (e pl:Int) (b off:Nat) (w:World) (hg:errT w) (hc0:w.cell? ⟨b,off,none⟩=some (.int .i64 e)) (hc1:w.cell? ⟨b,off+1,none⟩=some (.int .i64 pl)) :
 Calls Tryz.prog 23 #[.iface 103 (.pointer (some ⟨b,off,none⟩))] w fun r w'=>r=.returned (.tuple #[.int .i64 e,.int .i64 pl])∧Below w.heap.size w w':=by
 have iA:=As.isAtA;have HG:=hid hg;have HV:Hid (isErr w (.iface 103 (.pointer (some ⟨b,off,none⟩))) e):=.inr ⟨b,off,pl,rfl,hc0,hc1⟩;have H1:=hid hc1;have hlt:=bc hc0;clear hg hc0 hc1;go_enter Tryz.func23,Tryz.ntmps23
 go_wp2_with fail
 refine (e7 _ e _ HG.out HV.out).mono ?_;rintro r w1 ⟨rfl,hb⟩;have hc1:w1.cell? ⟨b,off+1,none⟩=some (.int .i64 pl):=(hb.cell hlt).trans H1.out;have HB:=hid hb;clear hb;go_wp2;refine EA 1 ?_;rw [Ec];go_wp2
 go_quiet (fail)
 go_wp2;go_ret2;exact ⟨rfl,below_drewN HB.out _⟩
theorem yS (v:Value) (e pl:Int) (w:World) (hg:errT w) (h:dW w v e pl) :
 Calls Tryz.prog 23 #[v] w fun r w'=>r=.returned (.tuple #[.int .i64 e,.int .i64 pl])∧Below w.heap.size w w':=by
 rcases h with ⟨rfl,rfl,rfl⟩ | ⟨rfl,rfl⟩ | ⟨b,off,rfl,h0,h1⟩
 ·exact (z6 w).mono fun _ _ ⟨h1,h2⟩=>⟨h1,h2 ▸ Below.refl _ _⟩
 ·exact yW e w hg
 ·exact yT e pl b off w hg h0 h1
theorem jY (v:Value) (e pl:Int) (w:World) (hg:errT w) (h:dW w v e pl) :
 Calls Tryz.prog 9 #[v,.agg #[.int .i64 e,.int .i64 pl]] w fun r w'=>r=.returned (.bool true)∧Below w.heap.size w w':=by
 have HG:=hid (hg.alloc (.cells #[.int .i64 e,.int .i64 pl] 28));have HP:=hid (h.alloc (.cells #[.int .i64 e,.int .i64 pl] 28));clear hg h;go_enter Tryz.func9,Tryz.ntmps9
 go_wp2_with fail
 refine (yS _ _ _ _ HG.out HP.out).mono ?_;rintro r w1 ⟨rfl,hb⟩;have c0:w1.cell? ⟨w.heap.size,0,none⟩=some (.int .i64 e):=(hb.cell (by simp)).trans (by simp);have c1:w1.cell? ⟨w.heap.size,1,none⟩=some (.int .i64 pl):=(hb.cell (by simp)).trans (by simp);have HB:Hid (Below w.heap.size w w1):=((Below.refl _ _).alloc (Db _) _).trans (hb.mono (by simp));clear hb HG HP;go_wp2;go_ret;exact ⟨rfl,HB.out⟩
end
section
open Go.RowKit
def intL (l:List UInt8) (most:Int):Nat×Nat×Nat :=
 if (getL l).2.2≠0 then (0,0,(getL l).2.2) else if most<0∨most<(getL l).1 then (0,0,2) else getL l
def intV (r:Nat×Nat×Nat):Value:=.tuple #[.int .i64 r.1,.int .i64 r.2.1,errV r.2.2]
def intR (r:Nat×Nat×Nat):Value:=.tuple #[.int .i64 r.1,.int .i64 r.2.1,.int .i64 r.2.2]
theorem f8 {l:List UInt8} {most:Int} {e:Nat} (h:getL l=(0,0,e)) (he:e≠0):intL l most=(0,0,e):=by
 unfold intL;rw [h];rw [if_pos (by exact he)]
theorem dG {l:List UInt8} {most:Int} {n k:Nat} (h:getL l=(n,k,0)) (hm:most<0∨most<n):intL l most=(0,0,2):=by
 unfold intL;rw [h];rw [if_neg (by simp),if_pos hm]
theorem eo {l:List UInt8} {most:Int} {n k:Nat} (h:getL l=(n,k,0)) (hm:¬ (most<0∨most<n)):intL l most=(n,k,0):=by
 unfold intL;rw [h];rw [if_neg (by simp),if_neg hm]
theorem cu (l:List UInt8):(∃ e,getL l=(0,0,e)∧e≠0)∨∃ n k,getL l=(n,k,0)∧n≤18446744073709551615∧1≤k∧k≤10∧k≤l.length:=by
 unfold getL;split
 ·rename_i e he;refine .inl ⟨e,rfl,?_⟩;have:=ro _ _ _ he;omega
 ·rename_i k hk;obtain ⟨a,b,c,d⟩:=rq hk;exact .inr ⟨_,_,rfl,by omega,a,b,c⟩
theorem fG (s:ByteArray) (most:Int) (w:World) (hs:s.size≤maxLen) (h0 : -9223372036854775808≤most) (h1:most≤9223372036854775807) :
 Calls Tryz.prog 74 #[.string s,.int .i64 most] w fun r w'=>r=.returned (intV (intL s.data.toList most))∧w=w':=by
 rcases cu s.data.toList with ⟨e,hg,he⟩ | ⟨n,k,hg,hn,hk1,hk2,hk3⟩
 ·have HP : Hid (intV (intL s.data.toList most) = .tuple #[.int .i64 0, .int .i64 0, .iface 26 (.int .i64 e)]) := by
   show intV _=_
   rw [f8 hg he];unfold intV errV;rw [if_neg he];rfl
  have HG:=hid hg;clear hg;rw [HP.out];go_enter Tryz.func74,Tryz.ntmps74
  go_wp2_with (go_at_call 103;refine (mi _ _ hs e HG.out he).mono ?_;rintro r w' ⟨rfl,rfl⟩)
  go_ret3;exact ⟨rfl,rfl⟩
 ·by_cases hm:most<0
  ·have HP : Hid (intV (intL s.data.toList most) = .tuple #[.int .i64 0, .int .i64 0, .iface 26 (.int .i64 2)]) := by
    show intV _=_
    rw [dG hg (.inl hm)];rfl
   have HG:=hid hg;clear hg;rw [HP.out];go_enter Tryz.func74,Tryz.ntmps74
   go_wp2_with (go_at_call 103;refine (dm _ _ hs n k HG.out).mono ?_;rintro r w' ⟨rfl,rfl⟩)
   go_ret3;exact ⟨rfl,rfl⟩
  ·have hm':0≤most:=by omega
   by_cases hr:most<(n:Int)
   ·have HP : Hid (intV (intL s.data.toList most) = .tuple #[.int .i64 0, .int .i64 0, .iface 26 (.int .i64 2)]) := by
     show intV _=_
     rw [dG hg (.inr hr)];rfl
    have HG:=hid hg;clear hg hm;rw [HP.out];go_enter Tryz.func74,Tryz.ntmps74
    go_wp2_with (go_at_call 103;refine (dm _ _ hs n k HG.out).mono ?_;rintro r w' ⟨rfl,rfl⟩)
    go_ret3;exact ⟨rfl,rfl⟩
   ·have HP : Hid (intV (intL s.data.toList most) = .tuple #[.int .i64 n, .int .i64 k, .nilIface]) := by
     show intV _=_
     rw [eo hg (by omega)];rfl
    have HG:=hid hg;have hr':(n:Int)≤most:=by omega
    clear hg hm hr;rw [HP.out];go_enter Tryz.func74,Tryz.ntmps74
    go_wp2_with (go_at_call 103;refine (dm _ _ hs n k HG.out).mono ?_;rintro r w' ⟨rfl,rfl⟩)
    go_ret3;exact ⟨rfl,rfl⟩
end
