import Derived.Test.YtgfinhehgfbdgaaGreatDoorRa11
import Derived.ChangeVars
import Derived.JoinedOf
import Derived.RowKit
import Derived.LaidLaws
import Derived.LaidHandle
import Derived.Stop.Joined
namespace Go.Proofs.YtgfinhehgfbdgaaGreatDoor
open Go.RowKit
def rightBL (l:List Tok) (b:List Nat):Nat×Int:=if (rightF l 0 0).1=0 then (0,-1) else ((rightF l 0 0).1,((b.getD (rightF l 0 0).2.toNat 0:Nat):Int))
theorem rightF_bound {l:List Tok} {i a:Nat} (h:(rightF l i a).1≠0):∃ j,(rightF l i a).2=((i+j:Nat):Int)∧j<l.length:=by
 induction l generalizing i a with
 | nil=>exact absurd rfl h
 | cons t r ih =>
   by_cases hw:wrongN t a=0
   · rw [rightF_ok hw] at h ⊢;obtain ⟨j,h1,h2⟩:=ih h;exact ⟨j+1,by rw [h1];congr 1;omega,by simp;omega⟩
   · rw [rightF_bad hw];exact ⟨0,by simp,by simp⟩
set_option maxRecDepth 100000 in
set_option maxHeartbeats 2000000 in
theorem lzright_any (v bv:Value) (l:List Tok) (b:List Nat) (base:Nat) (w:World) (hv:IsToks w v l) (hl:l.length≤9223372036854775807) (hz:∀ t∈l,t.own.size≤140737488351232) (hb:ownsN w base bv b) (hbl:b.length=l.length) :
   Calls Tryz.prog 164 #[v,bv] w (RightIs w (rightBL l b)):=by
 have iA:=As.isAtA;have nA:∀ (xT:TypeId) (w:World),(Instr.typeAssert .nilIface xT 82 true).run Tryz.prog w=.ok (.tuple #[.pointer none,.bool false]) w:=fun xT w=>by kernel_rfl
 by_cases hr:(rightF l 0 0).1=0
 · have HRB:Hid (rightBL l b=(0,-1)):=Lib.hid (show rightBL l b=(0,-1) by unfold rightBL;rw [if_pos hr]);have HR0:=Lib.hid hr;have HV:=Lib.hid hv;have HZ:=Lib.hid hz;clear hr hv hz hb hbl;rw [HRB.out];go_enter Tryz.func164,Tryz.ntmps164
   go_wp2_with fail
   refine (right_any _ l _ HV.out hl HZ.out).mono ?_;rintro r w0 ⟨err,rfl,hat,hb0⟩;obtain rfl:err=.nilIface:=by
     rcases hat with ⟨_,h⟩ | ⟨h,_⟩
     · exact h
     · exact absurd HR0.out h
   have HB0:=Lib.hid hb0;clear hat hb0;go_wp2;go_ret;exact ⟨_,rfl,.inl ⟨rfl,rfl⟩,HB0.out⟩
 · obtain ⟨j,hj,hjl⟩:=rightF_bound hr;rw [Nat.zero_add] at hj;obtain ⟨e,he⟩:∃ e,(rightF l 0 0).1=e:=⟨_,rfl⟩;have hre:rightF l 0 0=(e,(j:Int)):=Prod.ext he hj;have hne:e≠0:=by rw [←he];exact hr
   obtain ⟨q,hq⟩:∃ q,b.getD j 0=q:=⟨_,rfl⟩;have HRB:Hid (rightBL l b=(e,(q:Int))):=Lib.hid (show rightBL l b=(e,(q:Int)) by unfold rightBL;rw [if_neg hr,hre];simp only [Int.toNat_natCast];rw [hq]);have HRE:=Lib.hid hre;have HNE:=Lib.hid hne;have HV:=Lib.hid hv;have HZ:=Lib.hid hz;have HBO:=Lib.hid hb;rcases hb.forms with ⟨_,hnil⟩ | ⟨g,cap,rfl,hbg,hgl,hcells⟩
   · rw [hnil] at hbl;simp at hbl;omega
   · have hcj:=hcells j (by omega);rw [hq] at hcj;have hjb:(j:Int)<(b.length:Int):=by omega
     have hj0:(0:Int)≤(j:Int):=by omega
     obtain ⟨n,hn⟩:∃ n,n=b.length:=⟨_,rfl⟩;rw [←hn] at hjb ⊢;clear hr hj he hre hne hv hz hb hbl hcells hjl hq hn;rw [HRB.out];go_enter Tryz.func164,Tryz.ntmps164
     go_wp2_with fail
     refine (right_any _ l _ HV.out hl HZ.out).mono ?_;rintro r w0 ⟨err,rfl,hat,hb0⟩;rw [HRE.out] at hat;rcases hat with ⟨h,_⟩ | ⟨_,a,rfl,ha,c0,c1⟩
     · exact absurd (congrArg Prod.fst h) HNE.out
     · simp only at c0 c1
       have c2:w0.cell? ⟨g,j,none⟩=some (.int .i64 (q:Int)):=(hb0.cell hgl).trans hcj;have HB0:=Lib.hid hb0;have hsz:=hb0.size;clear hb0 hcj;go_wp2;go_region
       go_wp2;go_ret;exact ⟨_,rfl,atIs.new w0 e (q:Int) HNE.out,(HB0.out.alloc hsz _).drew⟩
end Go.Proofs.YtgfinhehgfbdgaaGreatDoor
namespace Go.Proofs.YtgfinhehgfbdgaaGreatDoor
open Go.ChangeShapes Go.WideShapes Go.RowKit
def theLaid : List (String × DataW Unit) := [("errors.errorType", Rows.laid_errors_errorType)]
theorem own:ownKnob Tryz.prog.godebug=none:=by kernel_rfl
theorem laid_et : Tryz.prog.globalNamed "errors.errorType" = some 0 := by kernel_rfl
theorem laid_rt : (Tryz.prog.cutTypes.find? (·.1 == "internal/reflectlite.rtype")).map (·.2) = some 226 := by kernel_rfl
theorem laid_size:Tryz.prog.types.size=300:=by kernel_rfl
theorem laid_oneRow:((List.range 300).filter fun t=>Tryz.prog.rowNamed t [101,114,114,111,114])=[33]:=by kernel_rfl
theorem errT_of_laid {W:World} (h:laidMetH Tryz.prog theLaid W):errT W:=by
 have h':laidMet Tryz.prog [] W∧handlesMet Tryz.prog theLaid W:=h;obtain ⟨name,u,ty,e1,e2,e3,e4,e5⟩:=h'.2 _ (List.mem_singleton.2 rfl);have en:name=[101,114,114,111,114]:=(Option.some.inj e1).symm;subst en;obtain rfl:=Option.some.inj (laid_rt.symm.trans e2);have hm:ty∈(List.range 300).filter fun t=>Tryz.prog.rowNamed t [101,114,114,111,114]:=List.mem_filter.2 ⟨List.mem_range.2 (by rw [←laid_size];exact e3),e4⟩
 rw [laid_oneRow] at hm;obtain rfl:=List.mem_singleton.1 hm;have hh:typeHandle Tryz.prog 33=.pointer (some ⟨5,33,none⟩):=by kernel_rfl
 rw [hh] at e5;unfold errT
 simpa using World.var?_cell laid_et e5 0
noncomputable def laidWorld (os:Os):World :=
 let w0:=World.holding Tryz.prog os ⟨#[],#[],[]⟩
 { w0 with heap := w0.heap.modify 0 fun
     | .cells _ t frozen=>.cells #[.iface 226 (.agg #[.pointer (some ⟨5,33,none⟩)])] t frozen
     | o=>o }
end Go.Proofs.YtgfinhehgfbdgaaGreatDoor
