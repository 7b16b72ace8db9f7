import Derived.Test.YtjkbmfpomgcblaaGreatDoorKp11
import Derived.RegionTactic
import Derived.ChangeVars
import Derived.JoinedOf
import Derived.RowKit
import Derived.LaidLaws
import Derived.LaidHandle
import Derived.Stop.Joined
namespace Go.Proofs.YtjkbmfpomgcblaaGreatDoor
open Go.RowKit
theorem pre_two (s:List UInt8):Lib.hasPrefix s [80,84]=true↔s.take 2=[80,84]:=by
 unfold Lib.hasPrefix
 rw [List.isPrefixOf_iff_prefix]
 constructor
 · rintro ⟨r,rfl⟩;rfl
 · intro h;exact ⟨s.drop 2,by rw [←h,List.take_append_drop]⟩
theorem pre_not {s:List UInt8} (h:s.take 2≠[80,84]):Lib.hasPrefix s [80,84]=false:=by
 cases hb:Lib.hasPrefix s [80,84] with
 | false=>rfl
 | true=>exact absurd ((pre_two s).1 hb) h
def opnV (r:Nat×List UInt8×Nat):Value:=.tuple #[.int .i64 (r.1:Nat),.string ⟨r.2.1.toArray⟩,errC r.2.2]
theorem errC_ne {e:Nat} (h:e≠0):errC e=.iface 44 (.int .i64 e):=by unfold errC;rw [if_neg h]
theorem errC_zero:errC 0=.nilIface:=rfl
set_option maxRecDepth 100000 in
set_option maxHeartbeats 1200000 in
theorem fopen_any (s:ByteArray) (w:World) (hs:s.size≤140737488351232) :
   Calls Tryz.prog 50 #[.string s] w fun e w'=>e=.returned (opnV (opnF s.data.toList))∧Below w.heap.size w w':=by
 have hl:s.size=s.data.toList.length:=size_data s
 by_cases h8:s.size < 8
 · have h:opnF s.data.toList=(0,[],7):=opn_few (by rw [←hl];exact h8)
   rw [h]
   have h8i:(s.size:Int) < 8:=by omega
   clear h hl
   go_enter Tryz.func50,Tryz.ntmps50
   go_wp2
   go_ret3
   exact ⟨rfl,Below.refl _ _⟩
 · have h8l:¬ s.data.toList.length < 8:=by rw [←hl];exact h8
   have h8i:8≤(s.size:Int):=by omega
   by_cases hp:s.data.toList.take 2=[80,84]
   · have HPB:Hid (Lib.hasPrefix s.data.toList [80,84]=true):=Lib.hid ((pre_two _).2 hp)
     have hsz:2 < s.size:=by omega
     obtain ⟨c, hc⟩ : ∃ c : UInt8, s[2]'hsz = c := ⟨_, rfl⟩
     have hwr:wrap64 (c.toNat:Int)=(c.toNat:Int):=IntWalk.wrap64_in _ (by have:=c.toNat_lt;omega)
     have hcd:s.data.toList.getD 2 0=c:=by
       rw [List.getD_eq_getElem?_getD,List.getElem?_eq_getElem (by omega),Option.getD_some,←hc];rfl
     by_cases hv:c.toNat < 1∨3 < c.toNat
     · have h:opnF s.data.toList=(0,[],8):=opn_none h8l hp (by rw [hcd];exact hv)
       rw [h]
       clear h hl hp hcd
       rcases hv with hv | hv
       · have hvi:(c.toNat:Int) < 1:=by omega
         go_enter Tryz.func50,Tryz.ntmps50
         go_wp2_with fail
         refine (Tryz.strings_HasPrefix s _ w).mono ?_
         rintro r w1 ⟨rfl,rfl⟩
         rw [HPB.out]
         go_wp2
         go_ret3
         exact ⟨rfl,Below.refl _ _⟩
       · have hvi:3 < (c.toNat:Int):=by omega
         have hvj:1≤(c.toNat:Int):=by omega
         go_enter Tryz.func50,Tryz.ntmps50
         go_wp2_with fail
         refine (Tryz.strings_HasPrefix s _ w).mono ?_
         rintro r w1 ⟨rfl,rfl⟩
         rw [HPB.out]
         go_wp2
         go_ret3
         exact ⟨rfl,Below.refl _ _⟩
     · have hv1:1≤(c.toNat:Int):=by omega
       have hv2:(c.toNat:Int)≤3:=by omega
       obtain ⟨o,e,hop⟩:∃ o e,openL s.data.toList=(o,e):=⟨_,_,rfl⟩
       have HO:Hid (openV (openL s.data.toList)=.tuple #[.string ⟨o.toArray⟩,errC e]):=Lib.hid (by show openV _=_;rw [hop];rfl)
       by_cases he:e=0
       · subst he
         have h:opnF s.data.toList=(c.toNat,o.drop 3,0):=by rw [opn_ok h8l hp (by rw [hcd];exact hv) (by rw [hop]),hcd,hop]
         rw [h]
         obtain ⟨O,hO⟩:∃ O:ByteArray,(⟨o.toArray⟩:ByteArray)=O:=⟨_,rfl⟩
         have hOd:o=O.data.toList:=by rw [←hO]
         have hoz:O.size=s.size - 4:=by
           unfold openL at hop
           split at hop
           · injection hop with _ h2;cases h2
           · split at hop
             · injection hop with h1 _;rw [size_data,←hOd,←h1,List.length_take];omega
             · injection hop with _ h2;cases h2
         have hO3:3≤(O.size:Int):=by omega
         have HR:Hid (opnV (c.toNat,o.drop 3,0)=.tuple #[.int .i64 (c.toNat:Nat),.string (O.extract 3 O.size),.nilIface]):=Lib.hid (by
           have e1:(⟨(o.drop 3).toArray⟩:ByteArray)=O.extract 3 O.size:=bytes_ext (by
             rw [ext_list,←hOd,List.take_of_length_le (by rw [List.length_drop,hOd,←size_data];omega)])
           show Value.tuple #[.int .i64 (c.toNat:Nat),.string ⟨(o.drop 3).toArray⟩,errC 0]=_
           rw [e1];rfl)
         rw [hO] at HO
         have HO3:=Lib.hid hoz
         clear h hl hp hcd hop hO hOd hoz
         go_enter Tryz.func50,Tryz.ntmps50
         go_wp2_with fail
         refine (Tryz.strings_HasPrefix s _ w).mono ?_
         rintro r w1 ⟨rfl,rfl⟩
         rw [HPB.out]
         go_wp2_with fail
         refine (open_any s _ hs).mono ?_
         rintro r w2 ⟨rfl,hb2⟩
         rw [HO.out,errC_zero]
         have HB2:=Lib.hid hb2
         clear hb2
         go_wp2
         go_region
         go_wp2
         go_ret3
         exact ⟨by rw [HR.out];rfl,HB2.out.drew⟩
       · have h:opnF s.data.toList=(0,[],e):=opn_spoilt h8l hp (by rw [hcd];exact hv) (by rw [hop]) he
         rw [h]
         have HR:Hid (opnV (0,[],e)=.tuple #[.int .i64 0,.string ⟨#[]⟩,.iface 44 (.int .i64 e)]):=Lib.hid (by unfold opnV;rw [errC_ne he];rfl)
         rw [errC_ne he] at HO
         clear h hl hp hcd hop
         go_enter Tryz.func50,Tryz.ntmps50
         go_wp2_with fail
         refine (Tryz.strings_HasPrefix s _ w).mono ?_
         rintro r w1 ⟨rfl,rfl⟩
         rw [HPB.out]
         go_wp2_with fail
         refine (open_any s _ hs).mono ?_
         rintro r w2 ⟨rfl,hb2⟩
         rw [HO.out]
         have HB2:=Lib.hid hb2
         clear hb2
         go_wp2
         go_ret3
         exact ⟨by rw [HR.out];rfl,HB2.out⟩
   · have HPB:Hid (Lib.hasPrefix s.data.toList [80,84]=false):=Lib.hid (pre_not hp)
     have h:opnF s.data.toList=(0,[],5):=opn_name h8l hp
     rw [h]
     clear h hl hp
     go_enter Tryz.func50,Tryz.ntmps50
     go_wp2_with fail
     refine (Tryz.strings_HasPrefix s _ w).mono ?_
     rintro r w1 ⟨rfl,rfl⟩
     rw [HPB.out]
     go_wp2
     go_ret3
     exact ⟨rfl,Below.refl _ _⟩
theorem fopen_as (s I:ByteArray) (v e:Nat) (w:World) (hs:s.size≤140737488351232) (h:opnF s.data.toList=(v,I.data.toList,e)) :
   Calls Tryz.prog 50 #[.string s] w fun r w'=>r=.returned (.tuple #[.int .i64 (v:Int),.string I,errC e])∧Below w.heap.size w w':=by
 have h1:=fopen_any s w hs
 rw [h] at h1
 unfold opnV at h1
 simp only [bs_of] at h1
 exact h1
set_option maxRecDepth 100000 in
theorem version_as (s I:ByteArray) (v e:Nat) (w:World) (hs:s.size≤140737488351232) (h:opnF s.data.toList=(v,I.data.toList,e)) :
   Calls Tryz.prog 20 #[.string s] w fun r w'=>r=.returned (.tuple #[.int .i64 (v:Int),errC e])∧Below w.heap.size w w':=by
 have H:=Lib.hid h
 obtain ⟨q,hq⟩:∃ q,errC e=q:=⟨_,rfl⟩
 have HQ:=Lib.hid hq
 rw [hq]
 clear h hq
 go_enter Tryz.func20,Tryz.ntmps20
 go_wp2_with fail
 refine (fopen_as s I v e _ hs H.out).mono ?_
 rintro r w1 ⟨rfl,hb1⟩
 rw [HQ.out]
 have HB1:=Lib.hid hb1
 clear hb1
 go_wp2
 go_ret2
 exact ⟨rfl,HB1.out⟩
set_option maxRecDepth 100000 in
theorem inside_as (s I:ByteArray) (v e:Nat) (w:World) (hs:s.size≤140737488351232) (h:opnF s.data.toList=(v,I.data.toList,e)) :
   Calls Tryz.prog 26 #[.string s] w fun r w'=>r=.returned (.tuple #[.string I,errC e])∧Below w.heap.size w w':=by
 have H:=Lib.hid h
 obtain ⟨q,hq⟩:∃ q,errC e=q:=⟨_,rfl⟩
 have HQ:=Lib.hid hq
 rw [hq]
 clear h hq
 go_enter Tryz.func26,Tryz.ntmps26
 go_wp2_with fail
 refine (fopen_as s I v e _ hs H.out).mono ?_
 rintro r w1 ⟨rfl,hb1⟩
 rw [HQ.out]
 have HB1:=Lib.hid hb1
 clear hb1
 go_wp2
 go_ret2
 exact ⟨rfl,HB1.out⟩
end Go.Proofs.YtjkbmfpomgcblaaGreatDoor
namespace Go.Proofs.YtjkbmfpomgcblaaGreatDoor
open Go.RowKit
theorem within_as (x1 x2:Int) (vf vh:Value) (f h:List Ent) (b:Bool) (w:World) (hf:IsEnts w vf f) (hh:IsEnts w vh h) (hlf:f.length≤9223372036854775807) (hlh:h.length≤9223372036854775807) (hb:wiF (x1,x2) f h=b) :
   Calls Tryz.prog 147 #[.agg #[.int .i64 x1,.int .i64 x2],vf,vh] w fun e w'=>e=.returned (.bool b)∧Below w.heap.size w w':=within_any x1 x2 vf vh f h w hf hh hlf hlh b hb
end Go.Proofs.YtjkbmfpomgcblaaGreatDoor
namespace Go.Proofs.YtjkbmfpomgcblaaGreatDoor
open Go.RowKit Go.Extern.Stop Go.Stop Go.Extern
set_option maxRecDepth 100000 in
set_option maxHeartbeats 4000000 in
theorem as_at (e:Int) (b off:Nat) (t:Addr) (old:Value) (w:World) (hg:errT w) (ht0:w.cell? t=some old) (hf0:w.frozen? t=false) (hp:w.cell? ⟨b,off,none⟩=some (.int .i64 e)) :
   Calls Tryz.prog 86 #[.iface 111 (.pointer (some ⟨b,off,none⟩)),.iface 109 (.pointer (some t))] w fun ev w'=>ev=.returned (.bool true)∧((asWorld w t).alloc (.cells #[.int .i64 e] 44)).setCell t (.int .i64 e)=w':=by
 unfold asWorld
 unfold errT at hg
 have h6:=@run_callFunc_extern Tryz.prog 137 _ (fun args=>ReflectliteValue.unpack (args.getD 0 (.tuple #[]))) Tryz.func137 (by kernel_rfl) (by kernel_rfl) (by kernel_rfl) (by kernel_rfl)
 have h7 := @run_callFunc_extern Tryz.prog 138 _ (ReflectliteValue.methodAny (ReflectliteValue.valueError "reflectlite.Value.Type" 0) (fun t _ _ _ => ReflectliteType.toType t)) Tryz.func138 (by kernel_rfl) (by kernel_rfl) (by kernel_rfl) (by kernel_rfl)
 have h8 := @run_callFunc_extern Tryz.prog 139 _ (ReflectliteValue.method (ReflectliteValue.valueError "reflectlite.Value.IsNil" 0) ReflectliteValue.isNil) Tryz.func139 (by kernel_rfl) (by kernel_rfl) (by kernel_rfl) (by kernel_rfl)
 have h27:=@run_callFunc_extern Tryz.prog 263 _ (ReflectliteType.abiMethod fun t=>do pure (.int .u8 (←Rtype.kind t))) Tryz.func263 (by kernel_rfl) (by kernel_rfl) (by kernel_rfl) (by kernel_rfl)
 have h37:=@run_callFunc_extern Tryz.prog 276 _ (ReflectliteType.method ReflectliteType.elem) Tryz.func276 (by kernel_rfl) (by kernel_rfl) (by kernel_rfl) (by kernel_rfl)
 have h38 := @run_callFunc_extern Tryz.prog 277 _ (ReflectliteType.relation "Implements" ReflectliteType.implements_) Tryz.func277 (by kernel_rfl) (by kernel_rfl) (by kernel_rfl) (by kernel_rfl)
 have h10:=@run_callFunc_extern Tryz.prog 188 _ ReflectliteType.typeOf Tryz.func188 (by kernel_rfl) (by kernel_rfl) (by kernel_rfl) (by kernel_rfl)
 have h35 := @run_callFunc_extern Tryz.prog 274 _ (ReflectliteType.relation "AssignableTo" ReflectliteType.assignableTo) Tryz.func274 (by kernel_rfl) (by kernel_rfl) (by kernel_rfl) (by kernel_rfl)
 have h11 := @run_callFunc_extern Tryz.prog 189 _ (ReflectliteValue.method (ReflectliteValue.valueError "reflectlite.Value.Elem" 0) ReflectliteValue.elem) Tryz.func189 (by kernel_rfl) (by kernel_rfl) (by kernel_rfl) (by kernel_rfl)
 have h12:=@run_callFunc_extern Tryz.prog 190 _ ReflectliteValue.set Tryz.func190 (by kernel_rfl) (by kernel_rfl) (by kernel_rfl) (by kernel_rfl)
 have tO:=As.typeOfE
 have mA:=As.methodAssignableTo
 have aE:=As.assignableE
 have vE:=As.valueOfE
 have f6:=As.valueOfP
 have f7:=As.typeP
 have mK:=As.methodKind
 have mE:=As.methodElem
 have mI:=As.methodImplements
 have kP:=As.kindP
 have kE:=As.kindE
 have eP:=As.elemP
 have iE:=As.implementsE
 have tA:=As.typeOfA
 have nA:=As.noAsA
 have uA:=As.unwrapA
 have aA:=As.assignableA
 have hbl:b < w.heap.size:=lt_of_cell hp
 have hp3:(((w.alloc (.cells #[.pointer (some t)] 109)).alloc (.cells #[.pointer (some ⟨5,109,none⟩),.pointer (some ⟨w.heap.size,0,none⟩),.int .u64 150] 173)).alloc (.cells #[.pointer (some ⟨5,109,none⟩),.pointer (some ⟨w.heap.size,0,none⟩),.int .u64 150] 173)).cell? ⟨b,off,none⟩=some (.int .i64 e):=by
   rw [World.cell?_alloc_lt _ _ ⟨b,off,none⟩ (by simp;omega),World.cell?_alloc_lt _ _ ⟨b,off,none⟩ (by simp;omega),World.cell?_alloc_lt _ _ ⟨b,off,none⟩ hbl];exact hp
 have htl:=lt_of_cell ht0
 have hlt:0 < w.heap.size:=lt_of_cell hg
 have n8:=As.isNilP ⟨w.heap.size,0,none⟩ t ((w.alloc (.cells #[.pointer (some t)] 109)).alloc (.cells #[.pointer (some ⟨5,109,none⟩),.pointer (some ⟨w.heap.size,0,none⟩),.int .u64 150] 173)) (by simp)
 have hg2:((w.alloc (.cells #[.pointer (some t)] 109)).alloc (.cells #[.pointer (some ⟨5,109,none⟩),.pointer (some ⟨w.heap.size,0,none⟩),.int .u64 150] 173)).cell? ⟨0,0,none⟩=some (.iface 229 (.agg #[.pointer (some ⟨5,29,none⟩)])):=by
   rw [World.cell?_alloc_lt _ _ ⟨0,0,none⟩ (by simp only [World.size_alloc];omega),World.cell?_alloc_lt _ _ ⟨0,0,none⟩ hlt];exact hg
 have el:=As.elemVP ⟨w.heap.size,0,none⟩ t (((w.alloc (.cells #[.pointer (some t)] 109)).alloc (.cells #[.pointer (some ⟨5,109,none⟩),.pointer (some ⟨w.heap.size,0,none⟩),.int .u64 150] 173)).alloc (.cells #[.pointer (some ⟨5,109,none⟩),.pointer (some ⟨w.heap.size,0,none⟩),.int .u64 150] 173)) (by rw [World.cell?_alloc_lt _ _ ⟨w.heap.size,0,none⟩ (by simp;omega)];simp)
 have st:=As.setE t ⟨w.heap.size + 1 + 1 + 1,0,none⟩ e old ((((w.alloc (.cells #[.pointer (some t)] 109)).alloc (.cells #[.pointer (some ⟨5,109,none⟩),.pointer (some ⟨w.heap.size,0,none⟩),.int .u64 150] 173)).alloc (.cells #[.pointer (some ⟨5,109,none⟩),.pointer (some ⟨w.heap.size,0,none⟩),.int .u64 150] 173)).alloc (.cells #[.int .i64 e] 44))
   (by rw [World.cell?_alloc_at _ _ _ _ (by simp)];rfl)
   (by rw [World.cell?_alloc_lt _ _ t (by simp;omega),World.cell?_alloc_lt _ _ t (by simp;omega),World.cell?_alloc_lt _ _ t (by simp;omega),World.cell?_alloc_lt _ _ t htl];exact ht0)
   (by rw [World.frozen?_alloc_old _ _ t (by simp;omega),World.frozen?_alloc_old _ _ t (by simp;omega),World.frozen?_alloc_old _ _ t (by simp;omega),World.frozen?_alloc_old _ _ t (Nat.ne_of_lt htl)];exact hf0)
 go_enter Tryz.func86,Tryz.ntmps86
 go_wp2
 refine wp_loop_rounds 2 ?_
 rw [rounds_succ]
 go_wp2
 rw [rounds_succ]
 go_wp2
 go_ret
 exact ⟨rfl,rfl⟩
end Go.Proofs.YtjkbmfpomgcblaaGreatDoor
namespace Go.Proofs.YtjkbmfpomgcblaaGreatDoor
open Go.RowKit
def rightBL (l:List Tok) (b:List Nat):Nat×Int:=if (rightF l 0 0).1=0 then (0,-1) else ((rightF l 0 0).1,((b.getD (rightF l 0 0).2.toNat 0:Nat):Int))
theorem rightF_bound {l:List Tok} {i a:Nat} (h:(rightF l i a).1≠0):∃ j,(rightF l i a).2=((i + j:Nat):Int)∧j < l.length:=by
 induction l generalizing i a with
 | nil=>exact absurd rfl h
 | cons t r ih =>
   by_cases hw:wrongN t a=0
   · rw [rightF_ok hw] at h ⊢
     obtain ⟨j,h1,h2⟩:=ih h
     exact ⟨j + 1,by rw [h1];congr 1;omega,by simp;omega⟩
   · rw [rightF_bad hw]
     exact ⟨0,by simp,by simp⟩
set_option maxRecDepth 100000 in
set_option maxHeartbeats 2000000 in
theorem lzright_any (v bv:Value) (l:List Tok) (b:List Nat) (base:Nat) (w:World) (hv:IsToks w v l) (hl:l.length≤9223372036854775807) (hz:∀ t∈l,t.own.size≤140737488351232) (hb:ownsN w base bv b) (hbl:b.length=l.length) :
   Calls Tryz.prog 205 #[v,bv] w (RightIs w (rightBL l b)):=by
 have iA:=As.isAtA
 have nA:∀ (xT:TypeId) (w:World),(Instr.typeAssert .nilIface xT 111 true).run Tryz.prog w=.ok (.tuple #[.pointer none,.bool false]) w:=fun xT w=>by kernel_rfl
 by_cases hr:(rightF l 0 0).1=0
 · have HRB:Hid (rightBL l b=(0,-1)):=Lib.hid (show rightBL l b=(0,-1) by unfold rightBL;rw [if_pos hr])
   have HR0:=Lib.hid hr
   have HV:=Lib.hid hv
   have HZ:=Lib.hid hz
   clear hr hv hz hb hbl
   rw [HRB.out]
   go_enter Tryz.func205,Tryz.ntmps205
   go_wp2_with fail
   refine (right_any _ l _ HV.out hl HZ.out).mono ?_
   rintro r w0 ⟨err,rfl,hat,hb0⟩
   obtain rfl:err=.nilIface:=by
     rcases hat with ⟨_,h⟩ | ⟨h,_⟩
     · exact h
     · exact absurd HR0.out h
   have HB0:=Lib.hid hb0
   clear hat hb0
   go_wp2
   go_ret
   exact ⟨_,rfl,.inl ⟨rfl,rfl⟩,HB0.out⟩
 · obtain ⟨j,hj,hjl⟩:=rightF_bound hr
   rw [Nat.zero_add] at hj
   obtain ⟨e,he⟩:∃ e,(rightF l 0 0).1=e:=⟨_,rfl⟩
   have hre:rightF l 0 0=(e,(j:Int)):=Prod.ext he hj
   have hne:e≠0:=by rw [←he];exact hr
   obtain ⟨q,hq⟩:∃ q,b.getD j 0=q:=⟨_,rfl⟩
   have HRB:Hid (rightBL l b=(e,(q:Int))):=Lib.hid (show rightBL l b=(e,(q:Int)) by unfold rightBL;rw [if_neg hr,hre];simp only [Int.toNat_natCast];rw [hq])
   have HRE:=Lib.hid hre
   have HNE:=Lib.hid hne
   have HV:=Lib.hid hv
   have HZ:=Lib.hid hz
   have HBO:=Lib.hid hb
   rcases hb.forms with ⟨_,hnil⟩ | ⟨g,cap,rfl,hbg,hgl,hcells⟩
   · rw [hnil] at hbl;simp at hbl;omega
   · have hcj:=hcells j (by omega)
     rw [hq] at hcj
     have hjb:(j:Int) < (b.length:Int):=by omega
     have hj0:(0:Int)≤(j:Int):=by omega
     obtain ⟨n,hn⟩:∃ n,n=b.length:=⟨_,rfl⟩
     rw [←hn] at hjb ⊢
     clear hr hj he hre hne hv hz hb hbl hcells hjl hq hn
     rw [HRB.out]
     go_enter Tryz.func205,Tryz.ntmps205
     go_wp2_with fail
     refine (right_any _ l _ HV.out hl HZ.out).mono ?_
     rintro r w0 ⟨err,rfl,hat,hb0⟩
     rw [HRE.out] at hat
     rcases hat with ⟨h,_⟩ | ⟨_,a,rfl,ha,c0,c1⟩
     · exact absurd (congrArg Prod.fst h) HNE.out
     · simp only at c0 c1
       have c2:w0.cell? ⟨g,j,none⟩=some (.int .i64 (q:Int)):=(hb0.cell hgl).trans hcj
       have HB0:=Lib.hid hb0
       have hsz:=hb0.size
       clear hb0 hcj
       go_wp2
       go_region
       go_wp2
       go_ret
       exact ⟨_,rfl,atIs.new w0 e (q:Int) HNE.out,(HB0.out.alloc hsz _).drew⟩
end Go.Proofs.YtjkbmfpomgcblaaGreatDoor
namespace Go.Proofs.YtjkbmfpomgcblaaGreatDoor
open Go.ChangeShapes Go.WideShapes Go.RowKit
def theLaid : List (String × DataW Unit) := [("errors.errorType", Rows.laid_errors_errorType)]
theorem own:ownKnob Tryz.prog.godebug=none:=by kernel_rfl
theorem laid_et : Tryz.prog.globalNamed "errors.errorType" = some 0 := by kernel_rfl
theorem laid_rt : (Tryz.prog.cutTypes.find? (·.1 == "internal/reflectlite.rtype")).map (·.2) = some 229 := by kernel_rfl
theorem laid_size:Tryz.prog.types.size=309:=by kernel_rfl
theorem laid_oneRow:((List.range 309).filter fun t=>Tryz.prog.rowNamed t [101,114,114,111,114])=[29]:=by kernel_rfl
theorem errT_of_laid {W:World} (h:laidMetH Tryz.prog theLaid W):errT W:=by
 have h':laidMet Tryz.prog [] W∧handlesMet Tryz.prog theLaid W:=h
 obtain ⟨name,u,ty,e1,e2,e3,e4,e5⟩:=h'.2 _ (List.mem_singleton.2 rfl)
 have en:name=[101,114,114,111,114]:=(Option.some.inj e1).symm
 subst en
 obtain rfl:=Option.some.inj (laid_rt.symm.trans e2)
 have hm:ty∈(List.range 309).filter fun t=>Tryz.prog.rowNamed t [101,114,114,111,114]:=List.mem_filter.2 ⟨List.mem_range.2 (by rw [←laid_size];exact e3),e4⟩
 rw [laid_oneRow] at hm
 obtain rfl:=List.mem_singleton.1 hm
 have hh:typeHandle Tryz.prog 29=.pointer (some ⟨5,29,none⟩):=by kernel_rfl
 rw [hh] at e5
 unfold errT
 simpa using World.var?_cell laid_et e5 0
noncomputable def laidWorld (os:Os):World :=
 let w0:=World.holding Tryz.prog os ⟨#[],#[],[]⟩
 { w0 with heap := w0.heap.modify 0 fun
     | .cells _ t frozen=>.cells #[.iface 229 (.agg #[.pointer (some ⟨5,29,none⟩)])] t frozen
     | o=>o }
theorem laidWorld_met (os:Os) (args:Array Value):laidMetH Tryz.prog theLaid ((laidWorld os).forCall (fun _ _=>0) ⟨#[],args,[]⟩).memory :=
 laidMetH_of_parts (laidMet_nil _ _) (by kernel_rfl)
end Go.Proofs.YtjkbmfpomgcblaaGreatDoor
