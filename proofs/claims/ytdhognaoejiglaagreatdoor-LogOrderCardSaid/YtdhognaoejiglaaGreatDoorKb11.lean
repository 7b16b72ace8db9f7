import Derived.Test.YtdhognaoejiglaaGreatDoorKb10
namespace Go.Proofs.YtdhognaoejiglaaGreatDoor
open Lib (hid)
set_option maxRecDepth 100000
set_option maxHeartbeats 8000000
section
open Go.RowKit
def dN (l:List Tok):List UInt8:=if (am l 0 0).1=0 then b7 [] l else []
def wD (w:World) (l:List Tok) (e:Ending) (w':World):Prop :=
 ∃ err,e=.returned (.tuple #[.string ⟨(dN l).toArray⟩,err])∧atIs w' err (am l 0 0)∧Below w.heap.size w w'
theorem EE (b:List UInt8) (t:Tok) (r:List Tok):b7 b (t::r)=b7 (eN b t) r:=rfl
theorem Dm (b:List UInt8) (k n:Nat):repL b k (n+1)=repL (b++[b.getD (b.length-k) 0]) k n:=rfl
theorem EI (v:Value) (l:List Tok) (w:World) (hv:fP w v l) (hl:l.length≤9223372036854775807) (hz:∀ t∈l,t.own.size≤140737488351232) :
 Calls Tryz.prog 184 #[v] w (wD w l):=by
 have HV:=hid hv;have HLL:=hid hl;have HZ:=hid hz;by_cases hr:(am l 0 0).1=0
 ·have HR:=hid (ou hr);have HT:Hid (dN l=b7 [] l):=by
   have h:dN l=b7 [] l:=by unfold dN;rw [if_pos hr]
   exact h
  have HR0:=hid hr;obtain ⟨a1,c1,rfl,f1⟩:=hv.form;have F1:=hid f1;obtain ⟨n,hn⟩:∃ n,n=l.length:=⟨_,rfl⟩;rw [←hn] at hl ⊢ HV;have HN:=hid hn;clear hv f1 hn hz hr;go_enter Tryz.func184,Tryz.ntmps184
  go_wp2_with fail
  refine (ib _ l _ HV.out HLL.out HZ.out).mono ?_;rintro r w0 ⟨err,rfl,hat,hb0⟩;obtain rfl:err=.nilIface:=by
   rcases hat with ⟨_,h⟩ | ⟨h,_⟩
   ·exact h
   ·exact absurd HR0.out h
  have HB0:=hid hb0;clear hat hb0;go_wp2
  go_loopw [5,15] (fun v i wr=>∃ (k:Nat) (acc:List UInt8),k≤n∧i=.int .i64 k∧b7 [] l=b7 acc (l.drop k)∧(am (l.drop k) k acc.length).1=0∧acc.length≤20000∧bN wr w.heap.size v acc∧Below w.heap.size w wr) (fun _ i _=>n-(intOf i).toNat)
  case atStart=>exact ⟨0,[],by omega,rfl,rfl,HR0.out,by simp,CG _ _,HB0.out⟩
  case round =>
   obtain ⟨k,acc,hk,rfl,htx,hrt,hac,hown,hbel⟩:=hrel;have HTX:=hid htx;have HRT:=hid hrt;have HO:=hid hown;have HB:=hid hbel;clear htx hrt hown hbel;by_cases hlt:k<n
   ·have hkl:k<l.length:=by have:=HN.out;omega
    obtain ⟨t,ht⟩:∃ t,l[k]? = some t:=⟨l[k],List.getElem?_eq_getElem hkl⟩;obtain ⟨b1,o1,rfl,hb1,p0,p1,p2⟩:=F1.out k t ht;have hd:l.drop k=t::l.drop (k+1):=by
     rw [List.drop_eq_getElem_cons hkl];congr 1;rw [List.getElem?_eq_getElem hkl] at ht;exact Option.some.inj ht
    obtain ⟨own,back,size⟩:=t;simp only at p0 p1 p2
    have q0:=(HB.out.cell (p:=⟨b1,o1+k * 3,none⟩) hb1).trans p0;have q1:=(HB.out.cell (p:=⟨b1,o1+k * 3+1,none⟩) hb1).trans p1;have q2:=(HB.out.cell (p:=⟨b1,o1+k * 3+2,none⟩) hb1).trans p2;have hzr:=HB.out.size;have hrt:=HRT.out;rw [hd] at hrt;obtain ⟨hw0,hw1⟩:=jm hrt;have hle:=ml hw0;obtain ⟨nn,hnn⟩:∃ nn:Nat,size=nn:=by
     rcases jG hw0 with ⟨_,h,_⟩ | ⟨_,h,_⟩
     ·exact ⟨0,h⟩
     ·exact Int.eq_ofNat_of_zero_le (Int.le_trans (by decide) h)
    subst hnn;have hfacts:own.size≤20000∧nn≤67∧(0<nn→own.size=0∧1≤back∧back≤acc.length):=by
     rcases jG hw0 with ⟨h1,h2,h3,h4⟩ | ⟨h1,h2,h3,h4,h5,h6,h7⟩
     ·simp only at h1 h2 h3 h4
      exact ⟨by omega,by omega,fun h=>absurd h (by omega)⟩
     ·simp only at h1 h2 h3 h4 h5 h6 h7
      exact ⟨by omega,by omega,fun h=>⟨h1,h4,h6⟩⟩
    have HD:Hid (b7 [] l=b7 (repL (acc++own.data.toList) back.toNat nn) (l.drop (k+1))):=by
     have h:b7 [] l=b7 (repL (acc++own.data.toList) back.toNat nn) (l.drop (k+1)):=by
      rw [HTX.out,hd,EE];rfl
     exact h
    have HW1:Hid ((am (l.drop (k+1)) (k+1) ((acc++own.data.toList).length+nn)).1=0):=by
     have h:(am (l.drop (k+1)) (k+1) ((acc++own.data.toList).length+nn)).1=0:=by
      have e:(acc++own.data.toList).length+nn=acc.length+lenT ⟨own,back,nn⟩:=by
       rw [List.length_append,←aj];show _=_+(own.size+(nn:Int).toNat);omega
      rw [e];exact hw1
     exact h
    have hle2:(acc++own.data.toList).length+nn≤20000:=by
     rw [List.length_append,←aj];have h:lenT ⟨own,back,nn⟩=own.size+nn:=by show own.size+(nn:Int).toNat=_;omega
     omega
    obtain ⟨acc1,hacc1⟩:∃ acc1,acc++own.data.toList=acc1:=⟨_,rfl⟩;have hal:acc.length≤acc1.length:=by rw [←hacc1,List.length_append];omega
    rw [hacc1] at HD HW1 hle2;have HA1:=hid hacc1;obtain ⟨f1',f2',f3'⟩:=hfacts;have HF3:=hid f3';clear p0 p1 p2 ht hd hkl hrt hw0 hw1 hle HTX HRT hacc1 f3';go_wp2_with (at_builtin;refine Gg rfl _ _ rfl w.heap.size _ acc rfl (HO.out.alloc _) own rfl ?c1 ?c2 ?_)
    case c1=>omega
    case c2=>simp;omega
    ·intro v1 w1 ho1 hg1;rw [HA1.out] at ho1;have htb:co w1 wr.heap.size ⟨own,back,nn⟩:=(jw wr own back nn).grown hg1 ((HO.out.alloc _).ne_tok (jw wr own back nn));have hbel1:Below w.heap.size w w1:=(HB.out.alloc hzr _).grown hg1 (by simp;omega) (fun g hg=>(HO.out.lt g hg).1);have HTB:=hid htb;have HO1:=hid ho1;have HB1:=hid hbel1;obtain ⟨_,_,t2⟩:=htb.cells;simp only at t2
     clear ho1 hg1 htb hbel1 q0 q1 q2;go_wp2;obtain ⟨Bt,hBt⟩:∃ B,B=wr.heap.size:=⟨_,rfl⟩;rw [←hBt];rw [←hBt] at HTB;clear t2 hBt hzr HB HO
     go_loopw [5,25] (fun v j wi=>∃ (j':Nat) (b:List UInt8),j'≤nn∧j=.int .i64 j'∧repL acc1 back.toNat nn=repL b back.toNat (nn-j')∧b.length=acc1.length+j'∧bN wi w.heap.size v b∧co wi Bt ⟨own,back,nn⟩∧Below w.heap.size w wi) (fun _ j _=>nn-(intOf j).toNat)
     case atStart=>exact ⟨0,acc1,by omega,rfl,rfl,rfl,HO1.out,HTB.out,HB1.out⟩
     case round =>
      obtain ⟨j,b,hj,rfl,hrep,hbl,hown,htb,hbel⟩:=hrel;have HREP:=hid hrep;have HBL:=hid hbl;by_cases hjl:j<nn
      ·obtain ⟨_,hk1,hk2⟩:=HF3.out (by omega);obtain ⟨kb,rfl⟩:=Int.eq_ofNat_of_zero_le (show 0≤back by omega);rcases hown.forms with ⟨_,hnil⟩ | ⟨g,cap,hv,hbg,hgl,hcells⟩
       ·rw [hnil] at hbl;simp at hbl;omega
       ·subst hv;obtain ⟨m,hm⟩:∃ m,m=b.length:=⟨_,rfl⟩;obtain ⟨r,hr⟩:∃ r,r=b.length-kb:=⟨_,rfl⟩;have hcr:=hcells r (by omega);obtain ⟨_,t1,_⟩:=htb.cells;simp only at t1
        have e1:(m:Int)-(kb:Int)=(r:Int):=by omega
        have hrm:r<m:=by omega
        have hm2:m≤20100:=by omega
        have HRN:Hid (repL acc1 kb nn=repL (b++[b.getD r 0]) kb (nn-(j+1))):=by
         have h:repL acc1 kb nn=repL (b++[b.getD r 0]) kb (nn-(j+1)):=by
          have h2:=HREP.out;rw [Int.toNat_natCast,show nn-j=(nn-(j+1))+1 by omega,Dm,←hr] at h2;exact h2
         exact h
        obtain ⟨c,hc⟩:∃ c,b.getD r 0=c:=⟨_,rfl⟩;rw [hc] at hcr HRN;rw [←hm];have HOW:=hid hown;rw [←hm] at HOW;have HTB2:=hid htb;have HB2:=hid hbel;have HM:=hid hm;have hzi:=hbel.size;clear hrep hbl hown htb hbel hcells hr hc hm HREP;go_wp2_with (at_builtin;refine me rfl _ _ rfl w.heap.size _ b rfl (HOW.out.alloc _) ⟨wr.heap.size,0,none⟩ 1 rfl ((c.toNat:Nat):Int) c ?d1 ?d2 ?d3 ?d4 ?_)
        case d2=>rfl
        case d3=>have:=HM.out;omega
        case d4=>first | omega | (simp;omega)
        ·intro v2 w2 ho2 hg2 _;have HB3:Hid (Below w.heap.size w w2):=(HB2.out.alloc hzi _).grown hg2 (by simp;omega) (fun g hg=>(HOW.out.lt g hg).1);have HTB3:Hid (co w2 Bt ⟨own,kb,nn⟩):=(HTB2.out.alloc _).grown hg2 (HOW.out.ne_tok HTB2.out);have HO3:=hid ho2;clear ho2 hg2 hcr t1;go_wp2;go_roundw
         case rel=>exact ⟨j+1,b++[c],by omega,by go_num,by rw [Int.toNat_natCast];exact HRN.out,by rw [List.length_append,List.length_singleton,HBL.out];omega,HO3.out,HTB3.out,HB3.out⟩
         case measure=>simp [intOf];omega
      ·have HRN : Hid (b7 [] l = b7 b (l.drop (k + 1))) := by
        have h:b7 [] l=b7 b (l.drop (k+1)):=by rw [HD.out,HREP.out,show nn-j=0 by omega];rfl
        exact h
       have HRW:Hid ((am (l.drop (k+1)) (k+1) b.length).1=0):=by
        have h:(am (l.drop (k+1)) (k+1) b.length).1=0:=by rw [hbl,show j=nn by omega];exact HW1.out
        exact h
       have HOW:=hid hown;have HB2:=hid hbel;obtain ⟨_,_,t2⟩:=htb.cells;clear hrep hbl hown hbel htb;go_wp2;go_roundw
       case rel=>exact ⟨k+1,b,by omega,by go_num,HRN.out,HRW.out,by have:=HBL.out;omega,HOW.out,HB2.out⟩
       case measure=>simp [intOf];omega
   ·have HRN : Hid (dN l = acc) := by
     have h:dN l=acc:=by rw [HT.out,HTX.out,List.drop_eq_nil_of_le (by have:=HN.out;omega)];rfl
     exact h
    have hcv:=tB HO.out;go_wp2;go_ret2;exact ⟨_,by rw [HRN.out];rfl,.inl ⟨HR.out,rfl⟩,HB.out⟩
 ·have HT : Hid (dN l = []) := by
   have h:dN l=[]:=by unfold dN;rw [if_neg hr]
   exact h
  have HR0:=hid hr;clear hv hl hz hr;go_enter Tryz.func184,Tryz.ntmps184
  go_wp2_with fail
  refine (ib _ l _ HV.out HLL.out HZ.out).mono ?_;rintro r w0 ⟨err,rfl,hat,hb0⟩;have HAT:=hid hat;have HB0:=hid hb0;obtain ⟨b,rfl,_⟩:∃ b,err=.iface 84 (.pointer (some ⟨b,0,none⟩))∧True:=by
   rcases hat with ⟨h,_⟩ | ⟨_,b,h,_⟩
   ·exact absurd (by rw [h]) HR0.out
   ·exact ⟨b,h,trivial⟩
  clear hat hb0;go_wp2;go_ret2;exact ⟨_,by rw [HT.out];rfl,HAT.out,HB0.out⟩
end
section
open Go.RowKit Go.Extern.Stop Go.Stop Go.Extern
def errT (w:World):Prop:=w.cell? ⟨0,0,none⟩=some (.iface 160 (.agg #[.pointer (some ⟨2,41,none⟩)]))
def eo (w:World) (t:Addr):World :=
 ((w.alloc (.cells #[.pointer (some t)] 107)).alloc (.cells #[.pointer (some ⟨2,107,none⟩),.pointer (some ⟨w.heap.size,0,none⟩),.int .u64 150] 133)).alloc (.cells #[.pointer (some ⟨2,107,none⟩),.pointer (some ⟨w.heap.size,0,none⟩),.int .u64 150] 133)
theorem bg {w:World} {a:Addr} {v:Value} (h:w.cell? a=some v):a.block<w.heap.size:=by
 rcases Nat.lt_or_ge a.block w.heap.size with h' | h'
 ·exact h'
 ·simp [World.cell?,Array.getElem?_eq_none h'] at h
theorem xo (e:Int) (t:Addr) (old:Value) (w:World) (hg:errT w) (ht0:w.cell? t=some old) (hf0:w.frozen? t=false) :
 Calls Tryz.prog 60 #[.iface 68 (.int .i64 e),.iface 107 (.pointer (some t))] w fun ev w'=>ev=.returned (.bool true)∧((eo w t).alloc (.cells #[.int .i64 e] 68)).setCell t (.int .i64 e)=w':=by
 unfold eo;unfold errT at hg;have h6:=@run_callFunc_extern Tryz.prog 81 _ (fun args=>ReflectliteValue.unpack (args.getD 0 (.tuple #[]))) Tryz.func81 (by kernel_rfl) (by kernel_rfl) (by kernel_rfl) (by kernel_rfl)
 have h7 := @run_callFunc_extern Tryz.prog 82 _ (ReflectliteValue.methodAny (ReflectliteValue.valueError "reflectlite.Value.Type" 0) (fun t _ _ _ => ReflectliteType.toType t)) Tryz.func82 (by kernel_rfl) (by kernel_rfl) (by kernel_rfl) (by kernel_rfl)
 have h8 := @run_callFunc_extern Tryz.prog 83 _ (ReflectliteValue.method (ReflectliteValue.valueError "reflectlite.Value.IsNil" 0) ReflectliteValue.isNil) Tryz.func83 (by kernel_rfl) (by kernel_rfl) (by kernel_rfl) (by kernel_rfl)
 have h27:=@run_callFunc_extern Tryz.prog 237 _ (ReflectliteType.abiMethod fun t=>do pure (.int .u8 (←Rtype.kind t))) Tryz.func237 (by kernel_rfl) (by kernel_rfl) (by kernel_rfl) (by kernel_rfl);have h37:=@run_callFunc_extern Tryz.prog 250 _ (ReflectliteType.method ReflectliteType.elem) Tryz.func250 (by kernel_rfl) (by kernel_rfl) (by kernel_rfl) (by kernel_rfl)
 have h38 := @run_callFunc_extern Tryz.prog 251 _ (ReflectliteType.relation "Implements" ReflectliteType.implements_) Tryz.func251 (by kernel_rfl) (by kernel_rfl) (by kernel_rfl) (by kernel_rfl)
 have h10:=@run_callFunc_extern Tryz.prog 107 _ ReflectliteType.typeOf Tryz.func107 (by kernel_rfl) (by kernel_rfl) (by kernel_rfl) (by kernel_rfl)
 have h35 := @run_callFunc_extern Tryz.prog 248 _ (ReflectliteType.relation "AssignableTo" ReflectliteType.assignableTo) Tryz.func248 (by kernel_rfl) (by kernel_rfl) (by kernel_rfl) (by kernel_rfl)
 have h11 := @run_callFunc_extern Tryz.prog 108 _ (ReflectliteValue.method (ReflectliteValue.valueError "reflectlite.Value.Elem" 0) ReflectliteValue.elem) Tryz.func108 (by kernel_rfl) (by kernel_rfl) (by kernel_rfl) (by kernel_rfl)
 have h12:=@run_callFunc_extern Tryz.prog 109 _ ReflectliteValue.set Tryz.func109 (by kernel_rfl) (by kernel_rfl) (by kernel_rfl) (by kernel_rfl);have tO:=As.typeOfE;have mA:=As.methodAssignableTo;have aE:=As.assignableE;have vE:=As.valueOfE;have f6:=As.valueOfP;have f7:=As.typeP;have mK:=As.methodKind;have mE:=As.methodElem;have mI:=As.methodImplements;have kP:=As.kindP;have kE:=As.kindE;have eP:=As.elemP;have iE:=As.implementsE;have htl:=bg ht0;have hlt:0<w.heap.size:=bg hg;have n8:=As.isNilP ⟨w.heap.size,0,none⟩ t ((w.alloc (.cells #[.pointer (some t)] 107)).alloc (.cells #[.pointer (some ⟨2,107,none⟩),.pointer (some ⟨w.heap.size,0,none⟩),.int .u64 150] 133)) (by simp);have hg2:((w.alloc (.cells #[.pointer (some t)] 107)).alloc (.cells #[.pointer (some ⟨2,107,none⟩),.pointer (some ⟨w.heap.size,0,none⟩),.int .u64 150] 133)).cell? ⟨0,0,none⟩=some (.iface 160 (.agg #[.pointer (some ⟨2,41,none⟩)])):=by
  rw [World.cell?_alloc_lt _ _ ⟨0,0,none⟩ (by simp only [World.size_alloc];omega),World.cell?_alloc_lt _ _ ⟨0,0,none⟩ hlt];exact hg
 have el:=As.elemVP ⟨w.heap.size,0,none⟩ t (((w.alloc (.cells #[.pointer (some t)] 107)).alloc (.cells #[.pointer (some ⟨2,107,none⟩),.pointer (some ⟨w.heap.size,0,none⟩),.int .u64 150] 133)).alloc (.cells #[.pointer (some ⟨2,107,none⟩),.pointer (some ⟨w.heap.size,0,none⟩),.int .u64 150] 133)) (by rw [World.cell?_alloc_lt _ _ ⟨w.heap.size,0,none⟩ (by simp;omega)];simp)
 have st:=As.setE t ⟨w.heap.size+1+1+1,0,none⟩ e old ((((w.alloc (.cells #[.pointer (some t)] 107)).alloc (.cells #[.pointer (some ⟨2,107,none⟩),.pointer (some ⟨w.heap.size,0,none⟩),.int .u64 150] 133)).alloc (.cells #[.pointer (some ⟨2,107,none⟩),.pointer (some ⟨w.heap.size,0,none⟩),.int .u64 150] 133)).alloc (.cells #[.int .i64 e] 68))
  (by rw [World.cell?_alloc_at _ _ _ _ (by simp)];rfl)
  (by rw [World.cell?_alloc_lt _ _ t (by simp;omega),World.cell?_alloc_lt _ _ t (by simp;omega),World.cell?_alloc_lt _ _ t (by simp;omega),World.cell?_alloc_lt _ _ t htl];exact ht0)
  (by rw [World.frozen?_alloc_old _ _ t (by simp;omega),World.frozen?_alloc_old _ _ t (by simp;omega),World.frozen?_alloc_old _ _ t (by simp;omega),World.frozen?_alloc_old _ _ t (Nat.ne_of_lt htl)];exact hf0)
 go_enter Tryz.func60,Tryz.ntmps60
 go_wp2;refine wp_loop_rounds 1 ?_;rw [rounds_succ];go_wp2;go_ret;exact ⟨rfl,rfl⟩
end
section
open Go.RowKit Go.Maps
structure fk (G:ByteArray→Cel) (z:List (ByteArray×Cel)):Prop where
 nodup:(z.map (·.1)).Nodup
 sorted:z.Pairwise (fun a b=>leB a.1 b.1=true)
 mem:∀ k c,(k,c)∈z↔G k=c∧live c=true
theorem qx (l:List Wr):fk (cx l) (cg l):=⟨yl l,ym l,fun _ _=>qw⟩
theorem fk.unique {G:ByteArray→Cel} {z y:List (ByteArray×Cel)} (h:fk G z) (k:fk G y):z=y :=
 E4 h.nodup k.nodup h.sorted k.sorted (fun p=>by obtain ⟨a,b⟩:=p;rw [h.mem,k.mem])
theorem fk.is {l:List Wr} {z:List (ByteArray×Cel)} (h:fk (cx l) z):z=cg l:=h.unique (qx l)
def fN (w:World) (v:Value) (z:List (ByteArray×Cel)):Prop :=
 ∃ zs:List CV,eT w v zs∧zs.length=z.length∧∀ (i:Nat) (c:CV),zs[i]? = some c→∃ p:ByteArray×Cel,z[i]? = some p∧c.key=p.1∧c.has=p.2.has∧c.text=p.2.text∧c.sum=p.2.sum∧cD w c.list p.2.list
def ce (w:World) (base:Nat) (G:ByteArray→Cel) (ks:List ByteArray) (zs:List CV):Prop :=
 zs.map (·.key)=ks∧∀ c∈zs,c.has=(G c.key).has∧c.text=(G c.key).text∧c.sum=(G c.key).sum∧ai w base c.list (G c.key).list
theorem ce.kept {w w':World} {base b2:Nat} {G:ByteArray→Cel} {ks:List ByteArray} {zs:List CV} {v:Value} {l:List CV} (h:ce w base G ks zs) (ho:bE w b2 v l) (hg:w.grownBy w' v.ownBlock):ce w' base G ks zs :=
 ⟨h.1,fun c hc=>by
  obtain ⟨h1,h2,h3,h4⟩:=h.2 c hc;exact ⟨h1,h2,h3,World.ownsRow.kept h4 hg (lE h4 ho (by decide))⟩⟩
theorem ce.grown {w w':World} {base:Nat} {G:ByteArray→Cel} {ks:List ByteArray} {zs:List CV} (h:ce w base G ks zs) (hg:w.grownBy w' none):ce w' base G ks zs :=
 ⟨h.1,fun c hc=>by
  obtain ⟨h1,h2,h3,h4⟩:=h.2 c hc;exact ⟨h1,h2,h3,World.ownsRow.kept h4 hg (by cases e:c.list.ownBlock with
   | none=>exact .inl rfl
   | some g=>exact .inr (by simp))⟩⟩
theorem ce.add {w:World} {base:Nat} {G:ByteArray→Cel} {ks:List ByteArray} {zs:List CV} (h:ce w base G ks zs) {k:ByteArray} {u:Value} (hu:ai w base u (G k).list) :
 ce w base G (ks++[k]) (zs++[⟨k,(G k).has,(G k).text,(G k).sum,u⟩]) :=
 ⟨by rw [List.map_append,h.1];rfl,fun c hc=>by
  rcases List.mem_append.1 hc with hc | hc
  ·exact h.2 c hc
  ·obtain rfl:=List.mem_singleton.1 hc;exact ⟨rfl,rfl,rfl,hu⟩⟩
def dz (zs:List CV) (k:ByteArray):CV:=match zs.find? (fun c=>decide (c.key=k)) with
 | some c=>c
 | none=>{ cv0 with key:=k }
theorem yc (zs:List CV) (k:ByteArray):(dz zs k).key=k:=by
 unfold dz;split
 ·rename_i c h;simpa using List.find?_some h
 ·rfl
theorem qX:∀ {zs:List CV},(zs.map (·.key)).Nodup→∀ {c:CV},c∈zs→zs.find? (fun d=>decide (d.key=c.key))=some c
 | [],_,_,hc=>by cases hc
 | a::r,hn,c,hc=>by
  rw [List.map_cons,List.nodup_cons] at hn;rcases List.mem_cons.1 hc with rfl | hc
  ·simp
  ·have hne:a.key≠c.key:=fun e=>hn.1 (by rw [e];exact List.mem_map_of_mem hc)
   rw [List.find?_cons_of_neg (by simpa using hne)];exact qX hn.2 hc
theorem qv {zs:List CV} (hn:(zs.map (·.key)).Nodup) {c:CV} (hc:c∈zs):dz zs c.key=c:=by
 unfold dz;rw [qX hn hc]
theorem yb {zs:List CV} (hn:(zs.map (·.key)).Nodup):(zs.map (·.key)).map (dz zs)=zs:=by
 rw [List.map_map]
 conv=>rhs;rw [←List.map_id zs]
 exact List.map_congr_left (fun c hc=>qv hn hc)
theorem ye {w:World} {base:Nat} {G:ByteArray→Cel} {ks:List ByteArray} {zs:List CV} (h:ce w base G ks zs) (k:ByteArray):(dz zs k).list.oneCell'=true:=by
 unfold dz;split
 ·rename_i c e;obtain ⟨a,c2,h2⟩:=(h.2 c (List.mem_of_find?_eq_some e)).2.2.2.slice;rw [h2];rfl
 ·rfl
theorem ce.cells {w':World} {base:Nat} {G:ByteArray→Cel} {ks ks':List ByteArray} {zs:List CV} {v:Value} (h:ce w' base G ks zs) (hn:ks.Nodup) (hp:ks'.Perm ks) (hs:ks'.Pairwise (fun a b=>leB a b=true)) (hk:∀ k,k∈ks↔live (G k)=true)
 (hv:eT w' v (ks'.map (dz zs))):∃ z,fk G z∧fN w' v z:=by
 have hn2:(zs.map (·.key)).Nodup:=by rw [h.1];exact hn
 have hfst:(ks'.map fun k=>(k,G k)).map (·.1)=ks':=by rw [List.map_map];exact List.map_id ks'
 refine ⟨ks'.map fun k=>(k,G k),⟨by rw [hfst];exact hp.nodup_iff.2 hn,List.pairwise_map.2 hs,fun k c=>?_⟩,_,hv,by rw [List.length_map,List.length_map],fun i c hc=>?_⟩
 ·rw [List.mem_map]
  constructor
  ·rintro ⟨k',hk',e⟩;simp only [Prod.mk.injEq] at e
   obtain ⟨rfl,rfl⟩:=e;exact ⟨rfl,(hk k').1 (hp.mem_iff.1 hk')⟩
  ·rintro ⟨rfl,hl⟩;exact ⟨k,hp.mem_iff.2 ((hk k).2 hl),rfl⟩
 ·rw [List.getElem?_map] at hc;obtain ⟨k,hki,rfl⟩:=Option.map_eq_some_iff.1 hc;have hkm:k∈ks:=hp.mem_iff.1 (List.mem_of_getElem? hki);rw [←h.1] at hkm;obtain ⟨c0,hc0,rfl⟩:=List.mem_map.1 hkm;obtain ⟨h1,h2,h3,h4⟩:=h.2 c0 hc0;rw [qv hn2 hc0];exact ⟨(c0.key,G c0.key),by rw [List.getElem?_map,hki];rfl,rfl,h1,h2,h3,h4.isTexts⟩
end
section
open Go.RowKit Go.Shelf Go.Lib Go.Sort
theorem yn:CmpC 79:=by
 intro a b W;obtain ⟨ka,ha,ta,sa,la⟩:=a;obtain ⟨kb,hb,tb,sb,lb⟩:=b;show Calls Tryz.prog 79 #[.agg #[.string ka,.bool ha,.string ta,.int .i64 sa,la],.agg #[.string kb,.bool hb,.string tb,.int .i64 sb,lb]] W fun e w'=>e=.returned (.int .i64 (cfB ka kb))∧∃ q os',w'=grow (W.drewN q) os'
 unfold cfB;have hcon:=fun W'=>Tryz.strings_Compare ka kb W'
 generalize Lib.compareBytes ka.data.toList kb.data.toList=r at hcon ⊢;go_enter Tryz.func79,Tryz.ntmps79
 go_wp2_with (go_at_call 80;refine (hcon _).mono ?_;rintro e w' ⟨rfl,rfl⟩)
 go_ret;exact ⟨rfl,0,_,by rw [alloc_eq_grow,alloc_eq_grow,grow_grow];rfl⟩
theorem yo:∀ args w,(callFunc 79 args).run Tryz.prog w=.ok (.enter 79 args) w:=enters_of Tryz.func79 (by kernel_rfl) rfl
theorem E6 (fv:Value) (w:World):Calls Tryz.prog 127 #[.slice none 0 0,.int .i64 0,.int .i64 0,fv] w fun e w'=>e=.returned (.tuple #[])∧w'=w:=by
 go_enter Tryz.func127,Tryz.ntmps127
 go_wp2;refine wp_loop_rounds 1 ?_;rw [rounds_succ];go_wp2
 go_end0
 exact ⟨rfl,rfl⟩
theorem E7 (fv:Value) (lim:Int) (w:World):Calls Tryz.prog 104 #[.slice none 0 0,.int .i64 0,.int .i64 0,.int .i64 lim,fv] w fun e w'=>e=.returned (.tuple #[])∧w'=w:=by
 go_enter Tryz.func104,Tryz.ntmps104
 go_wp2;refine wp_loop_rounds 1 ?_;rw [rounds_succ];go_wp2_with (go_at_call 127;refine (E6 _ _).mono ?_;rintro e w' ⟨rfl,rfl⟩)
 (try simp only [Exit.inBlock,Exit.then]);refine bodyPost_ret (results_none rfl _ _ _) rfl ?_
 exact ⟨rfl,rfl⟩
theorem E5 (fv:Value) (w:World):Calls Tryz.prog 78 #[.slice none 0 0,fv] w fun e w'=>e=.returned (.tuple #[])∧w'=w:=by
 go_enter Tryz.func78,Tryz.ntmps78
 go_wp2_with (first | (go_at_call 105;refine (Tryz.bits_Len 0 _ (by decide) (by decide)).mono ?_;rintro e w' ⟨rfl,rfl⟩) | (go_at_call 104;refine (E7 _ _ _).mono ?_;rintro e w' ⟨rfl,rfl⟩))
 go_end0
 exact ⟨rfl,rfl⟩
end
section
structure LogS where
 rep:Int
 hv:List Ent
 ws:List Wr
structure aM (s:LogS):Prop where
 rep:0≤s.rep∧s.rep≤200
 hv:aB s.hv
 srt:s.ws.Pairwise late
 mem:∀ x∈s.ws,wE x=0∧x.time≤ofF s.hv x.rep
 len:s.ws.length≤300
theorem l5 {r:Int} (h:0≤r∧r≤200):aM ⟨r,[],[]⟩:=⟨h,⟨by simp,trivial⟩,List.Pairwise.nil,fun x hx=>(by cases hx),by simp⟩
theorem pu {x:Wr} (h:wE x=0):1≤x.time∧x.time≤1099511627776∧0≤x.rep∧x.rep≤200:=by
 have h2:=(fL (show wriE x.time x.rep x.kind x.key x.value x.n=0 from h)).2.1
 simpa [idOk] using h2
theorem eI {a b:Wr}:late a b↔a.time<b.time∨a.time=b.time∧a.rep<b.rep:=by
 rw [nN];unfold wid;rw [eW];split
 ·simp;assumption
 ·split
  ·simp;omega
  ·simp;omega
theorem AJ {a b:Wr} (h:wid a≠wid b):late a b∨late b a:=by
 rw [eI,eI];unfold wid at h;have:¬ (a.time=b.time∧a.rep=b.rep):=fun e=>h (by rw [e.1,e.2])
 omega
theorem dr {a b:Wr} (h:late a b):wid a≠wid b:=fun e=>by
 rw [eI] at h;unfold wid at e;simp only [Prod.mk.injEq] at e
 omega
theorem kU {x y:List Wr} (hx:x.Pairwise late) (hy:y.Pairwise late) (h:∀ c,c∈x↔c∈y):x=y:=by
 have nx:x.Nodup:=hx.imp (fun {a b} h (e:a=b)=>dr h (by rw [e]));have ny:y.Nodup:=hy.imp (fun {a b} h (e:a=b)=>dr h (by rw [e]));refine List.Perm.eq_of_pairwise (le:=late) ?_ hx hy ((List.perm_ext_iff_of_nodup nx ny).2 h);intro a b _ _ h1 h2;exact absurd (nO h1 h2) (sj a)
theorem si {l:List Wr} (h:l.Pairwise late) {a b:Wr} (ha:a∈l) (hb:b∈l) (e:wid a=wid b):a=b:=by
 induction l with
 | nil=>cases ha
 | cons c r ih =>
  rw [List.pairwise_cons] at h;rcases List.mem_cons.1 ha with ea | ha'
  ·rcases List.mem_cons.1 hb with eb | hb'
   ·rw [ea,eb]
   ·exact absurd e (dr (by rw [ea];exact h.1 b hb'))
  ·rcases List.mem_cons.1 hb with eb | hb'
   ·exact absurd e.symm (dr (by rw [eb];exact h.1 a ha'))
   ·exact ih h.2 ha' hb'
def leW (a b:Wr):Bool:=decide (a.time<b.time∨a.time=b.time∧a.rep≤b.rep)
def de (l:List Wr):List Wr:=l.mergeSort leW
theorem B0 (a b c:Wr) (h:leW a b=true) (k:leW b c=true):leW a c=true:=by
 unfold leW at *;simp only [decide_eq_true_eq] at *;omega
theorem AZ (a b:Wr):(leW a b || leW b a)=true:=by
 unfold leW;simp only [Bool.or_eq_true,decide_eq_true_eq];omega
theorem oH (l:List Wr):(de l).Perm l:=List.mergeSort_perm _ _
theorem oG {l:List Wr} {x:Wr}:x∈de l↔x∈l:=(oH l).mem_iff
theorem tN (l:List Wr):(de l).length=l.length:=(oH l).length_eq
def rO (l:List Wr):Prop:=l.Pairwise (fun a b=>wid a≠wid b)
theorem tM {l:List Wr} (h:rO l):(de l).Pairwise late:=by
 have h1:(de l).Pairwise (fun a b=>leW a b=true):=List.pairwise_mergeSort B0 AZ _;have h2:(de l).Pairwise (fun a b=>wid a≠wid b):=(oH l).symm.pairwise h (fun h e=>h e.symm);refine (h1.and h2).imp ?_;rintro a b ⟨h1,h2⟩;rw [eI];unfold leW at h1;unfold wid at h2;simp only [decide_eq_true_eq] at h1
 have:¬ (a.time=b.time∧a.rep=b.rep):=fun e=>h2 (by rw [e.1,e.2])
 omega
theorem kV {l:List Wr} (h:l.Pairwise late):rO l:=h.imp dr
def aO (s:LogS) (f:List Ent):List Wr:=s.ws.filter (fun x=>decide (ofF f x.rep<x.time))
def topT (f:List Ent) (l:List Wr) (r:Int):Int:=l.foldl (fun a w=>if w.rep=r then max a w.time else a) (ofF f r)
def aD (s:LogS) (f:List Ent):List Wr:=if (aO s f).length≤60 then aO s f else (aO s f).take 60
def aT (s:LogS) (f:List Ent):List Ent:=if (aO s f).length≤60 then s.hv else tab (fun r=>topT f ((aO s f).take 60) (r:Int)) 201
def bo (s:LogS) (f:List Ent):Nat:=if (aq f).1≠0 then (aq f).1 else if covB s.hv f=false then 13 else 0
theorem m3 (r:Int) (l:List Wr):∀ a,a≤l.foldl (fun a w=>if w.rep=r then max a w.time else a) a∧∀ x∈l,x.rep=r→x.time≤l.foldl (fun a w=>if w.rep=r then max a w.time else a) a:=by
 induction l with
 | nil=>intro a;exact ⟨Int.le_refl _,fun x h=>(by cases h)⟩
 | cons w l ih =>
  intro a;rw [List.foldl_cons];obtain ⟨h1,h2⟩:=ih (if w.rep=r then max a w.time else a);refine ⟨Int.le_trans ?_ h1,fun x hx hr=>?_⟩
  ·split <;> omega
  ·rcases List.mem_cons.1 hx with rfl | hx
   ·refine Int.le_trans ?_ h1;rw [if_pos hr];omega
   ·exact h2 x hx hr
theorem oS (r:Int) (l:List Wr):∀ a,l.foldl (fun a w=>if w.rep=r then max a w.time else a) a=a∨∃ x∈l,x.rep=r∧l.foldl (fun a w=>if w.rep=r then max a w.time else a) a=x.time:=by
 induction l with
 | nil=>intro a;exact .inl rfl
 | cons w l ih =>
  intro a;rw [List.foldl_cons];rcases ih (if w.rep=r then max a w.time else a) with h | ⟨x,hx,hr,h⟩
  ·rw [h];split
   ·rename_i hw;rcases Int.le_total a w.time with h2 | h2
    ·exact .inr ⟨w,List.mem_cons_self,hw,by omega⟩
    ·exact .inl (by omega)
   ·exact .inl rfl
  ·exact .inr ⟨x,List.mem_cons_of_mem _ hx,hr,h⟩
theorem jp {s:LogS} {f:List Ent} {x:Wr}:x∈aO s f↔x∈s.ws∧ofF f x.rep<x.time:=by
 unfold aO;rw [List.mem_filter];simp
theorem oC {s:LogS} (h:aM s) (f:List Ent):(aO s f).Pairwise late:=h.srt.filter _
theorem tH (s:LogS) (f:List Ent):(aD s f).length≤60:=by
 unfold aD;split
 ·assumption
 ·rw [List.length_take];omega
theorem DU (s:LogS) (f:List Ent):(aD s f).Sublist (aO s f):=by
 unfold aD;split
 ·exact List.Sublist.refl _
 ·exact List.take_sublist _ _
structure gC (s:LogS) (f h:List Ent) (b:List Wr):Prop where
 right:aB h
 lo:∀ r,ofF f r≤ofF h r
 hi:∀ r,ofF h r≤ofF s.hv r
 mem:∀ x,x∈b↔x∈s.ws∧ofF f x.rep<x.time∧x.time≤ofF h x.rep
 srt:b.Pairwise late
 len:b.length≤60
 full:b.length=60∨h=s.hv
theorem oD {s:LogS} (hs:aM s) {f:List Ent} (hf:aB f) (hc:covB s.hv f=true):gC s f (aT s f) (aD s f):=by
 have hcv:=(fu hs.hv hf).1 hc;by_cases hl:(aO s f).length≤60
 ·have eB:aD s f=aO s f:=by unfold aD;rw [if_pos hl]
  have eH:aT s f=s.hv:=by unfold aT;rw [if_pos hl]
  rw [eB,eH];refine ⟨hs.hv,hcv,fun _=>Int.le_refl _,fun x=>?_,oC hs f,hl,.inr rfl⟩;rw [jp];exact ⟨fun h=>⟨h.1,h.2,(hs.mem x h.1).2⟩,fun h=>⟨h.1,h.2.1⟩⟩
 ·have eB:aD s f=(aO s f).take 60:=by unfold aD;rw [if_neg hl]
  have eH:aT s f=tab (fun r=>topT f ((aO s f).take 60) (r:Int)) 201:=by unfold aT;rw [if_neg hl]
  rw [eB,eH];obtain ⟨t,ht⟩:∃ t,t=(aO s f).take 60:=⟨_,rfl⟩;have htl:t.length=60:=by rw [ht,List.length_take];omega
  have hts:t.Sublist (aO s f):=by rw [ht];exact List.take_sublist _ _
  have hmt:∀ x∈t,x∈s.ws∧ofF f x.rep<x.time:=fun x hx=>jp.1 (hts.subset hx)
  have hpre:∀ x∈aO s f,∀ y∈t,late x y→x∈t:=by
   intro x hx y hy hxy;have e:aO s f=t++(aO s f).drop 60:=by rw [ht,List.take_append_drop]
   have hp:=oC hs f;rw [e,List.pairwise_append] at hp;rw [e] at hx;rcases List.mem_append.1 hx with h | h
   ·exact h
   ·exact absurd (nO hxy (hp.2.2 y hy x h)) (sj x)
  rw [←ht];have hT:∀ r:Int,ofF f r≤topT f t r∧topT f t r≤ofF s.hv r:=by
   intro r;refine ⟨(m3 r t _).1,?_⟩;rcases oS r t (ofF f r) with h | ⟨x,hx,hr,h⟩
   ·unfold topT;rw [h];exact hcv r
   ·unfold topT;rw [h,←hr];exact (hs.mem x (hmt x hx).1).2
  have hof:∀ r,ofF (tab (fun r=>topT f t (r:Int)) 201) r=if 0≤r∧r≤200 then topT f t r else 0:=by
   intro r;rw [l9];have h1:=hT r;have h2:=cQ hf.2 r;by_cases hr:0≤r∧r≤200
   ·have e:(r.toNat:Int)=r:=by omega
    rw [if_pos hr,e];split
    ·rfl
    ·omega
   ·rw [if_neg hr,if_neg (by omega)]
  have hout:∀ r,¬ (0≤r∧r≤200)→ofF f r=0∧ofF s.hv r=0:=fun r hr=>⟨gi hf.2 (by omega),gi hs.hv.2 (by omega)⟩
  have hov:=lV (f:=fun r=>topT f t (r:Int)) (fun r=>Int.le_trans (hT r).2 (cQ hs.hv.2 _).2) (Nat.le_refl 201);have hhi:∀ r,ofF (tab (fun r=>topT f t (r:Int)) 201) r≤ofF s.hv r:=by
   intro r;rw [hof];split
   ·exact (hT r).2
   ·rename_i hr;rw [(hout r hr).2];exact Int.le_refl _
  refine ⟨⟨?_,hov⟩,fun r=>?_,hhi,fun x=>?_,(oC hs f).sublist hts,by omega,.inl htl⟩
  ·have hsub : ∀ e ∈ tab (fun r => topT f t (r : Int)) 201, ∃ d ∈ s.hv, d.rep = e.rep := by
    intro e he;have h1:=nV hov he;have h2:=bJ hov e he;have h3:=hhi e.rep;obtain ⟨d,hd,h4,_⟩:=jd (l:=s.hv) (x:=e.rep) (by omega);exact ⟨d,hd,h4⟩
   have hnd:∀ {l:List Ent} {a:Int},okV a l→(l.map (·.rep)).Nodup:=by
    intro l
    induction l with
    | nil=>intro a _;exact List.nodup_nil
    | cons e r ih =>
     intro a h;rw [List.map_cons,List.nodup_cons];refine ⟨fun hm=>?_,ih h.2⟩;obtain ⟨d,hd,he⟩:=List.mem_map.1 hm;have:=bJ h.2 d hd;omega
   have h5:=(hnd hov).length_le_of_subset (l₂:=s.hv.map (·.rep)) (fun r hr=>by
    obtain ⟨e,he,rfl⟩:=List.mem_map.1 hr;obtain ⟨d,hd,h6⟩:=hsub e he;exact List.mem_map.2 ⟨d,hd,h6⟩)
   rw [List.length_map,List.length_map] at h5;exact Nat.le_trans h5 hs.hv.1
  ·rw [hof];split
   ·exact (hT r).1
   ·rename_i hr;rw [(hout r hr).1];exact Int.le_refl _
  ·constructor
   ·intro hx;obtain ⟨h1,h2⟩:=hmt x hx;have h3:=pu (hs.mem x h1).1;refine ⟨h1,h2,?_⟩;rw [hof,if_pos ⟨h3.2.2.1,h3.2.2.2⟩];exact (m3 x.rep t _).2 x hx rfl
   ·rintro ⟨h1,h2,h3⟩;have h4:=pu (hs.mem x h1).1;rw [hof,if_pos ⟨h4.2.2.1,h4.2.2.2⟩] at h3;have hxs:x∈aO s f:=jp.2 ⟨h1,h2⟩;rcases oS x.rep t (ofF f x.rep) with h | ⟨y,hy,hr,h⟩
    ·unfold topT at h3;rw [h] at h3;omega
    ·unfold topT at h3;rw [h] at h3;by_cases e:x.time=y.time
     ·have:x=y:=si hs.srt h1 (hmt y hy).1 (by unfold wid;rw [e,hr]);rw [this];exact hy
     ·exact hpre x hxs y hy (eI.2 (.inl (by omega)))
theorem oE {s:LogS} (hs:aM s) {f h:List Ent} {b:List Wr} (hf:aB f) (ho:gC s f h b):aY f h b:=by
 rw [dX];refine ⟨⟨hf,ho.right,(fu ho.right hf).2 ho.lo⟩,ho.len,fun x hx=>?_,ho.srt⟩;obtain ⟨h1,h2,h3⟩:=(ho.mem x).1 hx;refine ⟨(hs.mem x h1).1,?_⟩;unfold wiF wid;simp [h2,h3]
end
