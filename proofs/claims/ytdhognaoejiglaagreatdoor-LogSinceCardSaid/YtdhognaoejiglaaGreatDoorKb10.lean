import Derived.Test.YtdhognaoejiglaaGreatDoorKbq
import Derived.Test.YtdhognaoejiglaaGreatDoorKb09
namespace Go.Proofs.YtdhognaoejiglaaGreatDoor
open Lib (hid)
set_option maxRecDepth 100000
set_option maxHeartbeats 8000000
section
open Go.RowKit
theorem G8 (x1 x2:Int) (vf vh:Value) (f h:List Ent) (w:World) (hf:ae w vf f) (hh:ae w vh h) (hlf:f.length≤9223372036854775807) (hlh:h.length≤9223372036854775807) (b:Bool) (hb:wiF (x1,x2) f h=b) :
 Calls Tryz.prog 27 #[.agg #[.int .i64 x1,.int .i64 x2],vf,vh] w fun e w'=>e=.returned (.bool b)∧Below w.heap.size w w':=by
 subst hb;obtain ⟨p,hp⟩:∃ p,ofF f x2=p:=⟨_,rfl⟩;obtain ⟨q,hq⟩:∃ q,ofF h x2=q:=⟨_,rfl⟩;have HP:=hid hp;have HQ:=hid hq;have HLF:=hid hlf;have HLH:=hid hlh;have HF:Hid (ae (w.alloc (.cells #[.int .i64 x1,.int .i64 x2] 36)).drew vf f):=hid ((hf.alloc _).drewN 1);have HH:Hid (ae (w.alloc (.cells #[.int .i64 x1,.int .i64 x2] 36)).drew vh h):=hid ((hh.alloc _).drewN 1);have c0:(w.alloc (.cells #[.int .i64 x1,.int .i64 x2] 36)).cell? ⟨w.heap.size,0,none⟩=some (.int .i64 x1)∧(w.alloc (.cells #[.int .i64 x1,.int .i64 x2] 36)).cell? ⟨w.heap.size,1,none⟩=some (.int .i64 x2):=by simp
 have hval:wiF (x1,x2) f h=(decide (p<x1) && decide (x1≤q)):=by unfold wiF;simp only;rw [hp,hq]
 have HB0:Hid (Below w.heap.size w (w.alloc (.cells #[.int .i64 x1,.int .i64 x2] 36)).drew):=hid ((Below.refl _ _).alloc (Nat.le_refl _) _).drew;by_cases h1:p<x1
 ·by_cases h2:x1≤q
  ·have HW:Hid (wiF (x1,x2) f h=true):=hid (by rw [hval,decide_eq_true h1,decide_eq_true h2];rfl);clear hf hh hp hq hlf hlh hval;rw [HW.out];go_enter Tryz.func27,Tryz.ntmps27
   go_wp2;go_region_held3 (fun w'=>w'.cell? ⟨w.heap.size,0,none⟩=some (.int .i64 x1)∧w'.cell? ⟨w.heap.size,1,none⟩=some (.int .i64 x2)) (first | exact c0 | exact c2 | exact c3) (first
    | (go_at_call 19;((with_reducible refine (fJ vf f x2 p _ HF.out HLF.out HP.out).mono ?_);rintro r w2 ⟨rfl,hb2⟩;have c2:w2.cell? ⟨w.heap.size,0,none⟩=some (.int .i64 x1)∧w2.cell? ⟨w.heap.size,1,none⟩=some (.int .i64 x2):=⟨(hb2.cell (by simp)).trans c0.1,(hb2.cell (by simp)).trans c0.2⟩;have HB2:Hid (Below w.heap.size w w2):=(HB0.out.trans (hb2.mono (by simp)));have HH2:=hid (HH.out.below hb2);have HZ2:Hid (w.heap.size<w2.heap.size):=(Nat.lt_of_lt_of_le (by simp) hb2.size);clear hb2))
    | (go_at_call 19;((with_reducible refine (fJ vh h x2 q w2 HH2.out HLH.out HQ.out).mono ?_);rintro r w3 ⟨rfl,hb3⟩;have c3:w3.cell? ⟨w.heap.size,0,none⟩=some (.int .i64 x1)∧w3.cell? ⟨w.heap.size,1,none⟩=some (.int .i64 x2):=⟨(hb3.cell HZ2.out).trans c2.1,(hb3.cell HZ2.out).trans c2.2⟩;have HB3:Hid (Below w.heap.size w w3):=(HB2.out.trans (hb3.mono HB2.out.size));clear hb3)))
   go_wp2;go_ret;exact ⟨rfl,HB3.out⟩
  ·have HW:Hid (wiF (x1,x2) f h=false):=hid (by rw [hval,decide_eq_true h1,decide_eq_false h2];rfl);have d7:decide (x1≤q)=false:=decide_eq_false h2;clear hf hh hp hq hlf hlh hval h2;rw [HW.out];go_enter Tryz.func27,Tryz.ntmps27
   go_wp2;go_region_held3 (fun w'=>w'.cell? ⟨w.heap.size,0,none⟩=some (.int .i64 x1)∧w'.cell? ⟨w.heap.size,1,none⟩=some (.int .i64 x2)) (first | exact c0 | exact c2 | exact c3) (first
    | (go_at_call 19;((with_reducible refine (fJ vf f x2 p _ HF.out HLF.out HP.out).mono ?_);rintro r w2 ⟨rfl,hb2⟩;have c2:w2.cell? ⟨w.heap.size,0,none⟩=some (.int .i64 x1)∧w2.cell? ⟨w.heap.size,1,none⟩=some (.int .i64 x2):=⟨(hb2.cell (by simp)).trans c0.1,(hb2.cell (by simp)).trans c0.2⟩;have HB2:Hid (Below w.heap.size w w2):=(HB0.out.trans (hb2.mono (by simp)));have HH2:=hid (HH.out.below hb2);have HZ2:Hid (w.heap.size<w2.heap.size):=(Nat.lt_of_lt_of_le (by simp) hb2.size);clear hb2))
    | (go_at_call 19;((with_reducible refine (fJ vh h x2 q w2 HH2.out HLH.out HQ.out).mono ?_);rintro r w3 ⟨rfl,hb3⟩;have c3:w3.cell? ⟨w.heap.size,0,none⟩=some (.int .i64 x1)∧w3.cell? ⟨w.heap.size,1,none⟩=some (.int .i64 x2):=⟨(hb3.cell HZ2.out).trans c2.1,(hb3.cell HZ2.out).trans c2.2⟩;have HB3:Hid (Below w.heap.size w w3):=(HB2.out.trans (hb3.mono HB2.out.size));clear hb3)))
   go_wp2;go_ret;exact ⟨rfl,HB3.out⟩
 ·have HW:Hid (wiF (x1,x2) f h=false):=hid (by rw [hval,decide_eq_false h1];rfl);have d6:decide (p<x1)=false:=decide_eq_false h1;clear hf hh hp hq hlf hlh hval h1;rw [HW.out];go_enter Tryz.func27,Tryz.ntmps27
  go_wp2;refine wp_region_held_drew (S:=fun w'=>w'.cell? ⟨w.heap.size,0,none⟩=some (.int .i64 x1)∧w'.cell? ⟨w.heap.size,1,none⟩=some (.int .i64 x2)) (by kernel_rfl) c0 (fun hHeld=>?_);refine tkO 0 ?_
  refine tkO 1 ?_
  refine tkO 2 ?_
  refine tkO 3 ?_
  refine tkO 4 ?_
  refine wpAnyH_ready (rs:=[5]) (by kernel_rfl) (by simp) ?_;refine AllReadyH.cons rfl (fun K hK=>?_) AllReadyH.nil
  go_simp
  refine (fJ vf f x2 p _ HF.out HLF.out HP.out).mono ?_;rintro r w2 ⟨rfl,hb2⟩;have c2:w2.cell? ⟨w.heap.size,0,none⟩=some (.int .i64 x1)∧w2.cell? ⟨w.heap.size,1,none⟩=some (.int .i64 x2):=⟨(hb2.cell (by simp)).trans c0.1,(hb2.cell (by simp)).trans c0.2⟩;have HB2:Hid (Below w.heap.size w w2):=HB0.out.trans (hb2.mono (by simp));clear hb2;refine hK.out _ _ c2 (fun hHeld2=>sp ?_);clear hK hHeld
  refine tkO 6 ?_
  refine tkO 7 ?_
  refine wpAnyH_take (i:=8) (v:=undef) rfl (by kernel_rfl) (by kernel_rfl) (by kernel_rfl) (fun _ _ _ h=>h) (Or.inr ⟨by rfl,rfl⟩) (by assumption) (sp ?_)
  refine wpAnyH_take (i:=10) (v:=undef) rfl (by kernel_rfl) (by kernel_rfl) (by kernel_rfl) (fun _ _ _ h=>h) (Or.inr ⟨by rfl,rfl⟩) (by assumption) (sp ?_)
  refine wpAnyH_take (i:=11) (v:=undef) rfl (by kernel_rfl) (by kernel_rfl) (by kernel_rfl) (fun _ _ _ h=>h) (Or.inr ⟨by rfl,rfl⟩) (by assumption) (sp ?_)
  refine wpAnyH_take (i:=9) (v:=undef) rfl (by kernel_rfl) (by kernel_rfl) (by kernel_rfl) (fun _ _ _ h=>h) (Or.inr ⟨by rfl,rfl⟩) (by assumption) (sp ?_)
  refine wpAnyH_take (i:=12) (v:=undef) rfl (by kernel_rfl) (by kernel_rfl) (by kernel_rfl) (fun _ _ _ h=>h) (Or.inr ⟨by rfl,rfl⟩) (by assumption) (sp ?_)
  refine wpAnyH_take (i:=13) (v:=undef) rfl (by kernel_rfl) (by kernel_rfl) (by kernel_rfl) (fun _ _ _ h=>h) (Or.inr ⟨by rfl,rfl⟩) (by assumption) (sp ?_)
  refine wpAnyH_take (i:=14) (v:=undef) rfl (by kernel_rfl) (by kernel_rfl) (by kernel_rfl) (fun _ _ _ h=>h) (Or.inr ⟨by rfl,rfl⟩) (by assumption) (sp ?_)
  refine tkO 15 ?_
  refine tkO 16 ?_
  refine wpAnyH_done (by kernel_rfl) ?_ _;go_wp2;go_ret;exact ⟨rfl,HB2.out⟩
end
section
open Go.ChangeShapes Go.WideShapes Go.ChangeAt Go.RowKit
def aC (W:World) (vf vh vw:Value) (f h:List Ent) (l:List Wr):Prop :=
 ae W vf f∧ae W vh h∧az W vw l∧f.length≤9223372036854775807∧h.length≤9223372036854775807∧l.length≤9223372036854775807∧∀ t∈l,WrOk t
theorem aC.below {w w':World} {vf vh vw:Value} {f h:List Ent} {l:List Wr} (hx:aC w vf vh vw f h l) (hb:Below w.heap.size w w'):aC w' vf vh vw f h l :=
 ⟨hx.1.below hb,hx.2.1.below hb,hx.2.2.1.below hb,hx.2.2.2⟩
theorem aC.alloc {w:World} {vf vh vw:Value} {f h:List Ent} {l:List Wr} (hx:aC w vf vh vw f h l) (o:Obj):aC (w.alloc o) vf vh vw f h l :=
 hx.below ((Below.refl _ _).alloc (Nat.le_refl _) o)
end
section
open Go.RowKit
theorem tp (s:List UInt8):Lib.hasPrefix s [80,84]=true↔s.take 2=[80,84]:=by
 unfold Lib.hasPrefix;rw [List.isPrefixOf_iff_prefix]
 constructor
 ·rintro ⟨r,rfl⟩;rfl
 ·intro h;exact ⟨s.drop 2,by rw [←h,List.take_append_drop]⟩
theorem D6 {s:List UInt8} (h:s.take 2≠[80,84]):Lib.hasPrefix s [80,84]=false:=by
 cases hb:Lib.hasPrefix s [80,84] with
 | false=>rfl
 | true=>exact absurd ((tp s).1 hb) h
def opnV (r:Nat×List UInt8×Nat):Value:=.tuple #[.int .i64 (r.1:Nat),.string ⟨r.2.1.toArray⟩,errC r.2.2]
theorem ez {e:Nat} (h:e≠0):errC e=.iface 68 (.int .i64 e):=by unfold errC;rw [if_neg h]
theorem bB:errC 0=.nilIface:=rfl
theorem zq (s:ByteArray) (w:World) (hs:s.size≤140737488351232) :
 Calls Tryz.prog 119 #[.string s] w fun e w'=>e=.returned (opnV (opnF s.data.toList))∧Below w.heap.size w w':=by
 have hl:s.size=s.data.toList.length:=aj s;by_cases h8:s.size<8
 ·have h:opnF s.data.toList=(0,[],7):=o0 (by rw [←hl];exact h8);rw [h];have h8i:(s.size:Int)<8:=by omega
  clear h hl;go_enter Tryz.func119,Tryz.ntmps119
  go_wp2;go_ret3;exact ⟨rfl,Below.refl _ _⟩
 ·have h8l:¬ s.data.toList.length<8:=by rw [←hl];exact h8
  have h8i:8≤(s.size:Int):=by omega
  by_cases hp:s.data.toList.take 2=[80,84]
  ·have HPB:Hid (Lib.hasPrefix s.data.toList [80,84]=true):=hid ((tp _).2 hp);have hsz:2<s.size:=by omega
   obtain ⟨c, hc⟩ : ∃ c : UInt8, s[2]'hsz = c := ⟨_, rfl⟩;have hwr:wrap64 (c.toNat:Int)=(c.toNat:Int):=IntWalk.wrap64_in _ (by have:=c.toNat_lt;omega);have hcd:s.data.toList.getD 2 0=c:=by
    rw [List.getD_eq_getElem?_getD,List.getElem?_eq_getElem (by omega),Option.getD_some,←hc];rfl
   by_cases hv:c.toNat<1∨3<c.toNat
   ·have h:opnF s.data.toList=(0,[],8):=lf h8l hp (by rw [hcd];exact hv);rw [h];clear h hl hp hcd;rcases hv with hv | hv
    ·have hvi:(c.toNat:Int)<1:=by omega
     go_enter Tryz.func119,Tryz.ntmps119
     go_wp2_with fail
     refine (Tryz.strings_HasPrefix s _ w).mono ?_;rintro r w1 ⟨rfl,rfl⟩;rw [HPB.out];go_wp2;go_ret3;exact ⟨rfl,Below.refl _ _⟩
    ·have hvi:3<(c.toNat:Int):=by omega
     have hvj:1≤(c.toNat:Int):=by omega
     go_enter Tryz.func119,Tryz.ntmps119
     go_wp2_with fail
     refine (Tryz.strings_HasPrefix s _ w).mono ?_;rintro r w1 ⟨rfl,rfl⟩;rw [HPB.out];go_wp2;go_ret3;exact ⟨rfl,Below.refl _ _⟩
   ·have hv1:1≤(c.toNat:Int):=by omega
    have hv2:(c.toNat:Int)≤3:=by omega
    obtain ⟨o,e,hop⟩:∃ o e,aS s.data.toList=(o,e):=⟨_,_,rfl⟩;have HO:Hid (fG (aS s.data.toList)=.tuple #[.string ⟨o.toArray⟩,errC e]):=hid (by show fG _=_;rw [hop];rfl);by_cases he:e=0
    ·subst he;have h:opnF s.data.toList=(c.toNat,o.drop 3,0):=by rw [lg h8l hp (by rw [hcd];exact hv) (by rw [hop]),hcd,hop]
     rw [h];obtain ⟨O,hO⟩:∃ O:ByteArray,(⟨o.toArray⟩:ByteArray)=O:=⟨_,rfl⟩;have hOd:o=O.data.toList:=by rw [←hO]
     have hoz:O.size=s.size-4:=by
      unfold aS at hop;split at hop
      ·injection hop with _ h2;cases h2
      ·split at hop
       ·injection hop with h1 _;rw [aj,←hOd,←h1,List.length_take];omega
       ·injection hop with _ h2;cases h2
     have hO3:3≤(O.size:Int):=by omega
     have HR:Hid (opnV (c.toNat,o.drop 3,0)=.tuple #[.int .i64 (c.toNat:Nat),.string (O.extract 3 O.size),.nilIface]):=hid (by
      have e1:(⟨(o.drop 3).toArray⟩:ByteArray)=O.extract 3 O.size:=cX (by
       rw [iM,←hOd,List.take_of_length_le (by rw [List.length_drop,hOd,←aj];omega)])
      show Value.tuple #[.int .i64 (c.toNat:Nat),.string ⟨(o.drop 3).toArray⟩,errC 0]=_
      rw [e1];rfl)
     rw [hO] at HO;have HO3:=hid hoz;clear h hl hp hcd hop hO hOd hoz;go_enter Tryz.func119,Tryz.ntmps119
     go_wp2_with fail
     refine (Tryz.strings_HasPrefix s _ w).mono ?_;rintro r w1 ⟨rfl,rfl⟩;rw [HPB.out];go_wp2_with fail
     refine (sY s _ hs).mono ?_;rintro r w2 ⟨rfl,hb2⟩;rw [HO.out,bB];have HB2:=hid hb2;clear hb2;go_wp2;go_region
     go_wp2;go_ret3;exact ⟨by rw [HR.out];rfl,HB2.out.drew⟩
    ·have h:opnF s.data.toList=(0,[],e):=ob h8l hp (by rw [hcd];exact hv) (by rw [hop]) he;rw [h];have HR:Hid (opnV (0,[],e)=.tuple #[.int .i64 0,.string ⟨#[]⟩,.iface 68 (.int .i64 e)]):=hid (by unfold opnV;rw [ez he];rfl);rw [ez he] at HO;clear h hl hp hcd hop;go_enter Tryz.func119,Tryz.ntmps119
     go_wp2_with fail
     refine (Tryz.strings_HasPrefix s _ w).mono ?_;rintro r w1 ⟨rfl,rfl⟩;rw [HPB.out];go_wp2_with fail
     refine (sY s _ hs).mono ?_;rintro r w2 ⟨rfl,hb2⟩;rw [HO.out];have HB2:=hid hb2;clear hb2;go_wp2;go_ret3;exact ⟨by rw [HR.out];rfl,HB2.out⟩
  ·have HPB:Hid (Lib.hasPrefix s.data.toList [80,84]=false):=hid (D6 hp);have h:opnF s.data.toList=(0,[],5):=oa h8l hp;rw [h];clear h hl hp;go_enter Tryz.func119,Tryz.ntmps119
   go_wp2_with fail
   refine (Tryz.strings_HasPrefix s _ w).mono ?_;rintro r w1 ⟨rfl,rfl⟩;rw [HPB.out];go_wp2;go_ret3;exact ⟨rfl,Below.refl _ _⟩
theorem g9 (s I:ByteArray) (v e:Nat) (w:World) (hs:s.size≤140737488351232) (h:opnF s.data.toList=(v,I.data.toList,e)) :
 Calls Tryz.prog 119 #[.string s] w fun r w'=>r=.returned (.tuple #[.int .i64 (v:Int),.string I,errC e])∧Below w.heap.size w w':=by
 have h1:=zq s w hs;rw [h] at h1;unfold opnV at h1;simp only [bW] at h1
 exact h1
theorem fi (s I:ByteArray) (v e:Nat) (w:World) (hs:s.size≤140737488351232) (h:opnF s.data.toList=(v,I.data.toList,e)) :
 Calls Tryz.prog 94 #[.string s] w fun r w'=>r=.returned (.tuple #[.int .i64 (v:Int),errC e])∧Below w.heap.size w w':=by
 have H:=hid h;obtain ⟨q,hq⟩:∃ q,errC e=q:=⟨_,rfl⟩;have HQ:=hid hq;rw [hq];clear h hq;go_enter Tryz.func94,Tryz.ntmps94
 go_wp2_with fail
 refine (g9 s I v e _ hs H.out).mono ?_;rintro r w1 ⟨rfl,hb1⟩;rw [HQ.out];have HB1:=hid hb1;clear hb1;go_wp2;go_ret2;exact ⟨rfl,HB1.out⟩
theorem iX (s I:ByteArray) (v e:Nat) (w:World) (hs:s.size≤140737488351232) (h:opnF s.data.toList=(v,I.data.toList,e)) :
 Calls Tryz.prog 122 #[.string s] w fun r w'=>r=.returned (.tuple #[.string I,errC e])∧Below w.heap.size w w':=by
 have H:=hid h;obtain ⟨q,hq⟩:∃ q,errC e=q:=⟨_,rfl⟩;have HQ:=hid hq;rw [hq];clear h hq;go_enter Tryz.func122,Tryz.ntmps122
 go_wp2_with fail
 refine (g9 s I v e _ hs H.out).mono ?_;rintro r w1 ⟨rfl,hb1⟩;rw [HQ.out];have HB1:=hid hb1;clear hb1;go_wp2;go_ret2;exact ⟨rfl,HB1.out⟩
end
section
open Go.RowKit
def lP (x:Actn):Bool:=decide (x.w.key.size+x.w.value.size≤400)
def dZ (l:List Actn):Bool:=l.all lP && decide (l.length≤60)
theorem tL {l:List Actn}:dZ l=true↔(∀ x∈l,x.w.key.size+x.w.value.size≤400)∧l.length≤60:=by
 unfold dZ lP;simp
theorem gt (v:Value) (l:List Actn) (w:World) (h:cV w v l) (hl:l.length≤9223372036854775807) (hok:∀ x∈l,WrOk x.w) (b:Bool) (hb:dZ l=b) :
 Calls Tryz.prog 13 #[v] w fun e w'=>e=.returned (.bool b)∧Below w.heap.size w w':=by
 obtain ⟨a,c,rfl,hf⟩:=h.form;have HF:=hid hf;have HOK:=hid hok;have HBB:=hid hb;obtain ⟨n,hn⟩:∃ n,n=l.length:=⟨_,rfl⟩;rw [←hn] at hl ⊢;have HN:=hid hn;clear h hf hok hn hb;go_enter Tryz.func13,Tryz.ntmps13
 go_wp2
 go_loopw [7] (fun i wr=>∃ k:Nat,k≤n∧i=.int .i64 k∧(∀ x∈l.take k,lP x=true)∧Below w.heap.size w wr) (fun i _=>n-(intOf i).toNat)
 case atStart=>exact ⟨0,by omega,rfl,fun x h=>by simp at h,Below.refl _ _⟩
 case round =>
  obtain ⟨k,hk,rfl,hs,hb⟩:=hrel;have HS:=hid hs;have HB:=hid hb;by_cases hlt:k<n
  ·have b1:decide ((k:Int)<(n:Int))=true:=by simpa using hlt
   obtain ⟨x, hx⟩ : ∃ x, l[k]? = some x := ⟨l[k]'(by rw [← HN.out]; exact hlt), List.getElem?_eq_getElem _⟩;obtain ⟨b',off,rfl,hbl,c0,c1,c2,c3,c4,c5,c6,c7,c8⟩:=HF.out k x hx;have hxo:=HOK.out x (List.mem_of_getElem? hx);obtain ⟨who,to,sends,T,Re,K,key,val,N⟩:=x;simp only at c0 c1 c2 c3 c4 c5 c6 c7 c8
   have HX:=hid hx;have d:∀ j u,w.cell? ⟨b',j,none⟩=some u→wr.cell? ⟨b',j,none⟩=some u:=fun j u hu=>(HB.out.cell (p:=⟨b',j,none⟩) hbl).trans hu
   have e0:=d _ _ c0;have e1:=d _ _ c1;have e2:=d _ _ c2;have e3:=d _ _ c3;have e4:=d _ _ c4;have e5:=d _ _ c5;have e6:=d _ _ c6;have e7:=d _ _ c7;have e8:=d _ _ c8;have hks:key.size≤140737488351232:=hxo.2.2.1;have hvs:val.size≤140737488351232:=hxo.2.2.2;have hw1:IntKind.i64.wrap ((key.size:Int)+(val.size:Int))=(key.size:Int)+(val.size:Int):=IntWalk.i64_in _ (by omega);clear hx c0 c1 c2 c3 c4 c5 c6 c7 c8 d hbl hxo hs hb;by_cases hsm:key.size+val.size≤400
   ·have b2:decide ((400:Int)<(key.size:Int)+(val.size:Int))=false:=by simp;omega
    have HSM:=hid hsm;clear hsm;go_wp2;go_roundw
    ·refine ⟨k+1,by omega,by simp,fun y hy=>?_,HB.out.alloc HB.out.size _⟩;have h1:l.take (k+1)=l.take k++[⟨who,to,sends,T,Re,K,key,val,N⟩]:=by rw [List.take_add_one,HX.out];rfl
     rw [h1] at hy;rcases List.mem_append.1 hy with hy | hy
     ·exact HS.out y hy
     ·rw [List.mem_singleton.1 hy];unfold lP;have:=HSM.out;simpa using this
    ·simp [intOf];omega
   ·have b2:decide ((400:Int)<(key.size:Int)+(val.size:Int))=true:=by simp;omega
    have HSM:=hid hsm;clear hsm;go_wp2;go_ret;refine ⟨?_,HB.out.alloc HB.out.size _⟩;have:b=false:=by
     rw [←HBB.out];refine Bool.eq_false_iff.2 fun h=>HSM.out ?_
     exact (tL.1 h).1 _ (List.mem_of_getElem? HX.out)
    rw [this];rfl
  ·have b1:decide ((k:Int)<(n:Int))=false:=by simp;omega
   obtain rfl:k=n:=by omega
   obtain ⟨q,hq⟩:∃ q:Bool,decide ((k:Int)≤60)=q:=⟨_,rfl⟩;have HQ:=hid hq;go_wp2;go_ret;refine ⟨?_,HB.out⟩;have:b=q:=by
    rw [←HBB.out,←HQ.out];unfold dZ;rw [List.take_of_length_le (by have:=HN.out;omega)] at HS;rw [List.all_eq_true.2 HS.out,Bool.true_and];have:=HN.out;simp;omega
   rw [this];rfl
end
section
open Go.RowKit Go.Shelf Go.Lib Go.Sort
theorem qB:∀ (a b:List UInt8),Lib.compareBytes a b<0↔a<b
 | [],[]=>by simp [compareBytes]
 | [],_::_=>by simp [compareBytes]
 | _::_,[]=>by simp [compareBytes]
 | a::r,b::s=>by
  have ih:=qB r s;unfold compareBytes;rw [List.cons_lt_cons_iff];by_cases h1:a<b
  ·simp [h1]
  ·by_cases h2:b<a
   ·have h3:¬ a=b:=fun e=>by subst e;exact h1 h2
    simp [h1,h2,h3]
   ·have h3:a=b:=UInt8.le_antisymm (UInt8.not_lt.1 h2) (UInt8.not_lt.1 h1);subst h3;simp [ih]
def cfB (x y:ByteArray):Int:=Lib.compareBytes x.data.toList y.data.toList
theorem ltB (x y:ByteArray):ltOf cfB x y=decide (x.data.toList<y.data.toList):=by
 unfold ltOf cfB;rw [Bool.eq_iff_iff];simp only [decide_eq_true_eq]
 exact qB _ _
theorem swoB:SWO (ltOf cfB) where
 irrefl x:=by rw [ltB];simp [List.lt_irrefl]
 trans x y z h1 h2:=by rw [ltB] at *;simp only [decide_eq_true_eq] at *;exact List.lt_trans h1 h2
 ntrans x y z h1 h2:=by
  rw [ltB] at *;simp only [decide_eq_false_iff_not] at *
  exact fun h=>(List.not_lt.1 (List.not_lt.2 (List.le_trans (List.not_lt.1 h2) (List.not_lt.1 h1)))) |> (fun hle=>absurd h (List.not_lt.2 hle))
theorem AW (x y:ByteArray) (h:ltOf cfB y x=false):leB x y=true:=by
 rw [ltB] at h;simp only [decide_eq_false_iff_not] at h
 unfold leB;exact decide_eq_true (List.not_lt.1 h)
def CmpC (g:Nat):Prop:=∀ (a b:CV) (W:World),Calls Tryz.prog g #[cvV a,cvV b] W fun e w'=>e=.returned (.int .i64 (cfB a.key b.key))∧∃ q os',w'=grow (W.drewN q) os'
theorem qH (l:List CV) (j:Nat) (hj:j<l.length * 5):(cvsC l)[j]? = some ((cvC l[j / 5]!)[j % 5]!):=by
 have h1:j / 5<l.length:=by omega
 have h2:=gK l (j / 5) (j % 5) l[j / 5]! (by rw [List.getElem!_eq_getElem?_getD,List.getElem?_eq_getElem h1];rfl) (by omega);rw [show j / 5 * 5+j % 5=j by omega] at h2;rw [h2];have h3:j % 5<(cvC l[j / 5]!).length:=by show _<5;omega
 generalize l[j / 5]! = c at h3 ⊢;rw [getElem!_pos (cvC c) (j % 5) h3];exact List.getElem?_eq_getElem h3
theorem E3 (g:Nat) (hcl:CmpC g) (eg:∀ args w,(callFunc g args).run Tryz.prog w=.ok (.enter g args) w) (F:ByteArray→CV) (hF:∀ k,(F k).key=k) (hl:∀ k,(F k).list.oneCell'=true) (ks:List ByteArray) (blk cap base:Nat) (w:World)
 (ho:bE w base (.slice (some ⟨blk,0,none⟩) ks.length cap) (ks.map F)) (hn:ks.length≤1000000) :
 Calls Tryz.prog 78 #[.slice (some ⟨blk,0,none⟩) ks.length cap,.func (.func g) #[] #[]] w fun e w' =>
  e=.returned (.tuple #[])∧∃ ks':List ByteArray,ks'.Perm ks∧ks'.Pairwise (fun a b=>leB a b=true)∧eT w' (.slice (some ⟨blk,0,none⟩) ks.length cap) (ks'.map F)∧w.grownBy w' (some blk):=by
 have hblk:blk<w.heap.size:=(ho.lt blk rfl).2;have hcap:ks.length≤cap:=by
  rcases ho.2 with ⟨e,_⟩ | ⟨_,_,_,e,_,_,h1,_⟩
  ·simp at e
  ·obtain ⟨_,_,rfl⟩:=Value.slice.inj e;simpa using h1
 have hfz:∀ j,w.frozen? ⟨blk,j,none⟩=false:=by
  rcases ho.2 with ⟨e,_⟩ | ⟨g',_,cur,e,_,hh,_⟩
  ·simp at e
  ·obtain ⟨e1,_⟩:=Value.slice.inj e;simp only [Option.some.injEq,Addr.mk.injEq,and_true] at e1
   subst e1;intro j;simp [World.frozen?,hh]
 have ho2:w.ownsRow base 100 5 (.slice (some ⟨blk,0,none⟩) ks.length cap) ks.length (cvsC (ks.map F)):=by have h:=ho;unfold bE at h;rwa [List.length_map] at h
 have hlen:∀ x,(cvC (F x)).length=5:=fun _=>rfl
 have hone:∀ x,∀ v∈cvC (F x),v.oneCell'=true:=fun x=>qG (hl x)
 have hH:HoldsK (fun k=>cvC (F k)) 5 w blk 0 ks.toArray:=by
  intro j hj;rw [size_flatK] at hj;simp only [List.size_toArray] at hj
  refine ⟨?_,by rw [Nat.zero_add];exact hfz j⟩;rw [get_flatK _ _ _ _ (by simpa using hj),Nat.zero_add];have h1:w.cell? ⟨blk,j,none⟩=(cvsC (ks.map F))[j]? := World.ownsRow.cellAt ho2 j (by simpa using hj);rw [h1,qH _ _ (by simpa using hj)];have h2:j / 5<ks.length:=by omega
  congr 2
  simp [h2]
 have hcmp:CmpLays Tryz.prog g #[] (fun k=>cvC (F k)) 5 cfB blk 0 ks.toArray.size w:=fun m os dk _ x y=>by
  have h:=hcl (F x) (F y) (sortWorldK (fun k=>cvC (F k)) 5 w blk 0 m dk os);rw [hF,hF] at h;exact h
 have hcon:=AnyQ.slices_SortFunc Tryz.sortC 5 (fun w=>by kernel_rfl) (fun w=>by kernel_rfl) (fun k=>cvC (F k)) hlen hone cfB swoB g #[] blk 0 cap ks.toArray w eg hcmp hH hblk (by simp;omega);refine hcon.mono ?_;rintro e w' ⟨rfl,d',n,os,hp,hs,rfl⟩;obtain ⟨hsz,_,hperm⟩:=hp;have e1:d'.extract 0 ks.toArray.size=d':=by rw [←hsz];exact Array.extract_size
 rw [e1,Array.extract_size] at hperm;have hsz2:d'.toList.length=ks.length:=by simpa using hsz
 have hH2:=holdsK_sortWorldK_c (fun k=>cvC (F k)) 5 w blk 0 ks.toArray d' n os hH hblk hsz;refine ⟨rfl,d'.toList,hperm,?_,?_,?_⟩
 ·rw [List.pairwise_iff_getElem];intro i j hi hj hij;have h:=hs i j (Nat.zero_le _) hij (by simp at hj ⊢;rw [hsz] at hj;simpa using hj);rw [getElem!_pos d' i (by simpa using hi),getElem!_pos d' j (by simpa using hj)] at h
  simpa using AW _ _ h
 ·by_cases hz:ks.length=0
  ·rw [hz];refine .inl ⟨_,_,rfl,?_⟩;rw [List.length_eq_zero_iff.1 (hsz2.trans hz)];rfl
  ·refine .inr ⟨blk,0,cap,by rw [List.length_map,hsz2],⟨by rw [List.length_map,hsz2];omega,by rw [List.length_map,hsz2];exact hcap⟩,?_,fun j u hj=>?_⟩
   ·show blk<(grow _ os).heap.size
    rw [size_grow];unfold putRowK;rw [size_putRow];have:(Sort.ahead w n).heap.size=w.heap.size:=rfl;omega
   ·have hjl:j<(d'.toList.map F).length * 5:=by rw [←yL];exact (List.getElem?_eq_some_iff.1 hj).1
    rw [List.length_map] at hjl;have h3:=(hH2 j (by rw [size_flatK];simpa using hjl)).1;rw [get_flatK _ _ _ _ (by simpa using hjl)] at h3;rw [h3,←hj,qH _ _ (by rw [List.length_map];exact hjl)];have h2:j / 5<d'.size:=by simp at hjl;omega
    congr 2
    simp [List.getElem!_eq_getElem?_getD,h2]
 ·refine ⟨rfl,rfl,rfl,?_,fun k hk hne=>?_⟩
  ·show w.heap.size≤(grow _ os).heap.size
   rw [size_grow];unfold putRowK;rw [size_putRow];have:(Sort.ahead w n).heap.size=w.heap.size:=rfl;omega
  ·show (grow _ os).heap[k]? = _
   unfold putRowK;rw [heap_grow_old _ _ (by rw [size_putRow];exact hk)];have h5:blk≠k:=fun e=>hne (by rw [e])
   simp [putRow,mapBlock,Sort.ahead,Array.getElem?_modify,h5]
end
section
open Go.RowKit
theorem DZ (v:Value) (n vb:Nat) (l:List ByteArray) (x:ByteArray) (w:World) (base:Nat) (ho:ai w base v l) (hn:n=l.length) (hm:n≤1000000) (hvb:ff w vb x) (hbs:base≤w.heap.size) :
 Calls Tryz.prog 102 #[v,.int .i64 (n:Int),.slice (some ⟨vb,0,none⟩) 1 1] w (InsS w base n v l x):=by
 obtain ⟨i0,hi,hz0,hz1,hz2⟩:=info_parts nF;obtain ⟨a,c,hv,hle⟩:∃ a c,v=.slice a n c∧n≤c:=by
  rcases ho.2 with ⟨rfl,h0⟩ | ⟨g,cap,cur,rfl,_,_,h1,_⟩
  ·exact ⟨none,0,by rw [hn,h0],by omega⟩
  ·exact ⟨_,_,by rw [hn],by omega⟩
 have hadd:∀ (ad:Addr),ad.add 0=ad:=fun ad=>by unfold Addr.add;split <;> simp_all
 have hcell:w.cell? ⟨vb,0,none⟩=some (.string x):=by unfold ff at hvb;rw [cell_of_row _ _ 0 _ _ (0,0) hvb];rfl
 obtain ⟨H,hH⟩:∃ H,w.heap.size=H:=⟨_,rfl⟩;have HO:=hid ho;have HV:=hid hv;have HN:=hid hn;have HH:=hid hH;have HA:=hid (hadd ⟨vb,0,none⟩);have HC:=hid hcell;have HB:=hid hbs;have HLN:Hid (l.length≤1000000):=hid (by omega);have hnn:(n:Int)≤9223372036854775807:=by omega
 have HL:=hid hle;subst hv;clear ho hn hH hadd hcell hvb hbs;rcases Nat.lt_or_ge n c with hcn | hcn
 ·have hc1:¬ c=n:=by omega
  have HCN:=hid hcn;clear hcn;go_enter Tryz.func102,Tryz.ntmps102
  go_wp2_with (at_builtin; refine wpList_append_lies _ rfl _ _ 98 rfl base 9 i0 (.string ⟨#[]⟩) 1 16 Tryz.underlying98 hi hz0 hz1 hz2 rfl (by decide) (.slice a n c) l.length (l.map Value.string) rfl HO.out _ 1 1 [.string x] rfl rfl (fun j u hj => by
      match j,hj with
      | 0,hj=>simp at hj;subst hj;rw [HA.out];exact HC.out) (fun u hu=>by simp at hu;subst hu;rfl) (by decide) (by have:=HLN.out;unfold maxLen;omega) (by have:=HLN.out;omega) HB.out _ HH.out ?_;intro g cap w' h1 h2 h3 h4)
  go_ret;have e0:=HH.out;subst e0;refine ⟨g,cap,rfl,?_,h2,h3.imp id (fun e=>by rw [e];exact Nat.le_refl _),h4⟩;rw [HN.out,List.take_length,List.drop_length];unfold ai;rw [List.length_append,List.map_append];exact h1
 ·obtain rfl:c=n:=by omega
  clear hcn;go_enter Tryz.func102,Tryz.ntmps102
  go_wp2_with (at_builtin; refine wpList_append_lies _ rfl _ _ 98 rfl base 9 i0 (.string ⟨#[]⟩) 1 16 Tryz.underlying98 hi hz0 hz1 hz2 rfl (by decide) (.slice a c c) l.length (l.map Value.string) rfl HO.out _ 1 1 [.string x] rfl rfl (fun j u hj => by
      match j,hj with
      | 0,hj=>simp at hj;subst hj;rw [HA.out];exact HC.out) (fun u hu=>by simp at hu;subst hu;rfl) (by decide) (by have:=HLN.out;unfold maxLen;omega) (by have:=HLN.out;omega) HB.out _ HH.out ?_;intro g cap w' h1 h2 h3 h4)
  go_ret;have e0:=HH.out;subst e0;refine ⟨g,cap,rfl,?_,h2,h3.imp id (fun e=>by rw [e];exact Nat.le_refl _),h4⟩;rw [HN.out,List.take_length,List.drop_length];unfold ai;rw [List.length_append,List.map_append];exact h1
theorem dJ (v:Value) (i n vb:Nat) (l:List ByteArray) (x:ByteArray) (w:World) (base:Nat) (ho:ai w base v l) (hn:n=l.length) (hi:i≤n) (hm:n≤1000000) (hvb:ff w vb x) (hne:v.ownBlock≠some vb) (hbs:base≤w.heap.size) :
 Calls Tryz.prog 102 #[v,.int .i64 (i:Int),.slice (some ⟨vb,0,none⟩) 1 1] w (InsS w base i v l x):=by
 rcases Nat.lt_or_ge i n with hlt | hge
 ·obtain ⟨g,cap,rfl,hg,hgs,hlc,hcm,hrow,hcs⟩:=ho.rowS (by omega);rw [←hn] at hlc hne ⊢;have hll:(l.take i++x::l.drop i).length=l.length+1:=by rw [List.length_append,List.length_take,List.length_cons,List.length_drop];omega
  by_cases hroom:n+1≤cap
  ·refine (E1 g 0 cap i n vb 1 l x w hrow hcs hn hlt hroom (by unfold maxLen at hcm;omega) hvb (fun e=>hne (by rw [e];rfl))).mono ?_;rintro e w' ⟨rfl,⟨cs,h1,h2⟩,h3,h4⟩;refine ⟨g,cap,rfl,?_,h4,.inl rfl,Nat.lt_of_lt_of_le hgs h4.size⟩;rw [←hll];exact tl hg h1 h2 (by omega) hcm (fun j u hj=>by have:=h3 j u hj;rwa [Nat.zero_add] at this)
  ·refine (E0 g 0 cap i n vb 1 l x w hrow hn hlt hlc (by omega) hm hvb hgs).mono ?_;rintro e w' ⟨G,rfl,h0,hG,⟨cs,h1,h2⟩,h3,h4⟩;refine ⟨_,G,rfl,?_,⟨h4.os,h4.tape,h4.output,h4.size,fun k hk _=>h4.block k hk (by simp)⟩,.inr (Nat.le_refl _),(Array.getElem?_eq_some_iff.1 h1).1⟩;rw [←hll];exact tl hbs h1 h2 (by omega) hG h3
 ·obtain rfl:i=n:=by omega
  exact DZ v i vb l x w base ho hn hm hvb hbs
end
section
open Go.RowKit
def wE (x:Wr):Nat:=wriE x.time x.rep x.kind x.key x.value x.n
def wid (x:Wr):Int×Int:=(x.time,x.rep)
def late (q x:Wr):Prop:=cI (wid x) (wid q)=1
instance (q x : Wr) : Decidable (late q x) := by unfold late; infer_instance
def eG:Option Wr→Wr→Prop
 | none,_=>True
 | some q,x=>late q x
instance (p : Option Wr) (x : Wr) : Decidable (eG p x) := by cases p <;> (unfold eG; infer_instance)
def bwE (f h:List Ent) (p:Option Wr) (x:Wr):Nat:=if wE x≠0 then wE x else if ¬ eG p x then 10 else if wiF (wid x) f h=false then 6 else 0
def bwr (f h:List Ent):List Wr→Nat→Option Wr→Nat×Int
 | [],_,_=>(0,-1)
 | x::r,i,p=>if bwE f h p x≠0 then (bwE f h p x,(i:Int)) else bwr f h r (i+1) (some x)
def bbE (f h:List Ent):Nat:=if (aq f).1≠0 then (aq f).1 else if (aq h).1≠0 then (aq h).1 else if covB h f=false then 13 else 0
def batF (f h:List Ent) (ws:List Wr):Nat×Int:=if bbE f h≠0 then (bbE f h,-1) else if 60<ws.length then (4,-1) else bwr f h ws 0 none
theorem mM {f h:List Ent} {x:Wr} {r:List Wr} {i:Nat} {p:Option Wr} {e:Nat} (hx:bwE f h p x=e) (he:e≠0):bwr f h (x::r) i p=(e,(i:Int)):=by subst hx;rw [bwr,if_pos he]
theorem mN {f h:List Ent} {x:Wr} {r:List Wr} {i:Nat} {p:Option Wr} (hx:bwE f h p x=0):bwr f h (x::r) i p=bwr f h r (i+1) (some x):=by rw [bwr,if_neg (by rw [hx];simp)]
theorem pV {f h:List Ent} {ws:List Wr} {e:Nat} (hx:bbE f h=e) (he:e≠0):batF f h ws=(e,-1):=by subst hx;unfold batF;rw [if_pos he]
theorem pW {f h:List Ent} {ws:List Wr} (hx:bbE f h=0) (hl:60<ws.length):batF f h ws=(4,-1):=by unfold batF;rw [if_neg (by rw [hx];simp),if_pos hl]
theorem pY {f h:List Ent} {ws:List Wr} (hx:bbE f h=0) (hl:¬ 60<ws.length):batF f h ws=bwr f h ws 0 none:=by unfold batF;rw [if_neg (by rw [hx];simp),if_neg hl]
theorem xP {f h:List Ent} {p:Option Wr} {x:Wr} {e:Nat} (hx:wE x=e) (he:e≠0):bwE f h p x=e:=by subst hx;unfold bwE;rw [if_pos he]
theorem xO {f h:List Ent} {p:Option Wr} {x:Wr} (hx:wE x=0) (hl:¬ eG p x):bwE f h p x=10:=by unfold bwE;rw [if_neg (by rw [hx];simp),if_pos hl]
theorem qt {f h:List Ent} {p:Option Wr} {x:Wr} (hx:wE x=0) (hl:eG p x) (hw:wiF (wid x) f h=false):bwE f h p x=6:=by unfold bwE;rw [if_neg (by rw [hx];simp),if_neg (by simpa using hl),if_pos hw]
theorem mL {f h:List Ent} {p:Option Wr} {x:Wr} (hx:wE x=0) (hl:eG p x) (hw:wiF (wid x) f h=true):bwE f h p x=0:=by unfold bwE;rw [if_neg (by rw [hx];simp),if_neg (by simpa using hl),if_neg (by rw [hw];decide)]
theorem xN {f h:List Ent} {p:Option Wr} {x:Wr}:bwE f h p x=0↔wE x=0∧eG p x∧wiF (wid x) f h=true:=by
 constructor
 ·intro h0;unfold bwE at h0;split at h0
  ·rename_i h1;exact absurd h0 h1
  ·rename_i h1;split at h0
   ·simp at h0
   ·rename_i h2;split at h0
    ·simp at h0
    ·rename_i h3;exact ⟨by simpa using h1,by simpa using h2,by simpa using h3⟩
 ·rintro ⟨h1,h2,h3⟩;exact mL h1 h2 h3
def okW (f h:List Ent):Option Wr→List Wr→Prop
 | _,[]=>True
 | p,x::r=>bwE f h p x=0∧okW f h (some x) r
theorem xQ {f h:List Ent} (l:List Wr):∀ i p,(bwr f h l i p).1=0↔okW f h p l:=by
 induction l with
 | nil=>intro i p;simp [bwr,okW]
 | cons x r ih =>
  intro i p;by_cases h0:bwE f h p x=0
  ·rw [mN h0,ih];exact ⟨fun h1=>⟨h0,h1⟩,fun h1=>h1.2⟩
  ·rw [mM rfl h0];exact ⟨fun h1=>absurd h1 h0,fun h1=>absurd h1.1 h0⟩
theorem xR {f h:List Ent} (l:List Wr):∀ i p,(bwr f h l i p).1=0→bwr f h l i p=(0,-1):=by
 induction l with
 | nil=>intro i p _;rfl
 | cons x r ih =>
  intro i p h1;by_cases h0:bwE f h p x=0
  ·rw [mN h0] at h1 ⊢;exact ih _ _ h1
  ·rw [mM rfl h0] at h1;exact absurd h1 h0
theorem xx {f h:List Ent}:bbE f h=0↔aB f∧aB h∧covB h f=true:=by
 rw [←bO,←bO];unfold bbE
 constructor
 ·intro h0;split at h0
  ·rename_i h1;exact absurd h0 h1
  ·rename_i h1;split at h0
   ·rename_i h2;exact absurd h0 h2
   ·rename_i h2;split at h0
    ·simp at h0
    ·rename_i h3;exact ⟨by simpa using h1,by simpa using h2,by simpa using h3⟩
 ·rintro ⟨h1,h2,h3⟩;rw [if_neg (by simpa using h1),if_neg (by simpa using h2),if_neg (by rw [h3];decide)]
theorem pX {f h:List Ent} {ws:List Wr}:(batF f h ws).1=0↔(aB f∧aB h∧covB h f=true)∧ws.length≤60∧okW f h none ws:=by
 rw [←xx];by_cases h1:bbE f h=0
 ·by_cases h2:60<ws.length
  ·rw [pW h1 h2]
   constructor
   ·intro h;cases h
   ·intro h;omega
  ·rw [pY h1 h2,xQ];exact ⟨fun h=>⟨h1,by omega,h⟩,fun h=>h.2.2⟩
 ·rw [pV rfl h1];exact ⟨fun h=>absurd h h1,fun h=>absurd h.1 h1⟩
theorem xw {f h:List Ent} {ws:List Wr} (h0:(batF f h ws).1=0):batF f h ws=(0,-1):=by
 unfold batF at h0 ⊢;split
 ·rename_i h1;rw [if_pos h1] at h0;exact absurd h0 h1
 ·rename_i h1;rw [if_neg h1] at h0;split
  ·rename_i h2;rw [if_pos h2] at h0;cases h0
  ·rename_i h2;rw [if_neg h2] at h0;exact xR _ _ _ h0
theorem nN {q x:Wr}:late q x↔cI (wid q) (wid x)=-1:=by
 unfold late wid;have:=xW x.time x.rep q.time q.rep;omega
theorem nO {a b c:Wr} (h1:late a b) (h2:late b c):late a c:=by
 rw [nN] at h1 h2 ⊢;exact xY h1 h2
theorem sj (x:Wr):¬ late x x:=by
 intro h;have h2:=nN.1 h;unfold late at h;omega
theorem C0 {f h:List Ent} (l:List Wr):∀ p,okW f h p l↔(∀ x∈l,wE x=0∧eG p x∧wiF (wid x) f h=true)∧l.Pairwise late:=by
 induction l with
 | nil=>intro p;simp [okW]
 | cons x r ih =>
  intro p;show bwE f h p x=0∧okW f h (some x) r↔_
  rw [ih (some x),xN,List.pairwise_cons]
  constructor
  ·rintro ⟨h1,h2,h3⟩;refine ⟨fun y hy=>?_,fun y hy=>(h2 y hy).2.1,h3⟩;rcases List.mem_cons.1 hy with rfl | hy
   ·exact h1
   ·obtain ⟨g1,g2,g3⟩:=h2 y hy;refine ⟨g1,?_,g3⟩;cases p with
    | none=>trivial
    | some q=>exact nO h1.2.1 g2
  ·rintro ⟨h1,h2,h3⟩;exact ⟨h1 x List.mem_cons_self,fun y hy=>⟨(h1 y (List.mem_cons_of_mem _ hy)).1,h2 y hy,(h1 y (List.mem_cons_of_mem _ hy)).2.2⟩,h3⟩
theorem sR {f h:List Ent} {l:List Wr}:okW f h none l↔(∀ x∈l,wE x=0∧wiF (wid x) f h=true)∧l.Pairwise late:=by
 rw [C0];exact ⟨fun ⟨h1,h2⟩=>⟨fun x hx=>⟨(h1 x hx).1,(h1 x hx).2.2⟩,h2⟩,fun ⟨h1,h2⟩=>⟨fun x hx=>⟨(h1 x hx).1,trivial,(h1 x hx).2⟩,h2⟩⟩
def aY (f h:List Ent) (ws:List Wr):Prop:=(batF f h ws).1=0
theorem dX {f h:List Ent} {ws:List Wr}:aY f h ws↔(aB f∧aB h∧covB h f=true)∧ws.length≤60∧(∀ x∈ws,wE x=0∧wiF (wid x) f h=true)∧ws.Pairwise late:=by
 unfold aY;rw [pX,sR]
end
