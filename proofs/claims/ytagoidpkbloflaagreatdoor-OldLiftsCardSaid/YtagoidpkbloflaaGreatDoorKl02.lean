import Derived.Test.YtagoidpkbloflaaGreatDoorKlq
import Derived.Test.YtagoidpkbloflaaGreatDoorKl01
import Derived.Test.YtagoidpkbloflaaGreatDoorKl00
import Derived.Maps.OwnSet
import Derived.Maps.OwnOps
import Derived.Defers
import Derived.Recover
import Derived.WalkLawsBesides
import Derived.Outline
import Derived.OrdersHeld
import Derived.Deep.Draws
import Derived.BigQuiet
import Derived.Deep.QuietTactic
import Derived.WalkSmall
import Derived.IntWalk
import Derived.StringKeys
namespace Go.Proofs.YtagoidpkbloflaaGreatDoor
open Lib (hid)
set_option maxRecDepth 100000
set_option maxHeartbeats 8000000
section
open Go.Maps
def keyL (s:ByteArray):Lit:=.string s.data.toList
theorem ic {a b:ByteArray} (h:keyL a=keyL b):a=b:=by
 unfold keyL at h;cases a;cases b
 simpa using h
theorem mt (s:ByteArray):WideAt.IsKeyLit (keyL s):=trivial
theorem keyN (k:Int):WideAt.IsKeyLit (.int .i64 k):=trivial
structure NumM (D:DataW Unit) (t:List ByteArray):Prop where
 isMap:IsMap D
 nodup:t.Nodup
 there:∀ s,s∈t→has D (keyL s)=true
 none:∀ s,s ∉ t→has D (keyL s)=false
 at':∀ s (j:Nat),t[j]? = some s→D.atKey (keyL s) (.lit (.int .i64 0))=.lit (.int .i64 j)
theorem xL:NumM (.map []) []:=⟨isMap_empty,List.nodup_nil,fun _ h=>(by cases h),fun _ _=>rfl,fun _ _ h=>(by simp at h)⟩
theorem NumM.put {D:DataW Unit} {t:List ByteArray} (h:NumM D t) {s:ByteArray} (hs:s ∉ t):NumM (D.put (keyL s) (.lit (.int .i64 t.length))) (t++[s]):=by
 refine ⟨h.isMap.put _ _,?_,?_,?_,?_⟩
 ·rw [List.nodup_append];exact ⟨h.nodup,by simp,fun a ha b hb=>by simp at hb;subst hb;rintro rfl;exact hs ha⟩
 ·intro x hx;rcases Ef.1 hx with hx | hx
  ·rw [has_put_other (fun e=>hs (by rw [←ic e];exact hx))];exact h.there x hx
  ·simp at hx;subst hx;exact has_put_same h.isMap (mt _) _
 ·intro x hx;have h1:x ∉ t:=fun h=>hx (List.mem_append_left _ h)
  have h2:x≠s:=fun e=>hx (by rw [e];simp)
  rw [has_put_other (fun e=>h2 (ic e))];exact h.none x h1
 ·intro x j hj;by_cases hlt:j<t.length
  ·rw [EQ hlt] at hj;have hx:x∈t:=DB hj;rw [atKey_put_other (fun e=>hs (by rw [←ic e];exact hx))];exact h.at' x j hj
  ·rw [EY (by omega)] at hj;have hj0:j-t.length=0:=by have:=(Do.1 hj).1;simpa using this
   rw [hj0] at hj;simp at hj
   subst hj;rw [atKey_put_same h.isMap (mt _)];rw [show j=t.length by omega]
structure SetM (D:DataW Unit) (t:List ByteArray):Prop where
 isMap:IsMap D
 there:∀ s,s∈t→D.atKey (keyL s) (.lit (.bool false))=.lit (.bool true)
 none:∀ s,s ∉ t→D.atKey (keyL s) (.lit (.bool false))=.lit (.bool false)
theorem AI:SetM (.map []) []:=⟨isMap_empty,fun _ h=>(by cases h),fun _ _=>rfl⟩
theorem SetM.put {D:DataW Unit} {t:List ByteArray} (h:SetM D t) (s:ByteArray):SetM (D.put (keyL s) (.lit (.bool true))) (t++[s]):=by
 refine ⟨h.isMap.put _ _,?_,?_⟩
 ·intro x hx;by_cases e:x=s
  ·subst e;rw [atKey_put_same h.isMap (mt _)]
  ·rw [atKey_put_other (fun h=>e (ic h))];rcases Ef.1 hx with hx | hx
   ·exact h.there x hx
   ·simp at hx;exact absurd hx e
 ·intro x hx;have h1:x ∉ t:=fun h=>hx (List.mem_append_left _ h)
  have h2:x≠s:=fun e=>hx (by rw [e];simp)
  rw [atKey_put_other (fun e=>h2 (ic e))];exact h.none x h1
structure eN (D:DataW Unit) (m:Nat):Prop where
 tidy:Tidy D
 size:Maps.size D=m
 below:∀ j:Nat,has D (.int .i64 j)=decide (j<m)
theorem BG:eN (.map []) 0:=⟨tidy_empty,rfl,fun _=>rfl⟩
theorem eN.old {D:DataW Unit} {m j:Nat} (h:eN D m) (hj:j<m):eN (D.put (.int .i64 j) (.lit (.bool true))) m:=by
 refine ⟨h.tidy.put (keyN _) _,?_,?_⟩
 ·rw [size_put h.tidy,h.below j,if_pos (by simpa using hj),h.size]
 ·intro i;by_cases e:i=j
  ·subst e;rw [has_put_same h.tidy.isMap (keyN _)];simp [hj]
  ·rw [has_put_other (by simp;omega)];exact h.below i
theorem eN.new {D:DataW Unit} {m:Nat} (h:eN D m):eN (D.put (.int .i64 m) (.lit (.bool true))) (m+1):=by
 refine ⟨h.tidy.put (keyN _) _,?_,?_⟩
 ·rw [size_put h.tidy,h.below m,if_neg (by simp),h.size]
 ·intro i;by_cases e:i=m
  ·subst e;rw [has_put_same h.tidy.isMap (keyN _)];simp
  ·rw [has_put_other (by simp;omega),h.below i];by_cases h1:i<m
   ·simp [h1];omega
   ·simp [h1];omega
theorem z8 {H:Type} {P:Program} {e:TypeId} (he:P.underlying e=some .bool) {v:Value} {z:DataW H×List MemPlace} (h:plainElem P e v=some z):∃ x,v=.bool x∧z=(.lit (.bool x),[]):=by
 unfold plainElem at h;rw [he] at h;cases v <;> simp at h
 exact ⟨_,rfl,h.symm⟩
theorem za {H:Type} {P:Program} {e:TypeId} (he:P.underlying e=some .string) {v:Value} {z:DataW H×List MemPlace} (h:plainElem P e v=some z):∃ s:ByteArray,v=.string s∧z=(.lit (.string s.data.toList),[]):=by
 unfold plainElem at h;rw [he] at h;cases v <;> simp at h
 exact ⟨_,rfl,h.2.symm⟩
theorem CD {H:Type} {P:Program} (w:World) {ops:Array Oper} {rest:List Oper} {o:Oper} {a:Act} {Q:Exit→Act→World→Prop}
 (hg:o.guard=none) (m x:Operand) (t:TypeId) (hop:o.op=Op.lookup t m x false)
 (k e:TypeId) (K:Keyed P k) (ht:P.underlying t=some (.map k e)) (R:Value→Option (DataW H×List MemPlace)) {z:Value} (hz:(zeroValue e).run P w=.ok z w) (zd:DataW H) (zp:List MemPlace) (hzd:R z=some (zd,zp)) (b n:Nat) (D:DataW H)
 (hm:a.eval m=.map (some b)) (hown:w.ownsMap P k R b n D) (key:Value) (kl:Lit) (hx:a.eval x=key) (hkey:keyOf P k key=some kl) (val:Value) (hval:∀ v ps,R v=some (D.atKey kl zd,ps)→v=val)
 (hK:wpList P ops Q rest (a.put o.dst val) w) :
 wpList P ops Q (o::rest) a w:=by
 refine wpList_plain hg fun K' hK'=>?_
 obtain ⟨v,ps,hrun,hv⟩:=hown.lookup K ht hz hzd hkey;unfold Oper.wp;simp [execOp,hop,hm,hx,hrun,Result.andThen]
 rw [hval v ps hv];exact hK' _ _ hK
end
section
open Go.RowKit
theorem bi (e pl:Int) (w:World):Calls Tryz.prog 36 #[.int .i64 e,.int .i64 pl] w fun r w'=>r=.panicked [{ v:=.iface 119 (.agg #[.int .i64 e,.int .i64 pl]),recovered:=false }]∧w'=w:=by
 go_enter Tryz.func36,Tryz.ntmps36
 go_wp2;exact ⟨rfl,rfl,rfl⟩
theorem wQ (v:Value) (xT:TypeId) (w:World):(Instr.typeAssert (.iface 119 v) xT 119 true).run Tryz.prog w=.ok (.tuple #[v,.bool true]) w:=by
 simp [Instr.typeAssert,run_underlying Tryz.underlying119]
theorem jq (F:Nat) (e pl x y:Int) (older:List PanicEntry) (w:World) (hF:F<w.heap.size) (h0:w.cell? ⟨F,0,none⟩=some (.int .i64 x)) (h1:w.cell? ⟨F,1,none⟩=some (.int .i64 y)) (z0:w.frozen? ⟨F,0,none⟩=false) (z1:w.frozen? ⟨F,1,none⟩=false) :
 CallsD Tryz.prog 34 #[.pointer (some ⟨F,0,none⟩)] (.panicking ({ v:=.iface 119 (.agg #[.int .i64 e,.int .i64 pl]),recovered:=false }::older)) w fun r u' w' =>
  r=.returned (.tuple #[])∧u'=.panicking ({ v:=.iface 119 (.agg #[.int .i64 e,.int .i64 pl]),recovered:=true }::older)∧w'=((w.setCell ⟨F,0,none⟩ (.int .i64 e)).setCell ⟨F,1,none⟩ (.int .i64 pl)).alloc (.cells #[.int .i64 e,.int .i64 pl] 119):=by
 have iT:=wQ;refine callsD_of_wpS Tryz.func34 rfl fun c₀ cs hu=>?_
 apply wpS_seq
 apply wpS_region
 simp [wpOpsS,go_sem,recoverD,hu,Tryz.ntmps34,Exit.thenS]
 refine wpS_of_wp ?_;rw [show (#[.pointer (some ⟨F,0,none⟩)]++((Array.replicate 19 undef).setIfInBounds 4 (.iface 119 (.agg #[.int .i64 e,.int .i64 pl]))).setIfInBounds 1 (.iface 119 (.agg #[.int .i64 e,.int .i64 pl])):Array Value)=#[.pointer (some ⟨F,0,none⟩),undef,.iface 119 (.agg #[.int .i64 e,.int .i64 pl]),undef,undef,.iface 119 (.agg #[.int .i64 e,.int .i64 pl]),undef,undef,undef,undef,undef,undef,undef,undef,undef,undef,undef,undef,undef,undef] by kernel_rfl];go_wp2;simp [bodyPostS,results,Tryz.results34]
theorem jp (p:Value) (w:World) :
 CallsD Tryz.prog 34 #[p] .returning w fun r u' w'=>r=.returned (.tuple #[])∧u'=.returning∧w'=w:=by
 refine callsD_of_wpS Tryz.func34 rfl fun c₀ cs hu=>?_
 apply wpS_seq
 apply wpS_region
 simp [wpOpsS,go_sem,recoverD,hu,Tryz.ntmps34,Exit.thenS]
 refine wpS_of_wp ?_;rw [show (#[p]++((Array.replicate 19 undef).setIfInBounds 4 .nilIface).setIfInBounds 1 .nilIface:Array Value)=#[p,undef,.nilIface,undef,undef,.nilIface,undef,undef,undef,undef,undef,undef,undef,undef,undef,undef,undef,undef,undef,undef] by kernel_rfl];go_wp2;cases c₀
 simp_all [bodyPostS,results,Tryz.results34]
end
section
open Go
theorem lO {L:Array Bool} {i:Nat} (h:L.getD i true=false):(L.setIfInBounds i true).toList.count false+1≤L.toList.count false∧i<L.size:=by
 have hi:i<L.size:=by
  rcases Eg i L.size with h' | h'
  ·exact h'
  ·simp [Ep h'] at h
 have hv : L.toList[i]'(by simpa using hi) = false := by
  simp [hi] at h
  simpa using h
 refine ⟨?_,hi⟩;rw [Array.toList_setIfInBounds,List.count_set (by simpa using hi),hv];have hpos:0<L.toList.count false:=List.count_pos_iff.2 (by rw [←hv];exact List.getElem_mem _);simp only [beq_self_eq_true,if_true]
 have:(true == false)=false:=rfl;rw [this];simp only [Bool.false_eq_true,if_false]
 omega
section
variable {P:Program} {ops:Array Oper} {Q:Exit→Act→World→Prop} {md:Region.Mode}
theorem zx {L:Array Bool} (hs:L.size=ops.size) (hb:∀ (i:Nat) (o:Oper),ops[i]? = some o→∀ e∈o.after,e.on<i) (h:Region.ready md ops L=[]):∀ i,i<ops.size→L.getD i false=true:=by
 intro i
 induction i using Nat.strongRecOn with
 | _ i ih =>
  intro hi;cases hc:L.getD i false with
  | true=>rfl
  | false =>
   have hm:i∈Region.ready md ops L:=mem_ready.2 ⟨by
    have hL:i<L.size:=by omega
    simp [hL] at hc ⊢;exact hc,ops[i],by simp [hi],fun e he _=>by
    have:=hb i ops[i] (by simp [hi]) e he;exact ih e.on this (by omega)⟩
   rw [h] at hm;cases hm
theorem Cz (J:Array Bool→Act→World→Prop) (hb:∀ (i:Nat) (o:Oper),ops[i]? = some o→∀ e∈o.after,e.on<i)
 (hstep:∀ (i:Nat) (o:Oper),ops[i]? = some o→∀ (L:Array Bool) (a:Act) (W:World),L.size=ops.size→(∀ e∈o.after,Region.binds md e=true→L.getD e.on false=true)→L.getD i true=false→J L a W→wpOp P ops Q i (J (L.setIfInBounds i true)) a W)
 (hend:∀ (L:Array Bool) (a:Act) (W:World),(∀ i,i<ops.size→L.getD i false=true)→J L a W→Q .normal a W) :
 ∀ (fuel:Nat) (L:Array Bool) (a:Act) (W:World),L.size=ops.size→L.toList.count false≤fuel→J L a W→wpAny P md ops Q fuel L a W:=by
 intro fuel
 induction fuel with
 | zero =>
  intro L a W hs hc hJ;have hall:∀ i,i<ops.size→L.getD i false=true:=fun i hi=>by
   have hL:i<L.size:=by omega
   have h0:L.toList.count false=0:=by omega
   have hn:=List.count_eq_zero.1 h0;have:L[i]=true:=by
    cases hv:L[i] with
    | true=>rfl
    | false=>exact absurd (by rw [←hv];simp) hn
   simp [hL,this]
  refine ⟨?_,hend L a W hall hJ⟩;cases hr:Region.ready md ops L with
  | nil=>rfl
  | cons j r =>
   have hj:j∈Region.ready md ops L:=by rw [hr];simp
   obtain ⟨h1,_⟩:=mem_ready.1 hj;obtain ⟨h2,h3⟩:=lO h1;omega
 | succ fuel ih =>
  intro L a W hs hc hJ;refine ⟨fun hr=>hend L a W (zx hs hb hr) hJ,fun i hi=>?_⟩;obtain ⟨hun,o,hoi,hall⟩:=mem_ready.1 hi;obtain ⟨h2,h3⟩:=lO hun;exact wpOp_mono (fun a' W' hJ'=>ih _ a' W' (by simpa using hs) (by omega) hJ') (hstep i o hoi L a W hs hall hun hJ)
def tE (ops:Array Oper):Bool:=(List.range ops.size).all fun i=>match ops[i]? with | some o=>o.after.all (fun e=>decide (e.on<i)) | none=>true
theorem xR (h:tE ops=true):∀ (i:Nat) (o:Oper),ops[i]? = some o→∀ e∈o.after,e.on<i:=by
 intro i o hi e he;have hlt:i<ops.size:=(DF.1 hi).1;have h1:=List.all_eq_true.1 h i (by simpa using hlt);rw [hi] at h1;have h2:=Array.all_eq_true'.1 h1 e he
 simpa using h2
theorem xI (n j:Nat):(Array.replicate n false).getD j false=false:=by
 by_cases h:j<n <;> simp [h]
theorem vV {L:Array Bool} {i j:Nat} (h:(L.setIfInBounds i true).getD j false=true):j=i∨L.getD j false=true:=by
 by_cases hij:i=j
 ·exact .inl hij.symm
 ·right
  simpa [Array.getElem?_setIfInBounds,hij] using h
theorem fB {L:Array Bool} {i j:Nat} (h:L.getD j false=true):(L.setIfInBounds i true).getD j false=true:=by
 by_cases hij:i=j
 ·subst hij;have:i<L.size:=by
   rcases Eg i L.size with h' | h'
   ·exact h'
   ·simp [Ep h'] at h
  simp [this]
 ·simpa [Array.getElem?_setIfInBounds,hij] using h
end
end
section
def ap (t:Tok) (a:Nat):Nat :=
 if t.own.size=0 then
  if t.size=0∧t.back=0 then 1
  else if t.size<4∨67<t.size∨t.back<1∨1024<t.back then 2
  else if (a:Int)<t.back then 7
  else if 20000<(a:Int)+t.size then 4 else 0
 else if t.size≠0∨t.back≠0 then 1
 else if 20000<a+t.own.size then 4 else 0
def lenT (t:Tok):Nat:=t.own.size+t.size.toNat
def a8:List Tok→Nat→Nat→Nat×Int
 | [],_,_=>(0,-1)
 | t::r,i,a=>if ap t a=0 then a8 r (i+1) (a+lenT t) else (ap t a,(i:Int))
def repL (b:List UInt8) (back:Nat):Nat→List UInt8
 | 0=>b
 | n+1=>repL (b++[b.getD (b.length-back) 0]) back n
def co (b:List UInt8) (t:Tok):List UInt8:=repL (b++t.own.data.toList) t.back.toNat t.size.toNat
def aD (b:List UInt8) (l:List Tok):List UInt8:=l.foldl co b
theorem zC (b:List UInt8) (k n:Nat):(repL b k n).length=b.length+n:=by
 induction n generalizing b with
 | zero=>rfl
 | succ n ih=>rw [repL,ih];simp;omega
theorem rH (b:List UInt8) (t:Tok):(co b t).length=b.length+lenT t:=by
 unfold co lenT;rw [zC,Df,←ac];omega
theorem gF {t:Tok} {a:Nat} (h:ap t a=0) :
 (t.own.size≠0∧t.size=0∧t.back=0∧a+t.own.size≤20000) ∨
 (t.own.size=0∧4≤t.size∧t.size≤67∧1≤t.back∧t.back≤1024∧t.back≤(a:Int)∧(a:Int)+t.size≤20000):=by
 unfold ap at h;by_cases h0:t.own.size=0
 ·rw [if_pos h0] at h;by_cases h1:t.size=0∧t.back=0
  ·rw [if_pos h1] at h;omega
  ·rw [if_neg h1] at h;by_cases h2:t.size<4∨67<t.size∨t.back<1∨1024<t.back
   ·rw [if_pos h2] at h;omega
   ·rw [if_neg h2] at h;by_cases h3:(a:Int)<t.back
    ·rw [if_pos h3] at h;omega
    ·rw [if_neg h3] at h;by_cases h4:20000<(a:Int)+t.size
     ·rw [if_pos h4] at h;omega
     ·exact .inr ⟨h0,by omega,by omega,by omega,by omega,by omega,by omega⟩
 ·rw [if_neg h0] at h;by_cases h1:t.size≠0∨t.back≠0
  ·rw [if_pos h1] at h;omega
  ·rw [if_neg h1] at h;by_cases h4:20000<a+t.own.size
   ·rw [if_pos h4] at h;omega
   ·exact .inl ⟨h0,by omega,by omega,by omega⟩
theorem j8 {t:Tok} {a:Nat} (h:ap t a=0):a+lenT t≤20000:=by
 unfold lenT;rcases gF h with ⟨_,h1,_,h2⟩ | ⟨h0,h1,_,_,_,_,h2⟩ <;> omega
theorem eA {t:Tok} {r:List Tok} {i a:Nat} (h:ap t a=0):a8 (t::r) i a=a8 r (i+1) (a+lenT t):=by rw [a8,if_pos h]
theorem ez {t:Tok} {r:List Tok} {i a:Nat} (h:ap t a≠0):a8 (t::r) i a=(ap t a,(i:Int)):=by rw [a8,if_neg h]
theorem gn {t:Tok} {r:List Tok} {i a:Nat} (h:(a8 (t::r) i a).1=0):ap t a=0∧(a8 r (i+1) (a+lenT t)).1=0:=by
 by_cases hw:ap t a=0
 ·rw [eA hw] at h;exact ⟨hw,h⟩
 ·rw [ez hw] at h;exact absurd h hw
theorem fM {l:List Tok} {i a:Nat} (h:(a8 l i a).1=0):a8 l i a=(0,-1):=by
 induction l generalizing i a with
 | nil=>rfl
 | cons t r ih =>
  obtain ⟨h1,h2⟩:=gn h;rw [eA h1];exact ih h2
theorem zQ {l:List Tok} {i a:Nat} (h:(a8 l i a).1=0) (n:Nat):(a8 (l.take n) i a).1=0:=by
 induction l generalizing i a n with
 | nil=>simp [a8]
 | cons t r ih =>
  cases n with
  | zero=>rfl
  | succ n =>
   obtain ⟨h1,h2⟩:=gn h;rw [EV,eA h1];exact ih h2 n
theorem Bj {l:List Tok} {i a:Nat} {b:List UInt8} (h:(a8 l i a).1=0) (hb:b.length=a) (ha:a≤20000):(aD b l).length≤20000:=by
 induction l generalizing i a b with
 | nil=>show b.length≤_;omega
 | cons t r ih =>
  obtain ⟨h1,h2⟩:=gn h;exact ih (b:=co b t) h2 (by rw [rH,hb]) (j8 h1)
end
section
open Go.RowKit
theorem pK:(Tryz.prog.info? 142).map (fun i=>(i.zero,i.size,i.bytes))=some (some (.agg #[.string ⟨#[]⟩,.int .i64 0,.int .i64 0]),3,32):=by kernel_rfl
def tokC (t:Tok):List Value:=[.string t.own,.int .i64 t.back,.int .i64 t.size]
def cq (l:List Tok):List Value:=l.flatMap tokC
theorem np (l:List Tok):(cq l).length=l.length * 3:=by
 induction l with
 | nil=>rfl
 | cons t r ih=>simp only [cq,List.flatMap_cons,Df,DM] at ih ⊢;rw [ih];simp [tokC];omega
theorem kJ (a b:List Tok):cq (a++b)=cq a++cq b:=by simp [cq]
theorem kK (l:List Tok) (i j:Nat) (t:Tok) (h:l[i]? = some t) (hj:j<3):(cq l)[i * 3+j]? = (tokC t)[j]? := by
 induction l generalizing i with
 | nil=>simp at h
 | cons u r ih =>
  have hc:cq (u::r)=tokC u++cq r:=by simp [cq]
  have h3:(tokC u).length=3:=rfl;rw [hc];cases i with
  | zero =>
   obtain rfl:u=t:=by simpa using h
   rw [EQ (by omega)]
   congr 1;omega
  | succ i =>
   rw [EY (by omega),h3,show (i+1) * 3+j-3=i * 3+j by omega];exact ih i (by simpa using h)
def ax (w:World) (base:Nat) (v:Value) (l:List Tok):Prop:=w.ownsRow base 142 3 v l.length (cq l)
theorem fK (w:World) (base:Nat):ax w base (.slice none 0 0) []:=Ev _ _ _ _
theorem ax.alloc {w:World} {base:Nat} {v:Value} {l:List Tok} (h:ax w base v l) (o:Obj):ax (w.alloc o) base v l:=EI h o
theorem ax.drew {w:World} {base:Nat} {v:Value} {l:List Tok} (h:ax w base v l):ax w.drew base v l:=World.ownsRow.drew h
theorem ax.drewN {w:World} {base:Nat} {v:Value} {l:List Tok} (h:ax w base v l) (n:Nat):ax (w.drewN n) base v l:=h
theorem ax.lt {w:World} {base:Nat} {v:Value} {l:List Tok} (h:ax w base v l):∀ k,v.ownBlock=some k→base≤k∧k<w.heap.size:=DQ h
theorem ax.mono {w:World} {base base':Nat} {v:Value} {l:List Tok} (h:ax w base v l) (hb:base'≤base):ax w base' v l:=by
 obtain ⟨h0,h1⟩:=h;refine ⟨h0,?_⟩;rcases h1 with h1 | ⟨g,cap,cur,hv,hg,r⟩
 ·exact .inl h1
 ·exact .inr ⟨g,cap,cur,hv,Dl hb hg,r⟩
theorem ax.below {w w':World} {base:Nat} {v:Value} {l:List Tok} (h:ax w base v l) (hb:Below w.heap.size w w'):ax w' base v l:=by
 refine Dt h (row:=none) ⟨hb.os,hb.tape,hb.output,hb.size,fun k hk _=>hb.block k hk⟩ ?_;cases hv:v.ownBlock with
 | none=>exact .inl rfl
 | some g=>exact .inr (by simp)
def bX (w:World) (v:Value) (l:List Tok):Prop :=
 (∃ a c,v=.slice a 0 c∧l=[])∨∃ b off c,v=.slice (some ⟨b,off,none⟩) l.length c∧0<l.length∧b<w.heap.size∧∀ j u,(cq l)[j]? = some u→w.cell? ⟨b,off+j,none⟩=some u
theorem ax.is {w:World} {base:Nat} {v:Value} {l:List Tok} (h:ax w base v l):bX w v l:=by
 have hall:=h;have hlt:=h.lt;obtain ⟨h0,h1⟩:=h;rcases h1 with ⟨rfl,hn⟩ | ⟨g,cap,cur,rfl,hb,hh,hc,hm,hs,ht⟩
 ·exact .inl ⟨_,_,rfl,E0.1 hn⟩
 ·by_cases hz:l.length=0
  ·exact .inl ⟨_,_,by rw [hz],E0.1 hz⟩
  ·refine .inr ⟨g,0,cap,rfl,by omega,(hlt g rfl).2,fun j u hj=>?_⟩;have hjl:j<l.length * 3:=by rw [←np];exact (Do.1 hj).1
   rw [DY,Ej hall j hjl];exact hj
theorem bX.below {w w':World} {v:Value} {l:List Tok} (h:bX w v l) (hb:Below w.heap.size w w'):bX w' v l:=by
 rcases h with ⟨a,c,h1,h2⟩ | ⟨b,off,c,h1,h0,h2,h3⟩
 ·exact .inl ⟨a,c,h1,h2⟩
 ·exact .inr ⟨b,off,c,h1,h0,Dv h2 hb.size,fun j u hj=>(hb.cell (p:=⟨b,off+j,none⟩) h2).trans (h3 j u hj)⟩
theorem bX.alloc {w:World} {v:Value} {l:List Tok} (h:bX w v l) (o:Obj):bX (w.alloc o) v l:=h.below ((Below.refl _ _).alloc (Db _) o)
theorem bX.drewN {w:World} {v:Value} {l:List Tok} (h:bX w v l) (n:Nat):bX (w.drewN n) v l:=h
theorem bX.form {w:World} {v:Value} {l:List Tok} (h:bX w v l):∃ a c,v=.slice a l.length c∧∀ i t,l[i]? = some t→∃ b off,a=some ⟨b,off,none⟩∧b<w.heap.size ∧
 w.cell? ⟨b,off+i * 3,none⟩=some (.string t.own)∧w.cell? ⟨b,off+i * 3+1,none⟩=some (.int .i64 t.back)∧w.cell? ⟨b,off+i * 3+2,none⟩=some (.int .i64 t.size):=by
 rcases h with ⟨a,c,rfl,rfl⟩ | ⟨b,off,c,rfl,h0,h2,h3⟩
 ·exact ⟨a,c,rfl,fun i t h=>by simp at h⟩
 ·refine ⟨_,_,rfl,fun i t h=>⟨b,off,rfl,h2,?_,?_,?_⟩⟩
  ·exact h3 _ _ ((kK l i 0 t h (by omega)).trans rfl)
  ·exact h3 _ _ ((kK l i 1 t h (by omega)).trans rfl)
  ·exact h3 _ _ ((kK l i 2 t h (by omega)).trans rfl)
def cg (w:World) (B:Nat) (t:Tok):Prop:=w.heap[B]? = some (.cells #[.string t.own,.int .i64 t.back,.int .i64 t.size] 142 (0,0))
theorem e8 (w:World) (s:ByteArray) (b n:Int):cg (w.alloc (.cells #[.string s,.int .i64 b,.int .i64 n] 142)) w.heap.size ⟨s,b,n⟩:=Dg _ _
theorem fU {w:World} {ops:Array Oper} {rest:List Oper} {o:Oper} {a:Act} {Q:Exit→Act→World→Prop} (hgd:o.guard=none) (s x:Operand)
 (ho:o.op=.call { callee:=.builtin .append,args:=#[s,x],argTypes:=#[96,96] })
 (base:Nat) (v:Value) (l:List Tok) (hs:a.eval s=v) (hown:ax w base v l)
 (B c:Nat) (hx:a.eval x=.slice (some ⟨B,0,none⟩) 1 c) (t:Tok) (hcell:cg w B t)
 (hlen:l.length+1≤1000000) (hbase:base≤w.heap.size)
 (h:∀ g cap w',ax w' base (.slice (some ⟨g,0,none⟩) (l.length+1) cap) (l++[t])→w.grownBy w' v.ownBlock→wpList Tryz.prog ops Q rest (a.put o.dst (.slice (some ⟨g,0,none⟩) (l.length+1) cap)) w'):wpList Tryz.prog ops Q (o::rest) a w:=by
 obtain ⟨i0,hi,hz0,hz1,hz2⟩:=DU pK;refine wpList_append_lies w hgd s x 96 ho base 142 i0 (.agg #[.string ⟨#[]⟩,.int .i64 0,.int .i64 0]) 3 32 Tryz.underlying96 hi hz0 hz1 hz2 rfl (by decide) v l.length (cq l) hs hown ⟨B,0,none⟩ 1 c (tokC t) hx rfl ?_ ?_ (by decide) (by unfold maxLen;omega) (by omega) hbase _ rfl ?_
 ·intro j u hj;have hadd:(⟨B,0,none⟩:Addr).add j=⟨B,j,none⟩:=by unfold Addr.add;split <;> simp_all
  rw [hadd,Dd _ _ _ _ _ _ hcell,←hj];unfold tokC;simp
 ·intro u hu;simp [tokC] at hu;rcases hu with rfl | rfl | rfl <;> rfl
 ·intro g cap w' h1 h2 _ _;refine h g cap w' ?_ h2;unfold ax;rw [Df,kJ]
  simpa [cq] using h1
theorem ax.stored {w:World} {base g n cap:Nat} {l:List Tok} {t:Tok} (h:ax w base (.slice (some ⟨g,0,none⟩) n cap) (l++[t])) (hn:n=l.length+1) (s:ByteArray) :
 ax (w.setCell ⟨g,l.length * 3,none⟩ (.string s)) base (.slice (some ⟨g,0,none⟩) n cap) (l++[⟨s,t.back,t.size⟩]):=by
 subst hn;unfold ax at h ⊢;rw [Df] at h ⊢;have h2:=(World.ownsRow.stored h (l.length * 3) (.string s)).1;have e:(cq (l++[t])).set (l.length * 3) (.string s)=cq (l++[⟨s,t.back,t.size⟩]):=by
  rw [kJ,kJ,List.set_append_right _ _ (by rw [np];exact Db _),np,Nat.sub_self]
  rfl
 rw [e] at h2;exact h2
theorem ax.last {w:World} {base g n cap:Nat} {l:List Tok} {t:Tok} (h:ax w base (.slice (some ⟨g,0,none⟩) n cap) (l++[t])) (hn:n=l.length+1) :
 w.cell? ⟨g,l.length * 3,none⟩=some (.string t.own)∧w.frozen? ⟨g,l.length * 3,none⟩=false∧base≤g:=by
 subst hn;have hlt:=(h.lt g rfl).1;unfold ax at h;rw [Df] at h;refine ⟨?_,World.ownsRow.frozenAt h _,hlt⟩;rw [Ej h _ (by simp)];exact (kK (l++[t]) l.length 0 t (by simp) (by omega)).trans rfl
theorem ax.form {w:World} {base:Nat} {v:Value} {l:List Tok} {t:Tok} (h:ax w base v (l++[t])):∃ g cap,v=.slice (some ⟨g,0,none⟩) (l.length+1) cap:=by
 obtain ⟨h0,h1⟩:=h;rcases h1 with ⟨rfl,hn⟩ | ⟨g,cap,cur,rfl,hb,hh,hc,hm,hs,ht⟩
 ·simp at hn
 ·exact ⟨g,cap,by simp⟩
end
section
open Go.RowKit
theorem rI (w:World) {ops:Array Oper} {o:Oper} {a:Act} {K:Act→World→Prop} {Q:Exit→Act→World→Prop} {E:Prop} (hgd:o.guard=none) (s x:Operand)
 (ho:o.op=.call { callee:=.builtin .append,args:=#[s,x],argTypes:=#[86,86] })
 (base:Nat) (v:Value) (l:List ByteArray) (hs:a.eval s=v) (hown:ak w base v l)
 (ad:Addr) (c:Nat) (hx:a.eval x=.slice (some ad) 2 c) (d d':ByteArray) (hcell:w.cell? (ad.add 0)=some (.string d)) (hcell':w.cell? (ad.add 1)=some (.string d'))
 (hlen:l.length+2≤8796093022208) (hbase:base≤w.heap.size)
 (h:∀ g cap w',ak w' base (.slice (some ⟨g,0,none⟩) (l.length+2) cap) (l++[d,d'])→w.grownBy w' v.ownBlock→K (a.put o.dst (.slice (some ⟨g,0,none⟩) (l.length+2) cap)) w') :
 if Region.wanted o (yielded ops a.tmps)=true then Oper.wp Tryz.prog o a w K Q else E:=by
 obtain ⟨i0,hi,hz0,hz1,hz2⟩:=DU mr;refine step_append_lies w hgd s x 86 ho base 9 i0 (.string ⟨#[]⟩) 1 16 Tryz.underlying86 hi hz0 hz1 hz2 rfl (by decide) v l.length (l.map Value.string) hs hown ad 2 c [.string d,.string d'] hx rfl ?_ ?_ (by decide) (by unfold maxLen;omega) (by omega) hbase _ rfl ?_
 ·intro j u hj
  match j,hj with
  | 0,hj=>simp at hj;subst hj;exact hcell
  | 1,hj=>simp at hj;subst hj;exact hcell'
 ·intro u hu;simp at hu;rcases hu with rfl | rfl <;> rfl
 ·intro g cap w' h1 h2 _ _;refine h g cap w' ?_ h2;unfold ak;rw [Df,En];exact h1
end
section
open Go.RowKit
theorem getB (s:ByteArray) (j:Nat) (h:j<s.size):s.data.toList.getD j 0=s[j]:=by
 have hl:j<s.data.size:=h;rw [DN,Array.getElem?_toList,Array.getElem?_eq_getElem hl];rfl
theorem pi (w:World) (q n:Nat):∃ k,(w.drewN q).drewN n=w.drewN k:=⟨_,World.drewN_drewN _ _ _⟩
theorem s8 (x y:UInt8):((x.toNat:Int) != (y.toNat:Int))=!decide (x=y):=by
 by_cases h:x=y
 ·subst h;simp
 ·have h2:x.toNat≠y.toNat:=fun e=>h (ED.1 e)
  simp [h];omega
theorem s7 (x y:UInt8):((x.toNat:Int) == (y.toNat:Int))=decide (x=y):=by
 by_cases h:x=y
 ·subst h;simp
 ·have h2:x.toNat≠y.toNat:=fun e=>h (ED.1 e)
  simp [h];omega
theorem Ay (s:ByteArray) (a b m:Nat) (w:World) (hs:s.size≤maxLen) (hb:b≤a) (hm:a+m≤s.size) :
 Calls Tryz.prog 202 #[.string s,.int .i64 a,.int .i64 b,.int .i64 m] w fun e w'=>e=.returned (.int .i64 (sm s.data.toList a b m:Nat))∧∃ q,w'=w.drewN q:=by
 unfold maxLen at hs;go_enter Tryz.func202,Tryz.ntmps202
 go_wp2
 go_loopw [11] (fun i wr=>∃ k q:Nat,k≤m∧i=.int .i64 k∧wr=w.drewN q∧∀ j,j<k→s.data.toList.getD (a+j) 0=s.data.toList.getD (a+j-b) 0) (fun i _=>m-(intOf i).toNat)
 case atStart=>exact ⟨0,0,by omega,rfl,rfl,fun j h=>by omega⟩
 case round =>
  obtain ⟨k,q,hk,rfl,rfl,hall⟩:=hrel;have HA:=hid hall;clear hall;by_cases hlt:k<m
  ·obtain ⟨p,hp⟩:∃ p,p=a+k:=⟨_,rfl⟩;obtain ⟨r,hr⟩:∃ r,r=a+k-b:=⟨_,rfl⟩;have hpl:p<s.size:=by omega
   have hrl:r<s.size:=by omega
   have h1:IntKind.i64.wrap ((a:Int)+(k:Int))=(p:Int):=by rw [Dh _ (by omega)];omega
   have h2:IntKind.i64.wrap ((p:Int)-(b:Int))=(r:Int):=by rw [Dh _ (by omega)];omega
   have HP:=hid hp;have HR:=hid hr;clear hp hr;by_cases heq:s[p]=s[r]
   ·have hq:((s[p].toNat:Int) != (s[r].toNat:Int))=false:=by rw [s8];simp [heq]
    have HN:Hid (∀ j,j<k+1→s.data.toList.getD (a+j) 0=s.data.toList.getD (a+j-b) 0):=by
     intro j hj;by_cases e:j=k
     ·rw [e,←HR.out,←HP.out,getB _ _ hpl,getB _ _ hrl];exact heq
     ·exact HA.out j (by omega)
    clear heq;go_wp2
    go_quiet (fail)
    clear h1 h2;go_wp2;go_roundw
    case rel=>exact ⟨k+1,_,by omega,by go_num,rfl,HN.out⟩
    case measure=>simp [intOf];omega
   ·have hq:((s[p].toNat:Int) != (s[r].toNat:Int))=true:=by rw [s8];simp [heq]
    have HN:Hid (sm s.data.toList a b m=k):=by
     refine kB ⟨by omega,HA.out,fun _=>?_⟩;rw [←HR.out,←HP.out,getB _ _ hpl,getB _ _ hrl];exact heq
    clear heq;go_wp2
    go_quiet (fail)
    clear h1 h2;go_wp2;go_ret;exact ⟨by rw [HN.out];rfl,pi _ _ _⟩
  ·have HN : Hid (sm s.data.toList a b m = m) := by
    refine kB ⟨Db _,fun j hj=>HA.out j (by omega),fun h=>absurd h (Nat.lt_irrefl _)⟩
   go_wp2;go_ret;exact ⟨by rw [HN.out];rfl,_,rfl⟩
theorem ks (s:ByteArray) (a b m:Nat) (B:Int) (w:World) (hs:s.size≤maxLen) (hB:B=(b:Int)) (hb:b≤a) (hm:a+m≤s.size) :
 Calls Tryz.prog 202 #[.string s,.int .i64 a,.int .i64 B,.int .i64 m] w fun e w'=>e=.returned (.int .i64 (sm s.data.toList a b m:Nat))∧∃ q,w'=w.drewN q:=by
 subst hB;exact Ay s a b m w hs hb hm
end
section
open Go.RowKit
def ba (w:World) (v:Value) (l:List ByteArray):Prop :=
 ∃ a cap,v=.slice a l.length cap∧l.length≤cap∧∀ k s,l[k]? = some s→∃ b off,a=some ⟨b,off,none⟩∧b<w.heap.size∧w.cell? ⟨b,off+k,none⟩=some (.string s)
def bW (w:World) (v:Value) (l:List Int):Prop :=
 ∃ a cap,v=.slice a l.length cap∧l.length≤cap∧∀ k n,l[k]? = some n→∃ b off,a=some ⟨b,off,none⟩∧b<w.heap.size∧w.cell? ⟨b,off+k,none⟩=some (.int .i64 n)
theorem ba.below {w w':World} {v:Value} {l:List ByteArray} (h:ba w v l) (hb:Below w.heap.size w w'):ba w' v l:=by
 obtain ⟨a,cap,h1,h2,h3⟩:=h;exact ⟨a,cap,h1,h2,fun k s hk=>by obtain ⟨b,off,e,hlt,hc⟩:=h3 k s hk;exact ⟨b,off,e,Dv hlt hb.size,(hb.cell hlt).trans hc⟩⟩
theorem bW.below {w w':World} {v:Value} {l:List Int} (h:bW w v l) (hb:Below w.heap.size w w'):bW w' v l:=by
 obtain ⟨a,cap,h1,h2,h3⟩:=h;exact ⟨a,cap,h1,h2,fun k s hk=>by obtain ⟨b,off,e,hlt,hc⟩:=h3 k s hk;exact ⟨b,off,e,Dv hlt hb.size,(hb.cell hlt).trans hc⟩⟩
theorem ba.alloc {w:World} {v:Value} {l:List ByteArray} (h:ba w v l) (o:Obj):ba (w.alloc o) v l:=h.below ((Below.refl _ _).alloc (Db _) _)
theorem bW.alloc {w:World} {v:Value} {l:List Int} (h:bW w v l) (o:Obj):bW (w.alloc o) v l:=h.below ((Below.refl _ _).alloc (Db _) _)
theorem ba.drewN {w:World} {v:Value} {l:List ByteArray} (h:ba w v l) (n:Nat):ba (w.drewN n) v l:=h.below ⟨rfl,rfl,rfl,Db _,fun _ _=>rfl⟩
theorem bW.drewN {w:World} {v:Value} {l:List Int} (h:bW w v l) (n:Nat):bW (w.drewN n) v l:=h.below ⟨rfl,rfl,rfl,Db _,fun _ _=>rfl⟩
theorem ba.drew {w:World} {v:Value} {l:List ByteArray} (h:ba w v l):ba w.drew v l:=h.below ((Below.refl _ _).drew)
theorem bW.drew {w:World} {v:Value} {l:List Int} (h:bW w v l):bW w.drew v l:=h.below ((Below.refl _ _).drew)
theorem wP (w:World):ba w (.slice none 0 0) []:=⟨none,0,rfl,Db _,fun k s h=>by simp at h⟩
theorem wO (w:World):bW w (.slice none 0 0) []:=⟨none,0,rfl,Db _,fun k s h=>by simp at h⟩
theorem ba.take {w:World} {a:Option Addr} {cap:Nat} {l:List ByteArray} (h:ba w (.slice a l.length cap) l) (i c:Nat) (hi:i≤l.length) (hc:i≤c):ba w (.slice a i c) (l.take i):=by
 obtain ⟨a',cap',h1,h2,h3⟩:=h;obtain ⟨rfl,_,rfl⟩:=Ey h1;refine ⟨a,c,by rw [DK,Nat.min_eq_left hi],by rw [DK];omega,fun k s hk=>?_⟩;have hki:k<i:=by have:=(Do.1 hk).1;rw [DK] at this;omega
 rw [EP hki] at hk;exact h3 k s hk
theorem ak.isTexts {w:World} {base:Nat} {v:Value} {l:List ByteArray} (h:ak w base v l):ba w v l:=by
 rcases h.forms with ⟨rfl,rfl⟩ | ⟨g,cap,rfl,hb,hg,hc⟩
 ·exact wP w
 ·have hcap : l.length ≤ cap := by
   rcases h.2 with ⟨e,_⟩ | ⟨_,_,_,e,_,_,hcl,_⟩
   ·simp at e
   ·obtain ⟨_,_,rfl⟩:=Ey e;omega
  refine ⟨_,cap,rfl,hcap,fun k s hk=>⟨g,0,rfl,hg,?_⟩⟩;obtain ⟨hkl,e⟩:=Do.1 hk;have:=hc k hkl;rw [DY,this];simp [DN,hk]
theorem aG.isNums {w:World} {base:Nat} {v:Value} {l:List Nat} (h:aG w base v l):bW w v (l.map Int.ofNat):=by
 rcases h.forms with ⟨rfl,rfl⟩ | ⟨g,cap,rfl,hb,hg,hc⟩
 ·exact wO w
 ·have hcap : l.length ≤ cap := by
   rcases h.2 with ⟨e,_⟩ | ⟨_,_,_,e,_,_,hcl,_⟩
   ·simp at e
   ·obtain ⟨_,_,rfl⟩:=Ey e;omega
  refine ⟨some ⟨g,0,none⟩,cap,by rw [E9],by rw [E9];exact hcap,fun k s hk=>⟨g,0,rfl,hg,?_⟩⟩;rw [ER] at hk;obtain ⟨n,hn,rfl⟩:=Option.map_eq_some_iff.1 hk;have hkl:=(Do.1 hn).1;have:=hc k hkl;rw [DY,this];simp [DN,hn]
theorem gu {w:World} {base base':Nat} {e1 e2:TypeId} {k1 k2 n1 n2:Nat} {v1 v2:Value} {x1 x2:List Value} (h1:w.ownsRow base e1 k1 v1 n1 x1) (h2:w.ownsRow base' e2 k2 v2 n2 x2) (hne:e1≠e2) :
 v1.ownBlock=none∨v1.ownBlock≠v2.ownBlock:=by
 rcases h1.2 with ⟨rfl,_⟩ | ⟨g,cap,cur,rfl,_,hh,_⟩
 ·exact .inl rfl
 ·refine .inr ?_;rcases h2.2 with ⟨rfl,_⟩ | ⟨g',cap',cur',rfl,_,hh',_⟩
  ·simp [Value.ownBlock]
  ·intro e;have:g=g':=by simpa [Value.ownBlock] using e
   subst this;rw [hh] at hh';injection hh' with hh'
   injection hh' with _ ht
   exact hne ht
theorem ak.off {w:World} {base b:Nat} {v:Value} {l:List ByteArray} (h:ak w base v l) (hb:b<base):v.ownBlock≠some b:=fun e=>by have:=(h.lt b e).1;omega
theorem aG.off {w:World} {base b:Nat} {v:Value} {l:List Nat} (h:aG w base v l) (hb:b<base):v.ownBlock≠some b:=fun e=>by have:=(h.lt b e).1;omega
theorem ak.mono {w:World} {base b:Nat} {v:Value} {l:List ByteArray} (h:ak w base v l) (hb:b≤base):ak w b v l:=by
 refine ⟨h.1,?_⟩;rcases h.2 with h1 | ⟨g,cap,cur,e,h2,h3⟩
 ·exact .inl h1
 ·exact .inr ⟨g,cap,cur,e,Dl hb h2,h3⟩
theorem aG.mono {w:World} {base b:Nat} {v:Value} {l:List Nat} (h:aG w base v l) (hb:b≤base):aG w b v l:=by
 refine ⟨h.1,?_⟩;rcases h.2 with h1 | ⟨g,cap,cur,e,h2,h3⟩
 ·exact .inl h1
 ·exact .inr ⟨g,cap,cur,e,Dl hb h2,h3⟩
end
section
open Go.RowKit Go.Maps
theorem ie:Keyed Tryz.prog 9:=string_keyed Tryz.underlying9
theorem sZ (w:World):(zeroValue 3).run Tryz.prog w=.ok (.int .i64 0) w:=by kernel_rfl
theorem keyS {s:ByteArray} (h:s.size≤maxLen):keyOf Tryz.prog 9 (.string s)=some (keyL s):=Go.WideMaps.keyOf_string_mk Tryz.underlying9 h
def bd (w:World) (b n:Nat) (t:List ByteArray):Prop:=∃ D,NumM D t∧w.ownsMap Tryz.prog 9 (plainElem Tryz.prog 3) b n D
theorem yF (w:World):bd (w.alloc (.map #[] 0)) w.heap.size 0 []:=⟨_,xL,World.ownsMap_made _ _ _ _⟩
theorem bd.kept {w w':World} {b n:Nat} {t:List ByteArray} {row:Option Nat} (h:bd w b n t) (hg:w.grownBy w' row) (hne:some b≠row):bd w' b n t:=by
 obtain ⟨D,h1,h2⟩:=h;exact ⟨D,h1,h2.kept hg hne⟩
theorem bd.alloc {w:World} {b n:Nat} {t:List ByteArray} (h:bd w b n t) (o:Obj):bd (w.alloc o) b n t:=by
 obtain ⟨D,h1,h2⟩:=h;exact ⟨D,h1,h2.alloc o⟩
theorem bd.drew {w:World} {b n:Nat} {t:List ByteArray} (h:bd w b n t):bd w.drew b n t:=by
 obtain ⟨D,h1,h2⟩:=h;exact ⟨D,h1,h2.drew⟩
theorem bd.mono {w:World} {b n m:Nat} {t:List ByteArray} (h:bd w b n t) (hm:n≤m):bd w b m t:=by
 obtain ⟨D,h1,h2⟩:=h;exact ⟨D,h1,h2.mono hm⟩
theorem bd.lt {w:World} {b n:Nat} {t:List ByteArray} (h:bd w b n t):b<w.heap.size:=by
 obtain ⟨D,h1,h2⟩:=h;exact h2.lt
theorem bd.below {w w':World} {b n:Nat} {t:List ByteArray} (h:bd w b n t) (hb:Below w.heap.size w w'):bd w' b n t :=
 h.kept (row:=none) ⟨hb.os,hb.tape,hb.output,hb.size,fun k hk _=>hb.block k hk⟩ (by simp)
theorem bd.nodup {w:World} {b n:Nat} {t:List ByteArray} (h:bd w b n t):t.Nodup:=by
 obtain ⟨D,h1,h2⟩:=h;exact h1.nodup
section
variable {w:World} {ops:Array Oper} {rest:List Oper} {o:Oper} {a:Act} {Q:Exit→Act→World→Prop}
theorem CG (hg:o.guard=none) (m x:Operand) (hop:o.op=Op.lookup 229 m x true) (b n:Nat) (t:List ByteArray)
 (hm:a.eval m=.map (some b)) (hown:bd w b n t) (s:ByteArray) (hx:a.eval x=.string s) (hs:s.size≤maxLen) (j:Nat) (hj:t[j]? = some s)
 (hK:wpList Tryz.prog ops Q rest (a.put o.dst (.tuple #[.int .i64 j,.bool true])) w):wpList Tryz.prog ops Q (o::rest) a w:=by
 obtain ⟨D,h1,h2⟩:=hown;refine wpList_lookup_own_ok_int w hg m x _ hop 9 3 .i64 ie Tryz.underlying229 Tryz.underlying3 (sZ w) b n D hm h2 _ _ hx (keyS hs) ?_;intro c hc _;rw [h1.at' s j hj] at hc;obtain rfl:(j:Int)=c:=by simpa using hc
 rw [h1.there s (DB hj)];exact hK
theorem CE (hg:o.guard=none) (m x:Operand) (hop:o.op=Op.lookup 229 m x true) (b n:Nat) (t:List ByteArray)
 (hm:a.eval m=.map (some b)) (hown:bd w b n t) (s:ByteArray) (hx:a.eval x=.string s) (hs:s.size≤maxLen) (hj:s ∉ t)
 (hK:∀ c,wpList Tryz.prog ops Q rest (a.put o.dst (.tuple #[.int .i64 c,.bool false])) w):wpList Tryz.prog ops Q (o::rest) a w:=by
 obtain ⟨D,h1,h2⟩:=hown;refine wpList_lookup_own_ok_int w hg m x _ hop 9 3 .i64 ie Tryz.underlying229 Tryz.underlying3 (sZ w) b n D hm h2 _ _ hx (keyS hs) ?_;intro c hc _;rw [h1.none s hj];exact hK c
theorem CF (hg:o.guard=none) (m x v:Operand) (hop:o.op=Op.mapUpdate 229 m x v) (b n:Nat) (t:List ByteArray)
 (hm:a.eval m=.map (some b)) (hown:bd w b n t) (hn:n<maxLen) (s:ByteArray) (hx:a.eval x=.string s) (hv:a.eval v=.int .i64 (t.length:Nat)) (hs:s.size≤maxLen) (hj:s ∉ t) (ht:t.length≤maxLen)
 (hK:∀ w',bd w' b (n+1) (t++[s])→w.grownBy w' (some b)→wpList Tryz.prog ops Q rest (a.put o.dst undef) w'):wpList Tryz.prog ops Q (o::rest) a w:=by
 obtain ⟨D,h1,h2⟩:=hown;refine wpList_mapUpdate_own w hg m x v _ hop 9 3 ie Tryz.underlying229 _ b n D hm h2 hn _ _ _ hx hv (keyS hs) (.lit (.int .i64 t.length)) [] (plainElem_int Tryz.underlying3 (WalkArith.wf_i64 (by unfold maxLen at ht;omega))) ?_;intro w' h3 h4;exact hK w' ⟨_,h1.put hj,h3⟩ h4
end
end
section
open Go.RowKit
theorem AU (w:World) {ops:Array Oper} {o:Oper} {a:Act} {K:Act→World→Prop} {Q:Exit→Act→World→Prop} {E:Prop} (hgd:o.guard=none) (s x:Operand)
 (ho:o.op=.call { callee:=.builtin .append,args:=#[s,x],argTypes:=#[86,86] })
 (base:Nat) (v:Value) (l:List ByteArray) (hs:a.eval s=v) (hown:ak w base v l)
 (ad:Addr) (c:Nat) (hx:a.eval x=.slice (some ad) 1 c) (d:ByteArray) (hcell:w.cell? (ad.add 0)=some (.string d))
 (hlen:l.length+1≤8796093022208) (hbase:base≤w.heap.size)
 (h:∀ g cap w',ak w' base (.slice (some ⟨g,0,none⟩) (l.length+1) cap) (l++[d])→w.grownBy w' v.ownBlock→K (a.put o.dst (.slice (some ⟨g,0,none⟩) (l.length+1) cap)) w') :
 if Region.wanted o (yielded ops a.tmps)=true then Oper.wp Tryz.prog o a w K Q else E:=by
 obtain ⟨i0,hi,hz0,hz1,hz2⟩:=DU mr;refine step_append_lies w hgd s x 86 ho base 9 i0 (.string ⟨#[]⟩) 1 16 Tryz.underlying86 hi hz0 hz1 hz2 rfl (by decide) v l.length (l.map Value.string) hs hown ad 1 c [.string d] hx rfl ?_ ?_ (by decide) (by unfold maxLen;omega) (by omega) hbase _ rfl ?_
 ·intro j u hj
  match j,hj with
  | 0,hj=>simp at hj;subst hj;exact hcell
 ·intro u hu;simp at hu;subst hu;rfl
 ·intro g cap w' h1 h2 _ _;refine h g cap w' ?_ h2;unfold ak;rw [Df,En];exact h1
end
