import Derived.Shelf.Strings.Builder1
import Derived.Shelf.Small.Bits
import Derived.Shelf.Small.Strs
import Derived.Shelf.Small.Wraps
import Derived.Shelf.Strings.BuilderF
import Derived.Shelf.Strings.BuilderK
import Derived.Shelf.Strconv.Itoa0
import Derived.Shelf.LaysM
import Derived.Shelf.Strconv.Clone
import Derived.Shelf.Strings.Prefix
import Derived.Shelf.Strings.BuilderCap
import Derived.Shelf.Slices.Equal
import Derived.Ground.Names2Prog
import Derived.Shelf.Slices.ReverseS
import Derived.Shelf.Slices.Clone
import Derived.Shelf.Slices.SearchI
import Derived.Shelf.Slices.Cells
import Derived.Shelf.Slices.Empties2
import Derived.Test.YtdhognaoejiglaaGreatDoorProg
import Derived.WalkKit
import Derived.Handy
import Derived.Below
import Derived.Deep.RegionHeld
import Derived.Maps.OwnSet
import Derived.Maps.OwnOps
import Derived.KernelRfl
import Derived.Deep.AppendLies
import Derived.Laws.OwnMore
import Derived.Shelf.SlSortCmp.WholeK
import Derived.Ground.SlsfProg
namespace Go.Proofs
open Go.Shelf
def Tryz.lays169_ren:Go.Shelf.Ren:=⟨fun | 169=>93 | n=>n,fun | 70=>143 | 9=>9 | 0=>0 | 72=>145 | 37=>142 | 127=>178 | 3=>3 | 5=>5 | n=>n,fun | n=>n⟩
theorem Tryz.lays169:Go.Proofs.Lays.n169 Tryz.prog Tryz.lays169_ren:={
 mixed:=by kernel_rfl
 f169:=Tryz.func93.trans (congrArg some (by kernel_rfl))
 t0:=Tryz.underlying0
 a0:=Tryz.isAgg0
 z0:=Tryz.sizeOf0
 v0:=Tryz.zeroValue0
 t3:=Tryz.underlying3
 a3:=Tryz.isAgg3
 z3:=Tryz.sizeOf3
 v3:=Tryz.zeroValue3
 t9:=Tryz.underlying9
 a9:=Tryz.isAgg9
 z9:=Tryz.sizeOf9
 v9:=Tryz.zeroValue9
 t37:=Tryz.underlying142
 a37:=Tryz.isAgg142
 z37:=Tryz.sizeOf142
 v37:=Tryz.zeroValue142
 t70:=Tryz.underlying143
 a70:=Tryz.isAgg143
 z70:=Tryz.sizeOf143
 v70:=Tryz.zeroValue143
 t72:=Tryz.underlying145
 a72:=Tryz.isAgg145
 z72:=Tryz.sizeOf145
 v72:=Tryz.zeroValue145
 t127:=Tryz.underlying178
 a127:=Tryz.isAgg178
 z127:=Tryz.sizeOf178
 v127:=Tryz.zeroValue178 }
theorem Tryz.Builder_Extra_169:Builder.Extra Tryz.prog Tryz.lays169_ren:={
 sizeBuilder:=by kernel_rfl
 liesBuilder:=by kernel_rfl
 t5:=Tryz.underlying5
 a5:=Tryz.isAgg5
 z5:=Tryz.sizeOf5
 v5:=Tryz.zeroValue5
 infoByte:=by kernel_rfl
 cellsByte:=by kernel_rfl
 sizeByte:=by kernel_rfl
 neB5:=by decide }
open Go.RowKit in
theorem Tryz.Builder_String_any (B b:Nat) (l:List UInt8) (w:World) (h:Lib.IsBuilder 145 5 B b (Lib.byteCells l) w) (hBw:B≤w.heap.size) :
 Calls Tryz.prog 93 #[.pointer (some ⟨b,0,none⟩)] w fun e w'=>e=.returned (.string ⟨l.toArray⟩)∧Below B w w':=Any.Builder_String_any Tryz.lays169 Tryz.Builder_Extra_169 B b l w h hBw
def Tryz.lays125_ren:Go.Shelf.Ren:=⟨fun | 125=>105 | 128=>135 | 129=>136 | n=>n,fun | 46=>75 | 3=>3 | 51=>190 | 53=>177 | 4=>4 | 5=>5 | 9=>9 | n=>n,fun | n=>n⟩
theorem Tryz.lays125:Go.Proofs.Lays.n125 Tryz.prog Tryz.lays125_ren:={
 mixed:=by kernel_rfl
 f125:=Tryz.func105.trans (congrArg some (by kernel_rfl))
 f128:=Tryz.func135.trans (congrArg some (by kernel_rfl))
 f129:=Tryz.func136.trans (congrArg some (by kernel_rfl))
 t3:=Tryz.underlying3
 a3:=Tryz.isAgg3
 z3:=Tryz.sizeOf3
 v3:=Tryz.zeroValue3
 t4:=Tryz.underlying4
 a4:=Tryz.isAgg4
 z4:=Tryz.sizeOf4
 v4:=Tryz.zeroValue4
 t5:=Tryz.underlying5
 a5:=Tryz.isAgg5
 z5:=Tryz.sizeOf5
 v5:=Tryz.zeroValue5
 t9:=Tryz.underlying9
 a9:=Tryz.isAgg9
 z9:=Tryz.sizeOf9
 v9:=Tryz.zeroValue9
 t46:=Tryz.underlying75
 a46:=Tryz.isAgg75
 z46:=Tryz.sizeOf75
 v46:=Tryz.zeroValue75
 t51:=Tryz.underlying190
 a51:=Tryz.isAgg190
 z51:=Tryz.sizeOf190
 v51:=Tryz.zeroValue190
 t53:=Tryz.underlying177
 a53:=Tryz.isAgg177
 z53:=Tryz.sizeOf177
 v53:=Tryz.zeroValue177 }
theorem Tryz.bits_Len (x:Int) (w:World) (h0:0≤x) (h1:x≤18446744073709551615) :
 Calls Tryz.prog 105 #[.int .u64 x] w fun e w'=>e=.returned (.int .i64 (Lib.bitLen x.toNat))∧w'=w:=Any.bits_Len Tryz.lays125 x w h0 h1
def Tryz.lays106_ren:Go.Shelf.Ren:=⟨fun | 106=>80 | 213=>106 | 265=>137 | n=>n,fun | 9=>9 | 3=>3 | n=>n,fun | n=>n⟩
theorem Tryz.lays106:Go.Proofs.Lays.n106 Tryz.prog Tryz.lays106_ren:={
 mixed:=by kernel_rfl
 f106:=Tryz.func80.trans (congrArg some (by kernel_rfl))
 f213:=Tryz.func106.trans (congrArg some (by kernel_rfl))
 f265:=Tryz.func137.trans (congrArg some (by kernel_rfl))
 t3:=Tryz.underlying3
 a3:=Tryz.isAgg3
 z3:=Tryz.sizeOf3
 v3:=Tryz.zeroValue3
 t9:=Tryz.underlying9
 a9:=Tryz.isAgg9
 z9:=Tryz.sizeOf9
 v9:=Tryz.zeroValue9 }
open Go.RowKit in
theorem Tryz.strings_Compare (a b:ByteArray) (w:World) :
 Calls Tryz.prog 80 #[.string a,.string b] w fun e w'=>e=.returned (.int .i64 (Lib.compareBytes a.data.toList b.data.toList))∧w'=w:=Any.strings_Compare Tryz.lays106 a b w
def Tryz.laysM316_ren:Go.Shelf.Ren:=⟨fun | 316=>101 | n=>n,fun | 9=>9 | 3=>3 | 4=>4 | 37=>142 | 0=>0 | 127=>178 | 5=>5 | n=>n,fun | n=>n⟩
theorem Tryz.laysM316:Go.Proofs.LaysM.n316 Tryz.prog Tryz.laysM316_ren:={
 mixed:=by kernel_rfl
 f316:=Tryz.func101.trans (congrArg some (by kernel_rfl))
 t0:=Tryz.underlying0
 a0:=Tryz.isAgg0
 z0:=Tryz.sizeOf0
 v0:=Tryz.zeroValue0
 t3:=Tryz.underlying3
 a3:=Tryz.isAgg3
 z3:=Tryz.sizeOf3
 v3:=Tryz.zeroValue3
 t4:=Tryz.underlying4
 a4:=Tryz.isAgg4
 z4:=Tryz.sizeOf4
 v4:=Tryz.zeroValue4
 t9:=Tryz.underlying9
 a9:=Tryz.isAgg9
 z9:=Tryz.sizeOf9
 v9:=Tryz.zeroValue9
 t37:=Tryz.underlying142
 a37:=Tryz.isAgg142
 z37:=Tryz.sizeOf142
 v37:=Tryz.zeroValue142
 t127:=Tryz.underlying178
 a127:=Tryz.isAgg178
 z127:=Tryz.sizeOf178
 v127:=Tryz.zeroValue178
 t5:=Tryz.underlying5
 a5:=Tryz.isAgg5
 z5:=Tryz.sizeOf5
 v5:=Tryz.zeroValue5
 i0:=by kernel_rfl
 i3:=by kernel_rfl
 i4:=by kernel_rfl
 i5:=by kernel_rfl
 i9:=by kernel_rfl
 i37:=by kernel_rfl
 i127:=by kernel_rfl }
open Go.RowKit in
theorem Tryz.stringslite_Clone (s:ByteArray) (w:World) (hlim:s.size≤281474976710656) :
 Calls Tryz.prog 101 #[.string s] w fun e w'=>e=.returned (.string s)∧Below w.heap.size w w':=Any.stringslite_Clone Tryz.laysM316 s w hlim
def Tryz.lays99_ren:Go.Shelf.Ren:=⟨fun | 99=>153 | 206=>181 | n=>n,fun | 9=>9 | 4=>4 | 3=>3 | n=>n,fun | n=>n⟩
theorem Tryz.lays99:Go.Proofs.Lays.n99 Tryz.prog Tryz.lays99_ren:={
 mixed:=by kernel_rfl
 f99:=Tryz.func153.trans (congrArg some (by kernel_rfl))
 f206:=Tryz.func181.trans (congrArg some (by kernel_rfl))
 t3:=Tryz.underlying3
 a3:=Tryz.isAgg3
 z3:=Tryz.sizeOf3
 v3:=Tryz.zeroValue3
 t4:=Tryz.underlying4
 a4:=Tryz.isAgg4
 z4:=Tryz.sizeOf4
 v4:=Tryz.zeroValue4
 t9:=Tryz.underlying9
 a9:=Tryz.isAgg9
 z9:=Tryz.sizeOf9
 v9:=Tryz.zeroValue9 }
open Go.RowKit Go.Lib in
theorem Tryz.strings_HasPrefix (s p:ByteArray) (w:World) :
 Calls Tryz.prog 153 #[.string s,.string p] w fun e w'=>e=.returned (.bool (Lib.hasPrefix s.data.toList p.data.toList))∧w'=w:=Any.strings_HasPrefix Tryz.lays99 s p w
def Tryz.laysNm216_ren:Go.Shelf.Ren:=⟨fun | 16=>103 | n=>n,fun | 24=>98 | 9=>9 | 4=>4 | n=>n,fun | n=>n⟩
theorem Tryz.laysNm216:Go.Proofs.Lays2.n16 Tryz.prog Tryz.laysNm216_ren:={
 mixed:=by kernel_rfl
 f16:=Tryz.func103.trans (congrArg some (by kernel_rfl))
 t4:=Tryz.underlying4
 a4:=Tryz.isAgg4
 z4:=Tryz.sizeOf4
 v4:=Tryz.zeroValue4
 t9:=Tryz.underlying9
 a9:=Tryz.isAgg9
 z9:=Tryz.sizeOf9
 v9:=Tryz.zeroValue9
 t24:=Tryz.underlying98
 a24:=Tryz.isAgg98
 z24:=Tryz.sizeOf98
 v24:=Tryz.zeroValue98
 i9:=by kernel_rfl }
open Go.RowKit Go.Lib in
theorem Tryz.slices_Clone_string (b off n c:Nat) (zs:List ByteArray) (w:World) (hz:n≤zs.length) (hbig:n * 16≤140737488355328) (hc:∀ j,j<zs.length→w.cell? ⟨b,off+j,none⟩=some (.string (zs.getD j ByteArray.empty))) :
 Calls Tryz.prog 103 #[.slice (some ⟨b,off,none⟩) n c] w fun e w'=>∃ v',e=.returned v'∧w'.ownsRow w.heap.size 9 1 v' n ((zs.take n).map (Value.string))∧v'≠.slice none 0 0∧Below w.heap.size w w':=Any.slices_Clone_string Tryz.laysNm216 b off n c zs w hz hbig hc
open Go.RowKit Go.Lib in
theorem Tryz.slices_Clone_string_nil (n c:Nat) (w:World) :
 Calls Tryz.prog 103 #[.slice none n c] w fun e w'=>e=.returned (.slice none 0 0)∧w'=w:=Any.slices_Clone_string_nil Tryz.laysNm216 n c w
open Go.RowKit Go.Lib in
theorem Tryz.slices_Clone_string_zero (a:Addr) (c:Nat) (w:World) :
 Calls Tryz.prog 103 #[.slice (some a) 0 c] w fun e w'=>∃ v',e=.returned v'∧w'.ownsRow w.heap.size 9 1 v' 0 []∧v'≠.slice none 0 0∧Below w.heap.size w w':=Any.slices_Clone_string_zero Tryz.laysNm216 a c w
end Go.Proofs
namespace Go.Proofs.YtdhognaoejiglaaGreatDoor
open Lib (hid)
set_option maxRecDepth 100000
set_option maxHeartbeats 8000000
section
theorem toL (s:ByteArray):s.toList=s.data.toList:=ByteArray.toList_eq s
theorem cX {a b:ByteArray} (h:a.data.toList=b.data.toList):a=b:=by
 cases a;cases b;simp_all
end
section
open Go.RowKit
def idRW (x:Int×Int):Bool:=decide (1≤x.1∧x.1≤1099511627776∧0≤x.2∧x.2≤200)
theorem rN (x1 x2:Int) (b:Bool) (w:World) (hb:idRW (x1,x2)=b) :
 Calls Tryz.prog 70 #[.agg #[.int .i64 x1,.int .i64 x2]] w fun e w'=>e=.returned (.bool b)∧Below w.heap.size w w':=by
 subst hb;unfold idRW;by_cases h1:1≤x1
 ·by_cases h2:x1≤1099511627776
  ·by_cases h3:0≤x2
   ·by_cases h4:x2≤200
    ·rw [decide_eq_true (show 1≤(x1,x2).1∧(x1,x2).1≤1099511627776∧0≤(x1,x2).2∧(x1,x2).2≤200 from ⟨h1,h2,h3,h4⟩)];go_enter Tryz.func70,Tryz.ntmps70
     go_wp2;go_ret;exact ⟨rfl,(Below.refl _ _).alloc (Nat.le_refl _) _⟩
    ·rw [decide_eq_false (show ¬ (1≤(x1,x2).1∧(x1,x2).1≤1099511627776∧0≤(x1,x2).2∧(x1,x2).2≤200) from fun h=>h4 h.2.2.2)];have d:decide (x2≤200)=false:=decide_eq_false h4;go_enter Tryz.func70,Tryz.ntmps70
     go_wp2;go_ret;exact ⟨by first | rfl | (show Ending.returned (Value.bool (decide _))=_;rw [d]),(Below.refl _ _).alloc (Nat.le_refl _) _⟩
   ·rw [decide_eq_false (show ¬ (1≤(x1,x2).1∧(x1,x2).1≤1099511627776∧0≤(x1,x2).2∧(x1,x2).2≤200) from fun h=>h3 h.2.2.1)];have d:decide (0≤x2)=false:=decide_eq_false h3;go_enter Tryz.func70,Tryz.ntmps70
    go_wp2;go_ret;exact ⟨by first | rfl | simp,(Below.refl _ _).alloc (Nat.le_refl _) _⟩
  ·rw [decide_eq_false (show ¬ (1≤(x1,x2).1∧(x1,x2).1≤1099511627776∧0≤(x1,x2).2∧(x1,x2).2≤200) from fun h=>h2 h.2.1)];have d:decide (x1≤1099511627776)=false:=decide_eq_false h2;go_enter Tryz.func70,Tryz.ntmps70
   go_wp2;go_ret;exact ⟨by first | rfl | simp,(Below.refl _ _).alloc (Nat.le_refl _) _⟩
 ·rw [decide_eq_false (show ¬ (1≤(x1,x2).1∧(x1,x2).1≤1099511627776∧0≤(x1,x2).2∧(x1,x2).2≤200) from fun h=>h1 h.1)];have d:decide (1≤x1)=false:=decide_eq_false h1;go_enter Tryz.func70,Tryz.ntmps70
  go_wp2;go_ret;exact ⟨by first | rfl | simp,(Below.refl _ _).alloc (Nat.le_refl _) _⟩
end
section
open Go
section
variable {P:Program} {ops:Array Oper} {Q:Exit→Act→World→Prop} {md:Region.Mode} {S:World→Prop} {z:Nat}
def dP (P:Program) (md:Region.Mode) (ops:Array Oper) (Q:Exit→Act→World→Prop) (S:World→Prop) (z:Nat):Nat→Array Bool→Act→World→Prop
 | 0,L,a,w=>Region.ready md ops L=[]∧Q .normal a w
 | n+1,L,a,w=>(Region.ready md ops L=[]→Q .normal a w) ∧
  ∀ i∈Region.ready md ops L,wpOp P ops Q i (fun a' w'=>((L.setIfInBounds i true).getD z true=false→S w')∧dP P md ops Q S z n (L.setIfInBounds i true) a' w') a w
theorem vN:∀ (n:Nat) (L:Array Bool) (a:Act) (w:World),dP P md ops Q S z n L a w→wpAny P md ops Q n L a w
 | 0,_,_,_,h=>h
 | n+1,_,_,_,h=>⟨h.1,fun i hi=>wpOp_mono (fun a' w' h'=>vN n _ a' w' h'.2) (h.2 i hi)⟩
def jB (md:Region.Mode) (ops:Array Oper) (z i:Nat):Bool:=match ops[z]? with
 | some o=>o.after.any (fun e=>Region.binds md e && e.on == i)
 | none=>false
theorem FX {i:Nat} (h:jB md ops z i=true):∃ o,ops[z]? = some o∧∃ e∈o.after,Region.binds md e=true∧e.on=i:=by
 unfold jB at h;split at h
 ·rename_i o ho;obtain ⟨e,he,hb⟩:=Array.any_eq_true'.1 h;simp only [Bool.and_eq_true,beq_iff_eq] at hb
  exact ⟨o,ho,e,he,hb⟩
 ·cases h
theorem sG {i:Nat} {L:Array Bool} (hw:jB md ops z i=true) (hi:i∈Region.ready md ops L):z ∉ Region.ready md ops L:=fun hz=>by
 obtain ⟨o,ho,e,he,hb,rfl⟩:=FX hw;obtain ⟨_,o2,ho2,hall⟩:=mem_ready.1 hz;rw [ho] at ho2;cases ho2
 have h1:=hall e he hb;have h0:=(mem_ready.1 hi).1;rcases Nat.lt_or_ge e.on L.size with h' | h'
 ·simp [h'] at h0 h1;rw [h0] at h1;cases h1
 ·simp [Array.getElem?_eq_none h'] at h1
theorem Gb {i:Nat} {oi:Oper} {v:Value} (hi:ops[i]? = some oi) (hsel:∀ (j:Nat) (o:Oper) cs b,ops[j]? = some o→o.op≠.select cs b) (hw:jB md ops z i=true)
 (hQ:∀ c a w,Q (.panic c) (a.put oi.dst v) w→Q (.panic c) a w):∀ (n:Nat) (L:Array Bool) (a:Act) (w:World),
  (∀ j oj,ops[j]? = some oj→j≠i→L.getD j true=false→(∀ e∈oj.after,Region.binds md e=true→e.on≠i)→oi.apart ops oj=true) →
  i∈Region.ready md ops L→YieldsIf P ops S oi v a→S w→L.getD z true=false →
  dP P md ops Q S z n (L.setIfInBounds i true) (a.put oi.dst v) w→dP P md ops Q S z (n+1) L a w:=by
 intro n
 induction n with
 | zero =>
  intro L a w _ hr hy hS hz H;refine ⟨fun h=>(by rw [h] at hr;cases hr),fun j hj=>?_⟩;by_cases hji:j=i
  ·subst hji;exact hy.wpOp hi hS ⟨fun _=>hS,H⟩
  ·have:=ready_mono hj hji;rw [H.1] at this;cases this
 | succ n ih =>
  intro L a w hfree hr hy hS hz H;refine ⟨fun h=>(by rw [h] at hr;cases hr),fun j hj=>?_⟩;by_cases hji:j=i
  ·subst hji;exact hy.wpOp hi hS ⟨fun _=>hS,H⟩
  ·have h1:=H.2 j (ready_mono hj hji);have hjz:j≠z:=fun e=>sG hw hr (e ▸ hj)
   have hiz:i≠z:=fun e=>sG hw hr (e ▸ hr)
   obtain ⟨hjun,oj,hoj,hall⟩:=mem_ready.1 hj;have hnot:∀ e∈oj.after,Region.binds md e=true→e.on≠i:=fun e he hb heq=>by
    have h1:=hall e he hb;have h0:=(mem_ready.1 hr).1;rw [heq] at h1;rcases Nat.lt_or_ge i L.size with h' | h'
    ·simp [h'] at h0 h1;rw [h0] at h1;cases h1
    ·simp [Array.getElem?_eq_none h'] at h1
   have h2:=wpOp_putIf hoj (hfree j oj hoj hji hjun hnot) (fun cs b=>hsel i oi cs b hi) (fun cs b=>hsel j oj cs b hoj) hQ hy h1;have hfree':∀ k ok,ops[k]? = some ok→k≠i→(L.setIfInBounds j true).getD k true=false→(∀ e∈ok.after,Region.binds md e=true→e.on≠i)→oi.apart ops ok=true:=fun k ok hk hki hun hno=>by
    refine hfree k ok hk hki ?_ hno;by_cases hjk:j=k
    ·subst hjk;exact hjun
    ·rw [getD_set_ne true hjk] at hun;exact hun
   have hz1:(L.setIfInBounds j true).getD z true=false:=by rw [getD_set_ne true hjz];exact hz
   have hz2:((L.setIfInBounds i true).setIfInBounds j true).getD z true=false:=by rw [getD_set_ne true hjz,getD_set_ne true hiz];exact hz
   refine wpOp_mono (fun a' w' h3=>⟨fun _=>h3.2.1 hz2,ih (L.setIfInBounds j true) a' w' hfree' (ready_mono hr (Ne.symm hji)) h3.1 (h3.2.1 hz2) hz1 ?_⟩) h2;rw [Array.setIfInBounds_comm _ _ hji];exact h3.2.2
theorem ee {i:Nat} {oi:Oper} {v:Value} {n:Nat} {L:Array Bool} {a:Act} {w:World} (hi:ops[i]? = some oi) (hs:Region.noSelect ops=true) (hf:Region.free md ops L i=true)
 (hr:((Region.ready md ops L).contains i && jB md ops z i && !(L.getD z true))=true) (hQ:∀ c a w,Q (.panic c) (a.put oi.dst v) w→Q (.panic c) a w) (hy:YieldsIf P ops S oi v a) (hS:S w)
 (h:dP P md ops Q S z n (L.setIfInBounds i true) (a.put oi.dst v) w):dP P md ops Q S z (n+1) L a w:=by
 simp only [Bool.and_eq_true,Bool.not_eq_true'] at hr
 exact Gb hi (Region.noSelect_spec hs) hr.1.2 hQ n L a w (Region.free_spec hi hf) (by simpa using hr.1.1) hy hS hr.2 h
def bU (P:Program) (md:Region.Mode) (ops:Array Oper) (Q:Exit→Act→World→Prop) (S:World→Prop) (z n:Nat) (L:Array Bool) (a:Act) (w:World) (rs:List Nat):Prop :=
 ∀ i∈rs,wpOp P ops Q i (fun a' w'=>((L.setIfInBounds i true).getD z true=false→S w')∧dP P md ops Q S z n (L.setIfInBounds i true) a' w') a w
theorem bU.nil {n:Nat} {L:Array Bool} {a:Act} {w:World}:bU P md ops Q S z n L a w []:=fun _ h=>by cases h
theorem bU.cons {n:Nat} {L:Array Bool} {a:Act} {w:World} {i:Nat} {o:Oper} {rs:List Nat} (ho:ops[i]? = some o)
 (h:∀ K':Act→World→Prop,Shut (∀ a w,S w→(S w→dP P md ops Q S z n (L.setIfInBounds i true) a w)→K' a w)→if Region.wanted o (yielded ops a.tmps)=true then Oper.wp P o a w K' Q else K' (a.put o.dst undef) w)
 (hs:bU P md ops Q S z n L a w rs):bU P md ops Q S z n L a w (i::rs):=fun j hj=>by
 rcases List.mem_cons.1 hj with rfl | hj
 ·exact wpOp_step ho (fun K' hK=>h K' (fun a w hS hW=>hK a w ⟨fun _=>hS,hW hS⟩))
 ·exact hs j hj
theorem bU.last {n:Nat} {L:Array Bool} {a:Act} {w:World} {o:Oper} (ho:ops[z]? = some o) (hl:z<L.size)
 (h:∀ K':Act→World→Prop,Shut (∀ a w,dP P md ops Q S z n (L.setIfInBounds z true) a w→K' a w)→if Region.wanted o (yielded ops a.tmps)=true then Oper.wp P o a w K' Q else K' (a.put o.dst undef) w):bU P md ops Q S z n L a w [z]:=fun j hj=>by
 obtain rfl:=List.mem_singleton.1 hj;exact wpOp_step ho (fun K' hK=>h K' (fun a w hW=>hK a w ⟨fun e=>by simp [hl] at e,hW⟩))
theorem ij {rs:List Nat} {n:Nat} {L:Array Bool} {a:Act} {w:World} (hr:Region.ready md ops L=rs) (hne:rs≠[]) (h:bU P md ops Q S z n L a w rs):dP P md ops Q S z (n+1) L a w :=
 ⟨fun h0=>absurd (hr ▸ h0) hne,hr ▸ h⟩
theorem Ga {L:Array Bool} {a:Act} {w:World} (hr:Region.ready md ops L=[]) (h:Q .normal a w):∀ n,dP P md ops Q S z n L a w
 | 0=>⟨hr,h⟩
 | _+1=>⟨fun _=>h,by rw [hr];simp⟩
theorem Gn {id:Nat} {a:Act} {w:World} (z:Nat) (hm:P.follows .mixedOrders=true) (hS:S w.drew) (h:S w.drew→dP P .any ops Q S z ops.size (Array.replicate ops.size false) a w.drew):(Code.region id ops true).wp P Q a w :=
 wp_region_any hm (vN _ _ _ _ (h hS))
end
end
section
instance memB (s : ByteArray) (t : List ByteArray) : Decidable (s ∈ t) := decidable_of_iff (t.any (fun x => decide (x = s)) = true) (by simp)
def idxB (t:List ByteArray) (s:ByteArray):Nat:=t.findIdx (fun x=>decide (x=s))
def addK (t:List ByteArray) (s:ByteArray):List ByteArray:=if s∈t then t else t++[s]
def tabK:List ByteArray→List ByteArray→List ByteArray
 | t,[]=>t
 | t,s::r=>tabK (addK t s) r
def atK:List ByteArray→List ByteArray→List Nat
 | _,[]=>[]
 | t,s::r=>idxB t s::atK (addK t s) r
theorem rP {t:List ByteArray} {s:ByteArray} (h:s∈t):idxB t s<t.length:=by
 unfold idxB;exact List.findIdx_lt_length_of_exists ⟨s,h,by simp⟩
theorem kN {t:List ByteArray} {s:ByteArray} (h:s∈t):t[idxB t s]? = some s:=by
 have h1:=rP h;have h2:=List.findIdx_getElem (xs:=t) (p:=fun x=>decide (x=s)) (w:=h1);rw [List.getElem?_eq_getElem h1];simp only [decide_eq_true_eq] at h2
 exact congrArg some h2
theorem iV {t:List ByteArray} {s:ByteArray} (h:s ∉ t):idxB t s=t.length:=by
 unfold idxB;rw [List.findIdx_eq_length];intro x hx;simp only [decide_eq_false_iff_not]
 rintro rfl;exact h hx
theorem nD {t:List ByteArray} (hn:t.Nodup) {j:Nat} {s:ByteArray} (h:t[j]? = some s):idxB t s=j:=by
 have hm:s∈t:=List.mem_of_getElem? h;have h1:=kN hm;obtain ⟨hj,ej⟩:=List.getElem?_eq_some_iff.1 h;obtain ⟨hi,ei⟩:=List.getElem?_eq_some_iff.1 h1;exact (List.getElem_inj hn).1 (ei.trans ej.symm)
theorem gE {t:List ByteArray} {s:ByteArray} (h:s∈t):addK t s=t:=if_pos h
theorem fU {t:List ByteArray} {s:ByteArray} (h:s ∉ t):addK t s=t++[s]:=if_neg h
theorem wW (t:List ByteArray) (s:ByteArray):s∈addK t s:=by
 unfold addK;split
 ·assumption
 ·simp
theorem pN {t:List ByteArray} {s:ByteArray} (h:t.Nodup):(addK t s).Nodup:=by
 unfold addK;split
 ·exact h
 ·rename_i hs;rw [List.nodup_append];exact ⟨h,by simp,fun a ha b hb=>by simp at hb;subst hb;rintro rfl;exact hs ha⟩
theorem wX (t:List ByteArray) (s:ByteArray):t <+: addK t s:=by
 unfold addK;split
 ·exact List.prefix_rfl
 ·exact List.prefix_append _ _
theorem lU (r:List ByteArray):∀ t,t <+: tabK t r:=by
 induction r with
 | nil=>intro t;exact List.prefix_rfl
 | cons s r ih=>intro t;exact (wX t s).trans (ih _)
theorem ud (r:List ByteArray):∀ t,t.Nodup→(tabK t r).Nodup:=by
 induction r with
 | nil=>intro t h;exact h
 | cons s r ih=>intro t h;exact ih _ (pN h)
theorem Eq (r:List ByteArray):∀ t,(tabK t r).length≤t.length+r.length:=by
 induction r with
 | nil=>intro t;simp [tabK]
 | cons s r ih =>
  intro t;have:=ih (addK t s);have h2:(addK t s).length≤t.length+1:=by unfold addK;split <;> simp
  simp [tabK];omega
theorem ue (r:List ByteArray):∀ t x,x∈tabK t r→x∈t∨x∈r:=by
 induction r with
 | nil=>intro t x h;exact .inl h
 | cons s r ih =>
  intro t x h;rcases ih _ _ h with h1 | h1
  ·unfold addK at h1;split at h1
   ·exact .inl h1
   ·rcases List.mem_append.1 h1 with h2 | h2
    ·exact .inl h2
    ·simp at h2;subst h2;exact .inr (by simp)
  ·exact .inr (List.mem_cons_of_mem _ h1)
theorem Eo (r:List ByteArray):∀ t x,x∈r→x∈tabK t r:=by
 induction r with
 | nil=>intro t x h;cases h
 | cons s r ih =>
  intro t x h;rcases List.mem_cons.1 h with rfl | h
  ·exact (lU r (addK t x)).subset (wW t x)
  ·exact ih _ _ h
theorem Ep {l t:List ByteArray} {k:Nat} {s:ByteArray} (h:l[k]? = some s) (hs:s∈t):tabK t (l.drop k)=tabK t (l.drop (k+1)):=by
 obtain ⟨hk,e⟩:=List.getElem?_eq_some_iff.1 h;rw [List.drop_eq_getElem_cons hk,e,tabK,gE hs]
theorem Er {l t:List ByteArray} {k:Nat} {s:ByteArray} (h:l[k]? = some s) (hs:s ∉ t):tabK t (l.drop k)=tabK (t++[s]) (l.drop (k+1)):=by
 obtain ⟨hk,e⟩:=List.getElem?_eq_some_iff.1 h;rw [List.drop_eq_getElem_cons hk,e,tabK,fU hs]
theorem xp {l t:List ByteArray} {k:Nat} {s:ByteArray} (h:l[k]? = some s) (hs:s∈t):atK t (l.drop k)=idxB t s::atK t (l.drop (k+1)):=by
 obtain ⟨hk,e⟩:=List.getElem?_eq_some_iff.1 h;rw [List.drop_eq_getElem_cons hk,e,atK,gE hs]
theorem xq {l t:List ByteArray} {k:Nat} {s:ByteArray} (h:l[k]? = some s) (hs:s ∉ t):atK t (l.drop k)=t.length::atK (t++[s]) (l.drop (k+1)):=by
 obtain ⟨hk,e⟩:=List.getElem?_eq_some_iff.1 h;rw [List.drop_eq_getElem_cons hk,e,atK,fU hs,iV hs]
def dupG:List ByteArray→List ByteArray→Nat→Option Nat
 | _,[],_=>none
 | seen,s::r,i=>if s∈seen then some i else dupG (seen++[s]) r (i+1)
def ordG (K:Nat):Nat→List Int→Nat→Nat×Int
 | told,[],_=>if told<K then (8,-1) else (0,-1)
 | told,n::r,i=>if n<0∨(K:Int)≤n then (2,(i:Int)) else if (told:Int)<n then (13,(i:Int)) else ordG K (if n=told then told+1 else told) r (i+1)
def outG (T:List ByteArray) (l:List Int):List ByteArray:=l.map fun n=>T.getD n.toNat ByteArray.empty
def bC (T:List ByteArray) (l:List Int):List ByteArray×Nat×Int :=
 match dupG [] T 0 with
 | some i=>([],9,(i:Int))
 | none=>if (ordG T.length 0 l 0).1=0 then (outG T l,0,-1) else ([],ordG T.length 0 l 0)
theorem qK (r:List ByteArray):∀ seen i,seen.Nodup→(dupG seen r i=none↔(seen++r).Nodup):=by
 induction r with
 | nil=>intro seen i h;simp [dupG,h]
 | cons s r ih =>
  intro seen i h;unfold dupG;split
  ·rename_i hs;simp only [reduceCtorEq,false_iff]
   intro hc;rw [List.nodup_append] at hc;exact hc.2.2 s hs s (by simp) rfl
  ·rename_i hs;have hn:(seen++[s]).Nodup:=by have:=pN (s:=s) h;rwa [fU hs] at this
   rw [ih _ _ hn];simp
theorem Co (K:Nat) (r:List ByteArray):∀ t i,(tabK t r).length=K→ordG K t.length ((atK t r).map Int.ofNat) i=(0,-1):=by
 induction r with
 | nil=>intro t i h;simp only [atK,List.map_nil,ordG];rw [if_neg (by simp [tabK] at h;omega)]
 | cons s r ih =>
  intro t i h;have hp:(addK t s).length≤K:=by rw [←h];exact (lU r (addK t s)).length_le
  rw [atK,List.map_cons,ordG];by_cases hs:s∈t
  ·have h1:=rP hs;have e:=gE hs;rw [e] at hp ⊢;have hofN:Int.ofNat (idxB t s)=((idxB t s:Nat):Int):=rfl;rw [hofN,if_neg (by omega),if_neg (by omega),if_neg (by omega)];have:=ih t (i+1) (by rw [←h,tabK,e]);exact this
  ·have h1:=iV hs;have e:=fU hs;rw [e] at hp ⊢;have hofN:Int.ofNat (idxB t s)=((t.length:Nat):Int):=by rw [h1];rfl
   simp only [List.length_append,List.length_singleton] at hp
   rw [hofN,if_neg (by omega),if_neg (by omega),if_pos rfl];have:=ih (t++[s]) (i+1) (by rw [←h,tabK,e])
   simpa using this
theorem CA (r:List ByteArray):∀ t,outG (tabK t r) ((atK t r).map Int.ofNat)=r:=by
 induction r with
 | nil=>intro t;rfl
 | cons s r ih =>
  intro t;have hh:=ih (addK t s);unfold outG at hh ⊢;rw [atK,List.map_cons,List.map_cons,tabK]
  congr 1
  have hx:(addK t s)[idxB t s]? = some s:=by
   by_cases hs:s∈t
   ·rw [gE hs];exact kN hs
   ·rw [fU hs,iV hs];simp
  have hp:=lU r (addK t s);obtain ⟨z,hz⟩:=hp;have hlt:idxB t s<(addK t s).length:=(List.getElem?_eq_some_iff.1 hx).1;have:(tabK (addK t s) r)[idxB t s]? = some s:=by rw [←hz,List.getElem?_append_left hlt];exact hx
  simp [this]
theorem Bd (l:List ByteArray):bC (tabK [] l) ((atK [] l).map Int.ofNat)=(l,0,-1):=by
 unfold bC;have h1:dupG [] (tabK [] l) 0=none:=(qK _ _ _ (by simp)).2 (by simpa using ud l [] (by simp));have h2:=Co (tabK [] l).length l [] 0 rfl;simp only [List.length_nil] at h2
 rw [h1,h2];simp [CA]
theorem Cd (T:List ByteArray) (hn:T.Nodup) (l:List Int):∀ told i,told≤T.length→(ordG T.length told l i).1=0 →
 tabK (T.take told) (outG T l)=T∧(atK (T.take told) (outG T l)).map Int.ofNat=l:=by
 induction l with
 | nil =>
  intro told i ht h;unfold ordG at h;split at h
  ·simp at h
  ·refine ⟨?_,rfl⟩;simp only [outG,List.map_nil,tabK]
   exact List.take_of_length_le (by omega)
 | cons n r ih =>
  intro told i ht h;unfold ordG at h;split at h
  ·simp at h
  ·split at h
   ·simp at h
   ·rename_i h1 h2;obtain ⟨j,rfl⟩:∃ j:Nat,n=j:=⟨n.toNat,by omega⟩;have hjl:j<T.length:=by omega
    have hout:outG T ((j:Int)::r)=T[j]::outG T r:=by simp [outG,hjl]
    have hat:T[j]? = some T[j]:=List.getElem?_eq_getElem hjl;rw [hout,tabK,atK,List.map_cons];by_cases hjt:j=told
    ·subst hjt;rw [if_pos rfl] at h;have hne:T[j] ∉ T.take j:=by
      intro hc;obtain ⟨m,hm⟩:=List.mem_iff_getElem?.1 hc;have hmj:m<j:=by have:=(List.getElem?_eq_some_iff.1 hm).1;simp at this;omega
      rw [List.getElem?_take_of_lt hmj] at hm;have e1:=nD hn hm;have e2:=nD hn hat;omega
     have e:addK (T.take j) T[j]=T.take (j+1):=by rw [fU hne,List.take_append_getElem hjl]
     have ei:idxB (T.take j) T[j]=j:=by rw [iV hne,List.length_take];omega
     rw [e,ei];obtain ⟨q1,q2⟩:=ih (j+1) (i+1) (by omega) h;exact ⟨q1,by rw [q2];rfl⟩
    ·rw [if_neg (by omega)] at h;have hjt2:j<told:=by omega
     have hm:(T.take told)[j]? = some T[j]:=by rw [List.getElem?_take_of_lt hjt2];exact hat
     have hin:T[j]∈T.take told:=List.mem_of_getElem? hm;have ei:idxB (T.take told) T[j]=j:=nD (hn.sublist (List.take_sublist _ _)) hm;rw [gE hin,ei];obtain ⟨q1,q2⟩:=ih told (i+1) ht h;exact ⟨q1,by rw [q2];rfl⟩
theorem Ba {T:List ByteArray} {l:List Int} (h:(bC T l).2.1=0):bC T l=(outG T l,0,-1)∧tabK [] (outG T l)=T∧(atK [] (outG T l)).map Int.ofNat=l:=by
 unfold bC at h ⊢;split at h
 ·simp at h
 ·rename_i hd;have hn:T.Nodup:=by simpa using (qK T [] 0 (by simp)).1 hd
  split at h
  ·rename_i ho;rw [if_pos ho];have:=Cd T hn l 0 0 (Nat.zero_le _) ho;simp only [List.take_zero] at this
   exact ⟨rfl,this.1,this.2⟩
  ·rename_i ho;exact absurd h ho
end
section
open Go.Maps
def keyL (s:ByteArray):Lit:=.string s.data.toList
theorem eF {a b:ByteArray} (h:keyL a=keyL b):a=b:=by
 unfold keyL at h;cases a;cases b
 simpa using h
theorem iZ (s:ByteArray):WideAt.IsKeyLit (keyL s):=trivial
structure NumM (D:DataW Unit) (t:List ByteArray):Prop where
 isMap:IsMap D
 nodup:t.Nodup
 there:∀ s,s∈t→has D (keyL s)=true
 none:∀ s,s ∉ t→has D (keyL s)=false
 at':∀ s (j:Nat),t[j]? = some s→D.atKey (keyL s) (.lit (.int .i64 0))=.lit (.int .i64 j)
theorem BG:NumM (.map []) []:=⟨isMap_empty,List.nodup_nil,fun _ h=>(by cases h),fun _ _=>rfl,fun _ _ h=>(by simp at h)⟩
theorem NumM.put {D:DataW Unit} {t:List ByteArray} (h:NumM D t) {s:ByteArray} (hs:s ∉ t):NumM (D.put (keyL s) (.lit (.int .i64 t.length))) (t++[s]):=by
 refine ⟨h.isMap.put _ _,?_,?_,?_,?_⟩
 ·rw [List.nodup_append];exact ⟨h.nodup,by simp,fun a ha b hb=>by simp at hb;subst hb;rintro rfl;exact hs ha⟩
 ·intro x hx;rcases List.mem_append.1 hx with hx | hx
  ·rw [has_put_other (fun e=>hs (by rw [←eF e];exact hx))];exact h.there x hx
  ·simp at hx;subst hx;exact has_put_same h.isMap (iZ _) _
 ·intro x hx;have h1:x ∉ t:=fun h=>hx (List.mem_append_left _ h)
  have h2:x≠s:=fun e=>hx (by rw [e];simp)
  rw [has_put_other (fun e=>h2 (eF e))];exact h.none x h1
 ·intro x j hj;by_cases hlt:j<t.length
  ·rw [List.getElem?_append_left hlt] at hj;have hx:x∈t:=List.mem_of_getElem? hj;rw [atKey_put_other (fun e=>hs (by rw [←eF e];exact hx))];exact h.at' x j hj
  ·rw [List.getElem?_append_right (by omega)] at hj;have hj0:j-t.length=0:=by have:=(List.getElem?_eq_some_iff.1 hj).1;simpa using this
   rw [hj0] at hj;simp at hj
   subst hj;rw [atKey_put_same h.isMap (iZ _)];rw [show j=t.length by omega]
structure SetM (D:DataW Unit) (t:List ByteArray):Prop where
 isMap:IsMap D
 there:∀ s,s∈t→D.atKey (keyL s) (.lit (.bool false))=.lit (.bool true)
 none:∀ s,s ∉ t→D.atKey (keyL s) (.lit (.bool false))=.lit (.bool false)
theorem DN:SetM (.map []) []:=⟨isMap_empty,fun _ h=>(by cases h),fun _ _=>rfl⟩
theorem SetM.put {D:DataW Unit} {t:List ByteArray} (h:SetM D t) (s:ByteArray):SetM (D.put (keyL s) (.lit (.bool true))) (t++[s]):=by
 refine ⟨h.isMap.put _ _,?_,?_⟩
 ·intro x hx;by_cases e:x=s
  ·subst e;rw [atKey_put_same h.isMap (iZ _)]
  ·rw [atKey_put_other (fun h=>e (eF h))];rcases List.mem_append.1 hx with hx | hx
   ·exact h.there x hx
   ·simp at hx;exact absurd hx e
 ·intro x hx;have h1:x ∉ t:=fun h=>hx (List.mem_append_left _ h)
  have h2:x≠s:=fun e=>hx (by rw [e];simp)
  rw [atKey_put_other (fun e=>h2 (eF e))];exact h.none x h1
structure ToldM (D:DataW Unit) (m:Nat):Prop where
 tidy:Tidy D
 size:Maps.size D=m
 below:∀ j:Nat,has D (.int .i64 j)=decide (j<m)
theorem D4 {H:Type} {P:Program} {e:TypeId} (he:P.underlying e=some .bool) {v:Value} {z:DataW H×List MemPlace} (h:plainElem P e v=some z):∃ x,v=.bool x∧z=(.lit (.bool x),[]):=by
 unfold plainElem at h;rw [he] at h;cases v <;> simp at h
 exact ⟨_,rfl,h.symm⟩
theorem Gi {H:Type} {P:Program} (w:World) {ops:Array Oper} {rest:List Oper} {o:Oper} {a:Act} {Q:Exit→Act→World→Prop}
 (hg:o.guard=none) (m x:Operand) (t:TypeId) (hop:o.op=Op.lookup t m x false)
 (k e:TypeId) (K:Keyed P k) (ht:P.underlying t=some (.map k e)) (R:Value→Option (DataW H×List MemPlace)) {z:Value} (hz:(zeroValue e).run P w=.ok z w) (zd:DataW H) (zp:List MemPlace) (hzd:R z=some (zd,zp)) (b n:Nat) (D:DataW H)
 (hm:a.eval m=.map (some b)) (hown:w.ownsMap P k R b n D) (key:Value) (kl:Lit) (hx:a.eval x=key) (hkey:keyOf P k key=some kl) (val:Value) (hval:∀ v ps,R v=some (D.atKey kl zd,ps)→v=val)
 (hK:wpList P ops Q rest (a.put o.dst val) w) :
 wpList P ops Q (o::rest) a w:=by
 refine wpList_plain hg fun K' hK'=>?_
 obtain ⟨v,ps,hrun,hv⟩:=hown.lookup K ht hz hzd hkey;unfold Oper.wp;simp [execOp,hop,hm,hx,hrun,Result.andThen]
 rw [hval v ps hv];exact hK' _ _ hK
end
section
open Go.RowKit
theorem nF:(Tryz.prog.info? 9).map (fun i=>(i.zero,i.size,i.bytes))=some (some (.string ⟨#[]⟩),1,16):=by kernel_rfl
def ai (w:World) (base:Nat) (v:Value) (l:List ByteArray):Prop:=w.ownsRow base 9 1 v l.length (l.map Value.string)
theorem dv (w:World) (base:Nat):ai w base (.slice none 0 0) []:=World.ownsRow_nil _ _ _ _
theorem ai.alloc {w:World} {base:Nat} {v:Value} {l:List ByteArray} (h:ai w base v l) (o:Obj):ai (w.alloc o) base v l:=World.ownsRow.alloc h o
theorem ai.drew {w:World} {base:Nat} {v:Value} {l:List ByteArray} (h:ai w base v l):ai w.drew base v l:=World.ownsRow.drew h
theorem ai.lt {w:World} {base:Nat} {v:Value} {l:List ByteArray} (h:ai w base v l):∀ k,v.ownBlock=some k→base≤k∧k<w.heap.size:=World.ownsRow.lt h
theorem ai.below {w w':World} {base:Nat} {v:Value} {l:List ByteArray} (h:ai w base v l) (hb:Below w.heap.size w w'):ai w' base v l:=by
 refine World.ownsRow.kept h (row:=none) ⟨hb.os,hb.tape,hb.output,hb.size,fun k hk _=>hb.block k hk⟩ ?_;cases hv:v.ownBlock with
 | none=>exact .inl rfl
 | some g=>exact .inr (by simp)
theorem ai.forms {w:World} {base:Nat} {v:Value} {l:List ByteArray} (h:ai w base v l) :
 (v=.slice none 0 0∧l=[])∨∃ g cap,v=.slice (some ⟨g,0,none⟩) l.length cap∧base≤g∧g<w.heap.size∧∀ j,j<l.length→w.cell? ⟨g,j,none⟩=some (.string (l.getD j ByteArray.empty)):=by
 have hall:=h;obtain ⟨h0,h1⟩:=h;rcases h1 with ⟨rfl,hn⟩ | ⟨g,cap,cur,rfl,hb,hh,hc,hm,hs,ht⟩
 ·exact .inl ⟨rfl,List.length_eq_zero_iff.1 hn⟩
 ·refine .inr ⟨g,cap,rfl,hb,(World.ownsRow.lt hall g rfl).2,fun j hj=>?_⟩;rw [World.ownsRow.cellAt hall j (by omega)];simp [List.getElem?_eq_getElem hj]
theorem jD {w:World} {ops:Array Oper} {rest:List Oper} {o:Oper} {a:Act} {Q:Exit→Act→World→Prop} (hgd:o.guard=none) (s x:Operand)
 (ho:o.op=.call { callee:=.builtin .append,args:=#[s,x],argTypes:=#[98,98] })
 (base:Nat) (v:Value) (l:List ByteArray) (hs:a.eval s=v) (hown:ai w base v l)
 (ad:Addr) (c:Nat) (hx:a.eval x=.slice (some ad) 1 c) (d:ByteArray) (hcell:w.cell? (ad.add 0)=some (.string d))
 (hlen:l.length+1≤8796093022208) (hbase:base≤w.heap.size)
 (h:∀ g cap w',ai w' base (.slice (some ⟨g,0,none⟩) (l.length+1) cap) (l++[d])→w.grownBy w' v.ownBlock→wpList Tryz.prog ops Q rest (a.put o.dst (.slice (some ⟨g,0,none⟩) (l.length+1) cap)) w'):wpList Tryz.prog ops Q (o::rest) a w:=by
 obtain ⟨i0,hi,hz0,hz1,hz2⟩:=info_parts nF;refine wpList_append_lies w hgd s x 98 ho base 9 i0 (.string ⟨#[]⟩) 1 16 Tryz.underlying98 hi hz0 hz1 hz2 rfl (by decide) v l.length (l.map Value.string) hs hown ad 1 c [.string d] hx rfl ?_ ?_ (by decide) (by unfold maxLen;omega) (by omega) hbase _ rfl ?_
 ·intro j u hj
  match j,hj with
  | 0,hj=>simp at hj;subst hj;exact hcell
 ·intro u hu;simp at hu;subst hu;rfl
 ·intro g cap w' h1 h2 _ _;refine h g cap w' ?_ h2;unfold ai;rw [List.length_append,List.map_append];exact h1
end
section
open Go.RowKit
theorem A2:(Tryz.prog.info? 3).map (fun i=>(i.zero,i.size,i.bytes))=some (some (.int .i64 0),1,8):=by kernel_rfl
def natV (n:Nat):Value:=.int .i64 (n:Int)
def aU (w:World) (base:Nat) (v:Value) (l:List Nat):Prop:=w.ownsRow base 3 1 v l.length (l.map natV)
theorem hZ (w:World) (base:Nat):aU w base (.slice none 0 0) []:=World.ownsRow_nil _ _ _ _
theorem aU.alloc {w:World} {base:Nat} {v:Value} {l:List Nat} (h:aU w base v l) (o:Obj):aU (w.alloc o) base v l:=World.ownsRow.alloc h o
theorem aU.lt {w:World} {base:Nat} {v:Value} {l:List Nat} (h:aU w base v l):∀ k,v.ownBlock=some k→base≤k∧k<w.heap.size:=World.ownsRow.lt h
theorem aU.below {w w':World} {base:Nat} {v:Value} {l:List Nat} (h:aU w base v l) (hb:Below w.heap.size w w'):aU w' base v l:=by
 refine World.ownsRow.kept h (row:=none) ⟨hb.os,hb.tape,hb.output,hb.size,fun k hk _=>hb.block k hk⟩ ?_;cases hv:v.ownBlock with
 | none=>exact .inl rfl
 | some g=>exact .inr (by simp)
theorem aU.forms {w:World} {base:Nat} {v:Value} {l:List Nat} (h:aU w base v l) :
 (v=.slice none 0 0∧l=[])∨∃ g cap,v=.slice (some ⟨g,0,none⟩) l.length cap∧base≤g∧g<w.heap.size∧∀ j,j<l.length→w.cell? ⟨g,j,none⟩=some (.int .i64 ((l.getD j 0:Nat):Int)):=by
 have hall:=h;obtain ⟨h0,h1⟩:=h;rcases h1 with ⟨rfl,hn⟩ | ⟨g,cap,cur,rfl,hb,hh,hc,hm,hs,ht⟩
 ·exact .inl ⟨rfl,List.length_eq_zero_iff.1 hn⟩
 ·refine .inr ⟨g,cap,rfl,hb,(World.ownsRow.lt hall g rfl).2,fun j hj=>?_⟩;rw [World.ownsRow.cellAt hall j (by omega)];simp [List.getElem?_eq_getElem hj,natV]
theorem mg {w:World} {ops:Array Oper} {rest:List Oper} {o:Oper} {a:Act} {Q:Exit→Act→World→Prop} (hgd:o.guard=none) (s x:Operand)
 (ho:o.op=.call { callee:=.builtin .append,args:=#[s,x],argTypes:=#[111,111] })
 (base:Nat) (v:Value) (l:List Nat) (hs:a.eval s=v) (hown:aU w base v l)
 (ad:Addr) (c:Nat) (hx:a.eval x=.slice (some ad) 1 c) (d:Nat) (hcell:w.cell? (ad.add 0)=some (.int .i64 (d:Int)))
 (hlen:l.length+1≤8796093022208) (hbase:base≤w.heap.size)
 (h:∀ g cap w',aU w' base (.slice (some ⟨g,0,none⟩) (l.length+1) cap) (l++[d])→w.grownBy w' v.ownBlock→wpList Tryz.prog ops Q rest (a.put o.dst (.slice (some ⟨g,0,none⟩) (l.length+1) cap)) w'):wpList Tryz.prog ops Q (o::rest) a w:=by
 obtain ⟨i0,hi,hz0,hz1,hz2⟩:=info_parts A2;refine wpList_append_lies w hgd s x 111 ho base 3 i0 (.int .i64 0) 1 8 Tryz.underlying111 hi hz0 hz1 hz2 rfl (by decide) v l.length (l.map natV) hs hown ad 1 c [natV d] hx rfl ?_ ?_ (by decide) (by unfold maxLen;omega) (by omega) hbase _ rfl ?_
 ·intro j u hj
  match j,hj with
  | 0,hj=>simp at hj;subst hj;exact hcell
 ·intro u hu;simp at hu;subst hu;rfl
 ·intro g cap w' h1 h2 _ _;refine h g cap w' ?_ h2;unfold aU;rw [List.length_append,List.map_append];exact h1
end
end Go.Proofs.YtdhognaoejiglaaGreatDoor
namespace Go.Proofs
open Go.Shelf
def Tryz.sortC_ren:Go.Shelf.Ren:=⟨fun | 6=>78 | 15=>105 | 14=>104 | 28=>135 | 29=>136 | 20=>127 | 21=>128 | 22=>129 | 23=>130 | 24=>131 | 25=>132 | 26=>133 | 27=>134 | 46=>165 | 47=>166 | 48=>167 | 49=>168 | 50=>169 | 57=>202 | n=>n,fun | 22=>63 | 24=>100 | 25=>129 | 3=>3 | 39=>75 | 0=>0 | 53=>190 | 55=>177 | 4=>4 | 46=>184 | 45=>183 | 50=>115 | 5=>5 | 9=>9 | 66=>221 | 70=>225 | 76=>266 | 77=>239 | n=>n,fun | n=>n⟩
theorem Tryz.sortC:Go.Proofs.SlLaysF0.n6 Tryz.prog Tryz.sortC_ren:={
 mixed:=by kernel_rfl
 f6:=⟨Tryz.f78.name,by decide,Tryz.func78.trans (congrArg some (by kernel_rfl))⟩
 f14:=⟨Tryz.f104.name,by decide,Tryz.func104.trans (congrArg some (by kernel_rfl))⟩
 f15:=Tryz.func105.trans (congrArg some (by kernel_rfl))
 f20:=⟨Tryz.f127.name,by decide,Tryz.func127.trans (congrArg some (by kernel_rfl))⟩
 f21:=⟨Tryz.f128.name,by decide,Tryz.func128.trans (congrArg some (by kernel_rfl))⟩
 f22:=⟨Tryz.f129.name,by decide,Tryz.func129.trans (congrArg some (by kernel_rfl))⟩
 f23:=⟨Tryz.f130.name,by decide,Tryz.func130.trans (congrArg some (by kernel_rfl))⟩
 f24:=⟨Tryz.f131.name,by decide,Tryz.func131.trans (congrArg some (by kernel_rfl))⟩
 f25:=⟨Tryz.f132.name,by decide,Tryz.func132.trans (congrArg some (by kernel_rfl))⟩
 f26:=⟨Tryz.f133.name,by decide,Tryz.func133.trans (congrArg some (by kernel_rfl))⟩
 f27:=⟨Tryz.f134.name,by decide,Tryz.func134.trans (congrArg some (by kernel_rfl))⟩
 f28:=Tryz.func135.trans (congrArg some (by kernel_rfl))
 f29:=Tryz.func136.trans (congrArg some (by kernel_rfl))
 f46:=⟨Tryz.f165.name,by decide,Tryz.func165.trans (congrArg some (by kernel_rfl))⟩
 f47:=Tryz.func166.trans (congrArg some (by kernel_rfl))
 f48:=Tryz.func167.trans (congrArg some (by kernel_rfl))
 f49:=⟨Tryz.f168.name,by decide,Tryz.func168.trans (congrArg some (by kernel_rfl))⟩
 f50:=⟨Tryz.f169.name,by decide,Tryz.func169.trans (congrArg some (by kernel_rfl))⟩
 f57:=⟨Tryz.f202.name,by decide,Tryz.func202.trans (congrArg some (by kernel_rfl))⟩
 t0:=Tryz.underlying0
 a0:=Tryz.isAgg0
 z0:=Tryz.sizeOf0
 v0:=Tryz.zeroValue0
 t3:=Tryz.underlying3
 a3:=Tryz.isAgg3
 z3:=Tryz.sizeOf3
 v3:=Tryz.zeroValue3
 t4:=Tryz.underlying4
 a4:=Tryz.isAgg4
 z4:=Tryz.sizeOf4
 v4:=Tryz.zeroValue4
 t5:=Tryz.underlying5
 a5:=Tryz.isAgg5
 z5:=Tryz.sizeOf5
 v5:=Tryz.zeroValue5
 t9:=Tryz.underlying9
 a9:=Tryz.isAgg9
 z9:=Tryz.sizeOf9
 v9:=Tryz.zeroValue9
 t22:=Tryz.underlying63
 a22:=Tryz.isAgg63
 z22:=Tryz.sizeOf63
 v22:=Tryz.zeroValue63
 t25:=Tryz.underlying129
 a25:=Tryz.isAgg129
 z25:=Tryz.sizeOf129
 v25:=Tryz.zeroValue129
 t39:=Tryz.underlying75
 a39:=Tryz.isAgg75
 z39:=Tryz.sizeOf75
 v39:=Tryz.zeroValue75
 t45:=Tryz.underlying183
 a45:=Tryz.isAgg183
 z45:=Tryz.sizeOf183
 v45:=Tryz.zeroValue183
 t46:=Tryz.underlying184
 a46:=Tryz.isAgg184
 z46:=Tryz.sizeOf184
 v46:=Tryz.zeroValue184
 t50:=Tryz.underlying115
 a50:=Tryz.isAgg115
 z50:=Tryz.sizeOf115
 v50:=Tryz.zeroValue115
 t53:=Tryz.underlying190
 a53:=Tryz.isAgg190
 z53:=Tryz.sizeOf190
 v53:=Tryz.zeroValue190
 t55:=Tryz.underlying177
 a55:=Tryz.isAgg177
 z55:=Tryz.sizeOf177
 v55:=Tryz.zeroValue177
 t66:=Tryz.underlying221
 a66:=Tryz.isAgg221
 z66:=Tryz.sizeOf221
 v66:=Tryz.zeroValue221
 t70:=Tryz.underlying225
 a70:=Tryz.isAgg225
 z70:=Tryz.sizeOf225
 v70:=Tryz.zeroValue225
 t76:=Tryz.underlying266
 a76:=Tryz.isAgg266
 z76:=Tryz.sizeOf266
 v76:=Tryz.zeroValue266
 t77:=Tryz.underlying239
 a77:=Tryz.isAgg239
 z77:=Tryz.sizeOf239
 v77:=Tryz.zeroValue239 }
end Go.Proofs
