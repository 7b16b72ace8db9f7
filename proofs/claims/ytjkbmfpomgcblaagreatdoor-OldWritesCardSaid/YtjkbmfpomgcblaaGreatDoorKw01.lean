import Derived.Shelf.Strings.Builder1
import Derived.Shelf.Strings.Builder2
import Derived.Shelf.Strings.OnBuilder
import Derived.Shelf.Small.Wraps
import Derived.Shelf.Strings.BuilderF
import Derived.Shelf.Strings.BuilderK
import Derived.Shelf.Strconv.Itoa0
import Derived.Shelf.Strconv.Itoa1
import Derived.Shelf.LaysM
import Derived.Shelf.Strconv.Itoa2
import Derived.Shelf.Strconv.Itoa3
import Derived.Shelf.Strconv.Clone
import Derived.Shelf.Strings.Search1
import Derived.Shelf.Strings.Search2
import Derived.Shelf.Strings.Search3
import Derived.Shelf.Strings.Shaped
import Derived.Shelf.Strings.Prefix
import Derived.Ground.Names2Prog
import Derived.Shelf.Slices.SearchI
import Derived.Test.YtjkbmfpomgcblaaGreatDoorProg
import Derived.WalkKit
import Derived.Handy
import Derived.Below
import Derived.KernelRfl
import Derived.Lib.Hide
import Derived.Deep.AppendLies
import Derived.Laws.OwnMore
namespace Go.Proofs
open Go.Shelf
def Tryz.lays169_ren:Go.Shelf.Ren:=⟨fun | 169=>49 | n=>n,fun | 70=>62 | 9=>9 | 0=>0 | 72=>64 | 37=>60 | 127=>114 | 3=>3 | 5=>5 | n=>n,fun | n=>n⟩
theorem Tryz.lays169:Go.Proofs.Lays.n169 Tryz.prog Tryz.lays169_ren:={
 mixed:=by kernel_rfl
 f169:=Tryz.func49.trans (congrArg some (by kernel_rfl))
 t0:=Tryz.underlying0
 a0:=Tryz.isAgg0
 z0:=Tryz.sizeOf0
 v0:=Tryz.zeroValue0
 t3:=Tryz.underlying3
 a3:=Tryz.isAgg3
 z3:=Tryz.sizeOf3
 v3:=Tryz.zeroValue3
 t9:=Tryz.underlying9
 a9:=Tryz.isAgg9
 z9:=Tryz.sizeOf9
 v9:=Tryz.zeroValue9
 t37:=Tryz.underlying60
 a37:=Tryz.isAgg60
 z37:=Tryz.sizeOf60
 v37:=Tryz.zeroValue60
 t70:=Tryz.underlying62
 a70:=Tryz.isAgg62
 z70:=Tryz.sizeOf62
 v70:=Tryz.zeroValue62
 t72:=Tryz.underlying64
 a72:=Tryz.isAgg64
 z72:=Tryz.sizeOf64
 v72:=Tryz.zeroValue64
 t127:=Tryz.underlying114
 a127:=Tryz.isAgg114
 z127:=Tryz.sizeOf114
 v127:=Tryz.zeroValue114 }
theorem Tryz.Builder_Extra_169:Builder.Extra Tryz.prog Tryz.lays169_ren:={
 sizeBuilder:=by kernel_rfl
 liesBuilder:=by kernel_rfl
 t5:=Tryz.underlying5
 a5:=Tryz.isAgg5
 z5:=Tryz.sizeOf5
 v5:=Tryz.zeroValue5
 infoByte:=by kernel_rfl
 cellsByte:=by kernel_rfl
 sizeByte:=by kernel_rfl
 neB5:=by decide }
open Go.RowKit in
theorem Tryz.Builder_String_any (B b:Nat) (l:List UInt8) (w:World) (h:Lib.IsBuilder 64 5 B b (Lib.byteCells l) w) (hBw:B≤w.heap.size) :
   Calls Tryz.prog 49 #[.pointer (some ⟨b,0,none⟩)] w fun e w'=>e=.returned (.string ⟨l.toArray⟩)∧Below B w w':=Any.Builder_String_any Tryz.lays169 Tryz.Builder_Extra_169 B b l w h hBw
def Tryz.lays171_ren:Go.Shelf.Ren:=⟨fun | 171=>171 | 243=>217 | 246=>228 | 283=>236 | 284=>237 | 285=>238 | 286=>239 | 129=>117 | 317=>243 | 318=>244 | 319=>245 | 320=>246 | 337=>247 | 338=>248 | n=>n,fun | 3=>3 | 9=>9 | 2=>2 | 4=>4 | 171=>269 | 0=>0 | 53=>83 | 37=>60 | 5=>5 | 173=>271 | 212=>277 | 51=>38 | 20=>20 | 213=>278 | 46=>76 | 232=>281 | 233=>282 | n=>n,fun | 17=>2 | 18=>3 | 19=>4 | n=>n⟩
theorem Tryz.lays171:Go.Proofs.Lays.n171 Tryz.prog Tryz.lays171_ren:={
 mixed:=by kernel_rfl
 f129:=Tryz.func117.trans (congrArg some (by kernel_rfl))
 f171:=Tryz.func171.trans (congrArg some (by kernel_rfl))
 f243:=Tryz.func217.trans (congrArg some (by kernel_rfl))
 f246:=Tryz.func228.trans (congrArg some (by kernel_rfl))
 f283:=Tryz.func236.trans (congrArg some (by kernel_rfl))
 f284:=Tryz.func237.trans (congrArg some (by kernel_rfl))
 f285:=Tryz.func238.trans (congrArg some (by kernel_rfl))
 f286:=Tryz.func239.trans (congrArg some (by kernel_rfl))
 f317:=Tryz.func243.trans (congrArg some (by kernel_rfl))
 f318:=Tryz.func244.trans (congrArg some (by kernel_rfl))
 f319:=Tryz.func245.trans (congrArg some (by kernel_rfl))
 f320:=Tryz.func246.trans (congrArg some (by kernel_rfl))
 f337:=Tryz.func247.trans (congrArg some (by kernel_rfl))
 f338:=Tryz.func248.trans (congrArg some (by kernel_rfl))
 t0:=Tryz.underlying0
 a0:=Tryz.isAgg0
 z0:=Tryz.sizeOf0
 v0:=Tryz.zeroValue0
 t2:=Tryz.underlying2
 a2:=Tryz.isAgg2
 z2:=Tryz.sizeOf2
 v2:=Tryz.zeroValue2
 t3:=Tryz.underlying3
 a3:=Tryz.isAgg3
 z3:=Tryz.sizeOf3
 v3:=Tryz.zeroValue3
 t4:=Tryz.underlying4
 a4:=Tryz.isAgg4
 z4:=Tryz.sizeOf4
 v4:=Tryz.zeroValue4
 t5:=Tryz.underlying5
 a5:=Tryz.isAgg5
 z5:=Tryz.sizeOf5
 v5:=Tryz.zeroValue5
 t9:=Tryz.underlying9
 a9:=Tryz.isAgg9
 z9:=Tryz.sizeOf9
 v9:=Tryz.zeroValue9
 t20:=Tryz.underlying20
 a20:=Tryz.isAgg20
 z20:=Tryz.sizeOf20
 v20:=Tryz.zeroValue20
 t37:=Tryz.underlying60
 a37:=Tryz.isAgg60
 z37:=Tryz.sizeOf60
 v37:=Tryz.zeroValue60
 t46:=Tryz.underlying76
 a46:=Tryz.isAgg76
 z46:=Tryz.sizeOf76
 v46:=Tryz.zeroValue76
 t51:=Tryz.underlying38
 a51:=Tryz.isAgg38
 z51:=Tryz.sizeOf38
 v51:=Tryz.zeroValue38
 t53:=Tryz.underlying83
 a53:=Tryz.isAgg83
 z53:=Tryz.sizeOf83
 v53:=Tryz.zeroValue83
 t171:=Tryz.underlying269
 a171:=Tryz.isAgg269
 z171:=Tryz.sizeOf269
 v171:=Tryz.zeroValue269
 t173:=Tryz.underlying271
 a173:=Tryz.isAgg271
 z173:=Tryz.sizeOf271
 v173:=Tryz.zeroValue271
 t212:=Tryz.underlying277
 a212:=Tryz.isAgg277
 z212:=Tryz.sizeOf277
 v212:=Tryz.zeroValue277
 t213:=Tryz.underlying278
 a213:=Tryz.isAgg278
 z213:=Tryz.sizeOf278
 t232:=Tryz.underlying281
 a232:=Tryz.isAgg281
 z232:=Tryz.sizeOf281
 v232:=Tryz.zeroValue281
 t233:=Tryz.underlying282
 a233:=Tryz.isAgg282
 z233:=Tryz.sizeOf282
 v233:=Tryz.zeroValue282
 g17:=by kernel_rfl
 g18:=by kernel_rfl
 g19:=by kernel_rfl }
open Go.RowKit Go.Sort Go.Lib in
theorem Tryz.strconv_Itoa_small (i:Nat) (hi:i < 100) (w:World) :
   Calls Tryz.prog 171 #[.int .i64 i] w fun e w'=>e=.returned (.string ⟨(Lib.decDigits i).toArray⟩)∧w'=w:=Any.strconv_Itoa_small Tryz.lays171 i hi w
def Tryz.laysM316_ren:Go.Shelf.Ren:=⟨fun | 316=>203 | n=>n,fun | 9=>9 | 3=>3 | 4=>4 | 37=>60 | 0=>0 | 127=>114 | 5=>5 | n=>n,fun | n=>n⟩
theorem Tryz.laysM316:Go.Proofs.LaysM.n316 Tryz.prog Tryz.laysM316_ren:={
 mixed:=by kernel_rfl
 f316:=Tryz.func203.trans (congrArg some (by kernel_rfl))
 t0:=Tryz.underlying0
 a0:=Tryz.isAgg0
 z0:=Tryz.sizeOf0
 v0:=Tryz.zeroValue0
 t3:=Tryz.underlying3
 a3:=Tryz.isAgg3
 z3:=Tryz.sizeOf3
 v3:=Tryz.zeroValue3
 t4:=Tryz.underlying4
 a4:=Tryz.isAgg4
 z4:=Tryz.sizeOf4
 v4:=Tryz.zeroValue4
 t9:=Tryz.underlying9
 a9:=Tryz.isAgg9
 z9:=Tryz.sizeOf9
 v9:=Tryz.zeroValue9
 t37:=Tryz.underlying60
 a37:=Tryz.isAgg60
 z37:=Tryz.sizeOf60
 v37:=Tryz.zeroValue60
 t127:=Tryz.underlying114
 a127:=Tryz.isAgg114
 z127:=Tryz.sizeOf114
 v127:=Tryz.zeroValue114
 t5:=Tryz.underlying5
 a5:=Tryz.isAgg5
 z5:=Tryz.sizeOf5
 v5:=Tryz.zeroValue5
 i0:=by kernel_rfl
 i3:=by kernel_rfl
 i4:=by kernel_rfl
 i5:=by kernel_rfl
 i9:=by kernel_rfl
 i37:=by kernel_rfl
 i127:=by kernel_rfl }
open Go.RowKit in
theorem Tryz.stringslite_Clone (s:ByteArray) (w:World) (hlim:s.size≤281474976710656) :
   Calls Tryz.prog 203 #[.string s] w fun e w'=>e=.returned (.string s)∧Below w.heap.size w w':=Any.stringslite_Clone Tryz.laysM316 s w hlim
def Tryz.lays144_ren:Go.Shelf.Ren:=⟨fun | 144=>170 | 143=>216 | 219=>227 | 217=>232 | 225=>233 | 224=>234 | 267=>235 | 266=>241 | 314=>242 | n=>n,fun | 9=>9 | 4=>4 | 3=>3 | 5=>5 | 46=>76 | 146=>274 | 51=>38 | n=>n,fun | 1=>1 | n=>n⟩
theorem Tryz.lays144:Go.Proofs.Lays.n144 Tryz.prog Tryz.lays144_ren:={
 mixed:=by kernel_rfl
 f143:=Tryz.func216.trans (congrArg some (by kernel_rfl))
 f144:=Tryz.func170.trans (congrArg some (by kernel_rfl))
 f217:=Tryz.func232.trans (congrArg some (by kernel_rfl))
 f219:=Tryz.func227.trans (congrArg some (by kernel_rfl))
 f224:=Tryz.func234.trans (congrArg some (by kernel_rfl))
 f225:=Tryz.func233.trans (congrArg some (by kernel_rfl))
 f266:=Tryz.func241.trans (congrArg some (by kernel_rfl))
 f267:=Tryz.func235.trans (congrArg some (by kernel_rfl))
 f314:=Tryz.func242.trans (congrArg some (by kernel_rfl))
 t3:=Tryz.underlying3
 a3:=Tryz.isAgg3
 z3:=Tryz.sizeOf3
 v3:=Tryz.zeroValue3
 t4:=Tryz.underlying4
 a4:=Tryz.isAgg4
 z4:=Tryz.sizeOf4
 v4:=Tryz.zeroValue4
 t5:=Tryz.underlying5
 a5:=Tryz.isAgg5
 z5:=Tryz.sizeOf5
 v5:=Tryz.zeroValue5
 t9:=Tryz.underlying9
 a9:=Tryz.isAgg9
 z9:=Tryz.sizeOf9
 v9:=Tryz.zeroValue9
 t46:=Tryz.underlying76
 a46:=Tryz.isAgg76
 z46:=Tryz.sizeOf76
 v46:=Tryz.zeroValue76
 t51:=Tryz.underlying38
 a51:=Tryz.isAgg38
 z51:=Tryz.sizeOf38
 v51:=Tryz.zeroValue38
 t146:=Tryz.underlying274
 a146:=Tryz.isAgg274
 z146:=Tryz.sizeOf274
 v146:=Tryz.zeroValue274
 g1:=by kernel_rfl }
open Go.RowKit Go.Lib in
theorem Tryz.strings_Contains_one (s:ByteArray) (c:UInt8) (w:World) :
   Calls Tryz.prog 170 #[.string s,.string ⟨#[c]⟩] w fun e w'=>e=.returned (.bool (decide (0≤Lib.indexByte s.data.toList c)))∧w'=w:=Any.strings_Contains_one Tryz.lays144 s c w
end Go.Proofs
namespace Go.Proofs.YtjkbmfpomgcblaaGreatDoor
open Go.RowKit
def idRW (x:Int×Int):Bool:=decide (1≤x.1∧x.1≤1099511627776∧0≤x.2∧x.2≤200)
set_option maxRecDepth 100000 in
theorem idrightW_any (x1 x2:Int) (b:Bool) (w:World) (hb:idRW (x1,x2)=b) :
   Calls Tryz.prog 197 #[.agg #[.int .i64 x1,.int .i64 x2]] w fun e w'=>e=.returned (.bool b)∧Below w.heap.size w w':=by
 subst hb
 unfold idRW
 by_cases h1:1≤x1
 · by_cases h2:x1≤1099511627776
   · by_cases h3:0≤x2
     · by_cases h4:x2≤200
       · rw [decide_eq_true (show 1≤(x1,x2).1∧(x1,x2).1≤1099511627776∧0≤(x1,x2).2∧(x1,x2).2≤200 from ⟨h1,h2,h3,h4⟩)]
         go_enter Tryz.func197,Tryz.ntmps197
         go_wp2
         go_ret
         exact ⟨rfl,(Below.refl _ _).alloc (Nat.le_refl _) _⟩
       · rw [decide_eq_false (show ¬ (1≤(x1,x2).1∧(x1,x2).1≤1099511627776∧0≤(x1,x2).2∧(x1,x2).2≤200) from fun h=>h4 h.2.2.2)]
         have d:decide (x2≤200)=false:=decide_eq_false h4
         go_enter Tryz.func197,Tryz.ntmps197
         go_wp2
         go_ret
         exact ⟨by first | rfl | (show Ending.returned (Value.bool (decide _))=_;rw [d]),(Below.refl _ _).alloc (Nat.le_refl _) _⟩
     · rw [decide_eq_false (show ¬ (1≤(x1,x2).1∧(x1,x2).1≤1099511627776∧0≤(x1,x2).2∧(x1,x2).2≤200) from fun h=>h3 h.2.2.1)]
       have d:decide (0≤x2)=false:=decide_eq_false h3
       go_enter Tryz.func197,Tryz.ntmps197
       go_wp2
       go_ret
       exact ⟨by first | rfl | simp,(Below.refl _ _).alloc (Nat.le_refl _) _⟩
   · rw [decide_eq_false (show ¬ (1≤(x1,x2).1∧(x1,x2).1≤1099511627776∧0≤(x1,x2).2∧(x1,x2).2≤200) from fun h=>h2 h.2.1)]
     have d:decide (x1≤1099511627776)=false:=decide_eq_false h2
     go_enter Tryz.func197,Tryz.ntmps197
     go_wp2
     go_ret
     exact ⟨by first | rfl | simp,(Below.refl _ _).alloc (Nat.le_refl _) _⟩
 · rw [decide_eq_false (show ¬ (1≤(x1,x2).1∧(x1,x2).1≤1099511627776∧0≤(x1,x2).2∧(x1,x2).2≤200) from fun h=>h1 h.1)]
   have d:decide (1≤x1)=false:=decide_eq_false h1
   go_enter Tryz.func197,Tryz.ntmps197
   go_wp2
   go_ret
   exact ⟨by first | rfl | simp,(Below.refl _ _).alloc (Nat.le_refl _) _⟩
end Go.Proofs.YtjkbmfpomgcblaaGreatDoor
namespace Go.Proofs.YtjkbmfpomgcblaaGreatDoor
theorem x4 (a b c d:Nat):(a ^^^ b) ^^^ (c ^^^ d)=(a ^^^ c) ^^^ (b ^^^ d):=by
 rw [Nat.xor_assoc,Nat.xor_assoc,←Nat.xor_assoc b,Nat.xor_comm b c,Nat.xor_assoc c]
def st (x:Nat):Nat:=if x % 2=1 then x / 2 ^^^ 2197175160 else x / 2
def stn:Nat→Nat→Nat
 | 0,x=>x
 | k + 1,x=>st (stn k x)
def pass (x:Nat):Nat:=stn 8 x
theorem st_odd {x:Nat} (h:x % 2=1):st x=x / 2 ^^^ 2197175160:=if_pos h
theorem st_even {x:Nat} (h:x % 2≠1):st x=x / 2:=if_neg h
theorem st_xor (a b:Nat):st (a ^^^ b)=st a ^^^ st b:=by
 have hp:(a ^^^ b) % 2=1↔¬(a % 2=1↔b % 2=1):=Nat.xor_mod_two_eq_one
 by_cases ha:a % 2=1 <;> by_cases hb:b % 2=1
 · rw [st_even (by rw [Ne,hp];simp [ha,hb]),st_odd ha,st_odd hb,Nat.xor_div_two,x4,Nat.xor_self,Nat.xor_zero]
 · rw [st_odd (hp.2 (by simp [ha,hb])),st_odd ha,st_even hb,Nat.xor_div_two,Nat.xor_assoc,Nat.xor_assoc,Nat.xor_comm 2197175160]
 · rw [st_odd (hp.2 (by simp [ha,hb])),st_even ha,st_odd hb,Nat.xor_div_two,Nat.xor_assoc]
 · rw [st_even (by rw [Ne,hp];simp [ha,hb]),st_even ha,st_even hb,Nat.xor_div_two]
theorem st_lt {x:Nat} (h:x < 4294967296):st x < 4294967296:=by
 have h2:x / 2 < 2 ^ 32:=by omega
 by_cases hx:x % 2=1
 · rw [st_odd hx];exact Nat.xor_lt_two_pow (n:=32) h2 (by decide)
 · rw [st_even hx];omega
theorem stn_succ (k x:Nat):stn (k + 1) x=st (stn k x):=rfl
theorem stn_add (a b x:Nat):stn (a + b) x=stn a (stn b x):=by
 induction a with
 | zero=>rw [Nat.zero_add];rfl
 | succ a ih=>rw [Nat.succ_add,stn_succ,ih,stn_succ]
theorem stn_st (k x:Nat):stn k (st x)=stn (k + 1) x:=(stn_add k 1 x).symm
theorem stn_xor (k a b:Nat):stn k (a ^^^ b)=stn k a ^^^ stn k b:=by
 induction k with
 | zero=>rfl
 | succ k ih=>rw [stn_succ,ih,st_xor];rfl
theorem stn_lt (k:Nat) {x:Nat} (h:x < 4294967296):stn k x < 4294967296:=by
 induction k with
 | zero=>exact h
 | succ k ih=>exact st_lt ih
theorem xlt {a b:Nat} (ha:a < 4294967296) (hb:b < 4294967296):a ^^^ b < 4294967296:=Nat.xor_lt_two_pow (n:=32) ha hb
theorem pass_lt {x:Nat} (h:x < 4294967296):pass x < 4294967296:=stn_lt 8 h
def run (c:Nat):List UInt8→Nat
 | []=>c
 | b :: r=>run (pass (c ^^^ b.toNat)) r
theorem byte_lt (b:UInt8):b.toNat < 4294967296:=by have:=b.toNat_lt;omega
theorem run_append (l r:List UInt8):∀ c,run c (l ++ r)=run (run c l) r:=by
 induction l with
 | nil=>intro c;rfl
 | cons b l ih=>intro c;exact ih _
theorem run_snoc (c:Nat) (l:List UInt8) (b:UInt8):run c (l ++ [b])=pass (run c l ^^^ b.toNat):=run_append l [b] c
theorem run_lt (l:List UInt8):∀ {c},c < 4294967296→run c l < 4294967296:=by
 induction l with
 | nil=>intro c h;exact h
 | cons b l ih=>intro c h;exact ih (pass_lt (xlt h (byte_lt b)))
theorem run_take (c:Nat) (l:List UInt8) (k:Nat) (h:k < l.length):run c (l.take (k + 1))=pass (run c (l.take k) ^^^ l[k].toNat):=by
 rw [List.take_succ_eq_append_getElem h,run_snoc]
def inv (x:Nat):Nat:=x ^^^ 4294967295
theorem inv_lt {x:Nat} (h:x < 4294967296):inv x < 4294967296:=xlt h (by decide)
def more (c:Nat) (l:List UInt8):Nat:=inv (run (inv c) l)
def sum (l:List UInt8):Nat:=more 0 l
theorem more_lt {c:Nat} (l:List UInt8) (h:c < 4294967296):more c l < 4294967296:=inv_lt (run_lt l (inv_lt h))
theorem sum_lt (l:List UInt8):sum l < 4294967296:=more_lt l (by decide)
def tail4 (n:Nat):List UInt8:=[UInt8.ofNat n,UInt8.ofNat (n / 256),UInt8.ofNat (n / 65536),UInt8.ofNat (n / 16777216)]
def sealL (l:List UInt8):List UInt8:=l ++ tail4 (sum l)
def val:List UInt8→Nat
 | []=>0
 | b :: r=>b.toNat ^^^ 256 * val r
theorem st_two (y:Nat):st (2 * y)=y:=by rw [st_even (by omega)];omega
theorem stn_pow (k:Nat):∀ y,stn k (y * 2 ^ k)=y:=by
 induction k with
 | zero=>intro y;exact Nat.mul_one y
 | succ k ih=>intro y;rw [←stn_st,Nat.pow_succ,←Nat.mul_assoc,Nat.mul_comm _ 2,st_two,ih]
theorem run_val (l:List UInt8):∀ c,run c l=stn (8 * l.length) (c ^^^ val l):=by
 induction l with
 | nil=>intro c;exact (Nat.xor_zero c).symm
 | cons b l ih =>
   intro c
   show run (stn 8 (c ^^^ b.toNat)) l=_
   rw [ih,List.length_cons,Nat.mul_succ,stn_add]
   congr 1
   show _=stn 8 (c ^^^ (b.toNat ^^^ 256 * val l))
   rw [←Nat.xor_assoc,stn_xor 8 _ (256 * val l),Nat.mul_comm 256,show 256=2 ^ 8 by decide,stn_pow]
theorem xor_byte (b y:Nat) (hb:b < 256):b ^^^ 256 * y=b + 256 * y:=by
 have h1:(b ^^^ 256 * y) % 2 ^ 8=b:=by rw [Nat.xor_mod_two_pow];simp [show 256 * y % 2 ^ 8=0 by omega];omega
 have h2:(b ^^^ 256 * y) / 2 ^ 8=y:=by rw [Nat.xor_div_two_pow];simp [show b / 2 ^ 8=0 by omega]
 omega
theorem val_cons (b:UInt8) (l:List UInt8):val (b :: l)=b.toNat + 256 * val l:=xor_byte _ _ b.toNat_lt
theorem val_lt (l:List UInt8):val l < 2 ^ (8 * l.length):=by
 induction l with
 | nil=>decide
 | cons b l ih =>
   have:=b.toNat_lt
   rw [val_cons,List.length_cons,Nat.mul_succ,Nat.pow_add]
   omega
def bs (c E:Nat):Nat→Nat
 | 0=>c
 | k + 1=>st (bs c E k ^^^ E / 2 ^ k % 2)
theorem half_split (x:Nat):x=x % 2 ^^^ 2 * (x / 2):=by
 refine Nat.eq_of_testBit_eq fun i=>?_
 rw [Nat.testBit_xor]
 have h1:(x % 2).testBit i=(decide (i < 1) && x.testBit i):=by rw [show x % 2=x % 2 ^ 1 by rw [Nat.pow_one],Nat.testBit_mod_two_pow]
 have h2:(2 * (x / 2)).testBit i=(decide (1≤i) && x.testBit i):=by
   rw [show 2 * (x / 2)=2 ^ 1 * (x / 2 ^ 1) by rw [Nat.pow_one],Nat.testBit_two_pow_mul,Nat.testBit_div_two_pow]
   by_cases hi:1≤i
   · simp [hi]
   · simp [hi]
 rw [h1,h2]
 by_cases hi:1≤i
 · simp [hi,show ¬ i < 1 by omega]
 · simp [hi,show i < 1 by omega]
theorem bs_closed (c E k:Nat):bs c E k ^^^ E / 2 ^ k=stn k (c ^^^ E):=by
 induction k with
 | zero=>show c ^^^ E / 1=_;rw [Nat.div_one];rfl
 | succ k ih =>
   rw [stn_succ,←ih]
   have h:E / 2 ^ k=E / 2 ^ k % 2 ^^^ 2 * (E / 2 ^ (k + 1)):=by
     rw [Nat.pow_succ,←Nat.div_div_eq_div_mul];exact half_split _
   conv=>rhs;rw [h]
   rw [←Nat.xor_assoc,st_xor _ (2 * _),st_two];rfl
theorem bs_run (c:Nat) (l:List UInt8):bs c (val l) (8 * l.length)=run c l:=by
 have:=bs_closed c (val l) (8 * l.length)
 rw [Nat.div_eq_of_lt (val_lt l),Nat.xor_zero,←run_val] at this
 exact this
theorem bs_lt {c:Nat} (E k:Nat) (h:c < 4294967296):bs c E k < 4294967296:=by
 induction k with
 | zero=>exact h
 | succ k ih=>exact st_lt (xlt ih (by omega))
theorem val_bit (l:List UInt8):∀ (j r:Nat) (h:j < l.length),r < 8→val l / 2 ^ (8 * j + r) % 2=l[j].toNat / 2 ^ r % 2:=by
 induction l with
 | nil=>intro j r h;simp at h
 | cons b l ih =>
   intro j r h hr
   rw [val_cons]
   have hb:=b.toNat_lt
   cases j with
   | zero =>
     rw [Nat.mul_zero,Nat.zero_add,List.getElem_cons_zero]
     rw [show 256 * val l=2 ^ r * (2 ^ (8 - r) * val l) by rw [←Nat.mul_assoc,←Nat.pow_add,show r + (8 - r)=8 by omega]]
     rw [Nat.add_mul_div_left _ _ (Nat.two_pow_pos r),show 8 - r=(7 - r) + 1 by omega,Nat.pow_succ,Nat.mul_comm _ 2,Nat.mul_assoc]
     omega
   | succ j =>
     rw [List.getElem_cons_succ,←ih j r (by simpa using h) hr,Nat.mul_succ,show 8 * j + 8 + r=8 + (8 * j + r) by omega,Nat.pow_add,←Nat.div_div_eq_div_mul]
     congr 2
     omega
end Go.Proofs.YtjkbmfpomgcblaaGreatDoor
namespace Go.Proofs.YtjkbmfpomgcblaaGreatDoor
structure Tok where
 own:ByteArray
 back:Int
 size:Int
deriving DecidableEq
end Go.Proofs.YtjkbmfpomgcblaaGreatDoor
namespace Go.Proofs.YtjkbmfpomgcblaaGreatDoor
open Go.RowKit
def atIs (w:World) (v:Value) (r:Nat×Int):Prop :=
 (r=(0,-1)∧v=.nilIface)∨(r.1≠0∧∃ b,v=.iface 111 (.pointer (some ⟨b,0,none⟩))∧b < w.heap.size∧w.cell? ⟨b,0,none⟩=some (.int .i64 (r.1:Nat))∧w.cell? ⟨b,1,none⟩=some (.int .i64 r.2))
theorem atIs.below {w w':World} {v:Value} {r:Nat×Int} (h:atIs w v r) (hb:Below w.heap.size w w'):atIs w' v r:=by
 rcases h with h | ⟨h0,b,h1,h2,h3,h4⟩
 · exact .inl h
 · exact .inr ⟨h0,b,h1,Nat.lt_of_lt_of_le h2 hb.size,(hb.cell (p:=⟨b,0,none⟩) h2).trans h3,(hb.cell (p:=⟨b,1,none⟩) h2).trans h4⟩
theorem atIs.new (w:World) (e:Nat) (pl:Int) (he:e≠0):atIs (w.alloc (.cells #[.int .i64 e,.int .i64 pl] 113)) (.iface 111 (.pointer (some ⟨w.heap.size,0,none⟩))) (e,pl) :=
 .inr ⟨he,_,rfl,by simp,by simp,by simp⟩
def RightIs (w:World) (r:Nat×Int) (e:Ending) (w':World):Prop :=
 ∃ v,e=.returned v∧atIs w' v r∧Below w.heap.size w w'
end Go.Proofs.YtjkbmfpomgcblaaGreatDoor
namespace Go.Proofs.YtjkbmfpomgcblaaGreatDoor
theorem bytes_ext {a b:ByteArray} (h:a.data.toList=b.data.toList):a=b:=by
 cases a;cases b;simp_all
end Go.Proofs.YtjkbmfpomgcblaaGreatDoor
namespace Go.Proofs.YtjkbmfpomgcblaaGreatDoor
open Go.RowKit
theorem info_int:(Tryz.prog.info? 3).map (fun i=>(i.zero,i.size,i.bytes))=some (some (.int .i64 0),1,8):=by kernel_rfl
def natV (n:Nat):Value:=.int .i64 (n:Int)
def ownsN (w:World) (base:Nat) (v:Value) (l:List Nat):Prop:=w.ownsRow base 3 1 v l.length (l.map natV)
theorem ownsN_nil (w:World) (base:Nat):ownsN w base (.slice none 0 0) []:=World.ownsRow_nil _ _ _ _
theorem ownsN.alloc {w:World} {base:Nat} {v:Value} {l:List Nat} (h:ownsN w base v l) (o:Obj):ownsN (w.alloc o) base v l:=World.ownsRow.alloc h o
theorem ownsN.drew {w:World} {base:Nat} {v:Value} {l:List Nat} (h:ownsN w base v l):ownsN w.drew base v l:=World.ownsRow.drew h
theorem ownsN.lt {w:World} {base:Nat} {v:Value} {l:List Nat} (h:ownsN w base v l):∀ k,v.ownBlock=some k→base≤k∧k < w.heap.size:=World.ownsRow.lt h
theorem ownsN.below {w w':World} {base:Nat} {v:Value} {l:List Nat} (h:ownsN w base v l) (hb:Below w.heap.size w w'):ownsN w' base v l:=by
 refine World.ownsRow.kept h (row:=none) ⟨hb.os,hb.tape,hb.output,hb.size,fun k hk _=>hb.block k hk⟩ ?_
 cases hv:v.ownBlock with
 | none=>exact .inl rfl
 | some g=>exact .inr (by simp)
theorem ownsN.forms {w:World} {base:Nat} {v:Value} {l:List Nat} (h:ownsN w base v l) :
   (v=.slice none 0 0∧l=[])∨∃ g cap,v=.slice (some ⟨g,0,none⟩) l.length cap∧base≤g∧g < w.heap.size∧∀ j,j < l.length→w.cell? ⟨g,j,none⟩=some (.int .i64 ((l.getD j 0:Nat):Int)):=by
 have hall:=h
 obtain ⟨h0,h1⟩:=h
 rcases h1 with ⟨rfl,hn⟩ | ⟨g,cap,cur,rfl,hb,hh,hc,hm,hs,ht⟩
 · exact .inl ⟨rfl,List.length_eq_zero_iff.1 hn⟩
 · refine .inr ⟨g,cap,rfl,hb,(World.ownsRow.lt hall g rfl).2,fun j hj=>?_⟩
   rw [World.ownsRow.cellAt hall j (by omega)]
   simp [List.getElem?_eq_getElem hj,natV]
theorem wpList_append_int {w:World} {ops:Array Oper} {rest:List Oper} {o:Oper} {a:Act} {Q:Exit→Act→World→Prop} (hgd:o.guard=none) (s x:Operand)
   (ho:o.op=.call { callee:=.builtin .append,args:=#[s,x],argTypes:=#[127,127] })
   (base:Nat) (v:Value) (l:List Nat) (hs:a.eval s=v) (hown:ownsN w base v l)
   (ad:Addr) (c:Nat) (hx:a.eval x=.slice (some ad) 1 c) (d:Nat) (hcell:w.cell? (ad.add 0)=some (.int .i64 (d:Int)))
   (hlen:l.length + 1≤8796093022208) (hbase:base≤w.heap.size)
   (h:∀ g cap w',ownsN w' base (.slice (some ⟨g,0,none⟩) (l.length + 1) cap) (l ++ [d])→w.grownBy w' v.ownBlock→wpList Tryz.prog ops Q rest (a.put o.dst (.slice (some ⟨g,0,none⟩) (l.length + 1) cap)) w'):wpList Tryz.prog ops Q (o :: rest) a w:=by
 obtain ⟨i0,hi,hz0,hz1,hz2⟩:=info_parts info_int
 refine wpList_append_lies w hgd s x 127 ho base 3 i0 (.int .i64 0) 1 8 Tryz.underlying127 hi hz0 hz1 hz2 rfl (by decide) v l.length (l.map natV) hs hown ad 1 c [natV d] hx rfl ?_ ?_ (by decide) (by unfold maxLen;omega) (by omega) hbase _ rfl ?_
 · intro j u hj
   match j,hj with
   | 0,hj=>simp at hj;subst hj;exact hcell
 · intro u hu;simp at hu;subst hu;rfl
 · intro g cap w' h1 h2 _ _
   refine h g cap w' ?_ h2
   unfold ownsN
   rw [List.length_append,List.map_append]
   exact h1
end Go.Proofs.YtjkbmfpomgcblaaGreatDoor
namespace Go.Proofs.YtjkbmfpomgcblaaGreatDoor
open Go.RowKit
theorem info_str:(Tryz.prog.info? 9).map (fun i=>(i.zero,i.size,i.bytes))=some (some (.string ⟨#[]⟩),1,16):=by kernel_rfl
def ownsS (w:World) (base:Nat) (v:Value) (l:List ByteArray):Prop:=w.ownsRow base 9 1 v l.length (l.map Value.string)
theorem ownsS_nil (w:World) (base:Nat):ownsS w base (.slice none 0 0) []:=World.ownsRow_nil _ _ _ _
theorem ownsS.alloc {w:World} {base:Nat} {v:Value} {l:List ByteArray} (h:ownsS w base v l) (o:Obj):ownsS (w.alloc o) base v l:=World.ownsRow.alloc h o
theorem ownsS.drew {w:World} {base:Nat} {v:Value} {l:List ByteArray} (h:ownsS w base v l):ownsS w.drew base v l:=World.ownsRow.drew h
theorem ownsS.lt {w:World} {base:Nat} {v:Value} {l:List ByteArray} (h:ownsS w base v l):∀ k,v.ownBlock=some k→base≤k∧k < w.heap.size:=World.ownsRow.lt h
theorem ownsS.below {w w':World} {base:Nat} {v:Value} {l:List ByteArray} (h:ownsS w base v l) (hb:Below w.heap.size w w'):ownsS w' base v l:=by
 refine World.ownsRow.kept h (row:=none) ⟨hb.os,hb.tape,hb.output,hb.size,fun k hk _=>hb.block k hk⟩ ?_
 cases hv:v.ownBlock with
 | none=>exact .inl rfl
 | some g=>exact .inr (by simp)
theorem ownsS.forms {w:World} {base:Nat} {v:Value} {l:List ByteArray} (h:ownsS w base v l) :
   (v=.slice none 0 0∧l=[])∨∃ g cap,v=.slice (some ⟨g,0,none⟩) l.length cap∧base≤g∧g < w.heap.size∧∀ j,j < l.length→w.cell? ⟨g,j,none⟩=some (.string (l.getD j ByteArray.empty)):=by
 have hall:=h
 obtain ⟨h0,h1⟩:=h
 rcases h1 with ⟨rfl,hn⟩ | ⟨g,cap,cur,rfl,hb,hh,hc,hm,hs,ht⟩
 · exact .inl ⟨rfl,List.length_eq_zero_iff.1 hn⟩
 · refine .inr ⟨g,cap,rfl,hb,(World.ownsRow.lt hall g rfl).2,fun j hj=>?_⟩
   rw [World.ownsRow.cellAt hall j (by omega)]
   simp [List.getElem?_eq_getElem hj]
theorem wpList_append_str {w:World} {ops:Array Oper} {rest:List Oper} {o:Oper} {a:Act} {Q:Exit→Act→World→Prop} (hgd:o.guard=none) (s x:Operand)
   (ho:o.op=.call { callee:=.builtin .append,args:=#[s,x],argTypes:=#[126,126] })
   (base:Nat) (v:Value) (l:List ByteArray) (hs:a.eval s=v) (hown:ownsS w base v l)
   (ad:Addr) (c:Nat) (hx:a.eval x=.slice (some ad) 1 c) (d:ByteArray) (hcell:w.cell? (ad.add 0)=some (.string d))
   (hlen:l.length + 1≤8796093022208) (hbase:base≤w.heap.size)
   (h:∀ g cap w',ownsS w' base (.slice (some ⟨g,0,none⟩) (l.length + 1) cap) (l ++ [d])→w.grownBy w' v.ownBlock→wpList Tryz.prog ops Q rest (a.put o.dst (.slice (some ⟨g,0,none⟩) (l.length + 1) cap)) w'):wpList Tryz.prog ops Q (o :: rest) a w:=by
 obtain ⟨i0,hi,hz0,hz1,hz2⟩:=info_parts info_str
 refine wpList_append_lies w hgd s x 126 ho base 9 i0 (.string ⟨#[]⟩) 1 16 Tryz.underlying126 hi hz0 hz1 hz2 rfl (by decide) v l.length (l.map Value.string) hs hown ad 1 c [.string d] hx rfl ?_ ?_ (by decide) (by unfold maxLen;omega) (by omega) hbase _ rfl ?_
 · intro j u hj
   match j,hj with
   | 0,hj=>simp at hj;subst hj;exact hcell
 · intro u hu;simp at hu;subst hu;rfl
 · intro g cap w' h1 h2 _ _
   refine h g cap w' ?_ h2
   unfold ownsS
   rw [List.length_append,List.map_append]
   exact h1
end Go.Proofs.YtjkbmfpomgcblaaGreatDoor
namespace Go.Proofs.YtjkbmfpomgcblaaGreatDoor
open Go.RowKit
def bitsF:Nat→Nat→Nat
 | 0,_=>0
 | f + 1,n=>if n=0 then 0 else bitsF f (n / 2) + 1
theorem bitsF_zero (f:Nat):bitsF f 0=0:=by cases f <;> simp [bitsF]
theorem bitsF_more (f:Nat):∀ n k,n < 2 ^ f→bitsF (f + k) n=bitsF f n:=by
 induction f with
 | zero => intro n k h; have : n = 0 := by simpa using h
           subst this;rw [bitsF_zero,bitsF_zero]
 | succ f ih =>
   intro n k h
   rw [show f + 1 + k=(f + k) + 1 by omega,bitsF,bitsF]
   by_cases h0:n=0
   · rw [if_pos h0,if_pos h0]
   · rw [if_neg h0,if_neg h0,ih (n / 2) k (by rw [Nat.pow_succ] at h;omega)]
theorem bitsF_shift (f:Nat):∀ c n,2 ^ c≤n→bitsF (f + c) n=c + bitsF f (n / 2 ^ c):=by
 intro c
 induction c with
 | zero=>intro n _;simp
 | succ c ih =>
   intro n h
   rw [Nat.pow_succ] at h
   have h0:n≠0:=by have:=Nat.two_pow_pos c;omega
   rw [show f + (c + 1)=(f + c) + 1 by omega,bitsF,if_neg h0,ih (n / 2) (by omega),Nat.div_div_eq_div_mul,Nat.pow_succ,Nat.mul_comm 2]
   omega
theorem bitsF_le (f:Nat):∀ n,bitsF f n≤f:=by
 induction f with
 | zero=>intro n;simp [bitsF]
 | succ f ih => intro n; rw [bitsF]; split
                · omega
                · have:=ih (n / 2);omega
def bitsN (n:Nat):Nat:=bitsF 64 n
theorem bitsN_low {n:Nat} (h:n < 256):bitsN n=bitsF 8 n:=bitsF_more 8 n 56 (by omega)
theorem bitsN_shift {n:Nat} (c f:Nat) (hc:8 + f + c=64) (h:2 ^ c≤n) (hx:n / 2 ^ c < 256):bitsN n=c + bitsF 8 (n / 2 ^ c):=by
 unfold bitsN
 rw [←hc,bitsF_shift (8 + f) c n h,bitsF_more 8 _ f (by omega)]
def LTabIs (T : ByteArray) : Prop := ∀ x, x < 256 → ∃ h : x < T.size, (T[x]'h).toNat = bitsF 8 x
theorem LTabIs.at {T : ByteArray} (H : LTabIs T) {n : Int} (x : Nat) (e : n.toNat = x) (hx : x < 256) (h : n.toNat < T.size) : (T[n.toNat]'h).toNat = bitsF 8 x := by
 obtain ⟨_,h2⟩:=H n.toNat (by omega)
 rw [h2,e]
theorem len_ret {a b:Int} {t c N:Nat} (ht:t=N) (hN:N≤8) (hc:c≤56) (ha:a=wrap64 ((c:Int) + wrap64 (t:Int))) (hb:b=((c + N:Nat):Int)):Ending.returned (.int .i64 a)=.returned (.int .i64 b):=by
 subst ht
 rw [ha,hb,IntWalk.wrap64_in (t:Int) ⟨by omega,by omega⟩,IntWalk.wrap64_in _ ⟨by omega,by omega⟩]
 rfl
set_option maxRecDepth 100000 in
set_option maxHeartbeats 2000000 in
theorem len64_any (n:Int) (w:World) (h0:0≤n) (h1:n≤18446744073709551615) :
   Calls Tryz.prog 117 #[.int .u64 n] w fun e w'=>e=.returned (.int .i64 (bitsN n.toNat))∧w=w':=by
 go_enter Tryz.func117,Tryz.ntmps117
 generalize hT:ByteArray.mk _=T
 have H1:LTabIs T:=by
   subst hT
   show ∀ x,x < 256→_
   decide +kernel
 have hsz:(255:Int) < (T.size:Int):=by
   obtain ⟨h,_⟩:=H1 255 (by decide)
   omega
 clear hT
 have H2:=Lib.hid H1
 clear H1
 go_wp2
 · go_ret
   exact ⟨len_ret (c:=56) (H2.out.at (n.toNat / 2 ^ 56) (by omega) (by omega) (by omega)) (bitsF_le 8 _) (by omega) rfl (by rw [bitsN_shift 56 0 (by omega) (by omega) (by omega)]),rfl⟩
 · go_ret
   exact ⟨len_ret (c:=48) (H2.out.at (n.toNat / 2 ^ 48) (by omega) (by omega) (by omega)) (bitsF_le 8 _) (by omega) rfl (by rw [bitsN_shift 48 8 (by omega) (by omega) (by omega)]),rfl⟩
 · go_ret
   exact ⟨len_ret (c:=40) (H2.out.at (n.toNat / 2 ^ 40) (by omega) (by omega) (by omega)) (bitsF_le 8 _) (by omega) rfl (by rw [bitsN_shift 40 16 (by omega) (by omega) (by omega)]),rfl⟩
 · go_ret
   exact ⟨len_ret (c:=32) (H2.out.at (n.toNat / 2 ^ 32) (by omega) (by omega) (by omega)) (bitsF_le 8 _) (by omega) rfl (by rw [bitsN_shift 32 24 (by omega) (by omega) (by omega)]),rfl⟩
 · go_ret
   exact ⟨len_ret (c:=24) (H2.out.at (n.toNat / 2 ^ 24) (by omega) (by omega) (by omega)) (bitsF_le 8 _) (by omega) rfl (by rw [bitsN_shift 24 32 (by omega) (by omega) (by omega)]),rfl⟩
 · go_ret
   exact ⟨len_ret (c:=16) (H2.out.at (n.toNat / 2 ^ 16) (by omega) (by omega) (by omega)) (bitsF_le 8 _) (by omega) rfl (by rw [bitsN_shift 16 40 (by omega) (by omega) (by omega)]),rfl⟩
 · go_ret
   exact ⟨len_ret (c:=8) (H2.out.at (n.toNat / 2 ^ 8) (by omega) (by omega) (by omega)) (bitsF_le 8 _) (by omega) rfl (by rw [bitsN_shift 8 48 (by omega) (by omega) (by omega)]),rfl⟩
 · go_ret
   exact ⟨len_ret (c:=0) (H2.out.at n.toNat rfl (by omega) (by omega)) (bitsF_le 8 _) (by omega) (by rw [Int.natCast_zero,Int.zero_add]) (by rw [bitsN_low (by omega),Nat.zero_add]),rfl⟩
end Go.Proofs.YtjkbmfpomgcblaaGreatDoor
namespace Go.Proofs.YtjkbmfpomgcblaaGreatDoor
open Go.RowKit
theorem good_any (w:World):Calls Tryz.prog 67 #[] w fun e w'=>e=.returned (.agg #[.int .i64 0,.int .i64 (-1)])∧Below w.heap.size w w':=by
 go_enter Tryz.func67,Tryz.ntmps67
 go_wp2
 refine bodyPost_ret (v:=.agg #[.int .i64 0,.int .i64 (-1)]) (by simp [results,Tryz.results67,go_sem]) rfl ?_
 exact ⟨rfl,(Below.refl _ _).alloc (Nat.le_refl _) _⟩
theorem is_any (e pl:Int) (w:World):Calls Tryz.prog 36 #[.agg #[.int .i64 e,.int .i64 pl]] w fun r w'=>r=.returned (.bool (e == 0))∧Below w.heap.size w w':=by
 go_enter Tryz.func36,Tryz.ntmps36
 go_wp2
 go_ret
 exact ⟨rfl,(Below.refl _ _).alloc (Nat.le_refl _) _⟩
def faultV (r:Nat×Int):Value:=.agg #[.int .i64 (r.1:Nat),.int .i64 r.2]
end Go.Proofs.YtjkbmfpomgcblaaGreatDoor
