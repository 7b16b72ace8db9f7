import Derived.Test.YtagoidpkbloflaaGreatDoorKlq
import Derived.Shelf.Strings.Builder1
import Derived.Shelf.Strings.Builder2
import Derived.Shelf.Strings.OnBuilder
import Derived.Shelf.Small.Wraps
import Derived.Shelf.Strings.BuilderF
import Derived.Shelf.Strings.BuilderK
import Derived.Shelf.Strings.Builder2Cap
import Derived.Shelf.Strconv.Itoa0
import Derived.Shelf.Strconv.Itoa1
import Derived.Shelf.LaysM
import Derived.Shelf.Strconv.Itoa2
import Derived.Shelf.Strconv.Itoa3
import Derived.Shelf.Strconv.Clone
import Derived.Shelf.Strings.Search1
import Derived.Shelf.Strings.Search2
import Derived.Shelf.Strings.Search3
import Derived.Shelf.Strings.Shaped
import Derived.Shelf.Strings.Prefix
import Derived.Shelf.Strings.BuilderCap
import Derived.Ground.Names2Prog
import Derived.Shelf.Slices.SearchI
import Derived.Test.YtagoidpkbloflaaGreatDoorProg
import Derived.WalkKit
import Derived.Handy
import Derived.Below
import Derived.KernelRfl
import Derived.Lib.Hide
import Derived.Deep.AppendLies
import Derived.Laws.OwnMore
namespace Go.Proofs
open Go.Shelf
def Tryz.lays169_ren:Go.Shelf.Ren:=⟨fun | 169=>127 | n=>n,fun | 70=>182 | 9=>9 | 0=>0 | 72=>184 | 37=>94 | 127=>226 | 3=>3 | 5=>5 | n=>n,fun | n=>n⟩
theorem Tryz.lays169:Go.Proofs.Lays.n169 Tryz.prog Tryz.lays169_ren:={
 mixed:=by kernel_rfl
 f169:=Tryz.func127.trans (congrArg some (by kernel_rfl))
 t0:=Tryz.underlying0
 a0:=Tryz.isAgg0
 z0:=Tryz.sizeOf0
 v0:=Tryz.zeroValue0
 t3:=Tryz.underlying3
 a3:=Tryz.isAgg3
 z3:=Tryz.sizeOf3
 v3:=Tryz.zeroValue3
 t9:=Tryz.underlying9
 a9:=Tryz.isAgg9
 z9:=Tryz.sizeOf9
 v9:=Tryz.zeroValue9
 t37:=Tryz.underlying94
 a37:=Tryz.isAgg94
 z37:=Tryz.sizeOf94
 v37:=Tryz.zeroValue94
 t70:=Tryz.underlying182
 a70:=Tryz.isAgg182
 z70:=Tryz.sizeOf182
 v70:=Tryz.zeroValue182
 t72:=Tryz.underlying184
 a72:=Tryz.isAgg184
 z72:=Tryz.sizeOf184
 v72:=Tryz.zeroValue184
 t127:=Tryz.underlying226
 a127:=Tryz.isAgg226
 z127:=Tryz.sizeOf226
 v127:=Tryz.zeroValue226 }
theorem Tryz.Builder_Extra_169:Builder.Extra Tryz.prog Tryz.lays169_ren:={
 sizeBuilder:=by kernel_rfl
 liesBuilder:=by kernel_rfl
 t5:=Tryz.underlying5
 a5:=Tryz.isAgg5
 z5:=Tryz.sizeOf5
 v5:=Tryz.zeroValue5
 infoByte:=by kernel_rfl
 cellsByte:=by kernel_rfl
 sizeByte:=by kernel_rfl
 neB5:=by decide }
open Go.RowKit in
theorem Tryz.Builder_String_any (B b:Nat) (l:List UInt8) (w:World) (h:Lib.IsBuilder 184 5 B b (Lib.byteCells l) w) (hBw:B≤w.heap.size) :
 Calls Tryz.prog 127 #[.pointer (some ⟨b,0,none⟩)] w fun e w'=>e=.returned (.string ⟨l.toArray⟩)∧Below B w w':=Any.Builder_String_any Tryz.lays169 Tryz.Builder_Extra_169 B b l w h hBw
def Tryz.lays156_ren:Go.Shelf.Ren:=⟨fun | 156=>85 | 165=>125 | 166=>126 | 169=>127 | 240=>170 | 241=>171 | 276=>198 | 277=>199 | n=>n,fun | 31=>86 | 9=>9 | 3=>3 | 4=>4 | 0=>0 | 20=>20 | 72=>184 | 76=>46 | 70=>182 | 37=>94 | 75=>32 | 127=>226 | 164=>195 | 5=>5 | 80=>149 | n=>n,fun | n=>n⟩
theorem Tryz.lays156:Go.Proofs.Lays.n156 Tryz.prog Tryz.lays156_ren:={
 mixed:=by kernel_rfl
 f156:=Tryz.func85.trans (congrArg some (by kernel_rfl))
 f165:=Tryz.func125.trans (congrArg some (by kernel_rfl))
 f166:=Tryz.func126.trans (congrArg some (by kernel_rfl))
 f169:=Tryz.func127.trans (congrArg some (by kernel_rfl))
 f240:=Tryz.func170.trans (congrArg some (by kernel_rfl))
 f241:=Tryz.func171.trans (congrArg some (by kernel_rfl))
 f276:=Tryz.func198.trans (congrArg some (by kernel_rfl))
 f277:=Tryz.func199.trans (congrArg some (by kernel_rfl))
 t0:=Tryz.underlying0
 a0:=Tryz.isAgg0
 z0:=Tryz.sizeOf0
 v0:=Tryz.zeroValue0
 t3:=Tryz.underlying3
 a3:=Tryz.isAgg3
 z3:=Tryz.sizeOf3
 v3:=Tryz.zeroValue3
 t4:=Tryz.underlying4
 a4:=Tryz.isAgg4
 z4:=Tryz.sizeOf4
 v4:=Tryz.zeroValue4
 t9:=Tryz.underlying9
 a9:=Tryz.isAgg9
 z9:=Tryz.sizeOf9
 v9:=Tryz.zeroValue9
 t20:=Tryz.underlying20
 a20:=Tryz.isAgg20
 z20:=Tryz.sizeOf20
 v20:=Tryz.zeroValue20
 t31:=Tryz.underlying86
 a31:=Tryz.isAgg86
 z31:=Tryz.sizeOf86
 v31:=Tryz.zeroValue86
 t37:=Tryz.underlying94
 a37:=Tryz.isAgg94
 z37:=Tryz.sizeOf94
 v37:=Tryz.zeroValue94
 t70:=Tryz.underlying182
 a70:=Tryz.isAgg182
 z70:=Tryz.sizeOf182
 v70:=Tryz.zeroValue182
 t72:=Tryz.underlying184
 a72:=Tryz.isAgg184
 z72:=Tryz.sizeOf184
 v72:=Tryz.zeroValue184
 t75:=Tryz.underlying32
 a75:=Tryz.isAgg32
 z75:=Tryz.sizeOf32
 v75:=Tryz.zeroValue32
 t76:=Tryz.underlying46
 a76:=Tryz.isAgg46
 z76:=Tryz.sizeOf46
 v76:=Tryz.zeroValue46
 t127:=Tryz.underlying226
 a127:=Tryz.isAgg226
 z127:=Tryz.sizeOf226
 v127:=Tryz.zeroValue226
 t164:=Tryz.underlying195
 a164:=Tryz.isAgg195
 z164:=Tryz.sizeOf195
 v164:=Tryz.zeroValue195 }
theorem Tryz.Builder_Extra_156:Builder.Extra Tryz.prog Tryz.lays156_ren:={
 sizeBuilder:=by kernel_rfl
 liesBuilder:=by kernel_rfl
 t5:=Tryz.underlying5
 a5:=Tryz.isAgg5
 z5:=Tryz.sizeOf5
 v5:=Tryz.zeroValue5
 infoByte:=by kernel_rfl
 cellsByte:=by kernel_rfl
 sizeByte:=by kernel_rfl
 neB5:=by decide }
open Go.RowKit in
theorem Tryz.strings_Join_none (a:Option Addr) (c:Nat) (sep:ByteArray) (w:World) :
 Calls Tryz.prog 85 #[.slice a 0 c,.string sep] w fun e w'=>e=.returned (.string ⟨#[]⟩)∧w'=w:=Any.strings_Join_none Tryz.lays156 Tryz.Builder_Extra_156 a c sep w
open Go.RowKit in
theorem Tryz.strings_Join (bk o c:Nat) (xs:List ByteArray) (sep:ByteArray) (w:World) (hcells:∀ (j:Nat) x,xs[j]? = some x→w.cell? ⟨bk,o+j,none⟩=some (.string x)) (hbk:bk<w.heap.size) (hN:xs.length≤140737488355328) (hcap:xs.length≤c) (hlen:(Lib.join (xs.map (·.data.toList)) sep.data.toList).length≤140737488355328) :
 Calls Tryz.prog 85 #[.slice (some ⟨bk,o,none⟩) xs.length c,.string sep] w fun e w'=>e=.returned (.string ⟨(Lib.join (xs.map (·.data.toList)) sep.data.toList).toArray⟩)∧Below w.heap.size w w':=Any.strings_Join Tryz.lays156 Tryz.Builder_Extra_156 bk o c xs sep w hcells hbk hN hcap hlen
def Tryz.lays171_ren:Go.Shelf.Ren:=⟨fun | 171=>100 | 243=>147 | 246=>186 | 283=>207 | 284=>208 | 285=>209 | 286=>210 | 129=>53 | 317=>215 | 318=>216 | 319=>217 | 320=>218 | 337=>219 | 338=>220 | n=>n,fun | 3=>3 | 9=>9 | 2=>2 | 4=>4 | 171=>263 | 0=>0 | 53=>50 | 37=>94 | 5=>5 | 173=>265 | 212=>271 | 51=>100 | 20=>20 | 213=>272 | 46=>137 | 232=>275 | 233=>276 | n=>n,fun | 17=>2 | 18=>3 | 19=>4 | n=>n⟩
theorem Tryz.lays171:Go.Proofs.Lays.n171 Tryz.prog Tryz.lays171_ren:={
 mixed:=by kernel_rfl
 f129:=Tryz.func53.trans (congrArg some (by kernel_rfl))
 f171:=Tryz.func100.trans (congrArg some (by kernel_rfl))
 f243:=Tryz.func147.trans (congrArg some (by kernel_rfl))
 f246:=Tryz.func186.trans (congrArg some (by kernel_rfl))
 f283:=Tryz.func207.trans (congrArg some (by kernel_rfl))
 f284:=Tryz.func208.trans (congrArg some (by kernel_rfl))
 f285:=Tryz.func209.trans (congrArg some (by kernel_rfl))
 f286:=Tryz.func210.trans (congrArg some (by kernel_rfl))
 f317:=Tryz.func215.trans (congrArg some (by kernel_rfl))
 f318:=Tryz.func216.trans (congrArg some (by kernel_rfl))
 f319:=Tryz.func217.trans (congrArg some (by kernel_rfl))
 f320:=Tryz.func218.trans (congrArg some (by kernel_rfl))
 f337:=Tryz.func219.trans (congrArg some (by kernel_rfl))
 f338:=Tryz.func220.trans (congrArg some (by kernel_rfl))
 t0:=Tryz.underlying0
 a0:=Tryz.isAgg0
 z0:=Tryz.sizeOf0
 v0:=Tryz.zeroValue0
 t2:=Tryz.underlying2
 a2:=Tryz.isAgg2
 z2:=Tryz.sizeOf2
 v2:=Tryz.zeroValue2
 t3:=Tryz.underlying3
 a3:=Tryz.isAgg3
 z3:=Tryz.sizeOf3
 v3:=Tryz.zeroValue3
 t4:=Tryz.underlying4
 a4:=Tryz.isAgg4
 z4:=Tryz.sizeOf4
 v4:=Tryz.zeroValue4
 t5:=Tryz.underlying5
 a5:=Tryz.isAgg5
 z5:=Tryz.sizeOf5
 v5:=Tryz.zeroValue5
 t9:=Tryz.underlying9
 a9:=Tryz.isAgg9
 z9:=Tryz.sizeOf9
 v9:=Tryz.zeroValue9
 t20:=Tryz.underlying20
 a20:=Tryz.isAgg20
 z20:=Tryz.sizeOf20
 v20:=Tryz.zeroValue20
 t37:=Tryz.underlying94
 a37:=Tryz.isAgg94
 z37:=Tryz.sizeOf94
 v37:=Tryz.zeroValue94
 t46:=Tryz.underlying137
 a46:=Tryz.isAgg137
 z46:=Tryz.sizeOf137
 v46:=Tryz.zeroValue137
 t51:=Tryz.underlying100
 a51:=Tryz.isAgg100
 z51:=Tryz.sizeOf100
 v51:=Tryz.zeroValue100
 t53:=Tryz.underlying50
 a53:=Tryz.isAgg50
 z53:=Tryz.sizeOf50
 v53:=Tryz.zeroValue50
 t171:=Tryz.underlying263
 a171:=Tryz.isAgg263
 z171:=Tryz.sizeOf263
 v171:=Tryz.zeroValue263
 t173:=Tryz.underlying265
 a173:=Tryz.isAgg265
 z173:=Tryz.sizeOf265
 v173:=Tryz.zeroValue265
 t212:=Tryz.underlying271
 a212:=Tryz.isAgg271
 z212:=Tryz.sizeOf271
 v212:=Tryz.zeroValue271
 t213:=Tryz.underlying272
 a213:=Tryz.isAgg272
 z213:=Tryz.sizeOf272
 t232:=Tryz.underlying275
 a232:=Tryz.isAgg275
 z232:=Tryz.sizeOf275
 v232:=Tryz.zeroValue275
 t233:=Tryz.underlying276
 a233:=Tryz.isAgg276
 z233:=Tryz.sizeOf276
 v233:=Tryz.zeroValue276
 g17:=by kernel_rfl
 g18:=by kernel_rfl
 g19:=by kernel_rfl }
open Go.RowKit Go.Sort Go.Lib in
theorem Tryz.strconv_Itoa_small (i:Nat) (hi:i<100) (w:World) :
 Calls Tryz.prog 100 #[.int .i64 i] w fun e w'=>e=.returned (.string ⟨(Lib.decDigits i).toArray⟩)∧w'=w:=Any.strconv_Itoa_small Tryz.lays171 i hi w
def Tryz.laysM316_ren:Go.Shelf.Ren:=⟨fun | 316=>148 | n=>n,fun | 9=>9 | 3=>3 | 4=>4 | 37=>94 | 0=>0 | 127=>226 | 5=>5 | n=>n,fun | n=>n⟩
theorem Tryz.laysM316:Go.Proofs.LaysM.n316 Tryz.prog Tryz.laysM316_ren:={
 mixed:=by kernel_rfl
 f316:=Tryz.func148.trans (congrArg some (by kernel_rfl))
 t0:=Tryz.underlying0
 a0:=Tryz.isAgg0
 z0:=Tryz.sizeOf0
 v0:=Tryz.zeroValue0
 t3:=Tryz.underlying3
 a3:=Tryz.isAgg3
 z3:=Tryz.sizeOf3
 v3:=Tryz.zeroValue3
 t4:=Tryz.underlying4
 a4:=Tryz.isAgg4
 z4:=Tryz.sizeOf4
 v4:=Tryz.zeroValue4
 t9:=Tryz.underlying9
 a9:=Tryz.isAgg9
 z9:=Tryz.sizeOf9
 v9:=Tryz.zeroValue9
 t37:=Tryz.underlying94
 a37:=Tryz.isAgg94
 z37:=Tryz.sizeOf94
 v37:=Tryz.zeroValue94
 t127:=Tryz.underlying226
 a127:=Tryz.isAgg226
 z127:=Tryz.sizeOf226
 v127:=Tryz.zeroValue226
 t5:=Tryz.underlying5
 a5:=Tryz.isAgg5
 z5:=Tryz.sizeOf5
 v5:=Tryz.zeroValue5
 i0:=by kernel_rfl
 i3:=by kernel_rfl
 i4:=by kernel_rfl
 i5:=by kernel_rfl
 i9:=by kernel_rfl
 i37:=by kernel_rfl
 i127:=by kernel_rfl }
open Go.RowKit in
theorem Tryz.stringslite_Clone (s:ByteArray) (w:World) (hlim:s.size≤281474976710656) :
 Calls Tryz.prog 148 #[.string s] w fun e w'=>e=.returned (.string s)∧Below w.heap.size w w':=Any.stringslite_Clone Tryz.laysM316 s w hlim
def Tryz.lays144_ren:Go.Shelf.Ren:=⟨fun | 144=>99 | 143=>146 | 219=>185 | 217=>203 | 225=>204 | 224=>205 | 267=>206 | 266=>213 | 314=>214 | n=>n,fun | 9=>9 | 4=>4 | 3=>3 | 5=>5 | 46=>137 | 146=>268 | 51=>100 | n=>n,fun | 1=>1 | n=>n⟩
theorem Tryz.lays144:Go.Proofs.Lays.n144 Tryz.prog Tryz.lays144_ren:={
 mixed:=by kernel_rfl
 f143:=Tryz.func146.trans (congrArg some (by kernel_rfl))
 f144:=Tryz.func99.trans (congrArg some (by kernel_rfl))
 f217:=Tryz.func203.trans (congrArg some (by kernel_rfl))
 f219:=Tryz.func185.trans (congrArg some (by kernel_rfl))
 f224:=Tryz.func205.trans (congrArg some (by kernel_rfl))
 f225:=Tryz.func204.trans (congrArg some (by kernel_rfl))
 f266:=Tryz.func213.trans (congrArg some (by kernel_rfl))
 f267:=Tryz.func206.trans (congrArg some (by kernel_rfl))
 f314:=Tryz.func214.trans (congrArg some (by kernel_rfl))
 t3:=Tryz.underlying3
 a3:=Tryz.isAgg3
 z3:=Tryz.sizeOf3
 v3:=Tryz.zeroValue3
 t4:=Tryz.underlying4
 a4:=Tryz.isAgg4
 z4:=Tryz.sizeOf4
 v4:=Tryz.zeroValue4
 t5:=Tryz.underlying5
 a5:=Tryz.isAgg5
 z5:=Tryz.sizeOf5
 v5:=Tryz.zeroValue5
 t9:=Tryz.underlying9
 a9:=Tryz.isAgg9
 z9:=Tryz.sizeOf9
 v9:=Tryz.zeroValue9
 t46:=Tryz.underlying137
 a46:=Tryz.isAgg137
 z46:=Tryz.sizeOf137
 v46:=Tryz.zeroValue137
 t51:=Tryz.underlying100
 a51:=Tryz.isAgg100
 z51:=Tryz.sizeOf100
 v51:=Tryz.zeroValue100
 t146:=Tryz.underlying268
 a146:=Tryz.isAgg268
 z146:=Tryz.sizeOf268
 v146:=Tryz.zeroValue268
 g1:=by kernel_rfl }
open Go.RowKit Go.Lib in
theorem Tryz.strings_Contains_one (s:ByteArray) (c:UInt8) (w:World) :
 Calls Tryz.prog 99 #[.string s,.string ⟨#[c]⟩] w fun e w'=>e=.returned (.bool (decide (0≤Lib.indexByte s.data.toList c)))∧w'=w:=Any.strings_Contains_one Tryz.lays144 s c w
def Tryz.lays99_ren:Go.Shelf.Ren:=⟨fun | 99=>26 | 206=>60 | n=>n,fun | 9=>9 | 4=>4 | 3=>3 | n=>n,fun | n=>n⟩
theorem Tryz.lays99:Go.Proofs.Lays.n99 Tryz.prog Tryz.lays99_ren:={
 mixed:=by kernel_rfl
 f99:=Tryz.func26.trans (congrArg some (by kernel_rfl))
 f206:=Tryz.func60.trans (congrArg some (by kernel_rfl))
 t3:=Tryz.underlying3
 a3:=Tryz.isAgg3
 z3:=Tryz.sizeOf3
 v3:=Tryz.zeroValue3
 t4:=Tryz.underlying4
 a4:=Tryz.isAgg4
 z4:=Tryz.sizeOf4
 v4:=Tryz.zeroValue4
 t9:=Tryz.underlying9
 a9:=Tryz.isAgg9
 z9:=Tryz.sizeOf9
 v9:=Tryz.zeroValue9 }
open Go.RowKit Go.Lib in
theorem Tryz.strings_HasPrefix (s p:ByteArray) (w:World) :
 Calls Tryz.prog 26 #[.string s,.string p] w fun e w'=>e=.returned (.bool (Lib.hasPrefix s.data.toList p.data.toList))∧w'=w:=Any.strings_HasPrefix Tryz.lays99 s p w
end Go.Proofs
namespace Go.Proofs.YtagoidpkbloflaaGreatDoor
open Lib (hid)
set_option maxRecDepth 100000
set_option maxHeartbeats 8000000
section
open Go.RowKit
def idRW (x:Int×Int):Bool:=decide (1≤x.1∧x.1≤1099511627776∧0≤x.2∧x.2≤200)
theorem pI (x1 x2:Int) (b:Bool) (w:World) (hb:idRW (x1,x2)=b) :
 Calls Tryz.prog 191 #[.agg #[.int .i64 x1,.int .i64 x2]] w fun e w'=>e=.returned (.bool b)∧Below w.heap.size w w':=by
 subst hb;unfold idRW;by_cases h1:1≤x1
 ·by_cases h2:x1≤1099511627776
  ·by_cases h3:0≤x2
   ·by_cases h4:x2≤200
    ·rw [DX (show 1≤(x1,x2).1∧(x1,x2).1≤1099511627776∧0≤(x1,x2).2∧(x1,x2).2≤200 from ⟨h1,h2,h3,h4⟩)];go_enter Tryz.func191,Tryz.ntmps191
     go_wp2;go_ret;exact ⟨rfl,(Below.refl _ _).alloc (Db _) _⟩
    ·rw [Dx (show ¬ (1≤(x1,x2).1∧(x1,x2).1≤1099511627776∧0≤(x1,x2).2∧(x1,x2).2≤200) from fun h=>h4 h.2.2.2)];have d:decide (x2≤200)=false:=Dx h4;go_enter Tryz.func191,Tryz.ntmps191
     go_wp2;go_ret;exact ⟨by first | rfl | (show Ending.returned (Value.bool (decide _))=_;rw [d]),(Below.refl _ _).alloc (Db _) _⟩
   ·rw [Dx (show ¬ (1≤(x1,x2).1∧(x1,x2).1≤1099511627776∧0≤(x1,x2).2∧(x1,x2).2≤200) from fun h=>h3 h.2.2.1)];have d:decide (0≤x2)=false:=Dx h3;go_enter Tryz.func191,Tryz.ntmps191
    go_wp2;go_ret;exact ⟨by first | rfl | simp,(Below.refl _ _).alloc (Db _) _⟩
  ·rw [Dx (show ¬ (1≤(x1,x2).1∧(x1,x2).1≤1099511627776∧0≤(x1,x2).2∧(x1,x2).2≤200) from fun h=>h2 h.2.1)];have d:decide (x1≤1099511627776)=false:=Dx h2;go_enter Tryz.func191,Tryz.ntmps191
   go_wp2;go_ret;exact ⟨by first | rfl | simp,(Below.refl _ _).alloc (Db _) _⟩
 ·rw [Dx (show ¬ (1≤(x1,x2).1∧(x1,x2).1≤1099511627776∧0≤(x1,x2).2∧(x1,x2).2≤200) from fun h=>h1 h.1)];have d:decide (1≤x1)=false:=Dx h1;go_enter Tryz.func191,Tryz.ntmps191
  go_wp2;go_ret;exact ⟨by first | rfl | simp,(Below.refl _ _).alloc (Db _) _⟩
end
section
theorem x4 (a b c d:Nat):(a ^^^ b) ^^^ (c ^^^ d)=(a ^^^ c) ^^^ (b ^^^ d):=by
 rw [Ex,Ex,←Ex b,Nat.xor_comm b c,Ex c]
def st (x:Nat):Nat:=if x % 2=1 then x / 2 ^^^ 2197175160 else x / 2
def stn:Nat→Nat→Nat
 | 0,x=>x
 | k+1,x=>st (stn k x)
def pass (x:Nat):Nat:=stn 8 x
theorem eE {x:Nat} (h:x % 2=1):st x=x / 2 ^^^ 2197175160:=if_pos h
theorem dY {x:Nat} (h:x % 2≠1):st x=x / 2:=if_neg h
theorem rF (a b:Nat):st (a ^^^ b)=st a ^^^ st b:=by
 have hp:(a ^^^ b) % 2=1↔¬(a % 2=1↔b % 2=1):=Nat.xor_mod_two_eq_one;by_cases ha:a % 2=1 <;> by_cases hb:b % 2=1
 ·rw [dY (by rw [Ne,hp];simp [ha,hb]),eE ha,eE hb,Nat.xor_div_two,x4,Nat.xor_self,Nat.xor_zero]
 ·rw [eE (hp.2 (by simp [ha,hb])),eE ha,dY hb,Nat.xor_div_two,Ex,Ex,Nat.xor_comm 2197175160]
 ·rw [eE (hp.2 (by simp [ha,hb])),dY ha,eE hb,Nat.xor_div_two,Ex]
 ·rw [dY (by rw [Ne,hp];simp [ha,hb]),dY ha,dY hb,Nat.xor_div_two]
theorem rD {x:Nat} (h:x<4294967296):st x<4294967296:=by
 have h2:x / 2<2 ^ 32:=by omega
 by_cases hx:x % 2=1
 ·rw [eE hx];exact Nat.xor_lt_two_pow (n:=32) h2 (by decide)
 ·rw [dY hx];omega
theorem kD (k x:Nat):stn (k+1) x=st (stn k x):=rfl
theorem rK (a b x:Nat):stn (a+b) x=stn a (stn b x):=by
 induction a with
 | zero=>rw [DY];rfl
 | succ a ih=>rw [Nat.succ_add,kD,ih,kD]
theorem AY (k x:Nat):stn k (st x)=stn (k+1) x:=(rK k 1 x).symm
theorem AZ (k a b:Nat):stn k (a ^^^ b)=stn k a ^^^ stn k b:=by
 induction k with
 | zero=>rfl
 | succ k ih=>rw [kD,ih,rF];rfl
theorem rL (k:Nat) {x:Nat} (h:x<4294967296):stn k x<4294967296:=by
 induction k with
 | zero=>exact h
 | succ k ih=>exact rD ih
theorem xlt {a b:Nat} (ha:a<4294967296) (hb:b<4294967296):a ^^^ b<4294967296:=Nat.xor_lt_two_pow (n:=32) ha hb
theorem yQ {x:Nat} (h:x<4294967296):pass x<4294967296:=rL 8 h
def run (c:Nat):List UInt8→Nat
 | []=>c
 | b::r=>run (pass (c ^^^ b.toNat)) r
theorem jn (b:UInt8):b.toNat<4294967296:=by have:=b.toNat_lt;omega
theorem Ai (l r:List UInt8):∀ c,run c (l++r)=run (run c l) r:=by
 induction l with
 | nil=>intro c;rfl
 | cons b l ih=>intro c;exact ih _
theorem Aj (c:Nat) (l:List UInt8) (b:UInt8):run c (l++[b])=pass (run c l ^^^ b.toNat):=Ai l [b] c
theorem mW (l:List UInt8):∀ {c},c<4294967296→run c l<4294967296:=by
 induction l with
 | nil=>intro c h;exact h
 | cons b l ih=>intro c h;exact ih (yQ (xlt h (jn b)))
theorem Ak (c:Nat) (l:List UInt8) (k:Nat) (h:k<l.length):run c (l.take (k+1))=pass (run c (l.take k) ^^^ l[k].toNat):=by
 rw [E8 h,Aj]
def inv (x:Nat):Nat:=x ^^^ 4294967295
theorem ms {x:Nat} (h:x<4294967296):inv x<4294967296:=xlt h (by decide)
def more (c:Nat) (l:List UInt8):Nat:=inv (run (inv c) l)
def sum (l:List UInt8):Nat:=more 0 l
def join (a b n:Nat):Nat:=stn (8 * n) a ^^^ b
theorem xF {c:Nat} (l:List UInt8) (h:c<4294967296):more c l<4294967296:=ms (mW l (ms h))
theorem rN (l:List UInt8):sum l<4294967296:=xF l (by decide)
def br (n:Nat):List UInt8:=[UInt8.ofNat n,UInt8.ofNat (n / 256),UInt8.ofNat (n / 65536),UInt8.ofNat (n / 16777216)]
def dI (l:List UInt8):List UInt8:=l++br (sum l)
def aF (l:List UInt8):List UInt8×Nat :=
 if l.length<4 then ([],7) else if l.drop (l.length-4)=br (sum (l.take (l.length-4))) then (l.take (l.length-4),0) else ([],15)
def val:List UInt8→Nat
 | []=>0
 | b::r=>b.toNat ^^^ 256 * val r
theorem rE (y:Nat):st (2 * y)=y:=by rw [dY (by omega)];omega
theorem AX (k:Nat):∀ y,stn k (y * 2 ^ k)=y:=by
 induction k with
 | zero=>intro y;exact Nat.mul_one y
 | succ k ih=>intro y;rw [←AY,Eb,←Nat.mul_assoc,Es _ 2,rE,ih]
theorem Al (l:List UInt8):∀ c,run c l=stn (8 * l.length) (c ^^^ val l):=by
 induction l with
 | nil=>intro c;exact (Nat.xor_zero c).symm
 | cons b l ih =>
  intro c;show run (stn 8 (c ^^^ b.toNat)) l=_
  rw [ih,DM,Nat.mul_succ,rK]
  congr 1
  show _=stn 8 (c ^^^ (b.toNat ^^^ 256 * val l))
  rw [←Ex,AZ 8 _ (256 * val l),Es 256,show 256=2 ^ 8 by decide,AX]
theorem D2 (b y:Nat) (hb:b<256):b ^^^ 256 * y=b+256 * y:=by
 have h1:(b ^^^ 256 * y) % 2 ^ 8=b:=by rw [Nat.xor_mod_two_pow];simp [show 256 * y % 2 ^ 8=0 by omega];omega
 have h2:(b ^^^ 256 * y) / 2 ^ 8=y:=by rw [Nat.xor_div_two_pow];simp [show b / 2 ^ 8=0 by omega]
 omega
theorem su (b:UInt8) (l:List UInt8):val (b::l)=b.toNat+256 * val l:=D2 _ _ b.toNat_lt
theorem C6 (l:List UInt8):val l<2 ^ (8 * l.length):=by
 induction l with
 | nil=>decide
 | cons b l ih =>
  have:=b.toNat_lt;rw [su,DM,Nat.mul_succ,Nat.pow_add];omega
def bs (c E:Nat):Nat→Nat
 | 0=>c
 | k+1=>st (bs c E k ^^^ E / 2 ^ k % 2)
theorem wx (x:Nat):x=x % 2 ^^^ 2 * (x / 2):=by
 refine Nat.eq_of_testBit_eq fun i=>?_
 rw [Nat.testBit_xor];have h1:(x % 2).testBit i=(decide (i<1) && x.testBit i):=by rw [show x % 2=x % 2 ^ 1 by rw [Nat.pow_one],Nat.testBit_mod_two_pow]
 have h2:(2 * (x / 2)).testBit i=(decide (1≤i) && x.testBit i):=by
  rw [show 2 * (x / 2)=2 ^ 1 * (x / 2 ^ 1) by rw [Nat.pow_one],Nat.testBit_two_pow_mul,Nat.testBit_div_two_pow];by_cases hi:1≤i
  ·simp [hi]
  ·simp [hi]
 rw [h1,h2];by_cases hi:1≤i
 ·simp [hi,show ¬ i<1 by omega]
 ·simp [hi,show i<1 by omega]
theorem un (c E k:Nat):bs c E k ^^^ E / 2 ^ k=stn k (c ^^^ E):=by
 induction k with
 | zero=>show c ^^^ E / 1=_;rw [Nat.div_one];rfl
 | succ k ih =>
  rw [kD,←ih];have h:E / 2 ^ k=E / 2 ^ k % 2 ^^^ 2 * (E / 2 ^ (k+1)):=by
   rw [Eb,←EX];exact wx _
  conv=>rhs;rw [h]
  rw [←Ex,rF _ (2 * _),rE];rfl
theorem up (c:Nat) (l:List UInt8):bs c (val l) (8 * l.length)=run c l:=by
 have:=un c (val l) (8 * l.length);rw [Nat.div_eq_of_lt (C6 l),Nat.xor_zero,←Al] at this;exact this
theorem uo {c:Nat} (E k:Nat) (h:c<4294967296):bs c E k<4294967296:=by
 induction k with
 | zero=>exact h
 | succ k ih=>exact rD (xlt ih (by omega))
theorem C1 (l:List UInt8):∀ (j r:Nat) (h:j<l.length),r<8→val l / 2 ^ (8 * j+r) % 2=l[j].toNat / 2 ^ r % 2:=by
 induction l with
 | nil=>intro j r h;simp at h
 | cons b l ih =>
  intro j r h hr;rw [su];have hb:=b.toNat_lt;cases j with
  | zero =>
   rw [Nat.mul_zero,DY,EM];rw [show 256 * val l=2 ^ r * (2 ^ (8-r) * val l) by rw [←Nat.mul_assoc,←Nat.pow_add,show r+(8-r)=8 by omega]];rw [Nat.add_mul_div_left _ _ (Nat.two_pow_pos r),show 8-r=(7-r)+1 by omega,Eb,Es _ 2,Nat.mul_assoc];omega
  | succ j =>
   rw [EN,←ih j r (by simpa using h) hr,Nat.mul_succ,show 8 * j+8+r=8+(8 * j+r) by omega,Nat.pow_add,←EX]
   congr 2
   omega
end
section
theorem toL (s:ByteArray):s.toList=s.data.toList:=Ew s
theorem bY {a b:ByteArray} (h:a.data.toList=b.data.toList):a=b:=by
 cases a;cases b;simp_all
end
section
def smC (l:List UInt8) (a b m n:Nat):Prop :=
 n≤m∧(∀ j,j<n→l.getD (a+j) 0=l.getD (a+j-b) 0)∧(n<m→l.getD (a+n) 0≠l.getD (a+n-b) 0)
def sm (l:List UInt8) (a b:Nat):Nat→Nat
 | 0=>0
 | m+1=>if sm l a b m<m then sm l a b m else if l.getD (a+m) 0=l.getD (a+m-b) 0 then m+1 else m
theorem mZ (l:List UInt8) (a b m:Nat):smC l a b m (sm l a b m):=by
 induction m with
 | zero=>exact ⟨Db _,fun j h=>by simp [sm] at h,fun h=>by simp [sm] at h⟩
 | succ m ih =>
  obtain ⟨h1,h2,h3⟩:=ih;rw [sm];by_cases h:sm l a b m<m
  ·rw [if_pos h];exact ⟨by omega,h2,fun _=>h3 h⟩
  ·rw [if_neg h];have e:sm l a b m=m:=by omega
   rw [e] at h2;by_cases hq:l.getD (a+m) 0=l.getD (a+m-b) 0
   ·rw [if_pos hq];refine ⟨Db _,fun j hj=>?_,fun hj=>absurd hj (Nat.lt_irrefl _)⟩;by_cases hjm:j=m
    ·subst hjm;exact hq
    ·exact h2 j (by omega)
   ·rw [if_neg hq];exact ⟨by omega,h2,fun _=>hq⟩
theorem AM {l:List UInt8} {a b m n n':Nat} (h:smC l a b m n) (h':smC l a b m n'):n=n':=by
 obtain ⟨h1,h2,h3⟩:=h;obtain ⟨k1,k2,k3⟩:=h';rcases Nat.lt_trichotomy n n' with hl | hl | hl
 ·exact absurd (k2 n hl) (h3 (by omega))
 ·exact hl
 ·exact absurd (h2 n' hl) (k3 (by omega))
theorem kB {l:List UInt8} {a b m n:Nat} (h:smC l a b m n):sm l a b m=n:=AM (mZ l a b m) h
theorem rt (l:List UInt8) (a b m:Nat):sm l a b m≤m:=(mZ l a b m).1
def cA (l:List UInt8) (a m lo hi b n:Nat):Prop :=
 (b=0∧n=0∧∀ k,lo≤k→k≤hi→sm l a k m<4) ∨
 (lo≤b∧b≤hi∧4≤n∧n=sm l a b m∧(∀ k,lo≤k→k≤hi→sm l a k m≤n)∧∀ k,lo≤k→k<b→sm l a k m<n)
theorem tS {l:List UInt8} {a m lo hi b n b' n':Nat} (h:cA l a m lo hi b n) (h':cA l a m lo hi b' n'):b=b'∧n=n':=by
 rcases h with ⟨h1,h2,h3⟩ | ⟨h1,h2,h3,h4,h5,h6⟩
 ·rcases h' with ⟨k1,k2,k3⟩ | ⟨k1,k2,k3,k4,k5,k6⟩
  ·exact ⟨by omega,by omega⟩
  ·have:=h3 b' k1 k2;omega
 ·rcases h' with ⟨k1,k2,k3⟩ | ⟨k1,k2,k3,k4,k5,k6⟩
  ·have:=k3 b h1 h2;omega
  ·have e1:=h5 b' k1 k2;have e2:=k5 b h1 h2;refine ⟨?_,by omega⟩;rcases Nat.lt_trichotomy b b' with hl | hl | hl
   ·have:=k6 b h1 hl;omega
   ·exact hl
   ·have:=h6 b' k1 hl;omega
theorem oG {l:List UInt8} {a m lo hi b n:Nat} (h:cA l a m lo hi b n) (hlo:lo≤hi+1) (h4:4≤sm l a (hi+1) m) (hn:n<sm l a (hi+1) m):cA l a m lo (hi+1) (hi+1) (sm l a (hi+1) m):=by
 have hall:∀ k,lo≤k→k<hi+1→sm l a k m<sm l a (hi+1) m:=fun k h1 h2=>by
  rcases h with ⟨i1,i2,i3⟩ | ⟨i1,i2,i3,i4,i5,i6⟩
  ·have:=i3 k h1 (by omega);omega
  ·have:=i5 k h1 (by omega);omega
 refine .inr ⟨hlo,Db _,h4,rfl,fun k h1 h2=>?_,fun k h1 h2=>hall k h1 h2⟩;by_cases e:k=hi+1
 ·subst e;exact Db _
 ·exact DG (hall k h1 (by omega))
theorem oH {l:List UInt8} {a m lo hi b n:Nat} (h:cA l a m lo hi b n) (hn:¬ (4≤sm l a (hi+1) m∧n<sm l a (hi+1) m)):cA l a m lo (hi+1) b n:=by
 rcases h with ⟨i1,i2,i3⟩ | ⟨i1,i2,i3,i4,i5,i6⟩
 ·refine .inl ⟨i1,i2,fun k h1 h2=>?_⟩;by_cases e:k=hi+1
  ·subst e;omega
  ·exact i3 k h1 (by omega)
 ·refine .inr ⟨i1,by omega,i3,i4,fun k h1 h2=>?_,i6⟩;by_cases e:k=hi+1
  ·subst e;omega
  ·exact i5 k h1 (by omega)
theorem tR {l:List UInt8} {a m lo hi b n hi':Nat} (h:cA l a m lo hi b n) (hn:n=m) (hm:0<m) (hh:hi≤hi'):cA l a m lo hi' b n:=by
 rcases h with ⟨i1,i2,i3⟩ | ⟨i1,i2,i3,i4,i5,i6⟩
 ·omega
 ·exact .inr ⟨i1,by omega,i3,i4,fun k h1 h2=>by rw [hn];exact rt _ _ _ _,i6⟩
theorem lG {l:List UInt8} {a m lo hi b n:Nat} (h:cA l a m (lo+1) hi b n) (hlo:lo≤hi) (h4:4≤sm l a lo m) (hn:n≤sm l a lo m):cA l a m lo hi lo (sm l a lo m):=by
 refine .inr ⟨Db _,hlo,h4,rfl,fun k h1 h2=>?_,fun k h1 h2=>by omega⟩;by_cases e:k=lo
 ·subst e;exact Db _
 ·rcases h with ⟨i1,i2,i3⟩ | ⟨i1,i2,i3,i4,i5,i6⟩
  ·have:=i3 k (by omega) h2;omega
  ·have:=i5 k (by omega) h2;omega
theorem gN {l:List UInt8} {a m lo hi b n:Nat} (h:cA l a m (lo+1) hi b n) (hn:¬ (n≤sm l a lo m∧4≤sm l a lo m)):cA l a m lo hi b n:=by
 rcases h with ⟨i1,i2,i3⟩ | ⟨i1,i2,i3,i4,i5,i6⟩
 ·refine .inl ⟨i1,i2,fun k h1 h2=>?_⟩;by_cases e:k=lo
  ·subst e;omega
  ·exact i3 k (by omega) h2
 ·refine .inr ⟨by omega,i2,i3,i4,fun k h1 h2=>?_,fun k h1 h2=>?_⟩
  ·by_cases e:k=lo
   ·subst e;omega
   ·exact i5 k (by omega) h2
  ·by_cases e:k=lo
   ·subst e;omega
   ·exact i6 k (by omega) h2
def best (l:List UInt8) (a m:Nat):Nat→Nat×Nat
 | 0=>(0,0)
 | k+1=>if 4≤sm l a (k+1) m∧(best l a m k).2<sm l a (k+1) m then (k+1,sm l a (k+1) m) else best l a m k
theorem oI (l:List UInt8) (a m k:Nat):cA l a m 1 k (best l a m k).1 (best l a m k).2:=by
 induction k with
 | zero=>exact .inl ⟨rfl,rfl,fun k h1 h2=>by omega⟩
 | succ k ih =>
  rw [best];by_cases h:4≤sm l a (k+1) m∧(best l a m k).2<sm l a (k+1) m
  ·rw [if_pos h];exact oG ih (by omega) h.1 h.2
  ·rw [if_neg h];exact oH ih h
theorem lH {l:List UInt8} {a m k b n:Nat} (h:cA l a m 1 k b n):best l a m k=(b,n):=by
 obtain ⟨h1,h2⟩:=tS (oI l a m k) h;exact Prod.ext h1 h2
def find (l:List UInt8) (a:Nat):Nat×Nat:=if a<l.length then best l a (min 67 (l.length-a)) (min 1024 a) else (0,0)
theorem lY {l:List UInt8} {a:Nat} (h:a<l.length):find l a=best l a (min 67 (l.length-a)) (min 1024 a):=by unfold find;rw [if_pos h]
theorem vN {l:List UInt8} {a:Nat} (h:¬ a<l.length):find l a=(0,0):=by unfold find;rw [if_neg h]
theorem lX (l:List UInt8) (a:Nat):(find l a=(0,0)∧(a<l.length→∀ k,1≤k→k≤min 1024 a→sm l a k (min 67 (l.length-a))<4)) ∨
 ∃ b n,find l a=(b,n)∧a<l.length∧1≤b∧b≤1024∧b≤a∧4≤n∧n≤67∧a+n≤l.length∧smC l a b (min 67 (l.length-a)) n ∧
  (∀ k,1≤k→k≤min 1024 a→sm l a k (min 67 (l.length-a))≤n)∧∀ k,1≤k→k<b→sm l a k (min 67 (l.length-a))<n:=by
 by_cases h:a<l.length
 ·rw [lY h];obtain ⟨b,n,e⟩:∃ b n,best l a (min 67 (l.length-a)) (min 1024 a)=(b,n):=⟨_,_,rfl⟩;have hb:=oI l a (min 67 (l.length-a)) (min 1024 a);rw [e] at hb;rw [e];rcases hb with ⟨h1,h2,h3⟩ | ⟨h1,h2,h3,h4,h5,h6⟩
  ·simp only at h1 h2
   subst h1 h2;exact .inl ⟨rfl,fun _=>h3⟩
  ·simp only at h1 h2 h3 h4 h5 h6
   have hi:=mZ l a b (min 67 (l.length-a));rw [←h4] at hi;have:=hi.1;exact .inr ⟨b,n,rfl,h,h1,by omega,by omega,h3,by omega,by omega,hi,h5,h6⟩
 ·exact .inl ⟨vN h,fun h'=>absurd h' h⟩
structure Tok where
 own:ByteArray
 back:Int
 size:Int
deriving DecidableEq
def ownT (s:List UInt8):List Tok:=if s=[] then [] else [⟨⟨s.toArray⟩,0,0⟩]
def repT (b n:Nat):Tok:=⟨⟨#[]⟩,b,n⟩
theorem qE:ownT []=[]:=rfl
theorem mG {s:List UInt8} (h:s≠[]):ownT s=[⟨⟨s.toArray⟩,0,0⟩]:=by unfold ownT;rw [if_neg h]
def tks (l:List UInt8):Nat→Nat→Nat→List Tok
 | 0,fr,a=>ownT ((l.take a).drop fr)
 | f+1,fr,a =>
  if a<l.length then
   if (find l a).2=0 then tks l f fr (a+1)
   else ownT ((l.take a).drop fr)++repT (find l a).1 (find l a).2::tks l f (a+(find l a).2) (a+(find l a).2)
  else ownT ((l.take a).drop fr)
def toks (l:List UInt8):List Tok:=tks l l.length 0 0
theorem ni {l:List UInt8} {f fr a:Nat} (h:¬ a<l.length):tks l f fr a=ownT ((l.take a).drop fr):=by
 cases f with
 | zero=>rfl
 | succ f=>rw [tks,if_neg h]
theorem nk {l:List UInt8} {f fr a:Nat} (h:a<l.length) (hf:(find l a).2=0):tks l (f+1) fr a=tks l f fr (a+1):=by
 rw [tks,if_pos h,if_pos hf]
theorem nj {l:List UInt8} {f fr a b n:Nat} (h:a<l.length) (hf:find l a=(b,n)) (hn:n≠0):tks l (f+1) fr a=ownT ((l.take a).drop fr)++repT b n::tks l f (a+n) (a+n):=by
 rw [tks,if_pos h,hf,if_neg hn]
end
section
open Go.RowKit
def atIs (w:World) (v:Value) (r:Nat×Int):Prop :=
 (r=(0,-1)∧v=.nilIface)∨(r.1≠0∧∃ b,v=.iface 103 (.pointer (some ⟨b,0,none⟩))∧b<w.heap.size∧w.cell? ⟨b,0,none⟩=some (.int .i64 (r.1:Nat))∧w.cell? ⟨b,1,none⟩=some (.int .i64 r.2))
theorem atIs.below {w w':World} {v:Value} {r:Nat×Int} (h:atIs w v r) (hb:Below w.heap.size w w'):atIs w' v r:=by
 rcases h with h | ⟨h0,b,h1,h2,h3,h4⟩
 ·exact .inl h
 ·exact .inr ⟨h0,b,h1,Dv h2 hb.size,(hb.cell (p:=⟨b,0,none⟩) h2).trans h3,(hb.cell (p:=⟨b,1,none⟩) h2).trans h4⟩
theorem atIs.new (w:World) (e:Nat) (pl:Int) (he:e≠0):atIs (w.alloc (.cells #[.int .i64 e,.int .i64 pl] 106)) (.iface 103 (.pointer (some ⟨w.heap.size,0,none⟩))) (e,pl) :=
 .inr ⟨he,_,rfl,by simp,by simp,by simp⟩
def jc (w:World) (r:Nat×Int) (e:Ending) (w':World):Prop :=
 ∃ v,e=.returned v∧atIs w' v r∧Below w.heap.size w w'
end
section
open Go.RowKit
theorem mr:(Tryz.prog.info? 9).map (fun i=>(i.zero,i.size,i.bytes))=some (some (.string ⟨#[]⟩),1,16):=by kernel_rfl
def ak (w:World) (base:Nat) (v:Value) (l:List ByteArray):Prop:=w.ownsRow base 9 1 v l.length (l.map Value.string)
theorem bK (w:World) (base:Nat):ak w base (.slice none 0 0) []:=Ev _ _ _ _
theorem ak.alloc {w:World} {base:Nat} {v:Value} {l:List ByteArray} (h:ak w base v l) (o:Obj):ak (w.alloc o) base v l:=EI h o
theorem ak.drew {w:World} {base:Nat} {v:Value} {l:List ByteArray} (h:ak w base v l):ak w.drew base v l:=World.ownsRow.drew h
theorem ak.lt {w:World} {base:Nat} {v:Value} {l:List ByteArray} (h:ak w base v l):∀ k,v.ownBlock=some k→base≤k∧k<w.heap.size:=DQ h
theorem ak.below {w w':World} {base:Nat} {v:Value} {l:List ByteArray} (h:ak w base v l) (hb:Below w.heap.size w w'):ak w' base v l:=by
 refine Dt h (row:=none) ⟨hb.os,hb.tape,hb.output,hb.size,fun k hk _=>hb.block k hk⟩ ?_;cases hv:v.ownBlock with
 | none=>exact .inl rfl
 | some g=>exact .inr (by simp)
theorem ak.forms {w:World} {base:Nat} {v:Value} {l:List ByteArray} (h:ak w base v l) :
 (v=.slice none 0 0∧l=[])∨∃ g cap,v=.slice (some ⟨g,0,none⟩) l.length cap∧base≤g∧g<w.heap.size∧∀ j,j<l.length→w.cell? ⟨g,j,none⟩=some (.string (l.getD j ByteArray.empty)):=by
 have hall:=h;obtain ⟨h0,h1⟩:=h;rcases h1 with ⟨rfl,hn⟩ | ⟨g,cap,cur,rfl,hb,hh,hc,hm,hs,ht⟩
 ·exact .inl ⟨rfl,E0.1 hn⟩
 ·refine .inr ⟨g,cap,rfl,hb,(DQ hall g rfl).2,fun j hj=>?_⟩;rw [Ej hall j (by omega)];simp [Di hj]
theorem fi {w:World} {ops:Array Oper} {rest:List Oper} {o:Oper} {a:Act} {Q:Exit→Act→World→Prop} (hgd:o.guard=none) (s x:Operand)
 (ho:o.op=.call { callee:=.builtin .append,args:=#[s,x],argTypes:=#[86,86] })
 (base:Nat) (v:Value) (l:List ByteArray) (hs:a.eval s=v) (hown:ak w base v l)
 (ad:Addr) (c:Nat) (hx:a.eval x=.slice (some ad) 1 c) (d:ByteArray) (hcell:w.cell? (ad.add 0)=some (.string d))
 (hlen:l.length+1≤8796093022208) (hbase:base≤w.heap.size)
 (h:∀ g cap w',ak w' base (.slice (some ⟨g,0,none⟩) (l.length+1) cap) (l++[d])→w.grownBy w' v.ownBlock→wpList Tryz.prog ops Q rest (a.put o.dst (.slice (some ⟨g,0,none⟩) (l.length+1) cap)) w'):wpList Tryz.prog ops Q (o::rest) a w:=by
 obtain ⟨i0,hi,hz0,hz1,hz2⟩:=DU mr;refine wpList_append_lies w hgd s x 86 ho base 9 i0 (.string ⟨#[]⟩) 1 16 Tryz.underlying86 hi hz0 hz1 hz2 rfl (by decide) v l.length (l.map Value.string) hs hown ad 1 c [.string d] hx rfl ?_ ?_ (by decide) (by unfold maxLen;omega) (by omega) hbase _ rfl ?_
 ·intro j u hj
  match j,hj with
  | 0,hj=>simp at hj;subst hj;exact hcell
 ·intro u hu;simp at hu;subst hu;rfl
 ·intro g cap w' h1 h2 _ _;refine h g cap w' ?_ h2;unfold ak;rw [Df,En];exact h1
end
section
open Go.RowKit
def bJ:Nat→Nat→Nat
 | 0,_=>0
 | f+1,n=>if n=0 then 0 else bJ f (n / 2)+1
theorem oL (f:Nat):bJ f 0=0:=by cases f <;> simp [bJ]
theorem ji (f:Nat):∀ n k,n<2 ^ f→bJ (f+k) n=bJ f n:=by
 induction f with
 | zero => intro n k h; have : n = 0 := by simpa using h
           subst this;rw [oL,oL]
 | succ f ih =>
  intro n k h;rw [show f+1+k=(f+k)+1 by omega,bJ,bJ];by_cases h0:n=0
  ·rw [if_pos h0,if_pos h0]
  ·rw [if_neg h0,if_neg h0,ih (n / 2) k (by rw [Eb] at h;omega)]
theorem oK (f:Nat):∀ c n,2 ^ c≤n→bJ (f+c) n=c+bJ f (n / 2 ^ c):=by
 intro c
 induction c with
 | zero=>intro n _;simp
 | succ c ih =>
  intro n h;rw [Eb] at h;have h0:n≠0:=by have:=Nat.two_pow_pos c;omega
  rw [show f+(c+1)=(f+c)+1 by omega,bJ,if_neg h0,ih (n / 2) (by omega),EX,Eb,Es 2];omega
theorem dN (f:Nat):∀ n,bJ f n≤f:=by
 induction f with
 | zero=>intro n;simp [bJ]
 | succ f ih => intro n; rw [bJ]; split
                ·omega
                ·have:=ih (n / 2);omega
def cK (n:Nat):Nat:=bJ 64 n
theorem tW {n:Nat} (h:n<256):cK n=bJ 8 n:=ji 8 n 56 (by omega)
theorem fp {n:Nat} (c f:Nat) (hc:8+f+c=64) (h:2 ^ c≤n) (hx:n / 2 ^ c<256):cK n=c+bJ 8 (n / 2 ^ c):=by
 unfold cK;rw [←hc,oK (8+f) c n h,ji 8 _ f (by omega)]
def ls (T : ByteArray) : Prop := ∀ x, x < 256 → ∃ h : x < T.size, (T[x]'h).toNat = bJ 8 x
theorem ls.at {T : ByteArray} (H : ls T) {n : Int} (x : Nat) (e : n.toNat = x) (hx : x < 256) (h : n.toNat < T.size) : (T[n.toNat]'h).toNat = bJ 8 x := by
 obtain ⟨_,h2⟩:=H n.toNat (by omega);rw [h2,e]
theorem fa {a b:Int} {t c N:Nat} (ht:t=N) (hN:N≤8) (hc:c≤56) (ha:a=wrap64 ((c:Int)+wrap64 (t:Int))) (hb:b=((c+N:Nat):Int)):Ending.returned (.int .i64 a)=.returned (.int .i64 b):=by
 subst ht;rw [ha,hb,IntWalk.wrap64_in (t:Int) ⟨by omega,by omega⟩,IntWalk.wrap64_in _ ⟨by omega,by omega⟩]
 rfl
theorem xo (n:Int) (w:World) (h0:0≤n) (h1:n≤18446744073709551615) :
 Calls Tryz.prog 53 #[.int .u64 n] w fun e w'=>e=.returned (.int .i64 (cK n.toNat))∧w=w':=by
 go_enter Tryz.func53,Tryz.ntmps53
 generalize hT:ByteArray.mk _=T;have H1:ls T:=by
  subst hT;show ∀ x,x<256→_
  decide +kernel
 have hsz:(255:Int)<(T.size:Int):=by
  obtain ⟨h,_⟩:=H1 255 (by decide);omega
 clear hT;have H2:=hid H1;clear H1;go_wp2
 ·go_ret;exact ⟨fa (c:=56) (H2.out.at (n.toNat / 2 ^ 56) (by omega) (by omega) (by omega)) (dN 8 _) (by omega) rfl (by rw [fp 56 0 (by omega) (by omega) (by omega)]),rfl⟩
 ·go_ret;exact ⟨fa (c:=48) (H2.out.at (n.toNat / 2 ^ 48) (by omega) (by omega) (by omega)) (dN 8 _) (by omega) rfl (by rw [fp 48 8 (by omega) (by omega) (by omega)]),rfl⟩
 ·go_ret;exact ⟨fa (c:=40) (H2.out.at (n.toNat / 2 ^ 40) (by omega) (by omega) (by omega)) (dN 8 _) (by omega) rfl (by rw [fp 40 16 (by omega) (by omega) (by omega)]),rfl⟩
 ·go_ret;exact ⟨fa (c:=32) (H2.out.at (n.toNat / 2 ^ 32) (by omega) (by omega) (by omega)) (dN 8 _) (by omega) rfl (by rw [fp 32 24 (by omega) (by omega) (by omega)]),rfl⟩
 ·go_ret;exact ⟨fa (c:=24) (H2.out.at (n.toNat / 2 ^ 24) (by omega) (by omega) (by omega)) (dN 8 _) (by omega) rfl (by rw [fp 24 32 (by omega) (by omega) (by omega)]),rfl⟩
 ·go_ret;exact ⟨fa (c:=16) (H2.out.at (n.toNat / 2 ^ 16) (by omega) (by omega) (by omega)) (dN 8 _) (by omega) rfl (by rw [fp 16 40 (by omega) (by omega) (by omega)]),rfl⟩
 ·go_ret;exact ⟨fa (c:=8) (H2.out.at (n.toNat / 2 ^ 8) (by omega) (by omega) (by omega)) (dN 8 _) (by omega) rfl (by rw [fp 8 48 (by omega) (by omega) (by omega)]),rfl⟩
 ·go_ret;exact ⟨fa (c:=0) (H2.out.at n.toNat rfl (by omega) (by omega)) (dN 8 _) (by omega) (by rw [Int.natCast_zero,Int.zero_add]) (by rw [tW (by omega),DY]),rfl⟩
end
section
open Go.RowKit
theorem dF (w:World):Calls Tryz.prog 32 #[] w fun e w'=>e=.returned (.agg #[.int .i64 0,.int .i64 (-1)])∧Below w.heap.size w w':=by
 go_enter Tryz.func32,Tryz.ntmps32
 go_wp2;refine Dc (v:=.agg #[.int .i64 0,.int .i64 (-1)]) (by simp [results,Tryz.results32,go_sem]) rfl ?_;exact ⟨rfl,(Below.refl _ _).alloc (Db _) _⟩
theorem aH (e pl:Int) (w:World):Calls Tryz.prog 6 #[.agg #[.int .i64 e,.int .i64 pl]] w fun r w'=>r=.returned (.bool (e == 0))∧Below w.heap.size w w':=by
 go_enter Tryz.func6,Tryz.ntmps6
 go_wp2;go_ret;exact ⟨rfl,(Below.refl _ _).alloc (Db _) _⟩
def bH (r:Nat×Int):Value:=.agg #[.int .i64 (r.1:Nat),.int .i64 r.2]
end
section
open Go.RowKit
theorem pJ:(Tryz.prog.info? 3).map (fun i=>(i.zero,i.size,i.bytes))=some (some (.int .i64 0),1,8):=by kernel_rfl
def natV (n:Nat):Value:=.int .i64 (n:Int)
def aG (w:World) (base:Nat) (v:Value) (l:List Nat):Prop:=w.ownsRow base 3 1 v l.length (l.map natV)
theorem dr (w:World) (base:Nat):aG w base (.slice none 0 0) []:=Ev _ _ _ _
theorem aG.alloc {w:World} {base:Nat} {v:Value} {l:List Nat} (h:aG w base v l) (o:Obj):aG (w.alloc o) base v l:=EI h o
theorem aG.drew {w:World} {base:Nat} {v:Value} {l:List Nat} (h:aG w base v l):aG w.drew base v l:=World.ownsRow.drew h
theorem aG.lt {w:World} {base:Nat} {v:Value} {l:List Nat} (h:aG w base v l):∀ k,v.ownBlock=some k→base≤k∧k<w.heap.size:=DQ h
theorem aG.below {w w':World} {base:Nat} {v:Value} {l:List Nat} (h:aG w base v l) (hb:Below w.heap.size w w'):aG w' base v l:=by
 refine Dt h (row:=none) ⟨hb.os,hb.tape,hb.output,hb.size,fun k hk _=>hb.block k hk⟩ ?_;cases hv:v.ownBlock with
 | none=>exact .inl rfl
 | some g=>exact .inr (by simp)
theorem aG.forms {w:World} {base:Nat} {v:Value} {l:List Nat} (h:aG w base v l) :
 (v=.slice none 0 0∧l=[])∨∃ g cap,v=.slice (some ⟨g,0,none⟩) l.length cap∧base≤g∧g<w.heap.size∧∀ j,j<l.length→w.cell? ⟨g,j,none⟩=some (.int .i64 ((l.getD j 0:Nat):Int)):=by
 have hall:=h;obtain ⟨h0,h1⟩:=h;rcases h1 with ⟨rfl,hn⟩ | ⟨g,cap,cur,rfl,hb,hh,hc,hm,hs,ht⟩
 ·exact .inl ⟨rfl,E0.1 hn⟩
 ·refine .inr ⟨g,cap,rfl,hb,(DQ hall g rfl).2,fun j hj=>?_⟩;rw [Ej hall j (by omega)];simp [Di hj,natV]
theorem cU {w:World} {ops:Array Oper} {rest:List Oper} {o:Oper} {a:Act} {Q:Exit→Act→World→Prop} (hgd:o.guard=none) (s x:Operand)
 (ho:o.op=.call { callee:=.builtin .append,args:=#[s,x],argTypes:=#[87,87] })
 (base:Nat) (v:Value) (l:List Nat) (hs:a.eval s=v) (hown:aG w base v l)
 (ad:Addr) (c:Nat) (hx:a.eval x=.slice (some ad) 1 c) (d:Nat) (hcell:w.cell? (ad.add 0)=some (.int .i64 (d:Int)))
 (hlen:l.length+1≤8796093022208) (hbase:base≤w.heap.size)
 (h:∀ g cap w',aG w' base (.slice (some ⟨g,0,none⟩) (l.length+1) cap) (l++[d])→w.grownBy w' v.ownBlock→wpList Tryz.prog ops Q rest (a.put o.dst (.slice (some ⟨g,0,none⟩) (l.length+1) cap)) w'):wpList Tryz.prog ops Q (o::rest) a w:=by
 obtain ⟨i0,hi,hz0,hz1,hz2⟩:=DU pJ;refine wpList_append_lies w hgd s x 87 ho base 3 i0 (.int .i64 0) 1 8 Tryz.underlying87 hi hz0 hz1 hz2 rfl (by decide) v l.length (l.map natV) hs hown ad 1 c [natV d] hx rfl ?_ ?_ (by decide) (by unfold maxLen;omega) (by omega) hbase _ rfl ?_
 ·intro j u hj
  match j,hj with
  | 0,hj=>simp at hj;subst hj;exact hcell
 ·intro u hu;simp at hu;subst hu;rfl
 ·intro g cap w' h1 h2 _ _;refine h g cap w' ?_ h2;unfold aG;rw [Df,En];exact h1
end
