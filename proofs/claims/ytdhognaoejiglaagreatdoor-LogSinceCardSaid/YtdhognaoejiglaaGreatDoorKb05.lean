import Derived.Test.YtdhognaoejiglaaGreatDoorKb04
import Derived.Lib.AppendStr
import Derived.Lib.Builder
import Derived.Lib.UnsafeStr
namespace Go.Proofs.YtdhognaoejiglaaGreatDoor
open Lib (hid)
set_option maxRecDepth 100000
set_option maxHeartbeats 8000000
section
open Go.RowKit
theorem Dp {a b:Int} (h:a=b):Ending.returned (.int .u32 a)=.returned (.int .u32 b):=by rw [h]
theorem pP (n:Nat) (h:n<4294967296):bits .and .u32 (n:Int) 1=((n % 2:Nat):Int):=by
 rw [show (1:Int)=((1:Nat):Int) from rfl,u32_and_nat n 1 h (by decide),Nat.and_one_is_mod]
theorem xb {n:Nat} (h:n<4294967296) (ht:(bits .and .u32 (n:Int) 1 == 1)=true):n % 2=1:=by
 rw [pP n h] at ht;have:=eq_of_beq ht;omega
theorem xa {n:Nat} (h:n<4294967296) (ht:(bits .and .u32 (n:Int) 1 == 1)=false):n % 2≠1:=by
 intro e;rw [pP n h,e] at ht;exact absurd ht (by decide)
theorem rL (n:Nat):(n:Int) / 2=((n / 2:Nat):Int):=by omega
theorem Ec {n:Nat} (h:n<4294967296) (ht:n % 2=1):bits .xor .u32 ((n:Int) / 2) 2197175160=(st n:Nat):=by
 rw [tR ht,rL,show (2197175160:Int)=((2197175160:Nat):Int) from rfl,u32_xor_nat _ _ (by omega) (by omega)]
theorem Eb {n:Nat} (ht:n % 2≠1):(n:Int) / 2=(st n:Nat):=by
 rw [tQ ht,rL]
end
section
open Go.RowKit
theorem toLs (s:ByteArray):s.toList=s.data.toList:=ByteArray.toList_eq s
theorem qL {s:ByteArray} (h:s.size=0):s.toList.isEmpty=true:=by
 rw [toLs];have hl:=aj s;cases hd:s.data.toList with
 | nil=>rfl
 | cons a r=>rw [hd,h] at hl;simp at hl
theorem rm {s:ByteArray} (h:s.size≠0):s.toList.isEmpty=false:=by
 rw [toLs];have hl:=aj s;cases hd:s.data.toList with
 | nil=>rw [hd] at hl;exact absurd hl h
 | cons a r=>rfl
def tokV (t:Tok):Value:=.agg #[.string t.own,.int .i64 t.back,.int .i64 t.size]
theorem mC (s:ByteArray) (b n:Int) (w:World) (h1:4≤n) (h2:n≤67) (h3:1≤b) (h4:b≤1024) :
 Calls Tryz.prog 220 #[.agg #[.string s,.int .i64 b,.int .i64 n]] w fun e w'=>e=.returned (.bool false)∧Below w.heap.size w w':=by
 have d1:decide (n<4)=false:=by simp;omega
 have d2:decide (67<n)=false:=by simp;omega
 have d3:decide (b<1)=false:=by simp;omega
 have d4:decide (1024<b)=false:=by simp;omega
 go_enter Tryz.func220,Tryz.ntmps220
 go_wp2;go_ret;exact ⟨rfl,(Below.refl _ _).alloc (Nat.le_refl _) _⟩
theorem qe (s:ByteArray) (b n:Int) (w:World) (h:n<4∨67<n∨b<1∨1024<b) :
 Calls Tryz.prog 220 #[.agg #[.string s,.int .i64 b,.int .i64 n]] w fun e w'=>e=.returned (.bool true)∧Below w.heap.size w w':=by
 by_cases c1:n<4
 ·have d1:decide (n<4)=true:=by simpa using c1
  clear h;go_enter Tryz.func220,Tryz.ntmps220
  go_wp2;go_ret;exact ⟨rfl,(Below.refl _ _).alloc (Nat.le_refl _) _⟩
 ·have d1:decide (n<4)=false:=by simpa using c1
  by_cases c2:67<n
  ·have d2:decide (67<n)=true:=by simpa using c2
   clear h;go_enter Tryz.func220,Tryz.ntmps220
   go_wp2;go_ret;exact ⟨rfl,(Below.refl _ _).alloc (Nat.le_refl _) _⟩
  ·have d2:decide (67<n)=false:=by simpa using c2
   by_cases c3:b<1
   ·have d3:decide (b<1)=true:=by simpa using c3
    clear h;go_enter Tryz.func220,Tryz.ntmps220
    go_wp2;go_ret;exact ⟨rfl,(Below.refl _ _).alloc (Nat.le_refl _) _⟩
   ·have d3:decide (b<1)=false:=by simpa using c3
    have c4:1024<b:=by omega
    have d4:decide (1024<b)=true:=by simpa using c4
    clear h;go_enter Tryz.func220,Tryz.ntmps220
    go_wp2;go_ret;exact ⟨rfl,(Below.refl _ _).alloc (Nat.le_refl _) _⟩
theorem j9 (s:ByteArray) (b n:Int) (w:World) (hs:s.size≤140737488351232) (h0:0≤n) (h1:n≤1000) :
 Calls Tryz.prog 205 #[.agg #[.string s,.int .i64 b,.int .i64 n]] w fun e w'=>e=.returned (.int .i64 (lenT ⟨s,b,n⟩:Nat))∧Below w.heap.size w w':=by
 have HE:Hid (((s.size:Int)+n)=(lenT ⟨s,b,n⟩:Nat)):=by
  have h:((s.size:Int)+n)=(lenT ⟨s,b,n⟩:Nat):=by show _=(((s.size+n.toNat:Nat)):Int);omega
  exact h
 go_enter Tryz.func205,Tryz.ntmps205
 go_wp2;go_ret;exact ⟨by rw [←HE.out];rfl,(Below.refl _ _).alloc (Nat.le_refl _) _⟩
theorem vX (s:ByteArray) (b n:Int) (a:Nat) (w:World) (hs:s.size≤140737488351232) (ha:a≤20000) :
 Calls Tryz.prog 204 #[.agg #[.string s,.int .i64 b,.int .i64 n],.int .i64 a] w fun e w'=>e=.returned (.int .i64 (aF ⟨s,b,n⟩ a:Nat))∧Below w.heap.size w w':=by
 by_cases h0:s.size=0
 ·have e1:=qL h0;by_cases hz:n=0∧b=0
  ·have HW : Hid (aF ⟨s, b, n⟩ a = 1) := by
    have h:aF ⟨s,b,n⟩ a=1:=by unfold aF;rw [if_pos h0,if_pos hz]
    exact h
   obtain ⟨rfl,rfl⟩:=hz;clear h0 hs;go_enter Tryz.func204,Tryz.ntmps204
   go_wp2;go_ret;exact ⟨by rw [HW.out];rfl,(Below.refl _ _).alloc (Nat.le_refl _) _⟩
  ·by_cases hy:n<4∨67<n∨b<1∨1024<b
   ·have HW : Hid (aF ⟨s, b, n⟩ a = 2) := by
     have h:aF ⟨s,b,n⟩ a=2:=by unfold aF;rw [if_pos h0,if_neg hz,if_pos hy]
     exact h
    have HY:=hid hy;clear hy;by_cases h1:n=0
    ·subst h1;have d1:(b != 0)=true:=by simp;omega
     clear h0 hs hz;go_enter Tryz.func204,Tryz.ntmps204
     go_wp2_with fail
     refine (qe s b 0 _ HY.out).mono ?_;rintro r w1 ⟨rfl,hb1⟩;have HB:Hid (Below w.heap.size w w1):=((Below.refl _ _).alloc (Nat.le_refl _) _).trans (hb1.mono (by simp));clear hb1;go_wp2;go_ret;exact ⟨by rw [HW.out];rfl,HB.out⟩
    ·have d1:(n != 0)=true:=by simp;omega
     clear h0 hs hz h1;go_enter Tryz.func204,Tryz.ntmps204
     go_wp2_with fail
     refine (qe s b n _ HY.out).mono ?_;rintro r w1 ⟨rfl,hb1⟩;have HB:Hid (Below w.heap.size w w1):=((Below.refl _ _).alloc (Nat.le_refl _) _).trans (hb1.mono (by simp));clear hb1;go_wp2;go_ret;exact ⟨by rw [HW.out];rfl,HB.out⟩
   ·have h4:4≤n:=by omega
    have h5:n≤67:=by omega
    have h6:1≤b:=by omega
    have h7:b≤1024:=by omega
    have d1:(n != 0)=true:=by simp;omega
    have HL:Hid ((lenT ⟨s,b,n⟩:Nat)=n.toNat):=by
     have h:lenT ⟨s,b,n⟩=n.toNat:=by show s.size+n.toNat=_;omega
     exact h
    obtain ⟨n,rfl⟩:=Int.eq_ofNat_of_zero_le (show 0≤n by omega);rw [Int.toNat_natCast] at HL;by_cases h8:(a:Int)<b
    ·have HW : Hid (aF ⟨s, b, n⟩ a = 7) := by
      have h:aF ⟨s,b,n⟩ a=7:=by unfold aF;rw [if_pos h0,if_neg hz,if_neg hy,if_pos h8]
      exact h
     clear h0 hz hy HL;go_enter Tryz.func204,Tryz.ntmps204
     go_wp2_with fail
     refine (mC s b _ _ h4 h5 h6 h7).mono ?_;rintro r w1 ⟨rfl,hb1⟩;have HB:Hid (Below w.heap.size w w1):=((Below.refl _ _).alloc (Nat.le_refl _) _).trans (hb1.mono (by simp));have c0:w1.cell? ⟨w.heap.size,0,none⟩=some (.string s):=(hb1.cell (by simp)).trans (by simp);have c1:w1.cell? ⟨w.heap.size,1,none⟩=some (.int .i64 b):=(hb1.cell (by simp)).trans (by simp);have c2:w1.cell? ⟨w.heap.size,2,none⟩=some (.int .i64 n):=(hb1.cell (by simp)).trans (by simp);clear hb1;go_wp2;go_ret;exact ⟨by rw [HW.out];rfl,HB.out⟩
    ·by_cases h9:20000<(a:Int)+n
     ·have HW : Hid (aF ⟨s, b, n⟩ a = 4) := by
       have h:aF ⟨s,b,n⟩ a=4:=by unfold aF;rw [if_pos h0,if_neg hz,if_neg hy,if_neg h8,if_pos h9]
       exact h
      clear h0 hz hy;go_enter Tryz.func204,Tryz.ntmps204
      go_wp2_with fail
      refine (mC s b _ _ h4 h5 h6 h7).mono ?_;rintro r w1 ⟨rfl,hb1⟩;have HB:Hid (Below w.heap.size w w1):=((Below.refl _ _).alloc (Nat.le_refl _) _).trans (hb1.mono (by simp));have c0:w1.cell? ⟨w.heap.size,0,none⟩=some (.string s):=(hb1.cell (by simp)).trans (by simp);have c1:w1.cell? ⟨w.heap.size,1,none⟩=some (.int .i64 b):=(hb1.cell (by simp)).trans (by simp);have c2:w1.cell? ⟨w.heap.size,2,none⟩=some (.int .i64 n):=(hb1.cell (by simp)).trans (by simp);clear hb1;go_wp2_with fail
      refine (j9 s b _ _ hs (by omega) (by omega)).mono ?_;rintro r w2 ⟨rfl,hb2⟩;rw [HL.out];have HB2:Hid (Below w.heap.size w w2):=HB.out.trans (hb2.mono HB.out.size);clear hb2;go_wp2;go_ret;exact ⟨by rw [HW.out];rfl,HB2.out⟩
     ·have HW : Hid (aF ⟨s, b, n⟩ a = 0) := by
       have h:aF ⟨s,b,n⟩ a=0:=by unfold aF;rw [if_pos h0,if_neg hz,if_neg hy,if_neg h8,if_neg h9]
       exact h
      clear h0 hz hy;go_enter Tryz.func204,Tryz.ntmps204
      go_wp2_with fail
      refine (mC s b _ _ h4 h5 h6 h7).mono ?_;rintro r w1 ⟨rfl,hb1⟩;have HB:Hid (Below w.heap.size w w1):=((Below.refl _ _).alloc (Nat.le_refl _) _).trans (hb1.mono (by simp));have c0:w1.cell? ⟨w.heap.size,0,none⟩=some (.string s):=(hb1.cell (by simp)).trans (by simp);have c1:w1.cell? ⟨w.heap.size,1,none⟩=some (.int .i64 b):=(hb1.cell (by simp)).trans (by simp);have c2:w1.cell? ⟨w.heap.size,2,none⟩=some (.int .i64 n):=(hb1.cell (by simp)).trans (by simp);clear hb1;go_wp2_with fail
      refine (j9 s b _ _ hs (by omega) (by omega)).mono ?_;rintro r w2 ⟨rfl,hb2⟩;rw [HL.out];have HB2:Hid (Below w.heap.size w w2):=HB.out.trans (hb2.mono HB.out.size);clear hb2;go_wp2;go_ret;exact ⟨by rw [HW.out];rfl,HB2.out⟩
 ·have e1:=rm h0;have e2:(!s.toList.isEmpty)=true:=by rw [e1];rfl
  by_cases hy:n≠0∨b≠0
  ·have HW : Hid (aF ⟨s, b, n⟩ a = 1) := by
    have h:aF ⟨s,b,n⟩ a=1:=by unfold aF;rw [if_neg h0,if_pos hy]
    exact h
   by_cases h1:n=0
   ·have d0:(n != 0)=false:=by simp;omega
    have d1:(b != 0)=true:=by simp;omega
    clear hy h0 hs h1;go_enter Tryz.func204,Tryz.ntmps204
    go_wp2;go_ret;exact ⟨by rw [HW.out];rfl,(Below.refl _ _).alloc (Nat.le_refl _) _⟩
   ·have d1:(n != 0)=true:=by simp;omega
    clear hy h0 hs h1;go_enter Tryz.func204,Tryz.ntmps204
    go_wp2;go_ret;exact ⟨by rw [HW.out];rfl,(Below.refl _ _).alloc (Nat.le_refl _) _⟩
  ·obtain ⟨rfl,rfl⟩:n=0∧b=0:=by omega
   have HL:Hid ((lenT ⟨s,0,0⟩:Nat)=s.size):=by
    have h:lenT ⟨s,0,0⟩=s.size:=by show s.size+(0:Int).toNat=_;simp
    exact h
   have h8:¬ (a:Int)<0:=by omega
   by_cases h9:20000<a+s.size
   ·have HW : Hid (aF ⟨s, 0, 0⟩ a = 4) := by
     have h:aF ⟨s,0,0⟩ a=4:=by unfold aF;rw [if_neg h0,if_neg hy,if_pos h9]
     exact h
    have h10:20000<(a:Int)+(s.size:Int):=by omega
    clear h0 hy h9;go_enter Tryz.func204,Tryz.ntmps204
    go_wp2_with fail
    refine (j9 s 0 0 _ hs (by omega) (by omega)).mono ?_;rintro r w2 ⟨rfl,hb2⟩;rw [HL.out];have HB2:Hid (Below w.heap.size w w2):=((Below.refl _ _).alloc (Nat.le_refl _) _).trans (hb2.mono (by simp));clear hb2;go_wp2;go_ret;exact ⟨by rw [HW.out];rfl,HB2.out⟩
   ·have HW : Hid (aF ⟨s, 0, 0⟩ a = 0) := by
     have h:aF ⟨s,0,0⟩ a=0:=by unfold aF;rw [if_neg h0,if_neg hy,if_neg h9]
     exact h
    have h10:¬ 20000<(a:Int)+(s.size:Int):=by omega
    clear h0 hy h9;go_enter Tryz.func204,Tryz.ntmps204
    go_wp2_with fail
    refine (j9 s 0 0 _ hs (by omega) (by omega)).mono ?_;rintro r w2 ⟨rfl,hb2⟩;rw [HL.out];have HB2:Hid (Below w.heap.size w w2):=((Below.refl _ _).alloc (Nat.le_refl _) _).trans (hb2.mono (by simp));clear hb2;go_wp2;go_ret;exact ⟨by rw [HW.out];rfl,HB2.out⟩
end
section
open Go.RowKit
theorem bN.lt {w:World} {base:Nat} {v:Value} {l:List UInt8} (h:bN w base v l):∀ k,v.ownBlock=some k→base≤k∧k<w.heap.size:=World.ownsRow.lt h
theorem bN.forms {w:World} {base:Nat} {v:Value} {l:List UInt8} (h:bN w base v l) :
 (v=.slice none 0 0∧l=[])∨∃ g cap,v=.slice (some ⟨g,0,none⟩) l.length cap∧base≤g∧g<w.heap.size∧∀ j,j<l.length→w.cell? ⟨g,j,none⟩=some (.int .u8 ((l.getD j 0).toNat:Int)):=by
 have hall:=h;obtain ⟨h0,h1⟩:=h;rcases h1 with ⟨rfl,hn⟩ | ⟨g,cap,cur,rfl,hb,hh,hc,hm,hs,ht⟩
 ·exact .inl ⟨rfl,List.length_eq_zero_iff.1 hn⟩
 ·refine .inr ⟨g,cap,rfl,hb,(World.ownsRow.lt hall g rfl).2,fun j hj=>?_⟩;rw [World.ownsRow.cellAt hall j (by omega)];simp [List.getElem?_eq_getElem hj,gJ]
theorem bN.ne_tok {w:World} {base B:Nat} {v:Value} {l:List UInt8} {t:Tok} (h:bN w base v l) (hb:co w B t):v.ownBlock≠some B:=by
 rcases h.2 with ⟨rfl,_⟩ | ⟨g',cap,cur,rfl,_,hh,_⟩
 ·simp [Value.ownBlock]
 ·intro he;have:g'=B:=by simpa [Value.ownBlock] using he
  subst this;unfold co at hb;rw [hh] at hb;injection hb with hb
  injection hb with _ ht
  exact absurd ht (by decide)
theorem co.lt {w:World} {B:Nat} {t:Tok} (h:co w B t):B<w.heap.size:=by
 rcases Nat.lt_or_ge B w.heap.size with hlt | hge
 ·exact hlt
 ·unfold co at h;rw [Array.getElem?_eq_none hge] at h;cases h
theorem co.alloc {w:World} {B:Nat} {t:Tok} (h:co w B t) (o:Obj):co (w.alloc o) B t:=(Below.heap_alloc w o B h.lt).trans h
theorem co.grown {w w':World} {B:Nat} {t:Tok} {row:Option Nat} (h:co w B t) (hg:w.grownBy w' row) (hne:row≠some B):co w' B t:=(hg.block B h.lt (fun e=>hne e.symm)).trans h
theorem co.cells {w:World} {B:Nat} {t:Tok} (h:co w B t):w.cell? ⟨B,0,none⟩=some (.string t.own)∧w.cell? ⟨B,1,none⟩=some (.int .i64 t.back)∧w.cell? ⟨B,2,none⟩=some (.int .i64 t.size) :=
 ⟨cell_of_row w B 0 _ _ (0,0) h,cell_of_row w B 1 _ _ (0,0) h,cell_of_row w B 2 _ _ (0,0) h⟩
theorem Gg {w:World} {ops:Array Oper} {rest:List Oper} {o:Oper} {a:Act} {Q:Exit→Act→World→Prop} (hgd:o.guard=none) (s x:Operand)
 (ho:o.op=.call { callee:=.builtin .append,args:=#[s,x],argTypes:=#[142,9] })
 (base:Nat) (v:Value) (l:List UInt8) (hs:a.eval s=v) (hown:bN w base v l)
 (t:ByteArray) (hx:a.eval x=.string t) (hlen:l.length+t.size≤140737488355328) (hbase:base≤w.heap.size)
 (h:∀ v' w',bN w' base v' (l++t.data.toList)→w.grownBy w' v.ownBlock→wpList Tryz.prog ops Q rest (a.put o.dst v') w'):wpList Tryz.prog ops Q (o::rest) a w:=by
 obtain ⟨i0,hi,hz0,hz1,hz2⟩:=info_parts gS;refine Go.Lib.wpList_append_own_string w hgd s x 142 9 ho base 5 i0 Tryz.underlying142 Tryz.underlying9 hi hz0 hz1 hz2 v l.length (l.map gJ) hs hown t hx (by unfold maxLen;omega) hlen hbase ?_;intro v' w' h1 h2 _;refine h v' w' ?_ h2;unfold bN;rw [List.length_append,List.map_append,Array.length_toList];exact h1
end
section
open Go.RowKit
theorem bP (s:ByteArray) (w:World) (hs:s.size≤140737488351232) :
 Calls Tryz.prog 74 #[.string s] w fun e w'=>e=.returned (.string s)∧Below w.heap.size w w':=by
 go_enter Tryz.func74,Tryz.ntmps74
 go_wp2_with fail
 refine (Tryz.stringslite_Clone s _ (by omega)).mono ?_;rintro r w1 ⟨rfl,hb1⟩;have HB:=hid hb1;clear hb1;go_wp2;go_ret;exact ⟨rfl,HB.out⟩
end
section
open Go.RowKit
theorem cD.row {w:World} {a:Option Addr} {n cap:Nat} {l:List ByteArray} (h:cD w (.slice a n cap) l):n=l.length∧(l=[]∨∃ b off,a=some ⟨b,off,none⟩∧b<w.heap.size∧∀ j,j<l.length→w.cell? ⟨b,off+j,none⟩=some (.string (l.getD j ByteArray.empty))):=by
 obtain ⟨a',cap',h1,_,h3⟩:=h;obtain ⟨rfl,rfl,rfl⟩:=Value.slice.inj h1;refine ⟨rfl,?_⟩;cases l with
 | nil=>exact .inl rfl
 | cons s r =>
  right
  obtain ⟨b,off,rfl,hb,_⟩:=h3 0 s rfl;refine ⟨b,off,rfl,hb,fun j hj=>?_⟩;obtain ⟨b2,off2,e,_,hc⟩:=h3 j _ (List.getElem?_eq_getElem hj);simp only [Option.some.injEq,Addr.mk.injEq,and_true] at e
  obtain ⟨rfl,rfl⟩:=e;rw [hc];simp [List.getElem?_eq_getElem hj]
theorem cD.form {w:World} {v:Value} {l:List ByteArray} (h:cD w v l):∃ a cap,v=.slice a l.length cap:=by
 obtain ⟨a,cap,h1,_⟩:=h;exact ⟨a,cap,h1⟩
end
section
open Go.RowKit
theorem mD:(Tryz.prog.info? 145).map (·.size)=some 2:=by kernel_rfl
theorem xG:liesAt Tryz.prog Tryz.prog.depth 145 (2 / Tryz.prog.cellsOf 145) 0 145 1=true:=by kernel_rfl
def aX (w:World) (B b:Nat) (l:List UInt8):Prop:=Lib.IsBuilder 145 5 B b (Lib.byteCells l) w
theorem mF (w:World) (B:Nat) (h:B≤w.heap.size):aX (w.alloc (.cells #[.pointer none,.slice none 0 0] 145)) B w.heap.size [] :=
 .inl ⟨h,.slice none 0 0,heap_alloc_new w _,World.ownsRow_nil _ _ _ _,by simp [Value.ownBlock]⟩
theorem aX.below {w w':World} {B b:Nat} {l:List UInt8} (h:aX w B b l) (hb:Below w.heap.size w w'):aX w' B b l:=by
 have hone:∀ {p:Value},Lib.BuilderAt 145 5 B b p (Lib.byteCells l) w→Lib.BuilderAt 145 5 B b p (Lib.byteCells l) w':=by
  intro p h;have hlt:=h.lt;obtain ⟨hB,v,hbk,hown,hne⟩:=h;refine ⟨hB,v,(hb.block b hlt).trans hbk,?_,hne⟩;refine World.ownsRow.kept hown (row:=none) ⟨hb.os,hb.tape,hb.output,hb.size,fun k hk _=>hb.block k hk⟩ ?_;cases hv:v.ownBlock with
  | none=>exact .inl rfl
  | some g=>exact .inr (by simp)
 rcases h with h | h
 ·exact .inl (hone h)
 ·exact .inr (hone h)
theorem aX.alloc {w:World} {B b:Nat} {l:List UInt8} (h:aX w B b l) (o:Obj):aX (w.alloc o) B b l:=h.below ((Below.refl _ _).alloc (Nat.le_refl _) _)
theorem mP (b:Nat) (w:World) (h0:w.cell? ⟨b,0,none⟩=some (.pointer (some ⟨b,0,none⟩))) :
 Calls Tryz.prog 116 #[.pointer (some ⟨b,0,none⟩)] w fun e w'=>e=.returned (.tuple #[])∧w'=w:=by
 obtain ⟨j,hj,_⟩:=Option.map_eq_some_iff.1 mD;go_enter Tryz.func116,Tryz.ntmps116
 go_wp2;rw [Lib.run_neq_ptr_same w _ Tryz.underlying143 hj];go_wp2
 go_end0
 exact ⟨rfl,rfl⟩
theorem qE (b:Nat) (w:World) (h0:w.cell? ⟨b,0,none⟩=some (.pointer none)) (hsh:w.shape? b=some (145,2)) (hfz:w.frozen? ⟨b,0,none⟩=false) :
 Calls Tryz.prog 116 #[.pointer (some ⟨b,0,none⟩)] w fun e w'=>e=.returned (.tuple #[])∧w'=w.setCell ⟨b,0,none⟩ (.pointer (some ⟨b,0,none⟩)):=by
 obtain ⟨j,hj,hjs⟩:=Option.map_eq_some_iff.1 mD;go_enter Tryz.func116,Tryz.ntmps116
 go_wp2;rw [Lib.run_to_unsafe w ⟨b,0,none⟩ Tryz.underlying143 Tryz.underlying130 hj (by rw [hjs];decide) hsh (Nat.zero_lt_succ 1)];simp only [Result.andThen]
 rw [Oper.upon_value];go_wp2;rw [run_callFunc_extern Tryz.func151 (by kernel_rfl) (by kernel_rfl) (by kernel_rfl) (e:=Extern.AbiNoEscape.same) (by kernel_rfl)];rw [Lib.run_noEscape];simp only [Result.andThen]
 rw [Oper.upon_value];go_wp2;rw [Lib.run_from_unsafe w ⟨b,0,none⟩ Tryz.underlying130 Tryz.underlying143 hj hsh xG];simp only [Result.andThen]
 rw [Oper.upon_value];go_wp2
 go_end0
 exact ⟨rfl,rfl⟩
theorem yy (B b:Nat) (l:List UInt8) (w:World) (h:aX w B b l) :
 Calls Tryz.prog 116 #[.pointer (some ⟨b,0,none⟩)] w fun e w'=>e=.returned (.tuple #[])∧Lib.BuilderAt 145 5 B b (.pointer (some ⟨b,0,none⟩)) (Lib.byteCells l) w'∧Below B w w':=by
 rcases h with h | h
 ·refine (qE b w h.cell0 h.shape h.frozen0).mono ?_;rintro e w' ⟨rfl,rfl⟩;exact ⟨rfl,h.used _,(Below.refl B w).setCell (p:=⟨b,0,none⟩) h.1 _⟩
 ·refine (mP b w h.cell0).mono ?_;rintro e w' ⟨rfl,rfl⟩;exact ⟨rfl,h,Below.refl B _⟩
theorem qj (B b:Nat) (l:List UInt8) (s:ByteArray) (w:World) (h:aX w B b l) (hlen:l.length+s.size≤140737488355328) (hBw:B≤w.heap.size) :
 Calls Tryz.prog 88 #[.pointer (some ⟨b,0,none⟩),.string s] w fun e w'=>e=.returned (.tuple #[.int .i64 s.size,.nilIface])∧aX w' B b (l++s.data.toList)∧Below B w w':=by
 obtain ⟨i0,hi,hz0,hz1,hz2⟩:=info_parts gS;have hbl:(Lib.byteCells l).length=l.length:=by simp [Lib.byteCells]
 go_enter Tryz.func88,Tryz.ntmps88
 go_wp2_with fail
 refine (yy B b l _ h).mono ?_;rintro e w1 ⟨rfl,h1,hb1⟩;obtain ⟨hB,v,hbk,hown,hne⟩:=h1;have c0:w1.cell? ⟨b,0,none⟩=some (.pointer (some ⟨b,0,none⟩)):=by rw [Lib.cell_of_heap hbk];rfl
 have c1:w1.cell? ⟨b,1,none⟩=some v:=by rw [Lib.cell_of_heap hbk];rfl
 go_wp2_with (at_builtin;refine Lib.wpList_append_own_string _ rfl _ _ 142 9 rfl B 5 i0 Tryz.underlying142 Tryz.underlying9 hi hz0 hz1 hz2 _ _ _ rfl hown s rfl ?c3 ?c4 ?c5 ?_)
 case c3=>rw [hbl];unfold maxLen;omega
 case c4=>rw [hbl];omega
 case c5=>have:=hb1.size;omega
 intro v' w2 hown' hgrow _;have hlt:b<w1.heap.size:=by
  rcases Nat.lt_or_ge b w1.heap.size with h' | h'
  ·exact h'
  ·simp [Array.getElem?_eq_none h'] at hbk
 have hb2:w2.heap[b]? = some (.cells #[.pointer (some ⟨b,0,none⟩),v] 145 (0,0)):=by
  rw [hgrow.block b hlt (fun e=>hne e.symm)];exact hbk
 have d0:w2.cell? ⟨b,0,none⟩=some (.pointer (some ⟨b,0,none⟩)):=by rw [Lib.cell_of_heap hb2];rfl
 have d1:w2.cell? ⟨b,1,none⟩=some v:=by rw [Lib.cell_of_heap hb2];rfl
 have f1:w2.frozen? ⟨b,1,none⟩=false:=Lib.frozen_of_heap hb2 1;obtain ⟨ao,n',cap,rfl⟩:∃ ao n' cap,v'=.slice ao n' cap:=by
  rcases hown'.2 with ⟨hv,_⟩ | ⟨g,cap,cur,hv,_⟩
  ·exact ⟨_,_,_,hv⟩
  ·exact ⟨_,_,_,hv⟩
 have HO:Hid (w2.ownsRow B 5 1 (.slice ao n' cap) (Lib.byteCells (l++s.data.toList)).length (Lib.byteCells (l++s.data.toList))):=by
  have h:w2.ownsRow B 5 1 (.slice ao n' cap) (Lib.byteCells (l++s.data.toList)).length (Lib.byteCells (l++s.data.toList)):=by
   have e:Lib.byteCells (l++s.data.toList)=Lib.byteCells l++Lib.strCells s:=by simp [Lib.byteCells,Lib.strCells]
   rw [e,List.length_append,Lib.strCells_length,hbl];exact hown'
  exact h
 clear hown';go_wp2;go_ret2;refine ⟨rfl,.inr ?_,?_⟩
 ·exact Lib.BuilderAt.put (T:=145) (e:=5) hB hb2 HO.out (by decide)
 ·exact (hb1.grown hgrow (by have:=hb1.size;omega) (fun k hk=>(hown.lt k hk).1)).setCell (p:=⟨b,1,none⟩) hB _
theorem mG (B b:Nat) (l:List UInt8) (w:World) (h:aX w B b l) (hBw:B≤w.heap.size) :
 Calls Tryz.prog 93 #[.pointer (some ⟨b,0,none⟩)] w fun e w'=>e=.returned (.string ⟨l.toArray⟩)∧Below B w w' :=
 Tryz.Builder_String_any B b l w h hBw
end
section
open Go.RowKit
theorem s7 (s:ByteArray) (w:World) (hs:s.size≤281474976710656) :
 Calls Tryz.prog 74 #[.string s] w fun e w'=>e=.returned (.string s)∧Below w.heap.size w w':=by
 go_enter Tryz.func74,Tryz.ntmps74
 go_wp2_with fail
 refine (Tryz.stringslite_Clone s _ hs).mono ?_;rintro r w1 ⟨rfl,hb1⟩;go_wp2;go_ret;exact ⟨rfl,hb1⟩
def wC (w:World) (l:List ByteArray) (e:Ending) (w':World):Prop :=
 ∃ v1 v2,e=.returned (.tuple #[v1,v2])∧ai w' w.heap.size v1 (tabK [] l)∧aU w' w.heap.size v2 (atK [] l)∧Below w.heap.size w w'
theorem Az (v:Value) (l:List ByteArray) (w:World) (hv:cD w v l) (hl:l.length≤1000000) (hs:∀ s∈l,s.size≤140737488351232) :
 Calls Tryz.prog 142 #[v] w (wC w l):=by
 obtain ⟨a1,c1,rfl,_,f1⟩:=hv;have F1:=hid f1;have HS:=hid hs;obtain ⟨n,hn⟩:∃ n,n=l.length:=⟨_,rfl⟩;rw [←hn] at hl ⊢;have HN:=hid hn;clear f1 hs hn;have hmm:=@run_makeMap Tryz.prog;go_enter Tryz.func142,Tryz.ntmps142
 go_wp2
 go_loopw [2, 3, 12] (fun t a i wr => ∃ (k : Nat) (T : List ByteArray) (N : List Nat), k ≤ n ∧ i = .int .i64 k ∧ T.length ≤ k ∧ N.length = k ∧ tabK [] l = tabK T (l.drop k) ∧ atK [] l = N ++ atK T (l.drop k) ∧
     bY wr w.heap.size k T∧ai wr (w.heap.size+1) t T∧aU wr (w.heap.size+1) a N∧w.heap.size+1≤wr.heap.size∧Below w.heap.size w wr) (fun _ _ i _=>n-(intOf i).toNat)
 case atStart=>exact ⟨0,[],[],Nat.zero_le _,rfl,Nat.le_refl _,rfl,rfl,rfl,CJ _,dv _ _,hZ _ _,by simp,(Below.refl _ _).alloc (Nat.le_refl _) _⟩
 case round =>
  obtain ⟨k,T,N,hk,rfl,hT,hN,ht,ha,hmap,hos,hon,hz,hbel⟩:=hrel;have HT:=hid ht;have HA:=hid ha;have HM:=hid hmap;have HO:=hid hos;have HQ:=hid hon;have HB:=hid hbel;have HZ:=hid hz;have HNL:=hid hN;have HTL:=hid hT;obtain ⟨ad,cp,rfl,_,_⟩:=hos.isTexts;clear ht ha hmap hos hon hbel hN hT hz;by_cases hlt:k<n
  ·obtain ⟨s, hs⟩ : ∃ s, l[k]? = some s := ⟨l[k]'(by have := HN.out; omega), List.getElem?_eq_getElem _⟩;obtain ⟨b1,o1,rfl,hb1,p0⟩:=F1.out k s hs;have q0:=(HB.out.cell (p:=⟨b1,o1+k,none⟩) hb1).trans p0;have HSZ:Hid (s.size≤140737488351232):=hid (HS.out s (List.mem_of_getElem? hs));have hsz:s.size≤maxLen:=by have:=HSZ.out;unfold maxLen;omega
   by_cases hin:s∈T
   ·have HJ:=hid (kN hin);have HT2:=hid (HT.out.trans (Ep hs hin));have HA2:=hid (HA.out.trans (congrArg (N ++ ·) (xp hs hin)));obtain ⟨j,hj⟩:∃ j,idxB T s=j:=⟨_,rfl⟩;rw [hj] at HJ HA2;clear p0 hs hj;go_wp2_with (first
     | (at_lookup;refine Gl rfl _ _ rfl w.heap.size k T rfl HM.out s rfl hsz j HJ.out ?_)
     | (at_builtin;refine mg rfl _ _ rfl (w.heap.size+1) _ N rfl (HQ.out.alloc _) ⟨wr.heap.size,0,none⟩ 1 rfl j ?c1 ?c2 ?c3 ?_))
    case c1=>simp [Addr.add]
    case c2=>have:=HNL.out;omega
    case c3=>have:=HZ.out;simp;omega
    intro g cap w1 ho1 hg1;have hbel1:Below w.heap.size w w1:=(HB.out.alloc HB.out.size _).grown hg1 (by have:=HB.out.size;simp;omega) (fun g hg=>by have:=(HQ.out.lt g hg).1;omega);have hm1:bY w1 w.heap.size (k+1) T:=((HM.out.mono (Nat.le_succ k)).alloc _).kept hg1 (by intro e;exact HQ.out.off (Nat.lt_succ_self _) e.symm);have hs1:ai w1 (w.heap.size+1) _ T:=World.ownsRow.kept (HO.out.alloc _) hg1 (lE HO.out HQ.out (show 9≠3 by decide));have hz1:w.heap.size+1≤w1.heap.size:=by have:=HZ.out;have:=hg1.size;simp at this;omega
    have ha1:atK [] l=(N++[j])++atK T (l.drop (k+1)):=by rw [HA2.out];simp
    have hn1:(N++[j]).length=k+1:=by have:=HNL.out;simp;omega
    have HNL1:Hid (N.length+1=(N++[j]).length):=hid (show N.length+1=(N++[j]).length by simp);rw [HNL1.out] at ho1;have HX:=hid (And.intro hbel1 (And.intro hm1 (And.intro hs1 (And.intro hz1 (And.intro ha1 (And.intro hn1 ho1))))));clear hbel1 hm1 hs1 hz1 ha1 hn1 ho1 hg1;go_wp2;go_roundw
    case rel=>exact ⟨k+1,T,N++[j],by omega,by go_num,by have:=HTL.out;omega,HX.out.2.2.2.2.2.1,HT2.out,HX.out.2.2.2.2.1,HX.out.2.1,HX.out.2.2.1,by simpa using HX.out.2.2.2.2.2.2,HX.out.2.2.2.1,HX.out.1⟩
    case measure=>simp [intOf];omega
   ·have HT2:=hid (HT.out.trans (Er hs hin));have HA2:=hid (HA.out.trans (congrArg (N ++ ·) (xq hs hin)));have HTM:Hid (T.length≤maxLen):=hid (by show T.length≤maxLen;have:=HTL.out;unfold maxLen;omega);clear p0 hs;go_wp2_with (first
     | (at_lookup;refine Gj rfl _ _ rfl w.heap.size k T rfl HM.out s rfl hsz hin ?_;intro c)
     | (at_mapUpdate;refine Gk rfl _ _ _ rfl w.heap.size k T rfl HM.out (by unfold maxLen;omega) s rfl rfl hsz hin HTM.out ?_;intro w1 hm1 hg1))
    have hbel1:Below w.heap.size w w1:=HB.out.grown hg1 HB.out.size (fun g hg=>by cases hg;exact Nat.le_refl _);have hs1:ai w1 (w.heap.size+1) _ T:=World.ownsRow.kept HO.out hg1 (.inr (HO.out.off (Nat.lt_succ_self _)));have hn1:aU w1 (w.heap.size+1) _ N:=World.ownsRow.kept HQ.out hg1 (.inr (HQ.out.off (Nat.lt_succ_self _)));have hz1:w.heap.size+1≤w1.heap.size:=Nat.le_trans HZ.out hg1.size;have HX:=hid (And.intro hbel1 (And.intro hm1 (And.intro hs1 (And.intro hn1 hz1))));clear hbel1 hm1 hs1 hn1 hz1 hg1;refine (s7 s w1 (by have:=HSZ.out;omega)).mono ?_;rintro r w2 ⟨rfl,hb2⟩;have HB2:=hid (HX.out.1.trans (hb2.mono HX.out.1.size));have HM2:=hid (HX.out.2.1.below hb2);have HS2:=hid (HX.out.2.2.1.below hb2);have HN2:=hid (HX.out.2.2.2.1.below hb2);have HZ2:=hid (Nat.le_trans HX.out.2.2.2.2 hb2.size);clear hb2 HX HM HO HQ HB HZ;go_wp2_with (at_builtin;refine jD rfl _ _ rfl (w.heap.size+1) _ T rfl (HS2.out.alloc _) ⟨w2.heap.size,0,none⟩ 1 rfl s ?c1 ?c2 ?c3 ?_)
    case c1=>simp [Addr.add]
    case c2=>have:=HTL.out;omega
    case c3=>have:=HZ2.out;simp;omega
    intro g cap w3 ho3 hg3;have HB3:Hid (Below w.heap.size w w3):=(HB2.out.alloc HB2.out.size _).grown hg3 (by have:=HB2.out.size;simp;omega) (fun g hg=>by have:=(HS2.out.lt g hg).1;omega);have HM3:=hid ((HM2.out.alloc _).kept hg3 (by intro e;exact HS2.out.off (Nat.lt_succ_self _) e.symm));have HN3:=hid (show aU w3 (w.heap.size+1) _ N from World.ownsRow.kept (HN2.out.alloc _) hg3 (lE HN2.out HS2.out (show 3≠9 by decide)));have HZ3:Hid (w.heap.size+1≤w3.heap.size):=hid (by show _≤_;have:=HZ2.out;have:=hg3.size;simp at this;omega);have HS3:=hid ho3;clear ho3 hg3 HB2 HM2 HS2 HN2 HZ2;go_wp2_with (at_builtin;refine mg rfl _ _ rfl (w.heap.size+1) _ N rfl (HN3.out.alloc _) ⟨w3.heap.size,0,none⟩ 1 rfl T.length ?d1 ?d2 ?d3 ?_)
    case d1=>simp [Addr.add]
    case d2=>have:=HNL.out;omega
    case d3=>have:=HZ3.out;simp;omega
    intro g' cap' w4 ho4 hg4;have HB4:Hid (Below w.heap.size w w4):=(HB3.out.alloc HB3.out.size _).grown hg4 (by have:=HB3.out.size;simp;omega) (fun g hg=>by have:=(HN3.out.lt g hg).1;omega);have HM4:=hid ((HM3.out.alloc _).kept hg4 (by intro e;exact HN3.out.off (Nat.lt_succ_self _) e.symm));have HS4:=hid (show ai w4 (w.heap.size+1) _ (T++[s]) from World.ownsRow.kept (HS3.out.alloc _) hg4 (lE HS3.out HN3.out (show 9≠3 by decide)));have HZ4:Hid (w.heap.size+1≤w4.heap.size):=hid (by show _≤_;have:=HZ3.out;have:=hg4.size;simp at this;omega);have HN4:=hid ho4;have HA4:Hid (atK [] l=(N++[T.length])++atK (T++[s]) (l.drop (k+1))):=hid (show _=_ by rw [HA2.out];simp);have HL4:Hid ((N++[T.length]).length=k+1∧(T++[s]).length≤k+1):=hid (show _∧_ by have:=HNL.out;have:=HTL.out;simp;omega);clear ho4 hg4 HB3 HM3 HS3 HN3 HZ3 HA2;go_wp2;go_roundw
    case rel=>exact ⟨k+1,T++[s],N++[T.length],by omega,by go_num,HL4.out.2,HL4.out.1,HT2.out,HA4.out,HM4.out,HS4.out,HN4.out,HZ4.out,HB4.out⟩
    case measure=>simp [intOf];omega
  ·have HT2:Hid (tabK [] l=T):=hid (show _=_ by rw [HT.out,List.drop_eq_nil_of_le (by have:=HN.out;omega)];rfl);have HA2:Hid (atK [] l=N):=hid (show _=_ by rw [HA.out,List.drop_eq_nil_of_le (by have:=HN.out;omega)];simp [atK]);go_wp2;go_ret2;refine ⟨_,_,rfl,?_,?_,HB.out⟩
   ·rw [HT2.out];exact HO.out.mono (Nat.le_succ _)
   ·rw [HA2.out];exact HQ.out.mono (Nat.le_succ _)
end
section
open Go.RowKit
def iO (r:Nat×Nat):Value:=.tuple #[.int .i64 r.1,.int .i64 r.2]
theorem qW (s:ByteArray) (a:Nat) (w:World) (hs:s.size≤maxLen) (ha:a<s.size) :
 Calls Tryz.prog 178 #[.string s,.int .i64 a] w fun e w'=>e=.returned (iO (find s.data.toList a))∧∃ q,w'=w.drewN q:=by
 have HS:=hid hs;unfold maxLen at hs;obtain ⟨m,hm⟩:∃ m,m=min 67 (s.size-a):=⟨_,rfl⟩;obtain ⟨t,ht⟩:∃ t,t=min 1024 a:=⟨_,rfl⟩;have m1:(if (s.size:Int)-(a:Int)<67 then (s.size:Int)-(a:Int) else 67)=(m:Int):=by split <;> omega
 have t1:(if (a:Int)<1024 then (a:Int) else 1024)=(t:Int):=by split <;> omega
 have m2:min 67 ((s.size:Int)-(a:Int))=(m:Int):=by omega
 have t2:min 1024 (a:Int)=(t:Int):=by omega
 have HF:Hid (find s.data.toList a=best s.data.toList a m t):=by
  have hl:s.data.toList.length=s.size:=by simp
  have h:find s.data.toList a=best s.data.toList a m t:=by rw [qV (by omega),hl,hm,ht]
  exact h
 have hm0:0<m:=by omega
 have hma:a+m≤s.size:=by omega
 have hta:t≤a:=by omega
 have c1:decide ((a:Int)<0)=false:=by simp
 have c2:decide (s.size≤a)=false:=by simp;omega
 clear hm ht;go_enter Tryz.func178,Tryz.ntmps178
 go_wp2;clear m1 t1 m2 t2 c1 c2
 go_loopw [4,5,24] (fun b n i wr=>∃ i' b' n' q:Nat,i'≤t∧i=.int .i64 i'∧b=.int .i64 b'∧n=.int .i64 n'∧n'<m∧dR s.data.toList a m 1 i' b' n'∧wr=w.drewN q) (fun _ _ i _=>t-(intOf i).toNat)
 case atStart=>exact ⟨0,0,0,0,by omega,rfl,rfl,rfl,hm0,.inl ⟨rfl,rfl,fun k h1 h2=>by omega⟩,rfl⟩
 case round =>
  obtain ⟨i,b,n,q,hi,rfl,rfl,rfl,hn,hC,rfl⟩:=hrel;have HC:=hid hC;clear hC;by_cases hlt:i<t
  ·obtain ⟨x,hx⟩:∃ x,sm s.data.toList a (i+1) m=x:=⟨_,rfl⟩;have hxm:=tK s.data.toList a (i+1) m;rw [hx] at hxm;by_cases hb:4≤x∧n<x
   ·have hN:=qa HC.out (by omega) (by omega) (by omega);rw [hx] at hN;have HN:=hid hN;have HX:=hid hx;obtain ⟨b4,bn⟩:=hb;clear hN hx;by_cases hf:x=m
    ·have hbe:((x:Int) == (m:Int))=true:=by simp [hf]
     have HE:Hid (find s.data.toList a=(i+1,x)):=by
      have h:find s.data.toList a=(i+1,x):=by rw [HF.out];exact qc (xC HN.out hf hm0 (by omega))
      exact h
     clear hf;go_wp2_with fail
     refine (lH s a (i+1) m _ _ HS.out (by omega) (by omega) hma).mono ?_;rintro e w1 ⟨rfl,q1,rfl⟩;rw [HX.out];go_wp2;go_ret2;exact ⟨by rw [HE.out];rfl,by first | exact ⟨_,rfl⟩ | exact qJ _ _ _⟩
    ·have hbe:((x:Int) == (m:Int))=false:=by simp;omega
     go_wp2_with fail
     refine (lH s a (i+1) m _ _ HS.out (by omega) (by omega) hma).mono ?_;rintro e w1 ⟨rfl,q1,rfl⟩;rw [HX.out];go_wp2;go_roundw
     case rel=>exact ⟨i+1,i+1,x,q+q1,by omega,by go_num,by go_num,rfl,by omega,HN.out,by simp⟩
     case measure=>simp [intOf];omega
   ·have hN:=qb HC.out (by rw [hx];exact hb);have HN:=hid hN;have HX:=hid hx;have hbe:((n:Int) == (m:Int))=false:=by simp;omega
    clear hN hx;by_cases h4:4≤x
    ·have h5:¬ n<x:=fun h=>hb ⟨h4,h⟩
     clear hb;go_wp2_with fail
     refine (lH s a (i+1) m _ _ HS.out (by omega) (by omega) hma).mono ?_;rintro e w1 ⟨rfl,q1,rfl⟩;rw [HX.out];go_wp2;go_roundw
     case rel=>exact ⟨i+1,b,n,q+q1,by omega,by go_num,rfl,rfl,by omega,HN.out,by simp⟩
     case measure=>simp [intOf];omega
    ·clear hb;go_wp2_with fail
     refine (lH s a (i+1) m _ _ HS.out (by omega) (by omega) hma).mono ?_;rintro e w1 ⟨rfl,q1,rfl⟩;rw [HX.out];go_wp2;go_roundw
     case rel=>exact ⟨i+1,b,n,q+q1,by omega,by go_num,rfl,rfl,by omega,HN.out,by simp⟩
     case measure=>simp [intOf];omega
  ·have HE : Hid (find s.data.toList a = (b, n)) := by
    have h:find s.data.toList a=(b,n):=by
     rw [HF.out];have e:i=t:=by omega
     rw [←e];exact qc HC.out
    exact h
   go_wp2;go_ret2;exact ⟨by rw [HE.out];rfl,_,rfl⟩
end
section
open Go.RowKit
theorem BJ {l:List Ent} {k:Nat} {t:Ent} (h:l[k]? = some t) (x:Int):ofF (l.drop k) x=if t.rep=x then t.time else ofF (l.drop (k+1)) x:=by
 obtain ⟨hk,ht⟩:=List.getElem?_eq_some_iff.1 h;rw [List.drop_eq_getElem_cons hk,ht];rfl
theorem FN (v:Value) (l:List Ent) (x:Int) (w:World) (hv:ae w v l) (hl:l.length≤9223372036854775807) :
 Calls Tryz.prog 19 #[v,.int .i64 x] w fun r w'=>r=.returned (.int .i64 (ofF l x))∧Below w.heap.size w w':=by
 obtain ⟨a1,c1,rfl,f1⟩:=hv.form;have F1:=hid f1;obtain ⟨n,hn⟩:∃ n,n=l.length:=⟨_,rfl⟩;rw [←hn] at hl ⊢;have HN:=hid hn;clear hv f1 hn;go_enter Tryz.func19,Tryz.ntmps19
 go_wp2
 go_loopw [9] (fun i wr=>∃ k:Nat,k≤n∧i=.int .i64 k∧ofF l x=ofF (l.drop k) x∧Below w.heap.size w wr) (fun i _=>n-(intOf i).toNat)
 case atStart=>exact ⟨0,by omega,rfl,rfl,Below.refl _ _⟩
 case round =>
  obtain ⟨k,hk,rfl,heq,hbel⟩:=hrel;have HEQ:=hid heq;have HB:=hid hbel;have hzr:=hbel.size;clear heq hbel;by_cases hlt:k<n
  ·obtain ⟨t, ht⟩ : ∃ t, l[k]? = some t := ⟨l[k]'(by have := HN.out; omega), List.getElem?_eq_getElem _⟩;obtain ⟨b1,o1,rfl,hb1,p0,p1⟩:=F1.out k t ht;have hd:=BJ ht x;obtain ⟨rep,time⟩:=t;simp only at p0 p1 hd
   have q0:=(HB.out.cell (p:=⟨b1,o1+k * 2,none⟩) hb1).trans p0;have q1:=(HB.out.cell (p:=⟨b1,o1+k * 2+1,none⟩) hb1).trans p1;by_cases hx:rep=x
   ·have HW:Hid (ofF l x=time):=hid (show ofF l x=time by rw [HEQ.out,hd,if_pos hx]);clear p0 p1 ht hd;subst hx;go_wp2;go_ret;exact ⟨by rw [HW.out];rfl,HB.out.alloc hzr _⟩
   ·have HW:Hid (ofF l x=ofF (l.drop (k+1)) x):=hid (show ofF l x=ofF (l.drop (k+1)) x by rw [HEQ.out,hd,if_neg hx]);have bx:(rep == x)=false:=by simpa using hx
    clear p0 p1 ht hd;go_wp2;go_roundw
    case rel=>exact ⟨k+1,by omega,by go_num,HW.out,HB.out.alloc hzr _⟩
    case measure=>simp [intOf];omega
  ·have HW:Hid (ofF l x=0):=hid (show ofF l x=0 by rw [HEQ.out,List.drop_eq_nil_of_le (by have:=HN.out;omega)];rfl);go_wp2;go_ret;exact ⟨by rw [HW.out];rfl,HB.out⟩
theorem fJ (v:Value) (l:List Ent) (x y:Int) (w:World) (hv:ae w v l) (hl:l.length≤9223372036854775807) (h:ofF l x=y) :
 Calls Tryz.prog 19 #[v,.int .i64 x] w fun r w'=>r=.returned (.int .i64 y)∧Below w.heap.size w w':=by
 subst h;exact FN v l x w hv hl
end
