import Derived.Test.YtagoidpkbloflaaGreatDoorKlq
import Derived.Test.YtagoidpkbloflaaGreatDoorKl04
import Derived.Deep.LoopGhost
import Derived.Laws.Rows
import Derived.Laws.NewBlocks
namespace Go.Proofs.YtagoidpkbloflaaGreatDoor
open Lib (hid)
set_option maxRecDepth 100000
set_option maxHeartbeats 8000000
section
open Go.RowKit
theorem pT (s:ByteArray) (w:World) (hs:s.size≤281474976710656) :
 Calls Tryz.prog 102 #[.string s] w fun e w'=>e=.returned (.string s)∧Below w.heap.size w w':=by
 go_enter Tryz.func102,Tryz.ntmps102
 go_wp2_with fail
 refine (Tryz.stringslite_Clone s _ hs).mono ?_;rintro r w1 ⟨rfl,hb1⟩;go_wp2;go_ret;exact ⟨rfl,hb1⟩
def oq (w:World) (l:List ByteArray) (e:Ending) (w':World):Prop :=
 ∃ v1 v2,e=.returned (.tuple #[v1,v2])∧ak w' w.heap.size v1 (tabK [] l)∧aG w' w.heap.size v2 (atK [] l)∧Below w.heap.size w w'
theorem x9 (v:Value) (l:List ByteArray) (w:World) (hv:ba w v l) (hl:l.length≤1000000) (hs:∀ s∈l,s.size≤140737488351232) :
 Calls Tryz.prog 131 #[v] w (oq w l):=by
 obtain ⟨a1,c1,rfl,_,f1⟩:=hv;have F1:=hid f1;have HS:=hid hs;obtain ⟨n,hn⟩:∃ n,n=l.length:=⟨_,rfl⟩;rw [←hn] at hl ⊢;have HN:=hid hn;clear f1 hs hn;have hmm:=@run_makeMap Tryz.prog;go_enter Tryz.func131,Tryz.ntmps131
 go_wp2
 go_loopw [2, 3, 12] (fun t a i wr => ∃ (k : Nat) (T : List ByteArray) (N : List Nat), k ≤ n ∧ i = .int .i64 k ∧ T.length ≤ k ∧ N.length = k ∧ tabK [] l = tabK T (l.drop k) ∧ atK [] l = N ++ atK T (l.drop k) ∧
     bd wr w.heap.size k T∧ak wr (w.heap.size+1) t T∧aG wr (w.heap.size+1) a N∧w.heap.size+1≤wr.heap.size∧Below w.heap.size w wr) (fun _ _ i _=>n-(intOf i).toNat)
 case atStart=>exact ⟨0,[],[],Ds _,rfl,Db _,rfl,rfl,rfl,yF _,bK _ _,dr _ _,by simp,(Below.refl _ _).alloc (Db _) _⟩
 case round =>
  obtain ⟨k,T,N,hk,rfl,hT,hN,ht,ha,hmap,hos,hon,hz,hbel⟩:=hrel;have HT:=hid ht;have HA:=hid ha;have HM:=hid hmap;have HO:=hid hos;have HQ:=hid hon;have HB:=hid hbel;have HZ:=hid hz;have HNL:=hid hN;have HTL:=hid hT;obtain ⟨ad,cp,rfl,_,_⟩:=hos.isTexts;clear ht ha hmap hos hon hbel hN hT hz;by_cases hlt:k<n
  ·obtain ⟨s, hs⟩ : ∃ s, l[k]? = some s := ⟨l[k]'(by have := HN.out; omega), Di _⟩;obtain ⟨b1,o1,rfl,hb1,p0⟩:=F1.out k s hs;have q0:=(HB.out.cell (p:=⟨b1,o1+k,none⟩) hb1).trans p0;have HSZ:Hid (s.size≤140737488351232):=hid (HS.out s (DB hs));have hsz:s.size≤maxLen:=by have:=HSZ.out;unfold maxLen;omega
   by_cases hin:s∈T
   ·have HJ:=hid (jJ hin);have HT2:=hid (HT.out.trans (rS hs hin));have HA2:=hid (HA.out.trans (congrArg (N ++ ·) (oz hs hin)));obtain ⟨j,hj⟩:∃ j,idxB T s=j:=⟨_,rfl⟩;rw [hj] at HJ HA2;clear p0 hs hj;go_wp2_with (first
     | (at_lookup;refine CG rfl _ _ rfl w.heap.size k T rfl HM.out s rfl hsz j HJ.out ?_)
     | (at_builtin;refine cU rfl _ _ rfl (w.heap.size+1) _ N rfl (HQ.out.alloc _) ⟨wr.heap.size,0,none⟩ 1 rfl j ?c1 ?c2 ?c3 ?_))
    case c1=>simp [Addr.add]
    case c2=>have:=HNL.out;omega
    case c3=>have:=HZ.out;simp;omega
    intro g cap w1 ho1 hg1;have hbel1:Below w.heap.size w w1:=(HB.out.alloc HB.out.size _).grown hg1 (by have:=HB.out.size;simp;omega) (fun g hg=>by have:=(HQ.out.lt g hg).1;omega);have hm1:bd w1 w.heap.size (k+1) T:=((HM.out.mono (Dq k)).alloc _).kept hg1 (by intro e;exact HQ.out.off (Du _) e.symm);have hs1:ak w1 (w.heap.size+1) _ T:=Dt (HO.out.alloc _) hg1 (gu HO.out HQ.out (show 9≠3 by decide));have hz1:w.heap.size+1≤w1.heap.size:=by have:=HZ.out;have:=hg1.size;simp at this;omega
    have ha1:atK [] l=(N++[j])++atK T (l.drop (k+1)):=by rw [HA2.out];simp
    have hn1:(N++[j]).length=k+1:=by have:=HNL.out;simp;omega
    have HNL1:Hid (N.length+1=(N++[j]).length):=hid (show N.length+1=(N++[j]).length by simp);rw [HNL1.out] at ho1;have HX:=hid (Dp hbel1 (Dp hm1 (Dp hs1 (Dp hz1 (Dp ha1 (Dp hn1 ho1))))));clear hbel1 hm1 hs1 hz1 ha1 hn1 ho1 hg1;go_wp2;go_roundw
    case rel=>exact ⟨k+1,T,N++[j],by omega,by go_num,by have:=HTL.out;omega,HX.out.2.2.2.2.2.1,HT2.out,HX.out.2.2.2.2.1,HX.out.2.1,HX.out.2.2.1,by simpa using HX.out.2.2.2.2.2.2,HX.out.2.2.2.1,HX.out.1⟩
    case measure=>simp [intOf];omega
   ·have HT2:=hid (HT.out.trans (rT hs hin));have HA2:=hid (HA.out.trans (congrArg (N ++ ·) (oA hs hin)));have HTM:Hid (T.length≤maxLen):=hid (by show T.length≤maxLen;have:=HTL.out;unfold maxLen;omega);clear p0 hs;go_wp2_with (first
     | (at_lookup;refine CE rfl _ _ rfl w.heap.size k T rfl HM.out s rfl hsz hin ?_;intro c)
     | (at_mapUpdate;refine CF rfl _ _ _ rfl w.heap.size k T rfl HM.out (by unfold maxLen;omega) s rfl rfl hsz hin HTM.out ?_;intro w1 hm1 hg1))
    have hbel1:Below w.heap.size w w1:=HB.out.grown hg1 HB.out.size (fun g hg=>by cases hg;exact Db _);have hs1:ak w1 (w.heap.size+1) _ T:=Dt HO.out hg1 (.inr (HO.out.off (Du _)));have hn1:aG w1 (w.heap.size+1) _ N:=Dt HQ.out hg1 (.inr (HQ.out.off (Du _)));have hz1:w.heap.size+1≤w1.heap.size:=Dl HZ.out hg1.size;have HX:=hid (Dp hbel1 (Dp hm1 (Dp hs1 (Dp hn1 hz1))));clear hbel1 hm1 hs1 hn1 hz1 hg1;refine (pT s w1 (by have:=HSZ.out;omega)).mono ?_;rintro r w2 ⟨rfl,hb2⟩;have HB2:=hid (HX.out.1.trans (hb2.mono HX.out.1.size));have HM2:=hid (HX.out.2.1.below hb2);have HS2:=hid (HX.out.2.2.1.below hb2);have HN2:=hid (HX.out.2.2.2.1.below hb2);have HZ2:=hid (Dl HX.out.2.2.2.2 hb2.size);clear hb2 HX HM HO HQ HB HZ;go_wp2_with (at_builtin;refine fi rfl _ _ rfl (w.heap.size+1) _ T rfl (HS2.out.alloc _) ⟨w2.heap.size,0,none⟩ 1 rfl s ?c1 ?c2 ?c3 ?_)
    case c1=>simp [Addr.add]
    case c2=>have:=HTL.out;omega
    case c3=>have:=HZ2.out;simp;omega
    intro g cap w3 ho3 hg3;have HB3:Hid (Below w.heap.size w w3):=(HB2.out.alloc HB2.out.size _).grown hg3 (by have:=HB2.out.size;simp;omega) (fun g hg=>by have:=(HS2.out.lt g hg).1;omega);have HM3:=hid ((HM2.out.alloc _).kept hg3 (by intro e;exact HS2.out.off (Du _) e.symm));have HN3:=hid (show aG w3 (w.heap.size+1) _ N from Dt (HN2.out.alloc _) hg3 (gu HN2.out HS2.out (show 3≠9 by decide)));have HZ3:Hid (w.heap.size+1≤w3.heap.size):=hid (by show _≤_;have:=HZ2.out;have:=hg3.size;simp at this;omega);have HS3:=hid ho3;clear ho3 hg3 HB2 HM2 HS2 HN2 HZ2;go_wp2_with (at_builtin;refine cU rfl _ _ rfl (w.heap.size+1) _ N rfl (HN3.out.alloc _) ⟨w3.heap.size,0,none⟩ 1 rfl T.length ?d1 ?d2 ?d3 ?_)
    case d1=>simp [Addr.add]
    case d2=>have:=HNL.out;omega
    case d3=>have:=HZ3.out;simp;omega
    intro g' cap' w4 ho4 hg4;have HB4:Hid (Below w.heap.size w w4):=(HB3.out.alloc HB3.out.size _).grown hg4 (by have:=HB3.out.size;simp;omega) (fun g hg=>by have:=(HN3.out.lt g hg).1;omega);have HM4:=hid ((HM3.out.alloc _).kept hg4 (by intro e;exact HN3.out.off (Du _) e.symm));have HS4:=hid (show ak w4 (w.heap.size+1) _ (T++[s]) from Dt (HS3.out.alloc _) hg4 (gu HS3.out HN3.out (show 9≠3 by decide)));have HZ4:Hid (w.heap.size+1≤w4.heap.size):=hid (by show _≤_;have:=HZ3.out;have:=hg4.size;simp at this;omega);have HN4:=hid ho4;have HA4:Hid (atK [] l=(N++[T.length])++atK (T++[s]) (l.drop (k+1))):=hid (show _=_ by rw [HA2.out];simp);have HL4:Hid ((N++[T.length]).length=k+1∧(T++[s]).length≤k+1):=hid (show _∧_ by have:=HNL.out;have:=HTL.out;simp;omega);clear ho4 hg4 HB3 HM3 HS3 HN3 HZ3 HA2;go_wp2;go_roundw
    case rel=>exact ⟨k+1,T++[s],N++[T.length],by omega,by go_num,HL4.out.2,HL4.out.1,HT2.out,HA4.out,HM4.out,HS4.out,HN4.out,HZ4.out,HB4.out⟩
    case measure=>simp [intOf];omega
  ·have HT2:Hid (tabK [] l=T):=hid (show _=_ by rw [HT.out,DD (by have:=HN.out;omega)];rfl);have HA2:Hid (atK [] l=N):=hid (show _=_ by rw [HA.out,DD (by have:=HN.out;omega)];simp [atK]);go_wp2;go_ret2;refine ⟨_,_,rfl,?_,?_,HB.out⟩
   ·rw [HT2.out];exact HO.out.mono (Dq _)
   ·rw [HA2.out];exact HQ.out.mono (Dq _)
end
section
open Go.RowKit
theorem qW (x1 x2:Int) (b:Bool) (w:World) (hb:idRW (x1,x2)=b) :
 Calls Tryz.prog 98 #[.agg #[.int .i64 x1,.int .i64 x2]] w fun e w'=>e=.returned (.bool b)∧Below w.heap.size w w':=by
 subst hb;by_cases h1:1≤x1∧x1≤1099511627776
 ·by_cases h2:0≤x2∧x2≤200
  ·have HW:Hid (idRW (x1,x2)=true):=hid (by unfold idRW;exact DX ⟨h1.1,h1.2,h2.1,h2.2⟩);go_enter Tryz.func98,Tryz.ntmps98
   go_wp2_with fail
   refine (aQ x1 1 1099511627776 _ h1.1 h1.2).mono ?_;rintro r w' ⟨rfl,rfl⟩;go_wp2_with fail
   refine (aQ x2 0 200 _ h2.1 h2.2).mono ?_;rintro r w' ⟨rfl,rfl⟩;go_wp2;go_ret;exact ⟨by rw [HW.out];rfl,(Below.refl _ _).alloc (Db _) _⟩
  ·have HW:Hid (idRW (x1,x2)=false):=hid (by unfold idRW;exact Dx (fun h=>h2 h.2.2));by_cases h3:x2<0
   ·go_enter Tryz.func98,Tryz.ntmps98
    go_wp2_with fail
    refine (aQ x1 1 1099511627776 _ h1.1 h1.2).mono ?_;rintro r w' ⟨rfl,rfl⟩;go_wp2_with fail
    refine (bV x2 0 200 _ h3).mono ?_;rintro r w' ⟨rfl,rfl⟩;go_wp2;go_ret;exact ⟨by rw [HW.out];rfl,(Below.refl _ _).alloc (Db _) _⟩
   ·go_enter Tryz.func98,Tryz.ntmps98
    go_wp2_with fail
    refine (aQ x1 1 1099511627776 _ h1.1 h1.2).mono ?_;rintro r w' ⟨rfl,rfl⟩;go_wp2_with fail
    refine (bU x2 0 200 _ (by omega) (by omega)).mono ?_;rintro r w' ⟨rfl,rfl⟩;go_wp2;go_ret;exact ⟨by rw [HW.out];rfl,(Below.refl _ _).alloc (Db _) _⟩
 ·have HW:Hid (idRW (x1,x2)=false):=hid (by unfold idRW;exact Dx (fun h=>h1 ⟨h.1,h.2.1⟩));by_cases h3:x1<1
  ·go_enter Tryz.func98,Tryz.ntmps98
   go_wp2_with fail
   refine (bV x1 1 1099511627776 _ h3).mono ?_;rintro r w' ⟨rfl,rfl⟩;go_wp2;go_ret;exact ⟨by rw [HW.out];rfl,(Below.refl _ _).alloc (Db _) _⟩
  ·go_enter Tryz.func98,Tryz.ntmps98
   go_wp2_with fail
   refine (bU x1 1 1099511627776 _ (by omega) (by omega)).mono ?_;rintro r w' ⟨rfl,rfl⟩;go_wp2;go_ret;exact ⟨by rw [HW.out];rfl,(Below.refl _ _).alloc (Db _) _⟩
end
section
open Go.RowKit
theorem Da (n:Int) (w:World) (h0 : -9223372036854775808≤n) (h1:n≤9223372036854775807) :
 Calls Tryz.prog 83 #[.int .i64 n] w fun e w'=>e=.returned (.int .u64 (zigN n))∧w=w':=by
 by_cases hneg:n<0
 ·go_enter Tryz.func83,Tryz.ntmps83
  go_wp2;go_ret;exact ⟨fe (by rw [zigN,if_pos hneg];omega),rfl⟩
 ·have h':0≤n:=by omega
  go_enter Tryz.func83,Tryz.ntmps83
  go_wp2;go_ret;exact ⟨fe (by rw [zigN,if_neg (by omega)]),rfl⟩
theorem D6 (n:Int) (w:World) (h0:0≤n) (h1:n≤18446744073709551615) :
 Calls Tryz.prog 67 #[.int .u64 n] w fun e w'=>e=.returned (.int .i64 (zagN n))∧w=w':=by
 by_cases h:n % 2=1
 ·have hb:(n % 2 == 1)=true:=by simpa using h
  have hh:=hid h;clear h;go_enter Tryz.func67,Tryz.ntmps67
  go_wp2;go_ret;exact ⟨fe (by rw [zagN,if_pos hh.out]),rfl⟩
 ·have hb:(n % 2 == 1)=false:=by simpa using h
  have hh:=hid h;clear h;go_enter Tryz.func67,Tryz.ntmps67
  go_wp2;go_ret;exact ⟨fe (by rw [zagN,if_neg hh.out]),rfl⟩
end
section
open Go.RowKit
theorem aY.drew {w:World} {base:Nat} {v:Value} {l:List UInt8} (h:aY w base v l):aY w.drew base v l:=h
theorem aY.lt {w:World} {base:Nat} {v:Value} {l:List UInt8} (h:aY w base v l):∀ k,v.ownBlock=some k→base≤k∧k<w.heap.size:=DQ h
theorem aY.below {w w':World} {base:Nat} {v:Value} {l:List UInt8} (h:aY w base v l) (hb:Below w.heap.size w w'):aY w' base v l:=by
 refine Dt h (row:=none) ⟨hb.os,hb.tape,hb.output,hb.size,fun k hk _=>hb.block k hk⟩ ?_;cases hv:v.ownBlock with
 | none=>exact .inl rfl
 | some g=>exact .inr (by simp)
theorem aY.forms {w:World} {base:Nat} {v:Value} {l:List UInt8} (h:aY w base v l) :
 (v=.slice none 0 0∧l=[])∨∃ g cap,v=.slice (some ⟨g,0,none⟩) l.length cap∧base≤g∧g<w.heap.size∧∀ j,j<l.length→w.cell? ⟨g,j,none⟩=some (.int .u8 ((l.getD j 0).toNat:Int)):=by
 have hall:=h;obtain ⟨h0,h1⟩:=h;rcases h1 with ⟨rfl,hn⟩ | ⟨g,cap,cur,rfl,hb,hh,hc,hm,hs,ht⟩
 ·exact .inl ⟨rfl,E0.1 hn⟩
 ·refine .inr ⟨g,cap,rfl,hb,(DQ hall g rfl).2,fun j hj=>?_⟩;rw [Ej hall j (by omega)];simp [Di hj,dj]
theorem aY.ne_tok {w:World} {base B:Nat} {v:Value} {l:List UInt8} {t:Tok} (h:aY w base v l) (hb:cg w B t):v.ownBlock≠some B:=by
 rcases h.2 with ⟨rfl,_⟩ | ⟨g',cap,cur,rfl,_,hh,_⟩
 ·simp [Value.ownBlock]
 ·intro he;have:g'=B:=by simpa [Value.ownBlock] using he
  subst this;unfold cg at hb;rw [hh] at hb;injection hb with hb
  injection hb with _ ht
  exact absurd ht (by decide)
theorem cg.lt {w:World} {B:Nat} {t:Tok} (h:cg w B t):B<w.heap.size:=by
 rcases Eg B w.heap.size with hlt | hge
 ·exact hlt
 ·unfold cg at h;rw [Ep hge] at h;cases h
theorem cg.alloc {w:World} {B:Nat} {t:Tok} (h:cg w B t) (o:Obj):cg (w.alloc o) B t:=(Below.heap_alloc w o B h.lt).trans h
theorem cg.grown {w w':World} {B:Nat} {t:Tok} {row:Option Nat} (h:cg w B t) (hg:w.grownBy w' row) (hne:row≠some B):cg w' B t:=(hg.block B h.lt (fun e=>hne e.symm)).trans h
theorem cg.cells {w:World} {B:Nat} {t:Tok} (h:cg w B t):w.cell? ⟨B,0,none⟩=some (.string t.own)∧w.cell? ⟨B,1,none⟩=some (.int .i64 t.back)∧w.cell? ⟨B,2,none⟩=some (.int .i64 t.size) :=
 ⟨Dd w B 0 _ _ (0,0) h,Dd w B 1 _ _ (0,0) h,Dd w B 2 _ _ (0,0) h⟩
theorem CC {w:World} {ops:Array Oper} {rest:List Oper} {o:Oper} {a:Act} {Q:Exit→Act→World→Prop} (hgd:o.guard=none) (s x:Operand)
 (ho:o.op=.call { callee:=.builtin .append,args:=#[s,x],argTypes:=#[94,9] })
 (base:Nat) (v:Value) (l:List UInt8) (hs:a.eval s=v) (hown:aY w base v l)
 (t:ByteArray) (hx:a.eval x=.string t) (hlen:l.length+t.size≤140737488355328) (hbase:base≤w.heap.size)
 (h:∀ v' w',aY w' base v' (l++t.data.toList)→w.grownBy w' v.ownBlock→wpList Tryz.prog ops Q rest (a.put o.dst v') w'):wpList Tryz.prog ops Q (o::rest) a w:=by
 obtain ⟨i0,hi,hz0,hz1,hz2⟩:=DU fF;refine Go.Lib.wpList_append_own_string w hgd s x 94 9 ho base 5 i0 Tryz.underlying94 Tryz.underlying9 hi hz0 hz1 hz2 v l.length (l.map dj) hs hown t hx (by unfold maxLen;omega) hlen hbase ?_;intro v' w' h1 h2 _;refine h v' w' ?_ h2;unfold aY;rw [Df,En,Array.length_toList];exact h1
end
section
open Go.RowKit
theorem yP (x:Int) (w:World) (h0:0≤x) (h1:x<4294967296) :
 Calls Tryz.prog 201 #[.int .u32 x] w fun e w'=>e=.returned (.int .u32 (pass x.toNat:Nat))∧w=w':=by
 obtain ⟨n,rfl⟩:=DS h0;have hn:n<4294967296:=by omega
 clear h0 h1;go_enter Tryz.func201,Tryz.ntmps201
 go_wp2
 go_loop [0,4] (fun s i=>∃ k:Nat,k≤8∧i=.int .i64 k∧s=.int .u32 (stn k n:Nat)) (fun _ i=>8-(intOf i).toNat)
 case atStart=>exact ⟨0,by omega,rfl,rfl⟩
 case round =>
  obtain ⟨k,hk,rfl,rfl⟩:=hrel;have hs:=rL k hn;by_cases hlt:k<8
  ·go_wp2
   ·have ht:=tw hs (by assumption)
    go_round
    case rel=>exact ⟨k+1,by omega,by go_num,by rw [AO hs ht];rfl⟩
    case measure=>simp [intOf];omega
   ·have ht:=tu hs (by assumption)
    go_round
    case rel=>exact ⟨k+1,by omega,by go_num,by rw [AN ht];rfl⟩
    case measure=>simp [intOf];omega
  ·obtain rfl:k=8:=by omega
   go_wp2;go_ret;exact ⟨rfl,rfl⟩
end
section
open Go.RowKit
theorem mx {n:Nat} (h:n<4294967296):bits .xor .u32 IntKind.u32.max (n:Int)=(inv n:Nat):=by
 rw [show IntKind.u32.max=((4294967295:Nat):Int) from by decide,u32_xor_nat _ _ (by decide) h,Nat.xor_comm];rfl
theorem D4 {n:Nat} (h:n<4294967296) (c:UInt8):bits .xor .u32 (n:Int) ((c.toNat:Int) % 4294967296)=((n ^^^ c.toNat:Nat):Int):=by
 have:=jn c;rw [Int.emod_eq_of_lt (by omega) (by omega)];exact u32_xor_nat _ _ h (jn c)
theorem Bf (s:ByteArray) (c k:Nat) (h:k<s.size):run c (s.data.toList.take (k+1))=pass (run c (s.data.toList.take k) ^^^ s[k].toNat) :=
 Ak c s.data.toList k (by simpa using h)
theorem Be (s:ByteArray):s.data.toList.take s.size=s.data.toList:=DL (by simp)
theorem xE (x:Int) (s:ByteArray) (w:World) (h0:0≤x) (h1:x<4294967296) (hs:s.size≤maxLen) :
 Calls Tryz.prog 178 #[.int .u32 x,.string s] w fun e w'=>e=.returned (.int .u32 (more x.toNat s.data.toList:Nat))∧w=w':=by
 unfold maxLen at hs;obtain ⟨n,rfl⟩:=DS h0;have hn:n<4294967296:=by omega
 clear h0 h1;go_enter Tryz.func178,Tryz.ntmps178
 go_wp2
 go_loop [0,10] (fun s0 i=>∃ k:Nat,k≤s.size∧i=.int .i64 k∧s0=.int .u32 (run (inv n) (s.data.toList.take k):Nat)) (fun _ i=>s.size-(intOf i).toNat)
 case atStart=>exact ⟨0,by omega,rfl,by rw [mx hn];rfl⟩
 case round =>
  obtain ⟨k,hk,rfl,rfl⟩:=hrel;have hr:=mW (s.data.toList.take k) (ms hn);by_cases hlt:k<s.size
  ·have hx:=D4 hr s[k];have hl:=xlt hr (jn s[k]);go_wp2_with fail
   refine (yP _ _ (by omega) (by omega)).mono ?_;rintro e w' ⟨rfl,rfl⟩;rw [E2];go_wp2
   go_round
   case rel=>exact ⟨k+1,by omega,by go_num,by rw [Bf s _ k hlt]⟩
   case measure=>simp [intOf];omega
  ·obtain rfl:k=s.size:=by omega
   go_wp2;go_ret;exact ⟨mS (by rw [mx hr,Be];rfl),rfl⟩
theorem B2 (s:ByteArray) (w:World) (hs:s.size≤maxLen) :
 Calls Tryz.prog 139 #[.string s] w fun e w'=>e=.returned (.int .u32 (sum s.data.toList:Nat))∧w=w':=by
 go_enter Tryz.func139,Tryz.ntmps139
 go_wp2_with fail
 refine (xE _ _ _ (by omega) (by omega) hs).mono ?_;rintro e w' ⟨rfl,rfl⟩;go_wp2;go_ret;exact ⟨rfl,rfl⟩
end
section
def sumT:List Tok→Nat
 | []=>0
 | t::r=>lenT t+sumT r
theorem Bk (l:List Tok) (b:List UInt8):(aD b l).length=b.length+sumT l:=by
 induction l generalizing b with
 | nil=>rfl
 | cons t r ih=>show (aD (co b t) r).length=_;rw [ih,rH,sumT];omega
def cost (l:List Tok):Nat:=(aZ l).length
theorem uS (t:Tok) (r:List Tok):cost (t::r)=(putT t).length+cost r:=by unfold cost;rw [ol,Df]
theorem uR (l m:List Tok):cost (l++m)=cost l+cost m:=by unfold cost;rw [sU,Df]
theorem zG {t:Tok} (h:fine t) (h0:t.own.size=0):1≤(putT t).length∧(putT t).length≤3∧4≤lenT t:=by
 rcases h with ⟨h1,_,_⟩ | ⟨_,h1,h2,h3,h4⟩
 ·exact absurd h0 h1
 ·refine ⟨zg t,?_,by unfold lenT;omega⟩;rw [k7 h0,Df];have e1:=mL 1 (2 * (t.size.toNat-4)+1) (by omega) (by omega);have e2:=mL 2 (t.back.toNat-1) (by omega) (by omega);omega
end
section
open Go.RowKit
def tf (w:World) (base:Nat) (l:List Tok) (e:Ending) (w':World):Prop :=
 ∃ v,e=.returned v∧ax w' base v l∧Below base w w'
theorem qF (v:Value) (l:List Tok) (s:ByteArray) (base:Nat) (w:World) (hs:s.size≤140737488351232) (hb:base≤w.heap.size) (ho:ax w base v l) (hl:l.length≤999999) :
 Calls Tryz.prog 181 #[v,.string s] w (tf w base (l++ownT s.data.toList)):=by
 by_cases hz:s.data.toList=[]
 ·have h1:s.toList=[]:=by rw [toL];exact hz
  have h2:s.toList.isEmpty=true:=by rw [h1];rfl
  have HO:Hid (ax w base v (l++ownT s.data.toList)):=by
   have h:ax w base v (l++ownT s.data.toList):=by rw [hz,qE,DV];exact ho
   exact h
  clear ho hz;go_enter Tryz.func181,Tryz.ntmps181
  go_wp2;go_ret;exact ⟨_,rfl,HO.out,Below.refl _ _⟩
 ·have h2 : s.toList.isEmpty = false := by rw [toL]; cases h : s.data.toList with
                                                     | nil=>exact absurd h hz
                                                     | cons=>rfl
  have HO:=hid ho;have HT:Hid (ownT s.data.toList=[⟨s,0,0⟩]):=by
   have h:ownT s.data.toList=[⟨s,0,0⟩]:=by rw [mG hz]
   exact h
  clear ho hz;go_enter Tryz.func181,Tryz.ntmps181
  go_wp2_with fail
  refine (lM s _ hs).mono ?_;rintro r w1 ⟨rfl,hb1⟩;have HO1:=hid (HO.out.below hb1);have HB1:Hid (Below base w w1):=hb1.mono hb;have hbs:base≤w1.heap.size:=Dl hb hb1.size;clear hb1;go_wp2_with (at_builtin;refine fU rfl _ _ rfl base _ l rfl (HO1.out.alloc _) w1.heap.size 1 rfl ⟨s,0,0⟩ ?c1 ?c2 ?c3 ?_)
  case c1=>exact e8 _ _ _ _
  case c2=>omega
  case c3=>simp;omega
  ·intro g cap w2 ho2 hg2;have HB2:Hid (Below base w w2):=(HB1.out.alloc hbs _).grown hg2 (by simp;omega) (fun g hg=>(HO1.out.lt g hg).1);have HO2:=hid ho2;clear ho2 hg2;go_wp2;go_ret;exact ⟨_,rfl,by rw [HT.out];exact HO2.out,HB2.out⟩
end
section
open Go.RowKit
def hasV (K:Int):Bool:=decide (K=1) || decide (K=4)
def hasN (K:Int):Bool:=decide (K=3) || decide (K=4)
def idOk (T R:Int):Bool:=decide (1≤T∧T≤1099511627776∧0≤R∧R≤200)
def aV (K N:Int):Bool:=if K=3 then decide (-1125899906842624≤N) && decide (N≤1125899906842624) else if K=4 then decide (0≤N) && decide (N≤1000) else true
def wriE (T R K:Int) (key val:ByteArray) (N:Int):Nat :=
 if K<1∨4<K then 1 else if idOk T R=false then 2 else if 40<key.size∨300<val.size then 4 else if (0<val.size∧hasV K=false)∨(N≠0∧hasN K=false) then 3 else if aV K N=false then 2 else 0
theorem sR {T R K:Int} {key val:ByteArray} {N:Int} (h:K<1∨4<K):wriE T R K key val N=1:=if_pos h
theorem sQ {T R K:Int} {key val:ByteArray} {N:Int} (h:¬ (K<1∨4<K)) (h1:idOk T R=false):wriE T R K key val N=2:=by unfold wriE;rw [if_neg h,if_pos h1]
theorem sT {T R K:Int} {key val:ByteArray} {N:Int} (h:¬ (K<1∨4<K)) (h1:idOk T R=true) (h2:40<key.size∨300<val.size):wriE T R K key val N=4:=by
 unfold wriE;rw [if_neg h,if_neg (by rw [h1];decide),if_pos h2]
theorem sS {T R K:Int} {key val:ByteArray} {N:Int} (h:¬ (K<1∨4<K)) (h1:idOk T R=true) (h2:¬ (40<key.size∨300<val.size)) :
 wriE T R K key val N=if ((decide (0<val.size) && !hasV K) || (decide (N≠0) && !hasN K))=true then 3 else if aV K N=true then 0 else 2:=by
 unfold wriE;rw [if_neg h,if_neg (by rw [h1];decide),if_neg h2];cases hasV K <;> cases hasN K <;> cases aV K N <;> simp
theorem eV {s:ByteArray} (h:¬ 0<s.size):s=⟨#[]⟩:=by
 cases s with
 | mk d => have : d.size = 0 := by have h2 : ¬ 0 < d.size := h; omega
           rw [Array.eq_empty_of_size_eq_zero this]
theorem eS {s:ByteArray} (h:0<s.size):(s.toList != [])=true:=by
 rw [Ew,bne_iff_ne];intro e;have:s.data.toList.length=0:=by rw [e];rfl
 have h2:s.data.toList.length=s.size:=Array.length_toList;omega
theorem j7 {T R K:Int} {key val:ByteArray} {N:Int} (h:wriE T R K key val N=0) :
 ¬ (K<1∨4<K)∧idOk T R=true∧key.size≤40∧val.size≤300∧¬ ((0<val.size∧hasV K=false)∨(N≠0∧hasN K=false))∧aV K N=true:=by
 unfold wriE at h;split at h
 ·simp at h
 ·split at h
  ·simp at h
  ·split at h
   ·simp at h
   ·split at h
    ·simp at h
    ·split at h
     ·simp at h
     ·rename_i h1 h2 h3 h4 h5;exact ⟨h1,by simpa using h2,by omega,by omega,h4,by simpa using h5⟩
end
section
open Go.RowKit
theorem qn {l:List Ent} {k:Nat} {t:Ent} (h:l[k]? = some t) (x:Int):ofF (l.drop k) x=if t.rep=x then t.time else ofF (l.drop (k+1)) x:=by
 obtain ⟨hk,ht⟩:=Do.1 h;rw [DA hk,ht];rfl
theorem Ce (v:Value) (l:List Ent) (x:Int) (w:World) (hv:ae w v l) (hl:l.length≤9223372036854775807) :
 Calls Tryz.prog 195 #[v,.int .i64 x] w fun r w'=>r=.returned (.int .i64 (ofF l x))∧Below w.heap.size w w':=by
 obtain ⟨a1,c1,rfl,f1⟩:=hv.form;have F1:=hid f1;obtain ⟨n,hn⟩:∃ n,n=l.length:=⟨_,rfl⟩;rw [←hn] at hl ⊢;have HN:=hid hn;clear hv f1 hn;go_enter Tryz.func195,Tryz.ntmps195
 go_wp2
 go_loopw [9] (fun i wr=>∃ k:Nat,k≤n∧i=.int .i64 k∧ofF l x=ofF (l.drop k) x∧Below w.heap.size w wr) (fun i _=>n-(intOf i).toNat)
 case atStart=>exact ⟨0,by omega,rfl,rfl,Below.refl _ _⟩
 case round =>
  obtain ⟨k,hk,rfl,heq,hbel⟩:=hrel;have HEQ:=hid heq;have HB:=hid hbel;have hzr:=hbel.size;clear heq hbel;by_cases hlt:k<n
  ·obtain ⟨t, ht⟩ : ∃ t, l[k]? = some t := ⟨l[k]'(by have := HN.out; omega), Di _⟩;obtain ⟨b1,o1,rfl,hb1,p0,p1⟩:=F1.out k t ht;have hd:=qn ht x;obtain ⟨rep,time⟩:=t;simp only at p0 p1 hd
   have q0:=(HB.out.cell (p:=⟨b1,o1+k * 2,none⟩) hb1).trans p0;have q1:=(HB.out.cell (p:=⟨b1,o1+k * 2+1,none⟩) hb1).trans p1;by_cases hx:rep=x
   ·have HW:Hid (ofF l x=time):=hid (show ofF l x=time by rw [HEQ.out,hd,if_pos hx]);clear p0 p1 ht hd;subst hx;go_wp2;go_ret;exact ⟨by rw [HW.out];rfl,HB.out.alloc hzr _⟩
   ·have HW:Hid (ofF l x=ofF (l.drop (k+1)) x):=hid (show ofF l x=ofF (l.drop (k+1)) x by rw [HEQ.out,hd,if_neg hx]);have bx:(rep == x)=false:=by simpa using hx
    clear p0 p1 ht hd;go_wp2;go_roundw
    case rel=>exact ⟨k+1,by omega,by go_num,HW.out,HB.out.alloc hzr _⟩
    case measure=>simp [intOf];omega
  ·have HW:Hid (ofF l x=0):=hid (show ofF l x=0 by rw [HEQ.out,DD (by have:=HN.out;omega)];rfl);go_wp2;go_ret;exact ⟨by rw [HW.out];rfl,HB.out⟩
theorem zW (v:Value) (l:List Ent) (x:Int) (w:World) (hv:ae w v l) (hl:l.length≤9223372036854775807) :
 Calls Tryz.prog 101 #[v,.int .i64 x] w fun r w'=>r=.returned (.int .i64 (ofF l x))∧w=w':=by
 obtain ⟨a1,c1,rfl,f1⟩:=hv.form;have F1:=hid f1;obtain ⟨n,hn⟩:∃ n,n=l.length:=⟨_,rfl⟩;rw [←hn] at hl ⊢;have HN:=hid hn;clear hv f1 hn;go_enter Tryz.func101,Tryz.ntmps101
 go_wp2
 go_loop [8] (fun i=>∃ k:Nat,k≤n∧i=.int .i64 k∧ofF l x=ofF (l.drop k) x) (fun i=>n-(intOf i).toNat)
 case atStart=>exact ⟨0,by omega,rfl,rfl⟩
 case round =>
  obtain ⟨k,hk,rfl,heq⟩:=hrel;have HEQ:=hid heq;clear heq;by_cases hlt:k<n
  ·obtain ⟨t, ht⟩ : ∃ t, l[k]? = some t := ⟨l[k]'(by have := HN.out; omega), Di _⟩;obtain ⟨b1,o1,rfl,hb1,p0,p1⟩:=F1.out k t ht;have hd:=qn ht x;obtain ⟨rep,time⟩:=t;simp only at p0 p1 hd
   by_cases hx:rep=x
   ·have HW:Hid (ofF l x=time):=hid (show ofF l x=time by rw [HEQ.out,hd,if_pos hx]);clear ht hd;subst hx;go_wp2;go_ret;exact ⟨by rw [HW.out];rfl,rfl⟩
   ·have HW:Hid (ofF l x=ofF (l.drop (k+1)) x):=hid (show ofF l x=ofF (l.drop (k+1)) x by rw [HEQ.out,hd,if_neg hx]);have bx:(rep == x)=false:=by simpa using hx
    clear ht hd;go_wp2
    go_round
    case rel=>exact ⟨k+1,by omega,by go_num,HW.out⟩
    case measure=>simp [intOf];omega
  ·have HW:Hid (ofF l x=0):=hid (show ofF l x=0 by rw [HEQ.out,DD (by have:=HN.out;omega)];rfl);go_wp2;go_ret;exact ⟨by rw [HW.out];rfl,rfl⟩
theorem iW (v:Value) (l:List Ent) (x y:Int) (w:World) (hv:ae w v l) (hl:l.length≤9223372036854775807) (h:ofF l x=y) :
 Calls Tryz.prog 195 #[v,.int .i64 x] w fun r w'=>r=.returned (.int .i64 y)∧Below w.heap.size w w':=by
 subst h;exact Ce v l x w hv hl
theorem iI (v:Value) (l:List Ent) (x y:Int) (w:World) (n:Nat) (hv:ae w v l) (hl:l.length≤9223372036854775807) (h:ofF l x=y) :
 Calls Tryz.prog 101 #[v,.int .i64 x] (w.drewN n) fun r w'=>r=.returned (.int .i64 y)∧∃ m,w'=w.drewN m :=
 (zW v l x (w.drewN n) (hv.drewN n) hl).mono fun _ _ ⟨h1,h2⟩=>⟨by rw [h1,h],n,h2.symm⟩
end
section
open Go.RowKit
def numR (r:Nat×Nat×Nat):Value:=.tuple #[.int .u64 r.1,.int .i64 r.2.1,.int .i64 r.2.2]
theorem jR {l:List UInt8} {n k e:Nat} {a b c:Int} (h:getL l=(n,k,e)) (ha:a=n) (hb:b=k) (hc:c=e) :
 Ending.returned (.tuple #[.int .u64 a,.int .i64 b,.int .i64 c])=.returned (numR (getL l)):=by
 rw [h,ha,hb,hc];rfl
theorem BY (l:List UInt8):∀ j,valL (l.drop j)≤valL l:=by
 induction l with
 | nil=>intro j;simp
 | cons c r ih =>
  intro j;cases j with
  | zero=>exact Db _
  | succ j=>rw [List.drop_succ_cons,valL];have:=ih j;omega
theorem BZ (s:ByteArray) (i j:Nat) (hi:i<s.size) (hj:j≤i) :
 valL ((s.data.toList.take (i+1)).drop j)=s[j].toNat % 128+128 * valL ((s.data.toList.take (i+1)).drop (j+1)):=by
 have hl:j<(s.data.toList.take (i+1)).length:=by rw [DK,←ac];omega
 rw [DA hl,valL]
 congr 2
 rw [List.getElem_take]
 rfl
theorem nX (s:ByteArray) (w:World) (hs:s.size≤maxLen) :
 Calls Tryz.prog 61 #[.string s] w fun e w'=>e=.returned (numR (getL s.data.toList))∧w=w':=by
 unfold maxLen at hs;go_enter Tryz.func61,Tryz.ntmps61
 go_wp2
 go_loop [5] (fun i=>∃ k:Nat,k≤s.size∧k≤9∧i=.int .i64 k∧scan 0 s.data.toList=scan k (s.data.toList.drop k)) (fun i=>s.size-(intOf i).toNat)
 case atStart=>exact ⟨0,Ds _,Ds _,rfl,rfl⟩
 case round =>
  obtain ⟨k,hk,hk9,rfl,hsc⟩:=hrel;have HSC:=hid hsc;clear hsc;by_cases hlt:k<s.size
  ·have hne:((k:Int) == (s.size:Int))=false:=by simp;omega
   have hd9:(((k:Int) == 9)=true∧Hid (k=9))∨(((k:Int) == 9)=false∧Hid (k≠9)):=by
    by_cases h:k=9
    ·exact .inl ⟨by rw [h];rfl,h⟩
    ·exact .inr ⟨by simp;omega,h⟩
   rcases hd9 with ⟨hb,H9⟩ | ⟨hb,H9⟩
   all_goals go_wp2
   all_goals first
    | (have h1 : 1 < (s[k].toNat : Int) := by assumption
       go_ret3;exact ⟨jR (fC (by rw [HSC.out,du s k hlt,if_pos ⟨H9.out,by omega⟩])) rfl rfl rfl,rfl⟩)
    | (have h1 : s[k].toNat = 0 := by assumption
       have h2:0<k:=by first | assumption | (have:=H9.out;omega)
       go_ret3;exact ⟨jR (fC (by rw [HSC.out,du s k hlt,if_neg (by omega),if_pos ⟨h2,h1⟩])) rfl rfl rfl,rfl⟩)
    | (have h3 : 128 ≤ (s[k].toNat : Int) := by assumption
       have n9:k≠9:=by first | exact H9.out | omega
       go_round
       case rel=>exact ⟨k+1,by omega,by omega,by go_num,by rw [HSC.out,du s k hlt,if_neg (by intro h;exact n9 h.1),if_neg (by omega),if_neg (by omega)]⟩
       case measure=>simp [intOf];omega)
    | skip
   all_goals
    have HST:Hid (scan 0 s.data.toList=.inr (k+1)):=by
     have h9:=H9.out;show scan 0 s.data.toList=.inr (k+1)
     rw [HSC.out,du s k hlt,if_neg (by omega),if_neg (by omega),if_pos (by omega)]
    have HV:=hid (rq HST.out).2.2.2;clear HSC H9 hb hne
    go_loop [6,7] (fun n j=>∃ m:Nat,m≤k+1∧j=.int .i64 ((m:Int)-1)∧n=.int .u64 (valL ((s.data.toList.take (k+1)).drop m))) (fun _ j=>(intOf j+1).toNat)
    case atStart=>exact ⟨k+1,Db _,by go_num,by rw [DD (by simp;omega)];rfl⟩
    case round =>
     obtain ⟨m,hm,rfl,rfl⟩:=hrel;rcases m with _ | m
     ·go_wp2;go_ret3;exact ⟨jR (jB HST.out) rfl rfl rfl,rfl⟩
     ·have hm2:m<s.size:=by omega
      have hst:=BZ s k m hlt (by omega);have hle:=BY (s.data.toList.take (k+1)) m;have hv:=HV.out;have HST2:=hid hst;have hbd:(valL ((s.data.toList.take (k+1)).drop (m+1)):Int) * 128+(s[m].toNat:Int) % 128≤18446744073709551615:=by omega
      clear hst hle hv;go_wp2
      go_round
      case rel=>exact ⟨m,by omega,rfl,by rw [HST2.out];go_num⟩
      case measure=>simp [intOf]
  ·have hne:((k:Int) == (s.size:Int))=true:=by simp;omega
   go_wp2;go_ret3;exact ⟨jR (fC (by rw [HSC.out,DD (by rw [←ac];omega),scan])) rfl rfl rfl,rfl⟩
end
section
open Go.RowKit
def eG (n k:Nat):Array Value:=((List.range 4).map fun i=>Value.int .u8 (if i<k then (n:Int) / 2 ^ (8 * i) % 256 else 0)).toArray
theorem n6 (n k:Nat):(eG n k).size=4:=by simp [eG]
theorem iL (n k i:Nat) (h:i<4):(eG n k)[i]? = some (.int .u8 (if i<k then (n:Int) / 2 ^ (8 * i) % 256 else 0)):=by
 unfold eG;simp [h]
theorem Ba (n k:Nat) (hk:k<4):(eG n k).setIfInBounds k (.int .u8 ((n:Int) / 2 ^ (8 * k) % 256))=eG n (k+1):=by
 apply Array.ext_getElem?
 intro i;rw [Array.getElem?_setIfInBounds,n6];by_cases hi:i<4
 ·by_cases e:k=i
  ·subst e;rw [if_pos rfl,if_pos hk,iL _ _ k hi,if_pos (by omega)]
  ·rw [if_neg e,iL _ _ i hi,iL _ _ i hi];by_cases h2:i<k
   ·rw [if_pos h2,if_pos (by omega)]
   ·rw [if_neg h2,if_neg (by omega)]
 ·rw [Ep (by rw [n6];omega),Ep (by rw [n6];omega),if_neg (by omega)]
theorem B9 (n j:Nat) (h:j<(br n).length):((br n)[j].toNat:Int)=(n:Int) / 2 ^ (8 * j) % 256:=by
 have e:∀ m:Nat,((UInt8.ofNat m).toNat:Int)=((m % 256:Nat):Int):=fun m=>by simp
 match j,h with
 | 0,_=>show ((UInt8.ofNat n).toNat:Int)=_;rw [e];simp
 | 1,_=>show ((UInt8.ofNat (n / 256)).toNat:Int)=_;rw [e];simp
 | 2,_=>show ((UInt8.ofNat (n / 65536)).toNat:Int)=_;rw [e];simp
 | 3,_=>show ((UInt8.ofNat (n / 16777216)).toNat:Int)=_;rw [e];simp
 | j+4,h=>exact absurd h (by simp [br])
theorem Bc (n:Nat) (w:World):(convert 94 9 (.slice (some ⟨w.heap.size,0,none⟩) 4 4)).run Tryz.prog (w.alloc (.cells (eG n 4) 194))=.ok (.string ⟨(br n).toArray⟩) (w.alloc (.cells (eG n 4) 194)):=by
 refine EW _ _ _ _ _ _ (br n) Tryz.underlying94 Tryz.underlying5 Tryz.underlying9 fun j hj=>?_
 have hadd:(⟨w.heap.size,0,none⟩:Addr).add j=⟨w.heap.size,j,none⟩:=by unfold Addr.add;split <;> simp_all
 have h4:j<4:=hj;rw [hadd,Dd _ _ _ _ _ _ (Dg w _),iL _ _ _ h4,if_pos h4,B9 n j hj]
theorem n7 (s:ByteArray) (w:World) (hs:s.size≤maxLen) :
 Calls Tryz.prog 91 #[.string s] w fun e w'=>e=.returned (.string ⟨(br (sum s.data.toList)).toArray⟩)∧Below w.heap.size w w':=by
 have hl:=rN s.data.toList;go_enter Tryz.func91,Tryz.ntmps91
 go_wp2_with fail
 refine (B2 _ _ hs).mono ?_;rintro e w' ⟨rfl,rfl⟩;obtain ⟨n,hn⟩:∃ n,n=sum s.data.toList:=⟨_,rfl⟩;rw [←hn] at hl ⊢;have HN:=hid hn;clear hn;go_wp2
 go_loopw [8] (fun i wr=>∃ k:Nat,k≤4∧i=.int .i64 k∧wr=w.alloc (.cells (eG n k) 194)) (fun i _=>4-(intOf i).toNat)
 case atStart=>exact ⟨0,by omega,rfl,rfl⟩
 case round =>
  obtain ⟨k,hk,rfl,rfl⟩:=hrel;by_cases hlt:k<4
  ·have hc:=iL n k k hlt;rw [if_neg (Nat.lt_irrefl k)] at hc;have hz:=Ba n k hlt;go_wp2;go_roundw
   case rel=>exact ⟨k+1,by omega,by go_num,rfl⟩
   case measure=>simp [intOf];omega
  ·obtain rfl:k=4:=by omega
   have hconv:=Bc n w;go_wp2;go_ret;exact ⟨by rw [HN.out];rfl,(Below.refl _ _).alloc (Db _) _⟩
def cS (s:ByteArray):ByteArray:=s++⟨(br (sum s.data.toList)).toArray⟩
theorem kx (s:ByteArray):(cS s).data.toList=dI s.data.toList:=by unfold cS dI;simp
theorem AE (s:ByteArray) (w:World) (hs:s.size≤140737488351232) :
 Calls Tryz.prog 57 #[.string s] w fun e w'=>e=.returned (.string (cS s))∧Below w.heap.size w w':=by
 have hz:(⟨(br (sum s.data.toList)).toArray⟩:ByteArray).size=4:=rfl;go_enter Tryz.func57,Tryz.ntmps57
 go_wp2_with fail
 refine (n7 s _ (by unfold maxLen;omega)).mono ?_;rintro e w1 ⟨rfl,hb1⟩;have HB:=hid hb1;clear hb1;go_wp2;go_ret;exact ⟨rfl,HB.out⟩
end
