import Derived.Test.YtagoidpkbloflaaGreatDoorKlq
import Derived.Test.YtagoidpkbloflaaGreatDoorKl05
import Derived.WalkSpells
namespace Go.Proofs.YtagoidpkbloflaaGreatDoor
open Lib (hid)
set_option maxRecDepth 100000
set_option maxHeartbeats 8000000
section
open Go.RowKit
theorem AL (n k:Nat):(n:Int) / 2 ^ k=((n / 2 ^ k:Nat):Int):=by simp
theorem qb {n:Nat} (hn:n<4294967296) (y r:Nat) (hy:y<256) :
 bits .xor .u32 (bits .and .u32 (n:Int) 1) (bits .and .u32 ((y:Int) / 2 ^ r % 4294967296) 1)=(((n ^^^ y / 2 ^ r % 2) % 2:Nat):Int):=by
 have h1:y / 2 ^ r<256:=Nat.lt_of_le_of_lt (Nat.div_le_self _ _) hy;have e1:(y:Int) / 2 ^ r % 4294967296=((y / 2 ^ r:Nat):Int):=by
  rw [AL];generalize y / 2 ^ r=m at *;omega
 rw [e1,jf n hn,jf _ (by omega),u32_xor_nat _ _ (by omega) (by omega)]
 congr 1
 have:=Nat.xor_mod_two_pow (a:=n) (b:=y / 2 ^ r % 2) (n:=1);simp only [Nat.pow_one] at this
 rw [this,Nat.mod_mod]
theorem rC (n b:Nat) (hb:b<2):(n ^^^ b) / 2=n / 2:=by
 rw [Nat.xor_div_two,show b / 2=0 by omega,Nat.xor_zero]
theorem tU {n:Nat} (hn:n<4294967296) (y r:Nat) (hy:y<256)
 (ht:(bits .xor .u32 (bits .and .u32 (n:Int) 1) (bits .and .u32 ((y:Int) / 2 ^ r % 4294967296) 1) == 1)=true) :
 bits .xor .u32 ((n:Int) / 2) 2197175160=(st (n ^^^ y / 2 ^ r % 2):Nat):=by
 rw [qb hn y r hy] at ht;have h2:=eq_of_beq ht;rw [eE (by omega),rC _ _ (Nat.mod_lt _ (by decide)),jG,show (2197175160:Int)=((2197175160:Nat):Int) from rfl,u32_xor_nat _ _ (by omega) (by omega)]
theorem tT {n:Nat} (hn:n<4294967296) (y r:Nat) (hy:y<256)
 (ht:(bits .xor .u32 (bits .and .u32 (n:Int) 1) (bits .and .u32 ((y:Int) / 2 ^ r % 4294967296) 1) == 1)=false) :
 (n:Int) / 2=(st (n ^^^ y / 2 ^ r % 2):Nat):=by
 rw [qb hn y r hy] at ht;have h2:(n ^^^ y / 2 ^ r % 2) % 2≠1:=by intro e;rw [e] at ht;exact absurd ht (by decide)
 rw [dY h2,rC _ _ (Nat.mod_lt _ (by decide)),jG]
theorem oS (s:ByteArray) (c k:Nat) (h:k / 8<s.size):bs c (val s.data.toList) (k+1)=st (bs c (val s.data.toList) k ^^^ s[k / 8].toNat / 2 ^ (k % 8) % 2):=by
 have:=C1 s.data.toList (k / 8) (k % 8) (by simpa using h) (Nat.mod_lt _ (by decide));rw [show 8 * (k / 8)+k % 8=k by omega] at this;rw [bs,this];rfl
theorem zz (x:Int) (s:ByteArray) (w:World) (h0:0≤x) (h1:x<4294967296) (hs:s.size≤1000000) :
 Calls Tryz.prog 87 #[.int .u32 x,.string s] w fun e w'=>e=.returned (.int .u32 (run x.toNat s.data.toList:Nat))∧w=w':=by
 obtain ⟨c,rfl⟩:=DS h0;have hc:c<4294967296:=by omega
 clear h0 h1;go_enter Tryz.func87,Tryz.ntmps87
 go_wp2
 go_loop [0,5] (fun n i=>∃ k:Nat,k≤8 * s.size∧i=.int .i64 k∧n=.int .u32 (bs c (val s.data.toList) k:Nat)) (fun _ i=>8 * s.size-(intOf i).toNat)
 case atStart=>exact ⟨0,by omega,rfl,rfl⟩
 case round =>
  obtain ⟨k,hk,rfl,rfl⟩:=hrel;have hb:=uo (val s.data.toList) k hc;by_cases hlt:k<8 * s.size
  ·have hj:k / 8<s.size:=by omega
   have hj2:(k:Int) / 8<(s.size:Int):=by omega
   have hj1:0≤(k:Int) / 8:=by omega
   have hr1:0≤(k:Int) % 8:=by omega
   have hr2:(k:Int) % 8<8:=by omega
   go_wp2
   ·have ht:=tU hb _ _ s[k / 8].toNat_lt (by assumption)
    go_round
    case rel=>exact ⟨k+1,by omega,by go_num,by rw [ht,oS s c k hj]⟩
    case measure=>simp [intOf];omega
   ·have ht:=tT hb _ _ s[k / 8].toNat_lt (by assumption)
    go_round
    case rel=>exact ⟨k+1,by omega,by go_num,by rw [ht,oS s c k hj]⟩
    case measure=>simp [intOf];omega
  ·obtain rfl:k=8 * s.size:=by omega
   go_wp2;go_ret;exact ⟨mS (by rw [←up];simp),rfl⟩
theorem zA (s:ByteArray) (w:World) (hs:s.size≤1000000) :
 Calls Tryz.prog 55 #[.string s] w fun e w'=>e=.returned (.int .u32 (sum s.data.toList:Nat))∧w=w':=by
 go_enter Tryz.func55,Tryz.ntmps55
 go_wp2_with fail
 refine (zz _ _ _ (by omega) (by omega) hs).mono ?_;rintro e w' ⟨rfl,rfl⟩;go_wp2;go_ret;exact ⟨mS (mx (mW _ (by decide))),rfl⟩
end
section
open Go.RowKit
theorem tV {n:Nat} (h:¬ n<128) (h64:n<18446744073709551616):cK n=cK (n / 128)+7:=by
 unfold cK;have e:=oK 57 7 n (by omega);rw [show (57:Nat)+7=64 from rfl] at e;have e2:bJ 64 (n / 128)=bJ 57 (n / 128):=ji 57 (n / 128) 7 (by omega);rw [e,e2,show (2:Nat) ^ 7=128 from rfl];omega
theorem tY:∀ n,n<128→cK n≤7:=by
 intro n h;have:cK n=bJ 7 n:=ji 7 n 57 (by omega);rw [this];exact dN 7 n
theorem tX {n:Nat} (h:0<n):0<cK n:=by
 unfold cK bJ;rw [if_neg (by omega)];omega
theorem AK (n:Nat):n<18446744073709551616→(fg n=max 1 ((cK n+6) / 7)):=by
 induction n using Nat.strongRecOn with
 | ind n ih =>
  intro h64;by_cases h:n<128
  ·rw [iK h];have:=tY n h;omega
  ·rw [kz h,tV h h64,ih (n / 128) (by omega) (by omega)];have:=tX (n:=n / 128) (by omega);omega
def loB (n i:Nat):Nat:=n / p128 i % 128
theorem zf (i : Nat) : ∀ n (h : i < (putL n).length), ((putL n)[i]'h).toNat = loB n i + (if i + 1 < (putL n).length then 128 else 0) := by
 induction i with
 | zero =>
  intro n h;unfold loB p128;by_cases h2:n<128
  ·simp only [fL h2];simp;omega
  ·simp only [ex h2]
   have:=iB (n / 128);rw [if_pos (by simp;omega)];simp;omega
 | succ i ih =>
  intro n h;by_cases h2:n<128
  ·rw [fL h2] at h;simp at h
  ·have e : (putL n)[i + 1]'h = (putL (n / 128))[i]'(by rw [ex h2] at h; simpa using h) := by simp only [ex h2]; rfl
   rw [e,ih];unfold loB p128;rw [EX,Eb,Es 128]
   congr 2
   rw [ex h2];simp
def db (n i:Nat):List UInt8:=(putL n).take i++List.replicate ((putL n).length-i) 0
theorem yN (n i:Nat) (h:i≤(putL n).length):(db n i).length=(putL n).length:=by
 unfold db;simp;omega
theorem yM (n:Nat):db n (putL n).length=putL n:=by unfold db;simp
theorem yO (n i:Nat) (h:i<(putL n).length):(db n i).set i ((putL n)[i])=db n (i+1):=by
 unfold db;have e:(putL n).length-i=(putL n).length-(i+1)+1:=by omega
 rw [List.set_append_right _ _ (by simp;omega),e,List.replicate_succ];have e2:i-((putL n).take i).length=0:=by simp;omega
 rw [e2,List.set_cons_zero,E8 h,E3]
 rfl
theorem xC (k:Nat):(madeCells (Value.int .u8 0).cells (k * 1)).toList=(List.replicate k (0:UInt8)).map dj:=by
 apply List.ext_getElem
 ·simp [madeCells]
 ·intro i h1 h2;simp [madeCells,dj,Value.cells,Nat.mod_one]
theorem yI (j:Nat):1≤p128 j:=Nat.pos_of_ne_zero (by unfold p128;exact Nat.ne_of_gt (Nat.pow_pos (by decide)))
theorem qH (N j:Nat) (h:j<(putL N).length) (b:Int) (hb:b=((loB N j+(if j+1<(putL N).length then 128 else 0):Nat):Int)) :
 ((db N j).map dj).set j (.int .u8 b)=(db N (j+1)).map dj:=by
 rw [←yO N j h,List.map_set]
 congr 1
 unfold dj;rw [zf j N h,hb]
theorem eC (N:Nat) (w:World) (h1:N≤18446744073709551615) :
 Calls Tryz.prog 20 #[.int .u64 (N:Int)] w fun e w'=>e=.returned (.string ⟨(putL N).toArray⟩)∧Below w.heap.size w w':=by
 have hlen:(putL N).length=max 1 ((cK N+6) / 7):=by rw [qL];exact AK N (by omega)
 have hl10:=aK (n:=N) (by omega);have hb:cK N≤64:=dN 64 N;obtain ⟨B,hB⟩:∃ B,cK N=B:=⟨_,rfl⟩;rw [hB] at hlen hb;have HB:=hid hB;obtain ⟨k,hk⟩:∃ k,(putL N).length=k:=⟨_,rfl⟩;rw [hk] at hlen hl10;have HK:=hid hk;clear hB hk;have hk1:1≤k:=by omega
 obtain ⟨i0,hi,hz0,hz1,hz2⟩:=DU fF;have hcase:(1<((B:Int)+6) / 7∧((B:Int)+6) / 7=k)∨(((B:Int)+6) / 7≤1∧k≤1):=by omega
 clear hlen;rcases hcase with ⟨c1,c2⟩ | ⟨c1,c2⟩
 all_goals
  go_enter Tryz.func20,Tryz.ntmps20
  go_wp2_with (first | (go_at_call 53;refine (xo (N:Int) _ (by omega) (by omega)).mono ?_;rintro r w' ⟨rfl,rfl⟩;rw [E2,HB.out]) | (at_make;refine wpList_make_full _ rfl _ _ 94 rfl w.heap.size 5 i0 (.int .u8 0) 1 Tryz.underlying94 hi hz0 hz1 .i64 .i64 _ _ k rfl rfl (by first | rfl | omega) (by first | rfl | omega) (by rw [hz2];omega) (by unfold maxLen;omega) (Db _) ?_;intro w1 hown hg1;rw [xC] at hown;have hbel:Below w.heap.size w w1:=(Below.refl _ _).grown hg1 (Db _) (fun _ h=>by cases h);have HOWN:=hid hown;have HBEL:=hid hbel;clear hg1 hown hbel))
  have HOWN:=‹Hid (World.ownsRow _ w.heap.size _ _ _ _ _)›;have HBEL:=‹Hid (Below w.heap.size w _)›
  go_loopw [15] (fun i wr=>∃ j:Nat,j≤k∧i=.int .i64 j∧wr.ownsRow w.heap.size 5 1 (.slice (some ⟨w.heap.size,0,none⟩) k k) k ((db N j).map dj)∧Below w.heap.size w wr) (fun i _=>k-(intOf i).toNat)
  case atStart=>exact ⟨0,Ds _,rfl,by unfold db;rw [HK.out];exact HOWN.out,HBEL.out⟩
  case round =>
   obtain ⟨j,hj,rfl,hownr,hbr⟩:=hrel;by_cases hlt:j<k
   ·have HO:=hid hownr;have hjl:j<(db N j).length:=by rw [yN N j (by rw [HK.out];omega),HK.out];exact hlt
    obtain ⟨v0,hv0⟩:∃ v0:Int,wr.cell? ⟨w.heap.size,j,none⟩=some (.int .u8 v0) :=
     ⟨((db N j)[j].toNat:Int),by rw [hownr.cellAt j (by omega),ER,Di hjl];rfl⟩
    have hf:=hownr.frozenAt j;have hp:=yI j;obtain ⟨q,hq⟩:∃ q:Nat,N / p128 j=q:=⟨_,rfl⟩;have hqi:(N:Int) / ((p128 j:Nat):Int)=(q:Int):=by rw [←hq];rfl
    have hqb:q≤18446744073709551615:=by rw [←hq];exact Dl (Nat.div_le_self _ _) h1
    have HQ:Hid (loB N j=q % 128):=by show loB N j=_;unfold loB;rw [hq]
    clear hownr hq hjl;go_wp2_with (go_at_call 54;refine (zc j _ (by omega)).mono ?_;rintro r w' ⟨rfl,rfl⟩)
    all_goals first
     | (have hlt2 : (j : Int) + 1 < (k : Int) := by first | assumption | omega
        have hst:=((HO.out.stored j (.int .u8 ((q:Int) % 128))).1.stored j (.int .u8 ((q:Int) % 128+128))).1;rw [List.set_set,qH N j (by rw [HK.out];omega) _ (by rw [HK.out,HQ.out,if_pos (by omega)];omega)] at hst;go_roundw
        case rel=>exact ⟨j+1,by omega,by go_num,hst,(hbr.setCell (Db _) _).setCell (Db _) _⟩
        case measure=>simp [intOf];omega)
     | (have hlt2 : (k : Int) ≤ (j : Int) + 1 := by omega
        have hst:=(HO.out.stored j (.int .u8 ((q:Int) % 128))).1;rw [qH N j (by rw [HK.out];omega) _ (by rw [HK.out,HQ.out,if_neg (by omega)];omega)] at hst;go_roundw
        case rel=>exact ⟨j+1,by omega,by go_num,hst,hbr.setCell (Db _) _⟩
        case measure=>simp [intOf];omega)
   ·have hjk:j=k:=by omega
    have hfin:aY wr w.heap.size (.slice (some ⟨w.heap.size,0,none⟩) k k) (putL N):=by
     unfold aY;rw [HK.out];have:=yM N;rw [HK.out] at this;rw [hjk,this] at hownr;exact hownr
    have hcv:=mX hfin;have hjk':=hid hjk;clear hfin hownr hjk;go_wp2;go_ret;exact ⟨rfl,hbr⟩
end
section
open Go.ChangeShapes Go.WideShapes Go.ChangeAt Go.RowKit
instance : Inhabited Ent := ⟨⟨0, 0⟩⟩
end
section
open Go.RowKit
theorem vF {l m:List Ent} {k:Nat} (h:l.take k=m.take k) {t u:Ent} (hl:l[k]? = some t) (hm:m[k]? = some u) (e:t=u):l.take (k+1)=m.take (k+1):=by
 obtain ⟨h1,h2⟩:=Do.1 hl;obtain ⟨h3,h4⟩:=Do.1 hm;rw [E8 h1,E8 h3,h,h2,h4,e]
end
section
open Go.RowKit
theorem pL:(Tryz.prog.info? 78).map (fun i=>(i.zero,i.size,i.bytes))=some (some (.agg #[.int .i64 0,.int .i64 0,.int .i64 0,.string ⟨#[]⟩,.string ⟨#[]⟩,.int .i64 0]),6,64):=by kernel_rfl
instance : Inhabited Wr := ⟨⟨0, 0, 0, ⟨#[]⟩, ⟨#[]⟩, 0⟩⟩
def wrsC (l:List Wr):List Value:=l.flatMap wrC
theorem CV (l:List Wr):(wrsC l).length=l.length * 6:=by
 induction l with
 | nil=>rfl
 | cons t r ih=>simp only [wrsC,List.flatMap_cons,Df,DM] at ih ⊢;rw [ih];simp [wrC];omega
theorem sX (a b:List Wr):wrsC (a++b)=wrsC a++wrsC b:=by simp [wrsC]
theorem sY (a:Wr):wrsC [a]=wrC a:=by simp [wrsC]
theorem gG (l:List Wr) (i j:Nat) (t:Wr) (h:l[i]? = some t) (hj:j<6):(wrsC l)[i * 6+j]? = (wrC t)[j]? := by
 induction l generalizing i with
 | nil=>simp at h
 | cons u r ih =>
  have hc:wrsC (u::r)=wrC u++wrsC r:=by simp [wrsC]
  have h3:(wrC u).length=6:=rfl;rw [hc];cases i with
  | zero =>
   obtain rfl:u=t:=by simpa using h
   rw [EQ (by omega)]
   congr 1;omega
  | succ i =>
   rw [EY (by omega),h3,show (i+1) * 6+j-6=i * 6+j by omega];exact ih i (by simpa using h)
theorem sM (t:Wr):∀ u∈wrC t,u.oneCell'=true:=by
 intro u hu;simp [wrC] at hu
 rcases hu with rfl | rfl | rfl | rfl | rfl | rfl <;> rfl
def aU (w:World) (base:Nat) (v:Value) (l:List Wr):Prop:=w.ownsRow base 78 6 v l.length (wrsC l)
theorem dU (w:World) (base:Nat):aU w base (.slice none 0 0) []:=Ev _ _ _ _
theorem aU.alloc {w:World} {base:Nat} {v:Value} {l:List Wr} (h:aU w base v l) (o:Obj):aU (w.alloc o) base v l:=EI h o
theorem aU.drew {w:World} {base:Nat} {v:Value} {l:List Wr} (h:aU w base v l):aU w.drew base v l:=World.ownsRow.drew h
theorem aU.drewN {w:World} {base:Nat} {v:Value} {l:List Wr} (h:aU w base v l) (n:Nat):aU (w.drewN n) base v l:=h
theorem aU.lt {w:World} {base:Nat} {v:Value} {l:List Wr} (h:aU w base v l):∀ k,v.ownBlock=some k→base≤k∧k<w.heap.size:=DQ h
theorem aU.mono {w:World} {base base':Nat} {v:Value} {l:List Wr} (h:aU w base v l) (hb:base'≤base):aU w base' v l:=by
 obtain ⟨h0,h1⟩:=h;refine ⟨h0,?_⟩;rcases h1 with h1 | ⟨g,cap,cur,hv,hg,r⟩
 ·exact .inl h1
 ·exact .inr ⟨g,cap,cur,hv,Dl hb hg,r⟩
theorem aU.below {w w':World} {base:Nat} {v:Value} {l:List Wr} (h:aU w base v l) (hb:Below w.heap.size w w'):aU w' base v l:=by
 refine Dt h (row:=none) ⟨hb.os,hb.tape,hb.output,hb.size,fun k hk _=>hb.block k hk⟩ ?_;cases hv:v.ownBlock with
 | none=>exact .inl rfl
 | some g=>exact .inr (by simp)
def bj (w:World) (v:Value) (l:List Wr):Prop :=
 (∃ a c,v=.slice a 0 c∧l=[])∨∃ b off c,v=.slice (some ⟨b,off,none⟩) l.length c∧(0<l.length∧l.length≤c)∧b<w.heap.size∧∀ j u,(wrsC l)[j]? = some u→w.cell? ⟨b,off+j,none⟩=some u
theorem aU.is {w:World} {base:Nat} {v:Value} {l:List Wr} (h:aU w base v l):bj w v l:=by
 have hall:=h;have hlt:=h.lt;obtain ⟨h0,h1⟩:=h;rcases h1 with ⟨rfl,hn⟩ | ⟨g,cap,cur,rfl,hb,hh,hc,hm,hs,ht⟩
 ·exact .inl ⟨_,_,rfl,E0.1 hn⟩
 ·by_cases hz:l.length=0
  ·exact .inl ⟨_,_,by rw [hz],E0.1 hz⟩
  ·refine .inr ⟨g,0,cap,rfl,⟨by omega,hc⟩,(hlt g rfl).2,fun j u hj=>?_⟩;have hjl:j<l.length * 6:=by rw [←CV];exact (Do.1 hj).1
   rw [DY,Ej hall j hjl];exact hj
theorem bj.nil (w:World):bj w (.slice none 0 0) []:=.inl ⟨_,_,rfl,rfl⟩
theorem bj.below {w w':World} {v:Value} {l:List Wr} (h:bj w v l) (hb:Below w.heap.size w w'):bj w' v l:=by
 rcases h with ⟨a,c,h1,h2⟩ | ⟨b,off,c,h1,h0,h2,h3⟩
 ·exact .inl ⟨a,c,h1,h2⟩
 ·exact .inr ⟨b,off,c,h1,h0,Dv h2 hb.size,fun j u hj=>(hb.cell (p:=⟨b,off+j,none⟩) h2).trans (h3 j u hj)⟩
theorem bj.alloc {w:World} {v:Value} {l:List Wr} (h:bj w v l) (o:Obj):bj (w.alloc o) v l:=h.below ((Below.refl _ _).alloc (Db _) o)
theorem bj.drewN {w:World} {v:Value} {l:List Wr} (h:bj w v l) (n:Nat):bj (w.drewN n) v l:=h
theorem bj.form {w:World} {v:Value} {l:List Wr} (h:bj w v l):∃ a c,v=.slice a l.length c∧∀ i t,l[i]? = some t→∃ b off,a=some ⟨b,off,none⟩∧b<w.heap.size ∧
 w.cell? ⟨b,off+i * 6,none⟩=some (.int .i64 t.time)∧w.cell? ⟨b,off+i * 6+1,none⟩=some (.int .i64 t.rep)∧w.cell? ⟨b,off+i * 6+2,none⟩=some (.int .i64 t.kind) ∧
 w.cell? ⟨b,off+i * 6+3,none⟩=some (.string t.key)∧w.cell? ⟨b,off+i * 6+4,none⟩=some (.string t.value)∧w.cell? ⟨b,off+i * 6+5,none⟩=some (.int .i64 t.n):=by
 rcases h with ⟨a,c,rfl,rfl⟩ | ⟨b,off,c,rfl,h0,h2,h3⟩
 ·exact ⟨a,c,rfl,fun i t h=>by simp at h⟩
 ·refine ⟨_,_,rfl,fun i t h=>⟨b,off,rfl,h2,?_,?_,?_,?_,?_,?_⟩⟩
  ·exact h3 _ _ ((gG l i 0 t h (by omega)).trans rfl)
  ·exact h3 _ _ ((gG l i 1 t h (by omega)).trans rfl)
  ·exact h3 _ _ ((gG l i 2 t h (by omega)).trans rfl)
  ·exact h3 _ _ ((gG l i 3 t h (by omega)).trans rfl)
  ·exact h3 _ _ ((gG l i 4 t h (by omega)).trans rfl)
  ·exact h3 _ _ ((gG l i 5 t h (by omega)).trans rfl)
def dx (w:World) (B:Nat) (t:Wr):Prop:=w.heap[B]? = some (.cells (wrC t).toArray 78 (0,0))
theorem od {w:World} {ops:Array Oper} {rest:List Oper} {o:Oper} {a:Act} {Q:Exit→Act→World→Prop} (hgd:o.guard=none) (s x:Operand)
 (ho:o.op=.call { callee:=.builtin .append,args:=#[s,x],argTypes:=#[23,23] })
 (base:Nat) (v:Value) (l:List Wr) (hs:a.eval s=v) (hown:aU w base v l)
 (B c:Nat) (hx:a.eval x=.slice (some ⟨B,0,none⟩) 1 c) (t:Wr) (hcell:dx w B t)
 (hlen:l.length+1≤1000000) (hbase:base≤w.heap.size)
 (h:∀ g cap w',aU w' base (.slice (some ⟨g,0,none⟩) (l.length+1) cap) (l++[t])→w.grownBy w' v.ownBlock→wpList Tryz.prog ops Q rest (a.put o.dst (.slice (some ⟨g,0,none⟩) (l.length+1) cap)) w'):wpList Tryz.prog ops Q (o::rest) a w:=by
 obtain ⟨i0,hi,hz0,hz1,hz2⟩:=DU pL;refine wpList_append_lies w hgd s x 23 ho base 78 i0 (.agg #[.int .i64 0,.int .i64 0,.int .i64 0,.string ⟨#[]⟩,.string ⟨#[]⟩,.int .i64 0]) 6 64 Tryz.underlying23 hi hz0 hz1 hz2 rfl (by decide) v l.length (wrsC l) hs hown ⟨B,0,none⟩ 1 c (wrC t) hx rfl ?_ (sM t) (by decide) (by unfold maxLen;omega) (by omega) hbase _ rfl ?_
 ·intro j u hj;have hadd:(⟨B,0,none⟩:Addr).add j=⟨B,j,none⟩:=by unfold Addr.add;split <;> simp_all
  rw [hadd,Dd _ _ _ _ _ _ hcell,←hj];simp
 ·intro g cap w' h1 h2 _ _;refine h g cap w' ?_ h2;unfold aU;rw [Df,sX,sY];exact h1
end
section
open Go.RowKit
def cP (T:List ByteArray) (s:ByteArray) (i:Nat):Int:=if idxB T s<i then (idxB T s:Int) else -1
theorem xh {T:List ByteArray} (hn:T.Nodup) {s:ByteArray} {i:Nat} (h:T[i]? = some s):cP T s (i+1)=i:=by
 unfold cP;rw [jI hn h,if_pos (by omega)]
theorem xj {T:List ByteArray} {s x:ByteArray} {i:Nat} (h:T[i]? = some x) (hx:x≠s):cP T s (i+1)=cP T s i:=by
 unfold cP;by_cases hi:idxB T s<i
 ·rw [if_pos hi,if_pos (by omega)]
 ·rw [if_neg hi];by_cases hs:s∈T
  ·have : idxB T s ≠ i := by
    intro e;have:=jJ hs;rw [e,h] at this;exact hx (Dr this)
   rw [if_neg (by omega)]
  ·have h1:=ia hs;have h2:=(Do.1 h).1;rw [if_neg (by omega)]
theorem xl (T:List ByteArray) (s:ByteArray):cP T s 0=-1:=by unfold cP;rw [if_neg (by omega)]
theorem xi {T:List ByteArray} {s:ByteArray} (h:s∈T):cP T s T.length=idxB T s:=by unfold cP;rw [if_pos (mp h)]
theorem xk {T:List ByteArray} {s:ByteArray} (h:s ∉ T):cP T s T.length=-1:=by unfold cP;rw [ia h,if_neg (by omega)]
theorem Ae (v:Value) (l:List ByteArray) (w:World) (hv:ba w v l) (hl:l.length≤1000000) :
 Calls Tryz.prog 45 #[v] w (oq w l):=by
 obtain ⟨a1,c1,rfl,_,f1⟩:=hv;have F1:=hid f1;obtain ⟨n,hn⟩:∃ n,n=l.length:=⟨_,rfl⟩;rw [←hn] at hl ⊢;have HN:=hid hn;clear f1 hn;go_enter Tryz.func45,Tryz.ntmps45
 go_wp2
 go_loopw [4, 5, 12] (fun t a i wr => ∃ (k : Nat) (T : List ByteArray) (N : List Nat), k ≤ n ∧ i = .int .i64 k ∧ T.length ≤ k ∧ N.length = k ∧ T.Nodup ∧ tabK [] l = tabK T (l.drop k) ∧ atK [] l = N ++ atK T (l.drop k) ∧
     ak wr w.heap.size t T∧aG wr w.heap.size a N∧Below w.heap.size w wr) (fun _ _ i _=>n-(intOf i).toNat)
 case atStart=>exact ⟨0,[],[],Ds _,rfl,Db _,rfl,List.nodup_nil,rfl,rfl,bK _ _,dr _ _,Below.refl _ _⟩
 case round =>
  obtain ⟨k,T,N,hk,rfl,hT,hN,hnd,ht,ha,hos,hon,hbel⟩:=hrel;have HT:=hid ht;have HA:=hid ha;have HO:=hid hos;have HQ:=hid hon;have HB:=hid hbel;have HNL:=hid hN;have HTL:=hid hT;have HND:=hid hnd;obtain ⟨ad,cp,rfl,_,g1⟩:=hos.isTexts;have G1:=hid g1;clear ht ha hos hon hbel hN hT hnd g1;by_cases hlt:k<n
  ·obtain ⟨s, hs⟩ : ∃ s, l[k]? = some s := ⟨l[k]'(by have := HN.out; omega), Di _⟩;obtain ⟨b1,o1,rfl,hb1,p0⟩:=F1.out k s hs;have q0:=(HB.out.cell (p:=⟨b1,o1+k,none⟩) hb1).trans p0;obtain ⟨m,hm⟩:∃ m,m=T.length:=⟨_,rfl⟩;have HM:=hid hm;have hml:m≤1000000:=by have:=HTL.out;omega
   rw [←hm];clear p0 hm;go_wp2
   go_loop [8,18] (fun x i=>∃ q:Nat,q≤m∧i=.int .i64 q∧x=.int .i64 (cP T s q)) (fun _ i=>m-(intOf i).toNat)
   case atStart=>exact ⟨0,Ds _,rfl,by rw [xl]⟩
   case round =>
    obtain ⟨q,hq,rfl,rfl⟩:=hrel;by_cases hlt2:q<m
    ·obtain ⟨x, hx⟩ : ∃ x, T[q]? = some x := ⟨T[q]'(by have := HM.out; omega), Di _⟩;obtain ⟨b2,o2,rfl,hb2,p2⟩:=G1.out q x hx;by_cases he:x=s
     ·subst he;have HH:=hid (xh HND.out hx);have hb:=oF x;clear hx;go_wp2
      go_round
      case rel=>exact ⟨q+1,by omega,by go_num,by rw [HH.out]⟩
      case measure=>simp [intOf];omega
     ·have HH:=hid (xj hx he);have hb:=oE he;clear hx;go_wp2
      go_round
      case rel=>exact ⟨q+1,by omega,by go_num,by rw [HH.out]⟩
      case measure=>simp [intOf];omega
    ·obtain rfl:q=m:=by omega
     by_cases hin:s∈T
     ·have HJ:=hid (show cP T s q=idxB T s by rw [HM.out];exact xi hin);have HT2:=hid (HT.out.trans (rS hs hin));have HA2:=hid (HA.out.trans (congrArg (N ++ ·) (oz hs hin)));obtain ⟨j,hj⟩:∃ j,idxB T s=j:=⟨_,rfl⟩;have hjm:j≤1000000:=by have:=mp hin;have:=HM.out;omega
      rw [hj] at HJ HA2;rw [HJ.out];clear hs hj;go_wp2_with (at_builtin;refine cU rfl _ _ rfl w.heap.size _ N rfl (HQ.out.alloc _) ⟨wr.heap.size,0,none⟩ 1 rfl j ?c1 ?c2 ?c3 ?_)
      case c2=>have:=HNL.out;omega
      case c3=>have:=HB.out.size;simp;omega
      intro g cap w1 ho1 hg1;have hbel1:Below w.heap.size w w1:=(HB.out.alloc HB.out.size _).grown hg1 (by have:=HB.out.size;simp;omega) (fun g hg=>(HQ.out.lt g hg).1);have hs1:ak w1 w.heap.size _ T:=Dt (HO.out.alloc _) hg1 (gu HO.out HQ.out (show 9≠3 by decide));have ha1:atK [] l=(N++[j])++atK T (l.drop (k+1)):=by rw [HA2.out];simp
      have hn1:(N++[j]).length=k+1:=by have:=HNL.out;simp;omega
      have hTn:T.length=q:=HM.out.symm;rw [←hTn];have HX:=hid (Dp hbel1 (Dp hs1 (Dp ha1 (Dp hn1 ho1))));clear hbel1 hs1 ha1 hn1 ho1 hg1;go_wp2;go_roundw
      case rel=>exact ⟨k+1,T,N++[j],by omega,by go_num,by have:=HTL.out;omega,HX.out.2.2.2.1,HND.out,HT2.out,HX.out.2.2.1,HX.out.2.1,by simpa using HX.out.2.2.2.2,HX.out.1⟩
      case measure=>simp [intOf];omega
     ·have HJ:=hid (show cP T s q=-1 by rw [HM.out];exact xk hin);have HT2:=hid (HT.out.trans (rT hs hin));have HA2:=hid (HA.out.trans (congrArg (N ++ ·) (oA hs hin)));rw [HJ.out];clear hs;have hTn:T.length=q:=HM.out.symm;rw [←hTn];have hTm:T.length≤1000000:=by omega
      have HTE:=hid hTn;clear hTn;go_wp2_with (at_builtin;refine fi rfl _ _ rfl w.heap.size _ T rfl (HO.out.alloc _) ⟨wr.heap.size,0,none⟩ 1 rfl s (by simp [Addr.add]) (by have:=HTL.out;omega) (by have:=HB.out.size;simp;omega) ?_)
      intro g cap w3 ho3 hg3;have HB3:Hid (Below w.heap.size w w3):=(HB.out.alloc HB.out.size _).grown hg3 (by have:=HB.out.size;simp;omega) (fun g hg=>(HO.out.lt g hg).1);have HN3:=hid (show aG w3 w.heap.size _ N from Dt (HQ.out.alloc _) hg3 (gu HQ.out HO.out (show 3≠9 by decide)));have HS3:=hid ho3;clear ho3 hg3 HB HO HQ;go_wp2_with (at_builtin;refine cU rfl _ _ rfl w.heap.size _ N rfl (HN3.out.alloc _) ⟨w3.heap.size,0,none⟩ 1 rfl T.length (by simp [Addr.add]) (by have:=HNL.out;omega) (by have:=HB3.out.size;simp;omega) ?_)
      intro g' cap' w4 ho4 hg4;have HB4:Hid (Below w.heap.size w w4):=(HB3.out.alloc HB3.out.size _).grown hg4 (by have:=HB3.out.size;simp;omega) (fun g hg=>(HN3.out.lt g hg).1);have HS4:=hid (show ak w4 w.heap.size _ (T++[s]) from Dt (HS3.out.alloc _) hg4 (gu HS3.out HN3.out (show 9≠3 by decide)));have HN4:=hid ho4;have HA4:Hid (atK [] l=(N++[T.length])++atK (T++[s]) (l.drop (k+1))):=hid (show _=_ by rw [HA2.out];simp);have HL4:Hid ((N++[T.length]).length=k+1∧(T++[s]).length≤k+1):=hid (show _∧_ by have:=HNL.out;have:=HTL.out;simp;omega);have HD4:Hid ((T++[s]).Nodup):=hid (show _ by have:=ow (s:=s) HND.out;rwa [fW hin] at this);clear ho4 hg4 HB3 HS3 HN3 HA2;go_wp2;go_roundw
      case rel=>exact ⟨k+1,T++[s],N++[T.length],by omega,by go_num,HL4.out.2,HL4.out.1,HD4.out,HT2.out,HA4.out,HS4.out,HN4.out,HB4.out⟩
      case measure=>simp [intOf];omega
  ·have HT2:Hid (tabK [] l=T):=hid (show _=_ by rw [HT.out,DD (by have:=HN.out;omega)];rfl);have HA2:Hid (atK [] l=N):=hid (show _=_ by rw [HA.out,DD (by have:=HN.out;omega)];simp [atK]);go_wp2;go_ret2;refine ⟨_,_,rfl,?_,?_,HB.out⟩
   ·rw [HT2.out];exact HO.out
   ·rw [HA2.out];exact HQ.out
end
section
open Go.RowKit
def ou (w:World) (l:List Tok) (e:Ending) (w':World):Prop :=
 ∃ v,e=.returned v∧ax w' w.heap.size v l∧Below w.heap.size w w'
theorem BF (s:ByteArray) (w:World) (hs:s.size≤400000) :
 Calls Tryz.prog 141 #[.string s] w (ou w (toks s.data.toList)):=by
 have HS : Hid (s.size ≤ maxLen) := by have h : s.size ≤ maxLen := by unfold maxLen; omega
                                       exact h
 have hlen:s.data.toList.length=s.size:=(ac s).symm;have HL:=hid hlen;clear hlen;go_enter Tryz.func141,Tryz.ntmps141
 go_wp2
 go_loopw [3,4,5] (fun v fr a wr=>∃ (f fr' a':Nat) (acc:List Tok),fr=.int .i64 fr'∧a=.int .i64 a'∧fr'≤a'∧a'≤s.size∧s.size≤a'+f∧acc.length≤2 * a'∧toks s.data.toList=acc++tks s.data.toList f fr' a'∧ax wr w.heap.size v acc∧Below w.heap.size w wr) (fun _ _ a _=>s.size-(intOf a).toNat)
 case atStart=>exact ⟨s.size,0,0,[],rfl,rfl,Db _,Ds _,by omega,by simp,by unfold toks;rw [HL.out];rfl,fK _ _,Below.refl _ _⟩
 case round =>
  obtain ⟨f,fr,a,acc,rfl,rfl,hfa,ha,hf,hac,heq,hown,hbel⟩:=hrel;have HEQ:=hid heq;have HOWN:=hid hown;have HBEL:=hid hbel;clear heq hown hbel;by_cases hlt:a<s.size
  ·obtain ⟨f,rfl⟩:∃ f',f=f'+1:=⟨f-1,by omega⟩;have hl:a<s.data.toList.length:=by rw [HL.out];exact hlt
   rcases lX s.data.toList a with ⟨hz,_⟩ | ⟨b,n,hfn,_,hb1,hb2,hb3,hn1,hn2,hn3,_⟩
   ·have HR : Hid (dR (find s.data.toList a) = .tuple #[.int .i64 0, .int .i64 0]) := by
     have h:dR (find s.data.toList a)=.tuple #[.int .i64 0,.int .i64 0]:=by rw [hz];rfl
     exact h
    have HN:Hid (toks s.data.toList=acc++tks s.data.toList f fr (a+1)):=by
     have h:toks s.data.toList=acc++tks s.data.toList f fr (a+1):=by rw [HEQ.out,nk hl (by rw [hz])]
     exact h
    clear hz hl HEQ;go_wp2_with fail
    refine (pr s a _ HS.out hlt).mono ?_;rintro e w1 ⟨rfl,q1,rfl⟩;rw [HR.out];go_wp2;go_roundw
    case rel=>exact ⟨f,fr,a+1,acc,rfl,by go_num,by omega,by omega,by omega,by omega,HN.out,HOWN.out.drewN _,below_drewN HBEL.out _⟩
    case measure=>simp [intOf];omega
   ·rw [HL.out] at hn3;have HR:Hid (dR (find s.data.toList a)=.tuple #[.int .i64 b,.int .i64 n]):=by
     have h:dR (find s.data.toList a)=.tuple #[.int .i64 b,.int .i64 n]:=by rw [hfn];rfl
     exact h
    have hn0:((n:Int) == 0)=false:=by simp;omega
    have hxs:(s.extract fr a).size≤140737488351232:=by rw [DJ];omega
    have HXS:=hid hxs;obtain ⟨L1,hL1⟩:∃ L1,acc++ownT (s.extract fr a).data.toList=L1:=⟨_,rfl⟩;have hol:(acc++ownT (s.extract fr a).data.toList).length≤2 * a+1:=by
     rw [Df];have:(ownT (s.extract fr a).data.toList).length≤1:=by unfold ownT;split <;> simp
     omega
    rw [hL1] at hol;have HOL:=hid hol;have HN:Hid (toks s.data.toList=(L1++[repT b n])++tks s.data.toList f (a+n) (a+n)):=by
     have h:toks s.data.toList=(L1++[repT b n])++tks s.data.toList f (a+n) (a+n):=by
      rw [HEQ.out,nj hl hfn (by omega),←hL1,cE];simp
     exact h
    have HL1:=hid hL1;clear hL1
    have HAC : Hid (acc.length ≤ 999999) := by have h : acc.length ≤ 999999 := by omega
                                               exact h
    clear hfn hl HEQ hxs hol;have e1:(fr:Int)≤(a:Int):=by omega
    have e2:(a:Int)≤(s.size:Int):=by omega
    go_wp2_with fail
    refine (pr s a _ HS.out hlt).mono ?_;rintro e w1 ⟨rfl,q1,rfl⟩;rw [HR.out];go_wp2_with fail
    refine (qF _ acc _ w.heap.size (wr.drewN q1) HXS.out HBEL.out.size (HOWN.out.drewN _) HAC.out).mono ?_;rintro r w1 ⟨v1,rfl,ho1,hb1⟩;rw [HL1.out] at ho1;have hb2:Below w.heap.size w w1:=(below_drewN HBEL.out q1).trans hb1;have HB2:=hid hb2;have HO1:=hid ho1;have hz1:=hb2.size;have HOL1:Hid (L1.length+1≤1000000):=by
     have h:L1.length+1≤1000000:=by have:=HOL.out;omega
     exact h
    clear hb1 hb2 ho1 HOWN HBEL;go_wp2_with (at_builtin;refine fU rfl _ _ rfl w.heap.size _ L1 rfl (HO1.out.alloc _) w1.heap.size 1 rfl (repT b n) ?c1 ?c2 ?c3 ?_)
    case c1=>exact e8 _ _ _ _
    case c2=>exact HOL1.out
    case c3=>simp;omega
    ·intro g cap w2 ho2 hg2;have HB3:Hid (Below w.heap.size w w2):=(HB2.out.alloc hz1 _).grown hg2 (by simp;omega) (fun g hg=>(HO1.out.lt g hg).1);have HO2:=hid ho2;clear ho2 hg2;go_wp2;go_roundw
     case rel=>exact ⟨f,a+n,a+n,_,by go_num,by go_num,Db _,by omega,by omega,by rw [Df];simp only [List.length_singleton];have:=HOL.out;omega,HN.out,HO2.out,HB3.out⟩
     case measure=>simp [intOf];omega
  ·obtain rfl:a=s.size:=by omega
   have hxs:(s.extract fr s.size).size≤140737488351232:=by rw [DJ];omega
   have HXS:=hid hxs;have HN:Hid (toks s.data.toList=acc++ownT (s.extract fr s.size).data.toList):=by
    have h:toks s.data.toList=acc++ownT (s.extract fr s.size).data.toList:=by
     rw [HEQ.out,ni (by rw [HL.out];omega),cE]
    exact h
   have HAC : Hid (acc.length ≤ 999999) := by have h : acc.length ≤ 999999 := by omega
                                              exact h
   clear hxs HEQ;go_wp2_with fail
   refine (qF _ acc _ w.heap.size wr HXS.out HBEL.out.size HOWN.out HAC.out).mono ?_;rintro r w1 ⟨v1,rfl,ho1,hb1⟩;have HO1:=hid ho1;have HB1:Hid (Below w.heap.size w w1):=HBEL.out.trans hb1;clear ho1 hb1;go_wp2;go_ret;exact ⟨_,rfl,by rw [HN.out];exact HO1.out,HB1.out⟩
end
