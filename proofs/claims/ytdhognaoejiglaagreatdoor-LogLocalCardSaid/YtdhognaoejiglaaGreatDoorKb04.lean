import Derived.Test.YtdhognaoejiglaaGreatDoorKb00
import Derived.Test.YtdhognaoejiglaaGreatDoorKb03
import Derived.Deep.Draws
import Derived.Deep.QuietTactic
import Derived.IntWalk
import Derived.Outline
import Derived.Test.YtdhognaoejiglaaGreatDoorRows
import Derived.Lib.Strings
import Derived.Laws.BitsAllLaws
namespace Go.Proofs.YtdhognaoejiglaaGreatDoor
open Lib (hid)
set_option maxRecDepth 100000
set_option maxHeartbeats 8000000
section
open Go.RowKit
theorem A5:(Tryz.prog.info? 237).map (fun i=>(i.zero,i.size,i.bytes))=some (some (.agg #[.string ⟨#[]⟩,.int .i64 0,.int .i64 0]),3,32):=by kernel_rfl
def tokC (t:Tok):List Value:=[.string t.own,.int .i64 t.back,.int .i64 t.size]
def dl (l:List Tok):List Value:=l.flatMap tokC
theorem EX (l:List Tok):(dl l).length=l.length * 3:=by
 induction l with
 | nil=>rfl
 | cons t r ih=>simp only [dl,List.flatMap_cons,List.length_append,List.length_cons] at ih ⊢;rw [ih];simp [tokC];omega
theorem EW (a b:List Tok):dl (a++b)=dl a++dl b:=by simp [dl]
theorem oQ (l:List Tok) (i j:Nat) (t:Tok) (h:l[i]? = some t) (hj:j<3):(dl l)[i * 3+j]? = (tokC t)[j]? := by
 induction l generalizing i with
 | nil=>simp at h
 | cons u r ih =>
  have hc:dl (u::r)=tokC u++dl r:=by simp [dl]
  have h3:(tokC u).length=3:=rfl;rw [hc];cases i with
  | zero =>
   obtain rfl:u=t:=by simpa using h
   rw [List.getElem?_append_left (by omega)]
   congr 1;omega
  | succ i =>
   rw [List.getElem?_append_right (by omega),h3,show (i+1) * 3+j-3=i * 3+j by omega];exact ih i (by simpa using h)
def bm (w:World) (base:Nat) (v:Value) (l:List Tok):Prop:=w.ownsRow base 237 3 v l.length (dl l)
theorem lh (w:World) (base:Nat):bm w base (.slice none 0 0) []:=World.ownsRow_nil _ _ _ _
theorem bm.alloc {w:World} {base:Nat} {v:Value} {l:List Tok} (h:bm w base v l) (o:Obj):bm (w.alloc o) base v l:=World.ownsRow.alloc h o
theorem bm.drewN {w:World} {base:Nat} {v:Value} {l:List Tok} (h:bm w base v l) (n:Nat):bm (w.drewN n) base v l:=h
theorem bm.lt {w:World} {base:Nat} {v:Value} {l:List Tok} (h:bm w base v l):∀ k,v.ownBlock=some k→base≤k∧k<w.heap.size:=World.ownsRow.lt h
theorem bm.below {w w':World} {base:Nat} {v:Value} {l:List Tok} (h:bm w base v l) (hb:Below w.heap.size w w'):bm w' base v l:=by
 refine World.ownsRow.kept h (row:=none) ⟨hb.os,hb.tape,hb.output,hb.size,fun k hk _=>hb.block k hk⟩ ?_;cases hv:v.ownBlock with
 | none=>exact .inl rfl
 | some g=>exact .inr (by simp)
def fP (w:World) (v:Value) (l:List Tok):Prop :=
 (∃ a c,v=.slice a 0 c∧l=[])∨∃ b off c,v=.slice (some ⟨b,off,none⟩) l.length c∧0<l.length∧b<w.heap.size∧∀ j u,(dl l)[j]? = some u→w.cell? ⟨b,off+j,none⟩=some u
theorem bm.is {w:World} {base:Nat} {v:Value} {l:List Tok} (h:bm w base v l):fP w v l:=by
 have hall:=h;have hlt:=h.lt;obtain ⟨h0,h1⟩:=h;rcases h1 with ⟨rfl,hn⟩ | ⟨g,cap,cur,rfl,hb,hh,hc,hm,hs,ht⟩
 ·exact .inl ⟨_,_,rfl,List.length_eq_zero_iff.1 hn⟩
 ·by_cases hz:l.length=0
  ·exact .inl ⟨_,_,by rw [hz],List.length_eq_zero_iff.1 hz⟩
  ·refine .inr ⟨g,0,cap,rfl,by omega,(hlt g rfl).2,fun j u hj=>?_⟩;have hjl:j<l.length * 3:=by rw [←EX];exact (List.getElem?_eq_some_iff.1 hj).1
   rw [Nat.zero_add,World.ownsRow.cellAt hall j hjl];exact hj
theorem fP.form {w:World} {v:Value} {l:List Tok} (h:fP w v l):∃ a c,v=.slice a l.length c∧∀ i t,l[i]? = some t→∃ b off,a=some ⟨b,off,none⟩∧b<w.heap.size ∧
 w.cell? ⟨b,off+i * 3,none⟩=some (.string t.own)∧w.cell? ⟨b,off+i * 3+1,none⟩=some (.int .i64 t.back)∧w.cell? ⟨b,off+i * 3+2,none⟩=some (.int .i64 t.size):=by
 rcases h with ⟨a,c,rfl,rfl⟩ | ⟨b,off,c,rfl,h0,h2,h3⟩
 ·exact ⟨a,c,rfl,fun i t h=>by simp at h⟩
 ·refine ⟨_,_,rfl,fun i t h=>⟨b,off,rfl,h2,?_,?_,?_⟩⟩
  ·exact h3 _ _ ((oQ l i 0 t h (by omega)).trans rfl)
  ·exact h3 _ _ ((oQ l i 1 t h (by omega)).trans rfl)
  ·exact h3 _ _ ((oQ l i 2 t h (by omega)).trans rfl)
def co (w:World) (B:Nat) (t:Tok):Prop:=w.heap[B]? = some (.cells #[.string t.own,.int .i64 t.back,.int .i64 t.size] 237 (0,0))
theorem jw (w:World) (s:ByteArray) (b n:Int):co (w.alloc (.cells #[.string s,.int .i64 b,.int .i64 n] 237)) w.heap.size ⟨s,b,n⟩:=heap_alloc_new _ _
theorem px {w:World} {ops:Array Oper} {rest:List Oper} {o:Oper} {a:Act} {Q:Exit→Act→World→Prop} (hgd:o.guard=none) (s x:Operand)
 (ho:o.op=.call { callee:=.builtin .append,args:=#[s,x],argTypes:=#[206,206] })
 (base:Nat) (v:Value) (l:List Tok) (hs:a.eval s=v) (hown:bm w base v l)
 (B c:Nat) (hx:a.eval x=.slice (some ⟨B,0,none⟩) 1 c) (t:Tok) (hcell:co w B t)
 (hlen:l.length+1≤1000000) (hbase:base≤w.heap.size)
 (h:∀ g cap w',bm w' base (.slice (some ⟨g,0,none⟩) (l.length+1) cap) (l++[t])→w.grownBy w' v.ownBlock→wpList Tryz.prog ops Q rest (a.put o.dst (.slice (some ⟨g,0,none⟩) (l.length+1) cap)) w'):wpList Tryz.prog ops Q (o::rest) a w:=by
 obtain ⟨i0,hi,hz0,hz1,hz2⟩:=info_parts A5;refine wpList_append_lies w hgd s x 206 ho base 237 i0 (.agg #[.string ⟨#[]⟩,.int .i64 0,.int .i64 0]) 3 32 Tryz.underlying206 hi hz0 hz1 hz2 rfl (by decide) v l.length (dl l) hs hown ⟨B,0,none⟩ 1 c (tokC t) hx rfl ?_ ?_ (by decide) (by unfold maxLen;omega) (by omega) hbase _ rfl ?_
 ·intro j u hj;have hadd:(⟨B,0,none⟩:Addr).add j=⟨B,j,none⟩:=by unfold Addr.add;split <;> simp_all
  rw [hadd,cell_of_row _ _ _ _ _ _ hcell,←hj];unfold tokC;simp
 ·intro u hu;simp [tokC] at hu;rcases hu with rfl | rfl | rfl <;> rfl
 ·intro g cap w' h1 h2 _ _;refine h g cap w' ?_ h2;unfold bm;rw [List.length_append,EW]
  simpa [dl] using h1
end
section
open Go.RowKit
theorem getB (s:ByteArray) (j:Nat) (h:j<s.size):s.data.toList.getD j 0=s[j]:=by
 have hl:j<s.data.size:=h;rw [List.getD_eq_getElem?_getD,Array.getElem?_toList,Array.getElem?_eq_getElem hl];rfl
theorem qJ (w:World) (q n:Nat):∃ k,(w.drewN q).drewN n=w.drewN k:=⟨_,World.drewN_drewN _ _ _⟩
theorem uv (x y:UInt8):((x.toNat:Int) != (y.toNat:Int))=!decide (x=y):=by
 by_cases h:x=y
 ·subst h;simp
 ·have h2:x.toNat≠y.toNat:=fun e=>h (UInt8.toNat_inj.1 e)
  simp [h];omega
theorem Bx (s:ByteArray) (a b m:Nat) (w:World) (hs:s.size≤maxLen) (hb:b≤a) (hm:a+m≤s.size) :
 Calls Tryz.prog 206 #[.string s,.int .i64 a,.int .i64 b,.int .i64 m] w fun e w'=>e=.returned (.int .i64 (sm s.data.toList a b m:Nat))∧∃ q,w'=w.drewN q:=by
 unfold maxLen at hs;go_enter Tryz.func206,Tryz.ntmps206
 go_wp2
 go_loopw [11] (fun i wr=>∃ k q:Nat,k≤m∧i=.int .i64 k∧wr=w.drewN q∧∀ j,j<k→s.data.toList.getD (a+j) 0=s.data.toList.getD (a+j-b) 0) (fun i _=>m-(intOf i).toNat)
 case atStart=>exact ⟨0,0,by omega,rfl,rfl,fun j h=>by omega⟩
 case round =>
  obtain ⟨k,q,hk,rfl,rfl,hall⟩:=hrel;have HA:=hid hall;clear hall;by_cases hlt:k<m
  ·obtain ⟨p,hp⟩:∃ p,p=a+k:=⟨_,rfl⟩;obtain ⟨r,hr⟩:∃ r,r=a+k-b:=⟨_,rfl⟩;have hpl:p<s.size:=by omega
   have hrl:r<s.size:=by omega
   have h1:IntKind.i64.wrap ((a:Int)+(k:Int))=(p:Int):=by rw [IntWalk.i64_in _ (by omega)];omega
   have h2:IntKind.i64.wrap ((p:Int)-(b:Int))=(r:Int):=by rw [IntWalk.i64_in _ (by omega)];omega
   have HP:=hid hp;have HR:=hid hr;clear hp hr;by_cases heq:s[p]=s[r]
   ·have hq:((s[p].toNat:Int) != (s[r].toNat:Int))=false:=by rw [uv];simp [heq]
    have HN:Hid (∀ j,j<k+1→s.data.toList.getD (a+j) 0=s.data.toList.getD (a+j-b) 0):=by
     intro j hj;by_cases e:j=k
     ·rw [e,←HR.out,←HP.out,getB _ _ hpl,getB _ _ hrl];exact heq
     ·exact HA.out j (by omega)
    clear heq;go_wp2
    go_quiet (fail)
    clear h1 h2;go_wp2;go_roundw
    case rel=>exact ⟨k+1,_,by omega,by go_num,rfl,HN.out⟩
    case measure=>simp [intOf];omega
   ·have hq:((s[p].toNat:Int) != (s[r].toNat:Int))=true:=by rw [uv];simp [heq]
    have HN:Hid (sm s.data.toList a b m=k):=by
     refine tJ ⟨by omega,HA.out,fun _=>?_⟩;rw [←HR.out,←HP.out,getB _ _ hpl,getB _ _ hrl];exact heq
    clear heq;go_wp2
    go_quiet (fail)
    clear h1 h2;go_wp2;go_ret;exact ⟨by rw [HN.out];rfl,qJ _ _ _⟩
  ·have HN : Hid (sm s.data.toList a b m = m) := by
    refine tJ ⟨Nat.le_refl _,fun j hj=>HA.out j (by omega),fun h=>absurd h (Nat.lt_irrefl _)⟩
   go_wp2;go_ret;exact ⟨by rw [HN.out];rfl,_,rfl⟩
theorem lH (s:ByteArray) (a b m:Nat) (B:Int) (w:World) (hs:s.size≤maxLen) (hB:B=(b:Int)) (hb:b≤a) (hm:a+m≤s.size) :
 Calls Tryz.prog 206 #[.string s,.int .i64 a,.int .i64 B,.int .i64 m] w fun e w'=>e=.returned (.int .i64 (sm s.data.toList a b m:Nat))∧∃ q,w'=w.drewN q:=by
 subst hB;exact Bx s a b m w hs hb hm
end
section
open Go.RowKit
def errV (e:Nat):Value:=if e=0 then .nilIface else .iface 68 (.int .i64 e)
def numV (r:Nat×Nat×Nat):Value:=.tuple #[.int .u64 r.1,.int .i64 r.2.1,errV r.2.2]
theorem oe (k:Nat):(2:Nat) ^ (7 * k)=128 ^ k:=by rw [Nat.pow_mul]
theorem Cn (acc x k:Nat) (ha:acc<128 ^ k) (hx:x<128) (hk:k≤9) (h9:k=9→x≤1) :
 bits .or .u64 (acc:Int) (IntKind.u64.wrap ((x:Int) * 2 ^ (7 * k)))=((acc+x * 128 ^ k:Nat):Int)∧acc+x * 128 ^ k<18446744073709551616:=by
 have hb:acc+x * 128 ^ k<18446744073709551616:=by
  by_cases h:k=9
  ·subst h;have:=h9 rfl;rw [pow9] at ha ⊢;omega
  ·have hp:128 ^ k≤128 ^ 8:=Nat.pow_le_pow_right (by decide) (by omega);have h8:128 ^ 8=72057594037927936:=by decide
   have:=Nat.mul_le_mul (show x≤127 by omega) hp;omega
 refine ⟨?_,hb⟩;have e1:((x:Int) * 2 ^ (7 * k))=((x * 128 ^ k:Nat):Int):=by
  rw [←oe,Int.natCast_mul,Int.natCast_pow];rfl
 rw [e1,IntWalk.u64_in _ ⟨by omega,by omega⟩,u64_or_nat _ _ (by omega) (by omega),←oe]
 congr 1
 rw [Nat.add_comm,Nat.mul_comm x,Nat.two_pow_add_eq_or_of_lt (by rw [oe];exact ha),Nat.or_comm]
theorem gh {l:List UInt8} {n k e:Nat} {a b:Int} {v:Value} (h:getL l=(n,k,e)) (ha:a=n) (hb:b=k) (hv:v=errV e) :
 Ending.returned (.tuple #[.int .u64 a,.int .i64 b,v])=.returned (numV (getL l)):=by
 rw [h,ha,hb,hv];rfl
theorem kD {l:List UInt8} {e:Nat} (h:scan 0 l=.inl e):getL l=(0,0,e):=by unfold getL;rw [h]
theorem nk {l:List UInt8} {k:Nat} (h:scan 0 l=.inr k):getL l=(valL (l.take k),k,0):=by unfold getL;rw [h]
theorem fH (s:ByteArray) (k:Nat) (h:k<s.size):scan k (s.data.toList.drop k)=if k=9∧1<s[k].toNat then .inl 4 else if 0<k∧s[k].toNat=0 then .inl 3 else if s[k].toNat<128 then .inr (k+1) else scan (k+1) (s.data.toList.drop (k+1)) :=
 DE s.data.toList k (by simpa using h)
theorem jy (s:ByteArray) (k:Nat) (h:k<s.size) (hk:k≤9) (h9:k=9→s[k].toNat≤1) :
 bits .or .u64 ((valL (s.data.toList.take k):Nat):Int) (IntKind.u64.wrap ((s[k].toNat:Int) % 128 * 2 ^ (7 * k)))=((valL (s.data.toList.take (k+1)):Nat):Int):=by
 have h':k<s.data.toList.length:=by simpa using h
 have hl:=pd (s.data.toList.take k);rw [List.length_take,Nat.min_eq_left (by omega)] at hl;have hm:s[k].toNat % 128<128:=Nat.mod_lt _ (by decide);have:=(Cn _ (s[k].toNat % 128) k hl hm hk (by intro e;have:=h9 e;omega)).1;rw [vp _ _ h'];exact this
theorem FH (s:ByteArray) (h:9<s.size) (h9:s[9].toNat≤1) :
 bits .or .u64 ((valL (s.data.toList.take 9):Nat):Int) ((s[9].toNat:Int) % 128 * 9223372036854775808)=((valL (s.data.toList.take 10):Nat):Int):=by
 rw [←jy s 9 h (by omega) (fun _=>h9)]
 congr 1
 rw [show (2:Int) ^ (7 * 9)=9223372036854775808 by decide,IntWalk.u64_in _ ⟨by omega,by omega⟩]
theorem nr (s:ByteArray) (w:World) (hs:s.size≤maxLen) :
 Calls Tryz.prog 182 #[.string s] w fun e w'=>e=.returned (numV (getL s.data.toList))∧w=w':=by
 unfold maxLen at hs;go_enter Tryz.func182,Tryz.ntmps182
 go_wp2
 go_loop [5,10] (fun n i=>∃ k:Nat,k≤s.size∧k≤9∧i=.int .i64 k∧n=.int .u64 (valL (s.data.toList.take k))∧scan 0 s.data.toList=scan k (s.data.toList.drop k)) (fun _ i=>s.size-(intOf i).toNat)
 case atStart=>exact ⟨0,Nat.zero_le _,Nat.zero_le _,rfl,rfl,rfl⟩
 case round =>
  obtain ⟨k,hk,hk9,rfl,rfl,hsc⟩:=hrel;have HSC:=hid hsc;clear hsc;by_cases hlt:k<s.size
  ·by_cases h9:k=9
   ·subst h9;go_wp2
    ·have h1:1<(s[9].toNat:Int):=by assumption
     go_ret3;exact ⟨gh (kD (by rw [HSC.out,fH s 9 hlt,if_pos ⟨rfl,by omega⟩])) rfl rfl rfl,rfl⟩
    ·have h1:(s[9].toNat:Int)≤1:=by assumption
     have h2:((s[9].toNat:Int) == 0)=true:=by assumption
     have h2':s[9].toNat=0:=by have:=eq_of_beq h2;omega
     go_ret3;exact ⟨gh (kD (by rw [HSC.out,fH s 9 hlt,if_neg (by omega),if_pos ⟨by omega,h2'⟩])) rfl rfl rfl,rfl⟩
    ·have h1:(s[9].toNat:Int)≤1:=by assumption
     have h2:((s[9].toNat:Int) == 0)=false:=by assumption
     have h2':s[9].toNat≠0:=by intro h;rw [h] at h2;exact absurd h2 (by decide)
     go_ret3;exact ⟨gh (nk (by rw [HSC.out,fH s 9 hlt,if_neg (by omega),if_neg (by omega),if_pos (by omega)])) (FH s hlt (by omega)) rfl rfl,rfl⟩
   ·have hb:((k:Int) == 9)=false:=by simp;omega
    have H9:=hid h9;clear h9;go_wp2
    ·have h1:0<k:=by assumption
     have h2:((s[k].toNat:Int) == 0)=true:=by assumption
     have h2':s[k].toNat=0:=by have:=eq_of_beq h2;omega
     go_ret3;exact ⟨gh (kD (by rw [HSC.out,fH s k hlt,if_neg (by intro h;exact H9.out h.1),if_pos ⟨h1,h2'⟩])) rfl rfl rfl,rfl⟩
    ·have h2:((s[k].toNat:Int) == 0)=false:=by assumption
     have h2':s[k].toNat≠0:=by intro h;rw [h] at h2;exact absurd h2 (by decide)
     have h3:(s[k].toNat:Int)<128:=by assumption
     go_ret3;exact ⟨gh (nk (by rw [HSC.out,fH s k hlt,if_neg (by intro h;exact H9.out h.1),if_neg (by intro h;exact h2' h.2),if_pos (by omega)])) (jy s k hlt hk9 (fun h=>absurd h H9.out)) rfl rfl,rfl⟩
    ·have h2:((s[k].toNat:Int) == 0)=false:=by assumption
     have h2':s[k].toNat≠0:=by intro h;rw [h] at h2;exact absurd h2 (by decide)
     have h3:128≤(s[k].toNat:Int):=by assumption
     go_round
     case rel=>exact ⟨k+1,by omega,by have:=H9.out;omega,by go_num,by rw [jy s k hlt hk9 (fun h=>absurd h H9.out)],by rw [HSC.out,fH s k hlt,if_neg (by intro h;exact H9.out h.1),if_neg (by intro h;exact h2' h.2),if_neg (by omega)]⟩
     case measure=>simp [intOf];omega
    ·have h1:¬ 0<k:=by assumption
     have h3:(s[k].toNat:Int)<128:=by assumption
     go_ret3;exact ⟨gh (nk (by rw [HSC.out,fH s k hlt,if_neg (by intro h;exact H9.out h.1),if_neg (by omega),if_pos (by omega)])) (jy s k hlt hk9 (fun h=>absurd h H9.out)) rfl rfl,rfl⟩
    ·have h1:¬ 0<k:=by assumption
     have h3:128≤(s[k].toNat:Int):=by assumption
     go_round
     case rel=>exact ⟨k+1,by omega,by omega,by go_num,by rw [jy s k hlt hk9 (fun h=>absurd h H9.out)],by rw [HSC.out,fH s k hlt,if_neg (by intro h;exact H9.out h.1),if_neg (by omega),if_neg (by omega)]⟩
     case measure=>simp [intOf];omega
  ·go_wp2;go_ret3;exact ⟨gh (kD (by rw [HSC.out,List.drop_eq_nil_of_le (by simp;omega),scan])) rfl rfl rfl,rfl⟩
end
section
open Go.RowKit
def hiB (m:Nat):UInt8:=UInt8.ofNat (m % 128+128)
theorem zR (m:Nat):bits .or .u8 ((m:Int) % 256) 128=((hiB m).toNat:Int):=by
 unfold hiB;have e:(m:Int) % 256=((m % 256:Nat):Int):=by omega
 rw [e,show (128:Int)=((128:Nat):Int) from rfl,u8_or_nat _ _ (by omega) (by omega),fh (by omega)]
 congr 1
 have h1:m % 256=2 ^ 7 * (m / 128 % 2)+m % 128:=by omega
 rw [h1,Nat.two_pow_add_eq_or_of_lt (by omega),Nat.or_assoc,Nat.or_comm (m % 128),←Nat.or_assoc];have h3:2 ^ 7 * (m / 128 % 2) ||| 128=2 ^ 7 * 1:=by
  have:m / 128 % 2=0∨m / 128 % 2=1:=by omega
  rcases this with h | h <;> rw [h] <;> decide
 rw [h3,←Nat.two_pow_add_eq_or_of_lt (by omega)];omega
theorem Bq (w:World):(Instr.makeSlice 142 (.int .i64 0) (.int .i64 10)).run Tryz.prog w=.ok (.slice (some ⟨w.heap.size,0,none⟩) 0 10) (w.alloc (.cells #[.int .u8 0,.int .u8 0,.int .u8 0,.int .u8 0,.int .u8 0,.int .u8 0,.int .u8 0,.int .u8 0,.int .u8 0,.int .u8 0] 5)):=by kernel_rfl
theorem ls (n:Int) (w:World) (h0:0≤n) (h1:n≤18446744073709551615) :
 Calls Tryz.prog 115 #[.int .u64 n] w fun e w'=>e=.returned (.string ⟨(putL n.toNat).toArray⟩)∧Below w.heap.size w w':=by
 obtain ⟨N,rfl⟩:=Int.eq_ofNat_of_zero_le h0;rw [Int.toNat_natCast];have hmk:=Bq;go_enter Tryz.func115,Tryz.ntmps115
 go_wp2
 go_loopw [0,3] (fun n b wr=>∃ (m:Nat) (pre:List UInt8),n=.int .u64 m∧m≤18446744073709551615∧pre++putL m=putL N∧bN wr w.heap.size b pre∧Below w.heap.size w wr) (fun n _ _=>(intOf n).toNat)
 case atStart=>exact ⟨N,[],rfl,by omega,rfl,World.ownsRow_made w _ 10 (Nat.le_refl _) (by unfold maxLen;omega) rfl,(Below.refl _ _).alloc (Nat.le_refl _) _⟩
 case round =>
  obtain ⟨m,pre,rfl,hm,hput,hown,hbel⟩:=hrel;have HP:=hid hput;clear hput hmk;have hlen:pre.length+1≤10:=by
   have h2:=aI (n:=N) (by omega);rw [←HP.out,List.length_append] at h2;have:=ia m;omega
  by_cases hlt:m<128
  ·go_wp2_with (at_builtin;refine me rfl _ _ rfl w.heap.size _ pre rfl (hown.alloc _) ⟨wr.heap.size,0,none⟩ 1 rfl (m:Int) (UInt8.ofNat m) ?c1 ?c2 ?c3 ?c4 ?_)
   case c1=>simp [Addr.add]
   case c2=>rw [fh (by omega)]
   case c3=>omega
   case c4=>have:=hbel.size;simp;omega
   ·intro v' w1 hown1 hg1 _;have hcv:=tB hown1;have hb1:Below w.heap.size w w1:=(hbel.alloc hbel.size _).grown hg1 (by have:=hbel.size;simp;omega) (fun k hk=>(World.ownsRow.lt hown k hk).1);clear hown1 hg1;go_wp2;go_ret;refine ⟨?_,hb1⟩;have e:pre++[UInt8.ofNat m]=putL N:=by rw [←gl hlt];exact HP.out
    rw [←e];rfl
  ·go_wp2_with (at_builtin;refine me rfl _ _ rfl w.heap.size _ pre rfl (hown.alloc _) ⟨wr.heap.size,0,none⟩ 1 rfl (bits .or .u8 ((m:Int) % 256) 128) (hiB m) ?d1 ?d2 ?d3 ?d4 ?_)
   case d1=>simp [Addr.add]
   case d2=>exact zR m
   case d3=>omega
   case d4=>have:=hbel.size;simp;omega
   ·intro v' w1 hown1 hg1 _;have hb1:Below w.heap.size w w1:=(hbel.alloc hbel.size _).grown hg1 (by have:=hbel.size;simp;omega) (fun k hk=>(World.ownsRow.lt hown k hk).1);clear hg1 hown;go_wp2;go_roundw
    case rel=>exact ⟨m / 128,pre++[hiB m],by go_num,by omega,by rw [List.append_assoc,List.singleton_append,hiB,←gk hlt];exact HP.out,hown1,hb1⟩
    case measure=>simp [intOf];omega
end
section
open Go.RowKit
theorem nE:(Tryz.prog.info? 58).map (fun i=>(i.zero,i.size,i.bytes))=some (some (.agg #[.int .i64 0,.int .i64 0]),2,16):=by kernel_rfl
def entC (t:Ent):List Value:=[.int .i64 t.rep,.int .i64 t.time]
def b8 (l:List Ent):List Value:=l.flatMap entC
theorem gL (l:List Ent):(b8 l).length=l.length * 2:=by
 induction l with
 | nil=>rfl
 | cons t r ih=>simp only [b8,List.flatMap_cons,List.length_append,List.length_cons] at ih ⊢;rw [ih];simp [entC];omega
theorem mV (a b:List Ent):b8 (a++b)=b8 a++b8 b:=by simp [b8]
theorem fx (l:List Ent) (i j:Nat) (t:Ent) (h:l[i]? = some t) (hj:j<2):(b8 l)[i * 2+j]? = (entC t)[j]? := by
 induction l generalizing i with
 | nil=>simp at h
 | cons u r ih =>
  have hc:b8 (u::r)=entC u++b8 r:=by simp [b8]
  have h3:(entC u).length=2:=rfl;rw [hc];cases i with
  | zero =>
   obtain rfl:u=t:=by simpa using h
   rw [List.getElem?_append_left (by omega)]
   congr 1;omega
  | succ i =>
   rw [List.getElem?_append_right (by omega),h3,show (i+1) * 2+j-2=i * 2+j by omega];exact ih i (by simpa using h)
theorem qM (l:List Ent):∀ u∈b8 l,∃ n,u=.int .i64 n:=by
 intro u hu;obtain ⟨t,_,ht⟩:=List.mem_flatMap.1 hu;simp [entC] at ht
 rcases ht with rfl | rfl
 ·exact ⟨_,rfl⟩
 ·exact ⟨_,rfl⟩
def ag (w:World) (base:Nat) (v:Value) (l:List Ent):Prop:=w.ownsRow base 58 2 v l.length (b8 l)
theorem fd (w:World) (base:Nat):ag w base (.slice none 0 0) []:=World.ownsRow_nil _ _ _ _
theorem ag.alloc {w:World} {base:Nat} {v:Value} {l:List Ent} (h:ag w base v l) (o:Obj):ag (w.alloc o) base v l:=World.ownsRow.alloc h o
theorem ag.drew {w:World} {base:Nat} {v:Value} {l:List Ent} (h:ag w base v l):ag w.drew base v l:=World.ownsRow.drew h
theorem ag.lt {w:World} {base:Nat} {v:Value} {l:List Ent} (h:ag w base v l):∀ k,v.ownBlock=some k→base≤k∧k<w.heap.size:=World.ownsRow.lt h
theorem ag.mono {w:World} {base base':Nat} {v:Value} {l:List Ent} (h:ag w base v l) (hb:base'≤base):ag w base' v l:=by
 obtain ⟨h0,h1⟩:=h;refine ⟨h0,?_⟩;rcases h1 with h1 | ⟨g,cap,cur,hv,hg,r⟩
 ·exact .inl h1
 ·exact .inr ⟨g,cap,cur,hv,Nat.le_trans hb hg,r⟩
theorem ag.below {w w':World} {base:Nat} {v:Value} {l:List Ent} (h:ag w base v l) (hb:Below w.heap.size w w'):ag w' base v l:=by
 refine World.ownsRow.kept h (row:=none) ⟨hb.os,hb.tape,hb.output,hb.size,fun k hk _=>hb.block k hk⟩ ?_;cases hv:v.ownBlock with
 | none=>exact .inl rfl
 | some g=>exact .inr (by simp)
def ae (w:World) (v:Value) (l:List Ent):Prop :=
 (∃ a c,v=.slice a 0 c∧l=[])∨∃ b off c,v=.slice (some ⟨b,off,none⟩) l.length c∧(0<l.length∧l.length≤c)∧b<w.heap.size∧∀ j u,(b8 l)[j]? = some u→w.cell? ⟨b,off+j,none⟩=some u
theorem ag.is {w:World} {base:Nat} {v:Value} {l:List Ent} (h:ag w base v l):ae w v l:=by
 have hall:=h;have hlt:=h.lt;obtain ⟨h0,h1⟩:=h;rcases h1 with ⟨rfl,hn⟩ | ⟨g,cap,cur,rfl,hb,hh,hc,hm,hs,ht⟩
 ·exact .inl ⟨_,_,rfl,List.length_eq_zero_iff.1 hn⟩
 ·by_cases hz:l.length=0
  ·exact .inl ⟨_,_,by rw [hz],List.length_eq_zero_iff.1 hz⟩
  ·refine .inr ⟨g,0,cap,rfl,⟨by omega,hc⟩,(hlt g rfl).2,fun j u hj=>?_⟩;have hjl:j<l.length * 2:=by rw [←gL];exact (List.getElem?_eq_some_iff.1 hj).1
   rw [Nat.zero_add,World.ownsRow.cellAt hall j hjl];exact hj
theorem ae.nil (w:World):ae w (.slice none 0 0) []:=.inl ⟨_,_,rfl,rfl⟩
theorem ae.below {w w':World} {v:Value} {l:List Ent} (h:ae w v l) (hb:Below w.heap.size w w'):ae w' v l:=by
 rcases h with ⟨a,c,h1,h2⟩ | ⟨b,off,c,h1,h0,h2,h3⟩
 ·exact .inl ⟨a,c,h1,h2⟩
 ·exact .inr ⟨b,off,c,h1,h0,Nat.lt_of_lt_of_le h2 hb.size,fun j u hj=>(hb.cell (p:=⟨b,off+j,none⟩) h2).trans (h3 j u hj)⟩
theorem ae.alloc {w:World} {v:Value} {l:List Ent} (h:ae w v l) (o:Obj):ae (w.alloc o) v l:=h.below ((Below.refl _ _).alloc (Nat.le_refl _) o)
theorem ae.drewN {w:World} {v:Value} {l:List Ent} (h:ae w v l) (n:Nat):ae (w.drewN n) v l:=h
theorem ae.form {w:World} {v:Value} {l:List Ent} (h:ae w v l):∃ a c,v=.slice a l.length c∧∀ i t,l[i]? = some t→∃ b off,a=some ⟨b,off,none⟩∧b<w.heap.size ∧
 w.cell? ⟨b,off+i * 2,none⟩=some (.int .i64 t.rep)∧w.cell? ⟨b,off+i * 2+1,none⟩=some (.int .i64 t.time):=by
 rcases h with ⟨a,c,rfl,rfl⟩ | ⟨b,off,c,rfl,h0,h2,h3⟩
 ·exact ⟨a,c,rfl,fun i t h=>by simp at h⟩
 ·refine ⟨_,_,rfl,fun i t h=>⟨b,off,rfl,h2,?_,?_⟩⟩
  ·exact h3 _ _ ((fx l i 0 t h (by omega)).trans rfl)
  ·exact h3 _ _ ((fx l i 1 t h (by omega)).trans rfl)
theorem ae.lies {w:World} {v:Value} {l:List Ent} (h:ae w v l) (h0:0<l.length):∃ b off c,v=.slice (some ⟨b,off,none⟩) l.length c∧l.length≤c∧b<w.heap.size∧∀ j u,(b8 l)[j]? = some u→w.cell? ⟨b,off+j,none⟩=some u:=by
 rcases h with ⟨a,c,rfl,rfl⟩ | ⟨b,off,c,rfl,h1,h2,h3⟩
 ·exact absurd h0 (Nat.lt_irrefl _)
 ·exact ⟨b,off,c,rfl,h1.2,h2,h3⟩
theorem ae.part {w:World} {b off n c:Nat} {l:List Ent} (h:∀ j u,(b8 l)[j]? = some u→w.cell? ⟨b,off+j,none⟩=some u) (hb:b<w.heap.size) (i j:Nat) (hj:j≤l.length) (hij:i<j) (hn:n=j-i) (hc:n≤c) :
 ae w (.slice (some ⟨b,off+i * 2,none⟩) n c) ((l.take j).drop i):=by
 have hl:((l.take j).drop i).length=n:=by rw [List.length_drop,List.length_take];omega
 refine .inr ⟨b,off+i * 2,c,by rw [hl],⟨by omega,by omega⟩,hb,fun k u hk=>?_⟩;rw [Nat.add_assoc];refine h _ _ ?_;have hkl:k<n * 2:=by rw [←hl,←gL];exact (List.getElem?_eq_some_iff.1 hk).1
 have ht : ((l.take j).drop i)[k / 2]? = some (((l.take j).drop i)[k / 2]'(by omega)) := List.getElem?_eq_getElem _;have h1:=fx _ (k / 2) (k % 2) _ ht (Nat.mod_lt _ (by decide));rw [show k / 2 * 2+k % 2=k by omega] at h1;have ht2 : l[i + k / 2]? = some (((l.take j).drop i)[k / 2]'(by omega)) := by
  rw [←ht,List.getElem?_drop,List.getElem?_take_of_lt (by omega)]
 have h2:=fx _ (i+k / 2) (k % 2) _ ht2 (Nat.mod_lt _ (by decide));rw [show (i+k / 2) * 2+k % 2=i * 2+k by omega] at h2;rw [h2,←h1,hk]
def mU (w:World) (B:Nat) (t:Ent):Prop:=w.heap[B]? = some (.cells #[.int .i64 t.rep,.int .i64 t.time] 58 (0,0))
theorem kq (w:World) (a b:Int):mU (w.alloc (.cells #[.int .i64 a,.int .i64 b] 58)) w.heap.size ⟨a,b⟩:=heap_alloc_new _ _
theorem pv {w:World} {ops:Array Oper} {rest:List Oper} {o:Oper} {a:Act} {Q:Exit→Act→World→Prop} (hgd:o.guard=none) (s x:Operand)
 (ho:o.op=.call { callee:=.builtin .append,args:=#[s,x],argTypes:=#[32,32] })
 (base:Nat) (v:Value) (l:List Ent) (hs:a.eval s=v) (hown:ag w base v l)
 (B c:Nat) (hx:a.eval x=.slice (some ⟨B,0,none⟩) 1 c) (t:Ent) (hcell:mU w B t)
 (hlen:l.length+1≤1000000) (hbase:base≤w.heap.size)
 (h:∀ g cap w',ag w' base (.slice (some ⟨g,0,none⟩) (l.length+1) cap) (l++[t])→w.grownBy w' v.ownBlock→wpList Tryz.prog ops Q rest (a.put o.dst (.slice (some ⟨g,0,none⟩) (l.length+1) cap)) w'):wpList Tryz.prog ops Q (o::rest) a w:=by
 obtain ⟨i0,hi,hz0,hz1,hz2⟩:=info_parts nE;refine wpList_append_lies w hgd s x 32 ho base 58 i0 (.agg #[.int .i64 0,.int .i64 0]) 2 16 Tryz.underlying32 hi hz0 hz1 hz2 rfl (by decide) v l.length (b8 l) hs hown ⟨B,0,none⟩ 1 c (entC t) hx rfl ?_ ?_ (by decide) (by unfold maxLen;omega) (by omega) hbase _ rfl ?_
 ·intro j u hj;have hadd:(⟨B,0,none⟩:Addr).add j=⟨B,j,none⟩:=by unfold Addr.add;split <;> simp_all
  rw [hadd,cell_of_row _ _ _ _ _ _ hcell,←hj];unfold entC;simp
 ·intro u hu;simp [entC] at hu;rcases hu with rfl | rfl <;> rfl
 ·intro g cap w' h1 h2 _ _;refine h g cap w' ?_ h2;unfold ag;rw [List.length_append,mV]
  simpa [b8] using h1
theorem Gd {w:World} {ops:Array Oper} {rest:List Oper} {o:Oper} {a:Act} {Q:Exit→Act→World→Prop} (hgd:o.guard=none) (s x:Operand)
 (ho:o.op=.call { callee:=.builtin .append,args:=#[s,x],argTypes:=#[32,32] })
 (base:Nat) (v:Value) (l:List Ent) (hs:a.eval s=v) (hown:ag w base v l)
 (B off c n:Nat) (hx:a.eval x=.slice (some ⟨B,off,none⟩) n c) (m:List Ent) (hn:n=m.length) (hcell:∀ j u,(b8 m)[j]? = some u→w.cell? ⟨B,off+j,none⟩=some u)
 (hm:0<m.length) (hlen:l.length+m.length≤1000000) (hbase:base≤w.heap.size)
 (h:∀ g cap w',ag w' base (.slice (some ⟨g,0,none⟩) (l.length+m.length) cap) (l++m)→w.grownBy w' v.ownBlock→wpList Tryz.prog ops Q rest (a.put o.dst (.slice (some ⟨g,0,none⟩) (l.length+m.length) cap)) w'):wpList Tryz.prog ops Q (o::rest) a w:=by
 subst hn;obtain ⟨i0,hi,hz0,hz1,hz2⟩:=info_parts nE;refine wpList_append_lies w hgd s x 32 ho base 58 i0 (.agg #[.int .i64 0,.int .i64 0]) 2 16 Tryz.underlying32 hi hz0 hz1 hz2 rfl (by decide) v l.length (b8 l) hs hown ⟨B,off,none⟩ m.length c (b8 m) hx (gL m) ?_ ?_ hm (by unfold maxLen;omega) (by omega) hbase _ rfl ?_
 ·intro j u hj;have hadd:(⟨B,off,none⟩:Addr).add j=⟨B,off+j,none⟩:=by unfold Addr.add;split <;> simp_all
  rw [hadd];exact hcell j u hj
 ·intro u hu;obtain ⟨n,rfl⟩:=qM _ _ hu;rfl
 ·intro g cap w' h1 h2 _ _;refine h g cap w' ?_ h2;unfold ag;rw [List.length_append,mV];exact h1
theorem ag.form {w:World} {base:Nat} {v:Value} {l:List Ent} (h:ag w base v l):(v=.slice none 0 0∧l=[])∨∃ g cap,v=.slice (some ⟨g,0,none⟩) l.length cap∧base≤g∧g<w.heap.size∧∀ j u,(b8 l)[j]? = some u→w.cell? ⟨g,j,none⟩=some u:=by
 have hall:=h;have hlt:=h.lt;obtain ⟨h0,h1⟩:=h;rcases h1 with ⟨rfl,hn⟩ | ⟨g,cap,cur,rfl,hb,hh,hc,hm,hs,ht⟩
 ·exact .inl ⟨rfl,List.length_eq_zero_iff.1 hn⟩
 ·refine .inr ⟨g,cap,rfl,hb,(hlt g rfl).2,fun j u hj=>?_⟩;have hjl:j<l.length * 2:=by rw [←gL];exact (List.getElem?_eq_some_iff.1 hj).1
  rw [World.ownsRow.cellAt hall j hjl];exact hj
end
section
open Go.RowKit
theorem ai.slice {w:World} {base:Nat} {v:Value} {l:List ByteArray} (h:ai w base v l):∃ a c,v=.slice a l.length c:=by
 rcases h.forms with ⟨rfl,rfl⟩ | ⟨g,cap,rfl,_⟩
 ·exact ⟨none,0,rfl⟩
 ·exact ⟨_,cap,rfl⟩
theorem ai.at {w:World} {base n c:Nat} {a:Option Addr} {l:List ByteArray} (h:ai w base (.slice a n c) l) (h0:0<l.length):∃ g,a=some ⟨g,0,none⟩∧base≤g:=by
 rcases h.forms with ⟨_,rfl⟩ | ⟨g,cap,e,hb,_⟩
 ·exact absurd h0 (by simp)
 ·obtain ⟨e1,_⟩:=Value.slice.inj e;exact ⟨g,e1,hb⟩
theorem ai.setC {w:World} {base B i:Nat} {v:Value} {l:List ByteArray} (h:ai w base v l) (z:Value) (hne:v.ownBlock≠some B):ai (w.setCell ⟨B,i,none⟩ z) base v l :=
 World.ownsRow.kept h (row:=some B) ⟨rfl,rfl,rfl,by rw [show (w.setCell ⟨B,i,none⟩ z).heap.size=w.heap.size from by simp];exact Nat.le_refl _,fun k _ hk=>heap_setCell_other _ _ _ _ (fun e=>hk (by rw [e]))⟩ (.inr hne)
theorem q8 {w W:World} (h:w.grownBy W none):Below w.heap.size w W:=⟨h.os,h.tape,h.output,h.size,fun k hk=>h.block k hk (by simp)⟩
end
section
open Go.RowKit Go.Maps
theorem GS (w:World):(zeroValue 4).run Tryz.prog w=.ok (.bool false) w:=by kernel_rfl
def ji (w:World) (b n:Nat) (t:List ByteArray):Prop:=∃ D,SetM D t∧w.ownsMap Tryz.prog 9 (plainElem Tryz.prog 4) b n D
theorem CL (w:World):ji (w.alloc (.map #[] 0)) w.heap.size 0 []:=⟨_,DN,World.ownsMap_made _ _ _ _⟩
section
variable {w:World} {ops:Array Oper} {rest:List Oper} {o:Oper} {a:Act} {Q:Exit→Act→World→Prop}
theorem vQ (hg:o.guard=none) (m x:Operand) (hop:o.op=Op.lookup 289 m x false) (b n:Nat) (t:List ByteArray)
 (hm:a.eval m=.map (some b)) (hown:ji w b n t) (s:ByteArray) (hx:a.eval x=.string s) (hs:s.size≤maxLen) (v:Bool) (hv:if v then s∈t else s ∉ t)
 (hK:wpList Tryz.prog ops Q rest (a.put o.dst (.bool v)) w):wpList Tryz.prog ops Q (o::rest) a w:=by
 obtain ⟨D,h1,h2⟩:=hown;refine Gi w hg m x _ hop 9 4 j0 Tryz.underlying289 _ (GS w) (.lit (.bool false)) [] (plainElem_bool Tryz.underlying4 false) b n D hm h2 _ _ hx (keyS hs) (.bool v) ?_ hK;intro v' ps hv';obtain ⟨y,rfl,hy⟩:=D4 Tryz.underlying4 hv';cases v with
 | true=>rw [h1.there s (by simpa using hv)] at hy;simp at hy;rw [hy.1]
 | false=>rw [h1.none s (by simpa using hv)] at hy;simp at hy;rw [hy.1]
theorem Gm (hg:o.guard=none) (m x v:Operand) (hop:o.op=Op.mapUpdate 289 m x v) (b n:Nat) (t:List ByteArray)
 (hm:a.eval m=.map (some b)) (hown:ji w b n t) (hn:n<maxLen) (s:ByteArray) (hx:a.eval x=.string s) (hv:a.eval v=.bool true) (hs:s.size≤maxLen)
 (hK:∀ w',ji w' b (n+1) (t++[s])→w.grownBy w' (some b)→wpList Tryz.prog ops Q rest (a.put o.dst undef) w'):wpList Tryz.prog ops Q (o::rest) a w:=by
 obtain ⟨D,h1,h2⟩:=hown;refine wpList_mapUpdate_own w hg m x v _ hop 9 4 j0 Tryz.underlying289 _ b n D hm h2 hn _ _ _ hx hv (keyS hs) (.lit (.bool true)) [] (plainElem_bool Tryz.underlying4 true) ?_;intro w' h3 h4;exact hK w' ⟨_,h1.put s,h3⟩ h4
end
section
variable {w:World} {ops:Array Oper} {rest:List Oper} {o:Oper} {a:Act} {Q:Exit→Act→World→Prop}
end
end
section
theorem Dn (l:List UInt8) (a b n:Nat) (h1:1≤b) (ha:b≤a) (hn:a+n≤l.length) (h:∀ j,j<n→l.getD (a+j) 0=l.getD (a+j-b) 0) :
 ∀ m,m≤n→repL (l.take (a+(n-m))) b m=l.take (a+n):=by
 intro m
 induction m with
 | zero=>intro _;rw [Nat.sub_zero];rfl
 | succ m ih =>
  intro hm;have hlt:a+(n-(m+1))<l.length:=by omega
  rw [repL];have e:l.take (a+(n-(m+1)))++[(l.take (a+(n-(m+1)))).getD ((l.take (a+(n-(m+1)))).length-b) 0]=l.take (a+(n-m)):=by
   rw [show a+(n-m)=a+(n-(m+1))+1 by omega,List.take_succ_eq_append_getElem hlt]
   congr 2
   rw [List.length_take,Nat.min_eq_left (by omega)];have h2:=h (n-(m+1)) (by omega);have h3:l.getD (a+(n-(m+1))) 0=l[a+(n-(m+1))]:=by simp [hlt]
   rw [←h3,h2,List.getD_eq_getElem?_getD,List.getD_eq_getElem?_getD,List.getElem?_take_of_lt (by omega)]
  rw [e];exact ih (by omega)
theorem GG (s:List UInt8) (a:Nat) (hs:s≠[]) (h:a+s.length≤20000):aF ⟨⟨s.toArray⟩,0,0⟩ a=0:=by
 have hz:s.length≠0:=fun e=>hs (List.length_eq_zero_iff.1 e)
 unfold aF;simp only [cq]
 rw [if_neg hz,if_neg (by simp),if_neg (by omega)]
theorem GH (b n a:Nat) (h1:4≤n) (h2:n≤67) (h3:1≤b) (h4:b≤1024) (h5:b≤a) (h6:a+n≤20000):aF (repT b n) a=0:=by
 unfold aF repT;simp only
 rw [if_pos (show (⟨#[]⟩:ByteArray).size=0 from rfl),if_neg (by omega),if_neg (by omega),if_neg (by omega),if_neg (by omega)]
theorem B1 (s:List UInt8):lenT ⟨⟨s.toArray⟩,0,0⟩=s.length:=by unfold lenT;simp only [cq];rfl
theorem B4 (b n:Nat):lenT (repT b n)=n:=by unfold lenT repT;simp only [Int.toNat_natCast];show 0+n=n;omega
theorem Ee (b s:List UInt8):eN b ⟨⟨s.toArray⟩,0,0⟩=b++s:=rfl
theorem Ef (c:List UInt8) (b n:Nat):eN c (repT b n)=repL c b n:=by
 unfold eN repT;simp only [Int.toNat_natCast]
 rw [List.append_nil]
theorem tj (l:List UInt8) (fr a i:Nat) (r:List Tok) (hf:fr≤a) (ha:a≤l.length) (hl:l.length≤20000) :
 ((am (ownT ((l.take a).drop fr)++r) i fr).1=0↔(am r (if (l.take a).drop fr=[] then i else i+1) a).1=0) ∧
 b7 (l.take fr) (ownT ((l.take a).drop fr)++r)=b7 (l.take a) r:=by
 by_cases hz:(l.take a).drop fr=[]
 ·have e : fr = a := by
   have:=congrArg List.length hz;rw [List.length_drop,List.length_take] at this;simp at this;omega
  subst e;rw [hz,tg,if_pos rfl];exact ⟨Iff.rfl,rfl⟩
 ·have hlen:((l.take a).drop fr).length=a-fr:=by rw [List.length_drop,List.length_take,Nat.min_eq_left ha]
  rw [tf hz,if_neg hz,List.singleton_append,gm (GG _ _ hz (by omega)),B1,hlen,show fr+(a-fr)=a by omega,b7];refine ⟨Iff.rfl,?_⟩;rw [List.foldl_cons,Ee];have e:l.take fr=(l.take a).take fr:=by rw [List.take_take,Nat.min_eq_left hf]
  rw [e,List.take_append_drop];rfl
theorem ER (l:List UInt8) (hl:l.length≤20000):∀ f fr a i,fr≤a→a≤l.length→l.length≤a+f →
 (am (tks l f fr a) i fr).1=0∧b7 (l.take fr) (tks l f fr a)=l:=by
 intro f;have hend:∀ fr a i,fr≤a→a=l.length→(am (ownT ((l.take a).drop fr)) i fr).1=0∧b7 (l.take fr) (ownT ((l.take a).drop fr))=l:=by
  intro fr a i h1 h2;have h:=tj l fr a i [] h1 (by omega) hl;rw [List.append_nil] at h;refine ⟨h.1.2 rfl,h.2.trans ?_⟩;show l.take a=l
  rw [h2,List.take_length]
 induction f with
 | zero=>intro fr a i h1 h2 h3;exact hend fr a i h1 (by omega)
 | succ f ih =>
  intro fr a i h1 h2 h3;by_cases hlt:a<l.length
  ·rcases qU l a with ⟨hz,_⟩ | ⟨b,n,hfn,_,hb1,hb2,hb3,hn1,hn2,hn3,hsm,_⟩
   ·rw [ut hlt (by rw [hz])];exact ih fr (a+1) i (by omega) (by omega) (by omega)
   ·rw [ur hlt hfn (by omega)];have h:=tj l fr a i (repT b n::tks l f (a+n) (a+n)) h1 h2 hl;rw [h.1,h.2,gm (GH b n a hn1 hn2 hb1 hb2 hb3 (by omega)),B4];obtain ⟨k1,k2⟩:=ih (a+n) (a+n) ((if (l.take a).drop fr=[] then i else i+1)+1) (Nat.le_refl _) hn3 (by omega);refine ⟨k1,?_⟩;show b7 (eN (l.take a) (repT b n)) (tks l f (a+n) (a+n))=l
    rw [Ef];have hr:=Dn l a b n hb1 hb3 hn3 hsm.2.1 n (Nat.le_refl _);rw [Nat.sub_self,Nat.add_zero] at hr;rw [hr];exact k2
  ·rw [uq hlt];exact hend fr a i h1 (by omega)
theorem oR (l:List UInt8) (hl:l.length≤20000):am (toks l) 0 0=(0,-1)∧b7 [] (toks l)=l:=by
 have h:=ER l hl l.length 0 0 0 (Nat.le_refl _) (Nat.zero_le _) (by omega);rw [List.take_zero] at h;exact ⟨ou h.1,h.2⟩
theorem EQ (l:List UInt8):∀ f fr a,∀ t∈tks l f fr a,t.own.size≤l.length:=by
 intro f;have ho:∀ fr a,∀ t∈ownT ((l.take a).drop fr),t.own.size≤l.length:=fun fr a t h=>by
  unfold ownT at h;split at h
  ·cases h
  ·rw [List.mem_singleton.1 h];simp only [cq,List.length_drop,List.length_take];omega
 induction f with
 | zero=>intro fr a;exact ho _ _
 | succ f ih =>
  intro fr a t h;rw [tks] at h;split at h
  ·split at h
   ·exact ih _ _ t h
   ·rcases List.mem_append.1 h with h | h
    ·exact ho _ _ t h
    ·rcases List.mem_cons.1 h with h | h
     ·rw [h];exact Nat.zero_le _
     ·exact ih _ _ t h
  ·exact ho _ _ t h
theorem EP (l:List UInt8):∀ f fr a,(tks l f fr a).length≤2 * f+1:=by
 intro f;have ho:∀ x:List UInt8,(ownT x).length≤1:=fun x=>by unfold ownT;split <;> simp
 induction f with
 | zero=>intro fr a;exact ho _
 | succ f ih =>
  intro fr a;rw [tks];split
  ·split
   ·have:=ih fr (a+1);omega
   ·have:=ih (a+(find l a).2) (a+(find l a).2);have h2:=ho ((l.take a).drop fr);rw [List.length_append,List.length_cons];omega
  ·have:=ho ((l.take a).drop fr);omega
end
section
def opnF (s:List UInt8):Nat×List UInt8×Nat :=
 if s.length<8 then (0,[],7) else if s.take 2≠[80,84] then (0,[],5)
 else if (s.getD 2 0).toNat<1∨3<(s.getD 2 0).toNat then (0,[],8)
 else if (aS s).2≠0 then (0,[],(aS s).2)
 else ((s.getD 2 0).toNat,(aS s).1.drop 3,0)
theorem o0 {s:List UInt8} (h:s.length<8):opnF s=(0,[],7):=by unfold opnF;rw [if_pos h]
theorem oa {s:List UInt8} (h:¬ s.length<8) (h1:s.take 2≠[80,84]):opnF s=(0,[],5):=by unfold opnF;rw [if_neg h,if_pos h1]
theorem lf {s:List UInt8} (h:¬ s.length<8) (h1:s.take 2=[80,84]) (h2:(s.getD 2 0).toNat<1∨3<(s.getD 2 0).toNat):opnF s=(0,[],8):=by
 unfold opnF;rw [if_neg h,if_neg (by simpa using h1),if_pos h2]
theorem ob {s:List UInt8} {e:Nat} (h:¬ s.length<8) (h1:s.take 2=[80,84]) (h2:¬ ((s.getD 2 0).toNat<1∨3<(s.getD 2 0).toNat)) (h3:(aS s).2=e) (he:e≠0):opnF s=(0,[],e):=by
 unfold opnF;rw [if_neg h,if_neg (by simpa using h1),if_neg h2,if_pos (by rw [h3];exact he),h3]
theorem lg {s:List UInt8} (h:¬ s.length<8) (h1:s.take 2=[80,84]) (h2:¬ ((s.getD 2 0).toNat<1∨3<(s.getD 2 0).toNat)) (h3:(aS s).2=0):opnF s=((s.getD 2 0).toNat,(aS s).1.drop 3,0):=by
 unfold opnF;rw [if_neg h,if_neg (by simpa using h1),if_neg h2,if_neg (by rw [h3];simp)]
theorem lJ (l:List UInt8):(bi l).length=l.length+4:=by unfold bi;rw [List.length_append,uk]
theorem jg (v:UInt8) (i:List UInt8) (hi:1≤i.length):opnF (bi (80::84::v::i))=if v.toNat<1∨3<v.toNat then (0,[],8) else (v.toNat,i,0):=by
 have h0:¬ (bi (80::84::v::i)).length<8:=by rw [lJ];simp;omega
 have h1:(bi (80::84::v::i)).take 2=[80,84]:=rfl;have h2:(bi (80::84::v::i)).getD 2 0=v:=rfl;by_cases hv:v.toNat<1∨3<v.toNat
 ·rw [if_pos hv,lf h0 h1 (by rw [h2];exact hv)]
 ·rw [if_neg hv,lg h0 h1 (by rw [h2];exact hv) (by rw [jf]),h2,jf];rfl
theorem sX {l o:List UInt8} (h:aS l=(o,0)):o.length=l.length-4:=by
 unfold aS at h;split at h
 ·injection h with _ h;cases h
 ·split at h
  ·injection h with h _;rw [←h,List.length_take];omega
  ·injection h with _ h;cases h
theorem t7 {s i:List UInt8} {v:Nat} (h:opnF s=(v,i,0)):1≤i.length∧i.length≤s.length:=by
 by_cases h0:s.length<8
 ·rw [o0 h0] at h;injection h with _ h;injection h with _ h;cases h
 ·by_cases h1:s.take 2=[80,84]
  ·by_cases h2:(s.getD 2 0).toNat<1∨3<(s.getD 2 0).toNat
   ·rw [lf h0 h1 h2] at h;injection h with _ h;injection h with _ h;cases h
   ·by_cases h3:(aS s).2=0
    ·rw [lg h0 h1 h2 h3] at h;injection h with _ h
     injection h with h _
     have h4:=sX (l:=s) (o:=(aS s).1) (by rw [←h3]);rw [←h,List.length_drop,h4];omega
    ·rw [ob h0 h1 h2 rfl h3] at h;injection h with _ h;injection h with _ h;exact absurd h h3
  ·rw [oa h0 h1] at h;injection h with _ h;injection h with _ h;cases h
end
