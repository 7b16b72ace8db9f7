import Derived.Test.YtgfinhehgfbdgaaGreatDoorRa02
import Derived.Test.YtgfinhehgfbdgaaGreatDoorRows
import Derived.Lib.Strings
import Derived.Laws.BitsAllLaws
import Derived.Lib.Builder
import Derived.Lib.AppendStr
import Derived.Lib.UnsafeStr
import Derived.Laws.Externs
namespace Go.Proofs.YtgfinhehgfbdgaaGreatDoor
open Go.RowKit
def errV (e:Nat):Value:=if e=0 then .nilIface else .iface 27 (.int .i64 e)
def numV (r:Nat×Nat×Nat):Value:=.tuple #[.int .u64 r.1,.int .i64 r.2.1,errV r.2.2]
theorem pow128 (k:Nat):(2:Nat) ^ (7 * k)=128 ^ k:=by rw [Nat.pow_mul]
theorem or_shift (acc x k:Nat) (ha:acc<128 ^ k) (hx:x<128) (hk:k≤9) (h9:k=9→x≤1) :
   bits .or .u64 (acc:Int) (IntKind.u64.wrap ((x:Int) * 2 ^ (7 * k)))=((acc+x * 128 ^ k:Nat):Int)∧acc+x * 128 ^ k<18446744073709551616:=by
 have hb:acc+x * 128 ^ k<18446744073709551616:=by
   by_cases h:k=9
   · subst h;have:=h9 rfl;rw [pow9] at ha ⊢;omega
   · have hp:128 ^ k≤128 ^ 8:=Nat.pow_le_pow_right (by decide) (by omega);have h8:128 ^ 8=72057594037927936:=by decide
     have:=Nat.mul_le_mul (show x≤127 by omega) hp;omega
 refine ⟨?_,hb⟩;have e1:((x:Int) * 2 ^ (7 * k))=((x * 128 ^ k:Nat):Int):=by
   rw [←pow128,Int.natCast_mul,Int.natCast_pow];rfl
 rw [e1,IntWalk.u64_in _ ⟨by omega,by omega⟩,u64_or_nat _ _ (by omega) (by omega),←pow128]
 congr 1
 rw [Nat.add_comm,Nat.mul_comm x,Nat.two_pow_add_eq_or_of_lt (by rw [pow128];exact ha),Nat.or_comm]
theorem num_ret {l:List UInt8} {n k e:Nat} {a b:Int} {v:Value} (h:getL l=(n,k,e)) (ha:a=n) (hb:b=k) (hv:v=errV e) :
   Ending.returned (.tuple #[.int .u64 a,.int .i64 b,v])=.returned (numV (getL l)):=by
 rw [h,ha,hb,hv];rfl
theorem getL_of_bad {l:List UInt8} {e:Nat} (h:scan 0 l=.inl e):getL l=(0,0,e):=by unfold getL;rw [h]
theorem getL_of_ok {l:List UInt8} {k:Nat} (h:scan 0 l=.inr k):getL l=(valL (l.take k),k,0):=by unfold getL;rw [h]
theorem scan_at (s:ByteArray) (k:Nat) (h:k<s.size):scan k (s.data.toList.drop k)=if k=9∧1<s[k].toNat then .inl 4 else if 0<k∧s[k].toNat=0 then .inl 3 else if s[k].toNat<128 then .inr (k+1) else scan (k+1) (s.data.toList.drop (k+1)) :=
 scan_drop s.data.toList k (by simpa using h)
theorem val_at (s:ByteArray) (k:Nat) (h:k<s.size) (hk:k≤9) (h9:k=9→s[k].toNat≤1) :
   bits .or .u64 ((valL (s.data.toList.take k):Nat):Int) (IntKind.u64.wrap ((s[k].toNat:Int) % 128 * 2 ^ (7 * k)))=((valL (s.data.toList.take (k+1)):Nat):Int):=by
 have h':k<s.data.toList.length:=by simpa using h
 have hl:=valL_lt (s.data.toList.take k);rw [List.length_take,Nat.min_eq_left (by omega)] at hl;have hm:s[k].toNat % 128<128:=Nat.mod_lt _ (by decide);have:=(or_shift _ (s[k].toNat % 128) k hl hm hk (by intro e;have:=h9 e;omega)).1;rw [valL_take_succ _ _ h'];exact this
theorem val_at9 (s:ByteArray) (h:9<s.size) (h9:s[9].toNat≤1) :
   bits .or .u64 ((valL (s.data.toList.take 9):Nat):Int) ((s[9].toNat:Int) % 128 * 9223372036854775808)=((valL (s.data.toList.take 10):Nat):Int):=by
 rw [←val_at s 9 h (by omega) (fun _=>h9)]
 congr 1
 rw [show (2:Int) ^ (7 * 9)=9223372036854775808 by decide,IntWalk.u64_in _ ⟨by omega,by omega⟩]
set_option maxRecDepth 100000 in
set_option maxHeartbeats 1000000 in
theorem get_any (s:ByteArray) (w:World) (hs:s.size≤maxLen) :
   Calls Tryz.prog 146 #[.string s] w fun e w'=>e=.returned (numV (getL s.data.toList))∧w=w':=by
 unfold maxLen at hs;go_enter Tryz.func146,Tryz.ntmps146
 go_wp2
 go_loop [5,10] (fun n i=>∃ k:Nat,k≤s.size∧k≤9∧i=.int .i64 k∧n=.int .u64 (valL (s.data.toList.take k))∧scan 0 s.data.toList=scan k (s.data.toList.drop k)) (fun _ i=>s.size-(intOf i).toNat)
 case atStart=>exact ⟨0,Nat.zero_le _,Nat.zero_le _,rfl,rfl,rfl⟩
 case round =>
   obtain ⟨k,hk,hk9,rfl,rfl,hsc⟩:=hrel;have HSC:=Lib.hid hsc;clear hsc;by_cases hlt:k<s.size
   · by_cases h9:k=9
     · subst h9;go_wp2
       · have h1:1<(s[9].toNat:Int):=by assumption
         go_ret3;exact ⟨num_ret (getL_of_bad (by rw [HSC.out,scan_at s 9 hlt,if_pos ⟨rfl,by omega⟩])) rfl rfl rfl,rfl⟩
       · have h1:(s[9].toNat:Int)≤1:=by assumption
         have h2:((s[9].toNat:Int) == 0)=true:=by assumption
         have h2':s[9].toNat=0:=by have:=eq_of_beq h2;omega
         go_ret3;exact ⟨num_ret (getL_of_bad (by rw [HSC.out,scan_at s 9 hlt,if_neg (by omega),if_pos ⟨by omega,h2'⟩])) rfl rfl rfl,rfl⟩
       · have h1:(s[9].toNat:Int)≤1:=by assumption
         have h2:((s[9].toNat:Int) == 0)=false:=by assumption
         have h2':s[9].toNat≠0:=by intro h;rw [h] at h2;exact absurd h2 (by decide)
         go_ret3;exact ⟨num_ret (getL_of_ok (by rw [HSC.out,scan_at s 9 hlt,if_neg (by omega),if_neg (by omega),if_pos (by omega)])) (val_at9 s hlt (by omega)) rfl rfl,rfl⟩
     · have hb:((k:Int) == 9)=false:=by simp;omega
       have H9:=Lib.hid h9;clear h9;go_wp2
       · have h1:0<k:=by assumption
         have h2:((s[k].toNat:Int) == 0)=true:=by assumption
         have h2':s[k].toNat=0:=by have:=eq_of_beq h2;omega
         go_ret3;exact ⟨num_ret (getL_of_bad (by rw [HSC.out,scan_at s k hlt,if_neg (by intro h;exact H9.out h.1),if_pos ⟨h1,h2'⟩])) rfl rfl rfl,rfl⟩
       · have h2:((s[k].toNat:Int) == 0)=false:=by assumption
         have h2':s[k].toNat≠0:=by intro h;rw [h] at h2;exact absurd h2 (by decide)
         have h3:(s[k].toNat:Int)<128:=by assumption
         go_ret3;exact ⟨num_ret (getL_of_ok (by rw [HSC.out,scan_at s k hlt,if_neg (by intro h;exact H9.out h.1),if_neg (by intro h;exact h2' h.2),if_pos (by omega)])) (val_at s k hlt hk9 (fun h=>absurd h H9.out)) rfl rfl,rfl⟩
       · have h2:((s[k].toNat:Int) == 0)=false:=by assumption
         have h2':s[k].toNat≠0:=by intro h;rw [h] at h2;exact absurd h2 (by decide)
         have h3:128≤(s[k].toNat:Int):=by assumption
         go_round
         case rel=>exact ⟨k+1,by omega,by have:=H9.out;omega,by go_num,by rw [val_at s k hlt hk9 (fun h=>absurd h H9.out)],by rw [HSC.out,scan_at s k hlt,if_neg (by intro h;exact H9.out h.1),if_neg (by intro h;exact h2' h.2),if_neg (by omega)]⟩
         case measure=>simp [intOf];omega
       · have h1:¬ 0<k:=by assumption
         have h3:(s[k].toNat:Int)<128:=by assumption
         go_ret3;exact ⟨num_ret (getL_of_ok (by rw [HSC.out,scan_at s k hlt,if_neg (by intro h;exact H9.out h.1),if_neg (by omega),if_pos (by omega)])) (val_at s k hlt hk9 (fun h=>absurd h H9.out)) rfl rfl,rfl⟩
       · have h1:¬ 0<k:=by assumption
         have h3:128≤(s[k].toNat:Int):=by assumption
         go_round
         case rel=>exact ⟨k+1,by omega,by omega,by go_num,by rw [val_at s k hlt hk9 (fun h=>absurd h H9.out)],by rw [HSC.out,scan_at s k hlt,if_neg (by intro h;exact H9.out h.1),if_neg (by omega),if_neg (by omega)]⟩
         case measure=>simp [intOf];omega
   · go_wp2;go_ret3;exact ⟨num_ret (getL_of_bad (by rw [HSC.out,List.drop_eq_nil_of_le (by simp;omega),scan])) rfl rfl rfl,rfl⟩
end Go.Proofs.YtgfinhehgfbdgaaGreatDoor
namespace Go.Proofs.YtgfinhehgfbdgaaGreatDoor
open Go.RowKit
def hiB (m:Nat):UInt8:=UInt8.ofNat (m % 128+128)
theorem high_byte (m:Nat):bits .or .u8 ((m:Int) % 256) 128=((hiB m).toNat:Int):=by
 unfold hiB;have e:(m:Int) % 256=((m % 256:Nat):Int):=by omega
 rw [e,show (128:Int)=((128:Nat):Int) from rfl,u8_or_nat _ _ (by omega) (by omega),toNat_ofNat_lt (by omega)]
 congr 1
 have h1:m % 256=2 ^ 7 * (m / 128 % 2)+m % 128:=by omega
 rw [h1,Nat.two_pow_add_eq_or_of_lt (by omega),Nat.or_assoc,Nat.or_comm (m % 128),←Nat.or_assoc];have h3:2 ^ 7 * (m / 128 % 2) ||| 128=2 ^ 7 * 1:=by
   have:m / 128 % 2=0∨m / 128 % 2=1:=by omega
   rcases this with h | h <;> rw [h] <;> decide
 rw [h3,←Nat.two_pow_add_eq_or_of_lt (by omega)];omega
theorem make10 (w:World):(Instr.makeSlice 56 (.int .i64 0) (.int .i64 10)).run Tryz.prog w=.ok (.slice (some ⟨w.heap.size,0,none⟩) 0 10) (w.alloc (.cells #[.int .u8 0,.int .u8 0,.int .u8 0,.int .u8 0,.int .u8 0,.int .u8 0,.int .u8 0,.int .u8 0,.int .u8 0,.int .u8 0] 5)):=by kernel_rfl
set_option maxRecDepth 100000 in
set_option maxHeartbeats 1000000 in
theorem put_any (n:Int) (w:World) (h0:0≤n) (h1:n≤18446744073709551615) :
   Calls Tryz.prog 68 #[.int .u64 n] w fun e w'=>e=.returned (.string ⟨(putL n.toNat).toArray⟩)∧Below w.heap.size w w':=by
 obtain ⟨N,rfl⟩:=Int.eq_ofNat_of_zero_le h0;rw [Int.toNat_natCast];have hmk:=make10;go_enter Tryz.func68,Tryz.ntmps68
 go_wp2
 go_loopw [0,3] (fun n b wr=>∃ (m:Nat) (pre:List UInt8),n=.int .u64 m∧m≤18446744073709551615∧pre++putL m=putL N∧ownsB wr w.heap.size b pre∧Below w.heap.size w wr) (fun n _ _=>(intOf n).toNat)
 case atStart=>exact ⟨N,[],rfl,by omega,rfl,World.ownsRow_made w _ 10 (Nat.le_refl _) (by unfold maxLen;omega) rfl,(Below.refl _ _).alloc (Nat.le_refl _) _⟩
 case round =>
   obtain ⟨m,pre,rfl,hm,hput,hown,hbel⟩:=hrel;have HP:=Lib.hid hput;clear hput hmk;have hlen:pre.length+1≤10:=by
     have h2:=putL_le10 (n:=N) (by omega);rw [←HP.out,List.length_append] at h2;have:=putL_pos m;omega
   by_cases hlt:m<128
   · go_wp2_with (at_builtin;refine wpList_append_byte rfl _ _ rfl w.heap.size _ pre rfl (hown.alloc _) ⟨wr.heap.size,0,none⟩ 1 rfl (m:Int) (UInt8.ofNat m) ?c1 ?c2 ?c3 ?c4 ?_)
     case c1=>simp [Addr.add]
     case c2=>rw [toNat_ofNat_lt (by omega)]
     case c3=>omega
     case c4=>have:=hbel.size;simp;omega
     · intro v' w1 hown1 hg1 _;have hcv:=run_string_ownsB hown1;have hb1:Below w.heap.size w w1:=(hbel.alloc hbel.size _).grown hg1 (by have:=hbel.size;simp;omega) (fun k hk=>(World.ownsRow.lt hown k hk).1);clear hown1 hg1;go_wp2;go_ret;refine ⟨?_,hb1⟩;have e:pre++[UInt8.ofNat m]=putL N:=by rw [←putL_small hlt];exact HP.out
       rw [←e];rfl
   · go_wp2_with (at_builtin;refine wpList_append_byte rfl _ _ rfl w.heap.size _ pre rfl (hown.alloc _) ⟨wr.heap.size,0,none⟩ 1 rfl (bits .or .u8 ((m:Int) % 256) 128) (hiB m) ?d1 ?d2 ?d3 ?d4 ?_)
     case d1=>simp [Addr.add]
     case d2=>exact high_byte m
     case d3=>omega
     case d4=>have:=hbel.size;simp;omega
     · intro v' w1 hown1 hg1 _;have hb1:Below w.heap.size w w1:=(hbel.alloc hbel.size _).grown hg1 (by have:=hbel.size;simp;omega) (fun k hk=>(World.ownsRow.lt hown k hk).1);clear hg1 hown;go_wp2;go_roundw
       case rel=>exact ⟨m / 128,pre++[hiB m],by go_num,by omega,by rw [List.append_assoc,List.singleton_append,hiB,←putL_big hlt];exact HP.out,hown1,hb1⟩
       case measure=>simp [intOf];omega
end Go.Proofs.YtgfinhehgfbdgaaGreatDoor
namespace Go.Proofs.YtgfinhehgfbdgaaGreatDoor
open Go.RowKit
theorem pow_step (j k:Nat) (h:j<k) (hk:k≤9):(128 ^ j:Nat) * 128≤9223372036854775808:=by
 have h1:128 ^ (j+1)≤128 ^ 9:=Nat.pow_le_pow_right (by decide) (by omega);rw [pow9,Nat.pow_succ] at h1;exact h1
def p128 (j:Nat):Nat:=128 ^ j
set_option maxRecDepth 100000 in
theorem pow_any (k:Nat) (w:World) (hk:k≤9) :
   Calls Tryz.prog 82 #[.int .u64 128,.int .i64 k] w fun e w'=>e=.returned (.int .u64 (p128 k))∧w=w':=by
 go_enter Tryz.func82,Tryz.ntmps82
 go_wp2
 go_loop [5,7] (fun p j=>∃ m:Nat,m≤k∧j=.int .i64 m∧p=.int .u64 (p128 m)) (fun _ j=>k-(intOf j).toNat)
 case atStart=>exact ⟨0,Nat.zero_le _,rfl,rfl⟩
 case round =>
   obtain ⟨m,hm,rfl,rfl⟩:=hrel;by_cases hlt:m<k
   · have hs:p128 m * 128≤9223372036854775808:=pow_step m k hlt hk;have he:Hid (p128 m * 128=p128 (m+1)):=(Nat.pow_succ 128 m).symm;go_wp2
     go_round
     case rel=>exact ⟨m+1,by omega,by go_num,by rw [←he.out];go_num⟩
     case measure=>simp [intOf];omega
   · have:m=k:=by omega
     subst this;go_wp2;go_ret;exact ⟨rfl,rfl⟩
end Go.Proofs.YtgfinhehgfbdgaaGreatDoor
namespace Go.Proofs.YtgfinhehgfbdgaaGreatDoor
open Go.RowKit
theorem zigr_any (n:Int) (w:World) (h0 : -9223372036854775808≤n) (h1:n≤9223372036854775807) :
   Calls Tryz.prog 136 #[.int .i64 n] w fun e w'=>e=.returned (.int .u64 (zigN n))∧w=w':=by
 by_cases hneg:n<0
 · go_enter Tryz.func136,Tryz.ntmps136
   go_wp2;go_ret;exact ⟨ret_int (by rw [zigN,if_pos hneg];omega),rfl⟩
 · have h':0≤n:=by omega
   go_enter Tryz.func136,Tryz.ntmps136
   go_wp2;go_ret;exact ⟨ret_int (by rw [zigN,if_neg (by omega)]),rfl⟩
theorem zagr_any (n:Int) (w:World) (h0:0≤n) (h1:n≤18446744073709551615) :
   Calls Tryz.prog 144 #[.int .u64 n] w fun e w'=>e=.returned (.int .i64 (zagN n))∧w=w':=by
 by_cases h:n % 2=1
 · have hb:(n % 2 == 1)=true:=by simpa using h
   have hh:=Lib.hid h;clear h;go_enter Tryz.func144,Tryz.ntmps144
   go_wp2;go_ret;exact ⟨ret_int (by rw [zagN,if_pos hh.out]),rfl⟩
 · have hb:(n % 2 == 1)=false:=by simpa using h
   have hh:=Lib.hid h;clear h;go_enter Tryz.func144,Tryz.ntmps144
   go_wp2;go_ret;exact ⟨ret_int (by rw [zagN,if_neg hh.out]),rfl⟩
end Go.Proofs.YtgfinhehgfbdgaaGreatDoor
namespace Go.Proofs.YtgfinhehgfbdgaaGreatDoor
theorem repL_take (l:List UInt8) (a b n:Nat) (h1:1≤b) (ha:b≤a) (hn:a+n≤l.length) (h:∀ j,j<n→l.getD (a+j) 0=l.getD (a+j-b) 0) :
   ∀ m,m≤n→repL (l.take (a+(n-m))) b m=l.take (a+n):=by
 intro m
 induction m with
 | zero=>intro _;rw [Nat.sub_zero];rfl
 | succ m ih =>
   intro hm;have hlt:a+(n-(m+1))<l.length:=by omega
   rw [repL];have e:l.take (a+(n-(m+1)))++[(l.take (a+(n-(m+1)))).getD ((l.take (a+(n-(m+1)))).length-b) 0]=l.take (a+(n-m)):=by
     rw [show a+(n-m)=a+(n-(m+1))+1 by omega,List.take_succ_eq_append_getElem hlt]
     congr 2
     rw [List.length_take,Nat.min_eq_left (by omega)];have h2:=h (n-(m+1)) (by omega);have h3:l.getD (a+(n-(m+1))) 0=l[a+(n-(m+1))]:=by simp [hlt]
     rw [←h3,h2,List.getD_eq_getElem?_getD,List.getD_eq_getElem?_getD,List.getElem?_take_of_lt (by omega)]
   rw [e];exact ih (by omega)
theorem wrongN_own (s:List UInt8) (a:Nat) (hs:s≠[]) (h:a+s.length≤20000):wrongN ⟨⟨s.toArray⟩,0,0⟩ a=0:=by
 have hz:s.length≠0:=fun e=>hs (List.length_eq_zero_iff.1 e)
 unfold wrongN;simp only [bs_size]
 rw [if_neg hz,if_neg (by simp),if_neg (by omega)]
theorem wrongN_rep (b n a:Nat) (h1:4≤n) (h2:n≤67) (h3:1≤b) (h4:b≤1024) (h5:b≤a) (h6:a+n≤20000):wrongN (repT b n) a=0:=by
 unfold wrongN repT;simp only
 rw [if_pos (show (⟨#[]⟩:ByteArray).size=0 from rfl),if_neg (by omega),if_neg (by omega),if_neg (by omega),if_neg (by omega)]
theorem lenT_own (s:List UInt8):lenT ⟨⟨s.toArray⟩,0,0⟩=s.length:=by unfold lenT;simp only [bs_size];rfl
theorem lenT_rep (b n:Nat):lenT (repT b n)=n:=by unfold lenT repT;simp only [Int.toNat_natCast];show 0+n=n;omega
theorem stepT_own (b s:List UInt8):stepT b ⟨⟨s.toArray⟩,0,0⟩=b++s:=rfl
theorem stepT_rep (c:List UInt8) (b n:Nat):stepT c (repT b n)=repL c b n:=by
 unfold stepT repT;simp only [Int.toNat_natCast]
 rw [List.append_nil]
theorem own_step (l:List UInt8) (fr a i:Nat) (r:List Tok) (hf:fr≤a) (ha:a≤l.length) (hl:l.length≤20000) :
   ((rightF (ownT ((l.take a).drop fr)++r) i fr).1=0↔(rightF r (if (l.take a).drop fr=[] then i else i+1) a).1=0) ∧
   textL (l.take fr) (ownT ((l.take a).drop fr)++r)=textL (l.take a) r:=by
 by_cases hz:(l.take a).drop fr=[]
 · have e : fr = a := by
     have:=congrArg List.length hz;rw [List.length_drop,List.length_take] at this;simp at this;omega
   subst e;rw [hz,ownT_nil,if_pos rfl];exact ⟨Iff.rfl,rfl⟩
 · have hlen:((l.take a).drop fr).length=a-fr:=by rw [List.length_drop,List.length_take,Nat.min_eq_left ha]
   rw [ownT_cons hz,if_neg hz,List.singleton_append,rightF_ok (wrongN_own _ _ hz (by omega)),lenT_own,hlen,show fr+(a-fr)=a by omega,textL];refine ⟨Iff.rfl,?_⟩;rw [List.foldl_cons,stepT_own];have e:l.take fr=(l.take a).take fr:=by rw [List.take_take,Nat.min_eq_left hf]
   rw [e,List.take_append_drop];rfl
theorem tks_text (l:List UInt8) (hl:l.length≤20000):∀ f fr a i,fr≤a→a≤l.length→l.length≤a+f →
   (rightF (tks l f fr a) i fr).1=0∧textL (l.take fr) (tks l f fr a)=l:=by
 intro f;have hend:∀ fr a i,fr≤a→a=l.length→(rightF (ownT ((l.take a).drop fr)) i fr).1=0∧textL (l.take fr) (ownT ((l.take a).drop fr))=l:=by
   intro fr a i h1 h2;have h:=own_step l fr a i [] h1 (by omega) hl;rw [List.append_nil] at h;refine ⟨h.1.2 rfl,h.2.trans ?_⟩;show l.take a=l
   rw [h2,List.take_length]
 induction f with
 | zero=>intro fr a i h1 h2 h3;exact hend fr a i h1 (by omega)
 | succ f ih =>
   intro fr a i h1 h2 h3;by_cases hlt:a<l.length
   · rcases find_cases l a with ⟨hz,_⟩ | ⟨b,n,hfn,_,hb1,hb2,hb3,hn1,hn2,hn3,hsm,_⟩
     · rw [tks_step hlt (by rw [hz])];exact ih fr (a+1) i (by omega) (by omega) (by omega)
     · rw [tks_rep hlt hfn (by omega)];have h:=own_step l fr a i (repT b n::tks l f (a+n) (a+n)) h1 h2 hl;rw [h.1,h.2,rightF_ok (wrongN_rep b n a hn1 hn2 hb1 hb2 hb3 (by omega)),lenT_rep];obtain ⟨k1,k2⟩:=ih (a+n) (a+n) ((if (l.take a).drop fr=[] then i else i+1)+1) (Nat.le_refl _) hn3 (by omega);refine ⟨k1,?_⟩;show textL (stepT (l.take a) (repT b n)) (tks l f (a+n) (a+n))=l
       rw [stepT_rep];have hr:=repL_take l a b n hb1 hb3 hn3 hsm.2.1 n (Nat.le_refl _);rw [Nat.sub_self,Nat.add_zero] at hr;rw [hr];exact k2
   · rw [tks_end hlt];exact hend fr a i h1 (by omega)
theorem toks_text (l:List UInt8) (hl:l.length≤20000):rightF (toks l) 0 0=(0,-1)∧textL [] (toks l)=l:=by
 have h:=tks_text l hl l.length 0 0 0 (Nat.le_refl _) (Nat.zero_le _) (by omega);rw [List.take_zero] at h;exact ⟨rightF_any h.1,h.2⟩
theorem tks_own (l:List UInt8):∀ f fr a,∀ t∈tks l f fr a,t.own.size≤l.length:=by
 intro f;have ho:∀ fr a,∀ t∈ownT ((l.take a).drop fr),t.own.size≤l.length:=fun fr a t h=>by
   unfold ownT at h;split at h
   · cases h
   · rw [List.mem_singleton.1 h];simp only [bs_size,List.length_drop,List.length_take];omega
 induction f with
 | zero=>intro fr a;exact ho _ _
 | succ f ih =>
   intro fr a t h;rw [tks] at h;split at h
   · split at h
     · exact ih _ _ t h
     · rcases List.mem_append.1 h with h | h
       · exact ho _ _ t h
       · rcases List.mem_cons.1 h with h | h
         · rw [h];exact Nat.zero_le _
         · exact ih _ _ t h
   · exact ho _ _ t h
theorem tks_len (l:List UInt8):∀ f fr a,(tks l f fr a).length≤2 * f+1:=by
 intro f;have ho:∀ x:List UInt8,(ownT x).length≤1:=fun x=>by unfold ownT;split <;> simp
 induction f with
 | zero=>intro fr a;exact ho _
 | succ f ih =>
   intro fr a;rw [tks];split
   · split
     · have:=ih fr (a+1);omega
     · have:=ih (a+(find l a).2) (a+(find l a).2);have h2:=ho ((l.take a).drop fr);rw [List.length_append,List.length_cons];omega
   · have:=ho ((l.take a).drop fr);omega
end Go.Proofs.YtgfinhehgfbdgaaGreatDoor
namespace Go.Proofs.YtgfinhehgfbdgaaGreatDoor
open Go.RowKit
set_option maxRecDepth 100000 in
theorem clone_s (s:ByteArray) (w:World) (hs:s.size≤140737488351232) :
   Calls Tryz.prog 145 #[.string s] w fun e w'=>e=.returned (.string s)∧Below w.heap.size w w':=by
 go_enter Tryz.func145,Tryz.ntmps145
 go_wp2_with fail
 refine (Tryz.stringslite_Clone s _ (by omega)).mono ?_;rintro r w1 ⟨rfl,hb1⟩;have HB:=Lib.hid hb1;clear hb1;go_wp2;go_ret;exact ⟨rfl,HB.out⟩
end Go.Proofs.YtgfinhehgfbdgaaGreatDoor
namespace Go.Proofs.YtgfinhehgfbdgaaGreatDoor
open Go.RowKit
theorem bldSize:(Tryz.prog.info? 150).map (·.size)=some 2:=by kernel_rfl
theorem bldLies:liesAt Tryz.prog Tryz.prog.depth 150 (2 / Tryz.prog.cellsOf 150) 0 150 1=true:=by kernel_rfl
def isBld (w:World) (B b:Nat) (l:List UInt8):Prop:=Lib.IsBuilder 150 5 B b (Lib.byteCells l) w
theorem bld_new (w:World) (B:Nat) (h:B≤w.heap.size):isBld (w.alloc (.cells #[.pointer none,.slice none 0 0] 150)) B w.heap.size [] :=
 .inl ⟨h,.slice none 0 0,heap_alloc_new w _,World.ownsRow_nil _ _ _ _,by simp [Value.ownBlock]⟩
theorem isBld.below {w w':World} {B b:Nat} {l:List UInt8} (h:isBld w B b l) (hb:Below w.heap.size w w'):isBld w' B b l:=by
 have hone:∀ {p:Value},Lib.BuilderAt 150 5 B b p (Lib.byteCells l) w→Lib.BuilderAt 150 5 B b p (Lib.byteCells l) w':=by
   intro p h;have hlt:=h.lt;obtain ⟨hB,v,hbk,hown,hne⟩:=h;refine ⟨hB,v,(hb.block b hlt).trans hbk,?_,hne⟩;refine World.ownsRow.kept hown (row:=none) ⟨hb.os,hb.tape,hb.output,hb.size,fun k hk _=>hb.block k hk⟩ ?_;cases hv:v.ownBlock with
   | none=>exact .inl rfl
   | some g=>exact .inr (by simp)
 rcases h with h | h
 · exact .inl (hone h)
 · exact .inr (hone h)
theorem isBld.alloc {w:World} {B b:Nat} {l:List UInt8} (h:isBld w B b l) (o:Obj):isBld (w.alloc o) B b l:=h.below ((Below.refl _ _).alloc (Nat.le_refl _) _)
set_option maxRecDepth 100000 in
set_option maxHeartbeats 1000000 in
theorem copy_used (b:Nat) (w:World) (h0:w.cell? ⟨b,0,none⟩=some (.pointer (some ⟨b,0,none⟩))) :
   Calls Tryz.prog 168 #[.pointer (some ⟨b,0,none⟩)] w fun e w'=>e=.returned (.tuple #[])∧w'=w:=by
 obtain ⟨j,hj,_⟩:=Option.map_eq_some_iff.1 bldSize;go_enter Tryz.func168,Tryz.ntmps168
 go_wp2;rw [Lib.run_neq_ptr_same w _ Tryz.underlying148 hj];go_wp2
 go_end0
 exact ⟨rfl,rfl⟩
set_option maxRecDepth 100000 in
set_option maxHeartbeats 1000000 in
theorem copy_fresh (b:Nat) (w:World) (h0:w.cell? ⟨b,0,none⟩=some (.pointer none)) (hsh:w.shape? b=some (150,2)) (hfz:w.frozen? ⟨b,0,none⟩=false) :
   Calls Tryz.prog 168 #[.pointer (some ⟨b,0,none⟩)] w fun e w'=>e=.returned (.tuple #[])∧w'=w.setCell ⟨b,0,none⟩ (.pointer (some ⟨b,0,none⟩)):=by
 obtain ⟨j,hj,hjs⟩:=Option.map_eq_some_iff.1 bldSize;go_enter Tryz.func168,Tryz.ntmps168
 go_wp2;rw [Lib.run_to_unsafe w ⟨b,0,none⟩ Tryz.underlying148 Tryz.underlying169 hj (by rw [hjs];decide) hsh (Nat.zero_lt_succ 1)];simp only [Result.andThen]
 rw [Oper.upon_value];go_wp2;rw [run_callFunc_extern Tryz.func198 (by kernel_rfl) (by kernel_rfl) (by kernel_rfl) (e:=Extern.AbiNoEscape.same) (by kernel_rfl)];rw [Lib.run_noEscape];simp only [Result.andThen]
 rw [Oper.upon_value];go_wp2;rw [Lib.run_from_unsafe w ⟨b,0,none⟩ Tryz.underlying169 Tryz.underlying148 hj hsh bldLies];simp only [Result.andThen]
 rw [Oper.upon_value];go_wp2
 go_end0
 exact ⟨rfl,rfl⟩
theorem copy_any (B b:Nat) (l:List UInt8) (w:World) (h:isBld w B b l) :
   Calls Tryz.prog 168 #[.pointer (some ⟨b,0,none⟩)] w fun e w'=>e=.returned (.tuple #[])∧Lib.BuilderAt 150 5 B b (.pointer (some ⟨b,0,none⟩)) (Lib.byteCells l) w'∧Below B w w':=by
 rcases h with h | h
 · refine (copy_fresh b w h.cell0 h.shape h.frozen0).mono ?_;rintro e w' ⟨rfl,rfl⟩;exact ⟨rfl,h.used _,(Below.refl B w).setCell (p:=⟨b,0,none⟩) h.1 _⟩
 · refine (copy_used b w h.cell0).mono ?_;rintro e w' ⟨rfl,rfl⟩;exact ⟨rfl,h,Below.refl B _⟩
set_option maxRecDepth 100000 in
set_option maxHeartbeats 2000000 in
theorem bld_write (B b:Nat) (l:List UInt8) (s:ByteArray) (w:World) (h:isBld w B b l) (hlen:l.length+s.size≤140737488355328) (hBw:B≤w.heap.size) :
   Calls Tryz.prog 122 #[.pointer (some ⟨b,0,none⟩),.string s] w fun e w'=>e=.returned (.tuple #[.int .i64 s.size,.nilIface])∧isBld w' B b (l++s.data.toList)∧Below B w w':=by
 obtain ⟨i0,hi,hz0,hz1,hz2⟩:=info_parts info_u8;have hbl:(Lib.byteCells l).length=l.length:=by simp [Lib.byteCells]
 go_enter Tryz.func122,Tryz.ntmps122
 go_wp2_with fail
 refine (copy_any B b l _ h).mono ?_;rintro e w1 ⟨rfl,h1,hb1⟩;obtain ⟨hB,v,hbk,hown,hne⟩:=h1;have c0:w1.cell? ⟨b,0,none⟩=some (.pointer (some ⟨b,0,none⟩)):=by rw [Lib.cell_of_heap hbk];rfl
 have c1:w1.cell? ⟨b,1,none⟩=some v:=by rw [Lib.cell_of_heap hbk];rfl
 go_wp2_with (at_builtin;refine Lib.wpList_append_own_string _ rfl _ _ 56 9 rfl B 5 i0 Tryz.underlying56 Tryz.underlying9 hi hz0 hz1 hz2 _ _ _ rfl hown s rfl ?c3 ?c4 ?c5 ?_)
 case c3=>rw [hbl];unfold maxLen;omega
 case c4=>rw [hbl];omega
 case c5=>have:=hb1.size;omega
 intro v' w2 hown' hgrow _;have hlt:b<w1.heap.size:=by
   rcases Nat.lt_or_ge b w1.heap.size with h' | h'
   · exact h'
   · simp [Array.getElem?_eq_none h'] at hbk
 have hb2:w2.heap[b]? = some (.cells #[.pointer (some ⟨b,0,none⟩),v] 150 (0,0)):=by
   rw [hgrow.block b hlt (fun e=>hne e.symm)];exact hbk
 have d0:w2.cell? ⟨b,0,none⟩=some (.pointer (some ⟨b,0,none⟩)):=by rw [Lib.cell_of_heap hb2];rfl
 have d1:w2.cell? ⟨b,1,none⟩=some v:=by rw [Lib.cell_of_heap hb2];rfl
 have f1:w2.frozen? ⟨b,1,none⟩=false:=Lib.frozen_of_heap hb2 1;obtain ⟨ao,n',cap,rfl⟩:∃ ao n' cap,v'=.slice ao n' cap:=by
   rcases hown'.2 with ⟨hv,_⟩ | ⟨g,cap,cur,hv,_⟩
   · exact ⟨_,_,_,hv⟩
   · exact ⟨_,_,_,hv⟩
 have HO:Hid (w2.ownsRow B 5 1 (.slice ao n' cap) (Lib.byteCells (l++s.data.toList)).length (Lib.byteCells (l++s.data.toList))):=by
   have h:w2.ownsRow B 5 1 (.slice ao n' cap) (Lib.byteCells (l++s.data.toList)).length (Lib.byteCells (l++s.data.toList)):=by
     have e:Lib.byteCells (l++s.data.toList)=Lib.byteCells l++Lib.strCells s:=by simp [Lib.byteCells,Lib.strCells]
     rw [e,List.length_append,Lib.strCells_length,hbl];exact hown'
   exact h
 clear hown';go_wp2;go_ret2;refine ⟨rfl,.inr ?_,?_⟩
 · exact Lib.BuilderAt.put (T:=150) (e:=5) hB hb2 HO.out (by decide)
 · exact (hb1.grown hgrow (by have:=hb1.size;omega) (fun k hk=>(hown.lt k hk).1)).setCell (p:=⟨b,1,none⟩) hB _
theorem bld_string (B b:Nat) (l:List UInt8) (w:World) (h:isBld w B b l) (hBw:B≤w.heap.size) :
   Calls Tryz.prog 120 #[.pointer (some ⟨b,0,none⟩)] w fun e w'=>e=.returned (.string ⟨l.toArray⟩)∧Below B w w' :=
 Tryz.Builder_String_any B b l w h hBw
end Go.Proofs.YtgfinhehgfbdgaaGreatDoor
namespace Go.Proofs.YtgfinhehgfbdgaaGreatDoor
def opnF (s:List UInt8):Nat×List UInt8×Nat :=
 if s.length<8 then (0,[],7) else if s.take 2≠[80,84] then (0,[],5)
 else if (s.getD 2 0).toNat<1∨3<(s.getD 2 0).toNat then (0,[],8)
 else if (openL s).2≠0 then (0,[],(openL s).2)
 else ((s.getD 2 0).toNat,(openL s).1.drop 3,0)
theorem opn_few {s:List UInt8} (h:s.length<8):opnF s=(0,[],7):=by unfold opnF;rw [if_pos h]
theorem opn_name {s:List UInt8} (h:¬ s.length<8) (h1:s.take 2≠[80,84]):opnF s=(0,[],5):=by unfold opnF;rw [if_neg h,if_pos h1]
theorem opn_none {s:List UInt8} (h:¬ s.length<8) (h1:s.take 2=[80,84]) (h2:(s.getD 2 0).toNat<1∨3<(s.getD 2 0).toNat):opnF s=(0,[],8):=by
 unfold opnF;rw [if_neg h,if_neg (by simpa using h1),if_pos h2]
theorem opn_spoilt {s:List UInt8} {e:Nat} (h:¬ s.length<8) (h1:s.take 2=[80,84]) (h2:¬ ((s.getD 2 0).toNat<1∨3<(s.getD 2 0).toNat)) (h3:(openL s).2=e) (he:e≠0):opnF s=(0,[],e):=by
 unfold opnF;rw [if_neg h,if_neg (by simpa using h1),if_neg h2,if_pos (by rw [h3];exact he),h3]
theorem opn_ok {s:List UInt8} (h:¬ s.length<8) (h1:s.take 2=[80,84]) (h2:¬ ((s.getD 2 0).toNat<1∨3<(s.getD 2 0).toNat)) (h3:(openL s).2=0):opnF s=((s.getD 2 0).toNat,(openL s).1.drop 3,0):=by
 unfold opnF;rw [if_neg h,if_neg (by simpa using h1),if_neg h2,if_neg (by rw [h3];simp)]
theorem openL_few {l o:List UInt8} (h:openL l=(o,0)):o.length=l.length-4:=by
 unfold openL at h;split at h
 · injection h with _ h;cases h
 · split at h
   · injection h with h _;rw [←h,List.length_take];omega
   · injection h with _ h;cases h
theorem opn_pos {s i:List UInt8} {v:Nat} (h:opnF s=(v,i,0)):1≤i.length∧i.length≤s.length:=by
 by_cases h0:s.length<8
 · rw [opn_few h0] at h;injection h with _ h;injection h with _ h;cases h
 · by_cases h1:s.take 2=[80,84]
   · by_cases h2:(s.getD 2 0).toNat<1∨3<(s.getD 2 0).toNat
     · rw [opn_none h0 h1 h2] at h;injection h with _ h;injection h with _ h;cases h
     · by_cases h3:(openL s).2=0
       · rw [opn_ok h0 h1 h2 h3] at h;injection h with _ h
         injection h with h _
         have h4:=openL_few (l:=s) (o:=(openL s).1) (by rw [←h3]);rw [←h,List.length_drop,h4];omega
       · rw [opn_spoilt h0 h1 h2 rfl h3] at h;injection h with _ h;injection h with _ h;exact absurd h h3
   · rw [opn_name h0 h1] at h;injection h with _ h;injection h with _ h;cases h
end Go.Proofs.YtgfinhehgfbdgaaGreatDoor
namespace Go.Proofs.YtgfinhehgfbdgaaGreatDoor
open Go.RowKit
theorem ret_u32 {a b:Int} (h:a=b):Ending.returned (.int .u32 a)=.returned (.int .u32 b):=by rw [h]
theorem and_one (n:Nat) (h:n<4294967296):bits .and .u32 (n:Int) 1=((n % 2:Nat):Int):=by
 rw [show (1:Int)=((1:Nat):Int) from rfl,u32_and_nat n 1 h (by decide),Nat.and_one_is_mod]
theorem and_one_yes {n:Nat} (h:n<4294967296) (ht:(bits .and .u32 (n:Int) 1 == 1)=true):n % 2=1:=by
 rw [and_one n h] at ht;have:=eq_of_beq ht;omega
theorem and_one_no {n:Nat} (h:n<4294967296) (ht:(bits .and .u32 (n:Int) 1 == 1)=false):n % 2≠1:=by
 intro e;rw [and_one n h,e] at ht;exact absurd ht (by decide)
theorem half_cast (n:Nat):(n:Int) / 2=((n / 2:Nat):Int):=by omega
theorem st_yes {n:Nat} (h:n<4294967296) (ht:n % 2=1):bits .xor .u32 ((n:Int) / 2) 2197175160=(st n:Nat):=by
 rw [st_odd ht,half_cast,show (2197175160:Int)=((2197175160:Nat):Int) from rfl,u32_xor_nat _ _ (by omega) (by omega)]
theorem st_no {n:Nat} (ht:n % 2≠1):(n:Int) / 2=(st n:Nat):=by
 rw [st_even ht,half_cast]
end Go.Proofs.YtgfinhehgfbdgaaGreatDoor
namespace Go.Proofs.YtgfinhehgfbdgaaGreatDoor
def cyc (p:List UInt8) (n:Nat):List UInt8:=(List.range n).map fun j=>p.getD (j % p.length) 0
theorem cyc_len (p:List UInt8) (n:Nat):(cyc p n).length=n:=by simp [cyc]
theorem cyc_take (p:List UInt8) (m n:Nat) (h:n≤m):(cyc p m).take n=cyc p n:=by
 unfold cyc;rw [←List.map_take,List.take_range,Nat.min_eq_left h]
theorem cyc_succ (p:List UInt8) (n:Nat):cyc p (n+1)=cyc p n++[p.getD (n % p.length) 0]:=by
 unfold cyc;rw [List.range_succ,List.map_append];rfl
theorem cyc_self (p:List UInt8):cyc p p.length=p:=by
 apply List.ext_getElem
 · exact cyc_len _ _
 · intro i h1 h2;simp only [cyc,List.getElem_map,List.getElem_range]
   rw [Nat.mod_eq_of_lt h2];simp [h2]
theorem cyc_dbl (p:List UInt8) (q:Nat):cyc p (p.length * q+p.length * q)=cyc p (p.length * q)++cyc p (p.length * q):=by
 unfold cyc;rw [List.range_add,List.map_append,List.map_map]
 congr 1
 apply List.map_congr_left
 intro j _;simp only [Function.comp_apply]
 rw [Nat.add_comm,Nat.add_mul_mod_self_left]
theorem cyc_at (p:List UInt8) (n j:Nat) (h:j<n):(cyc p n).getD j 0=p.getD (j % p.length) 0:=by
 unfold cyc;simp [h]
theorem repL_snoc (b:List UInt8) (k n:Nat):repL b k (n+1)=repL b k n++[(repL b k n).getD ((repL b k n).length-k) 0]:=by
 induction n generalizing b with
 | zero=>rfl
 | succ n ih =>
   have h1:repL b k (n+2)=repL (b++[b.getD (b.length-k) 0]) k (n+1):=rfl;have h2:repL b k (n+1)=repL (b++[b.getD (b.length-k) 0]) k n:=rfl;rw [h1,ih,h2]
theorem repL_cyc (b:List UInt8) (k n:Nat) (h1:1≤k) (h2:k≤b.length):repL b k n=b++cyc (b.drop (b.length-k)) n:=by
 have hp:(b.drop (b.length-k)).length=k:=by rw [List.length_drop];omega
 induction n with
 | zero=>simp [repL,cyc]
 | succ n ih =>
   rw [repL_snoc,ih,cyc_succ,←List.append_assoc]
   congr 2
   rw [List.length_append,cyc_len,hp];by_cases h:n<k
   · rw [Nat.mod_eq_of_lt h,List.getD_eq_getElem?_getD,List.getElem?_append_left (by omega),List.getD_eq_getElem?_getD,List.getElem?_drop]
     congr 2
     omega
   · rw [List.getD_eq_getElem?_getD,List.getElem?_append_right (by omega),←List.getD_eq_getElem?_getD,cyc_at _ _ _ (by omega),hp,show b.length+n-k-b.length=n-k by omega]
     congr 1
     exact (Nat.mod_eq_sub_mod (by omega)).symm
end Go.Proofs.YtgfinhehgfbdgaaGreatDoor
namespace Go.Proofs.YtgfinhehgfbdgaaGreatDoor
open Go.RowKit
theorem ofF_dropI {l:List Ent} {k:Nat} {t:Ent} (h:l[k]? = some t) (x:Int):ofF (l.drop k) x=if t.rep=x then t.time else ofF (l.drop (k+1)) x:=by
 obtain ⟨hk,ht⟩:=List.getElem?_eq_some_iff.1 h;rw [List.drop_eq_getElem_cons hk,ht];rfl
set_option maxRecDepth 100000 in
set_option maxHeartbeats 2000000 in
theorem vofI_any (v:Value) (l:List Ent) (x:Int) (w:World) (hv:IsEnts w v l) (hl:l.length≤9223372036854775807) :
   Calls Tryz.prog 156 #[v,.int .i64 x] w fun r w'=>r=.returned (.int .i64 (ofF l x))∧Below w.heap.size w w':=by
 obtain ⟨a1,c1,rfl,f1⟩:=hv.form;have F1:=Lib.hid f1;obtain ⟨n,hn⟩:∃ n,n=l.length:=⟨_,rfl⟩;rw [←hn] at hl ⊢;have HN:=Lib.hid hn;clear hv f1 hn;go_enter Tryz.func156,Tryz.ntmps156
 go_wp2
 go_loopw [9] (fun i wr=>∃ k:Nat,k≤n∧i=.int .i64 k∧ofF l x=ofF (l.drop k) x∧Below w.heap.size w wr) (fun i _=>n-(intOf i).toNat)
 case atStart=>exact ⟨0,by omega,rfl,rfl,Below.refl _ _⟩
 case round =>
   obtain ⟨k,hk,rfl,heq,hbel⟩:=hrel;have HEQ:=Lib.hid heq;have HB:=Lib.hid hbel;have hzr:=hbel.size;clear heq hbel;by_cases hlt:k<n
   · obtain ⟨t, ht⟩ : ∃ t, l[k]? = some t := ⟨l[k]'(by have := HN.out; omega), List.getElem?_eq_getElem _⟩;obtain ⟨b1,o1,rfl,hb1,p0,p1⟩:=F1.out k t ht;have hd:=ofF_dropI ht x;obtain ⟨rep,time⟩:=t;simp only at p0 p1 hd
     have q0:=(HB.out.cell (p:=⟨b1,o1+k * 2,none⟩) hb1).trans p0;have q1:=(HB.out.cell (p:=⟨b1,o1+k * 2+1,none⟩) hb1).trans p1;by_cases hx:rep=x
     · have HW:Hid (ofF l x=time):=Lib.hid (show ofF l x=time by rw [HEQ.out,hd,if_pos hx]);clear p0 p1 ht hd;subst hx;go_wp2;go_ret;exact ⟨by rw [HW.out];rfl,HB.out.alloc hzr _⟩
     · have HW:Hid (ofF l x=ofF (l.drop (k+1)) x):=Lib.hid (show ofF l x=ofF (l.drop (k+1)) x by rw [HEQ.out,hd,if_neg hx]);have bx:(rep == x)=false:=by simpa using hx
       clear p0 p1 ht hd;go_wp2;go_roundw
       case rel=>exact ⟨k+1,by omega,by go_num,HW.out,HB.out.alloc hzr _⟩
       case measure=>simp [intOf];omega
   · have HW:Hid (ofF l x=0):=Lib.hid (show ofF l x=0 by rw [HEQ.out,List.drop_eq_nil_of_le (by have:=HN.out;omega)];rfl);go_wp2;go_ret;exact ⟨by rw [HW.out];rfl,HB.out⟩
set_option maxRecDepth 100000 in
set_option maxHeartbeats 2000000 in
theorem rofI_any (v:Value) (l:List Ent) (x:Int) (w:World) (hv:IsEnts w v l) (hl:l.length≤9223372036854775807) :
   Calls Tryz.prog 178 #[v,.int .i64 x] w fun r w'=>r=.returned (.int .i64 (ofF l x))∧w=w':=by
 obtain ⟨a1,c1,rfl,f1⟩:=hv.form;have F1:=Lib.hid f1;obtain ⟨n,hn⟩:∃ n,n=l.length:=⟨_,rfl⟩;rw [←hn] at hl ⊢;have HN:=Lib.hid hn;clear hv f1 hn;go_enter Tryz.func178,Tryz.ntmps178
 go_wp2
 go_loop [8] (fun i=>∃ k:Nat,k≤n∧i=.int .i64 k∧ofF l x=ofF (l.drop k) x) (fun i=>n-(intOf i).toNat)
 case atStart=>exact ⟨0,by omega,rfl,rfl⟩
 case round =>
   obtain ⟨k,hk,rfl,heq⟩:=hrel;have HEQ:=Lib.hid heq;clear heq;by_cases hlt:k<n
   · obtain ⟨t, ht⟩ : ∃ t, l[k]? = some t := ⟨l[k]'(by have := HN.out; omega), List.getElem?_eq_getElem _⟩;obtain ⟨b1,o1,rfl,hb1,p0,p1⟩:=F1.out k t ht;have hd:=ofF_dropI ht x;obtain ⟨rep,time⟩:=t;simp only at p0 p1 hd
     by_cases hx:rep=x
     · have HW:Hid (ofF l x=time):=Lib.hid (show ofF l x=time by rw [HEQ.out,hd,if_pos hx]);clear ht hd;subst hx;go_wp2;go_ret;exact ⟨by rw [HW.out];rfl,rfl⟩
     · have HW:Hid (ofF l x=ofF (l.drop (k+1)) x):=Lib.hid (show ofF l x=ofF (l.drop (k+1)) x by rw [HEQ.out,hd,if_neg hx]);have bx:(rep == x)=false:=by simpa using hx
       clear ht hd;go_wp2
       go_round
       case rel=>exact ⟨k+1,by omega,by go_num,HW.out⟩
       case measure=>simp [intOf];omega
   · have HW:Hid (ofF l x=0):=Lib.hid (show ofF l x=0 by rw [HEQ.out,List.drop_eq_nil_of_le (by have:=HN.out;omega)];rfl);go_wp2;go_ret;exact ⟨by rw [HW.out];rfl,rfl⟩
theorem vofI_as (v:Value) (l:List Ent) (x y:Int) (w:World) (hv:IsEnts w v l) (hl:l.length≤9223372036854775807) (h:ofF l x=y) :
   Calls Tryz.prog 156 #[v,.int .i64 x] w fun r w'=>r=.returned (.int .i64 y)∧Below w.heap.size w w':=by
 subst h;exact vofI_any v l x w hv hl
theorem rofI_q (v:Value) (l:List Ent) (x y:Int) (w:World) (n:Nat) (hv:IsEnts w v l) (hl:l.length≤9223372036854775807) (h:ofF l x=y) :
   Calls Tryz.prog 178 #[v,.int .i64 x] (w.drewN n) fun r w'=>r=.returned (.int .i64 y)∧∃ m,w'=w.drewN m :=
 (rofI_any v l x (w.drewN n) (hv.drewN n) hl).mono fun _ _ ⟨h1,h2⟩=>⟨by rw [h1,h],n,h2.symm⟩
end Go.Proofs.YtgfinhehgfbdgaaGreatDoor
