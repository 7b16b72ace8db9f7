import Derived.Test.YtgfinhehgfbdgaaGreatDoorKa00
import Derived.Test.YtgfinhehgfbdgaaGreatDoorRows
import Derived.WalkKit
import Derived.Handy
import Derived.Lib.Hide
import Derived.Lib.Strings
import Derived.Laws.BitsAllLaws
import Derived.Test.YtgfinhehgfbdgaaGreatDoorKa03
import Derived.Test.YtgfinhehgfbdgaaGreatDoorKa01
import Derived.Test.YtgfinhehgfbdgaaGreatDoorProg
import Derived.KernelRfl
import Derived.Below
import Derived.Outline
import Derived.Lib.Builder
import Derived.Lib.AppendStr
import Derived.Lib.UnsafeStr
import Derived.Laws.Externs
namespace Go.Proofs.YtgfinhehgfbdgaaGreatDoor
open Go.RowKit
def errV (e:Nat):Value:=if e=0 then .nilIface else .iface 27 (.int .i64 e)
def numV (r:Nat×Nat×Nat):Value:=.tuple #[.int .u64 r.1,.int .i64 r.2.1,errV r.2.2]
theorem pow128 (k:Nat):(2:Nat) ^ (7 * k)=128 ^ k:=by rw [Nat.pow_mul]
theorem or_shift (acc x k:Nat) (ha:acc < 128 ^ k) (hx:x < 128) (hk:k≤9) (h9:k=9→x≤1) :
   bits .or .u64 (acc:Int) (IntKind.u64.wrap ((x:Int) * 2 ^ (7 * k)))=((acc + x * 128 ^ k:Nat):Int)∧acc + x * 128 ^ k < 18446744073709551616:=by
 have hb:acc + x * 128 ^ k < 18446744073709551616:=by
   by_cases h:k=9
   · subst h;have:=h9 rfl;rw [pow9] at ha ⊢;omega
   · have hp:128 ^ k≤128 ^ 8:=Nat.pow_le_pow_right (by decide) (by omega)
     have h8:128 ^ 8=72057594037927936:=by decide
     have:=Nat.mul_le_mul (show x≤127 by omega) hp
     omega
 refine ⟨?_,hb⟩
 have e1:((x:Int) * 2 ^ (7 * k))=((x * 128 ^ k:Nat):Int):=by
   rw [←pow128,Int.natCast_mul,Int.natCast_pow];rfl
 rw [e1,IntWalk.u64_in _ ⟨by omega,by omega⟩,u64_or_nat _ _ (by omega) (by omega),←pow128]
 congr 1
 rw [Nat.add_comm,Nat.mul_comm x,Nat.two_pow_add_eq_or_of_lt (by rw [pow128];exact ha),Nat.or_comm]
theorem num_ret {l:List UInt8} {n k e:Nat} {a b:Int} {v:Value} (h:getL l=(n,k,e)) (ha:a=n) (hb:b=k) (hv:v=errV e) :
   Ending.returned (.tuple #[.int .u64 a,.int .i64 b,v])=.returned (numV (getL l)):=by
 rw [h,ha,hb,hv];rfl
theorem getL_of_bad {l:List UInt8} {e:Nat} (h:scan 0 l=.inl e):getL l=(0,0,e):=by unfold getL;rw [h]
theorem getL_of_ok {l:List UInt8} {k:Nat} (h:scan 0 l=.inr k):getL l=(valL (l.take k),k,0):=by unfold getL;rw [h]
theorem scan_at (s:ByteArray) (k:Nat) (h:k < s.size):scan k (s.data.toList.drop k)=if k=9∧1 < s[k].toNat then .inl 4 else if 0 < k∧s[k].toNat=0 then .inl 3 else if s[k].toNat < 128 then .inr (k + 1) else scan (k + 1) (s.data.toList.drop (k + 1)) :=
 scan_drop s.data.toList k (by simpa using h)
theorem val_at (s:ByteArray) (k:Nat) (h:k < s.size) (hk:k≤9) (h9:k=9→s[k].toNat≤1) :
   bits .or .u64 ((valL (s.data.toList.take k):Nat):Int) (IntKind.u64.wrap ((s[k].toNat:Int) % 128 * 2 ^ (7 * k)))=((valL (s.data.toList.take (k + 1)):Nat):Int):=by
 have h':k < s.data.toList.length:=by simpa using h
 have hl:=valL_lt (s.data.toList.take k)
 rw [List.length_take,Nat.min_eq_left (by omega)] at hl
 have hm:s[k].toNat % 128 < 128:=Nat.mod_lt _ (by decide)
 have:=(or_shift _ (s[k].toNat % 128) k hl hm hk (by intro e;have:=h9 e;omega)).1
 rw [valL_take_succ _ _ h']
 exact this
theorem val_at9 (s:ByteArray) (h:9 < s.size) (h9:s[9].toNat≤1) :
   bits .or .u64 ((valL (s.data.toList.take 9):Nat):Int) ((s[9].toNat:Int) % 128 * 9223372036854775808)=((valL (s.data.toList.take 10):Nat):Int):=by
 rw [←val_at s 9 h (by omega) (fun _=>h9)]
 congr 1
 rw [show (2:Int) ^ (7 * 9)=9223372036854775808 by decide,IntWalk.u64_in _ ⟨by omega,by omega⟩]
set_option maxRecDepth 100000 in
set_option maxHeartbeats 1000000 in
theorem get_any (s:ByteArray) (w:World) (hs:s.size≤maxLen) :
   Calls Tryz.prog 146 #[.string s] w fun e w'=>e=.returned (numV (getL s.data.toList))∧w=w':=by
 unfold maxLen at hs
 go_enter Tryz.func146,Tryz.ntmps146
 go_wp2
 go_loop [5,10] (fun n i=>∃ k:Nat,k≤s.size∧k≤9∧i=.int .i64 k∧n=.int .u64 (valL (s.data.toList.take k))∧scan 0 s.data.toList=scan k (s.data.toList.drop k)) (fun _ i=>s.size - (intOf i).toNat)
 case atStart=>exact ⟨0,Nat.zero_le _,Nat.zero_le _,rfl,rfl,rfl⟩
 case round =>
   obtain ⟨k,hk,hk9,rfl,rfl,hsc⟩:=hrel
   have HSC:=Lib.hid hsc
   clear hsc
   by_cases hlt:k < s.size
   · by_cases h9:k=9
     · subst h9
       go_wp2
       · have h1:1 < (s[9].toNat:Int):=by assumption
         go_ret3
         exact ⟨num_ret (getL_of_bad (by rw [HSC.out,scan_at s 9 hlt,if_pos ⟨rfl,by omega⟩])) rfl rfl rfl,rfl⟩
       · have h1:(s[9].toNat:Int)≤1:=by assumption
         have h2:((s[9].toNat:Int) == 0)=true:=by assumption
         have h2':s[9].toNat=0:=by have:=eq_of_beq h2;omega
         go_ret3
         exact ⟨num_ret (getL_of_bad (by rw [HSC.out,scan_at s 9 hlt,if_neg (by omega),if_pos ⟨by omega,h2'⟩])) rfl rfl rfl,rfl⟩
       · have h1:(s[9].toNat:Int)≤1:=by assumption
         have h2:((s[9].toNat:Int) == 0)=false:=by assumption
         have h2':s[9].toNat≠0:=by intro h;rw [h] at h2;exact absurd h2 (by decide)
         go_ret3
         exact ⟨num_ret (getL_of_ok (by rw [HSC.out,scan_at s 9 hlt,if_neg (by omega),if_neg (by omega),if_pos (by omega)])) (val_at9 s hlt (by omega)) rfl rfl,rfl⟩
     · have hb:((k:Int) == 9)=false:=by simp;omega
       have H9:=Lib.hid h9
       clear h9
       go_wp2
       · have h1:0 < k:=by assumption
         have h2:((s[k].toNat:Int) == 0)=true:=by assumption
         have h2':s[k].toNat=0:=by have:=eq_of_beq h2;omega
         go_ret3
         exact ⟨num_ret (getL_of_bad (by rw [HSC.out,scan_at s k hlt,if_neg (by intro h;exact H9.out h.1),if_pos ⟨h1,h2'⟩])) rfl rfl rfl,rfl⟩
       · have h2:((s[k].toNat:Int) == 0)=false:=by assumption
         have h2':s[k].toNat≠0:=by intro h;rw [h] at h2;exact absurd h2 (by decide)
         have h3:(s[k].toNat:Int) < 128:=by assumption
         go_ret3
         exact ⟨num_ret (getL_of_ok (by rw [HSC.out,scan_at s k hlt,if_neg (by intro h;exact H9.out h.1),if_neg (by intro h;exact h2' h.2),if_pos (by omega)])) (val_at s k hlt hk9 (fun h=>absurd h H9.out)) rfl rfl,rfl⟩
       · have h2:((s[k].toNat:Int) == 0)=false:=by assumption
         have h2':s[k].toNat≠0:=by intro h;rw [h] at h2;exact absurd h2 (by decide)
         have h3:128≤(s[k].toNat:Int):=by assumption
         go_round
         case rel=>exact ⟨k + 1,by omega,by have:=H9.out;omega,by go_num,by rw [val_at s k hlt hk9 (fun h=>absurd h H9.out)],by rw [HSC.out,scan_at s k hlt,if_neg (by intro h;exact H9.out h.1),if_neg (by intro h;exact h2' h.2),if_neg (by omega)]⟩
         case measure=>simp [intOf];omega
       · have h1:¬ 0 < k:=by assumption
         have h3:(s[k].toNat:Int) < 128:=by assumption
         go_ret3
         exact ⟨num_ret (getL_of_ok (by rw [HSC.out,scan_at s k hlt,if_neg (by intro h;exact H9.out h.1),if_neg (by omega),if_pos (by omega)])) (val_at s k hlt hk9 (fun h=>absurd h H9.out)) rfl rfl,rfl⟩
       · have h1:¬ 0 < k:=by assumption
         have h3:128≤(s[k].toNat:Int):=by assumption
         go_round
         case rel=>exact ⟨k + 1,by omega,by omega,by go_num,by rw [val_at s k hlt hk9 (fun h=>absurd h H9.out)],by rw [HSC.out,scan_at s k hlt,if_neg (by intro h;exact H9.out h.1),if_neg (by omega),if_neg (by omega)]⟩
         case measure=>simp [intOf];omega
   · go_wp2
     go_ret3
     exact ⟨num_ret (getL_of_bad (by rw [HSC.out,List.drop_eq_nil_of_le (by simp;omega),scan])) rfl rfl rfl,rfl⟩
end Go.Proofs.YtgfinhehgfbdgaaGreatDoor
namespace Go.Proofs.YtgfinhehgfbdgaaGreatDoor
open Go.RowKit
def hiB (m:Nat):UInt8:=UInt8.ofNat (m % 128 + 128)
theorem high_byte (m:Nat):bits .or .u8 ((m:Int) % 256) 128=((hiB m).toNat:Int):=by
 unfold hiB
 have e:(m:Int) % 256=((m % 256:Nat):Int):=by omega
 rw [e,show (128:Int)=((128:Nat):Int) from rfl,u8_or_nat _ _ (by omega) (by omega),toNat_ofNat_lt (by omega)]
 congr 1
 have h1:m % 256=2 ^ 7 * (m / 128 % 2) + m % 128:=by omega
 rw [h1,Nat.two_pow_add_eq_or_of_lt (by omega),Nat.or_assoc,Nat.or_comm (m % 128),←Nat.or_assoc]
 have h3:2 ^ 7 * (m / 128 % 2) ||| 128=2 ^ 7 * 1:=by
   have:m / 128 % 2=0∨m / 128 % 2=1:=by omega
   rcases this with h | h <;> rw [h] <;> decide
 rw [h3,←Nat.two_pow_add_eq_or_of_lt (by omega)]
 omega
theorem make10 (w:World):(Instr.makeSlice 56 (.int .i64 0) (.int .i64 10)).run Tryz.prog w=.ok (.slice (some ⟨w.heap.size,0,none⟩) 0 10) (w.alloc (.cells #[.int .u8 0,.int .u8 0,.int .u8 0,.int .u8 0,.int .u8 0,.int .u8 0,.int .u8 0,.int .u8 0,.int .u8 0,.int .u8 0] 5)):=by kernel_rfl
set_option maxRecDepth 100000 in
set_option maxHeartbeats 1000000 in
theorem put_any (n:Int) (w:World) (h0:0≤n) (h1:n≤18446744073709551615) :
   Calls Tryz.prog 68 #[.int .u64 n] w fun e w'=>e=.returned (.string ⟨(putL n.toNat).toArray⟩)∧Below w.heap.size w w':=by
 obtain ⟨N,rfl⟩:=Int.eq_ofNat_of_zero_le h0
 rw [Int.toNat_natCast]
 have hmk:=make10
 go_enter Tryz.func68,Tryz.ntmps68
 go_wp2
 go_loopw [0,3] (fun n b wr=>∃ (m:Nat) (pre:List UInt8),n=.int .u64 m∧m≤18446744073709551615∧pre ++ putL m=putL N∧ownsB wr w.heap.size b pre∧Below w.heap.size w wr) (fun n _ _=>(intOf n).toNat)
 case atStart=>exact ⟨N,[],rfl,by omega,rfl,World.ownsRow_made w _ 10 (Nat.le_refl _) (by unfold maxLen;omega) rfl,(Below.refl _ _).alloc (Nat.le_refl _) _⟩
 case round =>
   obtain ⟨m,pre,rfl,hm,hput,hown,hbel⟩:=hrel
   have HP:=Lib.hid hput
   clear hput hmk
   have hlen:pre.length + 1≤10:=by
     have h2:=putL_le10 (n:=N) (by omega)
     rw [←HP.out,List.length_append] at h2
     have:=putL_pos m
     omega
   by_cases hlt:m < 128
   · go_wp2_with (at_builtin;refine wpList_append_byte rfl _ _ rfl w.heap.size _ pre rfl (hown.alloc _) ⟨wr.heap.size,0,none⟩ 1 rfl (m:Int) (UInt8.ofNat m) ?c1 ?c2 ?c3 ?c4 ?_)
     case c1=>simp [Addr.add]
     case c2=>rw [toNat_ofNat_lt (by omega)]
     case c3=>omega
     case c4=>have:=hbel.size;simp;omega
     · intro v' w1 hown1 hg1 _
       have hcv:=run_string_ownsB hown1
       have hb1:Below w.heap.size w w1:=(hbel.alloc hbel.size _).grown hg1 (by have:=hbel.size;simp;omega) (fun k hk=>(World.ownsRow.lt hown k hk).1)
       clear hown1 hg1
       go_wp2
       go_ret
       refine ⟨?_,hb1⟩
       have e:pre ++ [UInt8.ofNat m]=putL N:=by rw [←putL_small hlt];exact HP.out
       rw [←e];rfl
   · go_wp2_with (at_builtin;refine wpList_append_byte rfl _ _ rfl w.heap.size _ pre rfl (hown.alloc _) ⟨wr.heap.size,0,none⟩ 1 rfl (bits .or .u8 ((m:Int) % 256) 128) (hiB m) ?d1 ?d2 ?d3 ?d4 ?_)
     case d1=>simp [Addr.add]
     case d2=>exact high_byte m
     case d3=>omega
     case d4=>have:=hbel.size;simp;omega
     · intro v' w1 hown1 hg1 _
       have hb1:Below w.heap.size w w1:=(hbel.alloc hbel.size _).grown hg1 (by have:=hbel.size;simp;omega) (fun k hk=>(World.ownsRow.lt hown k hk).1)
       clear hg1 hown
       go_wp2
       go_roundw
       case rel=>exact ⟨m / 128,pre ++ [hiB m],by go_num,by omega,by rw [List.append_assoc,List.singleton_append,hiB,←putL_big hlt];exact HP.out,hown1,hb1⟩
       case measure=>simp [intOf];omega
end Go.Proofs.YtgfinhehgfbdgaaGreatDoor
namespace Go.Proofs.YtgfinhehgfbdgaaGreatDoor
theorem repL_take (l:List UInt8) (a b n:Nat) (h1:1≤b) (ha:b≤a) (hn:a + n≤l.length) (h:∀ j,j < n→l.getD (a + j) 0=l.getD (a + j - b) 0) :
   ∀ m,m≤n→repL (l.take (a + (n - m))) b m=l.take (a + n):=by
 intro m
 induction m with
 | zero=>intro _;rw [Nat.sub_zero];rfl
 | succ m ih =>
   intro hm
   have hlt:a + (n - (m + 1)) < l.length:=by omega
   rw [repL]
   have e:l.take (a + (n - (m + 1))) ++ [(l.take (a + (n - (m + 1)))).getD ((l.take (a + (n - (m + 1)))).length - b) 0]=l.take (a + (n - m)):=by
     rw [show a + (n - m)=a + (n - (m + 1)) + 1 by omega,List.take_succ_eq_append_getElem hlt]
     congr 2
     rw [List.length_take,Nat.min_eq_left (by omega)]
     have h2:=h (n - (m + 1)) (by omega)
     have h3:l.getD (a + (n - (m + 1))) 0=l[a + (n - (m + 1))]:=by simp [hlt]
     rw [←h3,h2,List.getD_eq_getElem?_getD,List.getD_eq_getElem?_getD,List.getElem?_take_of_lt (by omega)]
   rw [e]
   exact ih (by omega)
theorem wrongN_own (s:List UInt8) (a:Nat) (hs:s≠[]) (h:a + s.length≤20000):wrongN ⟨⟨s.toArray⟩,0,0⟩ a=0:=by
 have hz:s.length≠0:=fun e=>hs (List.length_eq_zero_iff.1 e)
 unfold wrongN
 simp only [bs_size]
 rw [if_neg hz,if_neg (by simp),if_neg (by omega)]
theorem wrongN_rep (b n a:Nat) (h1:4≤n) (h2:n≤67) (h3:1≤b) (h4:b≤1024) (h5:b≤a) (h6:a + n≤20000):wrongN (repT b n) a=0:=by
 unfold wrongN repT
 simp only
 rw [if_pos (show (⟨#[]⟩:ByteArray).size=0 from rfl),if_neg (by omega),if_neg (by omega),if_neg (by omega),if_neg (by omega)]
theorem lenT_own (s:List UInt8):lenT ⟨⟨s.toArray⟩,0,0⟩=s.length:=by unfold lenT;simp only [bs_size];rfl
theorem lenT_rep (b n:Nat):lenT (repT b n)=n:=by unfold lenT repT;simp only [Int.toNat_natCast];show 0 + n=n;omega
theorem stepT_own (b s:List UInt8):stepT b ⟨⟨s.toArray⟩,0,0⟩=b ++ s:=rfl
theorem stepT_rep (c:List UInt8) (b n:Nat):stepT c (repT b n)=repL c b n:=by
 unfold stepT repT
 simp only [Int.toNat_natCast]
 rw [List.append_nil]
theorem own_step (l:List UInt8) (fr a i:Nat) (r:List Tok) (hf:fr≤a) (ha:a≤l.length) (hl:l.length≤20000) :
   ((rightF (ownT ((l.take a).drop fr) ++ r) i fr).1=0↔(rightF r (if (l.take a).drop fr=[] then i else i + 1) a).1=0) ∧
   textL (l.take fr) (ownT ((l.take a).drop fr) ++ r)=textL (l.take a) r:=by
 by_cases hz:(l.take a).drop fr=[]
 · have e : fr = a := by
     have:=congrArg List.length hz
     rw [List.length_drop,List.length_take] at this
     simp at this;omega
   subst e
   rw [hz,ownT_nil,if_pos rfl]
   exact ⟨Iff.rfl,rfl⟩
 · have hlen:((l.take a).drop fr).length=a - fr:=by rw [List.length_drop,List.length_take,Nat.min_eq_left ha]
   rw [ownT_cons hz,if_neg hz,List.singleton_append,rightF_ok (wrongN_own _ _ hz (by omega)),lenT_own,hlen,show fr + (a - fr)=a by omega,textL]
   refine ⟨Iff.rfl,?_⟩
   rw [List.foldl_cons,stepT_own]
   have e:l.take fr=(l.take a).take fr:=by rw [List.take_take,Nat.min_eq_left hf]
   rw [e,List.take_append_drop];rfl
theorem tks_text (l:List UInt8) (hl:l.length≤20000):∀ f fr a i,fr≤a→a≤l.length→l.length≤a + f →
   (rightF (tks l f fr a) i fr).1=0∧textL (l.take fr) (tks l f fr a)=l:=by
 intro f
 have hend:∀ fr a i,fr≤a→a=l.length→(rightF (ownT ((l.take a).drop fr)) i fr).1=0∧textL (l.take fr) (ownT ((l.take a).drop fr))=l:=by
   intro fr a i h1 h2
   have h:=own_step l fr a i [] h1 (by omega) hl
   rw [List.append_nil] at h
   refine ⟨h.1.2 rfl,h.2.trans ?_⟩
   show l.take a=l
   rw [h2,List.take_length]
 induction f with
 | zero=>intro fr a i h1 h2 h3;exact hend fr a i h1 (by omega)
 | succ f ih =>
   intro fr a i h1 h2 h3
   by_cases hlt:a < l.length
   · rcases find_cases l a with ⟨hz,_⟩ | ⟨b,n,hfn,_,hb1,hb2,hb3,hn1,hn2,hn3,hsm,_⟩
     · rw [tks_step hlt (by rw [hz])]
       exact ih fr (a + 1) i (by omega) (by omega) (by omega)
     · rw [tks_rep hlt hfn (by omega)]
       have h:=own_step l fr a i (repT b n :: tks l f (a + n) (a + n)) h1 h2 hl
       rw [h.1,h.2,rightF_ok (wrongN_rep b n a hn1 hn2 hb1 hb2 hb3 (by omega)),lenT_rep]
       obtain ⟨k1,k2⟩:=ih (a + n) (a + n) ((if (l.take a).drop fr=[] then i else i + 1) + 1) (Nat.le_refl _) hn3 (by omega)
       refine ⟨k1,?_⟩
       show textL (stepT (l.take a) (repT b n)) (tks l f (a + n) (a + n))=l
       rw [stepT_rep]
       have hr:=repL_take l a b n hb1 hb3 hn3 hsm.2.1 n (Nat.le_refl _)
       rw [Nat.sub_self,Nat.add_zero] at hr
       rw [hr]
       exact k2
   · rw [tks_end hlt]
     exact hend fr a i h1 (by omega)
theorem toks_text (l:List UInt8) (hl:l.length≤20000):rightF (toks l) 0 0=(0,-1)∧textL [] (toks l)=l:=by
 have h:=tks_text l hl l.length 0 0 0 (Nat.le_refl _) (Nat.zero_le _) (by omega)
 rw [List.take_zero] at h
 exact ⟨rightF_any h.1,h.2⟩
theorem tks_own (l:List UInt8):∀ f fr a,∀ t∈tks l f fr a,t.own.size≤l.length:=by
 intro f
 have ho:∀ fr a,∀ t∈ownT ((l.take a).drop fr),t.own.size≤l.length:=fun fr a t h=>by
   unfold ownT at h
   split at h
   · cases h
   · rw [List.mem_singleton.1 h]
     simp only [bs_size,List.length_drop,List.length_take];omega
 induction f with
 | zero=>intro fr a;exact ho _ _
 | succ f ih =>
   intro fr a t h
   rw [tks] at h
   split at h
   · split at h
     · exact ih _ _ t h
     · rcases List.mem_append.1 h with h | h
       · exact ho _ _ t h
       · rcases List.mem_cons.1 h with h | h
         · rw [h];exact Nat.zero_le _
         · exact ih _ _ t h
   · exact ho _ _ t h
theorem tks_len (l:List UInt8):∀ f fr a,(tks l f fr a).length≤2 * f + 1:=by
 intro f
 have ho:∀ x:List UInt8,(ownT x).length≤1:=fun x=>by unfold ownT;split <;> simp
 induction f with
 | zero=>intro fr a;exact ho _
 | succ f ih =>
   intro fr a
   rw [tks]
   split
   · split
     · have:=ih fr (a + 1);omega
     · have:=ih (a + (find l a).2) (a + (find l a).2)
       have h2:=ho ((l.take a).drop fr)
       rw [List.length_append,List.length_cons]
       omega
   · have:=ho ((l.take a).drop fr);omega
end Go.Proofs.YtgfinhehgfbdgaaGreatDoor
namespace Go.Proofs.YtgfinhehgfbdgaaGreatDoor
open Go.RowKit
set_option maxRecDepth 100000 in
theorem clone_s (s:ByteArray) (w:World) (hs:s.size≤140737488351232) :
   Calls Tryz.prog 145 #[.string s] w fun e w'=>e=.returned (.string s)∧Below w.heap.size w w':=by
 go_enter Tryz.func145,Tryz.ntmps145
 go_wp2_with fail
 refine (Tryz.stringslite_Clone s _ (by omega)).mono ?_
 rintro r w1 ⟨rfl,hb1⟩
 have HB:=Lib.hid hb1
 clear hb1
 go_wp2
 go_ret
 exact ⟨rfl,HB.out⟩
end Go.Proofs.YtgfinhehgfbdgaaGreatDoor
namespace Go.Proofs.YtgfinhehgfbdgaaGreatDoor
open Go.RowKit
theorem bldSize:(Tryz.prog.info? 150).map (·.size)=some 2:=by kernel_rfl
theorem bldLies:liesAt Tryz.prog Tryz.prog.depth 150 (2 / Tryz.prog.cellsOf 150) 0 150 1=true:=by kernel_rfl
def isBld (w:World) (B b:Nat) (l:List UInt8):Prop:=Lib.IsBuilder 150 5 B b (Lib.byteCells l) w
theorem bld_new (w:World) (B:Nat) (h:B≤w.heap.size):isBld (w.alloc (.cells #[.pointer none,.slice none 0 0] 150)) B w.heap.size [] :=
 .inl ⟨h,.slice none 0 0,heap_alloc_new w _,World.ownsRow_nil _ _ _ _,by simp [Value.ownBlock]⟩
theorem isBld.below {w w':World} {B b:Nat} {l:List UInt8} (h:isBld w B b l) (hb:Below w.heap.size w w'):isBld w' B b l:=by
 have hone:∀ {p:Value},Lib.BuilderAt 150 5 B b p (Lib.byteCells l) w→Lib.BuilderAt 150 5 B b p (Lib.byteCells l) w':=by
   intro p h
   have hlt:=h.lt
   obtain ⟨hB,v,hbk,hown,hne⟩:=h
   refine ⟨hB,v,(hb.block b hlt).trans hbk,?_,hne⟩
   refine World.ownsRow.kept hown (row:=none) ⟨hb.os,hb.tape,hb.output,hb.size,fun k hk _=>hb.block k hk⟩ ?_
   cases hv:v.ownBlock with
   | none=>exact .inl rfl
   | some g=>exact .inr (by simp)
 rcases h with h | h
 · exact .inl (hone h)
 · exact .inr (hone h)
theorem isBld.lt {w:World} {B b:Nat} {l:List UInt8} (h:isBld w B b l):B≤b∧b < w.heap.size:=by
 rcases h with h | h
 · exact ⟨h.1,h.lt⟩
 · exact ⟨h.1,h.lt⟩
theorem isBld.alloc {w:World} {B b:Nat} {l:List UInt8} (h:isBld w B b l) (o:Obj):isBld (w.alloc o) B b l:=h.below ((Below.refl _ _).alloc (Nat.le_refl _) _)
set_option maxRecDepth 100000 in
set_option maxHeartbeats 1000000 in
theorem copy_used (b:Nat) (w:World) (h0:w.cell? ⟨b,0,none⟩=some (.pointer (some ⟨b,0,none⟩))) :
   Calls Tryz.prog 168 #[.pointer (some ⟨b,0,none⟩)] w fun e w'=>e=.returned (.tuple #[])∧w'=w:=by
 obtain ⟨j,hj,_⟩:=Option.map_eq_some_iff.1 bldSize
 go_enter Tryz.func168,Tryz.ntmps168
 go_wp2
 rw [Lib.run_neq_ptr_same w _ Tryz.underlying148 hj]
 go_wp2
 go_end0
 exact ⟨rfl,rfl⟩
set_option maxRecDepth 100000 in
set_option maxHeartbeats 1000000 in
theorem copy_fresh (b:Nat) (w:World) (h0:w.cell? ⟨b,0,none⟩=some (.pointer none)) (hsh:w.shape? b=some (150,2)) (hfz:w.frozen? ⟨b,0,none⟩=false) :
   Calls Tryz.prog 168 #[.pointer (some ⟨b,0,none⟩)] w fun e w'=>e=.returned (.tuple #[])∧w'=w.setCell ⟨b,0,none⟩ (.pointer (some ⟨b,0,none⟩)):=by
 obtain ⟨j,hj,hjs⟩:=Option.map_eq_some_iff.1 bldSize
 go_enter Tryz.func168,Tryz.ntmps168
 go_wp2
 rw [Lib.run_to_unsafe w ⟨b,0,none⟩ Tryz.underlying148 Tryz.underlying169 hj (by rw [hjs];decide) hsh (Nat.zero_lt_succ 1)]
 simp only [Result.andThen]
 rw [Oper.upon_value]
 go_wp2
 rw [run_callFunc_extern Tryz.func198 (by kernel_rfl) (by kernel_rfl) (by kernel_rfl) (e:=Extern.AbiNoEscape.same) (by kernel_rfl)]
 rw [Lib.run_noEscape]
 simp only [Result.andThen]
 rw [Oper.upon_value]
 go_wp2
 rw [Lib.run_from_unsafe w ⟨b,0,none⟩ Tryz.underlying169 Tryz.underlying148 hj hsh bldLies]
 simp only [Result.andThen]
 rw [Oper.upon_value]
 go_wp2
 go_end0
 exact ⟨rfl,rfl⟩
theorem copy_any (B b:Nat) (l:List UInt8) (w:World) (h:isBld w B b l) :
   Calls Tryz.prog 168 #[.pointer (some ⟨b,0,none⟩)] w fun e w'=>e=.returned (.tuple #[])∧Lib.BuilderAt 150 5 B b (.pointer (some ⟨b,0,none⟩)) (Lib.byteCells l) w'∧Below B w w':=by
 rcases h with h | h
 · refine (copy_fresh b w h.cell0 h.shape h.frozen0).mono ?_
   rintro e w' ⟨rfl,rfl⟩
   exact ⟨rfl,h.used _,(Below.refl B w).setCell (p:=⟨b,0,none⟩) h.1 _⟩
 · refine (copy_used b w h.cell0).mono ?_
   rintro e w' ⟨rfl,rfl⟩
   exact ⟨rfl,h,Below.refl B _⟩
set_option maxRecDepth 100000 in
set_option maxHeartbeats 2000000 in
theorem bld_write (B b:Nat) (l:List UInt8) (s:ByteArray) (w:World) (h:isBld w B b l) (hlen:l.length + s.size≤140737488355328) (hBw:B≤w.heap.size) :
   Calls Tryz.prog 122 #[.pointer (some ⟨b,0,none⟩),.string s] w fun e w'=>e=.returned (.tuple #[.int .i64 s.size,.nilIface])∧isBld w' B b (l ++ s.data.toList)∧Below B w w':=by
 obtain ⟨i0,hi,hz0,hz1,hz2⟩:=info_parts info_u8
 have hbl:(Lib.byteCells l).length=l.length:=by simp [Lib.byteCells]
 go_enter Tryz.func122,Tryz.ntmps122
 go_wp2_with fail
 refine (copy_any B b l _ h).mono ?_
 rintro e w1 ⟨rfl,h1,hb1⟩
 obtain ⟨hB,v,hbk,hown,hne⟩:=h1
 have c0:w1.cell? ⟨b,0,none⟩=some (.pointer (some ⟨b,0,none⟩)):=by rw [Lib.cell_of_heap hbk];rfl
 have c1:w1.cell? ⟨b,1,none⟩=some v:=by rw [Lib.cell_of_heap hbk];rfl
 go_wp2_with (at_builtin;refine Lib.wpList_append_own_string _ rfl _ _ 56 9 rfl B 5 i0 Tryz.underlying56 Tryz.underlying9 hi hz0 hz1 hz2 _ _ _ rfl hown s rfl ?c3 ?c4 ?c5 ?_)
 case c3=>rw [hbl];unfold maxLen;omega
 case c4=>rw [hbl];omega
 case c5=>have:=hb1.size;omega
 intro v' w2 hown' hgrow _
 have hlt:b < w1.heap.size:=by
   rcases Nat.lt_or_ge b w1.heap.size with h' | h'
   · exact h'
   · simp [Array.getElem?_eq_none h'] at hbk
 have hb2:w2.heap[b]? = some (.cells #[.pointer (some ⟨b,0,none⟩),v] 150 (0,0)):=by
   rw [hgrow.block b hlt (fun e=>hne e.symm)]
   exact hbk
 have d0:w2.cell? ⟨b,0,none⟩=some (.pointer (some ⟨b,0,none⟩)):=by rw [Lib.cell_of_heap hb2];rfl
 have d1:w2.cell? ⟨b,1,none⟩=some v:=by rw [Lib.cell_of_heap hb2];rfl
 have f1:w2.frozen? ⟨b,1,none⟩=false:=Lib.frozen_of_heap hb2 1
 obtain ⟨ao,n',cap,rfl⟩:∃ ao n' cap,v'=.slice ao n' cap:=by
   rcases hown'.2 with ⟨hv,_⟩ | ⟨g,cap,cur,hv,_⟩
   · exact ⟨_,_,_,hv⟩
   · exact ⟨_,_,_,hv⟩
 have HO:Hid (w2.ownsRow B 5 1 (.slice ao n' cap) (Lib.byteCells (l ++ s.data.toList)).length (Lib.byteCells (l ++ s.data.toList))):=by
   have h:w2.ownsRow B 5 1 (.slice ao n' cap) (Lib.byteCells (l ++ s.data.toList)).length (Lib.byteCells (l ++ s.data.toList)):=by
     have e:Lib.byteCells (l ++ s.data.toList)=Lib.byteCells l ++ Lib.strCells s:=by simp [Lib.byteCells,Lib.strCells]
     rw [e,List.length_append,Lib.strCells_length,hbl]
     exact hown'
   exact h
 clear hown'
 go_wp2
 go_ret2
 refine ⟨rfl,.inr ?_,?_⟩
 · exact Lib.BuilderAt.put (T:=150) (e:=5) hB hb2 HO.out (by decide)
 · exact (hb1.grown hgrow (by have:=hb1.size;omega) (fun k hk=>(hown.lt k hk).1)).setCell (p:=⟨b,1,none⟩) hB _
theorem bld_string (B b:Nat) (l:List UInt8) (w:World) (h:isBld w B b l) (hBw:B≤w.heap.size) :
   Calls Tryz.prog 120 #[.pointer (some ⟨b,0,none⟩)] w fun e w'=>e=.returned (.string ⟨l.toArray⟩)∧Below B w w' :=
 Tryz.Builder_String_any B b l w h hBw
end Go.Proofs.YtgfinhehgfbdgaaGreatDoor
