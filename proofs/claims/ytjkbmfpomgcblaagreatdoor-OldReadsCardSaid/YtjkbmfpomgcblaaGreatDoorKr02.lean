import Derived.Test.YtjkbmfpomgcblaaGreatDoorKr01
import Derived.Test.YtjkbmfpomgcblaaGreatDoorKr00
import Derived.Deep.Draws
import Derived.Test.YtjkbmfpomgcblaaGreatDoorRows
import Derived.Lib.Strings
import Derived.Laws.BitsAllLaws
namespace Go.Proofs.YtjkbmfpomgcblaaGreatDoor
open Go.RowKit
def tokC (t:Tok):List Value:=[.string t.own,.int .i64 t.back,.int .i64 t.size]
def toksC (l:List Tok):List Value:=l.flatMap tokC
theorem toksC_len (l:List Tok):(toksC l).length=l.length * 3:=by
 induction l with
 | nil=>rfl
 | cons t r ih=>simp only [toksC,List.flatMap_cons,List.length_append,List.length_cons] at ih ⊢;rw [ih];simp [tokC];omega
theorem toksC_at (l:List Tok) (i j:Nat) (t:Tok) (h:l[i]? = some t) (hj:j < 3):(toksC l)[i * 3 + j]? = (tokC t)[j]? := by
 induction l generalizing i with
 | nil=>simp at h
 | cons u r ih =>
   have hc:toksC (u :: r)=tokC u ++ toksC r:=by simp [toksC]
   have h3:(tokC u).length=3:=rfl
   rw [hc]
   cases i with
   | zero =>
     obtain rfl:u=t:=by simpa using h
     rw [List.getElem?_append_left (by omega)]
     congr 1;omega
   | succ i =>
     rw [List.getElem?_append_right (by omega),h3,show (i + 1) * 3 + j - 3=i * 3 + j by omega]
     exact ih i (by simpa using h)
def ownsK (w:World) (base:Nat) (v:Value) (l:List Tok):Prop:=w.ownsRow base 224 3 v l.length (toksC l)
theorem ownsK.alloc {w:World} {base:Nat} {v:Value} {l:List Tok} (h:ownsK w base v l) (o:Obj):ownsK (w.alloc o) base v l:=World.ownsRow.alloc h o
theorem ownsK.drew {w:World} {base:Nat} {v:Value} {l:List Tok} (h:ownsK w base v l):ownsK w.drew base v l:=World.ownsRow.drew h
theorem ownsK.drewN {w:World} {base:Nat} {v:Value} {l:List Tok} (h:ownsK w base v l) (n:Nat):ownsK (w.drewN n) base v l:=h
theorem ownsK.lt {w:World} {base:Nat} {v:Value} {l:List Tok} (h:ownsK w base v l):∀ k,v.ownBlock=some k→base≤k∧k < w.heap.size:=World.ownsRow.lt h
theorem ownsK.mono {w:World} {base base':Nat} {v:Value} {l:List Tok} (h:ownsK w base v l) (hb:base'≤base):ownsK w base' v l:=by
 obtain ⟨h0,h1⟩:=h
 refine ⟨h0,?_⟩
 rcases h1 with h1 | ⟨g,cap,cur,hv,hg,r⟩
 · exact .inl h1
 · exact .inr ⟨g,cap,cur,hv,Nat.le_trans hb hg,r⟩
theorem ownsK.below {w w':World} {base:Nat} {v:Value} {l:List Tok} (h:ownsK w base v l) (hb:Below w.heap.size w w'):ownsK w' base v l:=by
 refine World.ownsRow.kept h (row:=none) ⟨hb.os,hb.tape,hb.output,hb.size,fun k hk _=>hb.block k hk⟩ ?_
 cases hv:v.ownBlock with
 | none=>exact .inl rfl
 | some g=>exact .inr (by simp)
def IsToks (w:World) (v:Value) (l:List Tok):Prop :=
 (∃ a c,v=.slice a 0 c∧l=[])∨∃ b off c,v=.slice (some ⟨b,off,none⟩) l.length c∧0 < l.length∧b < w.heap.size∧∀ j u,(toksC l)[j]? = some u→w.cell? ⟨b,off + j,none⟩=some u
theorem ownsK.is {w:World} {base:Nat} {v:Value} {l:List Tok} (h:ownsK w base v l):IsToks w v l:=by
 have hall:=h
 have hlt:=h.lt
 obtain ⟨h0,h1⟩:=h
 rcases h1 with ⟨rfl,hn⟩ | ⟨g,cap,cur,rfl,hb,hh,hc,hm,hs,ht⟩
 · exact .inl ⟨_,_,rfl,List.length_eq_zero_iff.1 hn⟩
 · by_cases hz:l.length=0
   · exact .inl ⟨_,_,by rw [hz],List.length_eq_zero_iff.1 hz⟩
   · refine .inr ⟨g,0,cap,rfl,by omega,(hlt g rfl).2,fun j u hj=>?_⟩
     have hjl:j < l.length * 3:=by rw [←toksC_len];exact (List.getElem?_eq_some_iff.1 hj).1
     rw [Nat.zero_add,World.ownsRow.cellAt hall j hjl]
     exact hj
theorem IsToks.below {w w':World} {v:Value} {l:List Tok} (h:IsToks w v l) (hb:Below w.heap.size w w'):IsToks w' v l:=by
 rcases h with ⟨a,c,h1,h2⟩ | ⟨b,off,c,h1,h0,h2,h3⟩
 · exact .inl ⟨a,c,h1,h2⟩
 · exact .inr ⟨b,off,c,h1,h0,Nat.lt_of_lt_of_le h2 hb.size,fun j u hj=>(hb.cell (p:=⟨b,off + j,none⟩) h2).trans (h3 j u hj)⟩
theorem IsToks.alloc {w:World} {v:Value} {l:List Tok} (h:IsToks w v l) (o:Obj):IsToks (w.alloc o) v l:=h.below ((Below.refl _ _).alloc (Nat.le_refl _) o)
theorem IsToks.drewN {w:World} {v:Value} {l:List Tok} (h:IsToks w v l) (n:Nat):IsToks (w.drewN n) v l:=h
theorem IsToks.form {w:World} {v:Value} {l:List Tok} (h:IsToks w v l):∃ a c,v=.slice a l.length c∧∀ i t,l[i]? = some t→∃ b off,a=some ⟨b,off,none⟩∧b < w.heap.size ∧
   w.cell? ⟨b,off + i * 3,none⟩=some (.string t.own)∧w.cell? ⟨b,off + i * 3 + 1,none⟩=some (.int .i64 t.back)∧w.cell? ⟨b,off + i * 3 + 2,none⟩=some (.int .i64 t.size):=by
 rcases h with ⟨a,c,rfl,rfl⟩ | ⟨b,off,c,rfl,h0,h2,h3⟩
 · exact ⟨a,c,rfl,fun i t h=>by simp at h⟩
 · refine ⟨_,_,rfl,fun i t h=>⟨b,off,rfl,h2,?_,?_,?_⟩⟩
   · exact h3 _ _ ((toksC_at l i 0 t h (by omega)).trans rfl)
   · exact h3 _ _ ((toksC_at l i 1 t h (by omega)).trans rfl)
   · exact h3 _ _ ((toksC_at l i 2 t h (by omega)).trans rfl)
theorem ownsK.last {w:World} {base g n cap:Nat} {l:List Tok} {t:Tok} (h:ownsK w base (.slice (some ⟨g,0,none⟩) n cap) (l ++ [t])) (hn:n=l.length + 1) :
   w.cell? ⟨g,l.length * 3,none⟩=some (.string t.own)∧w.frozen? ⟨g,l.length * 3,none⟩=false∧base≤g:=by
 subst hn
 have hlt:=(h.lt g rfl).1
 unfold ownsK at h
 rw [List.length_append] at h
 refine ⟨?_,World.ownsRow.frozenAt h _,hlt⟩
 rw [World.ownsRow.cellAt h _ (by simp)]
 exact (toksC_at (l ++ [t]) l.length 0 t (by simp) (by omega)).trans rfl
theorem ownsK.form {w:World} {base:Nat} {v:Value} {l:List Tok} {t:Tok} (h:ownsK w base v (l ++ [t])):∃ g cap,v=.slice (some ⟨g,0,none⟩) (l.length + 1) cap:=by
 obtain ⟨h0,h1⟩:=h
 rcases h1 with ⟨rfl,hn⟩ | ⟨g,cap,cur,rfl,hb,hh,hc,hm,hs,ht⟩
 · simp at hn
 · exact ⟨g,cap,by simp⟩
end Go.Proofs.YtjkbmfpomgcblaaGreatDoor
namespace Go.Proofs.YtjkbmfpomgcblaaGreatDoor
open Go.RowKit Go.Maps
theorem zeroT (w:World):(zeroValue 4).run Tryz.prog w=.ok (.bool false) w:=by kernel_rfl
theorem keyedI:Keyed Tryz.prog 3:=int_keyed Tryz.underlying3
def ownsSet (w:World) (b n:Nat) (t:List ByteArray):Prop:=∃ D,SetM D t∧w.ownsMap Tryz.prog 9 (plainElem Tryz.prog 4) b n D
theorem ownsSet_made (w:World):ownsSet (w.alloc (.map #[] 0)) w.heap.size 0 []:=⟨_,setM_nil,World.ownsMap_made _ _ _ _⟩
theorem ownsSet.below {w w':World} {b n:Nat} {t:List ByteArray} (h:ownsSet w b n t) (hb:Below w.heap.size w w'):ownsSet w' b n t:=by
 obtain ⟨D,h1,h2⟩:=h
 exact ⟨D,h1,h2.kept (row:=none) ⟨hb.os,hb.tape,hb.output,hb.size,fun k hk _=>hb.block k hk⟩ (by simp)⟩
theorem ownsSet.alloc {w:World} {b n:Nat} {t:List ByteArray} (h:ownsSet w b n t) (o:Obj):ownsSet (w.alloc o) b n t:=by
 obtain ⟨D,h1,h2⟩:=h;exact ⟨D,h1,h2.alloc o⟩
theorem ownsSet.drew {w:World} {b n:Nat} {t:List ByteArray} (h:ownsSet w b n t):ownsSet w.drew b n t:=by
 obtain ⟨D,h1,h2⟩:=h;exact ⟨D,h1,h2.drew⟩
section
variable {w:World} {ops:Array Oper} {rest:List Oper} {o:Oper} {a:Act} {Q:Exit→Act→World→Prop}
theorem wpList_set_look (hg:o.guard=none) (m x:Operand) (hop:o.op=Op.lookup 265 m x false) (b n:Nat) (t:List ByteArray)
   (hm:a.eval m=.map (some b)) (hown:ownsSet w b n t) (s:ByteArray) (hx:a.eval x=.string s) (hs:s.size≤maxLen) (v:Bool) (hv:if v then s∈t else s ∉ t)
   (hK:wpList Tryz.prog ops Q rest (a.put o.dst (.bool v)) w):wpList Tryz.prog ops Q (o :: rest) a w:=by
 obtain ⟨D,h1,h2⟩:=hown
 refine wpList_lookup_own_is w hg m x _ hop 9 4 keyedS Tryz.underlying265 _ (zeroT w) (.lit (.bool false)) [] (plainElem_bool Tryz.underlying4 false) b n D hm h2 _ _ hx (keyS hs) (.bool v) ?_ hK
 intro v' ps hv'
 obtain ⟨y,rfl,hy⟩:=plainElem_bool_inv Tryz.underlying4 hv'
 cases v with
 | true=>rw [h1.there s (by simpa using hv)] at hy;simp at hy;rw [hy.1]
 | false=>rw [h1.none s (by simpa using hv)] at hy;simp at hy;rw [hy.1]
theorem wpList_set_put (hg:o.guard=none) (m x v:Operand) (hop:o.op=Op.mapUpdate 265 m x v) (b n:Nat) (t:List ByteArray)
   (hm:a.eval m=.map (some b)) (hown:ownsSet w b n t) (hn:n < maxLen) (s:ByteArray) (hx:a.eval x=.string s) (hv:a.eval v=.bool true) (hs:s.size≤maxLen)
   (hK:∀ w',ownsSet w' b (n + 1) (t ++ [s])→w.grownBy w' (some b)→wpList Tryz.prog ops Q rest (a.put o.dst undef) w'):wpList Tryz.prog ops Q (o :: rest) a w:=by
 obtain ⟨D,h1,h2⟩:=hown
 refine wpList_mapUpdate_own w hg m x v _ hop 9 4 keyedS Tryz.underlying265 _ b n D hm h2 hn _ _ _ hx hv (keyS hs) (.lit (.bool true)) [] (plainElem_bool Tryz.underlying4 true) ?_
 intro w' h3 h4
 exact hK w' ⟨_,h1.put s,h3⟩ h4
end
def ownsTold (w:World) (b n m:Nat):Prop:=∃ D,ToldM D m∧w.ownsMap Tryz.prog 3 (plainElem Tryz.prog 4) b n D
theorem ownsTold_made (w:World):ownsTold (w.alloc (.map #[] 0)) w.heap.size 0 0:=⟨_,toldM_nil,World.ownsMap_made _ _ _ _⟩
theorem ownsTold.kept {w w':World} {b n m:Nat} {row:Option Nat} (h:ownsTold w b n m) (hg:w.grownBy w' row) (hne:some b≠row):ownsTold w' b n m:=by
 obtain ⟨D,h1,h2⟩:=h;exact ⟨D,h1,h2.kept hg hne⟩
theorem ownsTold.below {w w':World} {b n m:Nat} (h:ownsTold w b n m) (hb:Below w.heap.size w w'):ownsTold w' b n m :=
 h.kept (row:=none) ⟨hb.os,hb.tape,hb.output,hb.size,fun k hk _=>hb.block k hk⟩ (by simp)
theorem ownsTold.alloc {w:World} {b n m:Nat} (h:ownsTold w b n m) (o:Obj):ownsTold (w.alloc o) b n m:=by
 obtain ⟨D,h1,h2⟩:=h;exact ⟨D,h1,h2.alloc o⟩
theorem ownsTold.lt {w:World} {b n m:Nat} (h:ownsTold w b n m):b < w.heap.size:=by
 obtain ⟨D,h1,h2⟩:=h;exact h2.lt
section
variable {w:World} {ops:Array Oper} {rest:List Oper} {o:Oper} {a:Act} {Q:Exit→Act→World→Prop}
theorem wpList_told_len (hg:o.guard=none) (m:Operand) (hop:o.op=Op.call { callee:=Callee.builtin Builtin.len,args:=#[m],argTypes:=#[211] }) (b n k:Nat) (hm:a.eval m=.map (some b)) (hown:ownsTold w b n k)
   (hK:wpList Tryz.prog ops Q rest (a.put o.dst (.int .i64 (k:Nat))) w):wpList Tryz.prog ops Q (o :: rest) a w:=by
 obtain ⟨D,h1,h2⟩:=hown
 refine wpList_len_own w hg m _ hop 3 4 Tryz.underlying211 _ b n D hm h2 ?_
 rw [h1.size];exact hK
theorem wpList_told_put (hg:o.guard=none) (m x v:Operand) (hop:o.op=Op.mapUpdate 211 m x v) (b n k:Nat) (hm:a.eval m=.map (some b)) (hown:ownsTold w b n k) (hn:n < maxLen)
   (j:Nat) (hj:j≤k) (hk:k≤1000000) (hx:a.eval x=.int .i64 (j:Nat)) (hv:a.eval v=.bool true)
   (hK:∀ w',ownsTold w' b (n + 1) (if j=k then k + 1 else k)→w.grownBy w' (some b)→wpList Tryz.prog ops Q rest (a.put o.dst undef) w'):wpList Tryz.prog ops Q (o :: rest) a w:=by
 obtain ⟨D,h1,h2⟩:=hown
 refine wpList_mapUpdate_own w hg m x v _ hop 3 4 keyedI Tryz.underlying211 _ b n D hm h2 hn _ _ _ hx hv (keyOf_int_mk Tryz.underlying3 (WalkArith.wf_i64 (by omega))) (.lit (.bool true)) [] (plainElem_bool Tryz.underlying4 true) ?_
 intro w' h3 h4
 refine hK w' ⟨_,?_,h3⟩ h4
 by_cases e:j=k
 · subst e;rw [if_pos rfl];exact h1.new
 · rw [if_neg e];exact h1.old (by omega)
end
end Go.Proofs.YtjkbmfpomgcblaaGreatDoor
namespace Go.Proofs.YtjkbmfpomgcblaaGreatDoor
open Go.RowKit
theorem zagr_any (n:Int) (w:World) (h0:0≤n) (h1:n≤18446744073709551615) :
   Calls Tryz.prog 130 #[.int .u64 n] w fun e w'=>e=.returned (.int .i64 (zagN n))∧w=w':=by
 by_cases h:n % 2=1
 · have hb:(n % 2 == 1)=true:=by simpa using h
   have hh:=Lib.hid h
   clear h
   go_enter Tryz.func130,Tryz.ntmps130
   go_wp2
   go_ret
   exact ⟨ret_int (by rw [zagN,if_pos hh.out]),rfl⟩
 · have hb:(n % 2 == 1)=false:=by simpa using h
   have hh:=Lib.hid h
   clear h
   go_enter Tryz.func130,Tryz.ntmps130
   go_wp2
   go_ret
   exact ⟨ret_int (by rw [zagN,if_neg hh.out]),rfl⟩
end Go.Proofs.YtjkbmfpomgcblaaGreatDoor
namespace Go.Proofs.YtjkbmfpomgcblaaGreatDoor
open Go.RowKit
def errV (e:Nat):Value:=if e=0 then .nilIface else .iface 44 (.int .i64 e)
def numV (r:Nat×Nat×Nat):Value:=.tuple #[.int .u64 r.1,.int .i64 r.2.1,errV r.2.2]
theorem pow128 (k:Nat):(2:Nat) ^ (7 * k)=128 ^ k:=by rw [Nat.pow_mul]
theorem or_shift (acc x k:Nat) (ha:acc < 128 ^ k) (hx:x < 128) (hk:k≤9) (h9:k=9→x≤1) :
   bits .or .u64 (acc:Int) (IntKind.u64.wrap ((x:Int) * 2 ^ (7 * k)))=((acc + x * 128 ^ k:Nat):Int)∧acc + x * 128 ^ k < 18446744073709551616:=by
 have hb:acc + x * 128 ^ k < 18446744073709551616:=by
   by_cases h:k=9
   · subst h;have:=h9 rfl;rw [pow9] at ha ⊢;omega
   · have hp:128 ^ k≤128 ^ 8:=Nat.pow_le_pow_right (by decide) (by omega)
     have h8:128 ^ 8=72057594037927936:=by decide
     have:=Nat.mul_le_mul (show x≤127 by omega) hp
     omega
 refine ⟨?_,hb⟩
 have e1:((x:Int) * 2 ^ (7 * k))=((x * 128 ^ k:Nat):Int):=by
   rw [←pow128,Int.natCast_mul,Int.natCast_pow];rfl
 rw [e1,IntWalk.u64_in _ ⟨by omega,by omega⟩,u64_or_nat _ _ (by omega) (by omega),←pow128]
 congr 1
 rw [Nat.add_comm,Nat.mul_comm x,Nat.two_pow_add_eq_or_of_lt (by rw [pow128];exact ha),Nat.or_comm]
theorem num_ret {l:List UInt8} {n k e:Nat} {a b:Int} {v:Value} (h:getL l=(n,k,e)) (ha:a=n) (hb:b=k) (hv:v=errV e) :
   Ending.returned (.tuple #[.int .u64 a,.int .i64 b,v])=.returned (numV (getL l)):=by
 rw [h,ha,hb,hv];rfl
theorem getL_of_bad {l:List UInt8} {e:Nat} (h:scan 0 l=.inl e):getL l=(0,0,e):=by unfold getL;rw [h]
theorem getL_of_ok {l:List UInt8} {k:Nat} (h:scan 0 l=.inr k):getL l=(valL (l.take k),k,0):=by unfold getL;rw [h]
theorem scan_at (s:ByteArray) (k:Nat) (h:k < s.size):scan k (s.data.toList.drop k)=if k=9∧1 < s[k].toNat then .inl 4 else if 0 < k∧s[k].toNat=0 then .inl 3 else if s[k].toNat < 128 then .inr (k + 1) else scan (k + 1) (s.data.toList.drop (k + 1)) :=
 scan_drop s.data.toList k (by simpa using h)
theorem val_at (s:ByteArray) (k:Nat) (h:k < s.size) (hk:k≤9) (h9:k=9→s[k].toNat≤1) :
   bits .or .u64 ((valL (s.data.toList.take k):Nat):Int) (IntKind.u64.wrap ((s[k].toNat:Int) % 128 * 2 ^ (7 * k)))=((valL (s.data.toList.take (k + 1)):Nat):Int):=by
 have h':k < s.data.toList.length:=by simpa using h
 have hl:=valL_lt (s.data.toList.take k)
 rw [List.length_take,Nat.min_eq_left (by omega)] at hl
 have hm:s[k].toNat % 128 < 128:=Nat.mod_lt _ (by decide)
 have:=(or_shift _ (s[k].toNat % 128) k hl hm hk (by intro e;have:=h9 e;omega)).1
 rw [valL_take_succ _ _ h']
 exact this
theorem val_at9 (s:ByteArray) (h:9 < s.size) (h9:s[9].toNat≤1) :
   bits .or .u64 ((valL (s.data.toList.take 9):Nat):Int) ((s[9].toNat:Int) % 128 * 9223372036854775808)=((valL (s.data.toList.take 10):Nat):Int):=by
 rw [←val_at s 9 h (by omega) (fun _=>h9)]
 congr 1
 rw [show (2:Int) ^ (7 * 9)=9223372036854775808 by decide,IntWalk.u64_in _ ⟨by omega,by omega⟩]
set_option maxRecDepth 100000 in
set_option maxHeartbeats 1000000 in
theorem get_any (s:ByteArray) (w:World) (hs:s.size≤maxLen) :
   Calls Tryz.prog 152 #[.string s] w fun e w'=>e=.returned (numV (getL s.data.toList))∧w=w':=by
 unfold maxLen at hs
 go_enter Tryz.func152,Tryz.ntmps152
 go_wp2
 go_loop [5,10] (fun n i=>∃ k:Nat,k≤s.size∧k≤9∧i=.int .i64 k∧n=.int .u64 (valL (s.data.toList.take k))∧scan 0 s.data.toList=scan k (s.data.toList.drop k)) (fun _ i=>s.size - (intOf i).toNat)
 case atStart=>exact ⟨0,Nat.zero_le _,Nat.zero_le _,rfl,rfl,rfl⟩
 case round =>
   obtain ⟨k,hk,hk9,rfl,rfl,hsc⟩:=hrel
   have HSC:=Lib.hid hsc
   clear hsc
   by_cases hlt:k < s.size
   · by_cases h9:k=9
     · subst h9
       go_wp2
       · have h1:1 < (s[9].toNat:Int):=by assumption
         go_ret3
         exact ⟨num_ret (getL_of_bad (by rw [HSC.out,scan_at s 9 hlt,if_pos ⟨rfl,by omega⟩])) rfl rfl rfl,rfl⟩
       · have h1:(s[9].toNat:Int)≤1:=by assumption
         have h2:((s[9].toNat:Int) == 0)=true:=by assumption
         have h2':s[9].toNat=0:=by have:=eq_of_beq h2;omega
         go_ret3
         exact ⟨num_ret (getL_of_bad (by rw [HSC.out,scan_at s 9 hlt,if_neg (by omega),if_pos ⟨by omega,h2'⟩])) rfl rfl rfl,rfl⟩
       · have h1:(s[9].toNat:Int)≤1:=by assumption
         have h2:((s[9].toNat:Int) == 0)=false:=by assumption
         have h2':s[9].toNat≠0:=by intro h;rw [h] at h2;exact absurd h2 (by decide)
         go_ret3
         exact ⟨num_ret (getL_of_ok (by rw [HSC.out,scan_at s 9 hlt,if_neg (by omega),if_neg (by omega),if_pos (by omega)])) (val_at9 s hlt (by omega)) rfl rfl,rfl⟩
     · have hb:((k:Int) == 9)=false:=by simp;omega
       have H9:=Lib.hid h9
       clear h9
       go_wp2
       · have h1:0 < k:=by assumption
         have h2:((s[k].toNat:Int) == 0)=true:=by assumption
         have h2':s[k].toNat=0:=by have:=eq_of_beq h2;omega
         go_ret3
         exact ⟨num_ret (getL_of_bad (by rw [HSC.out,scan_at s k hlt,if_neg (by intro h;exact H9.out h.1),if_pos ⟨h1,h2'⟩])) rfl rfl rfl,rfl⟩
       · have h2:((s[k].toNat:Int) == 0)=false:=by assumption
         have h2':s[k].toNat≠0:=by intro h;rw [h] at h2;exact absurd h2 (by decide)
         have h3:(s[k].toNat:Int) < 128:=by assumption
         go_ret3
         exact ⟨num_ret (getL_of_ok (by rw [HSC.out,scan_at s k hlt,if_neg (by intro h;exact H9.out h.1),if_neg (by intro h;exact h2' h.2),if_pos (by omega)])) (val_at s k hlt hk9 (fun h=>absurd h H9.out)) rfl rfl,rfl⟩
       · have h2:((s[k].toNat:Int) == 0)=false:=by assumption
         have h2':s[k].toNat≠0:=by intro h;rw [h] at h2;exact absurd h2 (by decide)
         have h3:128≤(s[k].toNat:Int):=by assumption
         go_round
         case rel=>exact ⟨k + 1,by omega,by have:=H9.out;omega,by go_num,by rw [val_at s k hlt hk9 (fun h=>absurd h H9.out)],by rw [HSC.out,scan_at s k hlt,if_neg (by intro h;exact H9.out h.1),if_neg (by intro h;exact h2' h.2),if_neg (by omega)]⟩
         case measure=>simp [intOf];omega
       · have h1:¬ 0 < k:=by assumption
         have h3:(s[k].toNat:Int) < 128:=by assumption
         go_ret3
         exact ⟨num_ret (getL_of_ok (by rw [HSC.out,scan_at s k hlt,if_neg (by intro h;exact H9.out h.1),if_neg (by omega),if_pos (by omega)])) (val_at s k hlt hk9 (fun h=>absurd h H9.out)) rfl rfl,rfl⟩
       · have h1:¬ 0 < k:=by assumption
         have h3:128≤(s[k].toNat:Int):=by assumption
         go_round
         case rel=>exact ⟨k + 1,by omega,by omega,by go_num,by rw [val_at s k hlt hk9 (fun h=>absurd h H9.out)],by rw [HSC.out,scan_at s k hlt,if_neg (by intro h;exact H9.out h.1),if_neg (by omega),if_neg (by omega)]⟩
         case measure=>simp [intOf];omega
   · go_wp2
     go_ret3
     exact ⟨num_ret (getL_of_bad (by rw [HSC.out,List.drop_eq_nil_of_le (by simp;omega),scan])) rfl rfl rfl,rfl⟩
end Go.Proofs.YtjkbmfpomgcblaaGreatDoor
namespace Go.Proofs.YtjkbmfpomgcblaaGreatDoor
open Go.RowKit
theorem info_ent:(Tryz.prog.info? 74).map (fun i=>(i.zero,i.size,i.bytes))=some (some (.agg #[.int .i64 0,.int .i64 0]),2,16):=by kernel_rfl
def entC (t:Ent):List Value:=[.int .i64 t.rep,.int .i64 t.time]
def entsC (l:List Ent):List Value:=l.flatMap entC
theorem entsC_len (l:List Ent):(entsC l).length=l.length * 2:=by
 induction l with
 | nil=>rfl
 | cons t r ih=>simp only [entsC,List.flatMap_cons,List.length_append,List.length_cons] at ih ⊢;rw [ih];simp [entC];omega
theorem entsC_app (a b:List Ent):entsC (a ++ b)=entsC a ++ entsC b:=by simp [entsC]
theorem entsC_at (l:List Ent) (i j:Nat) (t:Ent) (h:l[i]? = some t) (hj:j < 2):(entsC l)[i * 2 + j]? = (entC t)[j]? := by
 induction l generalizing i with
 | nil=>simp at h
 | cons u r ih =>
   have hc:entsC (u :: r)=entC u ++ entsC r:=by simp [entsC]
   have h3:(entC u).length=2:=rfl
   rw [hc]
   cases i with
   | zero =>
     obtain rfl:u=t:=by simpa using h
     rw [List.getElem?_append_left (by omega)]
     congr 1;omega
   | succ i =>
     rw [List.getElem?_append_right (by omega),h3,show (i + 1) * 2 + j - 2=i * 2 + j by omega]
     exact ih i (by simpa using h)
theorem entsC_int (l:List Ent):∀ u∈entsC l,∃ n,u=.int .i64 n:=by
 intro u hu
 obtain ⟨t,_,ht⟩:=List.mem_flatMap.1 hu
 simp [entC] at ht
 rcases ht with rfl | rfl
 · exact ⟨_,rfl⟩
 · exact ⟨_,rfl⟩
def ownsE (w:World) (base:Nat) (v:Value) (l:List Ent):Prop:=w.ownsRow base 74 2 v l.length (entsC l)
theorem ownsE_nil (w:World) (base:Nat):ownsE w base (.slice none 0 0) []:=World.ownsRow_nil _ _ _ _
theorem ownsE.alloc {w:World} {base:Nat} {v:Value} {l:List Ent} (h:ownsE w base v l) (o:Obj):ownsE (w.alloc o) base v l:=World.ownsRow.alloc h o
theorem ownsE.drew {w:World} {base:Nat} {v:Value} {l:List Ent} (h:ownsE w base v l):ownsE w.drew base v l:=World.ownsRow.drew h
theorem ownsE.drewN {w:World} {base:Nat} {v:Value} {l:List Ent} (h:ownsE w base v l) (n:Nat):ownsE (w.drewN n) base v l:=h
theorem ownsE.lt {w:World} {base:Nat} {v:Value} {l:List Ent} (h:ownsE w base v l):∀ k,v.ownBlock=some k→base≤k∧k < w.heap.size:=World.ownsRow.lt h
theorem ownsE.mono {w:World} {base base':Nat} {v:Value} {l:List Ent} (h:ownsE w base v l) (hb:base'≤base):ownsE w base' v l:=by
 obtain ⟨h0,h1⟩:=h
 refine ⟨h0,?_⟩
 rcases h1 with h1 | ⟨g,cap,cur,hv,hg,r⟩
 · exact .inl h1
 · exact .inr ⟨g,cap,cur,hv,Nat.le_trans hb hg,r⟩
theorem ownsE.below {w w':World} {base:Nat} {v:Value} {l:List Ent} (h:ownsE w base v l) (hb:Below w.heap.size w w'):ownsE w' base v l:=by
 refine World.ownsRow.kept h (row:=none) ⟨hb.os,hb.tape,hb.output,hb.size,fun k hk _=>hb.block k hk⟩ ?_
 cases hv:v.ownBlock with
 | none=>exact .inl rfl
 | some g=>exact .inr (by simp)
def IsEnts (w:World) (v:Value) (l:List Ent):Prop :=
 (∃ a c,v=.slice a 0 c∧l=[])∨∃ b off c,v=.slice (some ⟨b,off,none⟩) l.length c∧(0 < l.length∧l.length≤c)∧b < w.heap.size∧∀ j u,(entsC l)[j]? = some u→w.cell? ⟨b,off + j,none⟩=some u
theorem ownsE.is {w:World} {base:Nat} {v:Value} {l:List Ent} (h:ownsE w base v l):IsEnts w v l:=by
 have hall:=h
 have hlt:=h.lt
 obtain ⟨h0,h1⟩:=h
 rcases h1 with ⟨rfl,hn⟩ | ⟨g,cap,cur,rfl,hb,hh,hc,hm,hs,ht⟩
 · exact .inl ⟨_,_,rfl,List.length_eq_zero_iff.1 hn⟩
 · by_cases hz:l.length=0
   · exact .inl ⟨_,_,by rw [hz],List.length_eq_zero_iff.1 hz⟩
   · refine .inr ⟨g,0,cap,rfl,⟨by omega,hc⟩,(hlt g rfl).2,fun j u hj=>?_⟩
     have hjl:j < l.length * 2:=by rw [←entsC_len];exact (List.getElem?_eq_some_iff.1 hj).1
     rw [Nat.zero_add,World.ownsRow.cellAt hall j hjl]
     exact hj
theorem IsEnts.nil (w:World):IsEnts w (.slice none 0 0) []:=.inl ⟨_,_,rfl,rfl⟩
theorem IsEnts.below {w w':World} {v:Value} {l:List Ent} (h:IsEnts w v l) (hb:Below w.heap.size w w'):IsEnts w' v l:=by
 rcases h with ⟨a,c,h1,h2⟩ | ⟨b,off,c,h1,h0,h2,h3⟩
 · exact .inl ⟨a,c,h1,h2⟩
 · exact .inr ⟨b,off,c,h1,h0,Nat.lt_of_lt_of_le h2 hb.size,fun j u hj=>(hb.cell (p:=⟨b,off + j,none⟩) h2).trans (h3 j u hj)⟩
theorem IsEnts.alloc {w:World} {v:Value} {l:List Ent} (h:IsEnts w v l) (o:Obj):IsEnts (w.alloc o) v l:=h.below ((Below.refl _ _).alloc (Nat.le_refl _) o)
theorem IsEnts.drewN {w:World} {v:Value} {l:List Ent} (h:IsEnts w v l) (n:Nat):IsEnts (w.drewN n) v l:=h
theorem IsEnts.form {w:World} {v:Value} {l:List Ent} (h:IsEnts w v l):∃ a c,v=.slice a l.length c∧∀ i t,l[i]? = some t→∃ b off,a=some ⟨b,off,none⟩∧b < w.heap.size ∧
   w.cell? ⟨b,off + i * 2,none⟩=some (.int .i64 t.rep)∧w.cell? ⟨b,off + i * 2 + 1,none⟩=some (.int .i64 t.time):=by
 rcases h with ⟨a,c,rfl,rfl⟩ | ⟨b,off,c,rfl,h0,h2,h3⟩
 · exact ⟨a,c,rfl,fun i t h=>by simp at h⟩
 · refine ⟨_,_,rfl,fun i t h=>⟨b,off,rfl,h2,?_,?_⟩⟩
   · exact h3 _ _ ((entsC_at l i 0 t h (by omega)).trans rfl)
   · exact h3 _ _ ((entsC_at l i 1 t h (by omega)).trans rfl)
def entBlk (w:World) (B:Nat) (t:Ent):Prop:=w.heap[B]? = some (.cells #[.int .i64 t.rep,.int .i64 t.time] 74 (0,0))
theorem entBlk_new (w:World) (a b:Int):entBlk (w.alloc (.cells #[.int .i64 a,.int .i64 b] 74)) w.heap.size ⟨a,b⟩:=heap_alloc_new _ _
theorem wpList_append_ent {w:World} {ops:Array Oper} {rest:List Oper} {o:Oper} {a:Act} {Q:Exit→Act→World→Prop} (hgd:o.guard=none) (s x:Operand)
   (ho:o.op=.call { callee:=.builtin .append,args:=#[s,x],argTypes:=#[22,22] })
   (base:Nat) (v:Value) (l:List Ent) (hs:a.eval s=v) (hown:ownsE w base v l)
   (B c:Nat) (hx:a.eval x=.slice (some ⟨B,0,none⟩) 1 c) (t:Ent) (hcell:entBlk w B t)
   (hlen:l.length + 1≤1000000) (hbase:base≤w.heap.size)
   (h:∀ g cap w',ownsE w' base (.slice (some ⟨g,0,none⟩) (l.length + 1) cap) (l ++ [t])→w.grownBy w' v.ownBlock→wpList Tryz.prog ops Q rest (a.put o.dst (.slice (some ⟨g,0,none⟩) (l.length + 1) cap)) w'):wpList Tryz.prog ops Q (o :: rest) a w:=by
 obtain ⟨i0,hi,hz0,hz1,hz2⟩:=info_parts info_ent
 refine wpList_append_lies w hgd s x 22 ho base 74 i0 (.agg #[.int .i64 0,.int .i64 0]) 2 16 Tryz.underlying22 hi hz0 hz1 hz2 rfl (by decide) v l.length (entsC l) hs hown ⟨B,0,none⟩ 1 c (entC t) hx rfl ?_ ?_ (by decide) (by unfold maxLen;omega) (by omega) hbase _ rfl ?_
 · intro j u hj
   have hadd:(⟨B,0,none⟩:Addr).add j=⟨B,j,none⟩:=by unfold Addr.add;split <;> simp_all
   rw [hadd,cell_of_row _ _ _ _ _ _ hcell,←hj]
   unfold entC;simp
 · intro u hu;simp [entC] at hu;rcases hu with rfl | rfl <;> rfl
 · intro g cap w' h1 h2 _ _
   refine h g cap w' ?_ h2
   unfold ownsE
   rw [List.length_append,entsC_app]
   simpa [entsC] using h1
theorem wpList_append_ents {w:World} {ops:Array Oper} {rest:List Oper} {o:Oper} {a:Act} {Q:Exit→Act→World→Prop} (hgd:o.guard=none) (s x:Operand)
   (ho:o.op=.call { callee:=.builtin .append,args:=#[s,x],argTypes:=#[22,22] })
   (base:Nat) (v:Value) (l:List Ent) (hs:a.eval s=v) (hown:ownsE w base v l)
   (B off c n:Nat) (hx:a.eval x=.slice (some ⟨B,off,none⟩) n c) (m:List Ent) (hn:n=m.length) (hcell:∀ j u,(entsC m)[j]? = some u→w.cell? ⟨B,off + j,none⟩=some u)
   (hm:0 < m.length) (hlen:l.length + m.length≤1000000) (hbase:base≤w.heap.size)
   (h:∀ g cap w',ownsE w' base (.slice (some ⟨g,0,none⟩) (l.length + m.length) cap) (l ++ m)→w.grownBy w' v.ownBlock→wpList Tryz.prog ops Q rest (a.put o.dst (.slice (some ⟨g,0,none⟩) (l.length + m.length) cap)) w'):wpList Tryz.prog ops Q (o :: rest) a w:=by
 subst hn
 obtain ⟨i0,hi,hz0,hz1,hz2⟩:=info_parts info_ent
 refine wpList_append_lies w hgd s x 22 ho base 74 i0 (.agg #[.int .i64 0,.int .i64 0]) 2 16 Tryz.underlying22 hi hz0 hz1 hz2 rfl (by decide) v l.length (entsC l) hs hown ⟨B,off,none⟩ m.length c (entsC m) hx (entsC_len m) ?_ ?_ hm (by unfold maxLen;omega) (by omega) hbase _ rfl ?_
 · intro j u hj
   have hadd:(⟨B,off,none⟩:Addr).add j=⟨B,off + j,none⟩:=by unfold Addr.add;split <;> simp_all
   rw [hadd];exact hcell j u hj
 · intro u hu;obtain ⟨n,rfl⟩:=entsC_int _ _ hu;rfl
 · intro g cap w' h1 h2 _ _
   refine h g cap w' ?_ h2
   unfold ownsE
   rw [List.length_append,entsC_app]
   exact h1
theorem ownsE.form {w:World} {base:Nat} {v:Value} {l:List Ent} (h:ownsE w base v l):(v=.slice none 0 0∧l=[])∨∃ g cap,v=.slice (some ⟨g,0,none⟩) l.length cap∧base≤g∧g < w.heap.size∧∀ j u,(entsC l)[j]? = some u→w.cell? ⟨g,j,none⟩=some u:=by
 have hall:=h
 have hlt:=h.lt
 obtain ⟨h0,h1⟩:=h
 rcases h1 with ⟨rfl,hn⟩ | ⟨g,cap,cur,rfl,hb,hh,hc,hm,hs,ht⟩
 · exact .inl ⟨rfl,List.length_eq_zero_iff.1 hn⟩
 · refine .inr ⟨g,cap,rfl,hb,(hlt g rfl).2,fun j u hj=>?_⟩
   have hjl:j < l.length * 2:=by rw [←entsC_len];exact (List.getElem?_eq_some_iff.1 hj).1
   rw [World.ownsRow.cellAt hall j hjl]
   exact hj
end Go.Proofs.YtjkbmfpomgcblaaGreatDoor
namespace Go.Proofs.YtjkbmfpomgcblaaGreatDoor
def opnF (s:List UInt8):Nat×List UInt8×Nat :=
 if s.length < 8 then (0,[],7) else if s.take 2≠[80,84] then (0,[],5)
 else if (s.getD 2 0).toNat < 1∨3 < (s.getD 2 0).toNat then (0,[],8)
 else if (openL s).2≠0 then (0,[],(openL s).2)
 else ((s.getD 2 0).toNat,(openL s).1.drop 3,0)
theorem opn_few {s:List UInt8} (h:s.length < 8):opnF s=(0,[],7):=by unfold opnF;rw [if_pos h]
theorem opn_name {s:List UInt8} (h:¬ s.length < 8) (h1:s.take 2≠[80,84]):opnF s=(0,[],5):=by unfold opnF;rw [if_neg h,if_pos h1]
theorem opn_none {s:List UInt8} (h:¬ s.length < 8) (h1:s.take 2=[80,84]) (h2:(s.getD 2 0).toNat < 1∨3 < (s.getD 2 0).toNat):opnF s=(0,[],8):=by
 unfold opnF;rw [if_neg h,if_neg (by simpa using h1),if_pos h2]
theorem opn_spoilt {s:List UInt8} {e:Nat} (h:¬ s.length < 8) (h1:s.take 2=[80,84]) (h2:¬ ((s.getD 2 0).toNat < 1∨3 < (s.getD 2 0).toNat)) (h3:(openL s).2=e) (he:e≠0):opnF s=(0,[],e):=by
 unfold opnF;rw [if_neg h,if_neg (by simpa using h1),if_neg h2,if_pos (by rw [h3];exact he),h3]
theorem opn_ok {s:List UInt8} (h:¬ s.length < 8) (h1:s.take 2=[80,84]) (h2:¬ ((s.getD 2 0).toNat < 1∨3 < (s.getD 2 0).toNat)) (h3:(openL s).2=0):opnF s=((s.getD 2 0).toNat,(openL s).1.drop 3,0):=by
 unfold opnF;rw [if_neg h,if_neg (by simpa using h1),if_neg h2,if_neg (by rw [h3];simp)]
theorem openL_few {l o:List UInt8} (h:openL l=(o,0)):o.length=l.length - 4:=by
 unfold openL at h
 split at h
 · injection h with _ h;cases h
 · split at h
   · injection h with h _;rw [←h,List.length_take];omega
   · injection h with _ h;cases h
theorem opn_pos {s i:List UInt8} {v:Nat} (h:opnF s=(v,i,0)):1≤i.length∧i.length≤s.length:=by
 by_cases h0:s.length < 8
 · rw [opn_few h0] at h;injection h with _ h;injection h with _ h;cases h
 · by_cases h1:s.take 2=[80,84]
   · by_cases h2:(s.getD 2 0).toNat < 1∨3 < (s.getD 2 0).toNat
     · rw [opn_none h0 h1 h2] at h;injection h with _ h;injection h with _ h;cases h
     · by_cases h3:(openL s).2=0
       · rw [opn_ok h0 h1 h2 h3] at h
         injection h with _ h
         injection h with h _
         have h4:=openL_few (l:=s) (o:=(openL s).1) (by rw [←h3])
         rw [←h,List.length_drop,h4]
         omega
       · rw [opn_spoilt h0 h1 h2 rfl h3] at h;injection h with _ h;injection h with _ h;exact absurd h h3
   · rw [opn_name h0 h1] at h;injection h with _ h;injection h with _ h;cases h
end Go.Proofs.YtjkbmfpomgcblaaGreatDoor
namespace Go.Proofs.YtjkbmfpomgcblaaGreatDoor
open Go.RowKit
theorem ret_u32 {a b:Int} (h:a=b):Ending.returned (.int .u32 a)=.returned (.int .u32 b):=by rw [h]
theorem and_one (n:Nat) (h:n < 4294967296):bits .and .u32 (n:Int) 1=((n % 2:Nat):Int):=by
 rw [show (1:Int)=((1:Nat):Int) from rfl,u32_and_nat n 1 h (by decide),Nat.and_one_is_mod]
theorem and_one_yes {n:Nat} (h:n < 4294967296) (ht:(bits .and .u32 (n:Int) 1 == 1)=true):n % 2=1:=by
 rw [and_one n h] at ht;have:=eq_of_beq ht;omega
theorem and_one_no {n:Nat} (h:n < 4294967296) (ht:(bits .and .u32 (n:Int) 1 == 1)=false):n % 2≠1:=by
 intro e;rw [and_one n h,e] at ht;exact absurd ht (by decide)
theorem half_cast (n:Nat):(n:Int) / 2=((n / 2:Nat):Int):=by omega
theorem st_yes {n:Nat} (h:n < 4294967296) (ht:n % 2=1):bits .xor .u32 ((n:Int) / 2) 2197175160=(st n:Nat):=by
 rw [st_odd ht,half_cast,show (2197175160:Int)=((2197175160:Nat):Int) from rfl,u32_xor_nat _ _ (by omega) (by omega)]
theorem st_no {n:Nat} (ht:n % 2≠1):(n:Int) / 2=(st n:Nat):=by
 rw [st_even ht,half_cast]
end Go.Proofs.YtjkbmfpomgcblaaGreatDoor
namespace Go.Proofs.YtjkbmfpomgcblaaGreatDoor
open Go.RowKit
set_option maxRecDepth 100000 in
theorem ridrightW_as (x1 x2:Int) (b:Bool) (w:World) (hb:idRW (x1,x2)=b) :
   Calls Tryz.prog 169 #[.agg #[.int .i64 x1,.int .i64 x2]] w fun e w'=>e=.returned (.bool b)∧Below w.heap.size w w':=by
 subst hb
 by_cases h1:1≤x1∧x1≤1099511627776
 · by_cases h2:0≤x2∧x2≤200
   · have HW:Hid (idRW (x1,x2)=true):=Lib.hid (by unfold idRW;exact decide_eq_true ⟨h1.1,h1.2,h2.1,h2.2⟩)
     go_enter Tryz.func169,Tryz.ntmps169
     go_wp2_with fail
     refine (within_yes x1 1 1099511627776 _ h1.1 h1.2).mono ?_
     rintro r w' ⟨rfl,rfl⟩
     go_wp2_with fail
     refine (within_yes x2 0 200 _ h2.1 h2.2).mono ?_
     rintro r w' ⟨rfl,rfl⟩
     go_wp2
     go_ret
     exact ⟨by rw [HW.out];rfl,(Below.refl _ _).alloc (Nat.le_refl _) _⟩
   · have HW:Hid (idRW (x1,x2)=false):=Lib.hid (by unfold idRW;exact decide_eq_false (fun h=>h2 h.2.2))
     by_cases h3:x2 < 0
     · go_enter Tryz.func169,Tryz.ntmps169
       go_wp2_with fail
       refine (within_yes x1 1 1099511627776 _ h1.1 h1.2).mono ?_
       rintro r w' ⟨rfl,rfl⟩
       go_wp2_with fail
       refine (within_low x2 0 200 _ h3).mono ?_
       rintro r w' ⟨rfl,rfl⟩
       go_wp2
       go_ret
       exact ⟨by rw [HW.out];rfl,(Below.refl _ _).alloc (Nat.le_refl _) _⟩
     · go_enter Tryz.func169,Tryz.ntmps169
       go_wp2_with fail
       refine (within_yes x1 1 1099511627776 _ h1.1 h1.2).mono ?_
       rintro r w' ⟨rfl,rfl⟩
       go_wp2_with fail
       refine (within_high x2 0 200 _ (by omega) (by omega)).mono ?_
       rintro r w' ⟨rfl,rfl⟩
       go_wp2
       go_ret
       exact ⟨by rw [HW.out];rfl,(Below.refl _ _).alloc (Nat.le_refl _) _⟩
 · have HW:Hid (idRW (x1,x2)=false):=Lib.hid (by unfold idRW;exact decide_eq_false (fun h=>h1 ⟨h.1,h.2.1⟩))
   by_cases h3:x1 < 1
   · go_enter Tryz.func169,Tryz.ntmps169
     go_wp2_with fail
     refine (within_low x1 1 1099511627776 _ h3).mono ?_
     rintro r w' ⟨rfl,rfl⟩
     go_wp2
     go_ret
     exact ⟨by rw [HW.out];rfl,(Below.refl _ _).alloc (Nat.le_refl _) _⟩
   · go_enter Tryz.func169,Tryz.ntmps169
     go_wp2_with fail
     refine (within_high x1 1 1099511627776 _ (by omega) (by omega)).mono ?_
     rintro r w' ⟨rfl,rfl⟩
     go_wp2
     go_ret
     exact ⟨by rw [HW.out];rfl,(Below.refl _ _).alloc (Nat.le_refl _) _⟩
end Go.Proofs.YtjkbmfpomgcblaaGreatDoor
