import Derived.WalkKit
import Derived.Test.YtjkbmfpomgcblaaGreatDoorProg
import Derived.Handy
import Derived.KernelRfl
import Derived.Below
import Derived.Lib.Hide
import Derived.Deep.AppendLies
import Derived.Laws.OwnMore
import Derived.Maps.OwnSet
import Derived.Maps.OwnOps
import Derived.Defers
import Derived.Recover
import Derived.WalkLawsBesides
import Derived.Outline
import Derived.BigQuiet
import Derived.StringKeys
namespace Go.Proofs.YtjkbmfpomgcblaaGreatDoor
theorem x4 (a b c d:Nat):(a ^^^ b) ^^^ (c ^^^ d)=(a ^^^ c) ^^^ (b ^^^ d):=by
 rw [Nat.xor_assoc,Nat.xor_assoc,←Nat.xor_assoc b,Nat.xor_comm b c,Nat.xor_assoc c]
def st (x:Nat):Nat:=if x % 2=1 then x / 2 ^^^ 2197175160 else x / 2
def stn:Nat→Nat→Nat
 | 0,x=>x
 | k + 1,x=>st (stn k x)
def pass (x:Nat):Nat:=stn 8 x
theorem st_odd {x:Nat} (h:x % 2=1):st x=x / 2 ^^^ 2197175160:=if_pos h
theorem st_even {x:Nat} (h:x % 2≠1):st x=x / 2:=if_neg h
theorem st_xor (a b:Nat):st (a ^^^ b)=st a ^^^ st b:=by
 have hp:(a ^^^ b) % 2=1↔¬(a % 2=1↔b % 2=1):=Nat.xor_mod_two_eq_one
 by_cases ha:a % 2=1 <;> by_cases hb:b % 2=1
 · rw [st_even (by rw [Ne,hp];simp [ha,hb]),st_odd ha,st_odd hb,Nat.xor_div_two,x4,Nat.xor_self,Nat.xor_zero]
 · rw [st_odd (hp.2 (by simp [ha,hb])),st_odd ha,st_even hb,Nat.xor_div_two,Nat.xor_assoc,Nat.xor_assoc,Nat.xor_comm 2197175160]
 · rw [st_odd (hp.2 (by simp [ha,hb])),st_even ha,st_odd hb,Nat.xor_div_two,Nat.xor_assoc]
 · rw [st_even (by rw [Ne,hp];simp [ha,hb]),st_even ha,st_even hb,Nat.xor_div_two]
theorem st_lt {x:Nat} (h:x < 4294967296):st x < 4294967296:=by
 have h2:x / 2 < 2 ^ 32:=by omega
 by_cases hx:x % 2=1
 · rw [st_odd hx];exact Nat.xor_lt_two_pow (n:=32) h2 (by decide)
 · rw [st_even hx];omega
theorem stn_succ (k x:Nat):stn (k + 1) x=st (stn k x):=rfl
theorem stn_add (a b x:Nat):stn (a + b) x=stn a (stn b x):=by
 induction a with
 | zero=>rw [Nat.zero_add];rfl
 | succ a ih=>rw [Nat.succ_add,stn_succ,ih,stn_succ]
theorem stn_st (k x:Nat):stn k (st x)=stn (k + 1) x:=(stn_add k 1 x).symm
theorem stn_xor (k a b:Nat):stn k (a ^^^ b)=stn k a ^^^ stn k b:=by
 induction k with
 | zero=>rfl
 | succ k ih=>rw [stn_succ,ih,st_xor];rfl
theorem stn_lt (k:Nat) {x:Nat} (h:x < 4294967296):stn k x < 4294967296:=by
 induction k with
 | zero=>exact h
 | succ k ih=>exact st_lt ih
theorem xlt {a b:Nat} (ha:a < 4294967296) (hb:b < 4294967296):a ^^^ b < 4294967296:=Nat.xor_lt_two_pow (n:=32) ha hb
theorem pass_lt {x:Nat} (h:x < 4294967296):pass x < 4294967296:=stn_lt 8 h
def run (c:Nat):List UInt8→Nat
 | []=>c
 | b :: r=>run (pass (c ^^^ b.toNat)) r
theorem byte_lt (b:UInt8):b.toNat < 4294967296:=by have:=b.toNat_lt;omega
theorem run_append (l r:List UInt8):∀ c,run c (l ++ r)=run (run c l) r:=by
 induction l with
 | nil=>intro c;rfl
 | cons b l ih=>intro c;exact ih _
theorem run_snoc (c:Nat) (l:List UInt8) (b:UInt8):run c (l ++ [b])=pass (run c l ^^^ b.toNat):=run_append l [b] c
theorem run_lt (l:List UInt8):∀ {c},c < 4294967296→run c l < 4294967296:=by
 induction l with
 | nil=>intro c h;exact h
 | cons b l ih=>intro c h;exact ih (pass_lt (xlt h (byte_lt b)))
theorem run_take (c:Nat) (l:List UInt8) (k:Nat) (h:k < l.length):run c (l.take (k + 1))=pass (run c (l.take k) ^^^ l[k].toNat):=by
 rw [List.take_succ_eq_append_getElem h,run_snoc]
def inv (x:Nat):Nat:=x ^^^ 4294967295
theorem inv_lt {x:Nat} (h:x < 4294967296):inv x < 4294967296:=xlt h (by decide)
def more (c:Nat) (l:List UInt8):Nat:=inv (run (inv c) l)
def sum (l:List UInt8):Nat:=more 0 l
theorem more_lt {c:Nat} (l:List UInt8) (h:c < 4294967296):more c l < 4294967296:=inv_lt (run_lt l (inv_lt h))
theorem sum_lt (l:List UInt8):sum l < 4294967296:=more_lt l (by decide)
def tail4 (n:Nat):List UInt8:=[UInt8.ofNat n,UInt8.ofNat (n / 256),UInt8.ofNat (n / 65536),UInt8.ofNat (n / 16777216)]
def sealL (l:List UInt8):List UInt8:=l ++ tail4 (sum l)
def openL (l:List UInt8):List UInt8×Nat :=
 if l.length < 4 then ([],7) else if l.drop (l.length - 4)=tail4 (sum (l.take (l.length - 4))) then (l.take (l.length - 4),0) else ([],15)
def val:List UInt8→Nat
 | []=>0
 | b :: r=>b.toNat ^^^ 256 * val r
theorem st_two (y:Nat):st (2 * y)=y:=by rw [st_even (by omega)];omega
theorem stn_pow (k:Nat):∀ y,stn k (y * 2 ^ k)=y:=by
 induction k with
 | zero=>intro y;exact Nat.mul_one y
 | succ k ih=>intro y;rw [←stn_st,Nat.pow_succ,←Nat.mul_assoc,Nat.mul_comm _ 2,st_two,ih]
theorem run_val (l:List UInt8):∀ c,run c l=stn (8 * l.length) (c ^^^ val l):=by
 induction l with
 | nil=>intro c;exact (Nat.xor_zero c).symm
 | cons b l ih =>
   intro c
   show run (stn 8 (c ^^^ b.toNat)) l=_
   rw [ih,List.length_cons,Nat.mul_succ,stn_add]
   congr 1
   show _=stn 8 (c ^^^ (b.toNat ^^^ 256 * val l))
   rw [←Nat.xor_assoc,stn_xor 8 _ (256 * val l),Nat.mul_comm 256,show 256=2 ^ 8 by decide,stn_pow]
theorem xor_byte (b y:Nat) (hb:b < 256):b ^^^ 256 * y=b + 256 * y:=by
 have h1:(b ^^^ 256 * y) % 2 ^ 8=b:=by rw [Nat.xor_mod_two_pow];simp [show 256 * y % 2 ^ 8=0 by omega];omega
 have h2:(b ^^^ 256 * y) / 2 ^ 8=y:=by rw [Nat.xor_div_two_pow];simp [show b / 2 ^ 8=0 by omega]
 omega
theorem val_cons (b:UInt8) (l:List UInt8):val (b :: l)=b.toNat + 256 * val l:=xor_byte _ _ b.toNat_lt
theorem val_lt (l:List UInt8):val l < 2 ^ (8 * l.length):=by
 induction l with
 | nil=>decide
 | cons b l ih =>
   have:=b.toNat_lt
   rw [val_cons,List.length_cons,Nat.mul_succ,Nat.pow_add]
   omega
def bs (c E:Nat):Nat→Nat
 | 0=>c
 | k + 1=>st (bs c E k ^^^ E / 2 ^ k % 2)
theorem half_split (x:Nat):x=x % 2 ^^^ 2 * (x / 2):=by
 refine Nat.eq_of_testBit_eq fun i=>?_
 rw [Nat.testBit_xor]
 have h1:(x % 2).testBit i=(decide (i < 1) && x.testBit i):=by rw [show x % 2=x % 2 ^ 1 by rw [Nat.pow_one],Nat.testBit_mod_two_pow]
 have h2:(2 * (x / 2)).testBit i=(decide (1≤i) && x.testBit i):=by
   rw [show 2 * (x / 2)=2 ^ 1 * (x / 2 ^ 1) by rw [Nat.pow_one],Nat.testBit_two_pow_mul,Nat.testBit_div_two_pow]
   by_cases hi:1≤i
   · simp [hi]
   · simp [hi]
 rw [h1,h2]
 by_cases hi:1≤i
 · simp [hi,show ¬ i < 1 by omega]
 · simp [hi,show i < 1 by omega]
theorem bs_closed (c E k:Nat):bs c E k ^^^ E / 2 ^ k=stn k (c ^^^ E):=by
 induction k with
 | zero=>show c ^^^ E / 1=_;rw [Nat.div_one];rfl
 | succ k ih =>
   rw [stn_succ,←ih]
   have h:E / 2 ^ k=E / 2 ^ k % 2 ^^^ 2 * (E / 2 ^ (k + 1)):=by
     rw [Nat.pow_succ,←Nat.div_div_eq_div_mul];exact half_split _
   conv=>rhs;rw [h]
   rw [←Nat.xor_assoc,st_xor _ (2 * _),st_two];rfl
theorem bs_run (c:Nat) (l:List UInt8):bs c (val l) (8 * l.length)=run c l:=by
 have:=bs_closed c (val l) (8 * l.length)
 rw [Nat.div_eq_of_lt (val_lt l),Nat.xor_zero,←run_val] at this
 exact this
theorem bs_lt {c:Nat} (E k:Nat) (h:c < 4294967296):bs c E k < 4294967296:=by
 induction k with
 | zero=>exact h
 | succ k ih=>exact st_lt (xlt ih (by omega))
theorem val_bit (l:List UInt8):∀ (j r:Nat) (h:j < l.length),r < 8→val l / 2 ^ (8 * j + r) % 2=l[j].toNat / 2 ^ r % 2:=by
 induction l with
 | nil=>intro j r h;simp at h
 | cons b l ih =>
   intro j r h hr
   rw [val_cons]
   have hb:=b.toNat_lt
   cases j with
   | zero =>
     rw [Nat.mul_zero,Nat.zero_add,List.getElem_cons_zero]
     rw [show 256 * val l=2 ^ r * (2 ^ (8 - r) * val l) by rw [←Nat.mul_assoc,←Nat.pow_add,show r + (8 - r)=8 by omega]]
     rw [Nat.add_mul_div_left _ _ (Nat.two_pow_pos r),show 8 - r=(7 - r) + 1 by omega,Nat.pow_succ,Nat.mul_comm _ 2,Nat.mul_assoc]
     omega
   | succ j =>
     rw [List.getElem_cons_succ,←ih j r (by simpa using h) hr,Nat.mul_succ,show 8 * j + 8 + r=8 + (8 * j + r) by omega,Nat.pow_add,←Nat.div_div_eq_div_mul]
     congr 2
     omega
end Go.Proofs.YtjkbmfpomgcblaaGreatDoor
namespace Go.Proofs.YtjkbmfpomgcblaaGreatDoor
theorem toL (s:ByteArray):s.toList=s.data.toList:=ByteArray.toList_eq s
theorem bytes_ext {a b:ByteArray} (h:a.data.toList=b.data.toList):a=b:=by
 cases a;cases b;simp_all
end Go.Proofs.YtjkbmfpomgcblaaGreatDoor
namespace Go.Proofs.YtjkbmfpomgcblaaGreatDoor
structure Tok where
 own:ByteArray
 back:Int
 size:Int
deriving DecidableEq
end Go.Proofs.YtjkbmfpomgcblaaGreatDoor
namespace Go.Proofs.YtjkbmfpomgcblaaGreatDoor
open Go.RowKit
def atIs (w:World) (v:Value) (r:Nat×Int):Prop :=
 (r=(0,-1)∧v=.nilIface)∨(r.1≠0∧∃ b,v=.iface 111 (.pointer (some ⟨b,0,none⟩))∧b < w.heap.size∧w.cell? ⟨b,0,none⟩=some (.int .i64 (r.1:Nat))∧w.cell? ⟨b,1,none⟩=some (.int .i64 r.2))
theorem atIs.below {w w':World} {v:Value} {r:Nat×Int} (h:atIs w v r) (hb:Below w.heap.size w w'):atIs w' v r:=by
 rcases h with h | ⟨h0,b,h1,h2,h3,h4⟩
 · exact .inl h
 · exact .inr ⟨h0,b,h1,Nat.lt_of_lt_of_le h2 hb.size,(hb.cell (p:=⟨b,0,none⟩) h2).trans h3,(hb.cell (p:=⟨b,1,none⟩) h2).trans h4⟩
theorem atIs.new (w:World) (e:Nat) (pl:Int) (he:e≠0):atIs (w.alloc (.cells #[.int .i64 e,.int .i64 pl] 113)) (.iface 111 (.pointer (some ⟨w.heap.size,0,none⟩))) (e,pl) :=
 .inr ⟨he,_,rfl,by simp,by simp,by simp⟩
def RightIs (w:World) (r:Nat×Int) (e:Ending) (w':World):Prop :=
 ∃ v,e=.returned v∧atIs w' v r∧Below w.heap.size w w'
end Go.Proofs.YtjkbmfpomgcblaaGreatDoor
namespace Go.Proofs.YtjkbmfpomgcblaaGreatDoor
open Go.RowKit
theorem info_str:(Tryz.prog.info? 9).map (fun i=>(i.zero,i.size,i.bytes))=some (some (.string ⟨#[]⟩),1,16):=by kernel_rfl
def ownsS (w:World) (base:Nat) (v:Value) (l:List ByteArray):Prop:=w.ownsRow base 9 1 v l.length (l.map Value.string)
theorem ownsS_nil (w:World) (base:Nat):ownsS w base (.slice none 0 0) []:=World.ownsRow_nil _ _ _ _
theorem ownsS.alloc {w:World} {base:Nat} {v:Value} {l:List ByteArray} (h:ownsS w base v l) (o:Obj):ownsS (w.alloc o) base v l:=World.ownsRow.alloc h o
theorem ownsS.drew {w:World} {base:Nat} {v:Value} {l:List ByteArray} (h:ownsS w base v l):ownsS w.drew base v l:=World.ownsRow.drew h
theorem ownsS.lt {w:World} {base:Nat} {v:Value} {l:List ByteArray} (h:ownsS w base v l):∀ k,v.ownBlock=some k→base≤k∧k < w.heap.size:=World.ownsRow.lt h
theorem ownsS.below {w w':World} {base:Nat} {v:Value} {l:List ByteArray} (h:ownsS w base v l) (hb:Below w.heap.size w w'):ownsS w' base v l:=by
 refine World.ownsRow.kept h (row:=none) ⟨hb.os,hb.tape,hb.output,hb.size,fun k hk _=>hb.block k hk⟩ ?_
 cases hv:v.ownBlock with
 | none=>exact .inl rfl
 | some g=>exact .inr (by simp)
theorem ownsS.forms {w:World} {base:Nat} {v:Value} {l:List ByteArray} (h:ownsS w base v l) :
   (v=.slice none 0 0∧l=[])∨∃ g cap,v=.slice (some ⟨g,0,none⟩) l.length cap∧base≤g∧g < w.heap.size∧∀ j,j < l.length→w.cell? ⟨g,j,none⟩=some (.string (l.getD j ByteArray.empty)):=by
 have hall:=h
 obtain ⟨h0,h1⟩:=h
 rcases h1 with ⟨rfl,hn⟩ | ⟨g,cap,cur,rfl,hb,hh,hc,hm,hs,ht⟩
 · exact .inl ⟨rfl,List.length_eq_zero_iff.1 hn⟩
 · refine .inr ⟨g,cap,rfl,hb,(World.ownsRow.lt hall g rfl).2,fun j hj=>?_⟩
   rw [World.ownsRow.cellAt hall j (by omega)]
   simp [List.getElem?_eq_getElem hj]
theorem wpList_append_str {w:World} {ops:Array Oper} {rest:List Oper} {o:Oper} {a:Act} {Q:Exit→Act→World→Prop} (hgd:o.guard=none) (s x:Operand)
   (ho:o.op=.call { callee:=.builtin .append,args:=#[s,x],argTypes:=#[126,126] })
   (base:Nat) (v:Value) (l:List ByteArray) (hs:a.eval s=v) (hown:ownsS w base v l)
   (ad:Addr) (c:Nat) (hx:a.eval x=.slice (some ad) 1 c) (d:ByteArray) (hcell:w.cell? (ad.add 0)=some (.string d))
   (hlen:l.length + 1≤8796093022208) (hbase:base≤w.heap.size)
   (h:∀ g cap w',ownsS w' base (.slice (some ⟨g,0,none⟩) (l.length + 1) cap) (l ++ [d])→w.grownBy w' v.ownBlock→wpList Tryz.prog ops Q rest (a.put o.dst (.slice (some ⟨g,0,none⟩) (l.length + 1) cap)) w'):wpList Tryz.prog ops Q (o :: rest) a w:=by
 obtain ⟨i0,hi,hz0,hz1,hz2⟩:=info_parts info_str
 refine wpList_append_lies w hgd s x 126 ho base 9 i0 (.string ⟨#[]⟩) 1 16 Tryz.underlying126 hi hz0 hz1 hz2 rfl (by decide) v l.length (l.map Value.string) hs hown ad 1 c [.string d] hx rfl ?_ ?_ (by decide) (by unfold maxLen;omega) (by omega) hbase _ rfl ?_
 · intro j u hj
   match j,hj with
   | 0,hj=>simp at hj;subst hj;exact hcell
 · intro u hu;simp at hu;subst hu;rfl
 · intro g cap w' h1 h2 _ _
   refine h g cap w' ?_ h2
   unfold ownsS
   rw [List.length_append,List.map_append]
   exact h1
end Go.Proofs.YtjkbmfpomgcblaaGreatDoor
namespace Go.Proofs.YtjkbmfpomgcblaaGreatDoor
open Go.RowKit
def bitsF:Nat→Nat→Nat
 | 0,_=>0
 | f + 1,n=>if n=0 then 0 else bitsF f (n / 2) + 1
def LTabIs (T : ByteArray) : Prop := ∀ x, x < 256 → ∃ h : x < T.size, (T[x]'h).toNat = bitsF 8 x
theorem LTabIs.at {T : ByteArray} (H : LTabIs T) {n : Int} (x : Nat) (e : n.toNat = x) (hx : x < 256) (h : n.toNat < T.size) : (T[n.toNat]'h).toNat = bitsF 8 x := by
 obtain ⟨_,h2⟩:=H n.toNat (by omega)
 rw [h2,e]
end Go.Proofs.YtjkbmfpomgcblaaGreatDoor
namespace Go.Proofs.YtjkbmfpomgcblaaGreatDoor
open Go.RowKit
theorem good_any (w:World):Calls Tryz.prog 67 #[] w fun e w'=>e=.returned (.agg #[.int .i64 0,.int .i64 (-1)])∧Below w.heap.size w w':=by
 go_enter Tryz.func67,Tryz.ntmps67
 go_wp2
 refine bodyPost_ret (v:=.agg #[.int .i64 0,.int .i64 (-1)]) (by simp [results,Tryz.results67,go_sem]) rfl ?_
 exact ⟨rfl,(Below.refl _ _).alloc (Nat.le_refl _) _⟩
theorem is_any (e pl:Int) (w:World):Calls Tryz.prog 36 #[.agg #[.int .i64 e,.int .i64 pl]] w fun r w'=>r=.returned (.bool (e == 0))∧Below w.heap.size w w':=by
 go_enter Tryz.func36,Tryz.ntmps36
 go_wp2
 go_ret
 exact ⟨rfl,(Below.refl _ _).alloc (Nat.le_refl _) _⟩
def faultV (r:Nat×Int):Value:=.agg #[.int .i64 (r.1:Nat),.int .i64 r.2]
end Go.Proofs.YtjkbmfpomgcblaaGreatDoor
namespace Go.Proofs.YtjkbmfpomgcblaaGreatDoor
open Go.RowKit
theorem info_int:(Tryz.prog.info? 3).map (fun i=>(i.zero,i.size,i.bytes))=some (some (.int .i64 0),1,8):=by kernel_rfl
def natV (n:Nat):Value:=.int .i64 (n:Int)
def ownsN (w:World) (base:Nat) (v:Value) (l:List Nat):Prop:=w.ownsRow base 3 1 v l.length (l.map natV)
theorem ownsN_nil (w:World) (base:Nat):ownsN w base (.slice none 0 0) []:=World.ownsRow_nil _ _ _ _
theorem ownsN.alloc {w:World} {base:Nat} {v:Value} {l:List Nat} (h:ownsN w base v l) (o:Obj):ownsN (w.alloc o) base v l:=World.ownsRow.alloc h o
theorem ownsN.drew {w:World} {base:Nat} {v:Value} {l:List Nat} (h:ownsN w base v l):ownsN w.drew base v l:=World.ownsRow.drew h
theorem ownsN.lt {w:World} {base:Nat} {v:Value} {l:List Nat} (h:ownsN w base v l):∀ k,v.ownBlock=some k→base≤k∧k < w.heap.size:=World.ownsRow.lt h
theorem ownsN.below {w w':World} {base:Nat} {v:Value} {l:List Nat} (h:ownsN w base v l) (hb:Below w.heap.size w w'):ownsN w' base v l:=by
 refine World.ownsRow.kept h (row:=none) ⟨hb.os,hb.tape,hb.output,hb.size,fun k hk _=>hb.block k hk⟩ ?_
 cases hv:v.ownBlock with
 | none=>exact .inl rfl
 | some g=>exact .inr (by simp)
theorem ownsN.forms {w:World} {base:Nat} {v:Value} {l:List Nat} (h:ownsN w base v l) :
   (v=.slice none 0 0∧l=[])∨∃ g cap,v=.slice (some ⟨g,0,none⟩) l.length cap∧base≤g∧g < w.heap.size∧∀ j,j < l.length→w.cell? ⟨g,j,none⟩=some (.int .i64 ((l.getD j 0:Nat):Int)):=by
 have hall:=h
 obtain ⟨h0,h1⟩:=h
 rcases h1 with ⟨rfl,hn⟩ | ⟨g,cap,cur,rfl,hb,hh,hc,hm,hs,ht⟩
 · exact .inl ⟨rfl,List.length_eq_zero_iff.1 hn⟩
 · refine .inr ⟨g,cap,rfl,hb,(World.ownsRow.lt hall g rfl).2,fun j hj=>?_⟩
   rw [World.ownsRow.cellAt hall j (by omega)]
   simp [List.getElem?_eq_getElem hj,natV]
theorem wpList_append_int {w:World} {ops:Array Oper} {rest:List Oper} {o:Oper} {a:Act} {Q:Exit→Act→World→Prop} (hgd:o.guard=none) (s x:Operand)
   (ho:o.op=.call { callee:=.builtin .append,args:=#[s,x],argTypes:=#[127,127] })
   (base:Nat) (v:Value) (l:List Nat) (hs:a.eval s=v) (hown:ownsN w base v l)
   (ad:Addr) (c:Nat) (hx:a.eval x=.slice (some ad) 1 c) (d:Nat) (hcell:w.cell? (ad.add 0)=some (.int .i64 (d:Int)))
   (hlen:l.length + 1≤8796093022208) (hbase:base≤w.heap.size)
   (h:∀ g cap w',ownsN w' base (.slice (some ⟨g,0,none⟩) (l.length + 1) cap) (l ++ [d])→w.grownBy w' v.ownBlock→wpList Tryz.prog ops Q rest (a.put o.dst (.slice (some ⟨g,0,none⟩) (l.length + 1) cap)) w'):wpList Tryz.prog ops Q (o :: rest) a w:=by
 obtain ⟨i0,hi,hz0,hz1,hz2⟩:=info_parts info_int
 refine wpList_append_lies w hgd s x 127 ho base 3 i0 (.int .i64 0) 1 8 Tryz.underlying127 hi hz0 hz1 hz2 rfl (by decide) v l.length (l.map natV) hs hown ad 1 c [natV d] hx rfl ?_ ?_ (by decide) (by unfold maxLen;omega) (by omega) hbase _ rfl ?_
 · intro j u hj
   match j,hj with
   | 0,hj=>simp at hj;subst hj;exact hcell
 · intro u hu;simp at hu;subst hu;rfl
 · intro g cap w' h1 h2 _ _
   refine h g cap w' ?_ h2
   unfold ownsN
   rw [List.length_append,List.map_append]
   exact h1
end Go.Proofs.YtjkbmfpomgcblaaGreatDoor
namespace Go.Proofs.YtjkbmfpomgcblaaGreatDoor
open Go.Maps
def keyL (s:ByteArray):Lit:=.string s.data.toList
theorem keyL_inj {a b:ByteArray} (h:keyL a=keyL b):a=b:=by
 unfold keyL at h
 cases a;cases b
 simpa using h
theorem keyL_key (s:ByteArray):WideAt.IsKeyLit (keyL s):=trivial
theorem keyN (k:Int):WideAt.IsKeyLit (.int .i64 k):=trivial
structure NumM (D:DataW Unit) (t:List ByteArray):Prop where
 isMap:IsMap D
 nodup:t.Nodup
 there:∀ s,s∈t→has D (keyL s)=true
 none:∀ s,s ∉ t→has D (keyL s)=false
 at':∀ s (j:Nat),t[j]? = some s→D.atKey (keyL s) (.lit (.int .i64 0))=.lit (.int .i64 j)
theorem NumM.put {D:DataW Unit} {t:List ByteArray} (h:NumM D t) {s:ByteArray} (hs:s ∉ t):NumM (D.put (keyL s) (.lit (.int .i64 t.length))) (t ++ [s]):=by
 refine ⟨h.isMap.put _ _,?_,?_,?_,?_⟩
 · rw [List.nodup_append]
   exact ⟨h.nodup,by simp,fun a ha b hb=>by simp at hb;subst hb;rintro rfl;exact hs ha⟩
 · intro x hx
   rcases List.mem_append.1 hx with hx | hx
   · rw [has_put_other (fun e=>hs (by rw [←keyL_inj e];exact hx))];exact h.there x hx
   · simp at hx;subst hx;exact has_put_same h.isMap (keyL_key _) _
 · intro x hx
   have h1:x ∉ t:=fun h=>hx (List.mem_append_left _ h)
   have h2:x≠s:=fun e=>hx (by rw [e];simp)
   rw [has_put_other (fun e=>h2 (keyL_inj e))];exact h.none x h1
 · intro x j hj
   by_cases hlt:j < t.length
   · rw [List.getElem?_append_left hlt] at hj
     have hx:x∈t:=List.mem_of_getElem? hj
     rw [atKey_put_other (fun e=>hs (by rw [←keyL_inj e];exact hx))];exact h.at' x j hj
   · rw [List.getElem?_append_right (by omega)] at hj
     have hj0:j - t.length=0:=by have:=(List.getElem?_eq_some_iff.1 hj).1;simpa using this
     rw [hj0] at hj
     simp at hj
     subst hj
     rw [atKey_put_same h.isMap (keyL_key _)]
     rw [show j=t.length by omega]
structure SetM (D:DataW Unit) (t:List ByteArray):Prop where
 isMap:IsMap D
 there:∀ s,s∈t→D.atKey (keyL s) (.lit (.bool false))=.lit (.bool true)
 none:∀ s,s ∉ t→D.atKey (keyL s) (.lit (.bool false))=.lit (.bool false)
theorem setM_nil:SetM (.map []) []:=⟨isMap_empty,fun _ h=>(by cases h),fun _ _=>rfl⟩
theorem SetM.put {D:DataW Unit} {t:List ByteArray} (h:SetM D t) (s:ByteArray):SetM (D.put (keyL s) (.lit (.bool true))) (t ++ [s]):=by
 refine ⟨h.isMap.put _ _,?_,?_⟩
 · intro x hx
   by_cases e:x=s
   · subst e;rw [atKey_put_same h.isMap (keyL_key _)]
   · rw [atKey_put_other (fun h=>e (keyL_inj h))]
     rcases List.mem_append.1 hx with hx | hx
     · exact h.there x hx
     · simp at hx;exact absurd hx e
 · intro x hx
   have h1:x ∉ t:=fun h=>hx (List.mem_append_left _ h)
   have h2:x≠s:=fun e=>hx (by rw [e];simp)
   rw [atKey_put_other (fun e=>h2 (keyL_inj e))];exact h.none x h1
structure ToldM (D:DataW Unit) (m:Nat):Prop where
 tidy:Tidy D
 size:Maps.size D=m
 below:∀ j:Nat,has D (.int .i64 j)=decide (j < m)
theorem toldM_nil:ToldM (.map []) 0:=⟨tidy_empty,rfl,fun _=>rfl⟩
theorem ToldM.old {D:DataW Unit} {m j:Nat} (h:ToldM D m) (hj:j < m):ToldM (D.put (.int .i64 j) (.lit (.bool true))) m:=by
 refine ⟨h.tidy.put (keyN _) _,?_,?_⟩
 · rw [size_put h.tidy,h.below j,if_pos (by simpa using hj),h.size]
 · intro i
   by_cases e:i=j
   · subst e;rw [has_put_same h.tidy.isMap (keyN _)];simp [hj]
   · rw [has_put_other (by simp;omega)];exact h.below i
theorem ToldM.new {D:DataW Unit} {m:Nat} (h:ToldM D m):ToldM (D.put (.int .i64 m) (.lit (.bool true))) (m + 1):=by
 refine ⟨h.tidy.put (keyN _) _,?_,?_⟩
 · rw [size_put h.tidy,h.below m,if_neg (by simp),h.size]
 · intro i
   by_cases e:i=m
   · subst e;rw [has_put_same h.tidy.isMap (keyN _)];simp
   · rw [has_put_other (by simp;omega),h.below i]
     by_cases h1:i < m
     · simp [h1];omega
     · simp [h1];omega
theorem plainElem_bool_inv {H:Type} {P:Program} {e:TypeId} (he:P.underlying e=some .bool) {v:Value} {z:DataW H×List MemPlace} (h:plainElem P e v=some z):∃ x,v=.bool x∧z=(.lit (.bool x),[]):=by
 unfold plainElem at h
 rw [he] at h
 cases v <;> simp at h
 exact ⟨_,rfl,h.symm⟩
theorem wpList_lookup_own_is {H:Type} {P:Program} (w:World) {ops:Array Oper} {rest:List Oper} {o:Oper} {a:Act} {Q:Exit→Act→World→Prop}
   (hg:o.guard=none) (m x:Operand) (t:TypeId) (hop:o.op=Op.lookup t m x false)
   (k e:TypeId) (K:Keyed P k) (ht:P.underlying t=some (.map k e)) (R:Value→Option (DataW H×List MemPlace)) {z:Value} (hz:(zeroValue e).run P w=.ok z w) (zd:DataW H) (zp:List MemPlace) (hzd:R z=some (zd,zp)) (b n:Nat) (D:DataW H)
   (hm:a.eval m=.map (some b)) (hown:w.ownsMap P k R b n D) (key:Value) (kl:Lit) (hx:a.eval x=key) (hkey:keyOf P k key=some kl) (val:Value) (hval:∀ v ps,R v=some (D.atKey kl zd,ps)→v=val)
   (hK:wpList P ops Q rest (a.put o.dst val) w) :
   wpList P ops Q (o :: rest) a w:=by
 refine wpList_plain hg fun K' hK'=>?_
 obtain ⟨v,ps,hrun,hv⟩:=hown.lookup K ht hz hzd hkey
 unfold Oper.wp
 simp [execOp,hop,hm,hx,hrun,Result.andThen]
 rw [hval v ps hv]
 exact hK' _ _ hK
end Go.Proofs.YtjkbmfpomgcblaaGreatDoor
namespace Go.Proofs.YtjkbmfpomgcblaaGreatDoor
open Go.RowKit
set_option maxRecDepth 100000 in
theorem throw_any (e pl:Int) (w:World):Calls Tryz.prog 77 #[.int .i64 e,.int .i64 pl] w fun r w'=>r=.panicked [{ v:=.iface 156 (.agg #[.int .i64 e,.int .i64 pl]),recovered:=false }]∧w'=w:=by
 go_enter Tryz.func77,Tryz.ntmps77
 go_wp2
 exact ⟨rfl,rfl,rfl⟩
set_option maxRecDepth 100000 in
theorem isThrown (v:Value) (xT:TypeId) (w:World):(Instr.typeAssert (.iface 156 v) xT 156 true).run Tryz.prog w=.ok (.tuple #[v,.bool true]) w:=by
 simp [Instr.typeAssert,run_underlying Tryz.underlying156]
set_option maxRecDepth 100000 in
theorem caught_pan (F:Nat) (e pl x y:Int) (older:List PanicEntry) (w:World) (hF:F < w.heap.size) (h0:w.cell? ⟨F,0,none⟩=some (.int .i64 x)) (h1:w.cell? ⟨F,1,none⟩=some (.int .i64 y)) (z0:w.frozen? ⟨F,0,none⟩=false) (z1:w.frozen? ⟨F,1,none⟩=false) :
   CallsD Tryz.prog 75 #[.pointer (some ⟨F,0,none⟩)] (.panicking ({ v:=.iface 156 (.agg #[.int .i64 e,.int .i64 pl]),recovered:=false } :: older)) w fun r u' w' =>
     r=.returned (.tuple #[])∧u'=.panicking ({ v:=.iface 156 (.agg #[.int .i64 e,.int .i64 pl]),recovered:=true } :: older)∧w'=((w.setCell ⟨F,0,none⟩ (.int .i64 e)).setCell ⟨F,1,none⟩ (.int .i64 pl)).alloc (.cells #[.int .i64 e,.int .i64 pl] 156):=by
 have iT:=isThrown
 refine callsD_of_wpS Tryz.func75 rfl fun c₀ cs hu=>?_
 apply wpS_seq
 apply wpS_region
 simp [wpOpsS,go_sem,recoverD,hu,Tryz.ntmps75,Exit.thenS]
 refine wpS_of_wp ?_
 rw [show (#[.pointer (some ⟨F,0,none⟩)] ++ ((Array.replicate 19 undef).setIfInBounds 4 (.iface 156 (.agg #[.int .i64 e,.int .i64 pl]))).setIfInBounds 1 (.iface 156 (.agg #[.int .i64 e,.int .i64 pl])):Array Value)=#[.pointer (some ⟨F,0,none⟩),undef,.iface 156 (.agg #[.int .i64 e,.int .i64 pl]),undef,undef,.iface 156 (.agg #[.int .i64 e,.int .i64 pl]),undef,undef,undef,undef,undef,undef,undef,undef,undef,undef,undef,undef,undef,undef] by kernel_rfl]
 go_wp2
 simp [bodyPostS,results,Tryz.results75]
set_option maxRecDepth 100000 in
theorem caught_idle (p:Value) (w:World) :
   CallsD Tryz.prog 75 #[p] .returning w fun r u' w'=>r=.returned (.tuple #[])∧u'=.returning∧w'=w:=by
 refine callsD_of_wpS Tryz.func75 rfl fun c₀ cs hu=>?_
 apply wpS_seq
 apply wpS_region
 simp [wpOpsS,go_sem,recoverD,hu,Tryz.ntmps75,Exit.thenS]
 refine wpS_of_wp ?_
 rw [show (#[p] ++ ((Array.replicate 19 undef).setIfInBounds 4 .nilIface).setIfInBounds 1 .nilIface:Array Value)=#[p,undef,.nilIface,undef,undef,.nilIface,undef,undef,undef,undef,undef,undef,undef,undef,undef,undef,undef,undef,undef,undef] by kernel_rfl]
 go_wp2
 cases c₀
 simp_all [bodyPostS,results,Tryz.results75]
end Go.Proofs.YtjkbmfpomgcblaaGreatDoor
namespace Go.Proofs.YtjkbmfpomgcblaaGreatDoor
open Go.RowKit
def IsTexts (w:World) (v:Value) (l:List ByteArray):Prop :=
 ∃ a cap,v=.slice a l.length cap∧l.length≤cap∧∀ k s,l[k]? = some s→∃ b off,a=some ⟨b,off,none⟩∧b < w.heap.size∧w.cell? ⟨b,off + k,none⟩=some (.string s)
def IsNums (w:World) (v:Value) (l:List Int):Prop :=
 ∃ a cap,v=.slice a l.length cap∧l.length≤cap∧∀ k n,l[k]? = some n→∃ b off,a=some ⟨b,off,none⟩∧b < w.heap.size∧w.cell? ⟨b,off + k,none⟩=some (.int .i64 n)
theorem IsTexts.below {w w':World} {v:Value} {l:List ByteArray} (h:IsTexts w v l) (hb:Below w.heap.size w w'):IsTexts w' v l:=by
 obtain ⟨a,cap,h1,h2,h3⟩:=h
 exact ⟨a,cap,h1,h2,fun k s hk=>by obtain ⟨b,off,e,hlt,hc⟩:=h3 k s hk;exact ⟨b,off,e,Nat.lt_of_lt_of_le hlt hb.size,(hb.cell hlt).trans hc⟩⟩
theorem IsNums.below {w w':World} {v:Value} {l:List Int} (h:IsNums w v l) (hb:Below w.heap.size w w'):IsNums w' v l:=by
 obtain ⟨a,cap,h1,h2,h3⟩:=h
 exact ⟨a,cap,h1,h2,fun k s hk=>by obtain ⟨b,off,e,hlt,hc⟩:=h3 k s hk;exact ⟨b,off,e,Nat.lt_of_lt_of_le hlt hb.size,(hb.cell hlt).trans hc⟩⟩
theorem IsTexts.alloc {w:World} {v:Value} {l:List ByteArray} (h:IsTexts w v l) (o:Obj):IsTexts (w.alloc o) v l:=h.below ((Below.refl _ _).alloc (Nat.le_refl _) _)
theorem IsNums.alloc {w:World} {v:Value} {l:List Int} (h:IsNums w v l) (o:Obj):IsNums (w.alloc o) v l:=h.below ((Below.refl _ _).alloc (Nat.le_refl _) _)
theorem IsTexts.drewN {w:World} {v:Value} {l:List ByteArray} (h:IsTexts w v l) (n:Nat):IsTexts (w.drewN n) v l:=h.below ⟨rfl,rfl,rfl,Nat.le_refl _,fun _ _=>rfl⟩
theorem IsNums.drewN {w:World} {v:Value} {l:List Int} (h:IsNums w v l) (n:Nat):IsNums (w.drewN n) v l:=h.below ⟨rfl,rfl,rfl,Nat.le_refl _,fun _ _=>rfl⟩
theorem IsTexts.drew {w:World} {v:Value} {l:List ByteArray} (h:IsTexts w v l):IsTexts w.drew v l:=h.below ((Below.refl _ _).drew)
theorem IsNums.drew {w:World} {v:Value} {l:List Int} (h:IsNums w v l):IsNums w.drew v l:=h.below ((Below.refl _ _).drew)
theorem isTexts_nil (w:World):IsTexts w (.slice none 0 0) []:=⟨none,0,rfl,Nat.le_refl _,fun k s h=>by simp at h⟩
theorem isNums_nil (w:World):IsNums w (.slice none 0 0) []:=⟨none,0,rfl,Nat.le_refl _,fun k s h=>by simp at h⟩
theorem IsTexts.take {w:World} {a:Option Addr} {cap:Nat} {l:List ByteArray} (h:IsTexts w (.slice a l.length cap) l) (i c:Nat) (hi:i≤l.length) (hc:i≤c):IsTexts w (.slice a i c) (l.take i):=by
 obtain ⟨a',cap',h1,h2,h3⟩:=h
 obtain ⟨rfl,_,rfl⟩:=Value.slice.inj h1
 refine ⟨a,c,by rw [List.length_take,Nat.min_eq_left hi],by rw [List.length_take];omega,fun k s hk=>?_⟩
 have hki:k < i:=by have:=(List.getElem?_eq_some_iff.1 hk).1;rw [List.length_take] at this;omega
 rw [List.getElem?_take_of_lt hki] at hk
 exact h3 k s hk
theorem ownsS.isTexts {w:World} {base:Nat} {v:Value} {l:List ByteArray} (h:ownsS w base v l):IsTexts w v l:=by
 rcases h.forms with ⟨rfl,rfl⟩ | ⟨g,cap,rfl,hb,hg,hc⟩
 · exact isTexts_nil w
 · have hcap : l.length ≤ cap := by
     rcases h.2 with ⟨e,_⟩ | ⟨_,_,_,e,_,_,hcl,_⟩
     · simp at e
     · obtain ⟨_,_,rfl⟩:=Value.slice.inj e;omega
   refine ⟨_,cap,rfl,hcap,fun k s hk=>⟨g,0,rfl,hg,?_⟩⟩
   obtain ⟨hkl,e⟩:=List.getElem?_eq_some_iff.1 hk
   have:=hc k hkl
   rw [Nat.zero_add,this]
   simp [List.getD_eq_getElem?_getD,hk]
theorem ownsN.isNums {w:World} {base:Nat} {v:Value} {l:List Nat} (h:ownsN w base v l):IsNums w v (l.map Int.ofNat):=by
 rcases h.forms with ⟨rfl,rfl⟩ | ⟨g,cap,rfl,hb,hg,hc⟩
 · exact isNums_nil w
 · have hcap : l.length ≤ cap := by
     rcases h.2 with ⟨e,_⟩ | ⟨_,_,_,e,_,_,hcl,_⟩
     · simp at e
     · obtain ⟨_,_,rfl⟩:=Value.slice.inj e;omega
   refine ⟨some ⟨g,0,none⟩,cap,by rw [List.length_map],by rw [List.length_map];exact hcap,fun k s hk=>⟨g,0,rfl,hg,?_⟩⟩
   rw [List.getElem?_map] at hk
   obtain ⟨n,hn,rfl⟩:=Option.map_eq_some_iff.1 hk
   have hkl:=(List.getElem?_eq_some_iff.1 hn).1
   have:=hc k hkl
   rw [Nat.zero_add,this]
   simp [List.getD_eq_getElem?_getD,hn]
theorem ownsS.off {w:World} {base b:Nat} {v:Value} {l:List ByteArray} (h:ownsS w base v l) (hb:b < base):v.ownBlock≠some b:=fun e=>by have:=(h.lt b e).1;omega
theorem ownsN.off {w:World} {base b:Nat} {v:Value} {l:List Nat} (h:ownsN w base v l) (hb:b < base):v.ownBlock≠some b:=fun e=>by have:=(h.lt b e).1;omega
theorem ownsS.mono {w:World} {base b:Nat} {v:Value} {l:List ByteArray} (h:ownsS w base v l) (hb:b≤base):ownsS w b v l:=by
 refine ⟨h.1,?_⟩
 rcases h.2 with h1 | ⟨g,cap,cur,e,h2,h3⟩
 · exact .inl h1
 · exact .inr ⟨g,cap,cur,e,Nat.le_trans hb h2,h3⟩
theorem ownsN.mono {w:World} {base b:Nat} {v:Value} {l:List Nat} (h:ownsN w base v l) (hb:b≤base):ownsN w b v l:=by
 refine ⟨h.1,?_⟩
 rcases h.2 with h1 | ⟨g,cap,cur,e,h2,h3⟩
 · exact .inl h1
 · exact .inr ⟨g,cap,cur,e,Nat.le_trans hb h2,h3⟩
end Go.Proofs.YtjkbmfpomgcblaaGreatDoor
namespace Go.Proofs.YtjkbmfpomgcblaaGreatDoor
open Go.RowKit Go.Maps
theorem keyedS:Keyed Tryz.prog 9:=string_keyed Tryz.underlying9
theorem keyS {s:ByteArray} (h:s.size≤maxLen):keyOf Tryz.prog 9 (.string s)=some (keyL s):=Go.WideMaps.keyOf_string_mk Tryz.underlying9 h
def ownsNum (w:World) (b n:Nat) (t:List ByteArray):Prop:=∃ D,NumM D t∧w.ownsMap Tryz.prog 9 (plainElem Tryz.prog 3) b n D
theorem ownsNum.kept {w w':World} {b n:Nat} {t:List ByteArray} {row:Option Nat} (h:ownsNum w b n t) (hg:w.grownBy w' row) (hne:some b≠row):ownsNum w' b n t:=by
 obtain ⟨D,h1,h2⟩:=h;exact ⟨D,h1,h2.kept hg hne⟩
theorem ownsNum.alloc {w:World} {b n:Nat} {t:List ByteArray} (h:ownsNum w b n t) (o:Obj):ownsNum (w.alloc o) b n t:=by
 obtain ⟨D,h1,h2⟩:=h;exact ⟨D,h1,h2.alloc o⟩
theorem ownsNum.drew {w:World} {b n:Nat} {t:List ByteArray} (h:ownsNum w b n t):ownsNum w.drew b n t:=by
 obtain ⟨D,h1,h2⟩:=h;exact ⟨D,h1,h2.drew⟩
theorem ownsNum.mono {w:World} {b n m:Nat} {t:List ByteArray} (h:ownsNum w b n t) (hm:n≤m):ownsNum w b m t:=by
 obtain ⟨D,h1,h2⟩:=h;exact ⟨D,h1,h2.mono hm⟩
theorem ownsNum.lt {w:World} {b n:Nat} {t:List ByteArray} (h:ownsNum w b n t):b < w.heap.size:=by
 obtain ⟨D,h1,h2⟩:=h;exact h2.lt
theorem ownsNum.below {w w':World} {b n:Nat} {t:List ByteArray} (h:ownsNum w b n t) (hb:Below w.heap.size w w'):ownsNum w' b n t :=
 h.kept (row:=none) ⟨hb.os,hb.tape,hb.output,hb.size,fun k hk _=>hb.block k hk⟩ (by simp)
theorem ownsNum.nodup {w:World} {b n:Nat} {t:List ByteArray} (h:ownsNum w b n t):t.Nodup:=by
 obtain ⟨D,h1,h2⟩:=h;exact h1.nodup
section
variable {w:World} {ops:Array Oper} {rest:List Oper} {o:Oper} {a:Act} {Q:Exit→Act→World→Prop}
end
end Go.Proofs.YtjkbmfpomgcblaaGreatDoor
namespace Go.Proofs.YtjkbmfpomgcblaaGreatDoor
open Go.RowKit
theorem step_append_str (w:World) {ops:Array Oper} {o:Oper} {a:Act} {K:Act→World→Prop} {Q:Exit→Act→World→Prop} {E:Prop} (hgd:o.guard=none) (s x:Operand)
   (ho:o.op=.call { callee:=.builtin .append,args:=#[s,x],argTypes:=#[126,126] })
   (base:Nat) (v:Value) (l:List ByteArray) (hs:a.eval s=v) (hown:ownsS w base v l)
   (ad:Addr) (c:Nat) (hx:a.eval x=.slice (some ad) 1 c) (d:ByteArray) (hcell:w.cell? (ad.add 0)=some (.string d))
   (hlen:l.length + 1≤8796093022208) (hbase:base≤w.heap.size)
   (h:∀ g cap w',ownsS w' base (.slice (some ⟨g,0,none⟩) (l.length + 1) cap) (l ++ [d])→w.grownBy w' v.ownBlock→K (a.put o.dst (.slice (some ⟨g,0,none⟩) (l.length + 1) cap)) w') :
   if Region.wanted o (yielded ops a.tmps)=true then Oper.wp Tryz.prog o a w K Q else E:=by
 obtain ⟨i0,hi,hz0,hz1,hz2⟩:=info_parts info_str
 refine step_append_lies w hgd s x 126 ho base 9 i0 (.string ⟨#[]⟩) 1 16 Tryz.underlying126 hi hz0 hz1 hz2 rfl (by decide) v l.length (l.map Value.string) hs hown ad 1 c [.string d] hx rfl ?_ ?_ (by decide) (by unfold maxLen;omega) (by omega) hbase _ rfl ?_
 · intro j u hj
   match j,hj with
   | 0,hj=>simp at hj;subst hj;exact hcell
 · intro u hu;simp at hu;subst hu;rfl
 · intro g cap w' h1 h2 _ _
   refine h g cap w' ?_ h2
   unfold ownsS
   rw [List.length_append,List.map_append]
   exact h1
end Go.Proofs.YtjkbmfpomgcblaaGreatDoor
