import Derived.Test.YtjkbmfpomgcblaaGreatDoorKw02
import Derived.Lib.AppendStr
import Derived.Deep.QuietTactic
import Derived.WalkSmall
import Derived.Outline
namespace Go.Proofs.YtjkbmfpomgcblaaGreatDoor
open Go.RowKit
def hiB (m:Nat):UInt8:=UInt8.ofNat (m % 128 + 128)
theorem high_byte (m:Nat):bits .or .u8 ((m:Int) % 256) 128=((hiB m).toNat:Int):=by
 unfold hiB
 have e:(m:Int) % 256=((m % 256:Nat):Int):=by omega
 rw [e,show (128:Int)=((128:Nat):Int) from rfl,u8_or_nat _ _ (by omega) (by omega),toNat_ofNat_lt (by omega)]
 congr 1
 have h1:m % 256=2 ^ 7 * (m / 128 % 2) + m % 128:=by omega
 rw [h1,Nat.two_pow_add_eq_or_of_lt (by omega),Nat.or_assoc,Nat.or_comm (m % 128),←Nat.or_assoc]
 have h3:2 ^ 7 * (m / 128 % 2) ||| 128=2 ^ 7 * 1:=by
   have:m / 128 % 2=0∨m / 128 % 2=1:=by omega
   rcases this with h | h <;> rw [h] <;> decide
 rw [h3,←Nat.two_pow_add_eq_or_of_lt (by omega)]
 omega
theorem make10 (w:World):(Instr.makeSlice 60 (.int .i64 0) (.int .i64 10)).run Tryz.prog w=.ok (.slice (some ⟨w.heap.size,0,none⟩) 0 10) (w.alloc (.cells #[.int .u8 0,.int .u8 0,.int .u8 0,.int .u8 0,.int .u8 0,.int .u8 0,.int .u8 0,.int .u8 0,.int .u8 0,.int .u8 0] 5)):=by kernel_rfl
set_option maxRecDepth 100000 in
set_option maxHeartbeats 1000000 in
theorem put_any (n:Int) (w:World) (h0:0≤n) (h1:n≤18446744073709551615) :
   Calls Tryz.prog 89 #[.int .u64 n] w fun e w'=>e=.returned (.string ⟨(putL n.toNat).toArray⟩)∧Below w.heap.size w w':=by
 obtain ⟨N,rfl⟩:=Int.eq_ofNat_of_zero_le h0
 rw [Int.toNat_natCast]
 have hmk:=make10
 go_enter Tryz.func89,Tryz.ntmps89
 go_wp2
 go_loopw [0,3] (fun n b wr=>∃ (m:Nat) (pre:List UInt8),n=.int .u64 m∧m≤18446744073709551615∧pre ++ putL m=putL N∧ownsB wr w.heap.size b pre∧Below w.heap.size w wr) (fun n _ _=>(intOf n).toNat)
 case atStart=>exact ⟨N,[],rfl,by omega,rfl,World.ownsRow_made w _ 10 (Nat.le_refl _) (by unfold maxLen;omega) rfl,(Below.refl _ _).alloc (Nat.le_refl _) _⟩
 case round =>
   obtain ⟨m,pre,rfl,hm,hput,hown,hbel⟩:=hrel
   have HP:=Lib.hid hput
   clear hput hmk
   have hlen:pre.length + 1≤10:=by
     have h2:=putL_le10 (n:=N) (by omega)
     rw [←HP.out,List.length_append] at h2
     have:=putL_pos m
     omega
   by_cases hlt:m < 128
   · go_wp2_with (at_builtin;refine wpList_append_byte rfl _ _ rfl w.heap.size _ pre rfl (hown.alloc _) ⟨wr.heap.size,0,none⟩ 1 rfl (m:Int) (UInt8.ofNat m) ?c1 ?c2 ?c3 ?c4 ?_)
     case c1=>simp [Addr.add]
     case c2=>rw [toNat_ofNat_lt (by omega)]
     case c3=>omega
     case c4=>have:=hbel.size;simp;omega
     · intro v' w1 hown1 hg1 _
       have hcv:=run_string_ownsB hown1
       have hb1:Below w.heap.size w w1:=(hbel.alloc hbel.size _).grown hg1 (by have:=hbel.size;simp;omega) (fun k hk=>(World.ownsRow.lt hown k hk).1)
       clear hown1 hg1
       go_wp2
       go_ret
       refine ⟨?_,hb1⟩
       have e:pre ++ [UInt8.ofNat m]=putL N:=by rw [←putL_small hlt];exact HP.out
       rw [←e];rfl
   · go_wp2_with (at_builtin;refine wpList_append_byte rfl _ _ rfl w.heap.size _ pre rfl (hown.alloc _) ⟨wr.heap.size,0,none⟩ 1 rfl (bits .or .u8 ((m:Int) % 256) 128) (hiB m) ?d1 ?d2 ?d3 ?d4 ?_)
     case d1=>simp [Addr.add]
     case d2=>exact high_byte m
     case d3=>omega
     case d4=>have:=hbel.size;simp;omega
     · intro v' w1 hown1 hg1 _
       have hb1:Below w.heap.size w w1:=(hbel.alloc hbel.size _).grown hg1 (by have:=hbel.size;simp;omega) (fun k hk=>(World.ownsRow.lt hown k hk).1)
       clear hg1 hown
       go_wp2
       go_roundw
       case rel=>exact ⟨m / 128,pre ++ [hiB m],by go_num,by omega,by rw [List.append_assoc,List.singleton_append,hiB,←putL_big hlt];exact HP.out,hown1,hb1⟩
       case measure=>simp [intOf];omega
end Go.Proofs.YtjkbmfpomgcblaaGreatDoor
namespace Go.Proofs.YtjkbmfpomgcblaaGreatDoor
open Go.RowKit
theorem pow_step (j k:Nat) (h:j < k) (hk:k≤9):(128 ^ j:Nat) * 128≤9223372036854775808:=by
 have h1:128 ^ (j + 1)≤128 ^ 9:=Nat.pow_le_pow_right (by decide) (by omega)
 rw [pow9,Nat.pow_succ] at h1
 exact h1
def p128 (j:Nat):Nat:=128 ^ j
set_option maxRecDepth 100000 in
theorem pow_any (k:Nat) (w:World) (hk:k≤9) :
   Calls Tryz.prog 118 #[.int .u64 128,.int .i64 k] w fun e w'=>e=.returned (.int .u64 (p128 k))∧w=w':=by
 go_enter Tryz.func118,Tryz.ntmps118
 go_wp2
 go_loop [5,7] (fun p j=>∃ m:Nat,m≤k∧j=.int .i64 m∧p=.int .u64 (p128 m)) (fun _ j=>k - (intOf j).toNat)
 case atStart=>exact ⟨0,Nat.zero_le _,rfl,rfl⟩
 case round =>
   obtain ⟨m,hm,rfl,rfl⟩:=hrel
   by_cases hlt:m < k
   · have hs:p128 m * 128≤9223372036854775808:=pow_step m k hlt hk
     have he:Hid (p128 m * 128=p128 (m + 1)):=(Nat.pow_succ 128 m).symm
     go_wp2
     go_round
     case rel=>exact ⟨m + 1,by omega,by go_num,by rw [←he.out];go_num⟩
     case measure=>simp [intOf];omega
   · have:m=k:=by omega
     subst this
     go_wp2
     go_ret
     exact ⟨rfl,rfl⟩
end Go.Proofs.YtjkbmfpomgcblaaGreatDoor
namespace Go.Proofs.YtjkbmfpomgcblaaGreatDoor
open Go.RowKit
theorem ownsB.drew {w:World} {base:Nat} {v:Value} {l:List UInt8} (h:ownsB w base v l):ownsB w.drew base v l:=h
theorem ownsB.lt {w:World} {base:Nat} {v:Value} {l:List UInt8} (h:ownsB w base v l):∀ k,v.ownBlock=some k→base≤k∧k < w.heap.size:=World.ownsRow.lt h
theorem ownsB.below {w w':World} {base:Nat} {v:Value} {l:List UInt8} (h:ownsB w base v l) (hb:Below w.heap.size w w'):ownsB w' base v l:=by
 refine World.ownsRow.kept h (row:=none) ⟨hb.os,hb.tape,hb.output,hb.size,fun k hk _=>hb.block k hk⟩ ?_
 cases hv:v.ownBlock with
 | none=>exact .inl rfl
 | some g=>exact .inr (by simp)
theorem ownsB.forms {w:World} {base:Nat} {v:Value} {l:List UInt8} (h:ownsB w base v l) :
   (v=.slice none 0 0∧l=[])∨∃ g cap,v=.slice (some ⟨g,0,none⟩) l.length cap∧base≤g∧g < w.heap.size∧∀ j,j < l.length→w.cell? ⟨g,j,none⟩=some (.int .u8 ((l.getD j 0).toNat:Int)):=by
 have hall:=h
 obtain ⟨h0,h1⟩:=h
 rcases h1 with ⟨rfl,hn⟩ | ⟨g,cap,cur,rfl,hb,hh,hc,hm,hs,ht⟩
 · exact .inl ⟨rfl,List.length_eq_zero_iff.1 hn⟩
 · refine .inr ⟨g,cap,rfl,hb,(World.ownsRow.lt hall g rfl).2,fun j hj=>?_⟩
   rw [World.ownsRow.cellAt hall j (by omega)]
   simp [List.getElem?_eq_getElem hj,byteV]
theorem tokBlk.lt {w:World} {B:Nat} {t:Tok} (h:tokBlk w B t):B < w.heap.size:=by
 rcases Nat.lt_or_ge B w.heap.size with hlt | hge
 · exact hlt
 · unfold tokBlk at h;rw [Array.getElem?_eq_none hge] at h;cases h
theorem tokBlk.alloc {w:World} {B:Nat} {t:Tok} (h:tokBlk w B t) (o:Obj):tokBlk (w.alloc o) B t:=(Below.heap_alloc w o B h.lt).trans h
theorem tokBlk.grown {w w':World} {B:Nat} {t:Tok} {row:Option Nat} (h:tokBlk w B t) (hg:w.grownBy w' row) (hne:row≠some B):tokBlk w' B t:=(hg.block B h.lt (fun e=>hne e.symm)).trans h
theorem tokBlk.cells {w:World} {B:Nat} {t:Tok} (h:tokBlk w B t):w.cell? ⟨B,0,none⟩=some (.string t.own)∧w.cell? ⟨B,1,none⟩=some (.int .i64 t.back)∧w.cell? ⟨B,2,none⟩=some (.int .i64 t.size) :=
 ⟨cell_of_row w B 0 _ _ (0,0) h,cell_of_row w B 1 _ _ (0,0) h,cell_of_row w B 2 _ _ (0,0) h⟩
end Go.Proofs.YtjkbmfpomgcblaaGreatDoor
namespace Go.Proofs.YtjkbmfpomgcblaaGreatDoor
open Go.RowKit
theorem ret_u32 {a b:Int} (h:a=b):Ending.returned (.int .u32 a)=.returned (.int .u32 b):=by rw [h]
theorem and_one (n:Nat) (h:n < 4294967296):bits .and .u32 (n:Int) 1=((n % 2:Nat):Int):=by
 rw [show (1:Int)=((1:Nat):Int) from rfl,u32_and_nat n 1 h (by decide),Nat.and_one_is_mod]
theorem and_one_yes {n:Nat} (h:n < 4294967296) (ht:(bits .and .u32 (n:Int) 1 == 1)=true):n % 2=1:=by
 rw [and_one n h] at ht;have:=eq_of_beq ht;omega
theorem and_one_no {n:Nat} (h:n < 4294967296) (ht:(bits .and .u32 (n:Int) 1 == 1)=false):n % 2≠1:=by
 intro e;rw [and_one n h,e] at ht;exact absurd ht (by decide)
theorem half_cast (n:Nat):(n:Int) / 2=((n / 2:Nat):Int):=by omega
theorem st_yes {n:Nat} (h:n < 4294967296) (ht:n % 2=1):bits .xor .u32 ((n:Int) / 2) 2197175160=(st n:Nat):=by
 rw [st_odd ht,half_cast,show (2197175160:Int)=((2197175160:Nat):Int) from rfl,u32_xor_nat _ _ (by omega) (by omega)]
theorem st_no {n:Nat} (ht:n % 2≠1):(n:Int) / 2=(st n:Nat):=by
 rw [st_even ht,half_cast]
end Go.Proofs.YtjkbmfpomgcblaaGreatDoor
namespace Go.Proofs.YtjkbmfpomgcblaaGreatDoor
open Go.RowKit
set_option maxRecDepth 100000 in
theorem ridrightW_as (x1 x2:Int) (b:Bool) (w:World) (hb:idRW (x1,x2)=b) :
   Calls Tryz.prog 169 #[.agg #[.int .i64 x1,.int .i64 x2]] w fun e w'=>e=.returned (.bool b)∧Below w.heap.size w w':=by
 subst hb
 by_cases h1:1≤x1∧x1≤1099511627776
 · by_cases h2:0≤x2∧x2≤200
   · have HW:Hid (idRW (x1,x2)=true):=Lib.hid (by unfold idRW;exact decide_eq_true ⟨h1.1,h1.2,h2.1,h2.2⟩)
     go_enter Tryz.func169,Tryz.ntmps169
     go_wp2_with fail
     refine (within_yes x1 1 1099511627776 _ h1.1 h1.2).mono ?_
     rintro r w' ⟨rfl,rfl⟩
     go_wp2_with fail
     refine (within_yes x2 0 200 _ h2.1 h2.2).mono ?_
     rintro r w' ⟨rfl,rfl⟩
     go_wp2
     go_ret
     exact ⟨by rw [HW.out];rfl,(Below.refl _ _).alloc (Nat.le_refl _) _⟩
   · have HW:Hid (idRW (x1,x2)=false):=Lib.hid (by unfold idRW;exact decide_eq_false (fun h=>h2 h.2.2))
     by_cases h3:x2 < 0
     · go_enter Tryz.func169,Tryz.ntmps169
       go_wp2_with fail
       refine (within_yes x1 1 1099511627776 _ h1.1 h1.2).mono ?_
       rintro r w' ⟨rfl,rfl⟩
       go_wp2_with fail
       refine (within_low x2 0 200 _ h3).mono ?_
       rintro r w' ⟨rfl,rfl⟩
       go_wp2
       go_ret
       exact ⟨by rw [HW.out];rfl,(Below.refl _ _).alloc (Nat.le_refl _) _⟩
     · go_enter Tryz.func169,Tryz.ntmps169
       go_wp2_with fail
       refine (within_yes x1 1 1099511627776 _ h1.1 h1.2).mono ?_
       rintro r w' ⟨rfl,rfl⟩
       go_wp2_with fail
       refine (within_high x2 0 200 _ (by omega) (by omega)).mono ?_
       rintro r w' ⟨rfl,rfl⟩
       go_wp2
       go_ret
       exact ⟨by rw [HW.out];rfl,(Below.refl _ _).alloc (Nat.le_refl _) _⟩
 · have HW:Hid (idRW (x1,x2)=false):=Lib.hid (by unfold idRW;exact decide_eq_false (fun h=>h1 ⟨h.1,h.2.1⟩))
   by_cases h3:x1 < 1
   · go_enter Tryz.func169,Tryz.ntmps169
     go_wp2_with fail
     refine (within_low x1 1 1099511627776 _ h3).mono ?_
     rintro r w' ⟨rfl,rfl⟩
     go_wp2
     go_ret
     exact ⟨by rw [HW.out];rfl,(Below.refl _ _).alloc (Nat.le_refl _) _⟩
   · go_enter Tryz.func169,Tryz.ntmps169
     go_wp2_with fail
     refine (within_high x1 1 1099511627776 _ (by omega) (by omega)).mono ?_
     rintro r w' ⟨rfl,rfl⟩
     go_wp2
     go_ret
     exact ⟨by rw [HW.out];rfl,(Below.refl _ _).alloc (Nat.le_refl _) _⟩
end Go.Proofs.YtjkbmfpomgcblaaGreatDoor
namespace Go.Proofs.YtjkbmfpomgcblaaGreatDoor
open Go.RowKit
theorem ofF_dropI {l:List Ent} {k:Nat} {t:Ent} (h:l[k]? = some t) (x:Int):ofF (l.drop k) x=if t.rep=x then t.time else ofF (l.drop (k + 1)) x:=by
 obtain ⟨hk,ht⟩:=List.getElem?_eq_some_iff.1 h
 rw [List.drop_eq_getElem_cons hk,ht];rfl
set_option maxRecDepth 100000 in
set_option maxHeartbeats 2000000 in
theorem vofI_any (v:Value) (l:List Ent) (x:Int) (w:World) (hv:IsEnts w v l) (hl:l.length≤9223372036854775807) :
   Calls Tryz.prog 196 #[v,.int .i64 x] w fun r w'=>r=.returned (.int .i64 (ofF l x))∧Below w.heap.size w w':=by
 obtain ⟨a1,c1,rfl,f1⟩:=hv.form
 have F1:=Lib.hid f1
 obtain ⟨n,hn⟩:∃ n,n=l.length:=⟨_,rfl⟩
 rw [←hn] at hl ⊢
 have HN:=Lib.hid hn
 clear hv f1 hn
 go_enter Tryz.func196,Tryz.ntmps196
 go_wp2
 go_loopw [9] (fun i wr=>∃ k:Nat,k≤n∧i=.int .i64 k∧ofF l x=ofF (l.drop k) x∧Below w.heap.size w wr) (fun i _=>n - (intOf i).toNat)
 case atStart=>exact ⟨0,by omega,rfl,rfl,Below.refl _ _⟩
 case round =>
   obtain ⟨k,hk,rfl,heq,hbel⟩:=hrel
   have HEQ:=Lib.hid heq
   have HB:=Lib.hid hbel
   have hzr:=hbel.size
   clear heq hbel
   by_cases hlt:k < n
   · obtain ⟨t, ht⟩ : ∃ t, l[k]? = some t := ⟨l[k]'(by have := HN.out; omega), List.getElem?_eq_getElem _⟩
     obtain ⟨b1,o1,rfl,hb1,p0,p1⟩:=F1.out k t ht
     have hd:=ofF_dropI ht x
     obtain ⟨rep,time⟩:=t
     simp only at p0 p1 hd
     have q0:=(HB.out.cell (p:=⟨b1,o1 + k * 2,none⟩) hb1).trans p0
     have q1:=(HB.out.cell (p:=⟨b1,o1 + k * 2 + 1,none⟩) hb1).trans p1
     by_cases hx:rep=x
     · have HW:Hid (ofF l x=time):=Lib.hid (show ofF l x=time by rw [HEQ.out,hd,if_pos hx])
       clear p0 p1 ht hd
       subst hx
       go_wp2
       go_ret
       exact ⟨by rw [HW.out];rfl,HB.out.alloc hzr _⟩
     · have HW:Hid (ofF l x=ofF (l.drop (k + 1)) x):=Lib.hid (show ofF l x=ofF (l.drop (k + 1)) x by rw [HEQ.out,hd,if_neg hx])
       have bx:(rep == x)=false:=by simpa using hx
       clear p0 p1 ht hd
       go_wp2
       go_roundw
       case rel=>exact ⟨k + 1,by omega,by go_num,HW.out,HB.out.alloc hzr _⟩
       case measure=>simp [intOf];omega
   · have HW:Hid (ofF l x=0):=Lib.hid (show ofF l x=0 by rw [HEQ.out,List.drop_eq_nil_of_le (by have:=HN.out;omega)];rfl)
     go_wp2
     go_ret
     exact ⟨by rw [HW.out];rfl,HB.out⟩
set_option maxRecDepth 100000 in
set_option maxHeartbeats 2000000 in
theorem rofI_any (v:Value) (l:List Ent) (x:Int) (w:World) (hv:IsEnts w v l) (hl:l.length≤9223372036854775807) :
   Calls Tryz.prog 168 #[v,.int .i64 x] w fun r w'=>r=.returned (.int .i64 (ofF l x))∧w=w':=by
 obtain ⟨a1,c1,rfl,f1⟩:=hv.form
 have F1:=Lib.hid f1
 obtain ⟨n,hn⟩:∃ n,n=l.length:=⟨_,rfl⟩
 rw [←hn] at hl ⊢
 have HN:=Lib.hid hn
 clear hv f1 hn
 go_enter Tryz.func168,Tryz.ntmps168
 go_wp2
 go_loop [8] (fun i=>∃ k:Nat,k≤n∧i=.int .i64 k∧ofF l x=ofF (l.drop k) x) (fun i=>n - (intOf i).toNat)
 case atStart=>exact ⟨0,by omega,rfl,rfl⟩
 case round =>
   obtain ⟨k,hk,rfl,heq⟩:=hrel
   have HEQ:=Lib.hid heq
   clear heq
   by_cases hlt:k < n
   · obtain ⟨t, ht⟩ : ∃ t, l[k]? = some t := ⟨l[k]'(by have := HN.out; omega), List.getElem?_eq_getElem _⟩
     obtain ⟨b1,o1,rfl,hb1,p0,p1⟩:=F1.out k t ht
     have hd:=ofF_dropI ht x
     obtain ⟨rep,time⟩:=t
     simp only at p0 p1 hd
     by_cases hx:rep=x
     · have HW:Hid (ofF l x=time):=Lib.hid (show ofF l x=time by rw [HEQ.out,hd,if_pos hx])
       clear ht hd
       subst hx
       go_wp2
       go_ret
       exact ⟨by rw [HW.out];rfl,rfl⟩
     · have HW:Hid (ofF l x=ofF (l.drop (k + 1)) x):=Lib.hid (show ofF l x=ofF (l.drop (k + 1)) x by rw [HEQ.out,hd,if_neg hx])
       have bx:(rep == x)=false:=by simpa using hx
       clear ht hd
       go_wp2
       go_round
       case rel=>exact ⟨k + 1,by omega,by go_num,HW.out⟩
       case measure=>simp [intOf];omega
   · have HW:Hid (ofF l x=0):=Lib.hid (show ofF l x=0 by rw [HEQ.out,List.drop_eq_nil_of_le (by have:=HN.out;omega)];rfl)
     go_wp2
     go_ret
     exact ⟨by rw [HW.out];rfl,rfl⟩
theorem vofI_as (v:Value) (l:List Ent) (x y:Int) (w:World) (hv:IsEnts w v l) (hl:l.length≤9223372036854775807) (h:ofF l x=y) :
   Calls Tryz.prog 196 #[v,.int .i64 x] w fun r w'=>r=.returned (.int .i64 y)∧Below w.heap.size w w':=by
 subst h;exact vofI_any v l x w hv hl
theorem rofI_q (v:Value) (l:List Ent) (x y:Int) (w:World) (n:Nat) (hv:IsEnts w v l) (hl:l.length≤9223372036854775807) (h:ofF l x=y) :
   Calls Tryz.prog 168 #[v,.int .i64 x] (w.drewN n) fun r w'=>r=.returned (.int .i64 y)∧∃ m,w'=w.drewN m :=
 (rofI_any v l x (w.drewN n) (hv.drewN n) hl).mono fun _ _ ⟨h1,h2⟩=>⟨by rw [h1,h],n,h2.symm⟩
end Go.Proofs.YtjkbmfpomgcblaaGreatDoor
namespace Go.Proofs.YtjkbmfpomgcblaaGreatDoor
open Go.RowKit
set_option maxRecDepth 100000 in
set_option maxHeartbeats 400000 in
theorem pass_any (x:Int) (w:World) (h0:0≤x) (h1:x < 4294967296) :
   Calls Tryz.prog 101 #[.int .u32 x] w fun e w'=>e=.returned (.int .u32 (pass x.toNat:Nat))∧w=w':=by
 obtain ⟨n,rfl⟩:=Int.eq_ofNat_of_zero_le h0
 have hn:n < 4294967296:=by omega
 clear h0 h1
 go_enter Tryz.func101,Tryz.ntmps101
 go_wp2
 go_loop [0,4] (fun s i=>∃ k:Nat,k≤8∧i=.int .i64 k∧s=.int .u32 (stn k n:Nat)) (fun _ i=>8 - (intOf i).toNat)
 case atStart=>exact ⟨0,by omega,rfl,rfl⟩
 case round =>
   obtain ⟨k,hk,rfl,rfl⟩:=hrel
   have hs:=stn_lt k hn
   by_cases hlt:k < 8
   · go_wp2
     · have ht:=and_one_yes hs (by assumption)
       go_round
       case rel=>exact ⟨k + 1,by omega,by go_num,by rw [st_yes hs ht];rfl⟩
       case measure=>simp [intOf];omega
     · have ht:=and_one_no hs (by assumption)
       go_round
       case rel=>exact ⟨k + 1,by omega,by go_num,by rw [st_no ht];rfl⟩
       case measure=>simp [intOf];omega
   · obtain rfl:k=8:=by omega
     go_wp2
     go_ret
     exact ⟨rfl,rfl⟩
end Go.Proofs.YtjkbmfpomgcblaaGreatDoor
namespace Go.Proofs.YtjkbmfpomgcblaaGreatDoor
open Go.ChangeShapes Go.WideShapes Go.ChangeAt Go.RowKit
theorem laidOutE:laidOutB Tryz.prog=true:=by kernel_rfl
instance : Inhabited Ent := ⟨⟨0, 0⟩⟩
theorem two_fields {H:Type} {enc:TypeId×Value→H} {P:Program} {W:World} {spare:Nat→Bool} {held:Bool} {n:Nat} {t:TypeId} {cs:List Value} {x:DataW H×List MemPlace} {p q:Field}
   (ht:P.underlying t=some (.struct #[p,q])) (h1:Go.Deep.oneCellFields P #[p,q]=true) (h3:P.cellsOf t=2)
   (h:DataW.trod enc P W 0 spare held n t cs=some x) :
   ∃ (a b:Value) (u v:DataW H×List MemPlace) (m:Nat),cs=[a,b]∧x.1=.agg [u.1,v.1] ∧
     DataW.trod enc P W 0 spare held m p.type [a]=some u∧DataW.trod enc P W 0 spare held m q.type [b]=some v:=by
 obtain ⟨xs,m,_,hx,hl,hxl,hf⟩:=DataW.trod_struct ht h
 rw [h3] at hl
 have hxl':xs.length=2:=hxl
 match cs,hl with
 | [a,b],_ =>
   match xs,hxl' with
   | [u,v],_ =>
     have one:=Go.Deep.hone_of h1
     have g0:=hf 0 p rfl
     have g1:=hf 1 q rfl
     rw [(one 0 p rfl).1,(one 0 p rfl).2] at g0
     rw [(one 1 q rfl).1,(one 1 q rfl).2] at g1
     exact ⟨a,b,u,v,m,rfl,by rw [hx];rfl,g0,g1⟩
theorem ent_elem {H:Type} {enc:TypeId×Value→H} {W:World} {spare:Nat→Bool} {held:Bool} {n:Nat} {cs:List Value} {x:DataW H×List MemPlace}
   (h:DataW.trod enc Tryz.prog W 0 spare held n 74 cs=some x):∃ t:Ent,cs=entC t:=by
 obtain ⟨a,b,u,v,m,rfl,hx,g0,g1⟩:=two_fields Tryz.underlying74 (by kernel_rfl) (by kernel_rfl) h
 obtain ⟨k,e0,f0,_⟩:=DataW.trod_int Tryz.underlying3 g0
 obtain ⟨z,e1,f1,_⟩:=DataW.trod_int Tryz.underlying3 g1
 have e0':a=.int .i64 k:=List.head_eq_of_cons_eq e0
 have e1':b=.int .i64 z:=List.head_eq_of_cons_eq e1
 exact ⟨⟨k,z⟩,by rw [e0',e1'];rfl⟩
theorem entsArg {H:Type} {enc:TypeId×Value→H} {W:World} {spare:Nat→Bool} {held:Bool} {a0:Option Addr} {len0 cap0 fuel:Nat} {d:DataW H} {p:List MemPlace}
   (hf:DataW.trod enc Tryz.prog W 0 spare held fuel 22 [.slice a0 len0 cap0]=some (d,p)) :
   ∃ l:List Ent,IsEnts W (.slice a0 len0 cap0) l∧l.length=len0∧len0≤cap0∧cap0≤maxLen:=by
 rcases Go.Deep.open_slice Tryz.underlying22 hf with ⟨hcs,_⟩ | ⟨a,ln,cp,m,n,D,Pl,hcs,_,hl,hm,hmm,hx,hi⟩
 · simp only [List.cons.injEq,Value.slice.injEq,and_true] at hcs
   obtain ⟨rfl,rfl,rfl⟩:=hcs
   exact ⟨[],.inl ⟨_,_,rfl,rfl⟩,rfl,Nat.le_refl _,by unfold maxLen;omega⟩
 · simp only [List.cons.injEq,Value.slice.injEq,and_true] at hcs
   obtain ⟨rfl,rfl,rfl⟩:=hcs
   have h3:Tryz.prog.cellsOf 74=2:=by kernel_rfl
   rw [h3] at hi
   have hle:len0≤m:=by rw [hmm];split <;> omega
   obtain ⟨f,hfc⟩:=Go.Deep.choose_lt (n:=len0) (p:=fun i (t:Ent)=>W.cells? 0 (a.add (i * 2)) 2=some (entC t)) (fun i hlt=>by
     obtain ⟨cs',hc,ht⟩:=hi i (by omega)
     obtain ⟨t,h1⟩:=ent_elem ht
     exact ⟨t,by rw [hc,h1]⟩)
   have hll:((List.range len0).map f).length=len0:=by simp
   refine ⟨(List.range len0).map f,?_,hll,hl,hm⟩
   by_cases hz:len0=0
   · subst hz;exact .inl ⟨_,_,rfl,rfl⟩
   · obtain ⟨b,off,spot⟩:=a
     have hcell:∀ i,i < len0→∀ r,r < 2→W.cell? ((⟨b,off,spot⟩:Addr).add (i * 2 + r))=(entC (f i))[r]? := fun i hlt r hr=>by
       obtain ⟨_,_,hat⟩:=World.cells?_some (hfc i hlt)
       rw [←Go.Deep.add_add];exact hat r hr
     have h0:=hcell 0 (by omega) 0 (by omega)
     have hspot:spot=none:=by simpa [Addr.add] using World.cell?_spot (h0.trans rfl)
     subst hspot
     refine .inr ⟨b,off,cap0,by rw [hll],⟨by rw [hll];omega,by rw [hll];omega⟩,block_lt_of_cell (h0.trans rfl),fun j u hj=>?_⟩
     have hjl:j < len0 * 2:=by rw [←hll,←entsC_len];exact (List.getElem?_eq_some_iff.1 hj).1
     have hc:=hcell (j / 2) (by omega) (j % 2) (Nat.mod_lt _ (by decide))
     have hti:((List.range len0).map f)[j / 2]? = some (f (j / 2)):=by
       rw [List.getElem?_map,List.getElem?_range (by omega)];rfl
     have h5:=entsC_at _ _ (j % 2) _ hti (Nat.mod_lt _ (by decide))
     rw [show j / 2 * 2 + j % 2=j by omega] at hc h5
     rw [←h5,hj] at hc
     rw [←hc]
     refine congrArg W.cell? ?_
     unfold Addr.add
     split
     · rename_i e;rw [e];rfl
     · rfl
end Go.Proofs.YtjkbmfpomgcblaaGreatDoor
namespace Go.Proofs.YtjkbmfpomgcblaaGreatDoor
open Go.RowKit
theorem bitsN_128 {n:Nat} (h:¬ n < 128) (h64:n < 18446744073709551616):bitsN n=bitsN (n / 128) + 7:=by
 unfold bitsN
 have e:=bitsF_shift 57 7 n (by omega)
 rw [show (57:Nat) + 7=64 from rfl] at e
 have e2:bitsF 64 (n / 128)=bitsF 57 (n / 128):=bitsF_more 57 (n / 128) 7 (by omega)
 rw [e,e2,show (2:Nat) ^ 7=128 from rfl]
 omega
theorem bitsN_small:∀ n,n < 128→bitsN n≤7:=by
 intro n h
 have:bitsN n=bitsF 7 n:=bitsF_more 7 n 57 (by omega)
 rw [this];exact bitsF_le 7 n
theorem bitsN_pos {n:Nat} (h:0 < n):0 < bitsN n:=by
 unfold bitsN bitsF;rw [if_neg (by omega)];omega
theorem sevens_bits (n:Nat):n < 18446744073709551616→(sevens n=max 1 ((bitsN n + 6) / 7)):=by
 induction n using Nat.strongRecOn with
 | ind n ih =>
   intro h64
   by_cases h:n < 128
   · rw [sevens_small h];have:=bitsN_small n h;omega
   · rw [sevens_big h,bitsN_128 h h64,ih (n / 128) (by omega) (by omega)]
     have:=bitsN_pos (n:=n / 128) (by omega)
     omega
def loB (n i:Nat):Nat:=n / p128 i % 128
theorem putL_get (i : Nat) : ∀ n (h : i < (putL n).length), ((putL n)[i]'h).toNat = loB n i + (if i + 1 < (putL n).length then 128 else 0) := by
 induction i with
 | zero =>
   intro n h
   unfold loB p128
   by_cases h2:n < 128
   · simp only [putL_small h2];simp;omega
   · simp only [putL_big h2]
     have:=putL_pos (n / 128)
     rw [if_pos (by simp;omega)]
     simp;omega
 | succ i ih =>
   intro n h
   by_cases h2:n < 128
   · rw [putL_small h2] at h;simp at h
   · have e : (putL n)[i + 1]'h = (putL (n / 128))[i]'(by rw [putL_big h2] at h; simpa using h) := by simp only [putL_big h2]; rfl
     rw [e,ih]
     unfold loB p128
     rw [Nat.div_div_eq_div_mul,Nat.pow_succ,Nat.mul_comm 128]
     congr 2
     rw [putL_big h2];simp
def partL (n i:Nat):List UInt8:=(putL n).take i ++ List.replicate ((putL n).length - i) 0
theorem partL_len (n i:Nat) (h:i≤(putL n).length):(partL n i).length=(putL n).length:=by
 unfold partL;simp;omega
theorem partL_end (n:Nat):partL n (putL n).length=putL n:=by unfold partL;simp
theorem partL_set (n i:Nat) (h:i < (putL n).length):(partL n i).set i ((putL n)[i])=partL n (i + 1):=by
 unfold partL
 have e:(putL n).length - i=(putL n).length - (i + 1) + 1:=by omega
 rw [List.set_append_right _ _ (by simp;omega),e,List.replicate_succ]
 have e2:i - ((putL n).take i).length=0:=by simp;omega
 rw [e2,List.set_cons_zero,List.take_succ_eq_append_getElem h,List.append_assoc]
 rfl
theorem made_rep (k:Nat):(madeCells (Value.int .u8 0).cells (k * 1)).toList=(List.replicate k (0:UInt8)).map byteV:=by
 apply List.ext_getElem
 · simp [madeCells]
 · intro i h1 h2
   simp [madeCells,byteV,Value.cells,Nat.mod_one]
theorem p128_pos (j:Nat):1≤p128 j:=Nat.pos_of_ne_zero (by unfold p128;exact Nat.ne_of_gt (Nat.pow_pos (by decide)))
theorem part_store (N j:Nat) (h:j < (putL N).length) (b:Int) (hb:b=((loB N j + (if j + 1 < (putL N).length then 128 else 0):Nat):Int)) :
   ((partL N j).map byteV).set j (.int .u8 b)=(partL N (j + 1)).map byteV:=by
 rw [←partL_set N j h,List.map_set]
 congr 1
 unfold byteV
 rw [putL_get j N h,hb]
set_option maxRecDepth 100000 in
set_option maxHeartbeats 2000000 in
theorem rvary_any (N:Nat) (w:World) (h1:N≤18446744073709551615) :
   Calls Tryz.prog 63 #[.int .u64 (N:Int)] w fun e w'=>e=.returned (.string ⟨(putL N).toArray⟩)∧Below w.heap.size w w':=by
 have hlen:(putL N).length=max 1 ((bitsN N + 6) / 7):=by rw [putL_sevens];exact sevens_bits N (by omega)
 have hl10:=putL_le10 (n:=N) (by omega)
 have hb:bitsN N≤64:=bitsF_le 64 N
 obtain ⟨B,hB⟩:∃ B,bitsN N=B:=⟨_,rfl⟩
 rw [hB] at hlen hb
 have HB:=Lib.hid hB
 obtain ⟨k,hk⟩:∃ k,(putL N).length=k:=⟨_,rfl⟩
 rw [hk] at hlen hl10
 have HK:=Lib.hid hk
 clear hB hk
 have hk1:1≤k:=by omega
 obtain ⟨i0,hi,hz0,hz1,hz2⟩:=info_parts info_u8
 have hcase:(1 < ((B:Int) + 6) / 7∧((B:Int) + 6) / 7=k)∨(((B:Int) + 6) / 7≤1∧k≤1):=by omega
 clear hlen
 rcases hcase with ⟨c1,c2⟩ | ⟨c1,c2⟩
 all_goals
   go_enter Tryz.func63,Tryz.ntmps63
   go_wp2_with (first | (go_at_call 117;refine (len64_any (N:Int) _ (by omega) (by omega)).mono ?_;rintro r w' ⟨rfl,rfl⟩;rw [Int.toNat_natCast,HB.out]) | (at_make;refine wpList_make_full _ rfl _ _ 60 rfl w.heap.size 5 i0 (.int .u8 0) 1 Tryz.underlying60 hi hz0 hz1 .i64 .i64 _ _ k rfl rfl (by first | rfl | omega) (by first | rfl | omega) (by rw [hz2];omega) (by unfold maxLen;omega) (Nat.le_refl _) ?_;intro w1 hown hg1;rw [made_rep] at hown;have hbel:Below w.heap.size w w1:=(Below.refl _ _).grown hg1 (Nat.le_refl _) (fun _ h=>by cases h);have HOWN:=Lib.hid hown;have HBEL:=Lib.hid hbel;clear hg1 hown hbel))
   have HOWN:=‹Hid (World.ownsRow _ w.heap.size _ _ _ _ _)›
   have HBEL:=‹Hid (Below w.heap.size w _)›
   go_loopw [15] (fun i wr=>∃ j:Nat,j≤k∧i=.int .i64 j∧wr.ownsRow w.heap.size 5 1 (.slice (some ⟨w.heap.size,0,none⟩) k k) k ((partL N j).map byteV)∧Below w.heap.size w wr) (fun i _=>k - (intOf i).toNat)
   case atStart=>exact ⟨0,Nat.zero_le _,rfl,by unfold partL;rw [HK.out];exact HOWN.out,HBEL.out⟩
   case round =>
     obtain ⟨j,hj,rfl,hownr,hbr⟩:=hrel
     by_cases hlt:j < k
     · have HO:=Lib.hid hownr
       have hjl:j < (partL N j).length:=by rw [partL_len N j (by rw [HK.out];omega),HK.out];exact hlt
       obtain ⟨v0,hv0⟩:∃ v0:Int,wr.cell? ⟨w.heap.size,j,none⟩=some (.int .u8 v0) :=
         ⟨((partL N j)[j].toNat:Int),by rw [hownr.cellAt j (by omega),List.getElem?_map,List.getElem?_eq_getElem hjl];rfl⟩
       have hf:=hownr.frozenAt j
       have hp:=p128_pos j
       obtain ⟨q,hq⟩:∃ q:Nat,N / p128 j=q:=⟨_,rfl⟩
       have hqi:(N:Int) / ((p128 j:Nat):Int)=(q:Int):=by rw [←hq];rfl
       have hqb:q≤18446744073709551615:=by rw [←hq];exact Nat.le_trans (Nat.div_le_self _ _) h1
       have HQ:Hid (loB N j=q % 128):=by show loB N j=_;unfold loB;rw [hq]
       clear hownr hq hjl
       go_wp2_with (go_at_call 118;refine (pow_any j _ (by omega)).mono ?_;rintro r w' ⟨rfl,rfl⟩)
       all_goals first
         | (have hlt2 : (j : Int) + 1 < (k : Int) := by first | assumption | omega
            have hst:=((HO.out.stored j (.int .u8 ((q:Int) % 128))).1.stored j (.int .u8 ((q:Int) % 128 + 128))).1
            rw [List.set_set,part_store N j (by rw [HK.out];omega) _ (by rw [HK.out,HQ.out,if_pos (by omega)];omega)] at hst
            go_roundw
            case rel=>exact ⟨j + 1,by omega,by go_num,hst,(hbr.setCell (Nat.le_refl _) _).setCell (Nat.le_refl _) _⟩
            case measure=>simp [intOf];omega)
         | (have hlt2 : (k : Int) ≤ (j : Int) + 1 := by omega
            have hst:=(HO.out.stored j (.int .u8 ((q:Int) % 128))).1
            rw [part_store N j (by rw [HK.out];omega) _ (by rw [HK.out,HQ.out,if_neg (by omega)];omega)] at hst
            go_roundw
            case rel=>exact ⟨j + 1,by omega,by go_num,hst,hbr.setCell (Nat.le_refl _) _⟩
            case measure=>simp [intOf];omega)
     · have hjk:j=k:=by omega
       have hfin:ownsB wr w.heap.size (.slice (some ⟨w.heap.size,0,none⟩) k k) (putL N):=by
         unfold ownsB
         rw [HK.out]
         have:=partL_end N
         rw [HK.out] at this
         rw [hjk,this] at hownr
         exact hownr
       have hcv:=run_string_ownsB hfin
       have hjk':=Lib.hid hjk
       clear hfin hownr hjk
       go_wp2
       go_ret
       exact ⟨rfl,hbr⟩
end Go.Proofs.YtjkbmfpomgcblaaGreatDoor
