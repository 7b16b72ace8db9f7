import Derived.Test.YtjkbmfpomgcblaaGreatDoorKr02
import Derived.Deep.QuietTactic
import Derived.WalkSmall
import Derived.Lib.Builder
import Derived.Lib.AppendStr
import Derived.Lib.UnsafeStr
import Derived.Laws.Externs
import Derived.Deep.RegionHeld3
import Derived.RegionTactic
import Derived.Lib.Join
import Derived.StillTailTactics
import Derived.Laws.Rows
import Derived.Laws.NewBlocks
namespace Go.Proofs.YtjkbmfpomgcblaaGreatDoor
open Go.RowKit
theorem ofF_dropI {l:List Ent} {k:Nat} {t:Ent} (h:l[k]? = some t) (x:Int):ofF (l.drop k) x=if t.rep=x then t.time else ofF (l.drop (k + 1)) x:=by
 obtain ⟨hk,ht⟩:=List.getElem?_eq_some_iff.1 h
 rw [List.drop_eq_getElem_cons hk,ht];rfl
set_option maxRecDepth 100000 in
set_option maxHeartbeats 2000000 in
theorem vofI_any (v:Value) (l:List Ent) (x:Int) (w:World) (hv:IsEnts w v l) (hl:l.length≤9223372036854775807) :
   Calls Tryz.prog 196 #[v,.int .i64 x] w fun r w'=>r=.returned (.int .i64 (ofF l x))∧Below w.heap.size w w':=by
 obtain ⟨a1,c1,rfl,f1⟩:=hv.form
 have F1:=Lib.hid f1
 obtain ⟨n,hn⟩:∃ n,n=l.length:=⟨_,rfl⟩
 rw [←hn] at hl ⊢
 have HN:=Lib.hid hn
 clear hv f1 hn
 go_enter Tryz.func196,Tryz.ntmps196
 go_wp2
 go_loopw [9] (fun i wr=>∃ k:Nat,k≤n∧i=.int .i64 k∧ofF l x=ofF (l.drop k) x∧Below w.heap.size w wr) (fun i _=>n - (intOf i).toNat)
 case atStart=>exact ⟨0,by omega,rfl,rfl,Below.refl _ _⟩
 case round =>
   obtain ⟨k,hk,rfl,heq,hbel⟩:=hrel
   have HEQ:=Lib.hid heq
   have HB:=Lib.hid hbel
   have hzr:=hbel.size
   clear heq hbel
   by_cases hlt:k < n
   · obtain ⟨t, ht⟩ : ∃ t, l[k]? = some t := ⟨l[k]'(by have := HN.out; omega), List.getElem?_eq_getElem _⟩
     obtain ⟨b1,o1,rfl,hb1,p0,p1⟩:=F1.out k t ht
     have hd:=ofF_dropI ht x
     obtain ⟨rep,time⟩:=t
     simp only at p0 p1 hd
     have q0:=(HB.out.cell (p:=⟨b1,o1 + k * 2,none⟩) hb1).trans p0
     have q1:=(HB.out.cell (p:=⟨b1,o1 + k * 2 + 1,none⟩) hb1).trans p1
     by_cases hx:rep=x
     · have HW:Hid (ofF l x=time):=Lib.hid (show ofF l x=time by rw [HEQ.out,hd,if_pos hx])
       clear p0 p1 ht hd
       subst hx
       go_wp2
       go_ret
       exact ⟨by rw [HW.out];rfl,HB.out.alloc hzr _⟩
     · have HW:Hid (ofF l x=ofF (l.drop (k + 1)) x):=Lib.hid (show ofF l x=ofF (l.drop (k + 1)) x by rw [HEQ.out,hd,if_neg hx])
       have bx:(rep == x)=false:=by simpa using hx
       clear p0 p1 ht hd
       go_wp2
       go_roundw
       case rel=>exact ⟨k + 1,by omega,by go_num,HW.out,HB.out.alloc hzr _⟩
       case measure=>simp [intOf];omega
   · have HW:Hid (ofF l x=0):=Lib.hid (show ofF l x=0 by rw [HEQ.out,List.drop_eq_nil_of_le (by have:=HN.out;omega)];rfl)
     go_wp2
     go_ret
     exact ⟨by rw [HW.out];rfl,HB.out⟩
set_option maxRecDepth 100000 in
set_option maxHeartbeats 2000000 in
theorem rofI_any (v:Value) (l:List Ent) (x:Int) (w:World) (hv:IsEnts w v l) (hl:l.length≤9223372036854775807) :
   Calls Tryz.prog 168 #[v,.int .i64 x] w fun r w'=>r=.returned (.int .i64 (ofF l x))∧w=w':=by
 obtain ⟨a1,c1,rfl,f1⟩:=hv.form
 have F1:=Lib.hid f1
 obtain ⟨n,hn⟩:∃ n,n=l.length:=⟨_,rfl⟩
 rw [←hn] at hl ⊢
 have HN:=Lib.hid hn
 clear hv f1 hn
 go_enter Tryz.func168,Tryz.ntmps168
 go_wp2
 go_loop [8] (fun i=>∃ k:Nat,k≤n∧i=.int .i64 k∧ofF l x=ofF (l.drop k) x) (fun i=>n - (intOf i).toNat)
 case atStart=>exact ⟨0,by omega,rfl,rfl⟩
 case round =>
   obtain ⟨k,hk,rfl,heq⟩:=hrel
   have HEQ:=Lib.hid heq
   clear heq
   by_cases hlt:k < n
   · obtain ⟨t, ht⟩ : ∃ t, l[k]? = some t := ⟨l[k]'(by have := HN.out; omega), List.getElem?_eq_getElem _⟩
     obtain ⟨b1,o1,rfl,hb1,p0,p1⟩:=F1.out k t ht
     have hd:=ofF_dropI ht x
     obtain ⟨rep,time⟩:=t
     simp only at p0 p1 hd
     by_cases hx:rep=x
     · have HW:Hid (ofF l x=time):=Lib.hid (show ofF l x=time by rw [HEQ.out,hd,if_pos hx])
       clear ht hd
       subst hx
       go_wp2
       go_ret
       exact ⟨by rw [HW.out];rfl,rfl⟩
     · have HW:Hid (ofF l x=ofF (l.drop (k + 1)) x):=Lib.hid (show ofF l x=ofF (l.drop (k + 1)) x by rw [HEQ.out,hd,if_neg hx])
       have bx:(rep == x)=false:=by simpa using hx
       clear ht hd
       go_wp2
       go_round
       case rel=>exact ⟨k + 1,by omega,by go_num,HW.out⟩
       case measure=>simp [intOf];omega
   · have HW:Hid (ofF l x=0):=Lib.hid (show ofF l x=0 by rw [HEQ.out,List.drop_eq_nil_of_le (by have:=HN.out;omega)];rfl)
     go_wp2
     go_ret
     exact ⟨by rw [HW.out];rfl,rfl⟩
theorem vofI_as (v:Value) (l:List Ent) (x y:Int) (w:World) (hv:IsEnts w v l) (hl:l.length≤9223372036854775807) (h:ofF l x=y) :
   Calls Tryz.prog 196 #[v,.int .i64 x] w fun r w'=>r=.returned (.int .i64 y)∧Below w.heap.size w w':=by
 subst h;exact vofI_any v l x w hv hl
theorem rofI_q (v:Value) (l:List Ent) (x y:Int) (w:World) (n:Nat) (hv:IsEnts w v l) (hl:l.length≤9223372036854775807) (h:ofF l x=y) :
   Calls Tryz.prog 168 #[v,.int .i64 x] (w.drewN n) fun r w'=>r=.returned (.int .i64 y)∧∃ m,w'=w.drewN m :=
 (rofI_any v l x (w.drewN n) (hv.drewN n) hl).mono fun _ _ ⟨h1,h2⟩=>⟨by rw [h1,h],n,h2.symm⟩
end Go.Proofs.YtjkbmfpomgcblaaGreatDoor
namespace Go.Proofs.YtjkbmfpomgcblaaGreatDoor
open Go.RowKit
set_option maxRecDepth 100000 in
set_option maxHeartbeats 400000 in
theorem pass_any (x:Int) (w:World) (h0:0≤x) (h1:x < 4294967296) :
   Calls Tryz.prog 101 #[.int .u32 x] w fun e w'=>e=.returned (.int .u32 (pass x.toNat:Nat))∧w=w':=by
 obtain ⟨n,rfl⟩:=Int.eq_ofNat_of_zero_le h0
 have hn:n < 4294967296:=by omega
 clear h0 h1
 go_enter Tryz.func101,Tryz.ntmps101
 go_wp2
 go_loop [0,4] (fun s i=>∃ k:Nat,k≤8∧i=.int .i64 k∧s=.int .u32 (stn k n:Nat)) (fun _ i=>8 - (intOf i).toNat)
 case atStart=>exact ⟨0,by omega,rfl,rfl⟩
 case round =>
   obtain ⟨k,hk,rfl,rfl⟩:=hrel
   have hs:=stn_lt k hn
   by_cases hlt:k < 8
   · go_wp2
     · have ht:=and_one_yes hs (by assumption)
       go_round
       case rel=>exact ⟨k + 1,by omega,by go_num,by rw [st_yes hs ht];rfl⟩
       case measure=>simp [intOf];omega
     · have ht:=and_one_no hs (by assumption)
       go_round
       case rel=>exact ⟨k + 1,by omega,by go_num,by rw [st_no ht];rfl⟩
       case measure=>simp [intOf];omega
   · obtain rfl:k=8:=by omega
     go_wp2
     go_ret
     exact ⟨rfl,rfl⟩
end Go.Proofs.YtjkbmfpomgcblaaGreatDoor
namespace Go.Proofs.YtjkbmfpomgcblaaGreatDoor
open Go.ChangeShapes Go.WideShapes Go.ChangeAt Go.RowKit
instance : Inhabited Ent := ⟨⟨0, 0⟩⟩
end Go.Proofs.YtjkbmfpomgcblaaGreatDoor
namespace Go.Proofs.YtjkbmfpomgcblaaGreatDoor
open Go.RowKit
theorem eq_step {l m:List Ent} {k:Nat} (h:l.take k=m.take k) {t u:Ent} (hl:l[k]? = some t) (hm:m[k]? = some u) (e:t=u):l.take (k + 1)=m.take (k + 1):=by
 obtain ⟨h1,h2⟩:=List.getElem?_eq_some_iff.1 hl
 obtain ⟨h3,h4⟩:=List.getElem?_eq_some_iff.1 hm
 rw [List.take_succ_eq_append_getElem h1,List.take_succ_eq_append_getElem h3,h,h2,h4,e]
end Go.Proofs.YtjkbmfpomgcblaaGreatDoor
namespace Go.Proofs.YtjkbmfpomgcblaaGreatDoor
open Go.RowKit
set_option maxRecDepth 100000 in
theorem clone_s (s:ByteArray) (w:World) (hs:s.size≤140737488351232) :
   Calls Tryz.prog 151 #[.string s] w fun e w'=>e=.returned (.string s)∧Below w.heap.size w w':=by
 go_enter Tryz.func151,Tryz.ntmps151
 go_wp2_with fail
 refine (Tryz.stringslite_Clone s _ (by omega)).mono ?_
 rintro r w1 ⟨rfl,hb1⟩
 have HB:=Lib.hid hb1
 clear hb1
 go_wp2
 go_ret
 exact ⟨rfl,HB.out⟩
end Go.Proofs.YtjkbmfpomgcblaaGreatDoor
namespace Go.Proofs.YtjkbmfpomgcblaaGreatDoor
open Go.RowKit
def isBld (w:World) (B b:Nat) (l:List UInt8):Prop:=Lib.IsBuilder 64 5 B b (Lib.byteCells l) w
theorem isBld.below {w w':World} {B b:Nat} {l:List UInt8} (h:isBld w B b l) (hb:Below w.heap.size w w'):isBld w' B b l:=by
 have hone:∀ {p:Value},Lib.BuilderAt 64 5 B b p (Lib.byteCells l) w→Lib.BuilderAt 64 5 B b p (Lib.byteCells l) w':=by
   intro p h
   have hlt:=h.lt
   obtain ⟨hB,v,hbk,hown,hne⟩:=h
   refine ⟨hB,v,(hb.block b hlt).trans hbk,?_,hne⟩
   refine World.ownsRow.kept hown (row:=none) ⟨hb.os,hb.tape,hb.output,hb.size,fun k hk _=>hb.block k hk⟩ ?_
   cases hv:v.ownBlock with
   | none=>exact .inl rfl
   | some g=>exact .inr (by simp)
 rcases h with h | h
 · exact .inl (hone h)
 · exact .inr (hone h)
theorem isBld.lt {w:World} {B b:Nat} {l:List UInt8} (h:isBld w B b l):B≤b∧b < w.heap.size:=by
 rcases h with h | h
 · exact ⟨h.1,h.lt⟩
 · exact ⟨h.1,h.lt⟩
theorem isBld.alloc {w:World} {B b:Nat} {l:List UInt8} (h:isBld w B b l) (o:Obj):isBld (w.alloc o) B b l:=h.below ((Below.refl _ _).alloc (Nat.le_refl _) _)
end Go.Proofs.YtjkbmfpomgcblaaGreatDoor
namespace Go.Proofs.YtjkbmfpomgcblaaGreatDoor
open Go.RowKit
theorem ownsS.ne {w:World} {base:Nat} {v:Value} {l:List ByteArray} (h:ownsS w base v l) {b:Nat} (hb:w.heap.size≤b):v.ownBlock≠some b:=fun e=>by
 have:=(h.lt b e).2;omega
end Go.Proofs.YtjkbmfpomgcblaaGreatDoor
namespace Go.Proofs.YtjkbmfpomgcblaaGreatDoor
open Go.RowKit
theorem kclone_any (s:ByteArray) (w:World) (hs:s.size≤281474976710656) :
   Calls Tryz.prog 151 #[.string s] w fun e w'=>e=.returned (.string s)∧Below w.heap.size w w':=by
 go_enter Tryz.func151,Tryz.ntmps151
 go_wp2_with fail
 refine (Tryz.stringslite_Clone s _ hs).mono ?_
 rintro r w1 ⟨rfl,hb1⟩
 go_wp2
 go_ret
 exact ⟨rfl,hb1⟩
end Go.Proofs.YtjkbmfpomgcblaaGreatDoor
namespace Go.Proofs.YtjkbmfpomgcblaaGreatDoor
open Go.RowKit
theorem not_u32 {n:Nat} (h:n < 4294967296):bits .xor .u32 IntKind.u32.max (n:Int)=(inv n:Nat):=by
 rw [show IntKind.u32.max=((4294967295:Nat):Int) from by decide,u32_xor_nat _ _ (by decide) h,Nat.xor_comm];rfl
theorem xor_u32 {n:Nat} (h:n < 4294967296) (c:UInt8):bits .xor .u32 (n:Int) ((c.toNat:Int) % 4294967296)=((n ^^^ c.toNat:Nat):Int):=by
 have:=byte_lt c
 rw [Int.emod_eq_of_lt (by omega) (by omega)];exact u32_xor_nat _ _ h (byte_lt c)
theorem take_at (s:ByteArray) (c k:Nat) (h:k < s.size):run c (s.data.toList.take (k + 1))=pass (run c (s.data.toList.take k) ^^^ s[k].toNat) :=
 run_take c s.data.toList k (by simpa using h)
theorem take_all (s:ByteArray):s.data.toList.take s.size=s.data.toList:=List.take_of_length_le (by simp)
set_option maxRecDepth 100000 in
set_option maxHeartbeats 400000 in
theorem more_any (x:Int) (s:ByteArray) (w:World) (h0:0≤x) (h1:x < 4294967296) (hs:s.size≤maxLen) :
   Calls Tryz.prog 56 #[.int .u32 x,.string s] w fun e w'=>e=.returned (.int .u32 (more x.toNat s.data.toList:Nat))∧w=w':=by
 unfold maxLen at hs
 obtain ⟨n,rfl⟩:=Int.eq_ofNat_of_zero_le h0
 have hn:n < 4294967296:=by omega
 clear h0 h1
 go_enter Tryz.func56,Tryz.ntmps56
 go_wp2
 go_loop [0,10] (fun s0 i=>∃ k:Nat,k≤s.size∧i=.int .i64 k∧s0=.int .u32 (run (inv n) (s.data.toList.take k):Nat)) (fun _ i=>s.size - (intOf i).toNat)
 case atStart=>exact ⟨0,by omega,rfl,by rw [not_u32 hn];rfl⟩
 case round =>
   obtain ⟨k,hk,rfl,rfl⟩:=hrel
   have hr:=run_lt (s.data.toList.take k) (inv_lt hn)
   by_cases hlt:k < s.size
   · have hx:=xor_u32 hr s[k]
     have hl:=xlt hr (byte_lt s[k])
     go_wp2_with fail
     refine (pass_any _ _ (by omega) (by omega)).mono ?_
     rintro e w' ⟨rfl,rfl⟩
     rw [Int.toNat_natCast]
     go_wp2
     go_round
     case rel=>exact ⟨k + 1,by omega,by go_num,by rw [take_at s _ k hlt]⟩
     case measure=>simp [intOf];omega
   · obtain rfl:k=s.size:=by omega
     go_wp2
     go_ret
     exact ⟨ret_u32 (by rw [not_u32 hr,take_all];rfl),rfl⟩
set_option maxRecDepth 100000 in
set_option maxHeartbeats 400000 in
theorem sum_any (s:ByteArray) (w:World) (hs:s.size≤maxLen) :
   Calls Tryz.prog 55 #[.string s] w fun e w'=>e=.returned (.int .u32 (sum s.data.toList:Nat))∧w=w':=by
 go_enter Tryz.func55,Tryz.ntmps55
 go_wp2_with fail
 refine (more_any _ _ _ (by omega) (by omega) hs).mono ?_
 rintro e w' ⟨rfl,rfl⟩
 go_wp2
 go_ret
 exact ⟨rfl,rfl⟩
end Go.Proofs.YtjkbmfpomgcblaaGreatDoor
namespace Go.Proofs.YtjkbmfpomgcblaaGreatDoor
open Go.RowKit
def cmpF (x y:Int):Int:=if x < y then -1 else if y < x then 1 else 0
def orF (p q:Int):Int:=if p=0 then q else p
def cI (a b:Int×Int):Int:=orF (cmpF a.1 b.1) (cmpF a.2 b.2)
def wiF (x:Int×Int) (from_ have_:List Ent):Bool:=decide (ofF from_ x.2 < x.1) && decide (x.1≤ofF have_ x.2)
set_option maxRecDepth 100000 in
theorem cmp_any (x y:Int) (w:World):Calls Tryz.prog 201 #[.int .i64 x,.int .i64 y] w fun e w'=>e=.returned (.int .i64 (cmpF x y))∧w=w':=by
 have hn:∀ (z:Int) (w:World),Calls Tryz.prog 225 #[.int .i64 z] w fun e w'=>e=.returned (.bool false)∧w=w':=fun z w=>by
   go_enter Tryz.func225,Tryz.ntmps225
   go_wp2
   go_ret
   exact ⟨by first | rfl | simp,rfl⟩
 by_cases h1:x < y
 · have HW:Hid (cmpF x y=-1):=Lib.hid (by unfold cmpF;rw [if_pos h1])
   rw [HW.out]
   go_enter Tryz.func201,Tryz.ntmps201
   go_wp2_with (first | (go_at_call 225;refine (hn _ _).mono ?_;rintro e w' ⟨rfl,rfl⟩))
   go_ret
   exact ⟨rfl,rfl⟩
 · by_cases h2:y < x
   · have HW:Hid (cmpF x y=1):=Lib.hid (by unfold cmpF;rw [if_neg h1,if_pos h2])
     rw [HW.out]
     go_enter Tryz.func201,Tryz.ntmps201
     go_wp2_with (first | (go_at_call 225;refine (hn _ _).mono ?_;rintro e w' ⟨rfl,rfl⟩))
     go_ret
     exact ⟨rfl,rfl⟩
   · obtain rfl:x=y:=by omega
     have HW:Hid (cmpF x x=0):=Lib.hid (by unfold cmpF;rw [if_neg h1,if_neg h1])
     rw [HW.out]
     clear h1 h2
     go_enter Tryz.func201,Tryz.ntmps201
     go_wp2_with (first | (go_at_call 225;refine (hn _ _).mono ?_;rintro e w' ⟨rfl,rfl⟩))
     go_ret
     exact ⟨rfl,rfl⟩
theorem cmp_as (x y c:Int) (w:World) (h:cmpF x y=c):Calls Tryz.prog 201 #[.int .i64 x,.int .i64 y] w fun e w'=>e=.returned (.int .i64 c)∧w=w':=by
 subst h;exact cmp_any x y w
set_option maxRecDepth 100000 in
theorem or_any (p q c:Int) (B:Nat) (w:World) (h0:w.cell? ⟨B,0,none⟩=some (.int .i64 p)) (h1:w.cell? ⟨B,1,none⟩=some (.int .i64 q)) (h:orF p q=c) :
   Calls Tryz.prog 200 #[.slice (some ⟨B,0,none⟩) 2 2] w fun e w'=>e=.returned (.int .i64 c)∧w=w':=by
 subst h
 by_cases hp:p=0
 · have HW:Hid (orF p q=q):=Lib.hid (by unfold orF;rw [if_pos hp])
   rw [HW.out]
   subst hp
   by_cases hq:q=0
   · subst hq
     go_enter Tryz.func200,Tryz.ntmps200
     go_wp2
     refine wp_loop_rounds 3 ?_
     rw [rounds_succ]
     go_wp2
     rw [rounds_succ]
     go_wp2
     rw [rounds_succ]
     go_wp2
     go_ret
     exact ⟨rfl,rfl⟩
   · have bq:(q == 0)=false:=by simpa using hq
     have bq2:(q != 0)=true:=by simpa using hq
     go_enter Tryz.func200,Tryz.ntmps200
     go_wp2
     refine wp_loop_rounds 2 ?_
     rw [rounds_succ]
     go_wp2
     rw [rounds_succ]
     go_wp2
     go_ret
     exact ⟨rfl,rfl⟩
 · have HW:Hid (orF p q=p):=Lib.hid (by unfold orF;rw [if_neg hp])
   rw [HW.out]
   have bq:(p == 0)=false:=by simpa using hp
   have bq2:(p != 0)=true:=by simpa using hp
   go_enter Tryz.func200,Tryz.ntmps200
   go_wp2
   refine wp_loop_rounds 1 ?_
   rw [rounds_succ]
   go_wp2
   go_ret
   exact ⟨rfl,rfl⟩
theorem three_new (w:World) (o1 o2:Obj) (a b:Value) (t:TypeId):(((w.alloc o1).alloc o2).alloc (.cells #[a,b] t)).cell? ⟨w.heap.size + 1 + 1,0,none⟩=some a∧(((w.alloc o1).alloc o2).alloc (.cells #[a,b] t)).cell? ⟨w.heap.size + 1 + 1,1,none⟩=some b:=by
 have h:=heap_alloc_new ((w.alloc o1).alloc o2) (.cells #[a,b] t)
 rw [World.size_alloc,World.size_alloc] at h
 exact ⟨cell_of_row _ _ 0 _ _ (0,0) h,cell_of_row _ _ 1 _ _ (0,0) h⟩
set_option maxRecDepth 100000 in
set_option maxHeartbeats 2000000 in
theorem idcmp_any (a b:Int×Int) (w:World):Calls Tryz.prog 146 #[.agg #[.int .i64 a.1,.int .i64 a.2],.agg #[.int .i64 b.1,.int .i64 b.2]] w fun e w'=>e=.returned (.int .i64 (cI a b))∧Below w.heap.size w w':=by
 obtain ⟨x1,x2⟩:=a
 obtain ⟨y1,y2⟩:=b
 simp only
 obtain ⟨c1,hc1⟩:∃ c,cmpF x1 y1=c:=⟨_,rfl⟩
 obtain ⟨c2,hc2⟩:∃ c,cmpF x2 y2=c:=⟨_,rfl⟩
 obtain ⟨c,hc⟩:∃ c,orF c1 c2=c:=⟨_,rfl⟩
 have HW:Hid (cI (x1,x2) (y1,y2)=c):=Lib.hid (show cI (x1,x2) (y1,y2)=c by unfold cI;simp only;rw [hc1,hc2,hc])
 have H1:=Lib.hid hc1
 have H2:=Lib.hid hc2
 have H3:=Lib.hid hc
 clear hc1 hc2 hc
 rw [HW.out]
 go_enter Tryz.func146,Tryz.ntmps146
 go_wp2
 have k0:((w.alloc (.cells #[.int .i64 x1,.int .i64 x2] 57)).alloc (.cells #[.int .i64 y1,.int .i64 y2] 57)).cell? ⟨w.heap.size,0,none⟩=some (.int .i64 x1)∧((w.alloc (.cells #[.int .i64 x1,.int .i64 x2] 57)).alloc (.cells #[.int .i64 y1,.int .i64 y2] 57)).cell? ⟨w.heap.size,1,none⟩=some (.int .i64 x2)∧((w.alloc (.cells #[.int .i64 x1,.int .i64 x2] 57)).alloc (.cells #[.int .i64 y1,.int .i64 y2] 57)).cell? ⟨w.heap.size + 1,0,none⟩=some (.int .i64 y1)∧((w.alloc (.cells #[.int .i64 x1,.int .i64 x2] 57)).alloc (.cells #[.int .i64 y1,.int .i64 y2] 57)).cell? ⟨w.heap.size + 1,1,none⟩=some (.int .i64 y2):=by simp
 go_region_held3 (fun w'=>w'.cell? ⟨w.heap.size,0,none⟩=some (.int .i64 x1)∧w'.cell? ⟨w.heap.size,1,none⟩=some (.int .i64 x2)∧w'.cell? ⟨w.heap.size + 1,0,none⟩=some (.int .i64 y1)∧w'.cell? ⟨w.heap.size + 1,1,none⟩=some (.int .i64 y2)) (first | exact k0 | go_keep) (first | (go_at_call 201;((with_reducible refine (cmp_as x1 y1 c1 _ H1.out).mono ?_);rintro r w' ⟨rfl,rfl⟩)) | (go_at_call 201;((with_reducible refine (cmp_as x2 y2 c2 _ H2.out).mono ?_);rintro r w' ⟨rfl,rfl⟩)) | (go_at_call 200;((refine (or_any c1 c2 c _ _ (by simp;exact (three_new _ _ _ _ _ _).1) (by simp;exact (three_new _ _ _ _ _ _).2) H3.out).mono ?_);rintro r w' ⟨rfl,rfl⟩)))
 go_wp2
 go_ret
 refine ⟨rfl,?_⟩
 first
   | exact (((Below.refl _ _).alloc (Nat.le_refl _) _).alloc (by simp) _).drew.alloc (by simp;omega) _
   | exact ((((Below.refl _ _).alloc (Nat.le_refl _) _).alloc (by simp) _).alloc (by simp;omega) _).drew
theorem idcmp_as (x1 x2 y1 y2 c:Int) (w:World) (h:cI (x1,x2) (y1,y2)=c):Calls Tryz.prog 146 #[.agg #[.int .i64 x1,.int .i64 x2],.agg #[.int .i64 y1,.int .i64 y2]] w fun e w'=>e=.returned (.int .i64 c)∧Below w.heap.size w w':=by
 subst h;exact idcmp_any (x1,x2) (y1,y2) w
end Go.Proofs.YtjkbmfpomgcblaaGreatDoor
namespace Go.Proofs.YtjkbmfpomgcblaaGreatDoor
open Go.RowKit
theorem info_wr:(Tryz.prog.info? 59).map (fun i=>(i.zero,i.size,i.bytes))=some (some (.agg #[.int .i64 0,.int .i64 0,.int .i64 0,.string ⟨#[]⟩,.string ⟨#[]⟩,.int .i64 0]),6,64):=by kernel_rfl
instance : Inhabited Wr := ⟨⟨0, 0, 0, ⟨#[]⟩, ⟨#[]⟩, 0⟩⟩
def wrsC (l:List Wr):List Value:=l.flatMap wrC
theorem wrsC_len (l:List Wr):(wrsC l).length=l.length * 6:=by
 induction l with
 | nil=>rfl
 | cons t r ih=>simp only [wrsC,List.flatMap_cons,List.length_append,List.length_cons] at ih ⊢;rw [ih];simp [wrC];omega
theorem wrsC_app (a b:List Wr):wrsC (a ++ b)=wrsC a ++ wrsC b:=by simp [wrsC]
theorem wrsC_one (a:Wr):wrsC [a]=wrC a:=by simp [wrsC]
theorem wrsC_at (l:List Wr) (i j:Nat) (t:Wr) (h:l[i]? = some t) (hj:j < 6):(wrsC l)[i * 6 + j]? = (wrC t)[j]? := by
 induction l generalizing i with
 | nil=>simp at h
 | cons u r ih =>
   have hc:wrsC (u :: r)=wrC u ++ wrsC r:=by simp [wrsC]
   have h3:(wrC u).length=6:=rfl
   rw [hc]
   cases i with
   | zero =>
     obtain rfl:u=t:=by simpa using h
     rw [List.getElem?_append_left (by omega)]
     congr 1;omega
   | succ i =>
     rw [List.getElem?_append_right (by omega),h3,show (i + 1) * 6 + j - 6=i * 6 + j by omega]
     exact ih i (by simpa using h)
theorem wrC_cell (t:Wr):∀ u∈wrC t,u.oneCell'=true:=by
 intro u hu
 simp [wrC] at hu
 rcases hu with rfl | rfl | rfl | rfl | rfl | rfl <;> rfl
def ownsW (w:World) (base:Nat) (v:Value) (l:List Wr):Prop:=w.ownsRow base 59 6 v l.length (wrsC l)
theorem ownsW_nil (w:World) (base:Nat):ownsW w base (.slice none 0 0) []:=World.ownsRow_nil _ _ _ _
theorem ownsW.alloc {w:World} {base:Nat} {v:Value} {l:List Wr} (h:ownsW w base v l) (o:Obj):ownsW (w.alloc o) base v l:=World.ownsRow.alloc h o
theorem ownsW.drew {w:World} {base:Nat} {v:Value} {l:List Wr} (h:ownsW w base v l):ownsW w.drew base v l:=World.ownsRow.drew h
theorem ownsW.drewN {w:World} {base:Nat} {v:Value} {l:List Wr} (h:ownsW w base v l) (n:Nat):ownsW (w.drewN n) base v l:=h
theorem ownsW.lt {w:World} {base:Nat} {v:Value} {l:List Wr} (h:ownsW w base v l):∀ k,v.ownBlock=some k→base≤k∧k < w.heap.size:=World.ownsRow.lt h
theorem ownsW.mono {w:World} {base base':Nat} {v:Value} {l:List Wr} (h:ownsW w base v l) (hb:base'≤base):ownsW w base' v l:=by
 obtain ⟨h0,h1⟩:=h
 refine ⟨h0,?_⟩
 rcases h1 with h1 | ⟨g,cap,cur,hv,hg,r⟩
 · exact .inl h1
 · exact .inr ⟨g,cap,cur,hv,Nat.le_trans hb hg,r⟩
theorem ownsW.below {w w':World} {base:Nat} {v:Value} {l:List Wr} (h:ownsW w base v l) (hb:Below w.heap.size w w'):ownsW w' base v l:=by
 refine World.ownsRow.kept h (row:=none) ⟨hb.os,hb.tape,hb.output,hb.size,fun k hk _=>hb.block k hk⟩ ?_
 cases hv:v.ownBlock with
 | none=>exact .inl rfl
 | some g=>exact .inr (by simp)
def IsWrs (w:World) (v:Value) (l:List Wr):Prop :=
 (∃ a c,v=.slice a 0 c∧l=[])∨∃ b off c,v=.slice (some ⟨b,off,none⟩) l.length c∧(0 < l.length∧l.length≤c)∧b < w.heap.size∧∀ j u,(wrsC l)[j]? = some u→w.cell? ⟨b,off + j,none⟩=some u
theorem ownsW.is {w:World} {base:Nat} {v:Value} {l:List Wr} (h:ownsW w base v l):IsWrs w v l:=by
 have hall:=h
 have hlt:=h.lt
 obtain ⟨h0,h1⟩:=h
 rcases h1 with ⟨rfl,hn⟩ | ⟨g,cap,cur,rfl,hb,hh,hc,hm,hs,ht⟩
 · exact .inl ⟨_,_,rfl,List.length_eq_zero_iff.1 hn⟩
 · by_cases hz:l.length=0
   · exact .inl ⟨_,_,by rw [hz],List.length_eq_zero_iff.1 hz⟩
   · refine .inr ⟨g,0,cap,rfl,⟨by omega,hc⟩,(hlt g rfl).2,fun j u hj=>?_⟩
     have hjl:j < l.length * 6:=by rw [←wrsC_len];exact (List.getElem?_eq_some_iff.1 hj).1
     rw [Nat.zero_add,World.ownsRow.cellAt hall j hjl]
     exact hj
theorem IsWrs.nil (w:World):IsWrs w (.slice none 0 0) []:=.inl ⟨_,_,rfl,rfl⟩
theorem IsWrs.below {w w':World} {v:Value} {l:List Wr} (h:IsWrs w v l) (hb:Below w.heap.size w w'):IsWrs w' v l:=by
 rcases h with ⟨a,c,h1,h2⟩ | ⟨b,off,c,h1,h0,h2,h3⟩
 · exact .inl ⟨a,c,h1,h2⟩
 · exact .inr ⟨b,off,c,h1,h0,Nat.lt_of_lt_of_le h2 hb.size,fun j u hj=>(hb.cell (p:=⟨b,off + j,none⟩) h2).trans (h3 j u hj)⟩
theorem IsWrs.alloc {w:World} {v:Value} {l:List Wr} (h:IsWrs w v l) (o:Obj):IsWrs (w.alloc o) v l:=h.below ((Below.refl _ _).alloc (Nat.le_refl _) o)
theorem IsWrs.drewN {w:World} {v:Value} {l:List Wr} (h:IsWrs w v l) (n:Nat):IsWrs (w.drewN n) v l:=h
theorem IsWrs.form {w:World} {v:Value} {l:List Wr} (h:IsWrs w v l):∃ a c,v=.slice a l.length c∧∀ i t,l[i]? = some t→∃ b off,a=some ⟨b,off,none⟩∧b < w.heap.size ∧
   w.cell? ⟨b,off + i * 6,none⟩=some (.int .i64 t.time)∧w.cell? ⟨b,off + i * 6 + 1,none⟩=some (.int .i64 t.rep)∧w.cell? ⟨b,off + i * 6 + 2,none⟩=some (.int .i64 t.kind) ∧
   w.cell? ⟨b,off + i * 6 + 3,none⟩=some (.string t.key)∧w.cell? ⟨b,off + i * 6 + 4,none⟩=some (.string t.value)∧w.cell? ⟨b,off + i * 6 + 5,none⟩=some (.int .i64 t.n):=by
 rcases h with ⟨a,c,rfl,rfl⟩ | ⟨b,off,c,rfl,h0,h2,h3⟩
 · exact ⟨a,c,rfl,fun i t h=>by simp at h⟩
 · refine ⟨_,_,rfl,fun i t h=>⟨b,off,rfl,h2,?_,?_,?_,?_,?_,?_⟩⟩
   · exact h3 _ _ ((wrsC_at l i 0 t h (by omega)).trans rfl)
   · exact h3 _ _ ((wrsC_at l i 1 t h (by omega)).trans rfl)
   · exact h3 _ _ ((wrsC_at l i 2 t h (by omega)).trans rfl)
   · exact h3 _ _ ((wrsC_at l i 3 t h (by omega)).trans rfl)
   · exact h3 _ _ ((wrsC_at l i 4 t h (by omega)).trans rfl)
   · exact h3 _ _ ((wrsC_at l i 5 t h (by omega)).trans rfl)
def wrBlk (w:World) (B:Nat) (t:Wr):Prop:=w.heap[B]? = some (.cells (wrC t).toArray 59 (0,0))
theorem wpList_append_wr {w:World} {ops:Array Oper} {rest:List Oper} {o:Oper} {a:Act} {Q:Exit→Act→World→Prop} (hgd:o.guard=none) (s x:Operand)
   (ho:o.op=.call { callee:=.builtin .append,args:=#[s,x],argTypes:=#[23,23] })
   (base:Nat) (v:Value) (l:List Wr) (hs:a.eval s=v) (hown:ownsW w base v l)
   (B c:Nat) (hx:a.eval x=.slice (some ⟨B,0,none⟩) 1 c) (t:Wr) (hcell:wrBlk w B t)
   (hlen:l.length + 1≤1000000) (hbase:base≤w.heap.size)
   (h:∀ g cap w',ownsW w' base (.slice (some ⟨g,0,none⟩) (l.length + 1) cap) (l ++ [t])→w.grownBy w' v.ownBlock→wpList Tryz.prog ops Q rest (a.put o.dst (.slice (some ⟨g,0,none⟩) (l.length + 1) cap)) w'):wpList Tryz.prog ops Q (o :: rest) a w:=by
 obtain ⟨i0,hi,hz0,hz1,hz2⟩:=info_parts info_wr
 refine wpList_append_lies w hgd s x 23 ho base 59 i0 (.agg #[.int .i64 0,.int .i64 0,.int .i64 0,.string ⟨#[]⟩,.string ⟨#[]⟩,.int .i64 0]) 6 64 Tryz.underlying23 hi hz0 hz1 hz2 rfl (by decide) v l.length (wrsC l) hs hown ⟨B,0,none⟩ 1 c (wrC t) hx rfl ?_ (wrC_cell t) (by decide) (by unfold maxLen;omega) (by omega) hbase _ rfl ?_
 · intro j u hj
   have hadd:(⟨B,0,none⟩:Addr).add j=⟨B,j,none⟩:=by unfold Addr.add;split <;> simp_all
   rw [hadd,cell_of_row _ _ _ _ _ _ hcell,←hj]
   simp
 · intro g cap w' h1 h2 _ _
   refine h g cap w' ?_ h2
   unfold ownsW
   rw [List.length_append,wrsC_app,wrsC_one]
   exact h1
end Go.Proofs.YtjkbmfpomgcblaaGreatDoor
namespace Go.Proofs.YtjkbmfpomgcblaaGreatDoor
open Go.RowKit
def tailC (n k:Nat):Array Value:=((List.range 4).map fun i=>Value.int .u8 (if i < k then (n:Int) / 2 ^ (8 * i) % 256 else 0)).toArray
theorem tailC_size (n k:Nat):(tailC n k).size=4:=by simp [tailC]
theorem tailC_at (n k i:Nat) (h:i < 4):(tailC n k)[i]? = some (.int .u8 (if i < k then (n:Int) / 2 ^ (8 * i) % 256 else 0)):=by
 unfold tailC
 simp [h]
theorem tailC_set (n k:Nat) (hk:k < 4):(tailC n k).setIfInBounds k (.int .u8 ((n:Int) / 2 ^ (8 * k) % 256))=tailC n (k + 1):=by
 apply Array.ext_getElem?
 intro i
 rw [Array.getElem?_setIfInBounds,tailC_size]
 by_cases hi:i < 4
 · by_cases e:k=i
   · subst e;rw [if_pos rfl,if_pos hk,tailC_at _ _ k hi,if_pos (by omega)]
   · rw [if_neg e,tailC_at _ _ i hi,tailC_at _ _ i hi]
     by_cases h2:i < k
     · rw [if_pos h2,if_pos (by omega)]
     · rw [if_neg h2,if_neg (by omega)]
 · rw [Array.getElem?_eq_none (by rw [tailC_size];omega),Array.getElem?_eq_none (by rw [tailC_size];omega),if_neg (by omega)]
theorem tail4_at (n j:Nat) (h:j < (tail4 n).length):((tail4 n)[j].toNat:Int)=(n:Int) / 2 ^ (8 * j) % 256:=by
 have e:∀ m:Nat,((UInt8.ofNat m).toNat:Int)=((m % 256:Nat):Int):=fun m=>by simp
 match j,h with
 | 0,_=>show ((UInt8.ofNat n).toNat:Int)=_;rw [e];simp
 | 1,_=>show ((UInt8.ofNat (n / 256)).toNat:Int)=_;rw [e];simp
 | 2,_=>show ((UInt8.ofNat (n / 65536)).toNat:Int)=_;rw [e];simp
 | 3,_=>show ((UInt8.ofNat (n / 16777216)).toNat:Int)=_;rw [e];simp
 | j + 4,h=>exact absurd h (by simp [tail4])
theorem tail_conv (n:Nat) (w:World):(convert 60 9 (.slice (some ⟨w.heap.size,0,none⟩) 4 4)).run Tryz.prog (w.alloc (.cells (tailC n 4) 135))=.ok (.string ⟨(tail4 n).toArray⟩) (w.alloc (.cells (tailC n 4) 135)):=by
 refine run_convert_bytes_back _ _ _ _ _ _ (tail4 n) Tryz.underlying60 Tryz.underlying5 Tryz.underlying9 fun j hj=>?_
 have hadd:(⟨w.heap.size,0,none⟩:Addr).add j=⟨w.heap.size,j,none⟩:=by unfold Addr.add;split <;> simp_all
 have h4:j < 4:=hj
 rw [hadd,cell_of_row _ _ _ _ _ _ (heap_alloc_new w _),tailC_at _ _ _ h4,if_pos h4,tail4_at n j hj]
set_option maxRecDepth 100000 in
set_option maxHeartbeats 1000000 in
theorem tail_any (s:ByteArray) (w:World) (hs:s.size≤maxLen) :
   Calls Tryz.prog 60 #[.string s] w fun e w'=>e=.returned (.string ⟨(tail4 (sum s.data.toList)).toArray⟩)∧Below w.heap.size w w':=by
 have hl:=sum_lt s.data.toList
 go_enter Tryz.func60,Tryz.ntmps60
 go_wp2_with fail
 refine (sum_any _ _ hs).mono ?_
 rintro e w' ⟨rfl,rfl⟩
 obtain ⟨n,hn⟩:∃ n,n=sum s.data.toList:=⟨_,rfl⟩
 rw [←hn] at hl ⊢
 have HN:=Lib.hid hn
 clear hn
 go_wp2
 go_loopw [8] (fun i wr=>∃ k:Nat,k≤4∧i=.int .i64 k∧wr=w.alloc (.cells (tailC n k) 135)) (fun i _=>4 - (intOf i).toNat)
 case atStart=>exact ⟨0,by omega,rfl,rfl⟩
 case round =>
   obtain ⟨k,hk,rfl,rfl⟩:=hrel
   by_cases hlt:k < 4
   · have hc:=tailC_at n k k hlt
     rw [if_neg (Nat.lt_irrefl k)] at hc
     have hz:=tailC_set n k hlt
     go_wp2
     go_roundw
     case rel=>exact ⟨k + 1,by omega,by go_num,rfl⟩
     case measure=>simp [intOf];omega
   · obtain rfl:k=4:=by omega
     have hconv:=tail_conv n w
     go_wp2
     go_ret
     exact ⟨by rw [HN.out];rfl,(Below.refl _ _).alloc (Nat.le_refl _) _⟩
def sealB (s:ByteArray):ByteArray:=s ++ ⟨(tail4 (sum s.data.toList)).toArray⟩
theorem sealB_data (s:ByteArray):(sealB s).data.toList=sealL s.data.toList:=by unfold sealB sealL;simp
end Go.Proofs.YtjkbmfpomgcblaaGreatDoor
namespace Go.Proofs.YtjkbmfpomgcblaaGreatDoor
open Go.RowKit
theorem shr_cast' (n k:Nat):(n:Int) / 2 ^ k=((n / 2 ^ k:Nat):Int):=by simp
theorem low_eq {n:Nat} (hn:n < 4294967296) (y r:Nat) (hy:y < 256) :
   bits .xor .u32 (bits .and .u32 (n:Int) 1) (bits .and .u32 ((y:Int) / 2 ^ r % 4294967296) 1)=(((n ^^^ y / 2 ^ r % 2) % 2:Nat):Int):=by
 have h1:y / 2 ^ r < 256:=Nat.lt_of_le_of_lt (Nat.div_le_self _ _) hy
 have e1:(y:Int) / 2 ^ r % 4294967296=((y / 2 ^ r:Nat):Int):=by
   rw [shr_cast']
   generalize y / 2 ^ r=m at *
   omega
 rw [e1,and_one n hn,and_one _ (by omega),u32_xor_nat _ _ (by omega) (by omega)]
 congr 1
 have:=Nat.xor_mod_two_pow (a:=n) (b:=y / 2 ^ r % 2) (n:=1)
 simp only [Nat.pow_one] at this
 rw [this,Nat.mod_mod]
theorem st_bit (n b:Nat) (hb:b < 2):(n ^^^ b) / 2=n / 2:=by
 rw [Nat.xor_div_two,show b / 2=0 by omega,Nat.xor_zero]
theorem bit_yes {n:Nat} (hn:n < 4294967296) (y r:Nat) (hy:y < 256)
   (ht:(bits .xor .u32 (bits .and .u32 (n:Int) 1) (bits .and .u32 ((y:Int) / 2 ^ r % 4294967296) 1) == 1)=true) :
   bits .xor .u32 ((n:Int) / 2) 2197175160=(st (n ^^^ y / 2 ^ r % 2):Nat):=by
 rw [low_eq hn y r hy] at ht
 have h2:=eq_of_beq ht
 rw [st_odd (by omega),st_bit _ _ (Nat.mod_lt _ (by decide)),half_cast,show (2197175160:Int)=((2197175160:Nat):Int) from rfl,u32_xor_nat _ _ (by omega) (by omega)]
theorem bit_no {n:Nat} (hn:n < 4294967296) (y r:Nat) (hy:y < 256)
   (ht:(bits .xor .u32 (bits .and .u32 (n:Int) 1) (bits .and .u32 ((y:Int) / 2 ^ r % 4294967296) 1) == 1)=false) :
   (n:Int) / 2=(st (n ^^^ y / 2 ^ r % 2):Nat):=by
 rw [low_eq hn y r hy] at ht
 have h2:(n ^^^ y / 2 ^ r % 2) % 2≠1:=by intro e;rw [e] at ht;exact absurd ht (by decide)
 rw [st_even h2,st_bit _ _ (Nat.mod_lt _ (by decide)),half_cast]
theorem bs_at (s:ByteArray) (c k:Nat) (h:k / 8 < s.size):bs c (val s.data.toList) (k + 1)=st (bs c (val s.data.toList) k ^^^ s[k / 8].toNat / 2 ^ (k % 8) % 2):=by
 have:=val_bit s.data.toList (k / 8) (k % 8) (by simpa using h) (Nat.mod_lt _ (by decide))
 rw [show 8 * (k / 8) + k % 8=k by omega] at this
 rw [bs,this];rfl
set_option maxRecDepth 100000 in
set_option maxHeartbeats 1000000 in
theorem refcarry_any (x:Int) (s:ByteArray) (w:World) (h0:0≤x) (h1:x < 4294967296) (hs:s.size≤1000000) :
   Calls Tryz.prog 172 #[.int .u32 x,.string s] w fun e w'=>e=.returned (.int .u32 (run x.toNat s.data.toList:Nat))∧w=w':=by
 obtain ⟨c,rfl⟩:=Int.eq_ofNat_of_zero_le h0
 have hc:c < 4294967296:=by omega
 clear h0 h1
 go_enter Tryz.func172,Tryz.ntmps172
 go_wp2
 go_loop [0,5] (fun n i=>∃ k:Nat,k≤8 * s.size∧i=.int .i64 k∧n=.int .u32 (bs c (val s.data.toList) k:Nat)) (fun _ i=>8 * s.size - (intOf i).toNat)
 case atStart=>exact ⟨0,by omega,rfl,rfl⟩
 case round =>
   obtain ⟨k,hk,rfl,rfl⟩:=hrel
   have hb:=bs_lt (val s.data.toList) k hc
   by_cases hlt:k < 8 * s.size
   · have hj:k / 8 < s.size:=by omega
     have hj2:(k:Int) / 8 < (s.size:Int):=by omega
     have hj1:0≤(k:Int) / 8:=by omega
     have hr1:0≤(k:Int) % 8:=by omega
     have hr2:(k:Int) % 8 < 8:=by omega
     go_wp2
     · have ht:=bit_yes hb _ _ s[k / 8].toNat_lt (by assumption)
       go_round
       case rel=>exact ⟨k + 1,by omega,by go_num,by rw [ht,bs_at s c k hj]⟩
       case measure=>simp [intOf];omega
     · have ht:=bit_no hb _ _ s[k / 8].toNat_lt (by assumption)
       go_round
       case rel=>exact ⟨k + 1,by omega,by go_num,by rw [ht,bs_at s c k hj]⟩
       case measure=>simp [intOf];omega
   · obtain rfl:k=8 * s.size:=by omega
     go_wp2
     go_ret
     exact ⟨ret_u32 (by rw [←bs_run];simp),rfl⟩
set_option maxRecDepth 100000 in
set_option maxHeartbeats 400000 in
theorem refsum_any (s:ByteArray) (w:World) (hs:s.size≤1000000) :
   Calls Tryz.prog 120 #[.string s] w fun e w'=>e=.returned (.int .u32 (sum s.data.toList:Nat))∧w=w':=by
 go_enter Tryz.func120,Tryz.ntmps120
 go_wp2_with fail
 refine (refcarry_any _ _ _ (by omega) (by omega) hs).mono ?_
 rintro e w' ⟨rfl,rfl⟩
 go_wp2
 go_ret
 exact ⟨ret_u32 (not_u32 (run_lt _ (by decide))),rfl⟩
end Go.Proofs.YtjkbmfpomgcblaaGreatDoor
