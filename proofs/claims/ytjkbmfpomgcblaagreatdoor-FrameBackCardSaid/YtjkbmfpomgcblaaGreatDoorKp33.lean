import Derived.Test.YtjkbmfpomgcblaaGreatDoorKp28
import Derived.Test.YtjkbmfpomgcblaaGreatDoorKp32
import Derived.Test.YtjkbmfpomgcblaaGreatDoorKp31
namespace Go.Proofs.YtjkbmfpomgcblaaGreatDoor
open Go.RowKit
def RoT (w:World) (R:Nat) (T:ByteArray) (e:Nat):Prop:=w.heap[R]? = some (.cells #[.string T,errV e] 164 (0,0))
def Ro (w:World) (R:Nat) (l:List UInt8) (e:Nat):Prop:=∃ T:ByteArray,T.data.toList=l∧T.size≤1000000∧RoT w R T e
theorem RoT.cells {w:World} {R:Nat} {T:ByteArray} {e:Nat} (h:RoT w R T e):w.cell? ⟨R,0,none⟩=some (.string T)∧w.cell? ⟨R,1,none⟩=some (errV e)∧w.frozen? ⟨R,0,none⟩=false∧w.frozen? ⟨R,1,none⟩=false∧R < w.heap.size :=
 ⟨cell_of_row _ _ 0 _ _ (0,0) h,cell_of_row _ _ 1 _ _ (0,0) h,Lib.frozen_of_heap h 0,Lib.frozen_of_heap h 1,(Array.getElem?_eq_some_iff.1 h).1⟩
theorem Ro.lt {w:World} {R:Nat} {l:List UInt8} {e:Nat} (h:Ro w R l e):R < w.heap.size:=by obtain ⟨T,_,_,h⟩:=h;exact h.cells.2.2.2.2
theorem Ro.kept {w w':World} {R:Nat} {l:List UInt8} {e:Nat} {row:Option Nat} (h:Ro w R l e) (hg:w.grownBy w' row) (hne:row≠some R):Ro w' R l e:=by
 have hl:=h.lt
 obtain ⟨T,h1,h2,h3⟩:=h
 exact ⟨T,h1,h2,(hg.block R hl (fun e=>hne e.symm)).trans h3⟩
theorem Ro.below {w w':World} {R:Nat} {l:List UInt8} {e:Nat} (h:Ro w R l e) (hb:Below w.heap.size w w'):Ro w' R l e:=h.kept (grown_b hb) (by simp)
theorem RoT.put {w:World} {R:Nat} {T:ByteArray} {e:Nat} (h:RoT w R T e) (X:ByteArray) (x:Nat):RoT ((w.setCell ⟨R,1,none⟩ (errV x)).setCell ⟨R,0,none⟩ (.string X)) R X x:=by
 unfold RoT at h ⊢
 simp [World.setCell,Array.getElem?_modify,h]
theorem grownO {w w1:World} {R:Nat} (h:Below w.heap.size w w1) (u v:Value):w.grownBy ((w1.setCell ⟨R,1,none⟩ u).setCell ⟨R,0,none⟩ v) (some R) :=
 ⟨h.os,h.tape,h.output,by simpa using h.size,fun k hk hne=>by
   have hk2:R≠k:=fun e=>hne (by rw [e])
   simp only [World.setCell,Array.getElem?_modify,if_neg hk2]
   exact h.block k hk⟩
theorem grownO0 (w:World) (R:Nat):w.grownBy w (some R):=⟨rfl,rfl,rfl,Nat.le_refl _,fun _ _ _=>rfl⟩
theorem errV_form (x:Nat):errV x=.nilIface∨errV x=.iface 44 (.int .i64 x):=by
 by_cases h:x=0
 · subst h;exact .inl rfl
 · exact .inr (by unfold errV;rw [if_neg h])
theorem errV_err {e:Nat} (h:e≠0):errV e=.iface 44 (.int .i64 e):=by unfold errV;rw [if_neg h]
theorem drop_ext {T:ByteArray} {k:Nat}:(T.extract k T.size).data.toList=T.data.toList.drop k:=by
 exact ext_dropV T k
theorem ext_fit {T:ByteArray} {k n:Nat} (h:T.size≤n):(T.extract k T.size).size≤n:=by rw [ByteArray.size_extract];omega
set_option maxRecDepth 100000 in
theorem onum1_to (t:ByteArray) (M:Nat) (most:Int) (n k x:Nat) (w:World) (ht:t.size≤maxLen) (h0 : -9223372036854775808≤most) (h1:most≤9223372036854775807) (hM:w.cell? ⟨M,0,none⟩=some (.int .i64 most)) (hi:intL t.data.toList most=(n,k,x)) :
   Calls Tryz.prog 176 #[.string t,.pointer (some ⟨M,0,none⟩)] w fun e w'=>e=.returned (.tuple #[.int .i64 (n:Int),.int .i64 (k:Int),errV x])∧Below w.heap.size w w':=by
 have HI:Hid (intV (intL t.data.toList most)=.tuple #[.int .i64 (n:Int),.int .i64 (k:Int),errV x]):=Lib.hid (by rw [hi];rfl)
 clear hi
 obtain ⟨q,hq⟩:∃ q,errV x=q:=⟨_,rfl⟩
 rw [hq] at HI ⊢
 clear hq
 go_enter Tryz.func176,Tryz.ntmps176
 go_wp2_with fail
 refine (int_any t most w ht h0 h1).mono ?_
 rintro r w' ⟨rfl,rfl⟩
 rw [HI.out]
 go_wp2
 go_ret3
 exact ⟨rfl,Below.refl _ _⟩
set_option maxRecDepth 100000 in
set_option maxHeartbeats 1000000 in
theorem okind_any (t:ByteArray) (w:World) (ht:t.size≤maxLen) :
   Calls Tryz.prog 177 #[.string t] w fun e w'=>e=.returned (.tuple #[.int .i64 ((kindF t.data.toList).1:Nat),.int .i64 ((kindF t.data.toList).2.1:Nat),errV (kindF t.data.toList).2.2])∧Below w.heap.size w w':=by
 unfold maxLen at ht
 by_cases h0:0 < t.size
 · have hne : (t.toList == []) = false := by
     have h:=bne_empty h0
     rw [bne] at h
     simpa using h
   obtain ⟨c, hc⟩ : ∃ c, t[0]'h0 = c := ⟨_, rfl⟩
   have hl:kindF t.data.toList=if c.toNat < 1∨4 < c.toNat then (0,0,1) else (c.toNat,1,0):=by
     have h1:t.data.toList=c :: t.data.toList.drop 1:=by
       have h2:0 < t.data.toList.length:=by rw [←size_data];exact h0
       have h3:=List.drop_eq_getElem_cons h2
       rw [List.drop_zero] at h3
       have h4 : t.data.toList[0]'h2 = c := hc
       rw [h4] at h3
       exact h3
     rw [h1,kindF_cons]
   have HL:=Lib.hid hl
   have d1:(0:Int) < (t.size:Int):=by omega
   clear hl
   by_cases h1:c.toNat < 1
   · have HR:Hid (kindF t.data.toList=(0,0,1)):=Lib.hid (by rw [HL.out,if_pos (.inl h1)])
     have d2:(c.toNat:Int) < 1:=by omega
     go_enter Tryz.func177,Tryz.ntmps177
     go_wp2
     go_ret3
     rw [HR.out]
     exact ⟨rfl,Below.refl _ _⟩
   · by_cases h4:4 < c.toNat
     · have HR:Hid (kindF t.data.toList=(0,0,1)):=Lib.hid (by rw [HL.out,if_pos (.inr h4)])
       have d2:1≤(c.toNat:Int):=by omega
       have d3:4 < (c.toNat:Int):=by omega
       go_enter Tryz.func177,Tryz.ntmps177
       go_wp2
       go_ret3
       rw [HR.out]
       exact ⟨rfl,Below.refl _ _⟩
     · have HR:Hid (kindF t.data.toList=(c.toNat,1,0)):=Lib.hid (by rw [HL.out,if_neg (by omega)])
       have d2:1≤(c.toNat:Int):=by omega
       have d3:(c.toNat:Int)≤4:=by omega
       go_enter Tryz.func177,Tryz.ntmps177
       go_wp2
       go_ret3
       rw [HR.out]
       exact ⟨rfl,Below.refl _ _⟩
 · obtain rfl:=empty_of h0
   go_enter Tryz.func177,Tryz.ntmps177
   go_wp2
   go_ret3
   exact ⟨rfl,Below.refl _ _⟩
theorem okind_to (t:ByteArray) (n k x:Nat) (w:World) (ht:t.size≤maxLen) (hi:kindF t.data.toList=(n,k,x)) :
   Calls Tryz.prog 177 #[.string t] w fun e w'=>e=.returned (.tuple #[.int .i64 (n:Int),.int .i64 (k:Int),errV x])∧Below w.heap.size w w' :=
 (okind_any t w ht).mono fun e w' ⟨h1,h2⟩=>⟨by rw [h1,hi],h2⟩
theorem otext_to (t K:ByteArray) (k x:Nat) (w:World) (ht:t.size≤1000000) (hi:getS t.data.toList=(K.data.toList,k,x)) :
   Calls Tryz.prog 179 #[.string t] w fun e w'=>e=.returned (.tuple #[.string K,.int .i64 (k:Int),errV x])∧Below w.heap.size w w' :=
 (sget_any t w (by omega)).mono fun e w' ⟨h1,h2⟩=>⟨by rw [h1,hi];rfl,h2⟩
set_option maxRecDepth 100000 in
theorem ogetI_skip (R:Nat) (F:Value) (l:List UInt8) (e:Nat) (w:World) (h:Ro w R l e) (he:e≠0) :
   Calls Tryz.prog 175 #[.pointer (some ⟨R,0,none⟩),F] w fun r w'=>r=.returned (.int .i64 0)∧w=w':=by
 obtain ⟨T,_,_,hrow⟩:=h
 obtain ⟨_,c1,_,_,_⟩:=hrow.cells
 rw [errV_err he] at c1
 clear hrow he
 go_enter Tryz.func175,Tryz.ntmps175
 go_wp2
 go_ret
 exact ⟨rfl,rfl⟩
set_option maxRecDepth 100000 in
theorem ogetS_skip (R:Nat) (F:Value) (l:List UInt8) (e:Nat) (w:World) (h:Ro w R l e) (he:e≠0) :
   Calls Tryz.prog 178 #[.pointer (some ⟨R,0,none⟩),F] w fun r w'=>r=.returned (.string ⟨#[]⟩)∧w=w':=by
 obtain ⟨T,_,_,hrow⟩:=h
 obtain ⟨_,c1,_,_,_⟩:=hrow.cells
 rw [errV_err he] at c1
 clear hrow he
 go_enter Tryz.func178,Tryz.ntmps178
 go_wp2
 go_ret
 exact ⟨rfl,rfl⟩
set_option maxRecDepth 100000 in
set_option maxHeartbeats 1000000 in
theorem ogetN_go (R:Nat) (l:List UInt8) (M:Nat) (most:Int) (n:Nat) (k x:Nat) (w:World) (h:Ro w R l 0) (hm0 : -9223372036854775808≤most) (hm1:most≤9223372036854775807) (hM:w.cell? ⟨M,0,none⟩=some (.int .i64 most)) (hi:intL l most=(n,k,x)) (hk:k≤l.length) :
   Calls Tryz.prog 175 #[.pointer (some ⟨R,0,none⟩),.func (.func 176) #[] #[.pointer (some ⟨M,0,none⟩)]] w fun r w'=>r=.returned (.int .i64 (n:Int))∧Ro w' R (l.drop k) x∧w.grownBy w' (some R):=by
 obtain ⟨T,rfl,hT,hrow⟩:=h
 have HI:=Lib.hid hi
 have HT:=Lib.hid hT
 have HROW:=Lib.hid hrow
 have HM:Hid (T.size≤maxLen):=Lib.hid (by unfold maxLen;omega)
 obtain ⟨c0,c1,z0,z1,hR⟩:=hrow.cells
 rw [errV_ok] at c1
 have d1:(0:Int)≤(k:Int):=by omega
 have d2:(k:Int)≤(T.size:Int):=by rw [size_data];omega
 have H0:=Lib.hid hm0
 have H1:=Lib.hid hm1
 have HMC:=Lib.hid hM
 clear hm0 hm1 hM
 clear hi hrow hT hk
 rcases errV_form x with hq | hq
 all_goals
  have HQ:=Lib.hid hq
  clear hq
  go_enter Tryz.func175,Tryz.ntmps175
  go_wp2_with fail
  refine (onum1_to T M most n k x w HM.out H0.out H1.out HMC.out HI.out).mono ?_
  rintro r w1 ⟨rfl,hb1⟩
  rw [HQ.out]
  have HB1:=Lib.hid hb1
  have HR1:Hid (RoT w1 R T 0):=Lib.hid ((hb1.block R hR).trans HROW.out)
  clear c0 c1 z0 z1 hb1
  obtain ⟨c0,c1,z0,z1,_⟩:=HR1.out.cells
  rw [errV_ok] at c1
  go_wp2
  go_ret
  refine ⟨rfl,⟨T.extract k T.size,drop_ext,ext_fit HT.out,?_⟩,grownO HB1.out _ _⟩
  rw [←HQ.out]
  exact HR1.out.put _ x
set_option maxRecDepth 100000 in
set_option maxHeartbeats 1000000 in
theorem ogetK_go (R:Nat) (l:List UInt8) (n:Nat) (k x:Nat) (w:World) (h:Ro w R l 0)  (hi:kindF l=(n,k,x)) (hk:k≤l.length) :
   Calls Tryz.prog 175 #[.pointer (some ⟨R,0,none⟩),.func (.func 177) #[] #[]] w fun r w'=>r=.returned (.int .i64 (n:Int))∧Ro w' R (l.drop k) x∧w.grownBy w' (some R):=by
 obtain ⟨T,rfl,hT,hrow⟩:=h
 have HI:=Lib.hid hi
 have HT:=Lib.hid hT
 have HROW:=Lib.hid hrow
 have HM:Hid (T.size≤maxLen):=Lib.hid (by unfold maxLen;omega)
 obtain ⟨c0,c1,z0,z1,hR⟩:=hrow.cells
 rw [errV_ok] at c1
 have d1:(0:Int)≤(k:Int):=by omega
 have d2:(k:Int)≤(T.size:Int):=by rw [size_data];omega
 clear hi hrow hT hk
 rcases errV_form x with hq | hq
 all_goals
  have HQ:=Lib.hid hq
  clear hq
  go_enter Tryz.func175,Tryz.ntmps175
  go_wp2_with fail
  refine (okind_to T n k x w HM.out HI.out).mono ?_
  rintro r w1 ⟨rfl,hb1⟩
  rw [HQ.out]
  have HB1:=Lib.hid hb1
  have HR1:Hid (RoT w1 R T 0):=Lib.hid ((hb1.block R hR).trans HROW.out)
  clear c0 c1 z0 z1 hb1
  obtain ⟨c0,c1,z0,z1,_⟩:=HR1.out.cells
  rw [errV_ok] at c1
  go_wp2
  go_ret
  refine ⟨rfl,⟨T.extract k T.size,drop_ext,ext_fit HT.out,?_⟩,grownO HB1.out _ _⟩
  rw [←HQ.out]
  exact HR1.out.put _ x
set_option maxRecDepth 100000 in
set_option maxHeartbeats 1000000 in
theorem ogetT_go (R:Nat) (l:List UInt8) (K:ByteArray) (k x:Nat) (w:World) (h:Ro w R l 0)  (hi:getS l=(K.data.toList,k,x)) (hk:k≤l.length) :
   Calls Tryz.prog 178 #[.pointer (some ⟨R,0,none⟩),.func (.func 179) #[] #[]] w fun r w'=>r=.returned (.string K)∧Ro w' R (l.drop k) x∧w.grownBy w' (some R):=by
 obtain ⟨T,rfl,hT,hrow⟩:=h
 have HI:=Lib.hid hi
 have HT:=Lib.hid hT
 have HROW:=Lib.hid hrow
 have HM:Hid (T.size≤maxLen):=Lib.hid (by unfold maxLen;omega)
 obtain ⟨c0,c1,z0,z1,hR⟩:=hrow.cells
 rw [errV_ok] at c1
 have d1:(0:Int)≤(k:Int):=by omega
 have d2:(k:Int)≤(T.size:Int):=by rw [size_data];omega
 clear hi hrow hT hk
 rcases errV_form x with hq | hq
 all_goals
  have HQ:=Lib.hid hq
  clear hq
  go_enter Tryz.func178,Tryz.ntmps178
  go_wp2_with fail
  refine (otext_to T K k x w HT.out HI.out).mono ?_
  rintro r w1 ⟨rfl,hb1⟩
  rw [HQ.out]
  have HB1:=Lib.hid hb1
  have HR1:Hid (RoT w1 R T 0):=Lib.hid ((hb1.block R hR).trans HROW.out)
  clear c0 c1 z0 z1 hb1
  obtain ⟨c0,c1,z0,z1,_⟩:=HR1.out.cells
  rw [errV_ok] at c1
  go_wp2
  go_ret
  refine ⟨rfl,⟨T.extract k T.size,drop_ext,ext_fit HT.out,?_⟩,grownO HB1.out _ _⟩
  rw [←HQ.out]
  exact HR1.out.put _ x
theorem grown_allocO {w w':World} {o:Obj} {row:Option Nat} (h:(w.alloc o).grownBy w' row):w.grownBy w' row :=
 ⟨h.os,h.tape,h.output,Nat.le_trans (by simp) h.size,fun k hk hne=>(h.block k (by simp;omega) hne).trans (Below.heap_alloc _ _ _ hk)⟩
set_option maxRecDepth 100000 in
theorem onumber_any (R:Nat) (most:Int) (l l':List UInt8) (e e' n:Nat) (w:World) (h:Ro w R l e) (hm0 : -9223372036854775808≤most) (hm1:most≤9223372036854775807) (hn:numS most l e=(n,l',e')) :
   Calls Tryz.prog 132 #[.pointer (some ⟨R,0,none⟩),.int .i64 most] w fun r w'=>r=.returned (.int .i64 (n:Int))∧Ro w' R l' e'∧w.grownBy w' (some R):=by
 have hmf:∀ (fn:Fn) (first cap:Array Value) (w:World),(Instr.makeFunc fn first cap).run Tryz.prog w=.ok (.func fn first cap) w:=fun _ _ _ _=>rfl
 have H:=Lib.hid (h.below ((Below.refl _ _).alloc (Nat.le_refl _) (.cells #[.int .i64 most] 3)))
 by_cases he:e=0
 · subst he
   obtain ⟨n',k,x,hi⟩:∃ n k x,intL l most=(n,k,x):=⟨_,_,_,rfl⟩
   rw [numS_go hi] at hn
   injection hn with i1 hn;injection hn with i2 i3
   subst i1 i2 i3
   have HI:=Lib.hid hi
   have HK:=Lib.hid (intL_fit hi).1
   have H0:=Lib.hid hm0
   have H1:=Lib.hid hm1
   clear hi h hm0 hm1
   go_enter Tryz.func132,Tryz.ntmps132
   go_wp2_with fail
   refine (ogetN_go R l w.heap.size most n' k x _ H.out H0.out H1.out (by simp) HI.out HK.out).mono ?_
   rintro r w1 ⟨rfl,hr1,hg1⟩
   have HR1:=Lib.hid hr1
   have HG1:=Lib.hid (grown_allocO hg1)
   clear hr1 hg1
   go_wp2
   go_ret
   exact ⟨rfl,HR1.out,HG1.out⟩
 · rw [numS_skip he] at hn
   injection hn with i1 hn;injection hn with i2 i3
   subst i1 i2 i3
   clear h hm0 hm1
   go_enter Tryz.func132,Tryz.ntmps132
   go_wp2_with fail
   refine (ogetI_skip R _ l e _ H.out he).mono ?_
   rintro r w1 ⟨rfl,rfl⟩
   go_wp2
   go_ret
   exact ⟨rfl,H.out,grown_allocO (grownO0 _ _)⟩
theorem okindS_any (R:Nat) (l l':List UInt8) (e e' n:Nat) (w:World) (h:Ro w R l e) (hn:kindS l e=(n,l',e')) :
   Calls Tryz.prog 175 #[.pointer (some ⟨R,0,none⟩),.func (.func 177) #[] #[]] w fun r w'=>r=.returned (.int .i64 (n:Int))∧Ro w' R l' e'∧w.grownBy w' (some R):=by
 by_cases he:e=0
 · subst he
   obtain ⟨n',k,x,hi⟩:∃ n k x,kindF l=(n,k,x):=⟨_,_,_,rfl⟩
   rw [kindS_go hi] at hn
   injection hn with i1 hn;injection hn with i2 i3
   subst i1 i2 i3
   exact ogetK_go R l n' k x w h hi (kindF_fit hi).1
 · rw [kindS_skip he] at hn
   injection hn with i1 hn;injection hn with i2 i3
   subst i1 i2 i3
   refine (ogetI_skip R _ l e w h he).mono ?_
   rintro r w' ⟨rfl,rfl⟩
   exact ⟨rfl,h,grownO0 _ _⟩
theorem otextS_any (R:Nat) (l l':List UInt8) (K:ByteArray) (e e':Nat) (w:World) (h:Ro w R l e) (hn:textS l e=(K.data.toList,l',e')) :
   Calls Tryz.prog 178 #[.pointer (some ⟨R,0,none⟩),.func (.func 179) #[] #[]] w fun r w'=>r=.returned (.string K)∧Ro w' R l' e'∧w.grownBy w' (some R):=by
 by_cases he:e=0
 · subst he
   obtain ⟨t,k,x,hi⟩:∃ n k x,getS l=(n,k,x):=⟨_,_,_,rfl⟩
   rw [textS_go hi] at hn
   injection hn with i1 hn;injection hn with i2 i3
   subst i1 i2 i3
   exact ogetT_go R l K k x w h hi (getS_fit hi).1
 · rw [textS_skip he] at hn
   injection hn with i1 hn;injection hn with i2 i3
   subst i2 i3
   refine (ogetS_skip R _ l e w h he).mono ?_
   rintro r w' ⟨rfl,rfl⟩
   refine ⟨?_,h,grownO0 _ _⟩
   have:K=⟨#[]⟩:=by rw [←bs_of K,←i1]
   rw [this]
end Go.Proofs.YtjkbmfpomgcblaaGreatDoor
namespace Go.Proofs.YtjkbmfpomgcblaaGreatDoor
open Go.RowKit
theorem isErrorE (v:Value) (xT:TypeId) (w:World):(Instr.typeAssert (.iface 44 v) xT 29 true).run Tryz.prog w=.ok (.tuple #[.iface 44 v,.bool true]) w :=
 run_typeAssert_hasB Tryz.underlying29 (by kernel_rfl) v xT w
theorem isErrorA (v:Value) (xT:TypeId) (w:World):(Instr.typeAssert (.iface 111 v) xT 29 true).run Tryz.prog w=.ok (.tuple #[.iface 111 v,.bool true]) w :=
 run_typeAssert_hasB Tryz.underlying29 (by kernel_rfl) v xT w
theorem isErrorN (xT:TypeId) (w:World):(Instr.typeAssert .nilIface xT 29 true).run Tryz.prog w=.ok (.tuple #[.nilIface,.bool false]) w:=by kernel_rfl
set_option maxRecDepth 100000 in
theorem catS_idle (E:Nat) (w:World) :
   CallsD Tryz.prog 102 #[.pointer (some ⟨E,0,none⟩)] .returning w fun r u' w'=>r=.returned (.tuple #[])∧u'=.returning∧w'=w:=by
 have iN:=isErrorN
 refine callsD_of_wpS Tryz.func102 rfl fun c₀ cs hu=>?_
 apply wpS_seq
 apply wpS_region
 simp [wpOpsS,go_sem,recoverD,hu,Tryz.ntmps102,Exit.thenS,iN]
 refine wpS_of_wp ?_
 rw [show (#[.pointer (some ⟨E,0,none⟩)] ++ (((((((Array.replicate 9 undef).setIfInBounds 3 .nilIface).setIfInBounds 4 (.tuple #[.nilIface,.bool false])).setIfInBounds 2 (.tuple #[.nilIface,.bool false])).setIfInBounds 5 .nilIface).setIfInBounds 6 (.bool false)).setIfInBounds 0 .nilIface).setIfInBounds 1 (.bool false):Array Value)=#[.pointer (some ⟨E,0,none⟩),.nilIface,.bool false,.tuple #[.nilIface,.bool false],.nilIface,.tuple #[.nilIface,.bool false],.nilIface,.bool false,undef,undef] by kernel_rfl]
 go_wp2
 cases c₀
 simp_all [bodyPostS,results,Tryz.results102]
set_option maxRecDepth 100000 in
theorem catS_pan (E:Nat) (t:TypeId) (v old:Value) (older:List PanicEntry) (w:World) (ht:t=44∨t=111) (h0:w.cell? ⟨E,0,none⟩=some old) (z0:w.frozen? ⟨E,0,none⟩=false) :
   CallsD Tryz.prog 102 #[.pointer (some ⟨E,0,none⟩)] (.panicking ({ v:=.iface t v,recovered:=false } :: older)) w fun r u' w' =>
     r=.returned (.tuple #[])∧u'=.panicking ({ v:=.iface t v,recovered:=true } :: older)∧w'=w.setCell ⟨E,0,none⟩ (.iface t v):=by
 have iT:∀ (xT:TypeId) (w:World),(Instr.typeAssert (.iface t v) xT 29 true).run Tryz.prog w=.ok (.tuple #[.iface t v,.bool true]) w:=by
   rcases ht with rfl | rfl
   · exact fun xT w=>isErrorE v xT w
   · exact fun xT w=>isErrorA v xT w
 refine callsD_of_wpS Tryz.func102 rfl fun c₀ cs hu=>?_
 apply wpS_seq
 apply wpS_region
 simp [wpOpsS,go_sem,recoverD,hu,Tryz.ntmps102,Exit.thenS,iT]
 refine wpS_of_wp ?_
 rw [show (#[.pointer (some ⟨E,0,none⟩)] ++ (((((((Array.replicate 9 undef).setIfInBounds 3 (.iface t v)).setIfInBounds 4 (.tuple #[.iface t v,.bool true])).setIfInBounds 2 (.tuple #[.iface t v,.bool true])).setIfInBounds 5 (.iface t v)).setIfInBounds 6 (.bool true)).setIfInBounds 0 (.iface t v)).setIfInBounds 1 (.bool true):Array Value)=#[.pointer (some ⟨E,0,none⟩),.iface t v,.bool true,.tuple #[.iface t v,.bool true],.iface t v,.tuple #[.iface t v,.bool true],.iface t v,.bool true,undef,undef] by kernel_rfl]
 go_wp2
 simp [bodyPostS,results,Tryz.results102]
theorem anyErr.typed {w:World} {t:TypeId} {v:Value} {r:Nat×Int} (h:anyErr w (.iface t v) r):t=44∨t=111:=by
 rcases h with (⟨_,h⟩ | ⟨_,b,h,_⟩) | ⟨_,_,h⟩
 · cases h
 · injection h with h1 h2;exact .inr h1
 · injection h with h1 h2;exact .inl h1
theorem anyErr.set {w:World} {v x:Value} {r:Nat×Int} {E:Nat} (h:anyErr w v r) (hE:w.cell? ⟨E,0,none⟩=some .nilIface):anyErr (w.setCell ⟨E,0,none⟩ x) v r:=by
 rcases h with (h | ⟨h0,b,h1,h2,h3,h4⟩) | h
 · exact .inl (.inl h)
 · have hne:b≠E:=fun e=>by rw [e,hE] at h3;cases h3
   refine .inl (.inr ⟨h0,b,h1,by simpa using h2,?_,?_⟩)
   · rw [World.cell?_setCell_other _ _ _ _ (by intro e;first | (simp at e;done) | (simp at e;omega))];exact h3
   · rw [World.cell?_setCell_other _ _ _ _ (by intro e;simp at e)];exact h4
 · exact .inr h
def BWriteIs (w:World) (r:List UInt8×Nat×Int) (e:Ending) (w':World):Prop :=
 ∃ err,e=.returned (.tuple #[.string ⟨r.1.toArray⟩,err])∧anyErr w' err r.2∧Below w.heap.size w w'
def sdoor (E:Nat):List Deferred:=[{ target:=.fn (Fn.func 102) #[.pointer (some ⟨E,0,none⟩)],args:=#[] }]
set_option maxRecDepth 100000 in
theorem sdoor_bad {w W:World} {r:List UInt8×Nat×Int} {t:TypeId} {v:Value} (hb:Below w.heap.size w W) (hE:W.heap[w.heap.size]? = some (.cells #[.nilIface] 29 (0,0))) (hr1:r.1=[]) (ha:anyErr W (.iface t v) r.2) (tmps:Array Value)
   (t2:tmps[2]? = some (.string ⟨#[]⟩)) (t3:tmps[3]? = some (.pointer (some ⟨w.heap.size,0,none⟩))) :
   Leaves Tryz.prog Tryz.f57 tmps (BWriteIs w r) (sdoor w.heap.size) (.panicking [{ v:=.iface t v,recovered:=false }]) W:=by
 have c0:W.cell? ⟨w.heap.size,0,none⟩=some .nilIface:=cell_of_row _ _ 0 _ _ (0,0) hE
 unfold sdoor
 refine leaves_cons (f:=102) (args:=#[.pointer (some ⟨w.heap.size,0,none⟩)]) (by simp) (by simp [go_sem]) ?_
 refine (catS_pan w.heap.size t v .nilIface [] W ha.typed c0 (Lib.frozen_of_heap hE 0)).mono ?_
 rintro r' u' w2 ⟨rfl,rfl,rfl⟩
 have p0:(W.setCell ⟨w.heap.size,0,none⟩ (.iface t v)).cell? ⟨w.heap.size,0,none⟩=some (.iface t v):=World.cell?_setCell_same _ _ _ c0
 refine ⟨.tuple #[.string ⟨#[]⟩,.iface t v],by simp [results,Tryz.results57,go_sem,t2,t3,p0],.iface t v,?_,ha.set c0,hb.setCell (by simp) _⟩
 rw [hr1]
set_option maxRecDepth 100000 in
theorem sdoor_good {w W:World} {r:List UInt8×Nat×Int} (hb:Below w.heap.size w W) (hE:W.heap[w.heap.size]? = some (.cells #[.nilIface] 29 (0,0))) (hr2:r.2=(0,-1)) (tmps:Array Value)
   (t2:tmps[2]? = some (.string ⟨r.1.toArray⟩)) (t3:tmps[3]? = some (.pointer (some ⟨w.heap.size,0,none⟩))) :
   Leaves Tryz.prog Tryz.f57 tmps (BWriteIs w r) (sdoor w.heap.size) .returning W:=by
 have c0:W.cell? ⟨w.heap.size,0,none⟩=some .nilIface:=cell_of_row _ _ 0 _ _ (0,0) hE
 unfold sdoor
 refine leaves_cons (f:=102) (args:=#[.pointer (some ⟨w.heap.size,0,none⟩)]) (by simp) (by simp [go_sem]) ?_
 refine (catS_idle w.heap.size W).mono ?_
 rintro r' u' w2 ⟨rfl,rfl,rfl⟩
 refine ⟨.tuple #[.string ⟨r.1.toArray⟩,.nilIface],by simp [results,Tryz.results57,go_sem,t2,t3,c0],.nilIface,rfl,?_,hb⟩
 exact .inl (.inl ⟨hr2,rfl⟩)
set_option maxRecDepth 100000 in
set_option maxHeartbeats 1000000 in
theorem catS_any (b:Nat) (w:World) (r:List UInt8×Nat×Int) (hf:Calls Tryz.prog 58 #[.pointer (some ⟨b,0,none⟩)] (w.alloc (.cells #[.nilIface] 29)) (WrtnIs (w.alloc (.cells #[.nilIface] 29)) r)) :
   Calls Tryz.prog 57 #[.func (.func 58) #[] #[.pointer (some ⟨b,0,none⟩)]] w (BWriteIs w r):=by
 have hmf:∀ (fn:Fn) (first cap:Array Value) (w:World),(Instr.makeFunc fn first cap).run Tryz.prog w=.ok (.func fn first cap) w:=fun _ _ _ _=>rfl
 have HF:=Lib.hid hf
 clear hf
 go_enter_defers Tryz.func57,Tryz.ntmps57
 go_wp2_with fail
 refine HF.out.mono ?_
 rintro e w1 ⟨hb1,hc⟩
 have hbw:Below w.heap.size w w1:=((Below.refl _ _).alloc (Nat.le_refl _) _).trans (hb1.mono (by simp))
 have hE:w1.heap[w.heap.size]? = some (.cells #[.nilIface] 29 (0,0)):=(hb1.block _ (by simp)).trans (heap_alloc_new w _)
 have HB:=Lib.hid hbw
 have HE:=Lib.hid hE
 rcases hc with ⟨hr,rfl⟩ | ⟨hne,hr1,t,v,rfl,ha⟩
 · have c0:w1.cell? ⟨w.heap.size,0,none⟩=some .nilIface:=cell_of_row _ _ 0 _ _ (0,0) hE
   have z0:w1.frozen? ⟨w.heap.size,0,none⟩=false:=Lib.frozen_of_heap hE 0
   have HR:=Lib.hid hr
   have HS:Hid ((w1.setCell ⟨w.heap.size,0,none⟩ .nilIface).heap[w.heap.size]? = some (.cells #[.nilIface] 29 (0,0))):=Lib.hid (by rw [heap_setCell_same _ _ _ _ _ _ hE];rfl)
   have HBS:Hid (Below w.heap.size w (w1.setCell ⟨w.heap.size,0,none⟩ .nilIface)):=Lib.hid (hbw.setCell (by simp) _)
   clear hb1 hbw hE hr
   go_wp2
   exact sdoor_good HBS.out HS.out HR.out _ rfl rfl
 · exact sdoor_bad HB.out HE.out hr1 ha _ rfl rfl
set_option maxRecDepth 100000 in
theorem write1_any (b:Nat) (vf vh vw:Value) (f h:List Ent) (l:List Wr) (w:World) (hx:BatIs w vf vh vw f h l) (hg:errT w) (hc:batAt w b vf vh vw) :
   Calls Tryz.prog 58 #[.pointer (some ⟨b,0,none⟩)] w (WrtnIs w (bodyF f h l)):=by
 have HX:=Lib.hid hx
 have HG:=Lib.hid hg
 obtain ⟨c0,c1,c2⟩:=hc
 obtain ⟨af,cf,rfl,_⟩:=hx.1.form
 obtain ⟨ah,ch,rfl,_⟩:=hx.2.1.form
 obtain ⟨aw,cw,rfl,_⟩:=hx.2.2.1.form
 generalize f.length=nf at HX c0 ⊢
 generalize h.length=nh at HX c1 ⊢
 generalize l.length=n at HX c2 ⊢
 clear hx hg
 have hw:Calls Tryz.prog 59 #[.agg #[.slice af nf cf,.slice ah nh ch,.slice aw n cw]] w (WrtnIs w (bodyF f h l)):=by
   by_cases h0:(batF f h l).1=0
   · exact written_ok _ _ _ f h l w HX.out HG.out h0
   · exact written_bad _ _ _ f h l w HX.out HG.out h0
 have HW:=Lib.hid hw
 clear hw
 go_enter Tryz.func58,Tryz.ntmps58
 go_wp2_with fail
 refine HW.out.mono ?_
 rintro e w1 ⟨hb1,hc⟩
 rcases hc with ⟨hr,rfl⟩ | ⟨hne,hr1,t,v,rfl,ha⟩
 · have HB:=Lib.hid hb1
   have HR:=Lib.hid hr
   clear hb1 hr
   go_wp2
   go_ret
   exact ⟨HB.out,.inl ⟨HR.out,rfl⟩⟩
 · exact And.intro rfl ⟨hb1,.inr ⟨hne,hr1,t,v,rfl,ha⟩⟩
set_option maxRecDepth 100000 in
theorem bwrite_any (vf vh vw:Value) (f h:List Ent) (l:List Wr) (w:World) (hx:BatIs w vf vh vw f h l) (hg:errT w) :
   Calls Tryz.prog 25 #[.agg #[vf,vh,vw]] w (BWriteIs w (bodyF f h l)):=by
 have hmf:∀ (fn:Fn) (first cap:Array Value) (w:World),(Instr.makeFunc fn first cap).run Tryz.prog w=.ok (.func fn first cap) w:=fun _ _ _ _=>rfl
 obtain ⟨W0,hW0⟩:∃ W0,w.alloc (.cells #[vf,vh,vw] 25)=W0:=⟨_,rfl⟩
 have hb0:Below w.heap.size w W0:=by rw [←hW0];exact (Below.refl _ _).alloc (Nat.le_refl _) _
 have hz0:w.heap.size < W0.heap.size:=by rw [←hW0];simp
 have hc:=batAt_new w vf vh vw 25
 rw [hW0] at hc
 have hx0:BatIs W0 vf vh vw f h l:=hx.below hb0
 have hcat:=catS_any w.heap.size W0 (bodyF f h l) (write1_any w.heap.size vf vh vw f h l _ (hx0.alloc _) ((hg.below hb0).alloc _) (hc.below ((Below.refl _ _).alloc (Nat.le_refl _) _) hz0))
 have HCAT:=Lib.hid hcat
 have HB0:=Lib.hid hb0
 obtain ⟨af,cf,rfl,_⟩:=hx.1.form
 obtain ⟨ah,ch,rfl,_⟩:=hx.2.1.form
 obtain ⟨aw,cw,rfl,_⟩:=hx.2.2.1.form
 generalize f.length=nf at hW0 ⊢
 generalize h.length=nh at hW0 ⊢
 generalize l.length=n at hW0 ⊢
 clear hx hg hb0 hz0 hc hx0 hcat
 go_enter Tryz.func25,Tryz.ntmps25
 go_wp2_with fail
 refine HCAT.out.mono ?_
 rintro e w1 ⟨err,rfl,ha,hb1⟩
 have HA:=Lib.hid ha
 have HB1:Hid (Below w.heap.size w w1):=HB0.out.trans (hb1.mono HB0.out.size)
 clear ha hb1
 go_wp2
 go_ret2
 exact ⟨err,rfl,HA.out,HB1.out⟩
end Go.Proofs.YtjkbmfpomgcblaaGreatDoor
namespace Go.Proofs.YtjkbmfpomgcblaaGreatDoor
open Go.RowKit
theorem bodyF_fits {f h:List Ent} {l:List Wr} {s:List UInt8} {pl:Int} (hb:bodyF f h l=(s,0,pl)):s.length≤20000:=by
 by_cases hr:(batF f h l).1=0
 · by_cases hbg:20000 < (bodyL f h l).length
   · rw [bodyF_big hr hbg] at hb;injection hb with _ hb;injection hb with hb _;cases hb
   · rw [bodyF_ok hr hbg] at hb;injection hb with hb _;rw [←hb];omega
 · rw [bodyF_bad hr] at hb;injection hb with _ hb;exact absurd (by rw [hb]) hr
theorem frm_seal (S P T:ByteArray) (hP:packL S.data.toList=P.data.toList) (hT:frmL S.data.toList=T.data.toList):sealB ((⟨#[80,84]⟩:ByteArray) ++ ⟨#[3]⟩ ++ P)=T:=by
 apply bytes_ext
 rw [sealB_data,←hT]
 unfold frmL
 rw [hP]
 simp
set_option maxRecDepth 100000 in
set_option maxHeartbeats 2400000 in
theorem fwrite_as (vf vh vw:Value) (f h:List Ent) (l:List Wr) (T:ByteArray) (e:Nat) (pl:Int) (w:World) (hx:BatIs w vf vh vw f h l) (hg:errT w) (hb:frmF f h l=(T.data.toList,e,pl)) :
   Calls Tryz.prog 14 #[.agg #[vf,vh,vw]] w fun r w'=>∃ err,r=.returned (.tuple #[.string T,err])∧anyErr w' err (e,pl)∧Below w.heap.size w w':=by
 have HX:=Lib.hid hx
 have HG:=Lib.hid hg
 obtain ⟨hf,hh,hv,_⟩:=hx
 obtain ⟨af,cf,rfl,_⟩:=hf.form
 obtain ⟨ah,ch,rfl,_⟩:=hh.form
 obtain ⟨aw,cw,rfl,_⟩:=hv.form
 obtain ⟨S,x,q,hbf⟩:∃ (S:ByteArray) (x:Nat) (q:Int),bodyF f h l=(S.data.toList,x,q):=⟨⟨(bodyF f h l).1.toArray⟩,(bodyF f h l).2.1,(bodyF f h l).2.2,by simp⟩
 have HBF:=Lib.hid hbf
 obtain ⟨d0,d1,d2⟩:=batAt_new w (.slice af f.length cf) (.slice ah h.length ch) (.slice aw l.length cw) 25
 have HW:Hid (Below w.heap.size w (w.alloc (.cells #[.slice af f.length cf,.slice ah h.length ch,.slice aw l.length cw] 25))):=Lib.hid ((Below.refl _ _).alloc (Nat.le_refl _) _)
 generalize f.length=nf at HX HW d0 d1 d2 ⊢
 generalize h.length=nh at HX HW d0 d1 d2 ⊢
 generalize l.length=n at HX HW d0 d1 d2 ⊢
 clear hf hh hv hg
 by_cases hx0:x=0
 · subst hx0
   rw [frmF_ok hbf] at hb
   injection hb with hT hb
   injection hb with h1 h2
   subst h1 h2
   have hsz:S.size≤20000:=by rw [size_data];exact bodyF_fits hbf
   obtain ⟨P,hP⟩:∃ P:ByteArray,packL S.data.toList=P.data.toList:=⟨⟨(packL S.data.toList).toArray⟩,by simp⟩
   have hpz:P.size≤20004:=by
     rw [size_data,←hP,packL_len,←size_data,putL_size hsz]
     split <;> split <;> omega
   obtain ⟨B,hB⟩:∃ B:ByteArray,B=⟨#[3]⟩:=⟨_,rfl⟩
   obtain ⟨A,hA⟩:∃ A:ByteArray,A=⟨#[80,84]⟩:=⟨_,rfl⟩
   have hsl:sealB (A ++ B ++ P)=T:=by rw [hA,hB];exact frm_seal S P T hP hT
   have hAz:A.size=2:=by rw [hA];rfl
   have hBz:B.size=1:=by rw [hB];rfl
   have HSL:=Lib.hid hsl
   have HPK:=Lib.hid (fun w'=>pack_any S P w' hsz hP)
   have HBB:=Lib.hid hB
   have ha1:¬ (9223372036854775807 < A.size + B.size):=by omega
   have ha2:¬ (9223372036854775807 < (A ++ B).size + P.size):=by rw [ByteArray.size_append];omega
   have ha3:¬ (9223372036854775807 < A.size + B.size + P.size):=by omega
   have HSZ:Hid ((A ++ B ++ P).size≤140737488351232):=Lib.hid (by rw [ByteArray.size_append,ByteArray.size_append];omega)
   have hA2:(⟨#[80,84]⟩:ByteArray)=A:=hA.symm
   clear hbf hT hP hB hsl hA
   go_enter Tryz.func14,Tryz.ntmps14
   rw [hA2]
   go_wp2_with fail
   refine (bwrite_any _ _ _ f h l _ (HX.out.below HW.out) (HG.out.below HW.out)).mono ?_
   rintro r w1 ⟨err,rfl,hat,hb1⟩
   rw [HBF.out] at hat ⊢
   obtain rfl:=hat.nil rfl
   rw [bs_of]
   have HB1:Hid (Below w.heap.size w w1):=HW.out.trans (hb1.mono HW.out.size)
   clear hb1 hat d0 d1 d2
   go_wp2
   have hcA:=byte_lit 3 3 B rfl HBB.out (by omega) (w1.alloc (.cells #[.int .u8 3] 5)) w1.heap.size (heap_alloc_new w1 _)
   have hcD:=byte_lit 3 3 B rfl HBB.out (by omega) (w1.alloc (.cells #[.int .u8 3] 5)).drew w1.heap.size (heap_alloc_new w1 _)
   have HBA:Hid (Below w1.heap.size w1 (w1.alloc (.cells #[.int .u8 3] 5))):=Lib.hid ((Below.refl _ _).alloc (Nat.le_refl _) _)
   go_region_with (first
     | (go_at_call 42;((with_reducible refine (HPK.out w1.drew).mono ?_);rintro r w2 ⟨rfl,hb2⟩;have HB2:Hid (Below w1.heap.size w1 w2):=Lib.hid (undrewP hb2);have HB3:Hid (Below w1.heap.size w1 (w2.alloc (.cells #[.int .u8 3] 5))):=Lib.hid (HB2.out.alloc HB2.out.size _);have hcB:=byte_lit 3 3 B rfl HBB.out (by omega) (w2.alloc (.cells #[.int .u8 3] 5)) w2.heap.size (heap_alloc_new w2 _);clear hb2))
     | (go_at_call 42;((with_reducible refine (HPK.out (w1.alloc (.cells #[.int .u8 3] 5)).drew).mono ?_);rintro r w2 ⟨rfl,hb2⟩;have HB3:Hid (Below w1.heap.size w1 w2):=Lib.hid (HBA.out.trans ((undrewP hb2).mono (by simp)));have hcB:=byte_lit 3 3 B rfl HBB.out (by omega) w2 w1.heap.size (((undrewP hb2).block _ (by simp)).trans (heap_alloc_new w1 _));clear hb2))
     | (go_at_call 27;((refine (seal_any _ _ HSZ.out).mono ?_);rintro r w4 ⟨rfl,hb4⟩;have HB4:Hid (Below w1.heap.size w1 w4):=Lib.hid (HB3.out.trans (hb4.mono HB3.out.size));clear hb4)))
   all_goals
     clear hcA hcB hcD
     go_wp2
     go_ret2
     exact ⟨.nilIface,by rw [←HSL.out];rfl,.inl (.inl ⟨rfl,rfl⟩),HB1.out.trans (HB4.out.mono HB1.out.size)⟩
 · rw [frmF_bad hbf hx0] at hb
   injection hb with hT hb
   injection hb with h1 h2
   subst h1 h2
   have hTe:T=⟨#[]⟩:=by rw [←bs_of T,←hT]
   subst hTe
   clear hbf hT
   go_enter Tryz.func14,Tryz.ntmps14
   go_wp2_with fail
   refine (bwrite_any _ _ _ f h l _ (HX.out.below HW.out) (HG.out.below HW.out)).mono ?_
   rintro r w1 ⟨err,rfl,hat,hb1⟩
   rw [HBF.out] at hat ⊢
   have HAT:=Lib.hid hat
   obtain ⟨t,u,rfl⟩:=hat.iface hx0
   have HB1:Hid (Below w.heap.size w w1):=HW.out.trans (hb1.mono HW.out.size)
   clear hb1 hat d0 d1 d2
   go_wp2
   go_ret2
   exact ⟨.iface t u,rfl,HAT.out,HB1.out⟩
end Go.Proofs.YtjkbmfpomgcblaaGreatDoor
