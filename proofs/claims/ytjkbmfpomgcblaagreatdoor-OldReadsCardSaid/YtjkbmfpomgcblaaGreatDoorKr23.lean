import Derived.Test.YtjkbmfpomgcblaaGreatDoorKr21
import Derived.Test.YtjkbmfpomgcblaaGreatDoorKr19
namespace Go.Proofs.YtjkbmfpomgcblaaGreatDoor
open Go.RowKit
def RVReadIs (w:World) (s:List UInt8) (e:Ending) (w':World):Prop :=
 ∃ v,e=.returned (.tuple #[v,.int .i64 ((vreadF s).2.1:Nat),.agg #[.int .i64 ((vreadF s).1:Nat),.int .i64 (-1)]])∧ownsE w' w.heap.size v (vreadF s).2.2∧Below w.heap.size w w'
def D3 (w W:World) (lv:Value) (m x pl:Int):Prop :=
 W.heap[w.heap.size]? = some (.cells #[lv] 22 (0,0))∧W.heap[w.heap.size + 1]? = some (.cells #[.int .i64 m] 3 (0,0))∧W.heap[w.heap.size + 2]? = some (.cells #[.int .i64 x,.int .i64 pl] 46 (0,0))∧Below w.heap.size w W∧w.heap.size + 3≤W.heap.size
theorem D3.cells {w W:World} {lv:Value} {m x pl:Int} (h:D3 w W lv m x pl) :
   W.cell? ⟨w.heap.size,0,none⟩=some lv∧W.cell? ⟨w.heap.size + 1,0,none⟩=some (.int .i64 m)∧W.cell? ⟨w.heap.size + 2,0,none⟩=some (.int .i64 x)∧W.cell? ⟨w.heap.size + 2,1,none⟩=some (.int .i64 pl) ∧
     W.frozen? ⟨w.heap.size,0,none⟩=false∧W.frozen? ⟨w.heap.size + 1,0,none⟩=false∧W.frozen? ⟨w.heap.size + 2,0,none⟩=false∧W.frozen? ⟨w.heap.size + 2,1,none⟩=false:=by
 obtain ⟨h1,h2,h3,_⟩:=h
 exact ⟨cell_of_row _ _ 0 _ _ (0,0) h1,cell_of_row _ _ 0 _ _ (0,0) h2,cell_of_row _ _ 0 _ _ (0,0) h3,cell_of_row _ _ 1 _ _ (0,0) h3,Lib.frozen_of_heap h1 0,Lib.frozen_of_heap h2 0,Lib.frozen_of_heap h3 0,Lib.frozen_of_heap h3 1⟩
theorem D3.kept {w W W2:World} {lv:Value} {m x pl:Int} {row:Option Nat} (h:D3 w W lv m x pl) (hg:W.grownBy W2 row) (hr:∀ k,row=some k→w.heap.size + 3≤k):D3 w W2 lv m x pl:=by
 obtain ⟨h1,h2,h3,h4,h5⟩:=h
 have ne:∀ k,k < w.heap.size + 3→some k≠row:=fun k hk e=>by have:=hr k e.symm;omega
 exact ⟨(hg.block _ (by omega) (ne _ (by omega))).trans h1,(hg.block _ (by omega) (ne _ (by omega))).trans h2,(hg.block _ (by omega) (ne _ (by omega))).trans h3,h4.grown hg (by omega) (fun k hk=>by have:=hr k hk;omega),Nat.le_trans h5 hg.size⟩
set_option maxRecDepth 100000 in
theorem vreset_good (F O N:Nat) (pl:Int) (u:FrameMode) (w:World) (c0:w.cell? ⟨F,0,none⟩=some (.int .i64 0)) (c1:w.cell? ⟨F,1,none⟩=some (.int .i64 pl)) :
   CallsD Tryz.prog 173 #[.pointer (some ⟨F,0,none⟩),.pointer (some ⟨O,0,none⟩),.pointer (some ⟨N,0,none⟩)] u w fun r u' w'=>u'=u∧(r=.returned (.tuple #[])∧Below w.heap.size w w'):=by
 go_enter_d Tryz.func173,Tryz.ntmps173
 go_wp2_with fail
 refine (is_any 0 pl _).mono ?_
 rintro r w1 ⟨rfl,hb1⟩
 have HB1:=Lib.hid hb1
 clear hb1
 go_wp2
 go_end0
 exact ⟨rfl,HB1.out⟩
set_option maxRecDepth 100000 in
theorem vreset_bad (F O N:Nat) (e pl m:Int) (v:Value) (u:FrameMode) (w:World) (he:(e == 0)=false) (c0:w.cell? ⟨F,0,none⟩=some (.int .i64 e)) (c1:w.cell? ⟨F,1,none⟩=some (.int .i64 pl)) (hF:F < w.heap.size) (hO:O < w.heap.size) (hN:N < w.heap.size) (hFO:F≠O) (hFN:F≠N) (hON:O≠N)
   (o0:w.cell? ⟨O,0,none⟩=some v) (n0:w.cell? ⟨N,0,none⟩=some (.int .i64 m)) (y0:w.frozen? ⟨O,0,none⟩=false) (y1:w.frozen? ⟨N,0,none⟩=false) (y2:w.frozen? ⟨F,0,none⟩=false) (y3:w.frozen? ⟨F,1,none⟩=false) :
   CallsD Tryz.prog 173 #[.pointer (some ⟨F,0,none⟩),.pointer (some ⟨O,0,none⟩),.pointer (some ⟨N,0,none⟩)] u w fun r u' w'=>u'=u∧(r=.returned (.tuple #[])∧∃ w1,Below w.heap.size w w1∧w'=(((w1.setCell ⟨O,0,none⟩ (.slice none 0 0)).setCell ⟨N,0,none⟩ (.int .i64 0)).setCell ⟨F,0,none⟩ (.int .i64 e)).setCell ⟨F,1,none⟩ (.int .i64 (-1))):=by
 go_enter_d Tryz.func173,Tryz.ntmps173
 go_wp2_with fail
 refine (is_any e pl _).mono ?_
 rintro r w1 ⟨rfl,hb1⟩
 rw [he]
 have d0:w1.cell? ⟨F,0,none⟩=some (.int .i64 e):=(hb1.cell hF).trans c0
 have HB1:=Lib.hid hb1
 have hz:=hb1.size
 clear hb1
 go_wp2_with fail
 refine (baref_any e _).mono ?_
 rintro r w2 ⟨rfl,hb2⟩
 have hb3:=HB1.out.trans (hb2.mono hz)
 have e0:w2.cell? ⟨F,0,none⟩=some (.int .i64 e):=(hb3.cell hF).trans c0
 have e1:w2.cell? ⟨F,1,none⟩=some (.int .i64 pl):=(hb3.cell hF).trans c1
 have e2:w2.cell? ⟨O,0,none⟩=some v:=(hb3.cell hO).trans o0
 have e3:w2.cell? ⟨N,0,none⟩=some (.int .i64 m):=(hb3.cell hN).trans n0
 have x0:w2.frozen? ⟨F,0,none⟩=false:=(hb3.frozen hF).trans y2
 have x1:w2.frozen? ⟨F,1,none⟩=false:=(hb3.frozen hF).trans y3
 have x2:w2.frozen? ⟨O,0,none⟩=false:=(hb3.frozen hO).trans y0
 have x3:w2.frozen? ⟨N,0,none⟩=false:=(hb3.frozen hN).trans y1
 have HB3:=Lib.hid hb3
 clear hb2 hb3 c0 c1 o0 n0 y0 y1 y2 y3 d0
 go_wp2
 go_end0
 exact ⟨rfl,w2,HB3.out,rfl⟩
end Go.Proofs.YtjkbmfpomgcblaaGreatDoor
namespace Go.Proofs.YtjkbmfpomgcblaaGreatDoor
open Go.RowKit
def RoT (w:World) (R:Nat) (T:ByteArray) (e:Nat):Prop:=w.heap[R]? = some (.cells #[.string T,errV e] 164 (0,0))
def Ro (w:World) (R:Nat) (l:List UInt8) (e:Nat):Prop:=∃ T:ByteArray,T.data.toList=l∧T.size≤1000000∧RoT w R T e
theorem RoT.cells {w:World} {R:Nat} {T:ByteArray} {e:Nat} (h:RoT w R T e):w.cell? ⟨R,0,none⟩=some (.string T)∧w.cell? ⟨R,1,none⟩=some (errV e)∧w.frozen? ⟨R,0,none⟩=false∧w.frozen? ⟨R,1,none⟩=false∧R < w.heap.size :=
 ⟨cell_of_row _ _ 0 _ _ (0,0) h,cell_of_row _ _ 1 _ _ (0,0) h,Lib.frozen_of_heap h 0,Lib.frozen_of_heap h 1,(Array.getElem?_eq_some_iff.1 h).1⟩
theorem Ro.lt {w:World} {R:Nat} {l:List UInt8} {e:Nat} (h:Ro w R l e):R < w.heap.size:=by obtain ⟨T,_,_,h⟩:=h;exact h.cells.2.2.2.2
theorem Ro.kept {w w':World} {R:Nat} {l:List UInt8} {e:Nat} {row:Option Nat} (h:Ro w R l e) (hg:w.grownBy w' row) (hne:row≠some R):Ro w' R l e:=by
 have hl:=h.lt
 obtain ⟨T,h1,h2,h3⟩:=h
 exact ⟨T,h1,h2,(hg.block R hl (fun e=>hne e.symm)).trans h3⟩
theorem Ro.below {w w':World} {R:Nat} {l:List UInt8} {e:Nat} (h:Ro w R l e) (hb:Below w.heap.size w w'):Ro w' R l e:=h.kept (grown_b hb) (by simp)
theorem RoT.put {w:World} {R:Nat} {T:ByteArray} {e:Nat} (h:RoT w R T e) (X:ByteArray) (x:Nat):RoT ((w.setCell ⟨R,1,none⟩ (errV x)).setCell ⟨R,0,none⟩ (.string X)) R X x:=by
 unfold RoT at h ⊢
 simp [World.setCell,Array.getElem?_modify,h]
theorem grownO {w w1:World} {R:Nat} (h:Below w.heap.size w w1) (u v:Value):w.grownBy ((w1.setCell ⟨R,1,none⟩ u).setCell ⟨R,0,none⟩ v) (some R) :=
 ⟨h.os,h.tape,h.output,by simpa using h.size,fun k hk hne=>by
   have hk2:R≠k:=fun e=>hne (by rw [e])
   simp only [World.setCell,Array.getElem?_modify,if_neg hk2]
   exact h.block k hk⟩
theorem grownO0 (w:World) (R:Nat):w.grownBy w (some R):=⟨rfl,rfl,rfl,Nat.le_refl _,fun _ _ _=>rfl⟩
theorem errV_okO:errV 0=.nilIface:=rfl
theorem errV_form (x:Nat):errV x=.nilIface∨errV x=.iface 44 (.int .i64 x):=by
 by_cases h:x=0
 · subst h;exact .inl rfl
 · exact .inr (by unfold errV;rw [if_neg h])
theorem errV_err {e:Nat} (h:e≠0):errV e=.iface 44 (.int .i64 e):=by unfold errV;rw [if_neg h]
theorem drop_ext {T:ByteArray} {k:Nat}:(T.extract k T.size).data.toList=T.data.toList.drop k:=by
 exact ext_dropV T k
theorem ext_fit {T:ByteArray} {k n:Nat} (h:T.size≤n):(T.extract k T.size).size≤n:=by rw [ByteArray.size_extract];omega
set_option maxRecDepth 100000 in
theorem onum1_to (t:ByteArray) (M:Nat) (most:Int) (n k x:Nat) (w:World) (ht:t.size≤maxLen) (h0 : -9223372036854775808≤most) (h1:most≤9223372036854775807) (hM:w.cell? ⟨M,0,none⟩=some (.int .i64 most)) (hi:intL t.data.toList most=(n,k,x)) :
   Calls Tryz.prog 176 #[.string t,.pointer (some ⟨M,0,none⟩)] w fun e w'=>e=.returned (.tuple #[.int .i64 (n:Int),.int .i64 (k:Int),errV x])∧Below w.heap.size w w':=by
 have HI:Hid (intV (intL t.data.toList most)=.tuple #[.int .i64 (n:Int),.int .i64 (k:Int),errV x]):=Lib.hid (by rw [hi];rfl)
 clear hi
 obtain ⟨q,hq⟩:∃ q,errV x=q:=⟨_,rfl⟩
 rw [hq] at HI ⊢
 clear hq
 go_enter Tryz.func176,Tryz.ntmps176
 go_wp2_with fail
 refine (int_any t most w ht h0 h1).mono ?_
 rintro r w' ⟨rfl,rfl⟩
 rw [HI.out]
 go_wp2
 go_ret3
 exact ⟨rfl,Below.refl _ _⟩
set_option maxRecDepth 100000 in
set_option maxHeartbeats 1000000 in
theorem okind_any (t:ByteArray) (w:World) (ht:t.size≤maxLen) :
   Calls Tryz.prog 177 #[.string t] w fun e w'=>e=.returned (.tuple #[.int .i64 ((kindF t.data.toList).1:Nat),.int .i64 ((kindF t.data.toList).2.1:Nat),errV (kindF t.data.toList).2.2])∧Below w.heap.size w w':=by
 unfold maxLen at ht
 by_cases h0:0 < t.size
 · have hne : (t.toList == []) = false := by
     have h:=bne_empty h0
     rw [bne] at h
     simpa using h
   obtain ⟨c, hc⟩ : ∃ c, t[0]'h0 = c := ⟨_, rfl⟩
   have hl:kindF t.data.toList=if c.toNat < 1∨4 < c.toNat then (0,0,1) else (c.toNat,1,0):=by
     have h1:t.data.toList=c :: t.data.toList.drop 1:=by
       have h2:0 < t.data.toList.length:=by rw [←size_data];exact h0
       have h3:=List.drop_eq_getElem_cons h2
       rw [List.drop_zero] at h3
       have h4 : t.data.toList[0]'h2 = c := hc
       rw [h4] at h3
       exact h3
     rw [h1,kindF_cons]
   have HL:=Lib.hid hl
   have d1:(0:Int) < (t.size:Int):=by omega
   clear hl
   by_cases h1:c.toNat < 1
   · have HR:Hid (kindF t.data.toList=(0,0,1)):=Lib.hid (by rw [HL.out,if_pos (.inl h1)])
     have d2:(c.toNat:Int) < 1:=by omega
     go_enter Tryz.func177,Tryz.ntmps177
     go_wp2
     go_ret3
     rw [HR.out]
     exact ⟨rfl,Below.refl _ _⟩
   · by_cases h4:4 < c.toNat
     · have HR:Hid (kindF t.data.toList=(0,0,1)):=Lib.hid (by rw [HL.out,if_pos (.inr h4)])
       have d2:1≤(c.toNat:Int):=by omega
       have d3:4 < (c.toNat:Int):=by omega
       go_enter Tryz.func177,Tryz.ntmps177
       go_wp2
       go_ret3
       rw [HR.out]
       exact ⟨rfl,Below.refl _ _⟩
     · have HR:Hid (kindF t.data.toList=(c.toNat,1,0)):=Lib.hid (by rw [HL.out,if_neg (by omega)])
       have d2:1≤(c.toNat:Int):=by omega
       have d3:(c.toNat:Int)≤4:=by omega
       go_enter Tryz.func177,Tryz.ntmps177
       go_wp2
       go_ret3
       rw [HR.out]
       exact ⟨rfl,Below.refl _ _⟩
 · obtain rfl:=empty_of h0
   go_enter Tryz.func177,Tryz.ntmps177
   go_wp2
   go_ret3
   exact ⟨rfl,Below.refl _ _⟩
theorem okind_to (t:ByteArray) (n k x:Nat) (w:World) (ht:t.size≤maxLen) (hi:kindF t.data.toList=(n,k,x)) :
   Calls Tryz.prog 177 #[.string t] w fun e w'=>e=.returned (.tuple #[.int .i64 (n:Int),.int .i64 (k:Int),errV x])∧Below w.heap.size w w' :=
 (okind_any t w ht).mono fun e w' ⟨h1,h2⟩=>⟨by rw [h1,hi],h2⟩
theorem otext_to (t K:ByteArray) (k x:Nat) (w:World) (ht:t.size≤1000000) (hi:getS t.data.toList=(K.data.toList,k,x)) :
   Calls Tryz.prog 179 #[.string t] w fun e w'=>e=.returned (.tuple #[.string K,.int .i64 (k:Int),errV x])∧Below w.heap.size w w' :=
 (sget_any t w (by omega)).mono fun e w' ⟨h1,h2⟩=>⟨by rw [h1,hi];rfl,h2⟩
set_option maxRecDepth 100000 in
theorem ogetI_skip (R:Nat) (F:Value) (l:List UInt8) (e:Nat) (w:World) (h:Ro w R l e) (he:e≠0) :
   Calls Tryz.prog 175 #[.pointer (some ⟨R,0,none⟩),F] w fun r w'=>r=.returned (.int .i64 0)∧w=w':=by
 obtain ⟨T,_,_,hrow⟩:=h
 obtain ⟨_,c1,_,_,_⟩:=hrow.cells
 rw [errV_err he] at c1
 clear hrow he
 go_enter Tryz.func175,Tryz.ntmps175
 go_wp2
 go_ret
 exact ⟨rfl,rfl⟩
set_option maxRecDepth 100000 in
theorem ogetS_skip (R:Nat) (F:Value) (l:List UInt8) (e:Nat) (w:World) (h:Ro w R l e) (he:e≠0) :
   Calls Tryz.prog 178 #[.pointer (some ⟨R,0,none⟩),F] w fun r w'=>r=.returned (.string ⟨#[]⟩)∧w=w':=by
 obtain ⟨T,_,_,hrow⟩:=h
 obtain ⟨_,c1,_,_,_⟩:=hrow.cells
 rw [errV_err he] at c1
 clear hrow he
 go_enter Tryz.func178,Tryz.ntmps178
 go_wp2
 go_ret
 exact ⟨rfl,rfl⟩
set_option maxRecDepth 100000 in
set_option maxHeartbeats 1000000 in
theorem ogetN_go (R:Nat) (l:List UInt8) (M:Nat) (most:Int) (n:Nat) (k x:Nat) (w:World) (h:Ro w R l 0) (hm0 : -9223372036854775808≤most) (hm1:most≤9223372036854775807) (hM:w.cell? ⟨M,0,none⟩=some (.int .i64 most)) (hi:intL l most=(n,k,x)) (hk:k≤l.length) :
   Calls Tryz.prog 175 #[.pointer (some ⟨R,0,none⟩),.func (.func 176) #[] #[.pointer (some ⟨M,0,none⟩)]] w fun r w'=>r=.returned (.int .i64 (n:Int))∧Ro w' R (l.drop k) x∧w.grownBy w' (some R):=by
 obtain ⟨T,rfl,hT,hrow⟩:=h
 have HI:=Lib.hid hi
 have HT:=Lib.hid hT
 have HROW:=Lib.hid hrow
 have HM:Hid (T.size≤maxLen):=Lib.hid (by unfold maxLen;omega)
 obtain ⟨c0,c1,z0,z1,hR⟩:=hrow.cells
 rw [errV_okO] at c1
 have d1:(0:Int)≤(k:Int):=by omega
 have d2:(k:Int)≤(T.size:Int):=by rw [size_data];omega
 have H0:=Lib.hid hm0
 have H1:=Lib.hid hm1
 have HMC:=Lib.hid hM
 clear hm0 hm1 hM
 clear hi hrow hT hk
 rcases errV_form x with hq | hq
 all_goals
  have HQ:=Lib.hid hq
  clear hq
  go_enter Tryz.func175,Tryz.ntmps175
  go_wp2_with fail
  refine (onum1_to T M most n k x w HM.out H0.out H1.out HMC.out HI.out).mono ?_
  rintro r w1 ⟨rfl,hb1⟩
  rw [HQ.out]
  have HB1:=Lib.hid hb1
  have HR1:Hid (RoT w1 R T 0):=Lib.hid ((hb1.block R hR).trans HROW.out)
  clear c0 c1 z0 z1 hb1
  obtain ⟨c0,c1,z0,z1,_⟩:=HR1.out.cells
  rw [errV_okO] at c1
  go_wp2
  go_ret
  refine ⟨rfl,⟨T.extract k T.size,drop_ext,ext_fit HT.out,?_⟩,grownO HB1.out _ _⟩
  rw [←HQ.out]
  exact HR1.out.put _ x
set_option maxRecDepth 100000 in
set_option maxHeartbeats 1000000 in
theorem ogetK_go (R:Nat) (l:List UInt8) (n:Nat) (k x:Nat) (w:World) (h:Ro w R l 0)  (hi:kindF l=(n,k,x)) (hk:k≤l.length) :
   Calls Tryz.prog 175 #[.pointer (some ⟨R,0,none⟩),.func (.func 177) #[] #[]] w fun r w'=>r=.returned (.int .i64 (n:Int))∧Ro w' R (l.drop k) x∧w.grownBy w' (some R):=by
 obtain ⟨T,rfl,hT,hrow⟩:=h
 have HI:=Lib.hid hi
 have HT:=Lib.hid hT
 have HROW:=Lib.hid hrow
 have HM:Hid (T.size≤maxLen):=Lib.hid (by unfold maxLen;omega)
 obtain ⟨c0,c1,z0,z1,hR⟩:=hrow.cells
 rw [errV_okO] at c1
 have d1:(0:Int)≤(k:Int):=by omega
 have d2:(k:Int)≤(T.size:Int):=by rw [size_data];omega
 clear hi hrow hT hk
 rcases errV_form x with hq | hq
 all_goals
  have HQ:=Lib.hid hq
  clear hq
  go_enter Tryz.func175,Tryz.ntmps175
  go_wp2_with fail
  refine (okind_to T n k x w HM.out HI.out).mono ?_
  rintro r w1 ⟨rfl,hb1⟩
  rw [HQ.out]
  have HB1:=Lib.hid hb1
  have HR1:Hid (RoT w1 R T 0):=Lib.hid ((hb1.block R hR).trans HROW.out)
  clear c0 c1 z0 z1 hb1
  obtain ⟨c0,c1,z0,z1,_⟩:=HR1.out.cells
  rw [errV_okO] at c1
  go_wp2
  go_ret
  refine ⟨rfl,⟨T.extract k T.size,drop_ext,ext_fit HT.out,?_⟩,grownO HB1.out _ _⟩
  rw [←HQ.out]
  exact HR1.out.put _ x
set_option maxRecDepth 100000 in
set_option maxHeartbeats 1000000 in
theorem ogetT_go (R:Nat) (l:List UInt8) (K:ByteArray) (k x:Nat) (w:World) (h:Ro w R l 0)  (hi:getS l=(K.data.toList,k,x)) (hk:k≤l.length) :
   Calls Tryz.prog 178 #[.pointer (some ⟨R,0,none⟩),.func (.func 179) #[] #[]] w fun r w'=>r=.returned (.string K)∧Ro w' R (l.drop k) x∧w.grownBy w' (some R):=by
 obtain ⟨T,rfl,hT,hrow⟩:=h
 have HI:=Lib.hid hi
 have HT:=Lib.hid hT
 have HROW:=Lib.hid hrow
 have HM:Hid (T.size≤maxLen):=Lib.hid (by unfold maxLen;omega)
 obtain ⟨c0,c1,z0,z1,hR⟩:=hrow.cells
 rw [errV_okO] at c1
 have d1:(0:Int)≤(k:Int):=by omega
 have d2:(k:Int)≤(T.size:Int):=by rw [size_data];omega
 clear hi hrow hT hk
 rcases errV_form x with hq | hq
 all_goals
  have HQ:=Lib.hid hq
  clear hq
  go_enter Tryz.func178,Tryz.ntmps178
  go_wp2_with fail
  refine (otext_to T K k x w HT.out HI.out).mono ?_
  rintro r w1 ⟨rfl,hb1⟩
  rw [HQ.out]
  have HB1:=Lib.hid hb1
  have HR1:Hid (RoT w1 R T 0):=Lib.hid ((hb1.block R hR).trans HROW.out)
  clear c0 c1 z0 z1 hb1
  obtain ⟨c0,c1,z0,z1,_⟩:=HR1.out.cells
  rw [errV_okO] at c1
  go_wp2
  go_ret
  refine ⟨rfl,⟨T.extract k T.size,drop_ext,ext_fit HT.out,?_⟩,grownO HB1.out _ _⟩
  rw [←HQ.out]
  exact HR1.out.put _ x
theorem grown_allocO {w w':World} {o:Obj} {row:Option Nat} (h:(w.alloc o).grownBy w' row):w.grownBy w' row :=
 ⟨h.os,h.tape,h.output,Nat.le_trans (by simp) h.size,fun k hk hne=>(h.block k (by simp;omega) hne).trans (Below.heap_alloc _ _ _ hk)⟩
set_option maxRecDepth 100000 in
theorem onumber_any (R:Nat) (most:Int) (l l':List UInt8) (e e' n:Nat) (w:World) (h:Ro w R l e) (hm0 : -9223372036854775808≤most) (hm1:most≤9223372036854775807) (hn:numS most l e=(n,l',e')) :
   Calls Tryz.prog 132 #[.pointer (some ⟨R,0,none⟩),.int .i64 most] w fun r w'=>r=.returned (.int .i64 (n:Int))∧Ro w' R l' e'∧w.grownBy w' (some R):=by
 have hmf:∀ (fn:Fn) (first cap:Array Value) (w:World),(Instr.makeFunc fn first cap).run Tryz.prog w=.ok (.func fn first cap) w:=fun _ _ _ _=>rfl
 have H:=Lib.hid (h.below ((Below.refl _ _).alloc (Nat.le_refl _) (.cells #[.int .i64 most] 3)))
 by_cases he:e=0
 · subst he
   obtain ⟨n',k,x,hi⟩:∃ n k x,intL l most=(n,k,x):=⟨_,_,_,rfl⟩
   rw [numS_go hi] at hn
   injection hn with i1 hn;injection hn with i2 i3
   subst i1 i2 i3
   have HI:=Lib.hid hi
   have HK:=Lib.hid (intL_fit hi).1
   have H0:=Lib.hid hm0
   have H1:=Lib.hid hm1
   clear hi h hm0 hm1
   go_enter Tryz.func132,Tryz.ntmps132
   go_wp2_with fail
   refine (ogetN_go R l w.heap.size most n' k x _ H.out H0.out H1.out (by simp) HI.out HK.out).mono ?_
   rintro r w1 ⟨rfl,hr1,hg1⟩
   have HR1:=Lib.hid hr1
   have HG1:=Lib.hid (grown_allocO hg1)
   clear hr1 hg1
   go_wp2
   go_ret
   exact ⟨rfl,HR1.out,HG1.out⟩
 · rw [numS_skip he] at hn
   injection hn with i1 hn;injection hn with i2 i3
   subst i1 i2 i3
   clear h hm0 hm1
   go_enter Tryz.func132,Tryz.ntmps132
   go_wp2_with fail
   refine (ogetI_skip R _ l e _ H.out he).mono ?_
   rintro r w1 ⟨rfl,rfl⟩
   go_wp2
   go_ret
   exact ⟨rfl,H.out,grown_allocO (grownO0 _ _)⟩
theorem okindS_any (R:Nat) (l l':List UInt8) (e e' n:Nat) (w:World) (h:Ro w R l e) (hn:kindS l e=(n,l',e')) :
   Calls Tryz.prog 175 #[.pointer (some ⟨R,0,none⟩),.func (.func 177) #[] #[]] w fun r w'=>r=.returned (.int .i64 (n:Int))∧Ro w' R l' e'∧w.grownBy w' (some R):=by
 by_cases he:e=0
 · subst he
   obtain ⟨n',k,x,hi⟩:∃ n k x,kindF l=(n,k,x):=⟨_,_,_,rfl⟩
   rw [kindS_go hi] at hn
   injection hn with i1 hn;injection hn with i2 i3
   subst i1 i2 i3
   exact ogetK_go R l n' k x w h hi (kindF_fit hi).1
 · rw [kindS_skip he] at hn
   injection hn with i1 hn;injection hn with i2 i3
   subst i1 i2 i3
   refine (ogetI_skip R _ l e w h he).mono ?_
   rintro r w' ⟨rfl,rfl⟩
   exact ⟨rfl,h,grownO0 _ _⟩
theorem otextS_any (R:Nat) (l l':List UInt8) (K:ByteArray) (e e':Nat) (w:World) (h:Ro w R l e) (hn:textS l e=(K.data.toList,l',e')) :
   Calls Tryz.prog 178 #[.pointer (some ⟨R,0,none⟩),.func (.func 179) #[] #[]] w fun r w'=>r=.returned (.string K)∧Ro w' R l' e'∧w.grownBy w' (some R):=by
 by_cases he:e=0
 · subst he
   obtain ⟨t,k,x,hi⟩:∃ n k x,getS l=(n,k,x):=⟨_,_,_,rfl⟩
   rw [textS_go hi] at hn
   injection hn with i1 hn;injection hn with i2 i3
   subst i1 i2 i3
   exact ogetT_go R l K k x w h hi (getS_fit hi).1
 · rw [textS_skip he] at hn
   injection hn with i1 hn;injection hn with i2 i3
   subst i2 i3
   refine (ogetS_skip R _ l e w h he).mono ?_
   rintro r w' ⟨rfl,rfl⟩
   refine ⟨?_,h,grownO0 _ _⟩
   have:K=⟨#[]⟩:=by rw [←bs_of K,←i1]
   rw [this]
end Go.Proofs.YtjkbmfpomgcblaaGreatDoor
namespace Go.Proofs.YtjkbmfpomgcblaaGreatDoor
open Go.RowKit
def vdoor (w:World):List Deferred :=
 [{ target:=.fn (Fn.func 75) #[],args:=#[.pointer (some ⟨w.heap.size + 2,0,none⟩)] },
   { target:=.fn (Fn.func 173) #[.pointer (some ⟨w.heap.size + 2,0,none⟩),.pointer (some ⟨w.heap.size,0,none⟩),.pointer (some ⟨w.heap.size + 1,0,none⟩)],args:=#[] }]
set_option maxRecDepth 100000 in
set_option maxHeartbeats 1000000 in
theorem vdoor_bad {w W:World} {lv:Value} {m:Int} {s:List UInt8} (e:Nat) (pl:Int) (h:D3 w W lv m 0 (-1)) (he:e≠0) (hrd:vreadF s=(e,0,[])) (tmps:Array Value)
   (t2:tmps[2]? = some (.pointer (some ⟨w.heap.size,0,none⟩))) (t3:tmps[3]? = some (.pointer (some ⟨w.heap.size + 1,0,none⟩))) (t4:tmps[4]? = some (.pointer (some ⟨w.heap.size + 2,0,none⟩))) :
   Leaves Tryz.prog Tryz.f126 tmps (RVReadIs w s) (vdoor w) (.panicking [{ v:=.iface 156 (.agg #[.int .i64 (e:Int),.int .i64 pl]),recovered:=false }]) W:=by
 obtain ⟨o0,n0,c0,c1,y0,y1,z0,z1⟩:=h.cells
 have hbel:=h.2.2.2.1
 have hz:=h.2.2.2.2
 have hbe:((e:Int) == 0)=false:=by simp;omega
 obtain ⟨W2,hW2⟩:∃ W2,(W.setCell ⟨w.heap.size + 2,0,none⟩ (.int .i64 (e:Int))).setCell ⟨w.heap.size + 2,1,none⟩ (.int .i64 pl)=W2:=⟨_,rfl⟩
 have hz2:W2.heap.size=W.heap.size:=by rw [←hW2];simp
 have h2:D3 w W2 lv m e pl:=by
   rw [←hW2]
   obtain ⟨r1,r2,r3,r4,r5⟩:=h
   refine ⟨?_,?_,?_,(r4.setCell (by simp) _).setCell (by simp) _,by simpa using r5⟩
   · simp [World.setCell,Array.getElem?_modify,r1]
   · simp [World.setCell,Array.getElem?_modify,r2]
   · simp [World.setCell,Array.getElem?_modify,r3]
 obtain ⟨W3,hW3⟩:∃ W3,W2.alloc (.cells #[.int .i64 (e:Int),.int .i64 pl] 156)=W3:=⟨_,rfl⟩
 have h3:D3 w W3 lv m e pl:=by rw [←hW3];exact h2.kept (World.grownBy_alloc W2 _ none) (fun k hk=>by cases hk)
 have hz3:=h3.2.2.2.2
 obtain ⟨p0,p1,p2,p3,q0,q1,q2,q3⟩:=h3.cells
 unfold vdoor
 refine leaves_cons (f:=75) (args:=#[.pointer (some ⟨w.heap.size + 2,0,none⟩)]) (by simp) (by simp [go_sem]) ?_
 refine (caught_pan (w.heap.size + 2) e pl 0 (-1) [] W (by omega) c0 c1 z0 z1).mono ?_
 rintro r u' w2 ⟨rfl,rfl,rfl⟩
 rw [hW2,hW3]
 refine leaves_cons (f:=173) (args:=#[.pointer (some ⟨w.heap.size + 2,0,none⟩),.pointer (some ⟨w.heap.size,0,none⟩),.pointer (some ⟨w.heap.size + 1,0,none⟩)]) (by simp [settle]) (by simp [go_sem]) ?_
 refine (vreset_bad (w.heap.size + 2) w.heap.size (w.heap.size + 1) e pl m lv _ _ hbe p2 p3 (by omega) (by omega) (by omega) (by omega) (by omega) (by omega) p0 p1 q0 q1 q2 q3).mono ?_
 rintro r u' w4 ⟨rfl,rfl,w5,hb5,rfl⟩
 have h5:D3 w w5 lv m e pl:=h3.kept (grown_b hb5) (fun k hk=>by cases hk)
 obtain ⟨r1,r2,r3,r4,r5⟩:=h5
 have h6:D3 w ((((w5.setCell ⟨w.heap.size,0,none⟩ (.slice none 0 0)).setCell ⟨w.heap.size + 1,0,none⟩ (.int .i64 0)).setCell ⟨w.heap.size + 2,0,none⟩ (.int .i64 e)).setCell ⟨w.heap.size + 2,1,none⟩ (.int .i64 (-1))) (.slice none 0 0) 0 e (-1):=by
   refine ⟨?_,?_,?_,(((r4.setCell (by simp) _).setCell (by simp) _).setCell (by simp) _).setCell (by simp) _,by simpa using r5⟩
   · simp [World.setCell,Array.getElem?_modify,r1]
   · simp [World.setCell,Array.getElem?_modify,r2]
   · simp [World.setCell,Array.getElem?_modify,r3]
 obtain ⟨v0,v1,v2,v3,_⟩:=h6.cells
 refine ⟨.tuple #[.slice none 0 0,.int .i64 0,.agg #[.int .i64 (e:Int),.int .i64 (-1)]],by simp [results,Tryz.results126,go_sem,t2,t3,t4,v0,v1,v2,v3],.slice none 0 0,?_,?_,h6.2.2.2.1⟩
 · rw [hrd];rfl
 · rw [hrd];exact ownsE_nil _ _
set_option maxRecDepth 100000 in
set_option maxHeartbeats 1000000 in
theorem vdoor_good {w W:World} {lv:Value} {n:Nat} {l:List Ent} {s:List UInt8} (h:D3 w W lv n 0 (-1)) (ho:ownsE W (w.heap.size + 3) lv l) (hrd:vreadF s=(0,n,l)) (tmps:Array Value)
   (t2:tmps[2]? = some (.pointer (some ⟨w.heap.size,0,none⟩))) (t3:tmps[3]? = some (.pointer (some ⟨w.heap.size + 1,0,none⟩))) (t4:tmps[4]? = some (.pointer (some ⟨w.heap.size + 2,0,none⟩))) :
   Leaves Tryz.prog Tryz.f126 tmps (RVReadIs w s) (vdoor w) .returning W:=by
 obtain ⟨_,_,c0,c1,_⟩:=h.cells
 unfold vdoor
 refine leaves_cons (f:=75) (args:=#[.pointer (some ⟨w.heap.size + 2,0,none⟩)]) (by simp) (by simp [go_sem]) ?_
 refine (caught_idle _ W).mono ?_
 rintro r u' w2 ⟨rfl,rfl,rfl⟩
 refine leaves_cons (f:=173) (args:=#[.pointer (some ⟨w.heap.size + 2,0,none⟩),.pointer (some ⟨w.heap.size,0,none⟩),.pointer (some ⟨w.heap.size + 1,0,none⟩)]) (by simp [settle]) (by simp [go_sem]) ?_
 refine (vreset_good (w.heap.size + 2) w.heap.size (w.heap.size + 1) (-1) _ _ c0 c1).mono ?_
 rintro r u' w3 ⟨rfl,rfl,hb3⟩
 have h3:=h.kept (grown_b hb3) (fun k hk=>by cases hk)
 obtain ⟨v0,v1,v2,v3,_⟩:=h3.cells
 refine ⟨.tuple #[lv,.int .i64 (n:Int),.agg #[.int .i64 0,.int .i64 (-1)]],by simp [results,Tryz.results126,go_sem,t2,t3,t4,v0,v1,v2,v3],lv,?_,?_,h3.2.2.2.1⟩
 · rw [hrd];rfl
 · rw [hrd];exact (ho.below hb3).mono (by omega)
theorem grown_set (W:World) (b o:Nat) (x:Value):W.grownBy (W.setCell ⟨b,o,none⟩ x) (some b) :=
 ⟨rfl,rfl,rfl,by simp,fun k hk hne=>by
   have hk2:b≠k:=fun e=>hne (by rw [e])
   simp only [World.setCell,Array.getElem?_modify,if_neg hk2]⟩
theorem own_set {W:World} {base b o:Nat} {v x:Value} {l:List Ent} (ho:ownsE W base v l) (hb:b < base):ownsE (W.setCell ⟨b,o,none⟩ x) base v l :=
 grown_ne ho hb (grown_set W b o x)
theorem D3.over {w W:World} {lv lv':Value} {m m' x pl:Int} (h:D3 w W lv m x pl):D3 w ((((W.setCell ⟨w.heap.size,0,none⟩ lv').setCell ⟨w.heap.size + 1,0,none⟩ (.int .i64 m')).setCell ⟨w.heap.size + 2,0,none⟩ (.int .i64 x)).setCell ⟨w.heap.size + 2,1,none⟩ (.int .i64 pl)) lv' m' x pl:=by
 obtain ⟨r1,r2,r3,r4,r5⟩:=h
 refine ⟨?_,?_,?_,(((r4.setCell (by simp) _).setCell (by simp) _).setCell (by simp) _).setCell (by simp) _,by simpa using r5⟩
 · simp [World.setCell,Array.getElem?_modify,r1]
 · simp [World.setCell,Array.getElem?_modify,r2]
 · simp [World.setCell,Array.getElem?_modify,r3]
set_option maxRecDepth 100000 in
set_option maxHeartbeats 4000000 in
theorem rvread_any (s:ByteArray) (w:World) (hs:s.size≤1000000) :
   Calls Tryz.prog 126 #[.string s] w (RVReadIs w s.data.toList):=by
 have hmf:∀ (fn:Fn) (first cap:Array Value) (w:World),(Instr.makeFunc fn first cap).run Tryz.prog w=.ok (.func fn first cap) w:=fun _ _ _ _=>rfl
 go_enter_defers Tryz.func126,Tryz.ntmps126
 go_wp2_with fail
 refine (good_any _).mono ?_
 rintro r w1 ⟨rfl,hb1⟩
 have hz1:w.heap.size + 3≤w1.heap.size:=by have:=hb1.size;simpa using this
 have hA:D3 w (((w.alloc (.cells #[.slice none 0 0] 22)).alloc (.cells #[.int .i64 0] 3)).alloc (.cells #[.int .i64 0,.int .i64 0] 46)) (.slice none 0 0) 0 0 0:=by
   refine ⟨?_,?_,?_,(((Below.refl _ _).alloc (Nat.le_refl _) _).alloc (by simp) _).alloc (by simp only [World.size_alloc];omega) _,by simp⟩
   · rw [Below.heap_alloc _ _ _ (by simp only [World.size_alloc];omega),Below.heap_alloc _ _ _ (by simp only [World.size_alloc];omega)];exact heap_alloc_new w _
   · rw [Below.heap_alloc _ _ _ (by simp only [World.size_alloc];omega)];have h:=heap_alloc_new (w.alloc (.cells #[.slice none 0 0] 22)) (.cells #[.int .i64 0] 3);simpa using h
   · have h:=heap_alloc_new ((w.alloc (.cells #[.slice none 0 0] 22)).alloc (.cells #[.int .i64 0] 3)) (.cells #[.int .i64 0,.int .i64 0] 46);simpa using h
 have h1:=hA.kept (grown_b hb1) (fun k hk=>by cases hk)
 obtain ⟨_,_,c0,c1,_,_,f0,f1⟩:=h1.cells
 have h2:D3 w ((w1.setCell ⟨w.heap.size + 2,0,none⟩ (.int .i64 0)).setCell ⟨w.heap.size + 2,1,none⟩ (.int .i64 (-1))) (.slice none 0 0) 0 0 (-1):=by
   obtain ⟨r1,r2,r3,r4,r5⟩:=h1
   refine ⟨?_,?_,?_,(r4.setCell (by simp) _).setCell (by simp) _,by simpa using r5⟩
   · simp [World.setCell,Array.getElem?_modify,r1]
   · simp [World.setCell,Array.getElem?_modify,r2]
   · simp [World.setCell,Array.getElem?_modify,r3]
 have H2:=Lib.hid h2
 clear hb1 hA h1 h2
 have HS0:Hid (Sc (((w1.setCell ⟨w.heap.size + 1 + 1,0,none⟩ (.int .i64 0)).setCell ⟨w.heap.size + 1 + 1,1,none⟩ (.int .i64 (-1))).alloc (.cells #[.string s,.int .i64 0] 97)) w1.heap.size s 0):=Lib.hid (by
   have h:=heap_alloc_new ((w1.setCell ⟨w.heap.size + 1 + 1,0,none⟩ (.int .i64 0)).setCell ⟨w.heap.size + 1 + 1,1,none⟩ (.int .i64 (-1))) (.cells #[.string s,.int .i64 0] 97)
   unfold Sc
   simpa using h)
 have H3:=Lib.hid (H2.out.kept (World.grownBy_alloc _ (.cells #[.string s,.int .i64 0] 97) none) (fun k hk=>by cases hk))
 go_wp2_with fail
 refine (entries_any w1.heap.size s _ HS0.out hs).mono ?_
 rintro r w2 ⟨hg,hc⟩
 have h4:=H3.out.kept hg (fun k hk=>by cases hk;exact hz1)
 have H4:=Lib.hid h4
 rcases hc with ⟨v,n,l,hv,rfl,ho,hsc⟩ | ⟨x,pl,hv,hx,rfl⟩
 · obtain ⟨ad, cc, rfl⟩ : ∃ ad cc, v = .slice ad l.length cc := by
     obtain ⟨ad,cc,hh,_⟩:=ho.is.form
     exact ⟨ad,cc,hh⟩
   have h5:D3 w (w2.setCell ⟨w.heap.size,0,none⟩ (.slice ad l.length cc)) (.slice ad l.length cc) 0 0 (-1):=by
     obtain ⟨r1,r2,r3,r4,r5⟩:=h4
     refine ⟨?_,?_,?_,r4.setCell (by simp) _,by simpa using r5⟩
     · simp [World.setCell,Array.getElem?_modify,r1]
     · simp [World.setCell,Array.getElem?_modify,r2]
     · simp [World.setCell,Array.getElem?_modify,r3]
   obtain ⟨o0,_,_,_,y0,_⟩:=h4.cells
   obtain ⟨k0,k1,k2,k3,g0,g1,g2,g3⟩:=h5.cells
   have k2':(w2.setCell ⟨w.heap.size,0,none⟩ (.slice ad l.length cc)).cell? ⟨w.heap.size + 1 + 1,0,none⟩=some (.int .i64 0):=k2
   have k3':(w2.setCell ⟨w.heap.size,0,none⟩ (.slice ad l.length cc)).cell? ⟨w.heap.size + 1 + 1,1,none⟩=some (.int .i64 (-1)):=k3
   have g2':(w2.setCell ⟨w.heap.size,0,none⟩ (.slice ad l.length cc)).frozen? ⟨w.heap.size + 1 + 1,0,none⟩=false:=g2
   have g3':(w2.setCell ⟨w.heap.size,0,none⟩ (.slice ad l.length cc)).frozen? ⟨w.heap.size + 1 + 1,1,none⟩=false:=g3
   have hne:w1.heap.size≠w.heap.size:=by omega
   have sc:(w2.setCell ⟨w.heap.size,0,none⟩ (.slice ad l.length cc)).cell? ⟨w1.heap.size,1,none⟩=some (.int .i64 (n:Int)):=(World.cell?_setCell_other _ _ _ _ (by simp)).trans hsc.cells.2.1
   have H5:=Lib.hid h5
   have HO:=Lib.hid ho
   have HV:=Lib.hid hv
   clear h4 h5 ho hv hsc hg
   go_wp2
   refine wp_region_noPanic ?_
   go_region
   all_goals
     refine NoPanic.normal ?_
     have HO2:=Lib.hid (HO.out.mono (show w.heap.size + 3≤_ by simp;omega))
     have HD:=Lib.hid (H5.out.over (lv':=.slice ad l.length cc) (m':=(n:Int)) |>.kept (grown_drewN _ 1 none) (fun k hk=>by cases hk))
     go_wp2
     exact vdoor_good HD.out (((((own_set HO2.out (by omega) |> fun h=>own_set h (by omega)) |> fun h=>own_set h (by omega)) |> fun h=>own_set h (by omega)) |> fun h=>own_set h (by omega)).drewN 1) HV.out _ rfl rfl rfl
 · exact vdoor_bad x pl h4 hx hv _ rfl rfl rfl
end Go.Proofs.YtjkbmfpomgcblaaGreatDoor
namespace Go.Proofs.YtjkbmfpomgcblaaGreatDoor
open Go.RowKit
theorem isErrorE (v:Value) (xT:TypeId) (w:World):(Instr.typeAssert (.iface 44 v) xT 29 true).run Tryz.prog w=.ok (.tuple #[.iface 44 v,.bool true]) w :=
 run_typeAssert_hasB Tryz.underlying29 (by kernel_rfl) v xT w
theorem isErrorA (v:Value) (xT:TypeId) (w:World):(Instr.typeAssert (.iface 111 v) xT 29 true).run Tryz.prog w=.ok (.tuple #[.iface 111 v,.bool true]) w :=
 run_typeAssert_hasB Tryz.underlying29 (by kernel_rfl) v xT w
theorem isErrorN (xT:TypeId) (w:World):(Instr.typeAssert .nilIface xT 29 true).run Tryz.prog w=.ok (.tuple #[.nilIface,.bool false]) w:=by kernel_rfl
theorem anyErr.typed {w:World} {t:TypeId} {v:Value} {r:Nat×Int} (h:anyErr w (.iface t v) r):t=44∨t=111:=by
 rcases h with (⟨_,h⟩ | ⟨_,b,h,_⟩) | ⟨_,_,h⟩
 · cases h
 · injection h with h1 h2;exact .inr h1
 · injection h with h1 h2;exact .inl h1
theorem anyErr.set {w:World} {v x:Value} {r:Nat×Int} {E:Nat} (h:anyErr w v r) (hE:w.cell? ⟨E,0,none⟩=some .nilIface):anyErr (w.setCell ⟨E,0,none⟩ x) v r:=by
 rcases h with (h | ⟨h0,b,h1,h2,h3,h4⟩) | h
 · exact .inl (.inl h)
 · have hne:b≠E:=fun e=>by rw [e,hE] at h3;cases h3
   refine .inl (.inr ⟨h0,b,h1,by simpa using h2,?_,?_⟩)
   · rw [World.cell?_setCell_other _ _ _ _ (by intro e;first | (simp at e;done) | (simp at e;omega))];exact h3
   · rw [World.cell?_setCell_other _ _ _ _ (by intro e;simp at e)];exact h4
 · exact .inr h
end Go.Proofs.YtjkbmfpomgcblaaGreatDoor
