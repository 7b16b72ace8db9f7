import Derived.Test.YtjkbmfpomgcblaaGreatDoorKr30
namespace Go.Proofs.YtjkbmfpomgcblaaGreatDoor
open Go.RowKit
theorem owfill_to (T R K:Int) (key val:ByteArray) (N:Int) (s:ByteArray) (ty ry ky:Int) (keyy vy:ByteArray) (ny:Int) (k x:Nat) (w:World) (hk:key.size≤140737488351232) (hs:s.size≤140737488351232) (h:fillR T R K key s.data.toList=(⟨ty,ry,ky,keyy,vy,ny⟩,k,x)) :
   Calls Tryz.prog 182 #[.agg #[.int .i64 T,.int .i64 R,.int .i64 K,.string key,.string val,.int .i64 N],.string s] w fun e w'=>e=.returned (.tuple #[.agg #[.int .i64 ty,.int .i64 ry,.int .i64 ky,.string keyy,.string vy,.int .i64 ny],.int .i64 (k:Int),errV x])∧Below w.heap.size w w':=by
 by_cases he:fillE T R K key s.data.toList=0
 · rw [fillR_ok he] at h
   injection h with h1 h
   injection h with h2 h3
   injection h1 with i1 i2 i3 i4 i5 i6
   subst i1 i2 i3 i4 i5 i6 h2 h3
   exact wfill_ok T R K key val N s _ _ _ w hk hs he rfl rfl rfl
 · rw [fillR_bad rfl he] at h
   injection h with h1 h
   injection h with h2 h3
   injection h1 with i1 i2 i3 i4 i5 i6
   subst i1 i2 i3 i4 i5 i6 h2 h3
   rw [errV_err he]
   exact wfill_bad T R K key val N s _ w hk hs rfl he
set_option maxRecDepth 100000 in
set_option maxHeartbeats 1000000 in
theorem onx1_to (T R K:Int) (key val:ByteArray) (N:Int) (s:ByteArray) (ty ry ky:Int) (keyy vy:ByteArray) (ny:Int) (k x Q:Nat) (w:World) (hQ:wrAt w Q T R K key val N) (hk:key.size≤140737488351232) (hs:s.size≤140737488351232) (h:fillR T R K key s.data.toList=(⟨ty,ry,ky,keyy,vy,ny⟩,k,x)) :
   Calls Tryz.prog 181 #[.string s,.pointer (some ⟨Q,0,none⟩)] w fun e w'=>e=.returned (.tuple #[.agg #[.int .i64 ty,.int .i64 ry,.int .i64 ky,.string keyy,.string vy,.int .i64 ny],.int .i64 (k:Int),errV x])∧Below w.heap.size w w':=by
 obtain ⟨c0,c1,c2,c3,c4,c5⟩:=hQ.below ((Below.refl _ _).alloc (Nat.le_refl _) (.cells #[.int .i64 0,.int .i64 0,.int .i64 0,.string ⟨#[]⟩,.string ⟨#[]⟩,.int .i64 0] 59)) (lt_of_cell hQ.1)
 have H0:=Lib.hid h
 obtain ⟨q,hq⟩:∃ q,errV x=q:=⟨_,rfl⟩
 have HQ:=Lib.hid hq
 rw [hq]
 clear h hQ hq
 go_enter Tryz.func181,Tryz.ntmps181
 go_wp2_with fail
 refine (owfill_to T R K key val N s ty ry ky keyy vy ny k x _ hk hs H0.out).mono ?_
 rintro r w1 ⟨rfl,hb1⟩
 rw [HQ.out]
 have hq:w1.heap[w.heap.size]? = some (.cells #[.int .i64 0,.int .i64 0,.int .i64 0,.string ⟨#[]⟩,.string ⟨#[]⟩,.int .i64 0] 59 (0,0)):=(hb1.block _ (by simp)).trans (heap_alloc_new w _)
 have HB1:Hid (Below w.heap.size w w1):=Lib.hid (((Below.refl _ _).alloc (Nat.le_refl _) _).trans (hb1.mono (by simp)))
 have HROW:=Lib.hid hq
 clear hb1 c0 c1 c2 c3 c4 c5
 have HI:=Lib.hid (wr_sized (.int .i64 ty) (.int .i64 ry) (.int .i64 ky) (.string keyy) (.string vy) (.int .i64 ny))
 have HONE:=Lib.hid (wr_ones ty ry ky keyy vy ny)
 have HSAME:=Lib.hid (wr_same ty ry ky keyy vy ny)
 obtain ⟨e0,e1,e2,e3,e4,e5⟩:=row_at (row_set hq #[.int .i64 ty,.int .i64 ry,.int .i64 ky,.string keyy,.string vy,.int .i64 ny])
 clear hq
 go_wp2_with (with_reducible refine wpList_store_row rfl _ _ _ rfl _ _ rfl rfl _ _ HROW.out HI.out HSAME.out HONE.out ?_)
 refine bodyPost_ret (v:=.tuple #[.agg #[.int .i64 ty,.int .i64 ry,.int .i64 ky,.string keyy,.string vy,.int .i64 ny],.int .i64 (k:Int),q]) (by simp [results,Tryz.results181,go_sem,e0,e1,e2,e3,e4,e5]) rfl ?_
 exact ⟨rfl,below_row HB1.out (Nat.le_refl _) _⟩
theorem two_rows (w:World):Below w.heap.size w ((w.alloc (.cells #[.int .i64 0,.int .i64 0,.int .i64 0,.string ⟨#[]⟩,.string ⟨#[]⟩,.int .i64 0] 59)).alloc (.cells #[.int .i64 0,.int .i64 0,.int .i64 0,.string ⟨#[]⟩,.string ⟨#[]⟩,.int .i64 0] 59))∧((w.alloc (.cells #[.int .i64 0,.int .i64 0,.int .i64 0,.string ⟨#[]⟩,.string ⟨#[]⟩,.int .i64 0] 59)).alloc (.cells #[.int .i64 0,.int .i64 0,.int .i64 0,.string ⟨#[]⟩,.string ⟨#[]⟩,.int .i64 0] 59)).heap[w.heap.size]? = some (.cells #[.int .i64 0,.int .i64 0,.int .i64 0,.string ⟨#[]⟩,.string ⟨#[]⟩,.int .i64 0] 59 (0,0))∧((w.alloc (.cells #[.int .i64 0,.int .i64 0,.int .i64 0,.string ⟨#[]⟩,.string ⟨#[]⟩,.int .i64 0] 59)).alloc (.cells #[.int .i64 0,.int .i64 0,.int .i64 0,.string ⟨#[]⟩,.string ⟨#[]⟩,.int .i64 0] 59)).heap[w.heap.size + 1]? = some (.cells #[.int .i64 0,.int .i64 0,.int .i64 0,.string ⟨#[]⟩,.string ⟨#[]⟩,.int .i64 0] 59 (0,0)):=by
 refine ⟨((Below.refl _ _).alloc (Nat.le_refl _) _).alloc (by simp) _,?_,?_⟩
 · rw [Below.heap_alloc _ _ _ (by simp)];exact heap_alloc_new w _
 · have h:=heap_alloc_new (w.alloc (.cells #[.int .i64 0,.int .i64 0,.int .i64 0,.string ⟨#[]⟩,.string ⟨#[]⟩,.int .i64 0] 59)) (.cells #[.int .i64 0,.int .i64 0,.int .i64 0,.string ⟨#[]⟩,.string ⟨#[]⟩,.int .i64 0] 59)
   simpa using h
set_option maxRecDepth 100000 in
set_option maxHeartbeats 1000000 in
theorem ogetW_skip (R:Nat) (F:Value) (l:List UInt8) (e:Nat) (w:World) (h:Ro w R l e) (he:e≠0) :
   Calls Tryz.prog 180 #[.pointer (some ⟨R,0,none⟩),F] w fun r w'=>r=.returned (.agg #[.int .i64 0,.int .i64 0,.int .i64 0,.string ⟨#[]⟩,.string ⟨#[]⟩,.int .i64 0])∧Below w.heap.size w w':=by
 obtain ⟨hb,hA,hB⟩:=two_rows w
 obtain ⟨W,hW⟩:∃ W,(w.alloc (.cells #[.int .i64 0,.int .i64 0,.int .i64 0,.string ⟨#[]⟩,.string ⟨#[]⟩,.int .i64 0] 59)).alloc (.cells #[.int .i64 0,.int .i64 0,.int .i64 0,.string ⟨#[]⟩,.string ⟨#[]⟩,.int .i64 0] 59)=W:=⟨_,rfl⟩
 rw [hW] at hb hA hB
 obtain ⟨T,_,_,hrow⟩:=h.below hb
 obtain ⟨_,c1,_,_,_⟩:=hrow.cells
 rw [errV_err he] at c1
 have HB:=Lib.hid hb
 have HA:=Lib.hid hA
 have HI:=Lib.hid (wr_sized (.int .i64 0) (.int .i64 0) (.int .i64 0) (.string ⟨#[]⟩) (.string ⟨#[]⟩) (.int .i64 0))
 have HONE:=Lib.hid (wr_ones 0 0 0 ⟨#[]⟩ ⟨#[]⟩ 0)
 have HSAME:=Lib.hid (wr_same 0 0 0 ⟨#[]⟩ ⟨#[]⟩ 0)
 obtain ⟨b0,b1,b2,b3,b4,b5⟩:=row_at hB
 obtain ⟨e0,e1,e2,e3,e4,e5⟩:=row_at (row_set hA #[.int .i64 0,.int .i64 0,.int .i64 0,.string ⟨#[]⟩,.string ⟨#[]⟩,.int .i64 0])
 clear hrow he h hb hA hB
 go_enter Tryz.func180,Tryz.ntmps180
 go_wp2_with (with_reducible refine wpList_store_row rfl _ _ _ rfl _ _ rfl rfl _ _ HA.out HI.out HSAME.out HONE.out ?_)
 refine bodyPost_ret (v:=.agg #[.int .i64 0,.int .i64 0,.int .i64 0,.string ⟨#[]⟩,.string ⟨#[]⟩,.int .i64 0]) (by simp [results,Tryz.results180,go_sem,e0,e1,e2,e3,e4,e5]) rfl ?_
 exact ⟨rfl,below_row HB.out (Nat.le_refl _) _⟩
end Go.Proofs.YtjkbmfpomgcblaaGreatDoor
namespace Go.Proofs.YtjkbmfpomgcblaaGreatDoor
open Go.RowKit
theorem set_facts {w w1:World} {R:Nat} {T0:ByteArray} (hb:Below w.heap.size w w1) (h1:w1.heap[w.heap.size + 1]? = some (.cells #[.int .i64 0,.int .i64 0,.int .i64 0,.string ⟨#[]⟩,.string ⟨#[]⟩,.int .i64 0] 59 (0,0))) (h0:w1.heap[w.heap.size]? = some (.cells #[.int .i64 0,.int .i64 0,.int .i64 0,.string ⟨#[]⟩,.string ⟨#[]⟩,.int .i64 0] 59 (0,0))) (hr:RoT w1 R T0 0) (hR:R < w.heap.size) (cs:Array Value) :
   ∃ w2,w1.setRow (w.heap.size + 1) cs=w2∧RoT w2 R T0 0∧w2.heap[w.heap.size]? = some (.cells #[.int .i64 0,.int .i64 0,.int .i64 0,.string ⟨#[]⟩,.string ⟨#[]⟩,.int .i64 0] 59 (0,0))∧w2.heap[w.heap.size + 1]? = some (.cells cs 59 (0,0))∧Below w.heap.size w w2 :=
 ⟨_,rfl,row_setRow hr (by omega),row_setRow h0 (by omega),row_set h1 _,below_row hb (by omega) _⟩
set_option maxRecDepth 100000 in
set_option maxHeartbeats 2000000 in
theorem ogetW_go (R Q:Nat) (l:List UInt8) (T P K:Int) (key val:ByteArray) (N:Int) (ty ry ky:Int) (keyy vy:ByteArray) (ny:Int) (k x:Nat) (w:World) (h:Ro w R l 0) (hQ:wrAt w Q T P K key val N) (hks:key.size≤140737488351232) (hi:fillR T P K key l=(⟨ty,ry,ky,keyy,vy,ny⟩,k,x)) :
   Calls Tryz.prog 180 #[.pointer (some ⟨R,0,none⟩),.func (.func 181) #[] #[.pointer (some ⟨Q,0,none⟩)]] w fun r w'=>r=.returned (.agg #[.int .i64 ty,.int .i64 ry,.int .i64 ky,.string keyy,.string vy,.int .i64 ny])∧Ro w' R (l.drop k) x∧w.grownBy w' (some R):=by
 obtain ⟨hb,hA,hB⟩:=two_rows w
 have hR:=h.lt
 obtain ⟨W,hW⟩:∃ W,(w.alloc (.cells #[.int .i64 0,.int .i64 0,.int .i64 0,.string ⟨#[]⟩,.string ⟨#[]⟩,.int .i64 0] 59)).alloc (.cells #[.int .i64 0,.int .i64 0,.int .i64 0,.string ⟨#[]⟩,.string ⟨#[]⟩,.int .i64 0] 59)=W:=⟨_,rfl⟩
 rw [hW] at hb hA hB
 have hWz:w.heap.size + 2≤W.heap.size:=by rw [←hW];simp
 have HQ:=Lib.hid (hQ.below hb (lt_of_cell hQ.1))
 obtain ⟨T0,rfl,hT,hrow⟩:=h.below hb
 have HI0:=Lib.hid hi
 have HT:=Lib.hid hT
 have HTS:Hid (T0.size≤140737488351232):=Lib.hid (by omega)
 have HROW:=Lib.hid hrow
 have HB:=Lib.hid hb
 have HA:=Lib.hid hA
 have HBR:=Lib.hid hB
 have HWZ:=Lib.hid hWz
 obtain ⟨c0,c1,z0,z1,hRW⟩:=hrow.cells
 rw [errV_okO] at c1
 have hkl:=fillR_fit hi
 have d1:(0:Int)≤(k:Int):=by omega
 have d2:(k:Int)≤(T0.size:Int):=by rw [size_data];omega
 have HI:=Lib.hid (wr_sized (.int .i64 ty) (.int .i64 ry) (.int .i64 ky) (.string keyy) (.string vy) (.int .i64 ny))
 have HONE:=Lib.hid (wr_ones ty ry ky keyy vy ny)
 have HSAME:=Lib.hid (wr_same ty ry ky keyy vy ny)
 clear hi hrow hT hkl h hQ hb hA hB hWz
 rcases errV_form x with hq | hq
 all_goals
  have HE:=Lib.hid hq
  clear hq
  go_enter Tryz.func180,Tryz.ntmps180
  go_wp2_with fail
  refine (onx1_to T P K key val N T0 ty ry ky keyy vy ny k x Q W HQ.out hks HTS.out HI0.out).mono ?_
  rintro r w1 ⟨rfl,hb1⟩
  rw [HE.out]
  have HB1:Hid (Below w.heap.size w w1):=Lib.hid (HB.out.trans (hb1.mono HB.out.size))
  have HBR1:=Lib.hid ((hb1.block _ (by have:=HWZ.out;omega)).trans HBR.out)
  have HA1:=Lib.hid ((hb1.block _ (by have:=HWZ.out;omega)).trans HA.out)
  have HR1:Hid (RoT w1 R T0 0):=Lib.hid ((hb1.block R hRW).trans HROW.out)
  clear c0 c1 z0 z1 hb1
  go_wp2_with (first
   | ((with_reducible refine wpList_store_row rfl _ _ _ rfl _ _ rfl rfl _ _ HBR1.out HI.out HSAME.out HONE.out ?_);(obtain ⟨w2,hw2,hr2,ha2,hb2,hg2⟩:=set_facts HB1.out HBR1.out HA1.out HR1.out hR #[.int .i64 ty,.int .i64 ry,.int .i64 ky,.string keyy,.string vy,.int .i64 ny]);rw [hw2];clear hw2;have HR2:=Lib.hid hr2;have HA2:=Lib.hid ha2;have HG2:=Lib.hid hg2;(obtain ⟨c0,c1,z0,z1,_⟩:=hr2.cells);rw [errV_okO] at c1;(obtain ⟨b0,b1,b2,b3,b4,b5⟩:=row_at hb2);clear hr2 ha2 hg2 hb2;have hne:¬ w.heap.size + 1=R:=(by omega);have hne2:¬ R=w.heap.size + 1:=(by omega);have hrq:=HR2.out.put (T0.extract k T0.size) x;have ha3:=row_setCell (o:=0) (row_setCell (o:=1) HA2.out (show w.heap.size≠R by omega) (errV x)) (show w.heap.size≠R by omega) (.string (T0.extract k T0.size));rw [HE.out] at hrq ha3;have HRQ:=Lib.hid hrq;have HA3:=Lib.hid ha3;clear hrq ha3)
   | (with_reducible refine wpList_store_row rfl _ _ _ rfl _ _ rfl rfl _ _ HA3.out HI.out HSAME.out HONE.out ?_))
  obtain ⟨e0,e1,e2,e3,e4,e5⟩:=row_at (row_set HA3.out #[.int .i64 ty,.int .i64 ry,.int .i64 ky,.string keyy,.string vy,.int .i64 ny])
  refine bodyPost_ret (v:=.agg #[.int .i64 ty,.int .i64 ry,.int .i64 ky,.string keyy,.string vy,.int .i64 ny]) (by simp [results,Tryz.results180,go_sem,e0,e1,e2,e3,e4,e5]) rfl ?_
  exact ⟨rfl,⟨_,drop_ext,ext_fit HT.out,row_setRow HRQ.out (by omega)⟩,grown_row (grownO HG2.out _ _) (Nat.le_refl _) _⟩
end Go.Proofs.YtjkbmfpomgcblaaGreatDoor
namespace Go.Proofs.YtjkbmfpomgcblaaGreatDoor
open Go.RowKit
theorem ofillS_any (R Q:Nat) (l l':List UInt8) (T P K:Int) (key val:ByteArray) (N:Int) (ty ry ky:Int) (keyy vy:ByteArray) (ny:Int) (e e':Nat) (w:World) (h:Ro w R l e) (hQ:wrAt w Q T P K key val N) (hks:key.size≤140737488351232) (hn:fillS T P K key l e=(⟨ty,ry,ky,keyy,vy,ny⟩,l',e')) :
   Calls Tryz.prog 180 #[.pointer (some ⟨R,0,none⟩),.func (.func 181) #[] #[.pointer (some ⟨Q,0,none⟩)]] w fun r w'=>r=.returned (.agg #[.int .i64 ty,.int .i64 ry,.int .i64 ky,.string keyy,.string vy,.int .i64 ny])∧Ro w' R l' e'∧w.grownBy w' (some R):=by
 by_cases he:e=0
 · subst he
   obtain ⟨y,k,x,hi⟩:∃ y k x,fillR T P K key l=(y,k,x):=⟨_,_,_,rfl⟩
   rw [fillS_go hi] at hn
   injection hn with i1 hn;injection hn with i2 i3
   subst i1 i2 i3
   exact ogetW_go R Q l T P K key val N ty ry ky keyy vy ny k x w h hQ hks hi
 · rw [fillS_skip he] at hn
   injection hn with i1 hn;injection hn with i2 i3
   unfold zeroR at i1
   injection i1 with j1 j2 j3 j4 j5 j6
   subst i2 i3 j1 j2 j3 j4 j5 j6
   refine (ogetW_skip R _ l e w h he).mono ?_
   rintro r w' ⟨rfl,hb⟩
   exact ⟨rfl,h.below hb,grownB hb⟩
theorem grown_rowO (W:World) (b:Nat) (cs:Array Value):W.grownBy (W.setRow b cs) (some b) :=
 ⟨rfl,rfl,rfl,by simp [World.setRow],fun k hk hne=>by
   have hk2:b≠k:=fun e=>hne (by rw [e])
   simp only [World.setRow,Array.getElem?_modify,if_neg hk2]⟩
def NO (w:World) (R:Nat) (l:List UInt8) (e:Nat) (c0 c1 c2 c3 c4 c5:Value) (wr:World):Prop :=
 Ro wr R l e∧w.grownBy wr (some R)∧wr.heap[w.heap.size + 1]? = some (.cells #[c0,c1,c2,c3,c4,c5] 59 (0,0))∧wr.heap[w.heap.size]? = some (.cells #[.int .i64 0,.int .i64 0,.int .i64 0,.string ⟨#[]⟩,.string ⟨#[]⟩,.int .i64 0] 59 (0,0))∧R < w.heap.size
section
variable {w wr w':World} {R:Nat} {l l':List UInt8} {e e':Nat} {c0 c1 c2 c3 c4 c5 d0 d1 d2 d3 d4 d5:Value}
theorem NO.get (h:NO w R l e c0 c1 c2 c3 c4 c5 wr) (hr:Ro w' R l' e') (hg:wr.grownBy w' (some R)):NO w R l' e' c0 c1 c2 c3 c4 c5 w':=by
 obtain ⟨h1,h2,h3,h4,h5⟩:=h
 exact ⟨hr,grown_on h2 hg (fun k hk=>.inl (by injection hk with hk;exact hk.symm)),(hg.block _ (Array.getElem?_eq_some_iff.1 h3).1 (by simp;omega)).trans h3,(hg.block _ (Array.getElem?_eq_some_iff.1 h4).1 (by simp;omega)).trans h4,h5⟩
theorem NO.cells (h:NO w R l e c0 c1 c2 c3 c4 c5 wr) :
   (wr.cell? ⟨w.heap.size + 1,0,none⟩=some c0∧wr.cell? ⟨w.heap.size + 1,1,none⟩=some c1∧wr.cell? ⟨w.heap.size + 1,2,none⟩=some c2∧wr.cell? ⟨w.heap.size + 1,3,none⟩=some c3∧wr.cell? ⟨w.heap.size + 1,4,none⟩=some c4∧wr.cell? ⟨w.heap.size + 1,5,none⟩=some c5)∧freeAt wr (w.heap.size + 1) :=
 ⟨⟨cell_of_row _ _ 0 _ _ _ h.2.2.1,cell_of_row _ _ 1 _ _ _ h.2.2.1,cell_of_row _ _ 2 _ _ _ h.2.2.1,cell_of_row _ _ 3 _ _ _ h.2.2.1,cell_of_row _ _ 4 _ _ _ h.2.2.1,cell_of_row _ _ 5 _ _ _ h.2.2.1⟩,free_row h.2.2.1⟩
theorem grown_setB2 (W:World) (b o:Nat) (x:Value):W.grownBy (W.setCell ⟨b,o,none⟩ x) (some b) :=
 ⟨rfl,rfl,rfl,by simp,fun k hk hne=>by
   have hk2:b≠k:=fun e=>hne (by rw [e])
   simp only [World.setCell,Array.getElem?_modify,if_neg hk2]⟩
theorem NO.put {o:Nat} {v:Value} (h:NO w R l e c0 c1 c2 c3 c4 c5 wr) (hs:(#[c0,c1,c2,c3,c4,c5]:Array Value).setIfInBounds o v=#[d0,d1,d2,d3,d4,d5]):NO w R l e d0 d1 d2 d3 d4 d5 (wr.setCell ⟨w.heap.size + 1,o,none⟩ v):=by
 obtain ⟨h1,h2,h3,h4,h5⟩:=h
 refine ⟨h1.kept (grown_setB2 wr (w.heap.size + 1) o v) (by simp;omega),?_,?_,row_setCell h4 (by omega) v,h5⟩
 · exact grown_on h2 (grown_setB2 _ _ _ _) (fun k hk=>.inr (by injection hk with hk;omega))
 · rw [heap_setCell_same _ _ _ _ _ _ h3,hs]
end
theorem textS_fit (l:List UInt8) (e:Nat):(textS l e).1.length≤2000:=by
 unfold textS;split
 · simp
 · exact (getS_fit (t:=(getS l).1) (k:=(getS l).2.1) (x:=(getS l).2.2) rfl).2.1
set_option maxRecDepth 100000 in
set_option maxHeartbeats 2000000 in
theorem onext_any (R:Nat) (l l':List UInt8) (ty ry ky:Int) (keyy vy:ByteArray) (ny:Int) (e e':Nat) (w:World) (h:Ro w R l e) (hn:wrS l e=(⟨ty,ry,ky,keyy,vy,ny⟩,l',e')) :
   Calls Tryz.prog 133 #[.pointer (some ⟨R,0,none⟩)] w fun r w'=>r=.returned (.agg #[.int .i64 ty,.int .i64 ry,.int .i64 ky,.string keyy,.string vy,.int .i64 ny])∧Ro w' R l' e'∧w.grownBy w' (some R):=by
 have hmf:∀ (fn:Fn) (first cap:Array Value) (w:World),(Instr.makeFunc fn first cap).run Tryz.prog w=.ok (.func fn first cap) w:=fun _ _ _ _=>rfl
 obtain ⟨hb,hA,hB⟩:=two_rows w
 have hR:=h.lt
 obtain ⟨W,hW⟩:∃ W,(w.alloc (.cells #[.int .i64 0,.int .i64 0,.int .i64 0,.string ⟨#[]⟩,.string ⟨#[]⟩,.int .i64 0] 59)).alloc (.cells #[.int .i64 0,.int .i64 0,.int .i64 0,.string ⟨#[]⟩,.string ⟨#[]⟩,.int .i64 0] 59)=W:=⟨_,rfl⟩
 rw [hW] at hb hA hB
 have HN0:Hid (NO w R l e (.int .i64 0) (.int .i64 0) (.int .i64 0) (.string ⟨#[]⟩) (.string ⟨#[]⟩) (.int .i64 0) W):=Lib.hid ⟨h.below hb,grownB hb,hB,hA,hR⟩
 obtain ⟨K,l1,e1,h0⟩:∃ n l1 e1,kindS l e=(n,l1,e1):=⟨_,_,_,rfl⟩
 obtain ⟨t,l2,e2,h1⟩:∃ n l2 e2,numS 1099511627776 l1 e1=(n,l2,e2):=⟨_,_,_,rfl⟩
 obtain ⟨rp,l3,e3,h2⟩:∃ n l3 e3,numS 200 l2 e2=(n,l3,e3):=⟨_,_,_,rfl⟩
 obtain ⟨key,l4,e4,h3⟩:∃ (key:ByteArray) (l4:List UInt8) (e4:Nat),textS l3 e3=(key.data.toList,l4,e4):=⟨⟨(textS l3 e3).1.toArray⟩,(textS l3 e3).2.1,(textS l3 e3).2.2,by simp⟩
 have hks:key.size≤140737488351232:=by
   have:=textS_fit l3 e3
   rw [h3,←size_data] at this
   omega
 rw [wrS_of h0 h1 h2 h3,bs_of] at hn
 have H0:=Lib.hid h0
 have H1:=Lib.hid h1
 have H2:=Lib.hid h2
 have H3:=Lib.hid h3
 have H4:=Lib.hid hn
 have HKS:=Lib.hid hks
 clear h hb hA hB h0 h1 h2 h3 hn hks
 go_enter Tryz.func133,Tryz.ntmps133
 go_wp2_with fail
 refine (okindS_any R l l1 e e1 K W HN0.out.1 H0.out).mono ?_
 rintro r w2 ⟨rfl,hr2,hg2⟩
 have HN2:=Lib.hid (HN0.out.get hr2 hg2)
 have HN3:Hid (NO w R l1 e1 (.int .i64 0) (.int .i64 0) (.int .i64 (K:Int)) (.string ⟨#[]⟩) (.string ⟨#[]⟩) (.int .i64 0) (w2.setCell ⟨w.heap.size + 1,2,none⟩ (.int .i64 (K:Int)))):=Lib.hid (HN2.out.put rfl)
 obtain ⟨⟨c0,c1,c2,c3,c4,c5⟩,z0,z1,z2,z3,z4,z5⟩:=HN2.out.cells
 clear hr2 hg2 HN0
 go_wp2_with fail
 refine (onumber_any R 1099511627776 l1 l2 e1 e2 t _ HN3.out.1 (by decide) (by decide) H1.out).mono ?_
 rintro r w4 ⟨rfl,hr4,hg4⟩
 have HN4:=Lib.hid (HN3.out.get hr4 hg4)
 have HN5:Hid (NO w R l2 e2 (.int .i64 (t:Int)) (.int .i64 0) (.int .i64 (K:Int)) (.string ⟨#[]⟩) (.string ⟨#[]⟩) (.int .i64 0) (w4.setCell ⟨w.heap.size + 1,0,none⟩ (.int .i64 (t:Int)))):=Lib.hid (HN4.out.put rfl)
 clear c0 c1 c2 c3 c4 c5 z0 z1 z2 z3 z4 z5 hr4 hg4 HN2 HN3
 obtain ⟨⟨c0,c1,c2,c3,c4,c5⟩,z0,z1,z2,z3,z4,z5⟩:=HN4.out.cells
 go_wp2_with fail
 refine (onumber_any R 200 l2 l3 e2 e3 rp _ HN5.out.1 (by decide) (by decide) H2.out).mono ?_
 rintro r w6 ⟨rfl,hr6,hg6⟩
 have HN6:=Lib.hid (HN5.out.get hr6 hg6)
 have HN7:Hid (NO w R l3 e3 (.int .i64 (t:Int)) (.int .i64 (rp:Int)) (.int .i64 (K:Int)) (.string ⟨#[]⟩) (.string ⟨#[]⟩) (.int .i64 0) (w6.setCell ⟨w.heap.size + 1,1,none⟩ (.int .i64 (rp:Int)))):=Lib.hid (HN6.out.put rfl)
 clear c0 c1 c2 c3 c4 c5 z0 z1 z2 z3 z4 z5 hr6 hg6 HN4 HN5
 obtain ⟨⟨c0,c1,c2,c3,c4,c5⟩,z0,z1,z2,z3,z4,z5⟩:=HN6.out.cells
 go_wp2_with fail
 refine (otextS_any R l3 l4 key e3 e4 _ HN7.out.1 H3.out).mono ?_
 rintro r w8 ⟨rfl,hr8,hg8⟩
 have HN8:=Lib.hid (HN7.out.get hr8 hg8)
 have HN9:Hid (NO w R l4 e4 (.int .i64 (t:Int)) (.int .i64 (rp:Int)) (.int .i64 (K:Int)) (.string key) (.string ⟨#[]⟩) (.int .i64 0) (w8.setCell ⟨w.heap.size + 1,3,none⟩ (.string key))):=Lib.hid (HN8.out.put rfl)
 clear c0 c1 c2 c3 c4 c5 z0 z1 z2 z3 z4 z5 hr8 hg8 HN6 HN7
 obtain ⟨⟨c0,c1,c2,c3,c4,c5⟩,z0,z1,z2,z3,z4,z5⟩:=HN8.out.cells
 go_wp2_with fail
 refine (ofillS_any R (w.heap.size + 1) l4 l' (t:Int) (rp:Int) (K:Int) key ⟨#[]⟩ 0 ty ry ky keyy vy ny e4 e' _ HN9.out.1 HN9.out.cells.1 HKS.out H4.out).mono ?_
 rintro r w10 ⟨rfl,hr10,hg10⟩
 have HN10:=Lib.hid (HN9.out.get hr10 hg10)
 have HI:=Lib.hid (wr_sized (.int .i64 ty) (.int .i64 ry) (.int .i64 ky) (.string keyy) (.string vy) (.int .i64 ny))
 have HONE:=Lib.hid (wr_ones ty ry ky keyy vy ny)
 have HSAME:=Lib.hid (wr_same ty ry ky keyy vy ny)
 have HROWB:=Lib.hid HN10.out.2.2.2.1
 clear hr10 hg10 c0 c1 c2 c3 c4 c5 z0 z1 z2 z3 z4 z5 HN8 HN9
 go_wp2_with (with_reducible refine wpList_store_row rfl _ _ _ rfl _ _ rfl rfl _ _ HROWB.out HI.out HSAME.out HONE.out ?_)
 obtain ⟨g0,g1,g2,g3,g4,g5⟩:=row_at (row_set HROWB.out #[.int .i64 ty,.int .i64 ry,.int .i64 ky,.string keyy,.string vy,.int .i64 ny])
 refine bodyPost_ret (v:=.agg #[.int .i64 ty,.int .i64 ry,.int .i64 ky,.string keyy,.string vy,.int .i64 ny]) (by simp [results,Tryz.results133,go_sem,g0,g1,g2,g3,g4,g5]) rfl ?_
 exact ⟨rfl,HN10.out.1.kept (grown_rowO w10 w.heap.size _) (by simp;omega),grown_row HN10.out.2.1 (Nat.le_refl _) _⟩
end Go.Proofs.YtjkbmfpomgcblaaGreatDoor
namespace Go.Proofs.YtjkbmfpomgcblaaGreatDoor
open Go.RowKit
theorem fillS_wE {T R K:Int} {key:ByteArray} {l l':List UInt8} {e:Nat} {y:Wr} (h:fillS T R K key l e=(y,l',0)):wE y=0:=by
 by_cases he:e=0
 · subst he
   by_cases hf:fillE T R K key l=0
   · rw [fillS_ok hf] at h;injection h with h _;rw [←h];exact (fill_only hf).1
   · rw [fillS_bad rfl hf] at h;injection h with _ h;injection h with _ h;exact absurd h hf
 · rw [fillS_skip he] at h;injection h with _ h;injection h with _ h;exact absurd h he
theorem wrS_wE {l l':List UInt8} {e:Nat} {y:Wr} (h:wrS l e=(y,l',0)):wE y=0:=by
 rw [wrS_of (K:=(kindS l e).1) (l1:=(kindS l e).2.1) (e1:=(kindS l e).2.2) rfl rfl rfl rfl] at h
 exact fillS_wE h
theorem wrsS_wE (k:Nat):∀ (l:List UInt8) (e:Nat) (W:List Wr),(∀ x∈W,wE x=0)→(wrsS k l e W).2.2=0→∀ x∈(wrsS k l e W).1,wE x=0:=by
 induction k with
 | zero=>intro l e W hW _ x hx;exact hW x hx
 | succ k ih =>
   intro l e W hW h0 x hx
   rw [wrsS] at h0 hx
   by_cases he:(wrS l e).2.2=0
   · refine ih _ _ _ (fun y hy=>?_) h0 x hx
     rcases List.mem_append.1 hy with hy | hy
     · exact hW y hy
     · rw [List.mem_singleton.1 hy];exact wrS_wE (l':=(wrS l e).2.1) (by rw [←he])
   · rw [wrsS_skip he] at h0;exact absurd h0 he
theorem step_append_wr (w:World) {ops:Array Oper} {o:Oper} {a:Act} {K:Act→World→Prop} {Q:Exit→Act→World→Prop} {E:Prop} (hgd:o.guard=none) (s x:Operand)
   (ho:o.op=.call { callee:=.builtin .append,args:=#[s,x],argTypes:=#[23,23] })
   (base:Nat) (v:Value) (l:List Wr) (hs:a.eval s=v) (hown:ownsW w base v l)
   (B c:Nat) (hx:a.eval x=.slice (some ⟨B,0,none⟩) 1 c) (t:Wr) (hcell:wrBlk w B t)
   (hlen:l.length + 1≤1000000) (hbase:base≤w.heap.size)
   (h:∀ g cap w',ownsW w' base (.slice (some ⟨g,0,none⟩) (l.length + 1) cap) (l ++ [t])→w.grownBy w' v.ownBlock→K (a.put o.dst (.slice (some ⟨g,0,none⟩) (l.length + 1) cap)) w') :
   if Region.wanted o (yielded ops a.tmps)=true then Oper.wp Tryz.prog o a w K Q else E:=by
 obtain ⟨i0,hi,hz0,hz1,hz2⟩:=info_parts info_wr
 refine step_append_lies w hgd s x 23 ho base 59 i0 (.agg #[.int .i64 0,.int .i64 0,.int .i64 0,.string ⟨#[]⟩,.string ⟨#[]⟩,.int .i64 0]) 6 64 Tryz.underlying23 hi hz0 hz1 hz2 rfl (by decide) v l.length (wrsC l) hs hown ⟨B,0,none⟩ 1 c (wrC t) hx rfl ?_ (wrC_cell t) (by decide) (by unfold maxLen;omega) (by omega) hbase _ rfl ?_
 · intro j u hj
   have hadd:(⟨B,0,none⟩:Addr).add j=⟨B,j,none⟩:=by unfold Addr.add;split <;> simp_all
   rw [hadd,cell_of_row _ _ _ _ _ _ hcell,←hj]
   simp
 · intro g cap w' h1 h2 _ _
   refine h g cap w' ?_ h2
   unfold ownsW
   rw [List.length_append,wrsC_app]
   simpa [wrsC_one] using h1
theorem own_grownO {w w':World} {B R k n:Nat} {e:TypeId} {v:Value} {xs:List Value} (h:w.ownsRow B e k v n xs) (hR:R < B) (hg:w.grownBy w' (some R)):w'.ownsRow B e k v n xs :=
 World.ownsRow.kept h hg (.inr (fun e=>by have:=(World.ownsRow.lt h R e).1;omega))
set_option maxRecDepth 100000 in
set_option maxHeartbeats 2000000 in
theorem oentries_any (R:Nat) (l l':List UInt8) (L:List Ent) (e e':Nat) (w:World) (h:Ro w R l e) (hv:vecS l e=(L,l',e')) :
   Calls Tryz.prog 131 #[.pointer (some ⟨R,0,none⟩)] w fun r w'=>∃ v,r=.returned v∧ownsE w' w.heap.size v L∧Ro w' R l' e'∧w.grownBy w' (some R):=by
 have hR:=h.lt
 obtain ⟨n,l1,e1,h1⟩:∃ n l1 e1,numS 16 l e=(n,l1,e1):=⟨_,_,_,rfl⟩
 have hn16:n≤16:=by have:=numS_most (most:=16) (by decide) l e;rw [h1] at this;omega
 have hV:entsS n l1 e1 []=(L,l',e'):=by unfold vecS at hv;rw [h1] at hv;exact hv
 have HR:=Lib.hid h
 have H1:=Lib.hid h1
 have HV:=Lib.hid hV
 clear h h1 hv hV
 go_enter Tryz.func131,Tryz.ntmps131
 go_wp2_with fail
 refine (onumber_any R 16 l l1 e e1 n _ HR.out (by decide) (by decide) H1.out).mono ?_
 rintro r w1 ⟨rfl,hr1,hg1⟩
 have HR1:=Lib.hid hr1
 have HG1:=Lib.hid hg1
 clear hr1 hg1 HR
 go_wp2
 go_loopw [3,6] (fun v i wr=>∃ (j:Nat) (lj:List UInt8) (ej:Nat) (acc:List Ent),j≤n∧i=.int .i64 j∧acc.length=j∧entsS (n - j) lj ej acc=(L,l',e')∧ownsE wr w.heap.size v acc∧Ro wr R lj ej∧w.grownBy wr (some R)) (fun _ i _=>n - (intOf i).toNat)
 case atStart=>exact ⟨0,l1,e1,[],Nat.zero_le _,rfl,rfl,HV.out,ownsE_nil _ _,HR1.out,HG1.out⟩
 case round =>
   obtain ⟨j,lj,ej,acc,hj,rfl,hacc,hent,hown,hro,hgr⟩:=hrel
   have HO:=Lib.hid hown
   have HRO:=Lib.hid hro
   have HGR:=Lib.hid hgr
   have HAC:=Lib.hid hacc
   obtain ⟨av,cv,rfl,_⟩:=hown.is.form
   obtain ⟨na,hna⟩:∃ na,na=acc.length:=⟨_,rfl⟩
   rw [←hna] at HO ⊢
   have HNA:=Lib.hid hna
   clear hown hro hgr hacc hna
   by_cases hlt:j < n
   · obtain ⟨q,hq⟩:∃ q,n - j=q + 1:=⟨n - j - 1,by omega⟩
     rw [hq] at hent
     obtain ⟨rr,l2,e2,h2⟩:∃ n l1 e1,numS 200 lj ej=(n,l1,e1):=⟨_,_,_,rfl⟩
     obtain ⟨t,l3,e3,h3⟩:∃ n l1 e1,numS 1099511627776 l2 e2=(n,l1,e1):=⟨_,_,_,rfl⟩
     rw [entsS,h2] at hent
     simp only at hent
     rw [h3] at hent
     simp only at hent
     have HENT:Hid (entsS (n - (j + 1)) l3 e3 (acc ++ [⟨(rr:Int),(t:Int)⟩])=(L,l',e')):=Lib.hid (by rw [show n - (j + 1)=q by omega];exact hent)
     have H2:=Lib.hid h2
     have H3:=Lib.hid h3
     clear h2 h3 hent hq
     go_wp2_with fail
     refine (onumber_any R 200 lj l2 ej e2 rr wr HRO.out (by decide) (by decide) H2.out).mono ?_
     rintro r w2 ⟨rfl,hr2,hg2⟩
     have HR2:=Lib.hid hr2
     have HO2:Hid (ownsE w2 w.heap.size (.slice av na cv) acc):=Lib.hid (own_grownO HO.out hR hg2)
     have HG2:=Lib.hid (grown_on HGR.out hg2 (fun k hk=>.inl (by injection hk with hk;exact hk.symm)))
     clear hr2 hg2 HRO
     go_wp2_with fail
     refine (onumber_any R 1099511627776 l2 l3 e2 e3 t w2 HR2.out (by decide) (by decide) H3.out).mono ?_
     rintro r w4 ⟨rfl,hr4,hg4⟩
     have HR4:=Lib.hid hr4
     have HO4:Hid (ownsE w4 w.heap.size (.slice av na cv) acc):=Lib.hid (own_grownO HO2.out hR hg4)
     have HG4:=Lib.hid (grown_on HG2.out hg4 (fun k hk=>.inl (by injection hk with hk;exact hk.symm)))
     clear hr4 hg4
     go_wp2_with (at_builtin;refine wpList_append_ent rfl _ _ rfl w.heap.size _ acc rfl (HO4.out.alloc _) w4.heap.size 1 rfl ⟨(rr:Int),(t:Int)⟩ ?c1 ?c2 ?c3 ?_)
     case c1=>exact entBlk_new _ _ _
     case c2=>have:=HAC.out;omega
     case c3=>have:=HG4.out.size;simp;omega
     intro g cap w6 ho6 hg6
     have hne6:=(HO4.out.alloc (.cells #[.int .i64 (rr:Int),.int .i64 (t:Int)] 74)).lt
     have HO6:=Lib.hid ho6
     have HR6:Hid (Ro w6 R l3 e3):=Lib.hid ((HR4.out.below ((Below.refl _ _).alloc (Nat.le_refl _) _)).kept hg6 (fun e=>by have:=(hne6 R e).1;omega))
     have HG6:=Lib.hid (grown_on (grown_on HG4.out (World.grownBy_alloc w4 (.cells #[.int .i64 (rr:Int),.int .i64 (t:Int)] 74) none) (fun k hk=>by cases hk)) hg6 (fun k hk=>.inr (hne6 k hk).1))
     clear ho6 hg6 hne6
     go_wp2
     go_roundw
     case rel=>exact ⟨j + 1,l3,e3,acc ++ [⟨(rr:Int),(t:Int)⟩],by omega,by go_num,by rw [List.length_append,HAC.out];rfl,HENT.out,HO6.out,HR6.out,HG6.out⟩
     case measure=>simp [intOf];omega
   · obtain rfl:j=n:=by omega
     rw [Nat.sub_self,entsS] at hent
     injection hent with i1 hent;injection hent with i2 i3
     have HE:Hid (acc=L∧lj=l'∧ej=e'):=Lib.hid ⟨i1,i2,i3⟩
     clear i1 i2 i3
     go_wp2
     go_ret
     obtain ⟨rfl,rfl,rfl⟩:=HE.out
     exact ⟨_,rfl,HO.out,HRO.out,HGR.out⟩
end Go.Proofs.YtjkbmfpomgcblaaGreatDoor
namespace Go.Proofs.YtjkbmfpomgcblaaGreatDoor
open Go.RowKit
theorem unT_ne {s:List UInt8}:∀ (k a:Nat) (T:List ByteArray) (e p:Nat),unT s k a T=.inl (e,p)→e≠0:=by
 intro k
 induction k with
 | zero=>intro a T e p h;cases h
 | succ k ih =>
   intro a T e p h
   rw [unT] at h
   split at h
   · rename_i h0;injection h with h;injection h with h1 _;rw [←h1];exact h0
   · exact ih _ _ _ _ h
theorem unOne_ne {s:List UInt8} {h:List Ent} {T:List ByteArray} {a:Nat} {ahead:Int} {e p:Nat} (h0:unOne s h T a ahead=.inl (e,p)):e≠0:=by
 unfold unOne at h0
 repeat' split at h0
 all_goals first
   | (rename_i hx;injection h0 with h0;injection h0 with h1 _;rw [←h1];exact hx)
   | cases h0
theorem unW_ne {s:List UInt8} {h:List Ent} {T:List ByteArray}:∀ (k a:Nat) (ahead:Int) (W:List Wr) (N:List Nat) (e p:Nat),unW s h T k a ahead W N=.inl (e,p)→e≠0:=by
 intro k
 induction k with
 | zero=>intro a ahead W N e p h;cases h
 | succ k ih =>
   intro a ahead W N e p h0
   rw [unW] at h0
   split at h0
   · rename_i r hr;injection h0 with h0;subst h0;exact unOne_ne hr
   · exact ih _ _ _ _ _ _ h0
theorem unb_ne {s:List UInt8} {x:Nat} {pl:Int} (h:unbF s=.inl (x,pl)):x≠0:=by
 unfold unbF at h
 repeat' split at h
 all_goals first
   | (injection h with h;injection h with h1 _;rw [←h1];first | assumption | decide | (exact unT_ne _ _ _ _ _ (by assumption)) | (exact unW_ne _ _ _ _ _ _ _ (by assumption)))
   | cases h
theorem grown_cell1 (W:World) (b o:Nat) (v:Value):W.grownBy (W.setCell ⟨b,o,none⟩ v) (some b) :=
 ⟨rfl,rfl,rfl,by simp,fun k _ hk=>Below.heap_setCell _ _ _ k (fun e=>hk (by rw [e]))⟩
theorem BatOwn.cell {w:World} {B k:Nat} {vf vh vw:Value} {f h:List Ent} {l:List Wr} (b:BatOwn w B vf vh vw f h l) (hk:k < B) (o:Nat) (v:Value):BatOwn (w.setCell ⟨k,o,none⟩ v) B vf vh vw f h l :=
 b.keep (grown_cell1 w k o v) (fun j hj=>by injection hj with hj;omega)
end Go.Proofs.YtjkbmfpomgcblaaGreatDoor
