import Derived.Test.YtdhognaoejiglaaGreatDoorKb40
namespace Go.Proofs.YtdhognaoejiglaaGreatDoor
open Lib (hid)
set_option maxRecDepth 100000
set_option maxHeartbeats 8000000
section
open Go.RowKit
theorem DO {w w1:World} {R:Nat} {T0:ByteArray} (hb:Below w.heap.size w w1) (h1:w1.heap[w.heap.size+1]? = some (.cells #[.int .i64 0,.int .i64 0,.int .i64 0,.string ⟨#[]⟩,.string ⟨#[]⟩,.int .i64 0] 38 (0,0))) (h0:w1.heap[w.heap.size]? = some (.cells #[.int .i64 0,.int .i64 0,.int .i64 0,.string ⟨#[]⟩,.string ⟨#[]⟩,.int .i64 0] 38 (0,0))) (hr:RoT w1 R T0 0) (hR:R<w.heap.size) (cs:Array Value) :
 ∃ w2,w1.setRow (w.heap.size+1) cs=w2∧RoT w2 R T0 0∧w2.heap[w.heap.size]? = some (.cells #[.int .i64 0,.int .i64 0,.int .i64 0,.string ⟨#[]⟩,.string ⟨#[]⟩,.int .i64 0] 38 (0,0))∧w2.heap[w.heap.size+1]? = some (.cells cs 38 (0,0))∧Below w.heap.size w w2 :=
 ⟨_,rfl,jn hr (by omega),jn h0 (by omega),cA h1 _,dQ hb (by omega) _⟩
theorem BT (R Q:Nat) (l:List UInt8) (T P K:Int) (key val:ByteArray) (N:Int) (ty ry ky:Int) (keyy vy:ByteArray) (ny:Int) (k x:Nat) (w:World) (h:Ro w R l 0) (hQ:wrAt w Q T P K key val N) (hks:key.size≤140737488351232) (hi:dq T P K key l=(⟨ty,ry,ky,keyy,vy,ny⟩,k,x)) :
 Calls Tryz.prog 198 #[.pointer (some ⟨R,0,none⟩),.func (.func 199) #[] #[.pointer (some ⟨Q,0,none⟩)]] w fun r w'=>r=.returned (.agg #[.int .i64 ty,.int .i64 ry,.int .i64 ky,.string keyy,.string vy,.int .i64 ny])∧Ro w' R (l.drop k) x∧w.grownBy w' (some R):=by
 obtain ⟨hb,hA,hB⟩:=oU w;have hR:=h.lt;obtain ⟨W,hW⟩:∃ W,(w.alloc (.cells #[.int .i64 0,.int .i64 0,.int .i64 0,.string ⟨#[]⟩,.string ⟨#[]⟩,.int .i64 0] 38)).alloc (.cells #[.int .i64 0,.int .i64 0,.int .i64 0,.string ⟨#[]⟩,.string ⟨#[]⟩,.int .i64 0] 38)=W:=⟨_,rfl⟩;rw [hW] at hb hA hB;have hWz:w.heap.size+2≤W.heap.size:=by rw [←hW];simp
 have HQ:=hid (hQ.below hb (bg hQ.1));obtain ⟨T0,rfl,hT,hrow⟩:=h.below hb;have HI0:=hid hi;have HT:=hid hT;have HTS:Hid (T0.size≤140737488351232):=hid (by omega);have HROW:=hid hrow;have HB:=hid hb;have HA:=hid hA;have HBR:=hid hB;have HWZ:=hid hWz;obtain ⟨c0,c1,z0,z1,hRW⟩:=hrow.cells;rw [eY] at c1;have hkl:=zh hi;have d1:(0:Int)≤(k:Int):=by omega
 have d2:(k:Int)≤(T0.size:Int):=by rw [aj];omega
 have HI:=hid (eR (.int .i64 ty) (.int .i64 ry) (.int .i64 ky) (.string keyy) (.string vy) (.int .i64 ny));have HONE:=hid (eQ ty ry ky keyy vy ny);have HSAME:=hid (fj ty ry ky keyy vy ny);clear hi hrow hT hkl h hQ hb hA hB hWz;rcases ku x with hq | hq
 all_goals
  have HE:=hid hq;clear hq;go_enter Tryz.func198,Tryz.ntmps198
  go_wp2_with fail
  refine (Ci T P K key val N T0 ty ry ky keyy vy ny k x Q W HQ.out hks HTS.out HI0.out).mono ?_;rintro r w1 ⟨rfl,hb1⟩;rw [HE.out];have HB1:Hid (Below w.heap.size w w1):=hid (HB.out.trans (hb1.mono HB.out.size));have HBR1:=hid ((hb1.block _ (by have:=HWZ.out;omega)).trans HBR.out);have HA1:=hid ((hb1.block _ (by have:=HWZ.out;omega)).trans HA.out);have HR1:Hid (RoT w1 R T0 0):=hid ((hb1.block R hRW).trans HROW.out);clear c0 c1 z0 z1 hb1;go_wp2_with (first
   | ((with_reducible refine wpList_store_row rfl _ _ _ rfl _ _ rfl rfl _ _ HBR1.out HI.out HSAME.out HONE.out ?_);(obtain ⟨w2,hw2,hr2,ha2,hb2,hg2⟩:=DO HB1.out HBR1.out HA1.out HR1.out hR #[.int .i64 ty,.int .i64 ry,.int .i64 ky,.string keyy,.string vy,.int .i64 ny]);rw [hw2];clear hw2;have HR2:=hid hr2;have HA2:=hid ha2;have HG2:=hid hg2;(obtain ⟨c0,c1,z0,z1,_⟩:=hr2.cells);rw [eY] at c1;(obtain ⟨b0,b1,b2,b3,b4,b5⟩:=bZ hb2);clear hr2 ha2 hg2 hb2;have hne:¬ w.heap.size+1=R:=(by omega);have hne2:¬ R=w.heap.size+1:=(by omega);have hrq:=HR2.out.put (T0.extract k T0.size) x;have ha3:=dd (o:=0) (dd (o:=1) HA2.out (show w.heap.size≠R by omega) (errV x)) (show w.heap.size≠R by omega) (.string (T0.extract k T0.size));rw [HE.out] at hrq ha3;have HRQ:=hid hrq;have HA3:=hid ha3;clear hrq ha3)
   | (with_reducible refine wpList_store_row rfl _ _ _ rfl _ _ rfl rfl _ _ HA3.out HI.out HSAME.out HONE.out ?_))
  obtain ⟨e0,e1,e2,e3,e4,e5⟩:=bZ (cA HA3.out #[.int .i64 ty,.int .i64 ry,.int .i64 ky,.string keyy,.string vy,.int .i64 ny]);refine bodyPost_ret (v:=.agg #[.int .i64 ty,.int .i64 ry,.int .i64 ky,.string keyy,.string vy,.int .i64 ny]) (by simp [results,Tryz.results198,go_sem,e0,e1,e2,e3,e4,e5]) rfl ?_;exact ⟨rfl,⟨_,kp,kz HT.out,jn HRQ.out (by omega)⟩,gP (kI HG2.out _ _) (Nat.le_refl _) _⟩
end
section
open Go.RowKit
theorem BM (R Q:Nat) (l l':List UInt8) (T P K:Int) (key val:ByteArray) (N:Int) (ty ry ky:Int) (keyy vy:ByteArray) (ny:Int) (e e':Nat) (w:World) (h:Ro w R l e) (hQ:wrAt w Q T P K key val N) (hks:key.size≤140737488351232) (hn:eC T P K key l e=(⟨ty,ry,ky,keyy,vy,ny⟩,l',e')) :
 Calls Tryz.prog 198 #[.pointer (some ⟨R,0,none⟩),.func (.func 199) #[] #[.pointer (some ⟨Q,0,none⟩)]] w fun r w'=>r=.returned (.agg #[.int .i64 ty,.int .i64 ry,.int .i64 ky,.string keyy,.string vy,.int .i64 ny])∧Ro w' R l' e'∧w.grownBy w' (some R):=by
 by_cases he:e=0
 ·subst he;obtain ⟨y,k,x,hi⟩:∃ y k x,dq T P K key l=(y,k,x):=⟨_,_,_,rfl⟩;rw [ne hi] at hn;injection hn with i1 hn;injection hn with i2 i3
  subst i1 i2 i3;exact BT R Q l T P K key val N ty ry ky keyy vy ny k x w h hQ hks hi
 ·rw [fY he] at hn;injection hn with i1 hn;injection hn with i2 i3
  unfold gz at i1;injection i1 with j1 j2 j3 j4 j5 j6
  subst i2 i3 j1 j2 j3 j4 j5 j6;refine (BU R _ l e w h he).mono ?_;rintro r w' ⟨rfl,hb⟩;exact ⟨rfl,h.below hb,fC hb⟩
theorem zQ (W:World) (b:Nat) (cs:Array Value):W.grownBy (W.setRow b cs) (some b) :=
 ⟨rfl,rfl,rfl,by simp [World.setRow],fun k hk hne=>by
  have hk2:b≠k:=fun e=>hne (by rw [e])
  simp only [World.setRow,Array.getElem?_modify,if_neg hk2]⟩
def NO (w:World) (R:Nat) (l:List UInt8) (e:Nat) (c0 c1 c2 c3 c4 c5:Value) (wr:World):Prop :=
 Ro wr R l e∧w.grownBy wr (some R)∧wr.heap[w.heap.size+1]? = some (.cells #[c0,c1,c2,c3,c4,c5] 38 (0,0))∧wr.heap[w.heap.size]? = some (.cells #[.int .i64 0,.int .i64 0,.int .i64 0,.string ⟨#[]⟩,.string ⟨#[]⟩,.int .i64 0] 38 (0,0))∧R<w.heap.size
section
variable {w wr w':World} {R:Nat} {l l':List UInt8} {e e':Nat} {c0 c1 c2 c3 c4 c5 d0 d1 d2 d3 d4 d5:Value}
theorem NO.get (h:NO w R l e c0 c1 c2 c3 c4 c5 wr) (hr:Ro w' R l' e') (hg:wr.grownBy w' (some R)):NO w R l' e' c0 c1 c2 c3 c4 c5 w':=by
 obtain ⟨h1,h2,h3,h4,h5⟩:=h;exact ⟨hr,cJ h2 hg (fun k hk=>.inl (by injection hk with hk;exact hk.symm)),(hg.block _ (Array.getElem?_eq_some_iff.1 h3).1 (by simp;omega)).trans h3,(hg.block _ (Array.getElem?_eq_some_iff.1 h4).1 (by simp;omega)).trans h4,h5⟩
theorem NO.cells (h:NO w R l e c0 c1 c2 c3 c4 c5 wr) :
 (wr.cell? ⟨w.heap.size+1,0,none⟩=some c0∧wr.cell? ⟨w.heap.size+1,1,none⟩=some c1∧wr.cell? ⟨w.heap.size+1,2,none⟩=some c2∧wr.cell? ⟨w.heap.size+1,3,none⟩=some c3∧wr.cell? ⟨w.heap.size+1,4,none⟩=some c4∧wr.cell? ⟨w.heap.size+1,5,none⟩=some c5)∧dU wr (w.heap.size+1) :=
 ⟨⟨cell_of_row _ _ 0 _ _ _ h.2.2.1,cell_of_row _ _ 1 _ _ _ h.2.2.1,cell_of_row _ _ 2 _ _ _ h.2.2.1,cell_of_row _ _ 3 _ _ _ h.2.2.1,cell_of_row _ _ 4 _ _ _ h.2.2.1,cell_of_row _ _ 5 _ _ _ h.2.2.1⟩,gM h.2.2.1⟩
theorem gQ (W:World) (b o:Nat) (x:Value):W.grownBy (W.setCell ⟨b,o,none⟩ x) (some b) :=
 ⟨rfl,rfl,rfl,by simp,fun k hk hne=>by
  have hk2:b≠k:=fun e=>hne (by rw [e])
  simp only [World.setCell,Array.getElem?_modify,if_neg hk2]⟩
theorem NO.put {o:Nat} {v:Value} (h:NO w R l e c0 c1 c2 c3 c4 c5 wr) (hs:(#[c0,c1,c2,c3,c4,c5]:Array Value).setIfInBounds o v=#[d0,d1,d2,d3,d4,d5]):NO w R l e d0 d1 d2 d3 d4 d5 (wr.setCell ⟨w.heap.size+1,o,none⟩ v):=by
 obtain ⟨h1,h2,h3,h4,h5⟩:=h;refine ⟨h1.kept (gQ wr (w.heap.size+1) o v) (by simp;omega),?_,?_,dd h4 (by omega) v,h5⟩
 ·exact cJ h2 (gQ _ _ _ _) (fun k hk=>.inr (by injection hk with hk;omega))
 ·rw [heap_setCell_same _ _ _ _ _ _ h3,hs]
end
theorem EH (l:List UInt8) (e:Nat):(dy l e).1.length≤2000:=by
 unfold dy;split
 ·simp
 ·exact (ru (t:=(getS l).1) (k:=(getS l).2.1) (x:=(getS l).2.2) rfl).2.1
theorem Cc (R:Nat) (l l':List UInt8) (ty ry ky:Int) (keyy vy:ByteArray) (ny:Int) (e e':Nat) (w:World) (h:Ro w R l e) (hn:wrS l e=(⟨ty,ry,ky,keyy,vy,ny⟩,l',e')) :
 Calls Tryz.prog 162 #[.pointer (some ⟨R,0,none⟩)] w fun r w'=>r=.returned (.agg #[.int .i64 ty,.int .i64 ry,.int .i64 ky,.string keyy,.string vy,.int .i64 ny])∧Ro w' R l' e'∧w.grownBy w' (some R):=by
 have hmf:∀ (fn:Fn) (first cap:Array Value) (w:World),(Instr.makeFunc fn first cap).run Tryz.prog w=.ok (.func fn first cap) w:=fun _ _ _ _=>rfl
 obtain ⟨hb,hA,hB⟩:=oU w;have hR:=h.lt;obtain ⟨W,hW⟩:∃ W,(w.alloc (.cells #[.int .i64 0,.int .i64 0,.int .i64 0,.string ⟨#[]⟩,.string ⟨#[]⟩,.int .i64 0] 38)).alloc (.cells #[.int .i64 0,.int .i64 0,.int .i64 0,.string ⟨#[]⟩,.string ⟨#[]⟩,.int .i64 0] 38)=W:=⟨_,rfl⟩;rw [hW] at hb hA hB;have HN0:Hid (NO w R l e (.int .i64 0) (.int .i64 0) (.int .i64 0) (.string ⟨#[]⟩) (.string ⟨#[]⟩) (.int .i64 0) W):=hid ⟨h.below hb,fC hb,hB,hA,hR⟩;obtain ⟨K,l1,e1,h0⟩:∃ n l1 e1,dV l e=(n,l1,e1):=⟨_,_,_,rfl⟩;obtain ⟨t,l2,e2,h1⟩:∃ n l2 e2,numS 1099511627776 l1 e1=(n,l2,e2):=⟨_,_,_,rfl⟩;obtain ⟨rp,l3,e3,h2⟩:∃ n l3 e3,numS 200 l2 e2=(n,l3,e3):=⟨_,_,_,rfl⟩;obtain ⟨key,l4,e4,h3⟩:∃ (key:ByteArray) (l4:List UInt8) (e4:Nat),dy l3 e3=(key.data.toList,l4,e4):=⟨⟨(dy l3 e3).1.toArray⟩,(dy l3 e3).2.1,(dy l3 e3).2.2,by simp⟩;have hks:key.size≤140737488351232:=by
  have:=EH l3 e3;rw [h3,←aj] at this;omega
 rw [fK h0 h1 h2 h3,bW] at hn;have H0:=hid h0;have H1:=hid h1;have H2:=hid h2;have H3:=hid h3;have H4:=hid hn;have HKS:=hid hks;clear h hb hA hB h0 h1 h2 h3 hn hks;go_enter Tryz.func162,Tryz.ntmps162
 go_wp2_with fail
 refine (C1 R l l1 e e1 K W HN0.out.1 H0.out).mono ?_;rintro r w2 ⟨rfl,hr2,hg2⟩;have HN2:=hid (HN0.out.get hr2 hg2);have HN3:Hid (NO w R l1 e1 (.int .i64 0) (.int .i64 0) (.int .i64 (K:Int)) (.string ⟨#[]⟩) (.string ⟨#[]⟩) (.int .i64 0) (w2.setCell ⟨w.heap.size+1,2,none⟩ (.int .i64 (K:Int)))):=hid (HN2.out.put rfl);obtain ⟨⟨c0,c1,c2,c3,c4,c5⟩,z0,z1,z2,z3,z4,z5⟩:=HN2.out.cells;clear hr2 hg2 HN0;go_wp2_with fail
 refine (gX R 1099511627776 l1 l2 e1 e2 t _ HN3.out.1 (by decide) (by decide) H1.out).mono ?_;rintro r w4 ⟨rfl,hr4,hg4⟩;have HN4:=hid (HN3.out.get hr4 hg4);have HN5:Hid (NO w R l2 e2 (.int .i64 (t:Int)) (.int .i64 0) (.int .i64 (K:Int)) (.string ⟨#[]⟩) (.string ⟨#[]⟩) (.int .i64 0) (w4.setCell ⟨w.heap.size+1,0,none⟩ (.int .i64 (t:Int)))):=hid (HN4.out.put rfl);clear c0 c1 c2 c3 c4 c5 z0 z1 z2 z3 z4 z5 hr4 hg4 HN2 HN3;obtain ⟨⟨c0,c1,c2,c3,c4,c5⟩,z0,z1,z2,z3,z4,z5⟩:=HN4.out.cells;go_wp2_with fail
 refine (gX R 200 l2 l3 e2 e3 rp _ HN5.out.1 (by decide) (by decide) H2.out).mono ?_;rintro r w6 ⟨rfl,hr6,hg6⟩;have HN6:=hid (HN5.out.get hr6 hg6);have HN7:Hid (NO w R l3 e3 (.int .i64 (t:Int)) (.int .i64 (rp:Int)) (.int .i64 (K:Int)) (.string ⟨#[]⟩) (.string ⟨#[]⟩) (.int .i64 0) (w6.setCell ⟨w.heap.size+1,1,none⟩ (.int .i64 (rp:Int)))):=hid (HN6.out.put rfl);clear c0 c1 c2 c3 c4 c5 z0 z1 z2 z3 z4 z5 hr6 hg6 HN4 HN5;obtain ⟨⟨c0,c1,c2,c3,c4,c5⟩,z0,z1,z2,z3,z4,z5⟩:=HN6.out.cells;go_wp2_with fail
 refine (Cw R l3 l4 key e3 e4 _ HN7.out.1 H3.out).mono ?_;rintro r w8 ⟨rfl,hr8,hg8⟩;have HN8:=hid (HN7.out.get hr8 hg8);have HN9:Hid (NO w R l4 e4 (.int .i64 (t:Int)) (.int .i64 (rp:Int)) (.int .i64 (K:Int)) (.string key) (.string ⟨#[]⟩) (.int .i64 0) (w8.setCell ⟨w.heap.size+1,3,none⟩ (.string key))):=hid (HN8.out.put rfl);clear c0 c1 c2 c3 c4 c5 z0 z1 z2 z3 z4 z5 hr8 hg8 HN6 HN7;obtain ⟨⟨c0,c1,c2,c3,c4,c5⟩,z0,z1,z2,z3,z4,z5⟩:=HN8.out.cells;go_wp2_with fail
 refine (BM R (w.heap.size+1) l4 l' (t:Int) (rp:Int) (K:Int) key ⟨#[]⟩ 0 ty ry ky keyy vy ny e4 e' _ HN9.out.1 HN9.out.cells.1 HKS.out H4.out).mono ?_;rintro r w10 ⟨rfl,hr10,hg10⟩;have HN10:=hid (HN9.out.get hr10 hg10);have HI:=hid (eR (.int .i64 ty) (.int .i64 ry) (.int .i64 ky) (.string keyy) (.string vy) (.int .i64 ny));have HONE:=hid (eQ ty ry ky keyy vy ny);have HSAME:=hid (fj ty ry ky keyy vy ny);have HROWB:=hid HN10.out.2.2.2.1;clear hr10 hg10 c0 c1 c2 c3 c4 c5 z0 z1 z2 z3 z4 z5 HN8 HN9;go_wp2_with (with_reducible refine wpList_store_row rfl _ _ _ rfl _ _ rfl rfl _ _ HROWB.out HI.out HSAME.out HONE.out ?_)
 obtain ⟨g0,g1,g2,g3,g4,g5⟩:=bZ (cA HROWB.out #[.int .i64 ty,.int .i64 ry,.int .i64 ky,.string keyy,.string vy,.int .i64 ny]);refine bodyPost_ret (v:=.agg #[.int .i64 ty,.int .i64 ry,.int .i64 ky,.string keyy,.string vy,.int .i64 ny]) (by simp [results,Tryz.results162,go_sem,g0,g1,g2,g3,g4,g5]) rfl ?_;exact ⟨rfl,HN10.out.1.kept (zQ w10 w.heap.size _) (by simp;omega),gP HN10.out.2.1 (Nat.le_refl _) _⟩
end
section
open Go.RowKit
theorem zi {T R K:Int} {key:ByteArray} {l l':List UInt8} {e:Nat} {y:Wr} (h:eC T R K key l e=(y,l',0)):wE y=0:=by
 by_cases he:e=0
 ·subst he;by_cases hf:aH T R K key l=0
  ·rw [qS hf] at h;injection h with h _;rw [←h];exact (kC hf).1
  ·rw [qR rfl hf] at h;injection h with _ h;injection h with _ h;exact absurd h hf
 ·rw [fY he] at h;injection h with _ h;injection h with _ h;exact absurd h he
theorem Gu {l l':List UInt8} {e:Nat} {y:Wr} (h:wrS l e=(y,l',0)):wE y=0:=by
 rw [fK (K:=(dV l e).1) (l1:=(dV l e).2.1) (e1:=(dV l e).2.2) rfl rfl rfl rfl] at h;exact zi h
theorem GL (k:Nat):∀ (l:List UInt8) (e:Nat) (W:List Wr),(∀ x∈W,wE x=0)→(wrsS k l e W).2.2=0→∀ x∈(wrsS k l e W).1,wE x=0:=by
 induction k with
 | zero=>intro l e W hW _ x hx;exact hW x hx
 | succ k ih =>
  intro l e W hW h0 x hx;rw [wrsS] at h0 hx;by_cases he:(wrS l e).2.2=0
  ·refine ih _ _ _ (fun y hy=>?_) h0 x hx;rcases List.mem_append.1 hy with hy | hy
   ·exact hW y hy
   ·rw [List.mem_singleton.1 hy];exact Gu (l':=(wrS l e).2.1) (by rw [←he])
  ·rw [jI he] at h0;exact absurd h0 he
theorem Eg (w:World) {ops:Array Oper} {o:Oper} {a:Act} {K:Act→World→Prop} {Q:Exit→Act→World→Prop} {E:Prop} (hgd:o.guard=none) (s x:Operand)
 (ho:o.op=.call { callee:=.builtin .append,args:=#[s,x],argTypes:=#[30,30] })
 (base:Nat) (v:Value) (l:List Wr) (hs:a.eval s=v) (hown:ak w base v l)
 (B c:Nat) (hx:a.eval x=.slice (some ⟨B,0,none⟩) 1 c) (t:Wr) (hcell:cU w B t)
 (hlen:l.length+1≤1000000) (hbase:base≤w.heap.size)
 (h:∀ g cap w',ak w' base (.slice (some ⟨g,0,none⟩) (l.length+1) cap) (l++[t])→w.grownBy w' v.ownBlock→K (a.put o.dst (.slice (some ⟨g,0,none⟩) (l.length+1) cap)) w') :
 if Region.wanted o (yielded ops a.tmps)=true then Oper.wp Tryz.prog o a w K Q else E:=by
 obtain ⟨i0,hi,hz0,hz1,hz2⟩:=info_parts iW;refine step_append_lies w hgd s x 30 ho base 38 i0 (.agg #[.int .i64 0,.int .i64 0,.int .i64 0,.string ⟨#[]⟩,.string ⟨#[]⟩,.int .i64 0]) 6 64 Tryz.underlying30 hi hz0 hz1 hz2 rfl (by decide) v l.length (wrsC l) hs hown ⟨B,0,none⟩ 1 c (wrC t) hx rfl ?_ (il t) (by decide) (by unfold maxLen;omega) (by omega) hbase _ rfl ?_
 ·intro j u hj;have hadd:(⟨B,0,none⟩:Addr).add j=⟨B,j,none⟩:=by unfold Addr.add;split <;> simp_all
  rw [hadd,cell_of_row _ _ _ _ _ _ hcell,←hj];simp
 ·intro g cap w' h1 h2 _ _;refine h g cap w' ?_ h2;unfold ak;rw [List.length_append,io]
  simpa [pA] using h1
theorem gZ {w w':World} {B R k n:Nat} {e:TypeId} {v:Value} {xs:List Value} (h:w.ownsRow B e k v n xs) (hR:R<B) (hg:w.grownBy w' (some R)):w'.ownsRow B e k v n xs :=
 World.ownsRow.kept h hg (.inr (fun e=>by have:=(World.ownsRow.lt h R e).1;omega))
theorem sL (R:Nat) (l l':List UInt8) (L:List Ent) (e e':Nat) (w:World) (h:Ro w R l e) (hv:vecS l e=(L,l',e')) :
 Calls Tryz.prog 160 #[.pointer (some ⟨R,0,none⟩)] w fun r w'=>∃ v,r=.returned v∧ag w' w.heap.size v L∧Ro w' R l' e'∧w.grownBy w' (some R):=by
 have hR:=h.lt;obtain ⟨n,l1,e1,h1⟩:∃ n l1 e1,numS 16 l e=(n,l1,e1):=⟨_,_,_,rfl⟩;have hn16:n≤16:=by have:=nU (most:=16) (by decide) l e;rw [h1] at this;omega
 have hV:cG n l1 e1 []=(L,l',e'):=by unfold vecS at hv;rw [h1] at hv;exact hv
 have HR:=hid h;have H1:=hid h1;have HV:=hid hV;clear h h1 hv hV;go_enter Tryz.func160,Tryz.ntmps160
 go_wp2_with fail
 refine (gX R 16 l l1 e e1 n _ HR.out (by decide) (by decide) H1.out).mono ?_;rintro r w1 ⟨rfl,hr1,hg1⟩;have HR1:=hid hr1;have HG1:=hid hg1;clear hr1 hg1 HR;go_wp2
 go_loopw [3,6] (fun v i wr=>∃ (j:Nat) (lj:List UInt8) (ej:Nat) (acc:List Ent),j≤n∧i=.int .i64 j∧acc.length=j∧cG (n-j) lj ej acc=(L,l',e')∧ag wr w.heap.size v acc∧Ro wr R lj ej∧w.grownBy wr (some R)) (fun _ i _=>n-(intOf i).toNat)
 case atStart=>exact ⟨0,l1,e1,[],Nat.zero_le _,rfl,rfl,HV.out,fd _ _,HR1.out,HG1.out⟩
 case round =>
  obtain ⟨j,lj,ej,acc,hj,rfl,hacc,hent,hown,hro,hgr⟩:=hrel;have HO:=hid hown;have HRO:=hid hro;have HGR:=hid hgr;have HAC:=hid hacc;obtain ⟨av,cv,rfl,_⟩:=hown.is.form;obtain ⟨na,hna⟩:∃ na,na=acc.length:=⟨_,rfl⟩;rw [←hna] at HO ⊢;have HNA:=hid hna;clear hown hro hgr hacc hna;by_cases hlt:j<n
  ·obtain ⟨q,hq⟩:∃ q,n-j=q+1:=⟨n-j-1,by omega⟩;rw [hq] at hent;obtain ⟨rr,l2,e2,h2⟩:∃ n l1 e1,numS 200 lj ej=(n,l1,e1):=⟨_,_,_,rfl⟩;obtain ⟨t,l3,e3,h3⟩:∃ n l1 e1,numS 1099511627776 l2 e2=(n,l1,e1):=⟨_,_,_,rfl⟩;rw [cG,h2] at hent;simp only at hent
   rw [h3] at hent;simp only at hent
   have HENT:Hid (cG (n-(j+1)) l3 e3 (acc++[⟨(rr:Int),(t:Int)⟩])=(L,l',e')):=hid (by rw [show n-(j+1)=q by omega];exact hent);have H2:=hid h2;have H3:=hid h3;clear h2 h3 hent hq;go_wp2_with fail
   refine (gX R 200 lj l2 ej e2 rr wr HRO.out (by decide) (by decide) H2.out).mono ?_;rintro r w2 ⟨rfl,hr2,hg2⟩;have HR2:=hid hr2;have HO2:Hid (ag w2 w.heap.size (.slice av na cv) acc):=hid (gZ HO.out hR hg2);have HG2:=hid (cJ HGR.out hg2 (fun k hk=>.inl (by injection hk with hk;exact hk.symm)));clear hr2 hg2 HRO;go_wp2_with fail
   refine (gX R 1099511627776 l2 l3 e2 e3 t w2 HR2.out (by decide) (by decide) H3.out).mono ?_;rintro r w4 ⟨rfl,hr4,hg4⟩;have HR4:=hid hr4;have HO4:Hid (ag w4 w.heap.size (.slice av na cv) acc):=hid (gZ HO2.out hR hg4);have HG4:=hid (cJ HG2.out hg4 (fun k hk=>.inl (by injection hk with hk;exact hk.symm)));clear hr4 hg4;go_wp2_with (at_builtin;refine pv rfl _ _ rfl w.heap.size _ acc rfl (HO4.out.alloc _) w4.heap.size 1 rfl ⟨(rr:Int),(t:Int)⟩ ?c1 ?c2 ?c3 ?_)
   case c1=>exact kq _ _ _
   case c2=>have:=HAC.out;omega
   case c3=>have:=HG4.out.size;simp;omega
   intro g cap w6 ho6 hg6;have hne6:=(HO4.out.alloc (.cells #[.int .i64 (rr:Int),.int .i64 (t:Int)] 58)).lt;have HO6:=hid ho6;have HR6:Hid (Ro w6 R l3 e3):=hid ((HR4.out.below ((Below.refl _ _).alloc (Nat.le_refl _) _)).kept hg6 (fun e=>by have:=(hne6 R e).1;omega));have HG6:=hid (cJ (cJ HG4.out (World.grownBy_alloc w4 (.cells #[.int .i64 (rr:Int),.int .i64 (t:Int)] 58) none) (fun k hk=>by cases hk)) hg6 (fun k hk=>.inr (hne6 k hk).1));clear ho6 hg6 hne6;go_wp2;go_roundw
   case rel=>exact ⟨j+1,l3,e3,acc++[⟨(rr:Int),(t:Int)⟩],by omega,by go_num,by rw [List.length_append,HAC.out];rfl,HENT.out,HO6.out,HR6.out,HG6.out⟩
   case measure=>simp [intOf];omega
  ·obtain rfl:j=n:=by omega
   rw [Nat.sub_self,cG] at hent;injection hent with i1 hent;injection hent with i2 i3
   have HE:Hid (acc=L∧lj=l'∧ej=e'):=hid ⟨i1,i2,i3⟩;clear i1 i2 i3;go_wp2;go_ret;obtain ⟨rfl,rfl,rfl⟩:=HE.out;exact ⟨_,rfl,HO.out,HRO.out,HGR.out⟩
end
section
open Go.RowKit
def jK (w:World) (s:List UInt8) (e:Ending) (w':World):Prop :=
 Below w.heap.size w w'∧((∃ x pl err,unbF s=.inl (x,pl)∧x≠0∧e=.returned (.tuple #[.agg #[.slice none 0 0,.slice none 0 0,.slice none 0 0],err])∧ax w' err (x,pl)) ∨
  ∃ f h l vf vh vw,unbF s=.inr (f,h,l)∧e=.returned (.tuple #[.agg #[vf,vh,vw],.nilIface])∧bj w' w.heap.size vf vh vw f h l)
theorem ax.row {w:World} {v:Value} {r:Nat×Int} {B:Nat} {a:Option Addr} {n c:Nat} {cs:Array Value} (h:ax w v r) (hE:w.cell? ⟨B,0,none⟩=some (.slice a n c)):ax (w.setRow B cs) v r:=by
 rcases h with (h | ⟨h0,b,h1,h2,h3,h4⟩) | h
 ·exact .inl (.inl h)
 ·have hne:B≠b:=fun e=>by rw [←e,hE] at h3;cases h3
  have hcell:∀ o,(w.setRow B cs).cell? ⟨b,o,none⟩=w.cell? ⟨b,o,none⟩:=fun o=>by
   simp only [World.cell?,World.setRow,Array.getElem?_modify]
   rw [if_neg hne]
  exact .inl (.inr ⟨h0,b,h1,by simpa [World.setRow] using h2,by rw [hcell];exact h3,by rw [hcell];exact h4⟩)
 ·exact .inr h
theorem jS (a b c:Value):(Tryz.prog.info? 47).map (·.size)=some (#[a,b,c]:Array Value).size:=pZ
theorem y6 (E:Nat) (w:World) :
 CallsD Tryz.prog 185 #[.pointer (some ⟨E,0,none⟩)] .returning w fun r u' w'=>r=.returned (.tuple #[])∧u'=.returning∧w'=w:=by
 have iN:=rW;refine callsD_of_wpS Tryz.func185 rfl fun c₀ cs hu=>?_
 apply wpS_seq
 apply wpS_region
 simp [wpOpsS,go_sem,recoverD,hu,Tryz.ntmps185,Exit.thenS,iN]
 refine wpS_of_wp ?_;rw [show (#[.pointer (some ⟨E,0,none⟩)]++(((((((Array.replicate 9 undef).setIfInBounds 3 .nilIface).setIfInBounds 4 (.tuple #[.nilIface,.bool false])).setIfInBounds 2 (.tuple #[.nilIface,.bool false])).setIfInBounds 5 .nilIface).setIfInBounds 6 (.bool false)).setIfInBounds 0 .nilIface).setIfInBounds 1 (.bool false):Array Value)=#[.pointer (some ⟨E,0,none⟩),.nilIface,.bool false,.tuple #[.nilIface,.bool false],.nilIface,.tuple #[.nilIface,.bool false],.nilIface,.bool false,undef,undef] by kernel_rfl];go_wp2;cases c₀
 simp_all [bodyPostS,results,Tryz.results185]
theorem y7 (E:Nat) (t:TypeId) (v old:Value) (older:List PanicEntry) (w:World) (ht:t=68∨t=84) (h0:w.cell? ⟨E,0,none⟩=some old) (z0:w.frozen? ⟨E,0,none⟩=false) :
 CallsD Tryz.prog 185 #[.pointer (some ⟨E,0,none⟩)] (.panicking ({ v:=.iface t v,recovered:=false }::older)) w fun r u' w' =>
  r=.returned (.tuple #[])∧u'=.panicking ({ v:=.iface t v,recovered:=true }::older)∧w'=w.setCell ⟨E,0,none⟩ (.iface t v):=by
 have iT:∀ (xT:TypeId) (w:World),(Instr.typeAssert (.iface t v) xT 41 true).run Tryz.prog w=.ok (.tuple #[.iface t v,.bool true]) w:=by
  rcases ht with rfl | rfl
  ·exact fun xT w=>rV v xT w
  ·exact fun xT w=>rU v xT w
 refine callsD_of_wpS Tryz.func185 rfl fun c₀ cs hu=>?_
 apply wpS_seq
 apply wpS_region
 simp [wpOpsS,go_sem,recoverD,hu,Tryz.ntmps185,Exit.thenS,iT]
 refine wpS_of_wp ?_;rw [show (#[.pointer (some ⟨E,0,none⟩)]++(((((((Array.replicate 9 undef).setIfInBounds 3 (.iface t v)).setIfInBounds 4 (.tuple #[.iface t v,.bool true])).setIfInBounds 2 (.tuple #[.iface t v,.bool true])).setIfInBounds 5 (.iface t v)).setIfInBounds 6 (.bool true)).setIfInBounds 0 (.iface t v)).setIfInBounds 1 (.bool true):Array Value)=#[.pointer (some ⟨E,0,none⟩),.iface t v,.bool true,.tuple #[.iface t v,.bool true],.iface t v,.tuple #[.iface t v,.bool true],.iface t v,.bool true,undef,undef] by kernel_rfl];go_wp2;simp [bodyPostS,results,Tryz.results185]
def jT (E:Nat):List Deferred:=[{ target:=.fn (Fn.func 185) #[.pointer (some ⟨E,0,none⟩)],args:=#[] }]
def CB (w:World) (vf vh vw:Value) (W:World):Prop :=
 Below w.heap.size w W∧W.heap[w.heap.size]? = some (.cells #[vf,vh,vw] 47 (0,0))∧W.heap[w.heap.size+1]? = some (.cells #[.nilIface] 41 (0,0))
theorem xA {w W:World} {s:List UInt8} {x:Nat} {pl:Int} {t:TypeId} {v:Value} (h:CB w (.slice none 0 0) (.slice none 0 0) (.slice none 0 0) W) (hr:unbF s=.inl (x,pl)) (hx:x≠0) (ha:ax W (.iface t v) (x,pl)) (tmps:Array Value)
 (t2:tmps[2]? = some (.pointer (some ⟨w.heap.size,0,none⟩))) (t3:tmps[3]? = some (.pointer (some ⟨w.heap.size+1,0,none⟩))) :
 Leaves Tryz.prog Tryz.f157 tmps (jK w s) (jT (w.heap.size+1)) (.panicking [{ v:=.iface t v,recovered:=false }]) W:=by
 obtain ⟨hb,hA,hE⟩:=h;have c0:W.cell? ⟨w.heap.size+1,0,none⟩=some .nilIface:=cell_of_row _ _ 0 _ _ (0,0) hE;unfold jT;refine leaves_cons (f:=185) (args:=#[.pointer (some ⟨w.heap.size+1,0,none⟩)]) (by simp) (by simp [go_sem]) ?_;refine (y7 (w.heap.size+1) t v .nilIface [] W ha.typed c0 (Lib.frozen_of_heap hE 0)).mono ?_;rintro r' u' w2 ⟨rfl,rfl,rfl⟩;have p0:(W.setCell ⟨w.heap.size+1,0,none⟩ (.iface t v)).cell? ⟨w.heap.size+1,0,none⟩=some (.iface t v):=World.cell?_setCell_same _ _ _ c0;have hA2:=dd (o:=0) hA (show w.heap.size≠w.heap.size+1 by omega) (.iface t v);have q0:=cell_of_row _ _ 0 _ _ _ hA2;have q1:=cell_of_row _ _ 1 _ _ _ hA2;have q2:=cell_of_row _ _ 2 _ _ _ hA2;refine ⟨.tuple #[.agg #[.slice none 0 0,.slice none 0 0,.slice none 0 0],.iface t v],by simp [results,Tryz.results157,go_sem,t2,t3,p0,q0,q1,q2],hb.setCell (by simp) _,.inl ⟨x,pl,.iface t v,hr,hx,rfl,ha.set c0⟩⟩
theorem xB {w W:World} {s:List UInt8} {f h:List Ent} {l:List Wr} {vf vh vw:Value} (hc:CB w vf vh vw W) (hr:unbF s=.inr (f,h,l)) (ho:bj W w.heap.size vf vh vw f h l) (tmps:Array Value)
 (t2:tmps[2]? = some (.pointer (some ⟨w.heap.size,0,none⟩))) (t3:tmps[3]? = some (.pointer (some ⟨w.heap.size+1,0,none⟩))) :
 Leaves Tryz.prog Tryz.f157 tmps (jK w s) (jT (w.heap.size+1)) .returning W:=by
 obtain ⟨hb,hA,hE⟩:=hc;have p0:W.cell? ⟨w.heap.size+1,0,none⟩=some .nilIface:=cell_of_row _ _ 0 _ _ (0,0) hE;have q0:=cell_of_row _ _ 0 _ _ _ hA;have q1:=cell_of_row _ _ 1 _ _ _ hA;have q2:=cell_of_row _ _ 2 _ _ _ hA;unfold jT;refine leaves_cons (f:=185) (args:=#[.pointer (some ⟨w.heap.size+1,0,none⟩)]) (by simp) (by simp [go_sem]) ?_;refine (y6 (w.heap.size+1) W).mono ?_;rintro r' u' w2 ⟨rfl,rfl,rfl⟩;refine ⟨.tuple #[.agg #[vf,vh,vw],.nilIface],by simp [results,Tryz.results157,go_sem,t2,t3,p0,q0,q1,q2],hb,.inr ⟨f,h,l,vf,vh,vw,hr,rfl,ho⟩⟩
theorem jR (a1 a2 a3:Option Addr) (n1 n2 n3 c1 c2 c3:Nat):(#[.slice a1 n1 c1,.slice a2 n2 c2,.slice a3 n3 c3]:Array Value).all (·.oneCell')=true:=by simp [Value.oneCell']
theorem mB (a b c d e f:Value):(#[a,b,c]:Array Value).size=(#[d,e,f]:Array Value).size:=rfl
theorem Dg (b:Nat) (s:ByteArray) (w:World) (hs:s.size≤maxLen) (hg:errT w) (hb:b<w.heap.size) (hc:w.cell? ⟨b,0,none⟩=some (.string s)) :
 Calls Tryz.prog 158 #[.pointer (some ⟨b,0,none⟩)] w (pK w s.data.toList):=by
 have HG:=hid (hg.alloc (.cells #[.slice none 0 0,.slice none 0 0,.slice none 0 0] 47));have h1:(w.alloc (.cells #[.slice none 0 0,.slice none 0 0,.slice none 0 0] 47)).cell? ⟨b,0,none⟩=some (.string s):=(World.cell?_alloc_lt _ _ _ hb).trans hc;clear hg hc;go_enter Tryz.func158,Tryz.ntmps158
 go_wp2_with fail
 refine (Dh s _ hs HG.out).mono ?_;rintro e w1 ⟨hb1,hcs⟩;have HB:Hid (Below w.heap.size w w1):=hid (((Below.refl _ _).alloc (Nat.le_refl _) _).trans (hb1.mono (by simp)));rcases hcs with ⟨x,pl,hx,t,u,rfl,hne,hat⟩ | ⟨f,h,l,vf,vh,vw,hx,rfl,ho⟩
 ·exact And.intro rfl ⟨HB.out,.inl ⟨x,pl,hx,t,u,rfl,hne,hat⟩⟩
 ·obtain ⟨a1,c1,rfl,_⟩:=ho.1.is.form;obtain ⟨a2,c2,rfl,_⟩:=ho.2.1.is.form;obtain ⟨a3,c3,rfl,_⟩:=ho.2.2.1.is.form;generalize f.length=n1 at ho ⊢;generalize h.length=n2 at ho ⊢;generalize l.length=n3 at ho ⊢;have hrow:w1.heap[w.heap.size]? = some (.cells #[.slice none 0 0,.slice none 0 0,.slice none 0 0] 47 (0,0)):=(hb1.block _ (by simp)).trans (heap_alloc_new w _);have HROW:=hid hrow;have HI:=hid (jS (.slice a1 n1 c1) (.slice a2 n2 c2) (.slice a3 n3 c3));have HONE:=hid (jR a1 a2 a3 n1 n2 n3 c1 c2 c3);have HSAME:=hid (mB (.slice none 0 0) (.slice none 0 0) (.slice none 0 0) (.slice a1 n1 c1) (.slice a2 n2 c2) (.slice a3 n3 c3));have HRA:=hid (cA hrow #[.slice a1 n1 c1,.slice a2 n2 c2,.slice a3 n3 c3]);have HO:=hid ((ho.keep (kJ w1 w.heap.size #[.slice a1 n1 c1,.slice a2 n2 c2,.slice a3 n3 c3]) (fun k hk=>by injection hk with hk;simp;omega)).mono (C:=w.heap.size) (by simp));have HX:=hid hx;clear hrow ho hb1 hx h1;go_wp2_with (with_reducible refine wpList_store_row rfl _ _ _ rfl _ _ rfl rfl _ _ HROW.out HI.out HSAME.out HONE.out ?_)
  have g0:=cell_of_row _ _ 0 _ _ _ HRA.out;have g1:=cell_of_row _ _ 1 _ _ _ HRA.out;have g2:=cell_of_row _ _ 2 _ _ _ HRA.out;refine bodyPost_ret (v:=.agg #[.slice a1 n1 c1,.slice a2 n2 c2,.slice a3 n3 c3]) (by simp [results,Tryz.results158,go_sem,g0,g1,g2]) rfl ?_;exact ⟨dQ HB.out (Nat.le_refl _) _,.inr ⟨f,h,l,_,_,_,HX.out,rfl,HO.out⟩⟩
theorem xZ (b:Nat) (s:ByteArray) (w:World) (hs:s.size≤maxLen) (hg:errT w) (hb:b<w.heap.size) (hc:w.cell? ⟨b,0,none⟩=some (.string s)) :
 Calls Tryz.prog 157 #[.func (.func 158) #[] #[.pointer (some ⟨b,0,none⟩)]] w (jK w s.data.toList):=by
 have hmf:∀ (fn:Fn) (first cap:Array Value) (w:World),(Instr.makeFunc fn first cap).run Tryz.prog w=.ok (.func fn first cap) w:=fun _ _ _ _=>rfl
 obtain ⟨W,hW⟩:∃ W,(w.alloc (.cells #[.slice none 0 0,.slice none 0 0,.slice none 0 0] 47)).alloc (.cells #[.nilIface] 41)=W:=⟨_,rfl⟩;have hbW:Below w.heap.size w W:=by rw [←hW];exact ((Below.refl _ _).alloc (Nat.le_refl _) _).alloc (by simp) _
 have hzW:w.heap.size+2=W.heap.size:=by rw [←hW];simp
 have hcb:CB w (.slice none 0 0) (.slice none 0 0) (.slice none 0 0) W:=by
  refine ⟨hbW,?_,?_⟩
  ·rw [←hW,Below.heap_alloc _ _ _ (by simp)];exact heap_alloc_new w _
  ·rw [←hW];have h:=heap_alloc_new (w.alloc (.cells #[.slice none 0 0,.slice none 0 0,.slice none 0 0] 47)) (.cells #[.nilIface] 41);simpa using h
 have HF:=hid (Dg b s W hs (hg.below hbW) (Nat.lt_of_lt_of_le hb hbW.size) ((hbW.cell hb).trans hc));have HCB:=hid hcb;have HZW:=hid hzW;clear hg hb hc hbW hcb hzW
 go_enter_defers Tryz.func157,Tryz.ntmps157
 go_wp2_with fail
 refine HF.out.mono ?_;rintro e w1 ⟨hb1,hcs⟩;have HC1:Hid (CB w (.slice none 0 0) (.slice none 0 0) (.slice none 0 0) w1):=hid ⟨HCB.out.1.trans (hb1.mono (by have:=HZW.out;omega)),(hb1.block _ (by have:=HZW.out;omega)).trans HCB.out.2.1,(hb1.block _ (by have:=HZW.out;omega)).trans HCB.out.2.2⟩;rcases hcs with ⟨x,pl,hx,t,u,rfl,hne,hat⟩ | ⟨f,h,l,vf,vh,vw,hx,rfl,ho⟩
 ·exact xA HC1.out hx hne hat _ rfl rfl
 ·obtain ⟨a1,c1,rfl,_⟩:=ho.1.is.form;obtain ⟨a2,c2,rfl,_⟩:=ho.2.1.is.form;obtain ⟨a3,c3,rfl,_⟩:=ho.2.2.1.is.form;generalize f.length=n1 at ho ⊢;generalize h.length=n2 at ho ⊢;generalize l.length=n3 at ho ⊢;have HROW:=hid HC1.out.2.1;have HI:=hid (jS (.slice a1 n1 c1) (.slice a2 n2 c2) (.slice a3 n3 c3));have HONE:=hid (jR a1 a2 a3 n1 n2 n3 c1 c2 c3);have HSAME:=hid (mB (.slice none 0 0) (.slice none 0 0) (.slice none 0 0) (.slice a1 n1 c1) (.slice a2 n2 c2) (.slice a3 n3 c3));have hrow1:(w1.setRow w.heap.size #[.slice a1 n1 c1,.slice a2 n2 c2,.slice a3 n3 c3]).heap[w.heap.size+1]? = some (.cells #[.nilIface] 41 (0,0)):=jn HC1.out.2.2 (by omega);have k0:(w1.setRow w.heap.size #[.slice a1 n1 c1,.slice a2 n2 c2,.slice a3 n3 c3]).cell? ⟨w.heap.size+1,0,none⟩=some .nilIface:=cell_of_row _ _ 0 _ _ (0,0) hrow1;have z0:(w1.setRow w.heap.size #[.slice a1 n1 c1,.slice a2 n2 c2,.slice a3 n3 c3]).frozen? ⟨w.heap.size+1,0,none⟩=false:=Lib.frozen_of_heap hrow1 0;have HC2:Hid (CB w (.slice a1 n1 c1) (.slice a2 n2 c2) (.slice a3 n3 c3) ((w1.setRow w.heap.size #[.slice a1 n1 c1,.slice a2 n2 c2,.slice a3 n3 c3]).setCell ⟨w.heap.size+1,0,none⟩ .nilIface)):=hid ⟨(dQ HC1.out.1 (Nat.le_refl _) _).setCell (by simp) _,dd (cA HC1.out.2.1 _) (by omega) _,by rw [heap_setCell_same _ _ _ _ _ _ hrow1];rfl⟩
  have HO:=hid (((ho.keep (kJ w1 w.heap.size #[.slice a1 n1 c1,.slice a2 n2 c2,.slice a3 n3 c3]) (fun k hk=>by injection hk with hk;have:=HZW.out;omega)).keep (kK _ (w.heap.size+1) 0 .nilIface) (fun k hk=>by injection hk with hk;have:=HZW.out;omega)).mono (C:=w.heap.size) (by have:=HZW.out;omega));have HX:=hid hx;clear ho hb1 hx hrow1;go_wp2_with (with_reducible refine wpList_store_row rfl _ _ _ rfl _ _ rfl rfl _ _ HROW.out HI.out HSAME.out HONE.out ?_)
  exact xB HC2.out HX.out HO.out _ rfl rfl
theorem qn (s:ByteArray) (w:World) (hs:s.size≤maxLen) (hg:errT w):Calls Tryz.prog 121 #[.string s] w (jK w s.data.toList):=by
 have hmf:∀ (fn:Fn) (first cap:Array Value) (w:World),(Instr.makeFunc fn first cap).run Tryz.prog w=.ok (.func fn first cap) w:=fun _ _ _ _=>rfl
 obtain ⟨W,hW⟩:∃ W,(w.alloc (.cells #[.string s] 9)).alloc (.cells #[.slice none 0 0,.slice none 0 0,.slice none 0 0] 47)=W:=⟨_,rfl⟩;have hbW:Below w.heap.size w W:=by rw [←hW];exact ((Below.refl _ _).alloc (Nat.le_refl _) _).alloc (by simp) _
 have hzW:w.heap.size+2=W.heap.size:=by rw [←hW];simp
 have hA:W.heap[w.heap.size+1]? = some (.cells #[.slice none 0 0,.slice none 0 0,.slice none 0 0] 47 (0,0)):=by rw [←hW];have h:=heap_alloc_new (w.alloc (.cells #[.string s] 9)) (.cells #[.slice none 0 0,.slice none 0 0,.slice none 0 0] 47);simpa using h
 have hcs:W.cell? ⟨w.heap.size,0,none⟩=some (.string s):=by rw [←hW,World.cell?_alloc_lt _ _ _ (by simp)];simp
 have HF:=hid (xZ w.heap.size s W hs (hg.below hbW) (by omega) hcs);have HBW:=hid hbW;have HZW:=hid hzW;have HA:=hid hA;clear hg hbW hzW hA hcs;go_enter Tryz.func121,Tryz.ntmps121
 go_wp2_with fail
 refine HF.out.mono ?_;rintro e w1 ⟨hb1,hcs⟩;have hrow:w1.heap[w.heap.size+1]? = some (.cells #[.slice none 0 0,.slice none 0 0,.slice none 0 0] 47 (0,0)):=(hb1.block _ (by have:=HZW.out;omega)).trans HA.out;have HROW:=hid hrow;have HB:Hid (Below w.heap.size w w1):=hid (HBW.out.trans (hb1.mono HBW.out.size));rcases hcs with ⟨x,pl,err,hx,hx0,rfl,hat⟩ | ⟨f,h,l,vf,vh,vw,hx,rfl,ho⟩
 ·have HI:=hid (jS (.slice none 0 0) (.slice none 0 0) (.slice none 0 0));have HONE:=hid (jR none none none 0 0 0 0 0 0);have HRA:=hid (cA hrow #[.slice none 0 0,.slice none 0 0,.slice none 0 0]);have HAT:=hid (ax.row (cs:=#[.slice none 0 0,.slice none 0 0,.slice none 0 0]) hat (cell_of_row _ _ 0 _ _ _ hrow));have HX:=hid hx;clear hrow hat hb1 hx;go_wp2_with (with_reducible refine wpList_store_row rfl _ _ _ rfl _ _ rfl rfl _ _ HROW.out HI.out rfl HONE.out ?_)
  have g0:=cell_of_row _ _ 0 _ _ _ HRA.out;have g1:=cell_of_row _ _ 1 _ _ _ HRA.out;have g2:=cell_of_row _ _ 2 _ _ _ HRA.out;refine bodyPost_ret (v:=.tuple #[.agg #[.slice none 0 0,.slice none 0 0,.slice none 0 0],err]) (by simp [results,Tryz.results121,go_sem,g0,g1,g2]) rfl ?_;exact ⟨dQ HB.out (by omega) _,.inl ⟨x,pl,err,HX.out,hx0,rfl,HAT.out⟩⟩
 ·obtain ⟨a1,c1,rfl,_⟩:=ho.1.is.form;obtain ⟨a2,c2,rfl,_⟩:=ho.2.1.is.form;obtain ⟨a3,c3,rfl,_⟩:=ho.2.2.1.is.form;generalize f.length=n1 at ho ⊢;generalize h.length=n2 at ho ⊢;generalize l.length=n3 at ho ⊢;have HI:=hid (jS (.slice a1 n1 c1) (.slice a2 n2 c2) (.slice a3 n3 c3));have HONE:=hid (jR a1 a2 a3 n1 n2 n3 c1 c2 c3);have HSAME:=hid (mB (.slice none 0 0) (.slice none 0 0) (.slice none 0 0) (.slice a1 n1 c1) (.slice a2 n2 c2) (.slice a3 n3 c3));have HRA:=hid (cA hrow #[.slice a1 n1 c1,.slice a2 n2 c2,.slice a3 n3 c3]);have HO:=hid ((ho.keep (kJ w1 (w.heap.size+1) #[.slice a1 n1 c1,.slice a2 n2 c2,.slice a3 n3 c3]) (fun k hk=>by injection hk with hk;have:=HZW.out;omega)).mono (C:=w.heap.size) (by have:=HZW.out;omega));have HX:=hid hx;clear hrow ho hb1 hx;go_wp2_with (with_reducible refine wpList_store_row rfl _ _ _ rfl _ _ rfl rfl _ _ HROW.out HI.out HSAME.out HONE.out ?_)
  have g0:=cell_of_row _ _ 0 _ _ _ HRA.out;have g1:=cell_of_row _ _ 1 _ _ _ HRA.out;have g2:=cell_of_row _ _ 2 _ _ _ HRA.out;refine bodyPost_ret (v:=.tuple #[.agg #[.slice a1 n1 c1,.slice a2 n2 c2,.slice a3 n3 c3],.nilIface]) (by simp [results,Tryz.results121,go_sem,g0,g1,g2]) rfl ?_;exact ⟨dQ HB.out (by omega) _,.inr ⟨f,h,l,_,_,_,HX.out,rfl,HO.out⟩⟩
end
section
open Go.RowKit
theorem Fc {s:List UInt8}:∀ (k a:Nat) (T:List ByteArray) (e p:Nat),unT s k a T=.inl (e,p)→e≠0:=by
 intro k
 induction k with
 | zero=>intro a T e p h;cases h
 | succ k ih =>
  intro a T e p h;rw [unT] at h;split at h
  ·rename_i h0;injection h with h;injection h with h1 _;rw [←h1];exact h0
  ·exact ih _ _ _ _ h
theorem F7 {s:List UInt8} {h:List Ent} {T:List ByteArray} {a:Nat} {ahead:Int} {e p:Nat} (h0:br s h T a ahead=.inl (e,p)):e≠0:=by
 unfold br at h0
 repeat' split at h0
 all_goals first
  | (rename_i hx;injection h0 with h0;injection h0 with h1 _;rw [←h1];exact hx)
  | cases h0
theorem Fj {s:List UInt8} {h:List Ent} {T:List ByteArray}:∀ (k a:Nat) (ahead:Int) (W:List Wr) (N:List Nat) (e p:Nat),unW s h T k a ahead W N=.inl (e,p)→e≠0:=by
 intro k
 induction k with
 | zero=>intro a ahead W N e p h;cases h
 | succ k ih =>
  intro a ahead W N e p h0;rw [unW] at h0;split at h0
  ·rename_i r hr;injection h0 with h0;subst h0;exact F7 hr
  ·exact ih _ _ _ _ _ _ h0
theorem uX {s:List UInt8} {x:Nat} {pl:Int} (h:unbF s=.inl (x,pl)):x≠0:=by
 unfold unbF at h
 repeat' split at h
 all_goals first
  | (injection h with h;injection h with h1 _;rw [←h1];first | assumption | decide | (exact Fc _ _ _ _ _ (by assumption)) | (exact Fj _ _ _ _ _ _ _ (by assumption)))
  | cases h
theorem zP (W:World) (b o:Nat) (v:Value):W.grownBy (W.setCell ⟨b,o,none⟩ v) (some b) :=
 ⟨rfl,rfl,rfl,by simp,fun k _ hk=>Below.heap_setCell _ _ _ k (fun e=>hk (by rw [e]))⟩
theorem bj.cell {w:World} {B k:Nat} {vf vh vw:Value} {f h:List Ent} {l:List Wr} (b:bj w B vf vh vw f h l) (hk:k<B) (o:Nat) (v:Value):bj (w.setCell ⟨k,o,none⟩ v) B vf vh vw f h l :=
 b.keep (zP w k o v) (fun j hj=>by injection hj with hj;omega)
end
