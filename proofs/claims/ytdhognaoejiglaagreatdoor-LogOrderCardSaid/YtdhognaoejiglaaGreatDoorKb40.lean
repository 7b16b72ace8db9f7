import Derived.Test.YtdhognaoejiglaaGreatDoorKb39
namespace Go.Proofs.YtdhognaoejiglaaGreatDoor
open Lib (hid)
set_option maxRecDepth 100000
set_option maxHeartbeats 8000000
section
open Go.RowKit
theorem CD (T R K:Int) (key val:ByteArray) (N:Int) (s:ByteArray) (ty ry ky:Int) (keyy vy:ByteArray) (ny:Int) (k x:Nat) (w:World) (hk:key.size≤140737488351232) (hs:s.size≤140737488351232) (h:dq T R K key s.data.toList=(⟨ty,ry,ky,keyy,vy,ny⟩,k,x)) :
 Calls Tryz.prog 200 #[.agg #[.int .i64 T,.int .i64 R,.int .i64 K,.string key,.string val,.int .i64 N],.string s] w fun e w'=>e=.returned (.tuple #[.agg #[.int .i64 ty,.int .i64 ry,.int .i64 ky,.string keyy,.string vy,.int .i64 ny],.int .i64 (k:Int),errV x])∧Below w.heap.size w w':=by
 by_cases he:aH T R K key s.data.toList=0
 ·rw [nd he] at h;injection h with h1 h
  injection h with h2 h3
  injection h1 with i1 i2 i3 i4 i5 i6
  subst i1 i2 i3 i4 i5 i6 h2 h3;exact vM T R K key val N s _ _ _ w hk hs he rfl rfl rfl
 ·rw [nc rfl he] at h;injection h with h1 h
  injection h with h2 h3
  injection h1 with i1 i2 i3 i4 i5 i6
  subst i1 i2 i3 i4 i5 i6 h2 h3;rw [iK he];exact vL T R K key val N s _ w hk hs rfl he
theorem Ci (T R K:Int) (key val:ByteArray) (N:Int) (s:ByteArray) (ty ry ky:Int) (keyy vy:ByteArray) (ny:Int) (k x Q:Nat) (w:World) (hQ:wrAt w Q T R K key val N) (hk:key.size≤140737488351232) (hs:s.size≤140737488351232) (h:dq T R K key s.data.toList=(⟨ty,ry,ky,keyy,vy,ny⟩,k,x)) :
 Calls Tryz.prog 199 #[.string s,.pointer (some ⟨Q,0,none⟩)] w fun e w'=>e=.returned (.tuple #[.agg #[.int .i64 ty,.int .i64 ry,.int .i64 ky,.string keyy,.string vy,.int .i64 ny],.int .i64 (k:Int),errV x])∧Below w.heap.size w w':=by
 obtain ⟨c0,c1,c2,c3,c4,c5⟩:=hQ.below ((Below.refl _ _).alloc (Nat.le_refl _) (.cells #[.int .i64 0,.int .i64 0,.int .i64 0,.string ⟨#[]⟩,.string ⟨#[]⟩,.int .i64 0] 38)) (bg hQ.1);have H0:=hid h;obtain ⟨q,hq⟩:∃ q,errV x=q:=⟨_,rfl⟩;have HQ:=hid hq;rw [hq];clear h hQ hq;go_enter Tryz.func199,Tryz.ntmps199
 go_wp2_with fail
 refine (CD T R K key val N s ty ry ky keyy vy ny k x _ hk hs H0.out).mono ?_;rintro r w1 ⟨rfl,hb1⟩;rw [HQ.out];have hq:w1.heap[w.heap.size]? = some (.cells #[.int .i64 0,.int .i64 0,.int .i64 0,.string ⟨#[]⟩,.string ⟨#[]⟩,.int .i64 0] 38 (0,0)):=(hb1.block _ (by simp)).trans (heap_alloc_new w _);have HB1:Hid (Below w.heap.size w w1):=hid (((Below.refl _ _).alloc (Nat.le_refl _) _).trans (hb1.mono (by simp)));have HROW:=hid hq;clear hb1 c0 c1 c2 c3 c4 c5;have HI:=hid (eR (.int .i64 ty) (.int .i64 ry) (.int .i64 ky) (.string keyy) (.string vy) (.int .i64 ny));have HONE:=hid (eQ ty ry ky keyy vy ny);have HSAME:=hid (fj ty ry ky keyy vy ny);obtain ⟨e0,e1,e2,e3,e4,e5⟩:=bZ (cA hq #[.int .i64 ty,.int .i64 ry,.int .i64 ky,.string keyy,.string vy,.int .i64 ny]);clear hq;go_wp2_with (with_reducible refine wpList_store_row rfl _ _ _ rfl _ _ rfl rfl _ _ HROW.out HI.out HSAME.out HONE.out ?_)
 refine bodyPost_ret (v:=.tuple #[.agg #[.int .i64 ty,.int .i64 ry,.int .i64 ky,.string keyy,.string vy,.int .i64 ny],.int .i64 (k:Int),q]) (by simp [results,Tryz.results199,go_sem,e0,e1,e2,e3,e4,e5]) rfl ?_;exact ⟨rfl,dQ HB1.out (Nat.le_refl _) _⟩
theorem oU (w:World):Below w.heap.size w ((w.alloc (.cells #[.int .i64 0,.int .i64 0,.int .i64 0,.string ⟨#[]⟩,.string ⟨#[]⟩,.int .i64 0] 38)).alloc (.cells #[.int .i64 0,.int .i64 0,.int .i64 0,.string ⟨#[]⟩,.string ⟨#[]⟩,.int .i64 0] 38))∧((w.alloc (.cells #[.int .i64 0,.int .i64 0,.int .i64 0,.string ⟨#[]⟩,.string ⟨#[]⟩,.int .i64 0] 38)).alloc (.cells #[.int .i64 0,.int .i64 0,.int .i64 0,.string ⟨#[]⟩,.string ⟨#[]⟩,.int .i64 0] 38)).heap[w.heap.size]? = some (.cells #[.int .i64 0,.int .i64 0,.int .i64 0,.string ⟨#[]⟩,.string ⟨#[]⟩,.int .i64 0] 38 (0,0))∧((w.alloc (.cells #[.int .i64 0,.int .i64 0,.int .i64 0,.string ⟨#[]⟩,.string ⟨#[]⟩,.int .i64 0] 38)).alloc (.cells #[.int .i64 0,.int .i64 0,.int .i64 0,.string ⟨#[]⟩,.string ⟨#[]⟩,.int .i64 0] 38)).heap[w.heap.size+1]? = some (.cells #[.int .i64 0,.int .i64 0,.int .i64 0,.string ⟨#[]⟩,.string ⟨#[]⟩,.int .i64 0] 38 (0,0)):=by
 refine ⟨((Below.refl _ _).alloc (Nat.le_refl _) _).alloc (by simp) _,?_,?_⟩
 ·rw [Below.heap_alloc _ _ _ (by simp)];exact heap_alloc_new w _
 ·have h:=heap_alloc_new (w.alloc (.cells #[.int .i64 0,.int .i64 0,.int .i64 0,.string ⟨#[]⟩,.string ⟨#[]⟩,.int .i64 0] 38)) (.cells #[.int .i64 0,.int .i64 0,.int .i64 0,.string ⟨#[]⟩,.string ⟨#[]⟩,.int .i64 0] 38)
  simpa using h
theorem BU (R:Nat) (F:Value) (l:List UInt8) (e:Nat) (w:World) (h:Ro w R l e) (he:e≠0) :
 Calls Tryz.prog 198 #[.pointer (some ⟨R,0,none⟩),F] w fun r w'=>r=.returned (.agg #[.int .i64 0,.int .i64 0,.int .i64 0,.string ⟨#[]⟩,.string ⟨#[]⟩,.int .i64 0])∧Below w.heap.size w w':=by
 obtain ⟨hb,hA,hB⟩:=oU w;obtain ⟨W,hW⟩:∃ W,(w.alloc (.cells #[.int .i64 0,.int .i64 0,.int .i64 0,.string ⟨#[]⟩,.string ⟨#[]⟩,.int .i64 0] 38)).alloc (.cells #[.int .i64 0,.int .i64 0,.int .i64 0,.string ⟨#[]⟩,.string ⟨#[]⟩,.int .i64 0] 38)=W:=⟨_,rfl⟩;rw [hW] at hb hA hB;obtain ⟨T,_,_,hrow⟩:=h.below hb;obtain ⟨_,c1,_,_,_⟩:=hrow.cells;rw [iK he] at c1;have HB:=hid hb;have HA:=hid hA;have HI:=hid (eR (.int .i64 0) (.int .i64 0) (.int .i64 0) (.string ⟨#[]⟩) (.string ⟨#[]⟩) (.int .i64 0));have HONE:=hid (eQ 0 0 0 ⟨#[]⟩ ⟨#[]⟩ 0);have HSAME:=hid (fj 0 0 0 ⟨#[]⟩ ⟨#[]⟩ 0);obtain ⟨b0,b1,b2,b3,b4,b5⟩:=bZ hB;obtain ⟨e0,e1,e2,e3,e4,e5⟩:=bZ (cA hA #[.int .i64 0,.int .i64 0,.int .i64 0,.string ⟨#[]⟩,.string ⟨#[]⟩,.int .i64 0]);clear hrow he h hb hA hB;go_enter Tryz.func198,Tryz.ntmps198
 go_wp2_with (with_reducible refine wpList_store_row rfl _ _ _ rfl _ _ rfl rfl _ _ HA.out HI.out HSAME.out HONE.out ?_)
 refine bodyPost_ret (v:=.agg #[.int .i64 0,.int .i64 0,.int .i64 0,.string ⟨#[]⟩,.string ⟨#[]⟩,.int .i64 0]) (by simp [results,Tryz.results198,go_sem,e0,e1,e2,e3,e4,e5]) rfl ?_;exact ⟨rfl,dQ HB.out (Nat.le_refl _) _⟩
end
section
open Go.RowKit
theorem eJ {w:World} {base base':Nat} {e1 e2:TypeId} {k1 k2 n1 n2:Nat} {v1 v2:Value} {x1 x2:List Value} (h1:w.ownsRow base e1 k1 v1 n1 x1) (h2:w.ownsRow base' e2 k2 v2 n2 x2) (hne:e1≠e2) :
 v1.ownBlock=none∨v1.ownBlock≠v2.ownBlock:=by
 rcases h1.2 with ⟨rfl,_⟩ | ⟨g,cap,cur,rfl,_,hh,_⟩
 ·exact .inl rfl
 ·refine .inr ?_;rcases h2.2 with ⟨rfl,_⟩ | ⟨g',cap',cur',rfl,_,hh',_⟩
  ·simp [Value.ownBlock]
  ·intro e;have:g=g':=by simpa [Value.ownBlock] using e
   subst this;rw [hh] at hh';injection hh' with hh'
   injection hh' with _ ht
   exact hne ht
theorem Fd {s:List UInt8} (k:Nat):∀ (a b:Nat) (T0 T:List ByteArray),(∀ x∈T0,x.size≤2000)→unT s k a T0=.inr (b,T)→∀ x∈T,x.size≤2000:=by
 induction k with
 | zero =>
  intro a b T0 T h0 h1;rw [unT] at h1;simp only [Sum.inr.injEq,Prod.mk.injEq] at h1
  obtain ⟨_,rfl⟩:=h1;exact h0
 | succ k ih =>
  intro a b T0 T h0 h1;obtain ⟨t,n,e,hg⟩:∃ t n e,getS (s.drop a)=(t,n,e):=⟨_,_,_,rfl⟩;by_cases he:e=0
  ·subst he;rw [jx hg] at h1;refine ih _ _ _ _ (fun x hx=>?_) h1;rcases List.mem_append.1 hx with hx | hx
   ·exact h0 x hx
   ·rw [List.mem_singleton.1 hx,cq];exact (jJ hg).2.2.1
  ·rw [m7 hg he] at h1;cases h1
theorem Fb {s:List UInt8} (k:Nat):∀ (a b:Nat) (T0 T:List ByteArray),unT s k a T0=.inr (b,T)→T.length=T0.length+k:=by
 induction k with
 | zero =>
  intro a b T0 T h1;rw [unT] at h1;simp only [Sum.inr.injEq,Prod.mk.injEq] at h1
  obtain ⟨_,rfl⟩:=h1
  rfl
 | succ k ih =>
  intro a b T0 T h1;obtain ⟨t,n,e,hg⟩:∃ t n e,getS (s.drop a)=(t,n,e):=⟨_,_,_,rfl⟩;by_cases he:e=0
  ·subst he;rw [jx hg] at h1;rw [ih _ _ _ _ h1,List.length_append];simp;omega
  ·rw [m7 hg he] at h1;cases h1
theorem BV {h:List Ent} {T:List ByteArray} (l:List Wr):∀ (ahead:Int) (N:List Nat),dI h T ahead l N→∀ x∈l,wE x=0:=by
 induction l with
 | nil=>intro ahead N _ x hx;cases hx
 | cons y r ih =>
  intro ahead N hN x hx;cases N with
  | nil=>exact absurd hN id
  | cons n N =>
   rcases List.mem_cons.1 hx with rfl | hx
   ·exact hN.1.1
   ·exact ih _ _ hN.2 x hx
def bj (w:World) (B:Nat) (vf vh vw:Value) (f h:List Ent) (l:List Wr):Prop :=
 ag w B vf f∧ag w B vh h∧ak w B vw l∧f.length≤16∧h.length≤16∧l.length≤60∧∀ t∈l,WrOk t
theorem bj.bat {w:World} {B:Nat} {vf vh vw:Value} {f h:List Ent} {l:List Wr} (b:bj w B vf vh vw f h l):aC w vf vh vw f h l :=
 ⟨b.1.is,b.2.1.is,b.2.2.1.is,by have:=b.2.2.2.1;omega,by have:=b.2.2.2.2.1;omega,by have:=b.2.2.2.2.2.1;omega,b.2.2.2.2.2.2⟩
theorem bj.mono {w:World} {B C:Nat} {vf vh vw:Value} {f h:List Ent} {l:List Wr} (b:bj w B vf vh vw f h l) (hC:C≤B):bj w C vf vh vw f h l:=⟨b.1.mono hC,b.2.1.mono hC,b.2.2.1.mono hC,b.2.2.2⟩
theorem bj.keep {w w':World} {B:Nat} {vf vh vw:Value} {f h:List Ent} {l:List Wr} {row:Option Nat} (b:bj w B vf vh vw f h l) (hg:w.grownBy w' row) (hrow:∀ k,row=some k→k<B):bj w' B vf vh vw f h l:=by
 obtain ⟨o1,o2,o3,rest⟩:=b;have key:∀ {e:TypeId} {k n:Nat} {v:Value} {xs:List Value},w.ownsRow B e k v n xs→w'.ownsRow B e k v n xs:=fun ho=>World.ownsRow.kept ho hg (by
  cases hr:row with
  | none =>
   rename_i v xs;cases hv:v.ownBlock with
   | none=>exact .inl rfl
   | some g=>exact .inr (by simp)
  | some k=>exact .inr (fun e=>by have h1:=(World.ownsRow.lt ho k e).1;have h2:=hrow k hr;omega))
 exact ⟨key o1,key o2,key o3,rest⟩
def pK (w:World) (s:List UInt8) (e:Ending) (w':World):Prop :=
 Below w.heap.size w w'∧((∃ x pl,unbF s=.inl (x,pl)∧eh (x,pl) e w')∨∃ f h l vf vh vw,unbF s=.inr (f,h,l)∧e=.returned (.agg #[vf,vh,vw])∧bj w' w.heap.size vf vh vw f h l)
def RS (w:World) (s:ByteArray) (a:Nat) (vf vh vw:Value) (wr:World):Prop :=
 Rd wr (w.heap.size+1) s a∧Below w.heap.size w wr∧wr.heap[w.heap.size+2]? = some (.cells #[vf,vh,vw] 47 (0,0))∧wr.heap[w.heap.size]? = some (.cells #[.slice none 0 0,.slice none 0 0,.slice none 0 0] 47 (0,0))∧w.heap.size+3≤wr.heap.size
theorem RS.move {w wr w':World} {s:ByteArray} {a a':Nat} {vf vh vw:Value} {row:Option Nat} (h:RS w s a vf vh vw wr) (hr:Rd w' (w.heap.size+1) s a') (hg:wr.grownBy w' row) (hrow:∀ k,row=some k→k=w.heap.size+1∨w.heap.size+3≤k):RS w s a' vf vh vw w':=by
 obtain ⟨h1,h2,h3,h4,h5⟩:=h;refine ⟨hr,h2.grown hg (by omega) (fun k hk=>by have:=hrow k hk;omega),(hg.block _ (by omega) (fun e=>by have:=hrow _ e.symm;omega)).trans h3,(hg.block _ (by omega) (fun e=>by have:=hrow _ e.symm;omega)).trans h4,Nat.le_trans h5 hg.size⟩
theorem RS.step {w wr w':World} {s:ByteArray} {a:Nat} {vf vh vw:Value} {row:Option Nat} (h:RS w s a vf vh vw wr) (hg:wr.grownBy w' row) (hrow:∀ k,row=some k→w.heap.size+3≤k):RS w s a vf vh vw w' :=
 h.move (h.1.grown hg (fun e=>by have:=hrow _ e.symm;omega)) hg (fun k hk=>.inr (hrow k hk))
theorem RS.alloc {w wr:World} {s:ByteArray} {a:Nat} {vf vh vw:Value} (h:RS w s a vf vh vw wr) (o:Obj):RS w s a vf vh vw (wr.alloc o):=h.step (World.grownBy_alloc wr o none) (fun k hk=>by cases hk)
theorem RS.put {w wr:World} {s:ByteArray} {a o:Nat} {vf vh vw uf uh uw v:Value} (h:RS w s a vf vh vw wr) (hs:(#[vf,vh,vw]:Array Value).setIfInBounds o v=#[uf,uh,uw]):RS w s a uf uh uw (wr.setCell ⟨w.heap.size+2,o,none⟩ v):=by
 obtain ⟨h1,h2,h3,h4,h5⟩:=h;refine ⟨?_,h2.setCell (by simp) _,?_,dd h4 (by omega) v,by simpa using h5⟩
 ·unfold Rd at h1 ⊢;exact dd h1 (by omega) v
 ·rw [heap_setCell_same _ _ _ _ _ _ h3,hs]
theorem RS.cells {w wr:World} {s:ByteArray} {a:Nat} {vf vh vw:Value} (h:RS w s a vf vh vw wr) :
 wr.cell? ⟨w.heap.size+2,0,none⟩=some vf∧wr.cell? ⟨w.heap.size+2,1,none⟩=some vh∧wr.cell? ⟨w.heap.size+2,2,none⟩=some vw∧wr.frozen? ⟨w.heap.size+2,0,none⟩=false∧wr.frozen? ⟨w.heap.size+2,1,none⟩=false∧wr.frozen? ⟨w.heap.size+2,2,none⟩=false :=
 ⟨cell_of_row _ _ 0 _ _ _ h.2.2.1,cell_of_row _ _ 1 _ _ _ h.2.2.1,cell_of_row _ _ 2 _ _ _ h.2.2.1,Lib.frozen_of_heap h.2.2.1 0,Lib.frozen_of_heap h.2.2.1 1,Lib.frozen_of_heap h.2.2.1 2⟩
def OB (B:Nat) (vf vh vt vn vw:Value) (f h:List Ent) (T:List ByteArray) (N:List Nat) (W:List Wr) (wr:World):Prop :=
 ag wr B vf f∧ag wr B vh h∧ai wr B vt T∧aU wr B vn N∧ak wr B vw W
theorem OB.keep {B:Nat} {vf vh vt vn vw:Value} {f h:List Ent} {T:List ByteArray} {N:List Nat} {W:List Wr} {wr w':World} {row:Option Nat} (o:OB B vf vh vt vn vw f h T N W wr) (hg:wr.grownBy w' row) (hrow:∀ k,row=some k→k<B):OB B vf vh vt vn vw f h T N W w':=by
 obtain ⟨o1,o2,o3,o4,o5⟩:=o;have key:∀ {e:TypeId} {k n:Nat} {v:Value} {xs:List Value},wr.ownsRow B e k v n xs→w'.ownsRow B e k v n xs:=fun ho=>World.ownsRow.kept ho hg (by
  cases hr:row with
  | none =>
   rename_i v xs;cases hv:v.ownBlock with
   | none=>exact .inl rfl
   | some g=>exact .inr (by simp)
  | some k=>exact .inr (fun e=>by have h1:=(World.ownsRow.lt ho k e).1;have h2:=hrow k hr;omega))
 exact ⟨key o1,key o2,key o3,key o4,key o5⟩
theorem OB.alloc {B:Nat} {vf vh vt vn vw:Value} {f h:List Ent} {T:List ByteArray} {N:List Nat} {W:List Wr} {wr:World} (o:OB B vf vh vt vn vw f h T N W wr) (b:Obj):OB B vf vh vt vn vw f h T N W (wr.alloc b):=o.keep (World.grownBy_alloc wr b none) (fun k hk=>by cases hk)
theorem OB.writes {B:Nat} {vf vh vt vn vw v':Value} {f h:List Ent} {T:List ByteArray} {N:List Nat} {W W':List Wr} {wr w':World} (o:OB B vf vh vt vn vw f h T N W wr) (hn:ak w' B v' W') (hg:wr.grownBy w' vw.ownBlock):OB B vf vh vt vn v' f h T N W' w':=by
 obtain ⟨o1,o2,o3,o4,o5⟩:=o;exact ⟨World.ownsRow.kept o1 hg (eJ o1 o5 (by decide)),World.ownsRow.kept o2 hg (eJ o2 o5 (by decide)),World.ownsRow.kept o3 hg (eJ o3 o5 (by decide)),World.ownsRow.kept o4 hg (eJ o4 o5 (by decide)),hn⟩
theorem OB.numbers {B:Nat} {vf vh vt vn vw v':Value} {f h:List Ent} {T:List ByteArray} {N N':List Nat} {W:List Wr} {wr w':World} (o:OB B vf vh vt vn vw f h T N W wr) (hn:aU w' B v' N') (hg:wr.grownBy w' vn.ownBlock):OB B vf vh vt v' vw f h T N' W w':=by
 obtain ⟨o1,o2,o3,o4,o5⟩:=o;exact ⟨World.ownsRow.kept o1 hg (eJ o1 o4 (by decide)),World.ownsRow.kept o2 hg (eJ o2 o4 (by decide)),World.ownsRow.kept o3 hg (eJ o3 o4 (by decide)),hn,World.ownsRow.kept o5 hg (eJ o5 o4 (by decide))⟩
theorem RS.got {w wr w':World} {s:ByteArray} {a:Nat} {vf vh vw:Value} (h:RS w s a vf vh vw wr) (hg:wr.grownBy w' (some (w.heap.size+1))):Below w.heap.size w w' :=
 h.2.1.grown hg (by have:=h.2.2.2.2;omega) (fun k hk=>by injection hk with hk;omega)
theorem RS.below {w wr w':World} {s:ByteArray} {a:Nat} {vf vh vw:Value} (h:RS w s a vf vh vw wr) (hb:Below wr.heap.size wr w'):RS w s a vf vh vw w' :=
 h.step (row:=none) ⟨hb.os,hb.tape,hb.output,hb.size,fun k hk _=>hb.block k hk⟩ (fun k hk=>by cases hk)
theorem OB.below {B:Nat} {vf vh vt vn vw:Value} {f h:List Ent} {T:List ByteArray} {N:List Nat} {W:List Wr} {wr w':World} (o:OB B vf vh vt vn vw f h T N W wr) (hb:Below wr.heap.size wr w'):OB B vf vh vt vn vw f h T N W w' :=
 o.keep (row:=none) ⟨hb.os,hb.tape,hb.output,hb.size,fun k hk _=>hb.block k hk⟩ (fun k hk=>by cases hk)
theorem kK (W:World) (b o:Nat) (x:Value):W.grownBy (W.setCell ⟨b,o,none⟩ x) (some b) :=
 ⟨rfl,rfl,rfl,by simp,fun k hk hne=>by
  have hk2:b≠k:=fun e=>hne (by rw [e])
  simp only [World.setCell,Array.getElem?_modify,if_neg hk2]⟩
theorem kJ (W:World) (b:Nat) (cs:Array Value):W.grownBy (W.setRow b cs) (some b) :=
 ⟨rfl,rfl,rfl,by simp [World.setRow],fun k hk hne=>by
  have hk2:b≠k:=fun e=>hne (by rw [e])
  simp only [World.setRow,Array.getElem?_modify,if_neg hk2]⟩
theorem Ff {s:List UInt8} {a x p:Nat} (h:unTx s a=.inl (x,p)):(∃ k j,intL (s.drop a) 60=(k,j,x)∧x≠0∧p=a)∨∃ k j,intL (s.drop a) 60=(k,j,0)∧unT s k (a+j) []=.inl (x,p):=by
 obtain ⟨k,j,e,hi⟩:∃ k j e,intL (s.drop a) 60=(k,j,e):=⟨_,_,_,rfl⟩;by_cases he:e=0
 ·subst he;rw [p7 hi] at h;exact .inr ⟨k,j,hi,h⟩
 ·rw [p6 hi he] at h;simp only [Sum.inl.injEq,Prod.mk.injEq] at h
  obtain ⟨rfl,rfl⟩:=h;exact .inl ⟨k,j,hi,he,rfl⟩
theorem Fg {s:List UInt8} {a b:Nat} {T:List ByteArray} (h:unTx s a=.inr (b,T)):∃ k j,intL (s.drop a) 60=(k,j,0)∧unT s k (a+j) []=.inr (b,T):=by
 obtain ⟨k,j,e,hi⟩:∃ k j e,intL (s.drop a) 60=(k,j,e):=⟨_,_,_,rfl⟩;by_cases he:e=0
 ·subst he;rw [p7 hi] at h;exact ⟨k,j,hi,h⟩
 ·rw [p6 hi he] at h;cases h
theorem Ac {l:List UInt8} {most:Int} {n k:Nat} (h:intL l most=(n,k,0)):(n:Int)≤most∧k≤l.length∧k≤10:=by
 rcases ba l most with ⟨e,h1,he,_⟩ | ⟨n',k',h1,h2,h3,h4,h5,_⟩
 ·rw [h1] at h;simp only [Prod.mk.injEq] at h;exact absurd h.2.2 he
 ·rw [h1] at h;simp only [Prod.mk.injEq] at h;obtain ⟨rfl,rfl,_⟩:=h;exact ⟨h2,h5,h4⟩
theorem yh {w:World} {B:Nat} {v:Value} {t:TypeId} (h:B=w.heap.size):(w.alloc (.cells #[v] t)).cell? ⟨B,0,none⟩=some v:=by subst h;simp
theorem pZ:(Tryz.prog.info? 47).map (·.size)=some 3:=by kernel_rfl
theorem Dh (s:ByteArray) (w:World) (hs:s.size≤maxLen) (hg:errT w):Calls Tryz.prog 159 #[.string s] w (pK w s.data.toList):=by
 unfold maxLen at hs;have HSL:Hid (s.data.toList.length=s.size):=hid (aj s).symm;by_cases hbig:20000<s.size
 ·have HRES:=hid (uW (s:=s.data.toList) (by rw [HSL.out];exact hbig));have d1:(20000:Int)<(s.size:Int):=by omega
  go_enter Tryz.func159,Tryz.ntmps159
  go_wp2_with fail
  refine (jY _ _ _).mono ?_;rintro r w' ⟨rfl,rfl⟩;exact And.intro rfl ⟨(Below.refl _ _).alloc (Nat.le_refl _) _,.inl ⟨_,_,HRES.out,_,_,rfl,by decide,.inr ⟨by decide,rfl,rfl⟩⟩⟩
 have hs2:s.size≤20000:=by omega
 have HS6:Hid (s.size≤1000000):=hid (by omega);have HL:Hid (¬ 20000<s.data.toList.length):=hid (by rw [HSL.out];exact hbig);have d1:(s.size:Int)≤20000:=by omega
 obtain ⟨W1,hW1⟩:∃ W1,((w.alloc (.cells #[.slice none 0 0,.slice none 0 0,.slice none 0 0] 47)).alloc (.cells #[.string s,.int .i64 0] 249)).alloc (.cells #[.slice none 0 0,.slice none 0 0,.slice none 0 0] 47)=W1:=⟨_,rfl⟩;have HS1:Hid (RS w s 0 (.slice none 0 0) (.slice none 0 0) (.slice none 0 0) W1):=hid (by
  rw [←hW1];refine ⟨?_,((((Below.refl _ _).alloc (Nat.le_refl _) _).alloc (by simp) _).alloc (by simp;omega) _),?_,?_,by simp⟩
  ·unfold Rd;rw [Below.heap_alloc _ _ _ (by simp)];have h:=heap_alloc_new (w.alloc (.cells #[.slice none 0 0,.slice none 0 0,.slice none 0 0] 47)) (.cells #[.string s,.int .i64 0] 249)
   simpa using h
  ·have h:=heap_alloc_new ((w.alloc (.cells #[.slice none 0 0,.slice none 0 0,.slice none 0 0] 47)).alloc (.cells #[.string s,.int .i64 0] 249)) (.cells #[.slice none 0 0,.slice none 0 0,.slice none 0 0] 47)
   simpa using h
  ·rw [Below.heap_alloc _ _ _ (by simp;omega),Below.heap_alloc _ _ _ (by simp)];exact heap_alloc_new w _)
 have HEG:Hid (∀ w',Below w.heap.size w w'→errT w'):=hid (fun w' hb=>hg.below hb);clear hs hg;rcases vD s.data.toList with ⟨e,h1,he⟩ | ⟨n,f,h1⟩
 ·have HRES:=hid (uU HL.out h1 he);have H1:Hid (ay (s.data.toList.drop 0)=(e,0,[])):=hid h1;clear h1;go_enter Tryz.func159,Tryz.ntmps159
  go_wp2_with fail
  refine (rI (w.heap.size+1) s 0 e 0 [] W1 HS1.out.1 (HEG.out _ HS1.out.2.1) HS6.out (Nat.zero_le _) H1.out rfl he rfl).mono ?_;rintro r w2 ⟨⟨t,u,rfl,hne,hat⟩,hg2⟩;exact And.intro rfl ⟨HS1.out.got hg2,.inl ⟨e,0,HRES.out,t,u,rfl,hne,hat⟩⟩
 obtain ⟨rf,hn1,hn2,_⟩:=mb h1;rw [HSL.out] at hn2;have H1:=hid h1;have H1d:Hid (ay (s.data.toList.drop 0)=(0,n,f)):=hid h1;have HRF:=hid rf;clear h1 rf;rcases vD (s.data.toList.drop n) with ⟨e,h2,he⟩ | ⟨m,h,h2⟩
 ·have HRES:=hid (uV HL.out H1.out h2 he);have H2:=hid h2;clear h2;go_enter Tryz.func159,Tryz.ntmps159
  go_wp2_with fail
  refine (nz (w.heap.size+1) s 0 0 n f W1 HS1.out.1 (HEG.out _ HS1.out.2.1) HS6.out (Nat.zero_le _) H1d.out (by omega) rfl).mono ?_;rintro r w2 ⟨v,rfl,ho2,hr2,hg2⟩;obtain ⟨af,cf,rfl,_⟩:=ho2.is.form;rw [Nat.zero_add] at hr2;have HS2:=hid (HS1.out.move hr2 hg2 (fun k hk=>.inl (by injection hk with hk;exact hk.symm)));obtain ⟨c0,c1,c2,z0,z1,z2⟩:=HS2.out.cells;have HS3:Hid (RS w s n (.slice af f.length cf) (.slice none 0 0) (.slice none 0 0) (w2.setCell ⟨w.heap.size+2,0,none⟩ (.slice af f.length cf))):=hid (HS2.out.put rfl);clear hr2 hg2 ho2;go_wp2_with fail
  refine (rI (w.heap.size+1) s n e 0 [] _ HS3.out.1 (HEG.out _ HS3.out.2.1) HS6.out hn2 H2.out rfl he rfl).mono ?_;rintro r w4 ⟨⟨t,u,rfl,hne,hat⟩,hg4⟩;exact And.intro rfl ⟨HS3.out.got hg4,.inl ⟨e,n,HRES.out,t,u,rfl,hne,hat⟩⟩
 obtain ⟨rh,hm1,hm2,_⟩:=mb h2;rw [List.length_drop,HSL.out] at hm2;have H2:=hid h2;have HRH:=hid rh;obtain ⟨a2,ha2⟩:∃ a2,n+m=a2:=⟨_,rfl⟩;have ha2s:a2≤s.size:=by omega
 have HA2:=hid ha2;clear h2 rh ha2;go_enter Tryz.func159,Tryz.ntmps159
 go_wp2_with fail
 refine (nz (w.heap.size+1) s 0 0 n f W1 HS1.out.1 (HEG.out _ HS1.out.2.1) HS6.out (Nat.zero_le _) H1d.out (by omega) rfl).mono ?_;rintro r w2 ⟨v,rfl,ho2,hr2,hg2⟩;obtain ⟨af,cf,rfl,_⟩:=ho2.is.form;obtain ⟨nf,hnf⟩:∃ nf,nf=f.length:=⟨_,rfl⟩;rw [←hnf] at ho2 ⊢;rw [Nat.zero_add] at hr2;have HNF:=hid hnf;have HS2:=hid (HS1.out.move hr2 hg2 (fun k hk=>.inl (by injection hk with hk;exact hk.symm)));obtain ⟨c0,c1,c2,z0,z1,z2⟩:=HS2.out.cells;have HO2:Hid (OB (w.heap.size+3) (.slice af nf cf) (.slice none 0 0) (.slice none 0 0) (.slice none 0 0) (.slice none 0 0) f [] [] [] [] w2):=hid ⟨ho2.mono HS1.out.2.2.2.2,fd _ _,dv _ _,hZ _ _,eK _ _⟩;have HS3:Hid (RS w s n (.slice af nf cf) (.slice none 0 0) (.slice none 0 0) (w2.setCell ⟨w.heap.size+2,0,none⟩ (.slice af nf cf))):=hid (HS2.out.put rfl);have HO3:=hid (HO2.out.keep (kK w2 (w.heap.size+2) 0 (.slice af nf cf)) (fun k hk=>by injection hk with hk;omega));clear hr2 hg2 ho2 hnf HO2;go_wp2_with fail
 refine (nz (w.heap.size+1) s n 0 m h _ HS3.out.1 (HEG.out _ HS3.out.2.1) HS6.out hn2 H2.out (by omega) rfl).mono ?_;rintro r w4 ⟨v,rfl,ho4,hr4,hg4⟩;obtain ⟨ah,ch,rfl,_⟩:=ho4.is.form;obtain ⟨nh,hnh⟩:∃ nh,nh=h.length:=⟨_,rfl⟩;rw [←hnh] at ho4 ⊢;rw [HA2.out] at hr4;have HNH:=hid hnh;have HS4:=hid (HS3.out.move hr4 hg4 (fun k hk=>.inl (by injection hk with hk;exact hk.symm)));have HO4a:=hid (HO3.out.keep hg4 (fun k hk=>by injection hk with hk;omega));have HO4:Hid (OB (w.heap.size+3) (.slice af nf cf) (.slice ah nh ch) (.slice none 0 0) (.slice none 0 0) (.slice none 0 0) f h [] [] [] w4):=hid ⟨HO4a.out.1,ho4.mono HS3.out.2.2.2.2,dv _ _,hZ _ _,eK _ _⟩;clear c0 c1 c2 z0 z1 z2 hr4 hg4 ho4 hnh HS2 HS3 HO3 HO4a;obtain ⟨c0,c1,c2,z0,z1,z2⟩:=HS4.out.cells;have HS5:Hid (RS w s a2 (.slice af nf cf) (.slice ah nh ch) (.slice none 0 0) (w4.setCell ⟨w.heap.size+2,1,none⟩ (.slice ah nh ch))):=hid (HS4.out.put rfl);have HO5:=hid (HO4.out.keep (kK w4 (w.heap.size+2) 1 (.slice ah nh ch)) (fun k hk=>by injection hk with hk;omega));go_wp2_with fail
 refine (EM (w.heap.size+1) s a2 _ HS5.out.1 (HEG.out _ HS5.out.2.1) HS6.out ha2s).mono ?_;rintro r w6 ⟨hg6,hc6⟩;rcases hc6 with ⟨x,p,hx,t,u,rfl,hne,hat⟩ | ⟨b,T,v,hx,rfl,ho6,hr6⟩
 ·have hres : unbF s.data.toList = .inl (x, (p : Int)) := by
   rcases Ff hx with ⟨k,j,hi,hx0,rfl⟩ | ⟨k,j,hi,hu⟩
   ·rw [←HA2.out];exact uZ HL.out H1.out H2.out (by rw [HA2.out];exact hi) hx0
   ·exact uY HL.out H1.out H2.out (by rw [HA2.out];exact hi) (by rw [HA2.out];exact hu)
  exact And.intro rfl ⟨HS5.out.got hg6,.inl ⟨x,p,hres,t,u,rfl,hne,hat⟩⟩
 obtain ⟨k1,j1,hi1,hu1⟩:=Fg hx;have hk60:=Ac hi1;have htl:=Fb _ _ _ _ _ hu1;have hts:=Fd _ _ _ _ _ (fun x hx=>by cases hx) hu1;have hbs:b≤s.size:=by
  obtain ⟨_,_,_,_,hb,_⟩:=uJ k1 _ _ _ _ (by rw [HSL.out];have:=hk60.2.1;rw [List.length_drop,HSL.out] at this;omega) hu1;rw [HSL.out] at hb;exact hb
 have hT60:T.length≤60:=by rw [htl];simp;omega
 have HI1:Hid (intL (s.data.toList.drop (n+m)) 60=(k1,j1,0)):=hid (by rw [HA2.out];exact hi1);have HU1:Hid (unT s.data.toList k1 (n+m+j1) []=.inr (b,T)):=hid (by rw [HA2.out];exact hu1);have HTS:=hid hts;obtain ⟨at_,ct,rfl,_,_⟩:=ho6.isTexts;obtain ⟨nt,hnt⟩:∃ nt,nt=T.length:=⟨_,rfl⟩;rw [←hnt] at ho6 hT60 ⊢;have HNT:=hid hnt;have HS6r:=hid (HS5.out.move hr6 hg6 (fun k hk=>.inl (by injection hk with hk;exact hk.symm)));have HO6a:=hid (HO5.out.keep hg6 (fun k hk=>by injection hk with hk;omega));have HO6:Hid (OB (w.heap.size+3) (.slice af nf cf) (.slice ah nh ch) (.slice at_ nt ct) (.slice none 0 0) (.slice none 0 0) f h T [] [] w6):=hid ⟨HO6a.out.1,HO6a.out.2.1,ho6.mono HS5.out.2.2.2.2,hZ _ _,eK _ _⟩;clear c0 c1 c2 z0 z1 z2 hx hg6 ho6 hr6 hi1 hu1 hk60 htl hts hnt HS4 HS5 HO4 HO5 HO6a;rcases ba (s.data.toList.drop b) 60 with ⟨e,h5,he,_⟩ | ⟨k2,j2,h5,hk2,_,hj10,hj2l,_⟩
 ·have HRES:=hid (ve HL.out H1.out H2.out HI1.out HU1.out h5 he);have H5:=hid h5;clear h5;go_wp2_with fail
  refine (jb (w.heap.size+1) s b e 60 _ HS6r.out.1 (HEG.out _ HS6r.out.2.1) HS6.out hbs (by decide) (by decide) H5.out he).mono ?_;rintro r w7 ⟨⟨t,u,rfl,hne,hat⟩,hg7⟩;exact And.intro rfl ⟨HS6r.out.got hg7,.inl ⟨e,b,HRES.out,t,u,rfl,hne,hat⟩⟩
 have H5:=hid h5;rw [List.length_drop,HSL.out] at hj2l;obtain ⟨b2,hb2⟩:∃ b2,b+j2=b2:=⟨_,rfl⟩;have hb2s:b2≤s.size:=by omega
 have HB2:=hid hb2;clear h5 hb2;go_wp2_with fail
 refine (jc (w.heap.size+1) s b k2 j2 60 _ HS6r.out.1 (HEG.out _ HS6r.out.2.1) HS6.out hbs (by decide) (by decide) H5.out (by omega)).mono ?_;rintro r w7 ⟨rfl,hr7,hg7⟩;rw [HB2.out] at hr7;have HS7:=hid (HS6r.out.move hr7 hg7 (fun k hk=>.inl (by injection hk with hk;exact hk.symm)));have HO7:=hid (HO6.out.keep hg7 (fun k hk=>by injection hk with hk;omega));have hnh16:nh≤16:=by rw [HNH.out];exact HRH.out.1
 clear hr7 hg7 HS6r HO6;go_wp2
 go_loopw [6,7,30] (fun vn av i wr=>∃ (j c:Nat) (A:Int) (W:List Wr) (N:List Nat) (vw:Value),j≤k2∧i=.int .i64 j∧av=.int .i64 A∧(0≤A∧A≤1099511627776)∧c≤s.size∧(W.length=j∧N.length=j)∧unW s.data.toList h T k2 b2 0 [] []=unW s.data.toList h T (k2-j) c A W N∧RS w s c (.slice af nf cf) (.slice ah nh ch) vw wr∧OB (w.heap.size+3) (.slice af nf cf) (.slice ah nh ch) (.slice at_ nt ct) vn vw f h T N W wr) (fun _ _ i _=>k2-(intOf i).toNat)
 case atStart=>exact ⟨0,b2,0,[],[],.slice none 0 0,Nat.zero_le _,rfl,rfl,⟨Int.le_refl _,by decide⟩,hb2s,⟨rfl,rfl⟩,rfl,HS7.out,HO7.out⟩
 case round =>
  obtain ⟨j,c,A,W,N,vw,hj,rfl,rfl,⟨hA0,hA1⟩,hcs,⟨hWl,hNl⟩,hres,hrs,hob⟩:=hrel;have HRS:=hid hrs;have HOB:=hid hob;have HRES:=hid hres;have HWL:=hid hWl;have HNL:=hid hNl;obtain ⟨an,cn,rfl,_,_⟩:=hob.2.2.2.1.isNums;obtain ⟨aw,cw,rfl,_⟩:=hob.2.2.2.2.is.form;rw [hWl] at HRS HOB;rw [List.length_map,hNl] at HOB ⊢;clear hrs hob hres hWl hNl;obtain ⟨c0,c1,c2,z0,z1,z2⟩:=HRS.out.cells;by_cases hlt:j<k2
  ·obtain ⟨q,hq⟩:∃ q,k2-j=q+1:=⟨k2-j-1,by omega⟩;rw [hq] at HRES;go_wp2_with fail
   refine (BD (w.heap.size+1) s c _ _ h T A wr HRS.out.1 (HEG.out _ HRS.out.2.1) hs2 hcs (HOB.out.2.1.mono (by omega)) (HOB.out.2.2.1.mono (by omega)) HRH.out.1 (by have:=HNT.out;omega) HTS.out hA0 hA1).mono ?_;rintro r w8 ⟨hg8,hc8⟩;rcases hc8 with ⟨x,p,hx,t,u,rfl,hne,hat⟩ | ⟨c',x,nn,hx,rfl,hr8⟩
   ·have hun:unbF s.data.toList=.inl (x,(p:Int)):=vd HL.out H1.out H2.out HI1.out HU1.out H5.out (by rw [HB2.out,HRES.out,uR hx]);exact And.intro rfl ⟨HRS.out.got hg8,.inl ⟨x,p,hun,t,u,rfl,hne,hat⟩⟩
   obtain ⟨_,hwx,hAx,hx40,_,_,_,hc's,_⟩:=uG HRH.out hx;rw [HSL.out] at hc's;have hf:=cL hwx;have HN:Hid (unW s.data.toList h T k2 b2 0 [] []=unW s.data.toList h T (k2-(j+1)) c' x.time (W++[x]) (N++[nn])):=hid (by rw [HRES.out,pa hx,show k2-(j+1)=q by omega]);have HXT:Hid (0≤x.time∧x.time≤1099511627776):=hid ⟨by omega,hx40⟩;have HS8:=hid (HRS.out.move hr8 hg8 (fun k hk=>.inl (by injection hk with hk;exact hk.symm)));have HO8:=hid (HOB.out.keep hg8 (fun k hk=>by injection hk with hk;omega));clear c0 c1 c2 z0 z1 z2 hr8 hg8 hx hwx hAx hx40 hf HRS HOB;obtain ⟨Ti,Rp,K,key,val,Nn⟩:=x;dsimp only at HN HXT ⊢
   have HX8:Hid (cU (w8.alloc (.cells #[.int .i64 Ti,.int .i64 Rp,.int .i64 K,.string key,.string val,.int .i64 Nn] 38)) w8.heap.size ⟨Ti,Rp,K,key,val,Nn⟩):=hid (heap_alloc_new w8 _);have HX9:Hid (cU ((w8.alloc (.cells #[.int .i64 Ti,.int .i64 Rp,.int .i64 K,.string key,.string val,.int .i64 Nn] 38)).alloc (.cells #[.int .i64 Ti,.int .i64 Rp,.int .i64 K,.string key,.string val,.int .i64 Nn] 38)) (w8.heap.size+1) ⟨Ti,Rp,K,key,val,Nn⟩):=hid (by
    have h:=heap_alloc_new (w8.alloc (.cells #[.int .i64 Ti,.int .i64 Rp,.int .i64 K,.string key,.string val,.int .i64 Nn] 38)) (.cells #[.int .i64 Ti,.int .i64 Rp,.int .i64 K,.string key,.string val,.int .i64 Nn] 38);rw [World.size_alloc] at h;exact h)
   obtain ⟨c0,c1,c2,z0,z1,z2⟩:=(HS8.out.alloc (.cells #[.int .i64 Ti,.int .i64 Rp,.int .i64 K,.string key,.string val,.int .i64 Nn] 38)).cells;have HSA:=hid ((HS8.out.alloc (.cells #[.int .i64 Ti,.int .i64 Rp,.int .i64 K,.string key,.string val,.int .i64 Nn] 38)).alloc (.cells #[.int .i64 Ti,.int .i64 Rp,.int .i64 K,.string key,.string val,.int .i64 Nn] 38));have HOA:=hid ((HO8.out.alloc (.cells #[.int .i64 Ti,.int .i64 Rp,.int .i64 K,.string key,.string val,.int .i64 Nn] 38)).alloc (.cells #[.int .i64 Ti,.int .i64 Rp,.int .i64 K,.string key,.string val,.int .i64 Nn] 38));go_wp2_with (at_builtin;refine jE rfl _ _ rfl (w.heap.size+3) _ W rfl HOA.out.2.2.2.2 (w8.heap.size+1) 1 rfl ⟨Ti,Rp,K,key,val,Nn⟩ HX9.out ?c6 ?c7 ?_)
   case c6=>have:=HWL.out;omega
   case c7=>have:=HS8.out.2.2.2.2;simp;omega
   intro g cap w10 ho10 hg10;have HWL2:Hid (W.length+1=j+1):=hid (by rw [HWL.out]);rw [HWL2.out] at ho10 ⊢;have hrow10:∀ k,(Value.slice aw j cw).ownBlock=some k→w.heap.size+3≤k∧k<w8.heap.size:=fun k hk=>HO8.out.2.2.2.2.lt k hk
   have HS10:=hid (HSA.out.step hg10 (fun k hk=>(hrow10 k hk).1));have HO10:=hid (HOA.out.writes ho10 hg10);have hx10:w10.heap[w8.heap.size]? = some (.cells #[.int .i64 Ti,.int .i64 Rp,.int .i64 K,.string key,.string val,.int .i64 Nn] 38 (0,0)):=(hg10.block _ (by simp;omega) (fun e=>by have:=(hrow10 _ e.symm).2;omega)).trans ((Below.heap_alloc _ _ _ (by simp)).trans HX8.out);have HX10:=hid hx10;have h810:w8.heap.size<w10.heap.size:=(Array.getElem?_eq_some_iff.1 hx10).1;obtain ⟨e0,e1,e2,y0,y1,y2⟩:=HS10.out.cells;have HS11:Hid (RS w s c' (.slice af nf cf) (.slice ah nh ch) (.slice (some ⟨g,0,none⟩) (j+1) cap) (w10.setCell ⟨w.heap.size+2,2,none⟩ (.slice (some ⟨g,0,none⟩) (j+1) cap))):=hid (HS10.out.put rfl);have HO11:=hid (HO10.out.keep (kK w10 (w.heap.size+2) 2 (.slice (some ⟨g,0,none⟩) (j+1) cap)) (fun k hk=>by injection hk with hk;omega));have h88:w.heap.size+3≤w8.heap.size:=HS8.out.2.2.2.2;have HX11:=hid (dd (o:=2) (R:=w.heap.size+2) hx10 (by omega) (.slice (some ⟨g,0,none⟩) (j+1) cap));clear ho10 hg10 hx10 c0 c1 c2 z0 z1 z2 HX8 HX9 HSA HOA HS8 HO8 hrow10;go_wp2_with (at_builtin;refine mg rfl _ _ rfl (w.heap.size+3) _ N rfl (HO11.out.2.2.2.1.alloc _) ⟨w10.heap.size,0,none⟩ 1 rfl nn ?c8 ?c9 ?c10 ?_)
   case c8=>rw [show (⟨w10.heap.size,0,none⟩:Addr).add 0=⟨w10.heap.size,0,none⟩ by simp [Addr.add]];exact yh (by simp)
   case c9=>have:=HNL.out;omega
   case c10=>have:=HS10.out.2.2.2.2;simp;omega
   intro g2 cap2 w12 ho12 hg12;have HNL2:Hid (N.length+1=j+1):=hid (by rw [HNL.out]);rw [HNL2.out] at ho12 ⊢;have hgA:(w10.setCell ⟨w.heap.size+2,2,none⟩ (.slice (some ⟨g,0,none⟩) (j+1) cap)).grownBy w12 (Value.slice an j cn).ownBlock:=⟨hg12.os,hg12.tape,hg12.output,Nat.le_trans (by simp) hg12.size,fun k hk hne=>(hg12.block k (by simp at hk ⊢;omega) hne).trans (Below.heap_alloc _ _ _ hk)⟩;have hrow12:∀ k,(Value.slice an j cn).ownBlock=some k→w.heap.size+3≤k:=fun k hk=>(HO11.out.2.2.2.1.lt k hk).1
   have HS12:=hid (HS11.out.step hgA hrow12);have HO12:=hid (HO11.out.numbers ho12 hgA);have hxr:w12.heap[w8.heap.size]? = some (.cells #[.int .i64 Ti,.int .i64 Rp,.int .i64 K,.string key,.string val,.int .i64 Nn] 38 (0,0)):=(hgA.block _ (by simp;omega) (fun e=>by
    rcases HO11.out.2.2.2.1.2 with ⟨hv,_⟩ | ⟨g',_,_,hv,_,hh',_⟩
    ·rw [hv] at e;cases e
    ·rw [hv] at e;have e2:w8.heap.size=g':=by simpa [Value.ownBlock] using e
     rw [←e2,HX11.out] at hh';injection hh' with hh'
     injection hh' with _ ht
     exact absurd ht (by decide))).trans HX11.out
   have f0:w12.cell? ⟨w8.heap.size,0,none⟩=some (.int .i64 Ti):=cell_of_row _ _ 0 _ _ _ hxr;clear ho12 hg12 hgA hrow12 hxr e0 e1 e2 y0 y1 y2;go_wp2;go_roundw
   case rel=>exact ⟨j+1,c',Ti,_,_,_,by omega,by go_num,rfl,HXT.out,hc's,⟨by rw [List.length_append,HWL.out];rfl,by rw [List.length_append,HNL.out];rfl⟩,HN.out,HS12.out,HO12.out⟩
   case measure=>simp [intOf];omega
  ·have hjk:k2-j=0:=by omega
   have HUW:Hid (unW s.data.toList h T k2 (b+j2) 0 [] []=.inr (c,W,N)):=hid (by rw [HB2.out,HRES.out,hjk];rfl);obtain ⟨W1',N1',hWe,hNe,_,hrow,_,hcl,_⟩:=uS HRH.out k2 _ _ _ _ _ _ _ (by rw [HSL.out,HB2.out];exact hb2s) HUW.out;rw [List.nil_append] at hWe hNe;subst hWe;subst hNe;have HWO:Hid (∀ t∈W,WrOk t):=hid (fun t ht=>(cL (BV _ _ _ hrow t ht)).2.2.2.2.2.2.2.2.2);have HREST:=hid (pc HL.out H1.out H2.out HI1.out HU1.out H5.out HUW.out);obtain ⟨_,k1',_,_⟩:=HRS.out.1.cells;clear hrow hcl hjk;by_cases hcs2:c<s.size
   ·have hres:unbF s.data.toList=.inl (3,(c:Int)):=by rw [HREST.out,if_pos (by rw [HSL.out];exact hcs2)]
    have d2:(c:Int)<(s.size:Int):=by omega
    go_wp2_with fail
    refine (fs (w.heap.size+1) s c _ 3 wr HRS.out.1 (HEG.out _ HRS.out.2.1) (.inl rfl) (by decide)).mono ?_;rintro r w8 ⟨⟨t,u,rfl,hne,hat⟩,hb8⟩;exact And.intro rfl ⟨HRS.out.2.1.trans (hb8.mono HRS.out.2.1.size),.inl ⟨3,c,hres,t,u,rfl,hne,hat⟩⟩
   ·have hce:c=s.size:=by omega
    subst hce;have hrest2:unbF s.data.toList=if (bC T (N.map Int.ofNat)).2.1≠0 then .inl ((bC T (N.map Int.ofNat)).2.1,(s.size:Int)) else if (batF f h W).1≠0 then .inl ((batF f h W).1,(s.size:Int)) else .inr (f,h,W):=by
     rw [HREST.out,if_neg (by rw [HSL.out];omega),HSL.out]
    obtain ⟨lr,le,lp,hlf⟩:∃ lr le lp,bC T (N.map Int.ofNat)=(lr,le,lp):=⟨_,_,_,rfl⟩;rw [hlf] at hrest2;simp only at hrest2
    have HR2:=hid hrest2;have HLF:=hid hlf;clear hrest2 hlf;go_wp2_with fail
    refine (Ax _ _ T (N.map Int.ofNat) wr HOB.out.2.2.1.isTexts HOB.out.2.2.2.1.isNums (by have:=HNT.out;omega) (by rw [List.length_map,HNL.out];omega) (fun x hx=>Nat.le_trans (HTS.out x hx) (by decide))).mono ?_;rintro r w8 ⟨vl,err,rfl,hol,hae,hb8⟩;rw [HLF.out] at hol hae;simp only at hol hae
    have HS8:=hid (HRS.out.below hb8);have HO8:=hid (HOB.out.below hb8);obtain ⟨al,cl,rfl,_,_⟩:=hol.isTexts;by_cases hle:le=0
    ·subst hle;obtain rfl:=hae.nil rfl;rw [if_neg (by simp)] at HR2;clear hol hae hb8 c0 c1 c2 z0 z1 z2 k1';obtain ⟨c0,c1,c2,z0,z1,z2⟩:=HS8.out.cells;have HBT:Hid (∀ w',OB (w.heap.size+3) (.slice af nf cf) (.slice ah nh ch) (.slice at_ nt ct) (.slice an j cn) (.slice aw j cw) f h T N W w'→aC w' (.slice af nf cf) (.slice ah nh ch) (.slice aw j cw) f h W):=hid (fun w' ho=>⟨ho.1.is,ho.2.1.is,ho.2.2.2.2.is,by have:=HRF.out.1;omega,by have:=HRH.out.1;omega,by have:=HWL.out;omega,HWO.out⟩);obtain ⟨be,bp,hbf⟩:∃ be bp,batF f h W=(be,bp):=⟨_,_,rfl⟩;rw [hbf] at HR2;have HBF:=hid hbf;clear hbf;go_wp2_with fail
     refine (ft (w.heap.size+1) w8).mono ?_;rintro r w' ⟨rfl,rfl⟩;go_wp2_with fail
     refine (iC _ _ _ f h W be bp w8 (HBT.out _ HO8.out) (HEG.out _ HS8.out.2.1) HBF.out).mono ?_;rintro r w9 ⟨err,rfl,hat,hb9⟩;have HS9:=hid (HS8.out.below hb9);have HO9:=hid (HO8.out.below hb9);by_cases hbe:be=0
     ·subst hbe;obtain rfl:=hat.nil rfl;have hres:unbF s.data.toList=.inr (f,h,W):=by rw [HR2.out,if_neg (by simp)]
      have HRES3:=hid hres;have HROWA:=hid HS9.out.2.2.2.1;have HI:Hid ((Tryz.prog.info? 47).map (·.size)=some (#[.slice af nf cf,.slice ah nh ch,.slice aw j cw]:Array Value).size):=hid pZ;have HRA:=hid (cA HS9.out.2.2.2.1 #[.slice af nf cf,.slice ah nh ch,.slice aw j cw]);have HOA:=hid (HO9.out.keep (kJ w9 w.heap.size #[.slice af nf cf,.slice ah nh ch,.slice aw j cw]) (fun k hk=>by injection hk with hk;omega));have HBA:=hid (dQ HS9.out.2.1 (Nat.le_refl _) #[.slice af nf cf,.slice ah nh ch,.slice aw j cw]);have HONE:Hid ((#[.slice af nf cf,.slice ah nh ch,.slice aw j cw]:Array Value).all (·.oneCell')=true):=hid (by simp [Value.oneCell']);have HSAME:Hid ((#[.slice none 0 0,.slice none 0 0,.slice none 0 0]:Array Value).size=(#[.slice af nf cf,.slice ah nh ch,.slice aw j cw]:Array Value).size):=hid rfl;clear hat hb9 c0 c1 c2 z0 z1 z2;obtain ⟨c0,c1,c2,z0,z1,z2⟩:=HS9.out.cells;go_wp2_with fail
      refine (ft (w.heap.size+1) w9).mono ?_;rintro r w' ⟨rfl,rfl⟩;go_wp2_with (with_reducible refine wpList_store_row rfl _ _ _ rfl _ _ rfl rfl _ _ HROWA.out HI.out HSAME.out HONE.out ?_)
      have g0:=cell_of_row _ _ 0 _ _ _ HRA.out;have g1:=cell_of_row _ _ 1 _ _ _ HRA.out;have g2:=cell_of_row _ _ 2 _ _ _ HRA.out;refine bodyPost_ret (v:=.agg #[.slice af nf cf,.slice ah nh ch,.slice aw j cw]) (by simp [results,Tryz.results159,go_sem,g0,g1,g2]) rfl ?_;exact ⟨HBA.out,.inr ⟨f,h,W,_,_,_,HRES3.out,rfl,HOA.out.1.mono (by omega),HOA.out.2.1.mono (by omega),HOA.out.2.2.2.2.mono (by omega),HRF.out.1,HRH.out.1,by have:=HWL.out;omega,HWO.out⟩⟩
     ·obtain ⟨t0,u0,rfl⟩:=hat.iface hbe;have hise:=hat.isErr hbe;have hres:unbF s.data.toList=.inl (be,(s.size:Int)):=by rw [HR2.out,if_pos hbe]
      have HISE:=hid hise;clear hat hb9 hise;go_wp2_with fail
      refine (fs (w.heap.size+1) s s.size _ be w9 HS9.out.1 (HEG.out _ HS9.out.2.1) HISE.out hbe).mono ?_;rintro r w10 ⟨⟨t,u,rfl,hne,hat⟩,hb10⟩;exact And.intro rfl ⟨HS9.out.2.1.trans (hb10.mono HS9.out.2.1.size),.inl ⟨be,s.size,hres,t,u,rfl,hne,hat⟩⟩
    ·obtain ⟨t0,u0,rfl⟩:=hae.iface hle;have hise:=hae.isErr hle;have hres:unbF s.data.toList=.inl (le,(s.size:Int)):=by rw [HR2.out,if_pos hle]
     have HISE:=hid hise;clear hae hb8 hise hol;go_wp2_with fail
     refine (fs (w.heap.size+1) s s.size _ le w8 HS8.out.1 (HEG.out _ HS8.out.2.1) HISE.out hle).mono ?_;rintro r w10 ⟨⟨t,u,rfl,hne,hat⟩,hb10⟩;exact And.intro rfl ⟨HS8.out.2.1.trans (hb10.mono HS8.out.2.1.size),.inl ⟨le,s.size,hres,t,u,rfl,hne,hat⟩⟩
end
