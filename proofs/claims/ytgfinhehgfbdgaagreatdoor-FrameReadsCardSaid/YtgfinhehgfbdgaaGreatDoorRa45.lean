import Derived.Test.YtgfinhehgfbdgaaGreatDoorRa44
import Derived.Test.YtgfinhehgfbdgaaGreatDoorRa25
namespace Go.Proofs.YtgfinhehgfbdgaaGreatDoor
open Go.RowKit
def RUnbodyIs (w:World) (s:List UInt8) (e:Ending) (w':World):Prop :=
 Below w.heap.size w w'∧((∃ x pl,unbF s=.inl (x,pl)∧e=.returned (.tuple #[.agg #[.slice none 0 0,.slice none 0 0,.slice none 0 0],.agg #[.int .i64 (x:Nat),.int .i64 pl]])) ∨
   ∃ f h l vf vh vw,unbF s=.inr (f,h,l)∧e=.returned (.tuple #[.agg #[vf,vh,vw],.agg #[.int .i64 0,.int .i64 (-1)]])∧BatOwn w' w.heap.size vf vh vw f h l)
def UD (w W:World) (vf vh vw:Value) (x pl:Int):Prop :=
 W.heap[w.heap.size]? = some (.cells #[vf,vh,vw] 25 (0,0))∧W.heap[w.heap.size+1]? = some (.cells #[.int .i64 x,.int .i64 pl] 29 (0,0))∧Below w.heap.size w W∧w.heap.size+2≤W.heap.size
theorem UD.cells {w W:World} {vf vh vw:Value} {x pl:Int} (h:UD w W vf vh vw x pl) :
   (W.cell? ⟨w.heap.size,0,none⟩=some vf∧W.cell? ⟨w.heap.size,1,none⟩=some vh∧W.cell? ⟨w.heap.size,2,none⟩=some vw)∧(W.cell? ⟨w.heap.size+1,0,none⟩=some (.int .i64 x)∧W.cell? ⟨w.heap.size+1,1,none⟩=some (.int .i64 pl)) ∧
     (W.frozen? ⟨w.heap.size,0,none⟩=false∧W.frozen? ⟨w.heap.size,1,none⟩=false∧W.frozen? ⟨w.heap.size,2,none⟩=false)∧W.frozen? ⟨w.heap.size+1,0,none⟩=false∧W.frozen? ⟨w.heap.size+1,1,none⟩=false:=by
 obtain ⟨h1,h2,_⟩:=h;exact ⟨⟨cell_of_row _ _ 0 _ _ (0,0) h1,cell_of_row _ _ 1 _ _ (0,0) h1,cell_of_row _ _ 2 _ _ (0,0) h1⟩,⟨cell_of_row _ _ 0 _ _ (0,0) h2,cell_of_row _ _ 1 _ _ (0,0) h2⟩,⟨Lib.frozen_of_heap h1 0,Lib.frozen_of_heap h1 1,Lib.frozen_of_heap h1 2⟩,Lib.frozen_of_heap h2 0,Lib.frozen_of_heap h2 1⟩
theorem UD.kept {w W W2:World} {vf vh vw:Value} {x pl:Int} {row:Option Nat} (h:UD w W vf vh vw x pl) (hg:W.grownBy W2 row) (hr:∀ k,row=some k→w.heap.size+2≤k):UD w W2 vf vh vw x pl:=by
 obtain ⟨h1,h2,h4,h5⟩:=h;have ne:∀ k,k<w.heap.size+2→some k≠row:=fun k hk e=>by have:=hr k e.symm;omega
 exact ⟨(hg.block _ (by omega) (ne _ (by omega))).trans h1,(hg.block _ (by omega) (ne _ (by omega))).trans h2,h4.grown hg (by omega) (fun k hk=>by have:=hr k hk;omega),Nat.le_trans h5 hg.size⟩
theorem UD.put {w W:World} {vf vh vw uf uh uw v:Value} {x pl:Int} {o:Nat} (h:UD w W vf vh vw x pl) (hs:(#[vf,vh,vw]:Array Value).setIfInBounds o v=#[uf,uh,uw]):UD w (W.setCell ⟨w.heap.size,o,none⟩ v) uf uh uw x pl:=by
 obtain ⟨h1,h2,h4,h5⟩:=h;exact ⟨by rw [heap_setCell_same _ _ _ _ _ _ h1,hs],row_setCell h2 (by omega) v,h4.setCell (Nat.le_refl _) _,by simpa using h5⟩
theorem UD.row {w W:World} {vf vh vw uf uh uw:Value} {x pl:Int} (h:UD w W vf vh vw x pl):UD w (W.setRow w.heap.size #[uf,uh,uw]) uf uh uw x pl:=by
 obtain ⟨h1,h2,h4,h5⟩:=h;exact ⟨row_set h1 _,row_setRow h2 (by omega),below_row h4 (Nat.le_refl _) _,by simpa [World.setRow] using h5⟩
theorem UD.fault {w W:World} {vf vh vw:Value} {x pl:Int} (h:UD w W vf vh vw x pl) (e p:Int):UD w ((W.setCell ⟨w.heap.size+1,0,none⟩ (.int .i64 e)).setCell ⟨w.heap.size+1,1,none⟩ (.int .i64 p)) vf vh vw e p:=by
 obtain ⟨h1,h2,h4,h5⟩:=h;exact ⟨row_setCell (row_setCell h1 (by omega) _) (by omega) _,rowF.put (F:=w.heap.size+1) h2 e p,below_put h4 (Nat.le_succ _) _ _,by simpa using h5⟩
set_option maxRecDepth 100000 in
theorem ureset_good (F O:Nat) (pl:Int) (u:FrameMode) (w:World) (c0:w.cell? ⟨F,0,none⟩=some (.int .i64 0)) (c1:w.cell? ⟨F,1,none⟩=some (.int .i64 pl)) :
   CallsD Tryz.prog 87 #[.pointer (some ⟨F,0,none⟩),.pointer (some ⟨O,0,none⟩)] u w fun r u' w'=>u'=u∧(r=.returned (.tuple #[])∧Below w.heap.size w w'):=by
 go_enter_d Tryz.func87,Tryz.ntmps87
 go_wp2_with fail
 refine (is_any 0 pl _).mono ?_;rintro r w1 ⟨rfl,hb1⟩;have HB1:=Lib.hid hb1;clear hb1;go_wp2
 go_end0
 exact ⟨rfl,HB1.out⟩
set_option maxRecDepth 100000 in
theorem ureset_bad (F O:Nat) (e pl:Int) (vf vh vw:Value) (u:FrameMode) (w:World) (he:(e == 0)=false) (c0:w.cell? ⟨F,0,none⟩=some (.int .i64 e)) (c1:w.cell? ⟨F,1,none⟩=some (.int .i64 pl)) (hO:O<w.heap.size) (hrow:w.heap[O]? = some (.cells #[vf,vh,vw] 25 (0,0))) :
   CallsD Tryz.prog 87 #[.pointer (some ⟨F,0,none⟩),.pointer (some ⟨O,0,none⟩)] u w fun r u' w'=>u'=u∧(r=.returned (.tuple #[])∧∃ w1,Below w.heap.size w w1∧w'=w1.setRow O #[.slice none 0 0,.slice none 0 0,.slice none 0 0]):=by
 go_enter_d Tryz.func87,Tryz.ntmps87
 go_wp2_with fail
 refine (is_any e pl _).mono ?_;rintro r w1 ⟨rfl,hb1⟩;rw [he];have HROW:=Lib.hid ((hb1.block O hO).trans hrow);have HI:=Lib.hid (bat_sized (.slice none 0 0) (.slice none 0 0) (.slice none 0 0));have HONE:=Lib.hid (bat_ones none none none 0 0 0 0 0 0);have HSAME:=Lib.hid (bat_same vf vh vw (.slice none 0 0) (.slice none 0 0) (.slice none 0 0));have HB1:=Lib.hid hb1;clear hb1 hrow;go_wp2_with (with_reducible refine wpList_store_row rfl _ _ _ rfl _ _ rfl rfl _ _ HROW.out HI.out HSAME.out HONE.out ?_)
 go_end0
 exact ⟨rfl,w1,HB1.out,rfl⟩
def udoor (w:World):List Deferred :=
 [{ target:=.fn (Fn.func 88) #[],args:=#[.pointer (some ⟨w.heap.size+1,0,none⟩)] },
   { target:=.fn (Fn.func 87) #[.pointer (some ⟨w.heap.size+1,0,none⟩),.pointer (some ⟨w.heap.size,0,none⟩)],args:=#[] }]
set_option maxRecDepth 100000 in
set_option maxHeartbeats 1000000 in
theorem udoor_bad {w W:World} {vf vh vw:Value} {s:List UInt8} (e:Nat) (pl:Int) (h:UD w W vf vh vw 0 (-1)) (he:e≠0) (hrd:unbF s=.inl (e,pl)) (tmps:Array Value)
   (t2:tmps[2]? = some (.pointer (some ⟨w.heap.size,0,none⟩))) (t3:tmps[3]? = some (.pointer (some ⟨w.heap.size+1,0,none⟩))) :
   Leaves Tryz.prog Tryz.f47 tmps (RUnbodyIs w s) (udoor w) (.panicking [{ v:=.iface 190 (.agg #[.int .i64 (e:Int),.int .i64 pl]),recovered:=false }]) W:=by
 obtain ⟨_,⟨c0,c1⟩,_,z0,z1⟩:=h.cells;have hz:=h.2.2.2;have hbe:((e:Int) == 0)=false:=by simp;omega
 obtain ⟨W2,hW2⟩:∃ W2,(W.setCell ⟨w.heap.size+1,0,none⟩ (.int .i64 (e:Int))).setCell ⟨w.heap.size+1,1,none⟩ (.int .i64 pl)=W2:=⟨_,rfl⟩;have h2:UD w W2 vf vh vw e pl:=by rw [←hW2];exact h.fault e pl
 obtain ⟨W3,hW3⟩:∃ W3,W2.alloc (.cells #[.int .i64 (e:Int),.int .i64 pl] 190)=W3:=⟨_,rfl⟩;have h3:UD w W3 vf vh vw e pl:=by rw [←hW3];exact h2.kept (World.grownBy_alloc W2 _ none) (fun k hk=>by cases hk)
 have hz3:=h3.2.2.2;obtain ⟨_,⟨p2,p3⟩,_⟩:=h3.cells;unfold udoor;refine leaves_cons (f:=88) (args:=#[.pointer (some ⟨w.heap.size+1,0,none⟩)]) (by simp) (by simp [go_sem]) ?_;refine (caught_pan (w.heap.size+1) e pl 0 (-1) [] W (by omega) c0 c1 z0 z1).mono ?_;rintro r u' w2 ⟨rfl,rfl,rfl⟩;rw [hW2,hW3];refine leaves_cons (f:=87) (args:=#[.pointer (some ⟨w.heap.size+1,0,none⟩),.pointer (some ⟨w.heap.size,0,none⟩)]) (by simp [settle]) (by simp [go_sem]) ?_;refine (ureset_bad (w.heap.size+1) w.heap.size e pl vf vh vw _ _ hbe p2 p3 (by omega) h3.1).mono ?_;rintro r u' w4 ⟨rfl,rfl,w5,hb5,rfl⟩;have h6:=(h3.kept (grown_b hb5) (fun k hk=>by cases hk)).row (uf:=.slice none 0 0) (uh:=.slice none 0 0) (uw:=.slice none 0 0);obtain ⟨⟨q0,q1,q2⟩,⟨v2,v3⟩,_⟩:=h6.cells;exact ⟨.tuple #[.agg #[.slice none 0 0,.slice none 0 0,.slice none 0 0],.agg #[.int .i64 (e:Int),.int .i64 pl]],by simp [results,Tryz.results47,go_sem,t2,t3,q0,q1,q2,v2,v3],h6.2.2.1,.inl ⟨e,pl,hrd,rfl⟩⟩
set_option maxRecDepth 100000 in
set_option maxHeartbeats 1000000 in
theorem udoor_good {w W:World} {vf vh vw:Value} {f h:List Ent} {l:List Wr} {s:List UInt8} (hd:UD w W vf vh vw 0 (-1)) (ho:BatOwn W (w.heap.size+2) vf vh vw f h l) (hrd:unbF s=.inr (f,h,l)) (tmps:Array Value)
   (t2:tmps[2]? = some (.pointer (some ⟨w.heap.size,0,none⟩))) (t3:tmps[3]? = some (.pointer (some ⟨w.heap.size+1,0,none⟩))) :
   Leaves Tryz.prog Tryz.f47 tmps (RUnbodyIs w s) (udoor w) .returning W:=by
 obtain ⟨_,⟨c0,c1⟩,_⟩:=hd.cells;unfold udoor;refine leaves_cons (f:=88) (args:=#[.pointer (some ⟨w.heap.size+1,0,none⟩)]) (by simp) (by simp [go_sem]) ?_;refine (caught_idle _ W).mono ?_;rintro r u' w2 ⟨rfl,rfl,rfl⟩;refine leaves_cons (f:=87) (args:=#[.pointer (some ⟨w.heap.size+1,0,none⟩),.pointer (some ⟨w.heap.size,0,none⟩)]) (by simp [settle]) (by simp [go_sem]) ?_;refine (ureset_good (w.heap.size+1) w.heap.size (-1) _ _ c0 c1).mono ?_;rintro r u' w3 ⟨rfl,rfl,hb3⟩;have h3:=hd.kept (grown_b hb3) (fun k hk=>by cases hk);obtain ⟨⟨q0,q1,q2⟩,⟨v2,v3⟩,_⟩:=h3.cells;exact ⟨.tuple #[.agg #[vf,vh,vw],.agg #[.int .i64 0,.int .i64 (-1)]],by simp [results,Tryz.results47,go_sem,t2,t3,q0,q1,q2,v2,v3],h3.2.2.1,.inr ⟨f,h,l,vf,vh,vw,hrd,rfl,(ho.keep (grown_b hb3) (fun k hk=>by cases hk)).mono (by omega)⟩⟩
end Go.Proofs.YtgfinhehgfbdgaaGreatDoor
namespace Go.Proofs.YtgfinhehgfbdgaaGreatDoor
open Go.RowKit
def US (w:World) (R:Nat) (s:ByteArray) (a:Nat) (vf vh vt vn vw:Value) (f h:List Ent) (T:List ByteArray) (N:List Nat) (W:List Wr) (wr:World):Prop :=
 UD w wr vf vh vw 0 (-1)∧Sc wr R s a∧OB (R+2) vf vh vt vn vw f h T N W wr∧w.heap.size+2≤R∧R+2≤wr.heap.size
section
variable {w wr w':World} {R a b:Nat} {s:ByteArray} {vf vh vt vn vw:Value} {f h:List Ent} {T:List ByteArray} {N:List Nat} {W:List Wr}
theorem US.next (u:US w R s a vf vh vt vn vw f h T N W wr) (hs:Sc w' R s b) (hg:wr.grownBy w' (some R)):US w R s b vf vh vt vn vw f h T N W w' :=
 ⟨u.1.kept hg (fun k hk=>by injection hk with hk;have:=u.2.2.2.1;omega),hs,u.2.2.1.keep hg (fun k hk=>by injection hk with hk;omega),u.2.2.2.1,Nat.le_trans u.2.2.2.2 hg.size⟩
theorem US.below (u:US w R s a vf vh vt vn vw f h T N W wr) (hb:Below wr.heap.size wr w'):US w R s a vf vh vt vn vw f h T N W w' :=
 ⟨u.1.kept (row:=none) ⟨hb.os,hb.tape,hb.output,hb.size,fun k hk _=>hb.block k hk⟩ (fun k hk=>by cases hk),u.2.1.kept (row:=none) ⟨hb.os,hb.tape,hb.output,hb.size,fun k hk _=>hb.block k hk⟩ (by simp),u.2.2.1.below hb,u.2.2.2.1,Nat.le_trans u.2.2.2.2 hb.size⟩
theorem US.alloc (u:US w R s a vf vh vt vn vw f h T N W wr) (o:Obj):US w R s a vf vh vt vn vw f h T N W (wr.alloc o):=u.below ((Below.refl _ _).alloc (Nat.le_refl _) o)
theorem US.drew (u:US w R s a vf vh vt vn vw f h T N W wr):US w R s a vf vh vt vn vw f h T N W wr.drew:=u.below (Below.refl _ _).drew
theorem US.go (u:US w R s a vf vh vt vn vw f h T N W wr):US w R s b vf vh vt vn vw f h T N W (wr.setCell ⟨R,1,none⟩ (.int .i64 (b:Int))) :=
 u.next u.2.1.moved (grown_setQ wr R 1 _)
theorem own_noU {B X k n:Nat} {e t:TypeId} {v:Value} {xs:List Value} {cs:Array Value} {fr:Nat×Nat} (ho:wr.ownsRow B e k v n xs) (hX:wr.heap[X]? = some (.cells cs t fr)) (hne:e≠t):v.ownBlock≠some X:=by
 rcases ho.2 with ⟨rfl,_⟩ | ⟨g,cap,cur,rfl,_,hh,_⟩
 · simp [Value.ownBlock]
 · intro e';have:g=X:=by simpa [Value.ownBlock] using e'
   subst this;rw [hX] at hh;injection hh with hh
   injection hh with _ ht
   exact hne ht.symm
theorem own_setU {X o B k n:Nat} {e:TypeId} {v x:Value} {xs:List Value} (ho:wr.ownsRow B e k v n xs) (hne:v.ownBlock≠some X):(wr.setCell ⟨X,o,none⟩ x).ownsRow B e k v n xs :=
 World.ownsRow.kept ho (grown_setQ wr X o x) (by
   cases hv:v.ownBlock with
   | none=>exact .inl rfl
   | some g=>exact .inr (by rw [←hv];exact hne))
theorem US.store {X o:Nat} {x:Value} {cs:Array Value} (u:US w R s a vf vh vt vn vw f h T N W wr) (hX:wr.heap[X]? = some (.cells cs 61 (0,0))) (hXR:R+2≤X) (hne:vw.ownBlock≠some X) :
   US w R s a vf vh vt vn vw f h T N W (wr.setCell ⟨X,o,none⟩ x):=by
 obtain ⟨u1,u2,⟨o1,o2,o3,o4,o5⟩,u4,u5⟩:=u;refine ⟨u1.kept (grown_setQ wr X o x) (fun k hk=>by injection hk with hk;omega),u2.kept (grown_setQ wr X o x) (by simp;omega),⟨own_setU o1 (own_noU o1 hX (by decide)),own_setU o2 (own_noU o2 hX (by decide)),own_setU o3 (own_noU o3 hX (by decide)),own_setU o4 (own_noU o4 hX (by decide)),own_setU o5 hne⟩,u4,by simpa using u5⟩
theorem US.from {v:Value} {l:List Ent} (u:US w R s a vf vh vt vn vw f h T N W wr) (hv:ownsE wr (R+2) v l):US w R s a v vh vt vn vw l h T N W (wr.setCell ⟨w.heap.size,0,none⟩ v):=by
 obtain ⟨u1,u2,⟨o1,o2,o3,o4,o5⟩,u4,u5⟩:=u;have hg:=grown_setQ wr w.heap.size 0 v;exact ⟨u1.put rfl,u2.kept hg (by simp;omega),OB.keep (row:=some w.heap.size) ⟨hv,o2,o3,o4,o5⟩ hg (fun k hk=>by injection hk with hk;omega),u4,by simpa using u5⟩
theorem US.have {v:Value} {l:List Ent} (u:US w R s a vf vh vt vn vw f h T N W wr) (hv:ownsE wr (R+2) v l):US w R s a vf v vt vn vw f l T N W (wr.setCell ⟨w.heap.size,1,none⟩ v):=by
 obtain ⟨u1,u2,⟨o1,o2,o3,o4,o5⟩,u4,u5⟩:=u;have hg:=grown_setQ wr w.heap.size 1 v;exact ⟨u1.put rfl,u2.kept hg (by simp;omega),OB.keep (row:=some w.heap.size) ⟨o1,hv,o3,o4,o5⟩ hg (fun k hk=>by injection hk with hk;omega),u4,by simpa using u5⟩
theorem own_far {v:Value} {B k n:Nat} {e:TypeId} {xs:List Value} (ho:wr.ownsRow B e k v n xs):∀ j,v.ownBlock=some j→B≤j:=fun j hj=>(World.ownsRow.lt ho j hj).1
theorem US.texts {v:Value} {T':List ByteArray} (u:US w R s a vf vh vt vn vw f h T N W wr) (hn:ownsS w' (R+2) v T') (hg:wr.grownBy w' vt.ownBlock):US w R s a vf vh v vn vw f h T' N W w':=by
 obtain ⟨u1,u2,⟨o1,o2,o3,o4,o5⟩,u4,u5⟩:=u;have hf:=own_far o3;exact ⟨u1.kept hg (fun k hk=>by have:=hf k hk;omega),u2.kept hg (fun e=>by have:=hf R e;omega),⟨World.ownsRow.kept o1 hg (own_apartB o1 o3 (by decide)),World.ownsRow.kept o2 hg (own_apartB o2 o3 (by decide)),hn,World.ownsRow.kept o4 hg (own_apartB o4 o3 (by decide)),World.ownsRow.kept o5 hg (own_apartB o5 o3 (by decide))⟩,u4,Nat.le_trans u5 hg.size⟩
theorem US.numbers {v:Value} {N':List Nat} (u:US w R s a vf vh vt vn vw f h T N W wr) (hn:ownsN w' (R+2) v N') (hg:wr.grownBy w' vn.ownBlock):US w R s a vf vh vt v vw f h T N' W w':=by
 obtain ⟨u1,u2,o,u4,u5⟩:=u;have hf:=own_far o.2.2.2.1;exact ⟨u1.kept hg (fun k hk=>by have:=hf k hk;omega),u2.kept hg (fun e=>by have:=hf R e;omega),o.numbers hn hg,u4,Nat.le_trans u5 hg.size⟩
theorem US.writes {v:Value} {W':List Wr} (u:US w R s a vf vh vt vn vw f h T N W wr) (hn:ownsW w' (R+2) v W') (hg:wr.grownBy w' vw.ownBlock):US w R s a vf vh vt vn v f h T N W' (w'.setCell ⟨w.heap.size,2,none⟩ v):=by
 obtain ⟨u1,u2,o,u4,u5⟩:=u;have hf:=own_far o.2.2.2.2;have o2:=o.writes hn hg;have hg2:=grown_setQ w' w.heap.size 2 v;exact ⟨(u1.kept hg (fun k hk=>by have:=hf k hk;omega)).put rfl,(u2.kept hg (fun e=>by have:=hf R e;omega)).kept hg2 (by simp;omega),o2.keep hg2 (fun k hk=>by injection hk with hk;omega),u4,Nat.le_trans u5 (by simpa using hg.size)⟩
end
set_option maxRecDepth 100000 in
theorem nextN_ok (S:Nat) (s:ByteArray) (a n k:Nat) (most:Int) (w:World) (h:Sc w S s a) (hs:s.size≤1000000) (ha:a≤s.size) (hm0 : -1≤most) (hm:most≤1099511627776) (hg:intL (s.data.toList.drop a) most=(n,k,0)) (hk:k≤10) :
   Calls Tryz.prog 91 #[.pointer (some ⟨S,0,none⟩),.int .i64 most] w fun e w'=>e=.returned (.int .i64 (n:Int))∧Sc w' S s (a+k)∧w.grownBy w' (some S) :=
 next_ok S s a n k most w h hs ha (by have:=(intL_le hg).1;omega) hm hg hk
set_option maxRecDepth 100000 in
theorem nextN_bad (S:Nat) (s:ByteArray) (a x:Nat) (most:Int) (w:World) (h:Sc w S s a) (hs:s.size≤1000000) (ha:a≤s.size) (hm0 : -1≤most) (hm:most≤1099511627776) (hg:intL (s.data.toList.drop a) most=(0,0,x)) (hx:x≠0) :
   Calls Tryz.prog 91 #[.pointer (some ⟨S,0,none⟩),.int .i64 most] w fun e w'=>e=.panicked [{ v:=.iface 190 (.agg #[.int .i64 (x:Int),.int .i64 (a:Int)]),recovered:=false }]∧w.grownBy w' (some S):=by
 obtain ⟨c0,c1,z1,hS⟩:=h.cells;have H:=Lib.hid h;have HM:Hid ((s.extract a s.size).size≤maxLen):=Lib.hid (show (s.extract a s.size).size≤maxLen by rw [ByteArray.size_extract];unfold maxLen;omega);have HGL:Hid (intR (intL (s.extract a s.size).data.toList most)=.tuple #[.int .i64 0,.int .i64 0,.int .i64 (x:Int)]):=Lib.hid (show intR (intL (s.extract a s.size).data.toList most)=.tuple #[.int .i64 0,.int .i64 0,.int .i64 (x:Int)] by rw [ext_dropV,hg];rfl);have d3:(0:Int)≤(a:Int):=by omega
 have d4:(a:Int)≤(s.size:Int):=by omega
 have hne:((x:Int) != 0)=true:=by simp;omega
 clear h hg hx;go_enter Tryz.func91,Tryz.ntmps91
 go_wp2
 go_quiet ((go_at_call 45;with_reducible exact rint_q (s.extract a s.size) most _ _ _ HM.out (by omega) (by omega) HGL.out))
 go_wp2_with fail
 refine (throw_any x (a:Int) _).mono ?_;rintro r w' ⟨rfl,rfl⟩
 first
   | exact ⟨rfl,rfl,grown_drewN w _ _⟩
   | (show bodyPost _ _ _ _ _ _;exact ⟨rfl,rfl,grown_drewN w _ _⟩)
   | (refine And.intro rfl (And.intro rfl ?_);exact grown_drewN w _ _)
   | (refine And.intro rfl ?_;exact grown_drewN w _ _)
theorem runspan_ok {s t:List UInt8} (x:ByteArray) (X:ByteArray) (n:Nat) (w:World) (hx:x.size≤140737488351232) (hs:x.data.toList=s) (hg:getS s=(t,n,0)) (hX:X=⟨t.toArray⟩) :
   Calls Tryz.prog 92 #[.string x] w fun r w'=>r=.returned (.tuple #[.string X,.int .i64 (n:Int),.int .i64 0])∧w=w':=by
 refine (runspan_any x w hx).mono ?_;rintro r w' ⟨rfl,rfl⟩;rw [hs,hg,hX];exact ⟨rfl,rfl⟩
theorem runspan_bad {s t:List UInt8} (x:ByteArray) (n e:Nat) (w:World) (hx:x.size≤140737488351232) (hs:x.data.toList=s) (hg:getS s=(t,n,e)) :
   Calls Tryz.prog 92 #[.string x] w fun r w'=>(∃ X:ByteArray,r=.returned (.tuple #[.string X,.int .i64 (n:Int),.int .i64 (e:Int)]))∧w=w':=by
 refine (runspan_any x w hx).mono ?_;rintro r w' ⟨rfl,rfl⟩;rw [hs,hg];exact ⟨⟨_,rfl⟩,rfl⟩
theorem step_append_num (w:World) {ops:Array Oper} {o:Oper} {a:Act} {K:Act→World→Prop} {Q:Exit→Act→World→Prop} {E:Prop} (hgd:o.guard=none) (s x:Operand)
   (ho:o.op=.call { callee:=.builtin .append,args:=#[s,x],argTypes:=#[99,99] })
   (base:Nat) (v:Value) (l:List Nat) (hs:a.eval s=v) (hown:ownsN w base v l)
   (ad:Addr) (c:Nat) (hx:a.eval x=.slice (some ad) 1 c) (d:Nat) (hcell:w.cell? (ad.add 0)=some (.int .i64 (d:Int)))
   (hlen:l.length+1≤8796093022208) (hbase:base≤w.heap.size)
   (h:∀ g cap w',ownsN w' base (.slice (some ⟨g,0,none⟩) (l.length+1) cap) (l++[d])→w.grownBy w' v.ownBlock→K (a.put o.dst (.slice (some ⟨g,0,none⟩) (l.length+1) cap)) w') :
   if Region.wanted o (yielded ops a.tmps)=true then Oper.wp Tryz.prog o a w K Q else E:=by
 obtain ⟨i0,hi,hz0,hz1,hz2⟩:=info_parts info_int;refine step_append_lies w hgd s x 99 ho base 3 i0 (.int .i64 0) 1 8 Tryz.underlying99 hi hz0 hz1 hz2 rfl (by decide) v l.length (l.map natV) hs hown ad 1 c [natV d] hx rfl ?_ ?_ (by decide) (by unfold maxLen;omega) (by omega) hbase _ rfl ?_
 · intro j u hj
   match j,hj with
   | 0,hj=>simp at hj;subst hj;exact hcell
 · intro u hu;simp at hu;subst hu;rfl
 · intro g cap w' h1 h2 _ _;refine h g cap w' ?_ h2;unfold ownsN;rw [List.length_append,List.map_append];exact h1
def KeepQ (i j:Nat) (u v:Value) (Q:Exit→Act→World→Prop):Exit→Act→World→Prop
 | .panic c,a,w=>(a.tmps[i]? = some u∧a.tmps[j]? = some v)∧∀ a':Act,a'.tmps[i]? = some u→a'.tmps[j]? = some v→a'.defers=a.defers→Q (.panic c) a' w
 | e,a,w=>Q e a w
theorem KeepQ.imp {i j:Nat} {u v:Value} {Q:Exit→Act→World→Prop}:∀ (e:Exit) (a:Act) (w:World),KeepQ i j u v Q e a w→Q e a w:=fun e a w h=>by
 cases e <;> first | exact h | exact h.2 a h.1.1 h.1.2 rfl
theorem wp_region_keep {i j:Nat} {u v:Value} {P:Program} {id:Nat} {ops:Array Oper} {b:Bool} {Q:Exit→Act→World→Prop} {a:Act} {w:World} (h:(Code.region id ops b).wp P (KeepQ i j u v Q) a w):(Code.region id ops b).wp P Q a w :=
 Code.wp_mono KeepQ.imp h
theorem KeepQ.put {i j d:Nat} {u v x:Value} {Q:Exit→Act→World→Prop} (hi:d≠i) (hj:d≠j):∀ (c:_) (a:Act) (w:World),KeepQ i j u v Q (.panic c) (a.put (some d) x) w→KeepQ i j u v Q (.panic c) a w:=fun c a w ⟨⟨h1,h2⟩,h3⟩=>by
 have e1:(a.put (some d) x).tmps[i]? = a.tmps[i]? := by simp [Act.put,hi]
 have e2:(a.put (some d) x).tmps[j]? = a.tmps[j]? := by simp [Act.put,hj]
 exact ⟨⟨e1 ▸ h1,e2 ▸ h2⟩,h3⟩
end Go.Proofs.YtgfinhehgfbdgaaGreatDoor
