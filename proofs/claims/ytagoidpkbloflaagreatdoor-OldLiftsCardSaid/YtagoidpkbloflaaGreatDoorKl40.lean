import Derived.Test.YtagoidpkbloflaaGreatDoorKlq
import Derived.Test.YtagoidpkbloflaaGreatDoorKl39
namespace Go.Proofs.YtagoidpkbloflaaGreatDoor
open Lib (hid)
set_option maxRecDepth 100000
set_option maxHeartbeats 8000000
section
open Go.RowKit
def gH (w:World) (s:List UInt8) (e:Ending) (w':World):Prop :=
 Below w.heap.size w w'∧((∃ x pl,unbF s=.inl (x,pl)∧e=.returned (.tuple #[.agg #[.slice none 0 0,.slice none 0 0,.slice none 0 0],.agg #[.int .i64 (x:Nat),.int .i64 pl]])) ∨
  ∃ f h l vf vh vw,unbF s=.inr (f,h,l)∧e=.returned (.tuple #[.agg #[vf,vh,vw],.agg #[.int .i64 0,.int .i64 (-1)]])∧aJ w' w.heap.size vf vh vw f h l)
def UD (w W:World) (vf vh vw:Value) (x pl:Int):Prop :=
 W.heap[w.heap.size]? = some (.cells #[vf,vh,vw] 25 (0,0))∧W.heap[w.heap.size+1]? = some (.cells #[.int .i64 x,.int .i64 pl] 28 (0,0))∧Below w.heap.size w W∧w.heap.size+2≤W.heap.size
theorem UD.cells {w W:World} {vf vh vw:Value} {x pl:Int} (h:UD w W vf vh vw x pl) :
 (W.cell? ⟨w.heap.size,0,none⟩=some vf∧W.cell? ⟨w.heap.size,1,none⟩=some vh∧W.cell? ⟨w.heap.size,2,none⟩=some vw)∧(W.cell? ⟨w.heap.size+1,0,none⟩=some (.int .i64 x)∧W.cell? ⟨w.heap.size+1,1,none⟩=some (.int .i64 pl)) ∧
  (W.frozen? ⟨w.heap.size,0,none⟩=false∧W.frozen? ⟨w.heap.size,1,none⟩=false∧W.frozen? ⟨w.heap.size,2,none⟩=false)∧W.frozen? ⟨w.heap.size+1,0,none⟩=false∧W.frozen? ⟨w.heap.size+1,1,none⟩=false:=by
 obtain ⟨h1,h2,_⟩:=h;exact ⟨⟨Dd _ _ 0 _ _ (0,0) h1,Dd _ _ 1 _ _ (0,0) h1,Dd _ _ 2 _ _ (0,0) h1⟩,⟨Dd _ _ 0 _ _ (0,0) h2,Dd _ _ 1 _ _ (0,0) h2⟩,⟨Lib.frozen_of_heap h1 0,Lib.frozen_of_heap h1 1,Lib.frozen_of_heap h1 2⟩,Lib.frozen_of_heap h2 0,Lib.frozen_of_heap h2 1⟩
theorem UD.kept {w W W2:World} {vf vh vw:Value} {x pl:Int} {row:Option Nat} (h:UD w W vf vh vw x pl) (hg:W.grownBy W2 row) (hr:∀ k,row=some k→w.heap.size+2≤k):UD w W2 vf vh vw x pl:=by
 obtain ⟨h1,h2,h4,h5⟩:=h;have ne:∀ k,k<w.heap.size+2→some k≠row:=fun k hk e=>by have:=hr k e.symm;omega
 exact ⟨(hg.block _ (by omega) (ne _ (by omega))).trans h1,(hg.block _ (by omega) (ne _ (by omega))).trans h2,h4.grown hg (by omega) (fun k hk=>by have:=hr k hk;omega),Dl h5 hg.size⟩
theorem UD.put {w W:World} {vf vh vw uf uh uw v:Value} {x pl:Int} {o:Nat} (h:UD w W vf vh vw x pl) (hs:(#[vf,vh,vw]:Array Value).setIfInBounds o v=#[uf,uh,uw]):UD w (W.setCell ⟨w.heap.size,o,none⟩ v) uf uh uw x pl:=by
 obtain ⟨h1,h2,h4,h5⟩:=h;exact ⟨by rw [De _ _ _ _ _ _ h1,hs],bM h2 (by omega) v,h4.setCell (Db _) _,by simpa using h5⟩
theorem UD.row {w W:World} {vf vh vw uf uh uw:Value} {x pl:Int} (h:UD w W vf vh vw x pl):UD w (W.setRow w.heap.size #[uf,uh,uw]) uf uh uw x pl:=by
 obtain ⟨h1,h2,h4,h5⟩:=h;exact ⟨bL h1 _,fN h2 (by omega),cz h4 (Db _) _,by simpa [World.setRow] using h5⟩
theorem UD.fault {w W:World} {vf vh vw:Value} {x pl:Int} (h:UD w W vf vh vw x pl) (e p:Int):UD w ((W.setCell ⟨w.heap.size+1,0,none⟩ (.int .i64 e)).setCell ⟨w.heap.size+1,1,none⟩ (.int .i64 p)) vf vh vw e p:=by
 obtain ⟨h1,h2,h4,h5⟩:=h;exact ⟨bM (bM h1 (by omega) _) (by omega) _,rowF.put (F:=w.heap.size+1) h2 e p,eR h4 (Dq _) _ _,by simpa using h5⟩
theorem BW (F O:Nat) (pl:Int) (u:FrameMode) (w:World) (c0:w.cell? ⟨F,0,none⟩=some (.int .i64 0)) (c1:w.cell? ⟨F,1,none⟩=some (.int .i64 pl)) :
 CallsD Tryz.prog 64 #[.pointer (some ⟨F,0,none⟩),.pointer (some ⟨O,0,none⟩)] u w fun r u' w'=>u'=u∧(r=.returned (.tuple #[])∧Below w.heap.size w w'):=by
 go_enter_d Tryz.func64,Tryz.ntmps64
 go_wp2_with fail
 refine (aH 0 pl _).mono ?_;rintro r w1 ⟨rfl,hb1⟩;have HB1:=hid hb1;clear hb1;go_wp2
 go_end0
 exact ⟨rfl,HB1.out⟩
theorem BV (F O:Nat) (e pl:Int) (vf vh vw:Value) (u:FrameMode) (w:World) (he:(e == 0)=false) (c0:w.cell? ⟨F,0,none⟩=some (.int .i64 e)) (c1:w.cell? ⟨F,1,none⟩=some (.int .i64 pl)) (hO:O<w.heap.size) (hrow:w.heap[O]? = some (.cells #[vf,vh,vw] 25 (0,0))) :
 CallsD Tryz.prog 64 #[.pointer (some ⟨F,0,none⟩),.pointer (some ⟨O,0,none⟩)] u w fun r u' w'=>u'=u∧(r=.returned (.tuple #[])∧∃ w1,Below w.heap.size w w1∧w'=w1.setRow O #[.slice none 0 0,.slice none 0 0,.slice none 0 0]):=by
 go_enter_d Tryz.func64,Tryz.ntmps64
 go_wp2_with fail
 refine (aH e pl _).mono ?_;rintro r w1 ⟨rfl,hb1⟩;rw [he];have HROW:=hid ((hb1.block O hO).trans hrow);have HI:=hid (fY (.slice none 0 0) (.slice none 0 0) (.slice none 0 0));have HONE:=hid (fX none none none 0 0 0 0 0 0);have HSAME:=hid (gM vf vh vw (.slice none 0 0) (.slice none 0 0) (.slice none 0 0));have HB1:=hid hb1;clear hb1 hrow;go_wp2_with (with_reducible refine DO rfl _ _ _ rfl _ _ rfl rfl _ _ HROW.out HI.out HSAME.out HONE.out ?_)
 go_end0
 exact ⟨rfl,w1,HB1.out,rfl⟩
def kL (w:World):List Deferred :=
 [{ target:=.fn (Fn.func 34) #[],args:=#[.pointer (some ⟨w.heap.size+1,0,none⟩)] },
  { target:=.fn (Fn.func 64) #[.pointer (some ⟨w.heap.size+1,0,none⟩),.pointer (some ⟨w.heap.size,0,none⟩)],args:=#[] }]
theorem cN {w W:World} {vf vh vw:Value} {s:List UInt8} (e:Nat) (pl:Int) (h:UD w W vf vh vw 0 (-1)) (he:e≠0) (hrd:unbF s=.inl (e,pl)) (tmps:Array Value)
 (t2:tmps[2]? = some (.pointer (some ⟨w.heap.size,0,none⟩))) (t3:tmps[3]? = some (.pointer (some ⟨w.heap.size+1,0,none⟩))) :
 Leaves Tryz.prog Tryz.f31 tmps (gH w s) (kL w) (.panicking [{ v:=.iface 119 (.agg #[.int .i64 (e:Int),.int .i64 pl]),recovered:=false }]) W:=by
 obtain ⟨_,⟨c0,c1⟩,_,z0,z1⟩:=h.cells;have hz:=h.2.2.2;have hbe:((e:Int) == 0)=false:=by simp;omega
 obtain ⟨W2,hW2⟩:∃ W2,(W.setCell ⟨w.heap.size+1,0,none⟩ (.int .i64 (e:Int))).setCell ⟨w.heap.size+1,1,none⟩ (.int .i64 pl)=W2:=⟨_,rfl⟩;have h2:UD w W2 vf vh vw e pl:=by rw [←hW2];exact h.fault e pl
 obtain ⟨W3,hW3⟩:∃ W3,W2.alloc (.cells #[.int .i64 (e:Int),.int .i64 pl] 119)=W3:=⟨_,rfl⟩;have h3:UD w W3 vf vh vw e pl:=by rw [←hW3];exact h2.kept (E5 W2 _ none) (fun k hk=>by cases hk)
 have hz3:=h3.2.2.2;obtain ⟨_,⟨p2,p3⟩,_⟩:=h3.cells;unfold kL;refine DW (f:=34) (args:=#[.pointer (some ⟨w.heap.size+1,0,none⟩)]) (by simp) (by simp [go_sem]) ?_;refine (jq (w.heap.size+1) e pl 0 (-1) [] W (by omega) c0 c1 z0 z1).mono ?_;rintro r u' w2 ⟨rfl,rfl,rfl⟩;rw [hW2,hW3];refine DW (f:=64) (args:=#[.pointer (some ⟨w.heap.size+1,0,none⟩),.pointer (some ⟨w.heap.size,0,none⟩)]) (by simp [settle]) (by simp [go_sem]) ?_;refine (BV (w.heap.size+1) w.heap.size e pl vf vh vw _ _ hbe p2 p3 (by omega) h3.1).mono ?_;rintro r u' w4 ⟨rfl,rfl,w5,hb5,rfl⟩;have h6:=(h3.kept (ag hb5) (fun k hk=>by cases hk)).row (uf:=.slice none 0 0) (uh:=.slice none 0 0) (uw:=.slice none 0 0);obtain ⟨⟨q0,q1,q2⟩,⟨v2,v3⟩,_⟩:=h6.cells;exact ⟨.tuple #[.agg #[.slice none 0 0,.slice none 0 0,.slice none 0 0],.agg #[.int .i64 (e:Int),.int .i64 pl]],by simp [results,Tryz.results31,go_sem,t2,t3,q0,q1,q2,v2,v3],h6.2.2.1,.inl ⟨e,pl,hrd,rfl⟩⟩
theorem BH {w W:World} {vf vh vw:Value} {f h:List Ent} {l:List Wr} {s:List UInt8} (hd:UD w W vf vh vw 0 (-1)) (ho:aJ W (w.heap.size+2) vf vh vw f h l) (hrd:unbF s=.inr (f,h,l)) (tmps:Array Value)
 (t2:tmps[2]? = some (.pointer (some ⟨w.heap.size,0,none⟩))) (t3:tmps[3]? = some (.pointer (some ⟨w.heap.size+1,0,none⟩))) :
 Leaves Tryz.prog Tryz.f31 tmps (gH w s) (kL w) .returning W:=by
 obtain ⟨_,⟨c0,c1⟩,_⟩:=hd.cells;unfold kL;refine DW (f:=34) (args:=#[.pointer (some ⟨w.heap.size+1,0,none⟩)]) (by simp) (by simp [go_sem]) ?_;refine (jp _ W).mono ?_;rintro r u' w2 ⟨rfl,rfl,rfl⟩;refine DW (f:=64) (args:=#[.pointer (some ⟨w.heap.size+1,0,none⟩),.pointer (some ⟨w.heap.size,0,none⟩)]) (by simp [settle]) (by simp [go_sem]) ?_;refine (BW (w.heap.size+1) w.heap.size (-1) _ _ c0 c1).mono ?_;rintro r u' w3 ⟨rfl,rfl,hb3⟩;have h3:=hd.kept (ag hb3) (fun k hk=>by cases hk);obtain ⟨⟨q0,q1,q2⟩,⟨v2,v3⟩,_⟩:=h3.cells;exact ⟨.tuple #[.agg #[vf,vh,vw],.agg #[.int .i64 0,.int .i64 (-1)]],by simp [results,Tryz.results31,go_sem,t2,t3,q0,q1,q2,v2,v3],h3.2.2.1,.inr ⟨f,h,l,vf,vh,vw,hrd,rfl,(ho.keep (ag hb3) (fun k hk=>by cases hk)).mono (by omega)⟩⟩
end
section
open Go.RowKit
theorem eW (w:World) {e:Nat} (he:e≠0):az w (.iface 26 (.int .i64 e)) (e,-1):=.inr ⟨he,rfl,rfl⟩
def RD1 (w W:World) (vf vh vw:Value):Prop :=
 W.heap[w.heap.size]? = some (.cells #[vf,vh,vw] 25 (0,0))∧Below w.heap.size w W∧w.heap.size+1≤W.heap.size
theorem RD1.cells {w W:World} {vf vh vw:Value} (h:RD1 w W vf vh vw) :
 (W.cell? ⟨w.heap.size,0,none⟩=some vf∧W.cell? ⟨w.heap.size,1,none⟩=some vh∧W.cell? ⟨w.heap.size,2,none⟩=some vw)∧W.frozen? ⟨w.heap.size,0,none⟩=false∧W.frozen? ⟨w.heap.size,1,none⟩=false∧W.frozen? ⟨w.heap.size,2,none⟩=false:=by
 obtain ⟨h1,_⟩:=h;exact ⟨⟨Dd _ _ 0 _ _ (0,0) h1,Dd _ _ 1 _ _ (0,0) h1,Dd _ _ 2 _ _ (0,0) h1⟩,Lib.frozen_of_heap h1 0,Lib.frozen_of_heap h1 1,Lib.frozen_of_heap h1 2⟩
theorem RD1.below {w W W2:World} {vf vh vw:Value} (h:RD1 w W vf vh vw) (hb:Below W.heap.size W W2):RD1 w W2 vf vh vw:=by
 obtain ⟨h1,h2,h3⟩:=h;exact ⟨(hb.block _ (by omega)).trans h1,h2.trans (hb.mono h2.size),Dl h3 hb.size⟩
theorem RD1.put {w W:World} {vf vh vw uf uh uw v:Value} {o:Nat} (h:RD1 w W vf vh vw) (hs:(#[vf,vh,vw]:Array Value).setIfInBounds o v=#[uf,uh,uw]):RD1 w (W.setCell ⟨w.heap.size,o,none⟩ v) uf uh uw:=by
 obtain ⟨h1,h4,h5⟩:=h;exact ⟨by rw [De _ _ _ _ _ _ h1,hs],h4.setCell (Db _) _,by simpa using h5⟩
theorem az.cellB {w W:World} {vf vh vw v u:Value} {r:Nat×Int} {o:Nat} (h:az W v r) (hr:RD1 w W vf vh vw) (hv:vf=.slice none 0 0):az (W.setCell ⟨w.heap.size,o,none⟩ u) v r:=by
 rcases h with (h | ⟨h0,b,h1,h2,h3,h4⟩) | h
 ·exact .inl (.inl h)
 ·have c0:=hr.cells.1.1;have hne:w.heap.size≠b:=fun e=>by rw [←e,c0,hv] at h3;cases h3
  have hcell:∀ j,(W.setCell ⟨w.heap.size,o,none⟩ u).cell? ⟨b,j,none⟩=W.cell? ⟨b,j,none⟩:=fun j=>by
   unfold World.cell?;rw [Eh _ _ _ _ (fun e=>hne e.symm)]
  exact .inl (.inr ⟨h0,b,h1,by simpa using h2,by rw [hcell];exact h3,by rw [hcell];exact h4⟩)
 ·exact .inr h
theorem oP (s:ByteArray) (x:Nat) (pl:Int) (w:World) (hs:s.size≤maxLen) (hg:errT w) (hu:unbF s.data.toList=.inl (x,pl)) :
 Calls Tryz.prog 42 #[.string s] w fun e w'=>∃ t u,e=.returned (.tuple #[.agg #[.slice none 0 0,.slice none 0 0,.slice none 0 0],.iface t u])∧az w' (.iface t u) (x,pl)∧Below w.heap.size w w':=by
 refine (oO s w hs hg).mono ?_;rintro e w' ⟨hb,⟨x',pl',err,hx,hx0,rfl,ha⟩ | ⟨f',h',l',vf,vh,vw,hx,_⟩⟩
 ·rw [hu] at hx;injection hx with hx
  injection hx with h1 h2
  subst h1 h2;obtain ⟨t,u,rfl⟩:=ha.iface hx0;exact ⟨t,u,rfl,ha,hb⟩
 ·rw [hu] at hx;cases hx
theorem oQ (s:ByteArray) (f h:List Ent) (l:List Wr) (w:World) (hs:s.size≤maxLen) (hg:errT w) (hu:unbF s.data.toList=.inr (f,h,l)) :
 Calls Tryz.prog 42 #[.string s] w fun e w'=>∃ a1 c1 a2 c2 a3 c3,e=.returned (.tuple #[.agg #[.slice a1 f.length c1,.slice a2 h.length c2,.slice a3 l.length c3],.nilIface])∧aJ w' w.heap.size (.slice a1 f.length c1) (.slice a2 h.length c2) (.slice a3 l.length c3) f h l∧Below w.heap.size w w':=by
 refine (oO s w hs hg).mono ?_;rintro e w' ⟨hb,⟨x,pl,err,hx,_⟩ | ⟨f',h',l',vf,vh,vw,hx,rfl,ho⟩⟩
 ·rw [hu] at hx;cases hx
 ·rw [hu] at hx;injection hx with hx
  injection hx with h1 h2
  injection h2 with h2 h3
  subst h1 h2 h3;obtain ⟨a1,c1,rfl,_⟩:=ho.1.is.form;obtain ⟨a2,c2,rfl,_⟩:=ho.2.1.is.form;obtain ⟨a3,c3,rfl,_⟩:=ho.2.2.1.is.form;exact ⟨a1,c1,a2,c2,a3,c3,rfl,ho,hb⟩
end
section
open Go.RowKit
def US (w:World) (R:Nat) (s:ByteArray) (a:Nat) (vf vh vt vn vw:Value) (f h:List Ent) (T:List ByteArray) (N:List Nat) (W:List Wr) (wr:World):Prop :=
 UD w wr vf vh vw 0 (-1)∧Sc wr R s a∧OB (R+2) vf vh vt vn vw f h T N W wr∧w.heap.size+2≤R∧R+2≤wr.heap.size
section
variable {w wr w':World} {R a b:Nat} {s:ByteArray} {vf vh vt vn vw:Value} {f h:List Ent} {T:List ByteArray} {N:List Nat} {W:List Wr}
theorem US.next (u:US w R s a vf vh vt vn vw f h T N W wr) (hs:Sc w' R s b) (hg:wr.grownBy w' (some R)):US w R s b vf vh vt vn vw f h T N W w' :=
 ⟨u.1.kept hg (fun k hk=>by injection hk with hk;have:=u.2.2.2.1;omega),hs,u.2.2.1.keep hg (fun k hk=>by injection hk with hk;omega),u.2.2.2.1,Dl u.2.2.2.2 hg.size⟩
theorem US.below (u:US w R s a vf vh vt vn vw f h T N W wr) (hb:Below wr.heap.size wr w'):US w R s a vf vh vt vn vw f h T N W w' :=
 ⟨u.1.kept (row:=none) ⟨hb.os,hb.tape,hb.output,hb.size,fun k hk _=>hb.block k hk⟩ (fun k hk=>by cases hk),u.2.1.kept (row:=none) ⟨hb.os,hb.tape,hb.output,hb.size,fun k hk _=>hb.block k hk⟩ (by simp),u.2.2.1.below hb,u.2.2.2.1,Dl u.2.2.2.2 hb.size⟩
theorem US.alloc (u:US w R s a vf vh vt vn vw f h T N W wr) (o:Obj):US w R s a vf vh vt vn vw f h T N W (wr.alloc o):=u.below ((Below.refl _ _).alloc (Db _) o)
theorem US.drew (u:US w R s a vf vh vt vn vw f h T N W wr):US w R s a vf vh vt vn vw f h T N W wr.drew:=u.below (Below.refl _ _).drew
theorem US.go (u:US w R s a vf vh vt vn vw f h T N W wr):US w R s b vf vh vt vn vw f h T N W (wr.setCell ⟨R,1,none⟩ (.int .i64 (b:Int))) :=
 u.next u.2.1.moved (bz wr R 1 _)
theorem ix {B X k n:Nat} {e t:TypeId} {v:Value} {xs:List Value} {cs:Array Value} {fr:Nat×Nat} (ho:wr.ownsRow B e k v n xs) (hX:wr.heap[X]? = some (.cells cs t fr)) (hne:e≠t):v.ownBlock≠some X:=by
 rcases ho.2 with ⟨rfl,_⟩ | ⟨g,cap,cur,rfl,_,hh,_⟩
 ·simp [Value.ownBlock]
 ·intro e';have:g=X:=by simpa [Value.ownBlock] using e'
  subst this;rw [hX] at hh;injection hh with hh
  injection hh with _ ht
  exact hne ht.symm
theorem iz {X o B k n:Nat} {e:TypeId} {v x:Value} {xs:List Value} (ho:wr.ownsRow B e k v n xs) (hne:v.ownBlock≠some X):(wr.setCell ⟨X,o,none⟩ x).ownsRow B e k v n xs :=
 Dt ho (bz wr X o x) (by
  cases hv:v.ownBlock with
  | none=>exact .inl rfl
  | some g=>exact .inr (by rw [←hv];exact hne))
theorem US.store {X o:Nat} {x:Value} {cs:Array Value} (u:US w R s a vf vh vt vn vw f h T N W wr) (hX:wr.heap[X]? = some (.cells cs 78 (0,0))) (hXR:R+2≤X) (hne:vw.ownBlock≠some X) :
 US w R s a vf vh vt vn vw f h T N W (wr.setCell ⟨X,o,none⟩ x):=by
 obtain ⟨u1,u2,⟨o1,o2,o3,o4,o5⟩,u4,u5⟩:=u;refine ⟨u1.kept (bz wr X o x) (fun k hk=>by injection hk with hk;omega),u2.kept (bz wr X o x) (by simp;omega),⟨iz o1 (ix o1 hX (by decide)),iz o2 (ix o2 hX (by decide)),iz o3 (ix o3 hX (by decide)),iz o4 (ix o4 hX (by decide)),iz o5 hne⟩,u4,by simpa using u5⟩
theorem US.from {v:Value} {l:List Ent} (u:US w R s a vf vh vt vn vw f h T N W wr) (hv:ai wr (R+2) v l):US w R s a v vh vt vn vw l h T N W (wr.setCell ⟨w.heap.size,0,none⟩ v):=by
 obtain ⟨u1,u2,⟨o1,o2,o3,o4,o5⟩,u4,u5⟩:=u;have hg:=bz wr w.heap.size 0 v;exact ⟨u1.put rfl,u2.kept hg (by simp;omega),OB.keep (row:=some w.heap.size) ⟨hv,o2,o3,o4,o5⟩ hg (fun k hk=>by injection hk with hk;omega),u4,by simpa using u5⟩
theorem US.have {v:Value} {l:List Ent} (u:US w R s a vf vh vt vn vw f h T N W wr) (hv:ai wr (R+2) v l):US w R s a vf v vt vn vw f l T N W (wr.setCell ⟨w.heap.size,1,none⟩ v):=by
 obtain ⟨u1,u2,⟨o1,o2,o3,o4,o5⟩,u4,u5⟩:=u;have hg:=bz wr w.heap.size 1 v;exact ⟨u1.put rfl,u2.kept hg (by simp;omega),OB.keep (row:=some w.heap.size) ⟨o1,hv,o3,o4,o5⟩ hg (fun k hk=>by injection hk with hk;omega),u4,by simpa using u5⟩
theorem ce {v:Value} {B k n:Nat} {e:TypeId} {xs:List Value} (ho:wr.ownsRow B e k v n xs):∀ j,v.ownBlock=some j→B≤j:=fun j hj=>(DQ ho j hj).1
theorem US.texts {v:Value} {T':List ByteArray} (u:US w R s a vf vh vt vn vw f h T N W wr) (hn:ak w' (R+2) v T') (hg:wr.grownBy w' vt.ownBlock):US w R s a vf vh v vn vw f h T' N W w':=by
 obtain ⟨u1,u2,⟨o1,o2,o3,o4,o5⟩,u4,u5⟩:=u;have hf:=ce o3;exact ⟨u1.kept hg (fun k hk=>by have:=hf k hk;omega),u2.kept hg (fun e=>by have:=hf R e;omega),⟨Dt o1 hg (cQ o1 o3 (by decide)),Dt o2 hg (cQ o2 o3 (by decide)),hn,Dt o4 hg (cQ o4 o3 (by decide)),Dt o5 hg (cQ o5 o3 (by decide))⟩,u4,Dl u5 hg.size⟩
theorem US.numbers {v:Value} {N':List Nat} (u:US w R s a vf vh vt vn vw f h T N W wr) (hn:aG w' (R+2) v N') (hg:wr.grownBy w' vn.ownBlock):US w R s a vf vh vt v vw f h T N' W w':=by
 obtain ⟨u1,u2,o,u4,u5⟩:=u;have hf:=ce o.2.2.2.1;exact ⟨u1.kept hg (fun k hk=>by have:=hf k hk;omega),u2.kept hg (fun e=>by have:=hf R e;omega),o.numbers hn hg,u4,Dl u5 hg.size⟩
theorem US.writes {v:Value} {W':List Wr} (u:US w R s a vf vh vt vn vw f h T N W wr) (hn:aU w' (R+2) v W') (hg:wr.grownBy w' vw.ownBlock):US w R s a vf vh vt vn v f h T N W' (w'.setCell ⟨w.heap.size,2,none⟩ v):=by
 obtain ⟨u1,u2,o,u4,u5⟩:=u;have hf:=ce o.2.2.2.2;have o2:=o.writes hn hg;have hg2:=bz w' w.heap.size 2 v;exact ⟨(u1.kept hg (fun k hk=>by have:=hf k hk;omega)).put rfl,(u2.kept hg (fun e=>by have:=hf R e;omega)).kept hg2 (by simp;omega),o2.keep hg2 (fun k hk=>by injection hk with hk;omega),u4,Dl u5 (by simpa using hg.size)⟩
end
theorem qg (S:Nat) (s:ByteArray) (a n k:Nat) (most:Int) (w:World) (h:Sc w S s a) (hs:s.size≤1000000) (ha:a≤s.size) (hm0 : -1≤most) (hm:most≤1099511627776) (hg:intL (s.data.toList.drop a) most=(n,k,0)) (hk:k≤10) :
 Calls Tryz.prog 35 #[.pointer (some ⟨S,0,none⟩),.int .i64 most] w fun e w'=>e=.returned (.int .i64 (n:Int))∧Sc w' S s (a+k)∧w.grownBy w' (some S) :=
 bo S s a n k most w h hs ha (by have:=(jK hg).1;omega) hm hg hk
theorem qf (S:Nat) (s:ByteArray) (a x:Nat) (most:Int) (w:World) (h:Sc w S s a) (hs:s.size≤1000000) (ha:a≤s.size) (hm0 : -1≤most) (hm:most≤1099511627776) (hg:intL (s.data.toList.drop a) most=(0,0,x)) (hx:x≠0) :
 Calls Tryz.prog 35 #[.pointer (some ⟨S,0,none⟩),.int .i64 most] w fun e w'=>e=.panicked [{ v:=.iface 119 (.agg #[.int .i64 (x:Int),.int .i64 (a:Int)]),recovered:=false }]∧w.grownBy w' (some S):=by
 obtain ⟨c0,c1,z1,hS⟩:=h.cells;have H:=hid h;have HM:Hid ((s.extract a s.size).size≤maxLen):=hid (show (s.extract a s.size).size≤maxLen by rw [DJ];unfold maxLen;omega);have HGL:Hid (intR (intL (s.extract a s.size).data.toList most)=.tuple #[.int .i64 0,.int .i64 0,.int .i64 (x:Int)]):=hid (show intR (intL (s.extract a s.size).data.toList most)=.tuple #[.int .i64 0,.int .i64 0,.int .i64 (x:Int)] by rw [aS,hg];rfl);have d3:(0:Int)≤(a:Int):=by omega
 have d4:(a:Int)≤(s.size:Int):=by omega
 have hne:((x:Int) != 0)=true:=by simp;omega
 clear h hg hx;go_enter Tryz.func35,Tryz.ntmps35
 go_wp2
 go_quiet ((go_at_call 29;with_reducible exact mV (s.extract a s.size) most _ _ _ HM.out (by omega) (by omega) HGL.out))
 go_wp2_with fail
 refine (bi x (a:Int) _).mono ?_;rintro r w' ⟨rfl,rfl⟩
 first
  | exact ⟨rfl,rfl,dn w _ _⟩
  | (show bodyPost _ _ _ _ _ _;exact ⟨rfl,rfl,dn w _ _⟩)
  | (refine Dp rfl (Dp rfl ?_);exact dn w _ _)
  | (refine Dp rfl ?_;exact dn w _ _)
theorem ri {s t:List UInt8} (x:ByteArray) (X:ByteArray) (n:Nat) (w:World) (hx:x.size≤140737488351232) (hs:x.data.toList=s) (hg:getS s=(t,n,0)) (hX:X=⟨t.toArray⟩) :
 Calls Tryz.prog 37 #[.string x] w fun r w'=>r=.returned (.tuple #[.string X,.int .i64 (n:Int),.int .i64 0])∧w=w':=by
 refine (kp x w hx).mono ?_;rintro r w' ⟨rfl,rfl⟩;rw [hs,hg,hX];exact ⟨rfl,rfl⟩
theorem rg {s t:List UInt8} (x:ByteArray) (n e:Nat) (w:World) (hx:x.size≤140737488351232) (hs:x.data.toList=s) (hg:getS s=(t,n,e)) :
 Calls Tryz.prog 37 #[.string x] w fun r w'=>(∃ X:ByteArray,r=.returned (.tuple #[.string X,.int .i64 (n:Int),.int .i64 (e:Int)]))∧w=w':=by
 refine (kp x w hx).mono ?_;rintro r w' ⟨rfl,rfl⟩;rw [hs,hg];exact ⟨⟨_,rfl⟩,rfl⟩
theorem AS (w:World) {ops:Array Oper} {o:Oper} {a:Act} {K:Act→World→Prop} {Q:Exit→Act→World→Prop} {E:Prop} (hgd:o.guard=none) (s x:Operand)
 (ho:o.op=.call { callee:=.builtin .append,args:=#[s,x],argTypes:=#[87,87] })
 (base:Nat) (v:Value) (l:List Nat) (hs:a.eval s=v) (hown:aG w base v l)
 (ad:Addr) (c:Nat) (hx:a.eval x=.slice (some ad) 1 c) (d:Nat) (hcell:w.cell? (ad.add 0)=some (.int .i64 (d:Int)))
 (hlen:l.length+1≤8796093022208) (hbase:base≤w.heap.size)
 (h:∀ g cap w',aG w' base (.slice (some ⟨g,0,none⟩) (l.length+1) cap) (l++[d])→w.grownBy w' v.ownBlock→K (a.put o.dst (.slice (some ⟨g,0,none⟩) (l.length+1) cap)) w') :
 if Region.wanted o (yielded ops a.tmps)=true then Oper.wp Tryz.prog o a w K Q else E:=by
 obtain ⟨i0,hi,hz0,hz1,hz2⟩:=DU pJ;refine step_append_lies w hgd s x 87 ho base 3 i0 (.int .i64 0) 1 8 Tryz.underlying87 hi hz0 hz1 hz2 rfl (by decide) v l.length (l.map natV) hs hown ad 1 c [natV d] hx rfl ?_ ?_ (by decide) (by unfold maxLen;omega) (by omega) hbase _ rfl ?_
 ·intro j u hj
  match j,hj with
  | 0,hj=>simp at hj;subst hj;exact hcell
 ·intro u hu;simp at hu;subst hu;rfl
 ·intro g cap w' h1 h2 _ _;refine h g cap w' ?_ h2;unfold aG;rw [Df,En];exact h1
def aX (i j:Nat) (u v:Value) (Q:Exit→Act→World→Prop):Exit→Act→World→Prop
 | .panic c,a,w=>(a.tmps[i]? = some u∧a.tmps[j]? = some v)∧∀ a':Act,a'.tmps[i]? = some u→a'.tmps[j]? = some v→a'.defers=a.defers→Q (.panic c) a' w
 | e,a,w=>Q e a w
theorem aX.imp {i j:Nat} {u v:Value} {Q:Exit→Act→World→Prop}:∀ (e:Exit) (a:Act) (w:World),aX i j u v Q e a w→Q e a w:=fun e a w h=>by
 cases e <;> first | exact h | exact h.2 a h.1.1 h.1.2 rfl
theorem aX.normal {i j:Nat} {u v:Value} {Q:Exit→Act→World→Prop} {a:Act} {w:World} (h:Q .normal a w):aX i j u v Q .normal a w:=h
theorem oe {i j:Nat} {u v:Value} {P:Program} {id:Nat} {ops:Array Oper} {b:Bool} {Q:Exit→Act→World→Prop} {a:Act} {w:World} (h:(Code.region id ops b).wp P (aX i j u v Q) a w):(Code.region id ops b).wp P Q a w :=
 Code.wp_mono aX.imp h
theorem aX.put {i j d:Nat} {u v x:Value} {Q:Exit→Act→World→Prop} (hi:d≠i) (hj:d≠j):∀ (c:_) (a:Act) (w:World),aX i j u v Q (.panic c) (a.put (some d) x) w→aX i j u v Q (.panic c) a w:=fun c a w ⟨⟨h1,h2⟩,h3⟩=>by
 have e1:(a.put (some d) x).tmps[i]? = a.tmps[i]? := by simp [Act.put,hi]
 have e2:(a.put (some d) x).tmps[j]? = a.tmps[j]? := by simp [Act.put,hj]
 exact ⟨⟨e1 ▸ h1,e2 ▸ h2⟩,h3⟩
end
section
open Go.RowKit
def UO (w:World) (B:Nat) (l:List UInt8) (e:Nat) (vf vh vw:Value) (f h:List Ent) (W:List Wr) (wr:World):Prop :=
 Ro wr (w.heap.size+1) l e∧RD1 w wr (.slice none 0 0) (.slice none 0 0) (.slice none 0 0)∧wr.heap[B]? = some (.cells #[vf,vh,vw] 25 (0,0))∧w.heap.size+2≤B∧ai wr (w.heap.size+2) vf f∧ai wr (w.heap.size+2) vh h∧aU wr (w.heap.size+2) vw W
theorem RD1.kept {w W W2:World} {vf vh vw:Value} {row:Option Nat} (h:RD1 w W vf vh vw) (hg:W.grownBy W2 row) (hr:∀ k,row=some k→w.heap.size+1≤k):RD1 w W2 vf vh vw:=by
 obtain ⟨h1,h2,h3⟩:=h;exact ⟨(hg.block _ (by omega) (fun e=>by have:=hr _ e.symm;omega)).trans h1,h2.grown hg (by omega) (fun k hk=>by have:=hr k hk;omega),Dl h3 hg.size⟩
theorem iw {W:World} {B X k n:Nat} {e t:TypeId} {v:Value} {xs:List Value} {cs:Array Value} {fr:Nat×Nat} (ho:W.ownsRow B e k v n xs) (hX:W.heap[X]? = some (.cells cs t fr)) (hne:e≠t):v.ownBlock≠some X:=by
 rcases ho.2 with ⟨rfl,_⟩ | ⟨g,cap,cur,rfl,_,hh,_⟩
 ·simp [Value.ownBlock]
 ·intro e';have:g=X:=by simpa [Value.ownBlock] using e'
  subst this;rw [hX] at hh;injection hh with hh
  injection hh with _ ht
  exact hne ht.symm
theorem gk {W W2:World} {B k n:Nat} {e:TypeId} {v:Value} {xs:List Value} {row:Option Nat} (ho:W.ownsRow B e k v n xs) (hg:W.grownBy W2 row) (hne:∀ j,row=some j→v.ownBlock≠some j):W2.ownsRow B e k v n xs :=
 Dt ho hg (by
  cases hv:v.ownBlock with
  | none=>exact .inl rfl
  | some g=>exact .inr (fun e=>hne g e.symm hv))
section
variable {w wr w':World} {B:Nat} {l l':List UInt8} {e e':Nat} {vf vh vw:Value} {f h:List Ent} {W W':List Wr}
theorem UO.get (u:UO w B l e vf vh vw f h W wr) (hr:Ro w' (w.heap.size+1) l' e') (hg:wr.grownBy w' (some (w.heap.size+1))):UO w B l' e' vf vh vw f h W w':=by
 obtain ⟨u1,u2,u3,u4,u5,u6,u7⟩:=u;have hb:=(DF.1 u3).1;exact ⟨hr,u2.kept hg (fun k hk=>by injection hk with hk;omega),(hg.block _ hb (by simp;omega)).trans u3,u4,gj u5 (by omega) hg,gj u6 (by omega) hg,gj u7 (by omega) hg⟩
theorem UO.below (u:UO w B l e vf vh vw f h W wr) (hb:Below wr.heap.size wr w'):UO w B l e vf vh vw f h W w':=by
 obtain ⟨u1,u2,u3,u4,u5,u6,u7⟩:=u;have hB:=(DF.1 u3).1;exact ⟨u1.below hb,u2.below hb,(hb.block _ hB).trans u3,u4,gk u5 (ag hb) (by simp),gk u6 (ag hb) (by simp),gk u7 (ag hb) (by simp)⟩
theorem UO.alloc (u:UO w B l e vf vh vw f h W wr) (o:Obj):UO w B l e vf vh vw f h W (wr.alloc o):=u.below ((Below.refl _ _).alloc (Db _) o)
theorem UO.drew (u:UO w B l e vf vh vw f h W wr):UO w B l e vf vh vw f h W wr.drew:=u.below (Below.refl _ _).drew
theorem UO.writes {v:Value} (u:UO w B l e vf vh vw f h W wr) (hn:aU w' (w.heap.size+2) v W') (hg:wr.grownBy w' vw.ownBlock):UO w B l e vf vh v f h W' (w'.setCell ⟨B,2,none⟩ v):=by
 obtain ⟨u1,u2,u3,u4,u5,u6,u7⟩:=u;have hB:=(DF.1 u3).1;have hf:∀ j,vw.ownBlock=some j→w.heap.size+2≤j:=fun j hj=>(DQ u7 j hj).1
 have hnB:=iw u7 u3 (by decide);have e5:=Dt u5 hg (cQ u5 u7 (by decide));have e6:=Dt u6 hg (cQ u6 u7 (by decide));have e3:w'.heap[B]? = some (.cells #[vf,vh,vw] 25 (0,0)):=(hg.block _ hB (fun e=>hnB e.symm)).trans u3;have hs:=ge w' B 2 v;refine ⟨(u1.kept hg (fun e=>by have:=hf _ e;omega)).kept hs (by simp;omega),(u2.kept hg (fun k hk=>by have:=hf k hk;omega)).kept hs (fun k hk=>by injection hk with hk;omega),?_,u4,?_,?_,?_⟩
 ·rw [De _ _ _ _ _ _ e3];rfl
 ·exact gk e5 hs (fun j hj=>by injection hj with hj;rw [←hj];exact iw e5 e3 (by decide))
 ·exact gk e6 hs (fun j hj=>by injection hj with hj;rw [←hj];exact iw e6 e3 (by decide))
 ·exact gk hn hs (fun j hj=>by injection hj with hj;rw [←hj];exact iw hn e3 (by decide))
theorem UO.cells (u:UO w B l e vf vh vw f h W wr):(wr.cell? ⟨B,0,none⟩=some vf∧wr.cell? ⟨B,1,none⟩=some vh∧wr.cell? ⟨B,2,none⟩=some vw)∧wr.frozen? ⟨B,2,none⟩=false :=
 ⟨⟨Dd _ _ 0 _ _ _ u.2.2.1,Dd _ _ 1 _ _ _ u.2.2.1,Dd _ _ 2 _ _ _ u.2.2.1⟩,Lib.frozen_of_heap u.2.2.1 2⟩
end
theorem A8 {w wr w':World} {B:Nat} {l:List UInt8} {e:Nat} {vf vh vw:Value} {f h:List Ent} {W:List Wr} (u:UO w B l e vf vh vw f h W wr) (hg:wr.grownBy w' vw.ownBlock):(∃ x,w'.cell? ⟨B,2,none⟩=some x)∧w'.frozen? ⟨B,2,none⟩=false:=by
 have hB:=(DF.1 u.2.2.1).1;have e3:=(hg.block _ hB (fun e=>iw u.2.2.2.2.2.2 u.2.2.1 (by decide) e.symm)).trans u.2.2.1;exact ⟨⟨_,Dd _ _ 2 _ _ _ e3⟩,Lib.frozen_of_heap e3 2⟩
theorem Cq {x:Wr} (h:wE x=0):WrOk x:=(dg h).2.2.2.2.2.2.2.2.2
def te (w:World) (s:List UInt8) (e:Ending) (w':World):Prop :=
 Below w.heap.size w w'∧((∃ x,unO s=.inl x∧x≠0∧e=.returned (.tuple #[.agg #[.slice none 0 0,.slice none 0 0,.slice none 0 0],.iface 26 (.int .i64 x)])) ∨
  ∃ f h l vf vh vw,unO s=.inr (f,h,l)∧e=.returned (.tuple #[.agg #[vf,vh,vw],.nilIface])∧aJ w' (w.heap.size+1) vf vh vw f h l)
theorem qB (s:ByteArray) (w:World) (hs:s.size≤1000000) (hg:errT w) :
 Calls Tryz.prog 44 #[.string s] w (te w s.data.toList):=by
 obtain ⟨f,l1,e1,h1⟩:∃ f l e,vecS s.data.toList 0=(f,l,e):=⟨_,_,_,rfl⟩;obtain ⟨h,l2,e2,h2⟩:∃ f l e,vecS l1 e1=(f,l,e):=⟨_,_,_,rfl⟩;obtain ⟨n,l3,e3,h3⟩:∃ f l e,numS 60 l2 e2=(f,l,e):=⟨_,_,_,rfl⟩;obtain ⟨WW,l4,e4,h4⟩:∃ f l e,wrsS n l3 e3 []=(f,l,e):=⟨_,_,_,rfl⟩;have HP:=hid (BJ h1 h2 h3 h4);have hn60:n≤60:=by have:=my (most:=60) (by decide) l2 e2;rw [h3] at this;omega
 have HF16:Hid (f.length≤16):=hid (by have:=sA s.data.toList 0;rw [h1] at this;exact this);have HH16:Hid (h.length≤16):=hid (by have:=sA l1 e1;rw [h2] at this;exact this);have HW60:Hid (WW.length=n):=hid (by have:=CY n l3 e3 [];rw [h4] at this;simpa using this);have HWE:Hid (e4=0→∀ x∈WW,wE x=0):=hid (fun he=>by have:=CZ n l3 e3 [] (by simp) (by rw [h4];exact he);rw [h4] at this;exact this);have H1:=hid h1;have H2:=hid h2;have H3:=hid h3;have H4:=hid h4;have HEG:Hid (∀ w',Below w.heap.size w w'→errT w'):=hid (fun w' hb=>hg.below hb);obtain ⟨W0,hW0⟩:∃ W0,(w.alloc (.cells #[.slice none 0 0,.slice none 0 0,.slice none 0 0] 25)).alloc (.cells #[.string s,.nilIface] 132)=W0:=⟨_,rfl⟩;have HR0:Hid (Ro W0 (w.heap.size+1) s.data.toList 0):=hid (by
  refine ⟨s,rfl,hs,?_⟩;have h:=Dg (w.alloc (.cells #[.slice none 0 0,.slice none 0 0,.slice none 0 0] 25)) (.cells #[.string s,.nilIface] 132);rw [DE,hW0] at h;exact h)
 have HD0:Hid (RD1 w W0 (.slice none 0 0) (.slice none 0 0) (.slice none 0 0)):=hid (by
  rw [←hW0];exact RD1.below ⟨Dg w _,(Below.refl _ _).alloc (Db _) _,by simp⟩ ((Below.refl _ _).alloc (Db _) _))
 have HZ0:Hid (W0.heap.size=w.heap.size+2):=hid (by rw [←hW0];simp);clear h1 h2 h3 h4 hg;go_enter Tryz.func44,Tryz.ntmps44
 go_wp2_with fail
 refine (ql (w.heap.size+1) s.data.toList l1 f 0 e1 W0 HR0.out H1.out).mono ?_;rintro r w2 ⟨v,rfl,ho2,hr2,hg2⟩;obtain ⟨af,cf,rfl,_⟩:=ho2.is.form;obtain ⟨nf,hnf⟩:∃ nf,nf=f.length:=⟨_,rfl⟩;rw [←hnf] at ho2 ⊢;have HNF:=hid hnf;have HR2:=hid hr2;have HO2:Hid (ai w2 (w.heap.size+2) (.slice af nf cf) f):=hid (by rw [←HZ0.out];exact ho2);have HD2:=hid (HD0.out.kept hg2 (fun k hk=>by injection hk with hk;omega));have HZ2:Hid (w.heap.size+2≤w2.heap.size):=hid (by have:=hg2.size;have:=HZ0.out;omega);clear ho2 hr2 hg2 hnf;go_wp2_with fail
 refine (ql (w.heap.size+1) l1 l2 h e1 e2 w2 HR2.out H2.out).mono ?_;rintro r w3 ⟨v,rfl,ho3,hr3,hg3⟩;obtain ⟨ah,ch,rfl,_⟩:=ho3.is.form;obtain ⟨nh,hnh⟩:∃ nh,nh=h.length:=⟨_,rfl⟩;rw [←hnh] at ho3 ⊢;have HNH:=hid hnh;have HU3:Hid (UO w w3.heap.size l2 e2 (.slice af nf cf) (.slice ah nh ch) (.slice none 0 0) f h [] (w3.alloc (.cells #[.slice af nf cf,.slice ah nh ch,.slice none 0 0] 25))):=hid (by
  have hb:Below w3.heap.size w3 (w3.alloc (.cells #[.slice af nf cf,.slice ah nh ch,.slice none 0 0] 25)):=(Below.refl _ _).alloc (Db _) _;refine ⟨hr3.below hb,(HD2.out.kept hg3 (fun k hk=>by injection hk with hk;omega)).below hb,Dg w3 _,by have:=hg3.size;have:=HZ2.out;omega,(gj HO2.out (by omega) hg3).alloc _,(ho3.mono HZ2.out).alloc _,dU _ _⟩)
 clear ho3 hr3 hg3 hnh;obtain ⟨B,hB⟩:∃ B,w3.heap.size=B:=⟨_,rfl⟩;rw [hB] at HU3;go_wp2_with fail
 generalize w3.alloc (.cells #[.slice af nf cf,.slice ah nh ch,.slice none 0 0] 25)=w4 at HU3 ⊢;refine (gi (w.heap.size+1) 60 l2 l3 e2 e3 n w4 HU3.out.1 (by decide) (by decide) H3.out).mono ?_;rintro r w5 ⟨rfl,hr5,hg5⟩;have HU5:=hid (HU3.out.get hr5 hg5);clear hr5 hg5 HR2 HO2 HD2 HR0 HD0;go_wp2
 go_loopw [17] (fun i wr=>∃ (j:Nat) (lj:List UInt8) (ej:Nat) (vw:Value) (acc:List Wr),j≤n∧i=.int .i64 j∧acc.length=j∧wrsS (n-j) lj ej acc=(WW,l4,e4)∧UO w B lj ej (.slice af nf cf) (.slice ah nh ch) vw f h acc wr) (fun i _=>n-(intOf i).toNat)
 case atStart=>exact ⟨0,l3,e3,.slice none 0 0,[],Ds _,rfl,rfl,H4.out,HU5.out⟩
 case round =>
  obtain ⟨j,lj,ej,vw,acc,hj,rfl,hacc,hent,us⟩:=hrel;have HUS:=hid us;have HAC:=hid hacc;obtain ⟨aw,cw,rfl,_⟩:=us.2.2.2.2.2.2.is.form;obtain ⟨na,hna⟩:∃ na,na=acc.length:=⟨_,rfl⟩;rw [←hna] at HUS;have HNA:=hid hna;clear us hacc hna HU3 HU5;obtain ⟨⟨b0,b1,b2⟩,zb⟩:=HUS.out.cells;by_cases hlt:j<n
  ·obtain ⟨q,hq⟩:∃ q,n-j=q+1:=⟨n-j-1,by omega⟩;rw [hq] at hent;obtain ⟨⟨ty,ry,ky,keyy,vy,ny⟩,l6,e6,h6⟩:∃ y l e,wrS lj ej=(y,l,e):=⟨_,_,_,rfl⟩;rw [wrsS,h6] at hent;simp only at hent
   have HENT:Hid (wrsS (n-(j+1)) l6 e6 (acc++[⟨ty,ry,ky,keyy,vy,ny⟩])=(WW,l4,e4)):=hid (by rw [show n-(j+1)=q by omega];exact hent);have H6:=hid h6;have HUD:=hid HUS.out.drew;clear h6 hent hq;go_wp2
   go_region_law (first
    | (go_simp;go_at_call 81;(refine (yf (w.heap.size+1) lj l6 ty ry ky keyy vy ny ej e6 wr.drew HUD.out.1 H6.out).mono ?_;rintro r w7 ⟨rfl,hr7,hg7⟩;have HU7:=hid (HUD.out.get hr7 hg7);have HU8:=hid (HU7.out.alloc (.cells #[.int .i64 ty,.int .i64 ry,.int .i64 ky,.string keyy,.string vy,.int .i64 ny] 78));have HBK:Hid (dx (w7.alloc (.cells #[.int .i64 ty,.int .i64 ry,.int .i64 ky,.string keyy,.string vy,.int .i64 ny] 78)) w7.heap.size ⟨ty,ry,ky,keyy,vy,ny⟩):=hid (Dg w7 _);clear hr7 hg7;obtain ⟨⟨_,_,b2⟩,_⟩:=HU7.out.cells;obtain ⟨⟨_,_,b2⟩,_⟩:=HU8.out.cells))
    | (refine AW _ rfl _ _ rfl (w.heap.size+2) _ acc rfl HU8.out.2.2.2.2.2.2 w7.heap.size 1 rfl ⟨ty,ry,ky,keyy,vy,ny⟩ HBK.out (by have:=HAC.out;omega) (by have:=HU7.out.2.1.2.1.size;have:=(DF.1 HU7.out.2.2.1).1;have:=HU7.out.2.2.2.1;simp;omega) ?_;intro g cap w9 ho9 hg9;have HU9:=hid (HU8.out.writes ho9 hg9);have b9:=A8 HU8.out hg9;obtain ⟨⟨_,b90⟩,b91⟩:=b9))
   all_goals
    clear hg9 b90 b91;go_wp2;go_roundw
    case rel=>exact ⟨j+1,l6,e6,_,acc++[⟨ty,ry,ky,keyy,vy,ny⟩],by omega,by go_num,by rw [Df,HAC.out];rfl,HENT.out,HU9.out⟩
    case measure=>simp [intOf];omega
  ·obtain rfl:j=n:=by omega
   rw [Nat.sub_self,wrsS] at hent;injection hent with i1 hent
   injection hent with i2 i3
   subst i1 i2 i3;obtain ⟨T4,hT4,hT4s,hrow4⟩:=HUS.out.1;obtain ⟨c0,c1,_,_,_⟩:=hrow4.cells;have HT4:=hid hT4;obtain ⟨⟨a0,a1,a2⟩,za0,za1,za2⟩:=HUS.out.2.1.cells;clear hrow4 hT4 hT4s;by_cases he:ej=0
   rotate_left
   ·have HRES:Hid (unO s.data.toList=.inl ej):=hid (by rw [HP.out,if_pos he]);rw [gT he] at c1;go_wp2;go_region
    have HM:=hid ((((HUS.out.2.1.put (o:=0) (v:=.slice none 0 0) rfl).put (o:=1) (v:=.slice none 0 0) rfl).put (o:=2) (v:=.slice none 0 0) rfl).below (Below.refl _ _).drew);go_wp2;obtain ⟨⟨q0,q1,q2⟩,_⟩:=HM.out.cells;refine Dc (v:=.tuple #[.agg #[.slice none 0 0,.slice none 0 0,.slice none 0 0],.iface 26 (.int .i64 ej)]) (by simp [results,Tryz.results44,go_sem,q0,q1,q2]) rfl ?_;exact ⟨HM.out.2.1,.inl ⟨ej,HRES.out,he,rfl⟩⟩
   ·subst he;rw [ek] at c1;by_cases hl:0<T4.size
    ·have hne:=eS hl;have hne2:T4.toList.isEmpty=false:=by
      rw [bne_iff_ne] at hne;cases hT:T4.toList with
      | nil=>exact absurd hT hne
      | cons a b=>rfl
     have hne3:(T4.toList == [])=false:=by rw [bne] at hne;simpa using hne
     have HRES:Hid (unO s.data.toList=.inl 3):=hid (by
      rw [HP.out,if_neg (show ¬ (0:Nat)≠0 by simp),if_pos];intro e;have h2:=ac T4;rw [HT4.out,e,List.length_nil] at h2;omega)
     have HM:=hid (((HUS.out.2.1.put (o:=0) (v:=.slice none 0 0) rfl).put (o:=1) (v:=.slice none 0 0) rfl).put (o:=2) (v:=.slice none 0 0) rfl);go_wp2;obtain ⟨⟨q0,q1,q2⟩,_⟩:=HM.out.cells;refine Dc (v:=.tuple #[.agg #[.slice none 0 0,.slice none 0 0,.slice none 0 0],.iface 26 (.int .i64 3)]) (by simp [results,Tryz.results44,go_sem,q0,q1,q2]) rfl ?_;exact ⟨HM.out.2.1,.inl ⟨3,HRES.out,by decide,rfl⟩⟩
    ·obtain rfl:=eV hl;have hlj:lj=[]:=by rw [←HT4.out]
     have HP2:Hid (unO s.data.toList=if (batF f h acc).1≠0 then .inl (batF f h acc).1 else .inr (f,h,acc)):=hid (by rw [HP.out,if_neg (show ¬ (0:Nat)≠0 by simp),if_neg (by rw [hlj];simp)]);obtain ⟨be,bp,hbf⟩:∃ be bp,batF f h acc=(be,bp):=⟨_,_,rfl⟩;have HWO:Hid (∀ t∈acc,WrOk t):=hid (fun t ht=>Cq (HWE.out rfl t ht));have HBT:Hid (aR wr (.slice af nf cf) (.slice ah nh ch) (.slice aw na cw) f h acc):=hid ⟨HUS.out.2.2.2.2.1.is,HUS.out.2.2.2.2.2.1.is,HUS.out.2.2.2.2.2.2.is,by have:=HF16.out;omega,by have:=HH16.out;omega,by have:=HAC.out;omega,HWO.out⟩;have HBF:=hid hbf;rw [hbf] at HP2;clear hl hlj hbf;go_wp2_with fail
     refine (lL _ _ _ f h acc be bp wr HBT.out (HEG.out _ HUS.out.2.1.2.1) HBF.out).mono ?_;rintro r w8 ⟨err,rfl,hat,hb8⟩;have HU8:=hid (HUS.out.below hb8);clear hb8 b0 b1 b2 zb a0 a1 a2 za0 za1 za2 c0 c1;obtain ⟨⟨b0,b1,b2⟩,_⟩:=HU8.out.cells;obtain ⟨⟨a0,a1,a2⟩,za0,za1,za2⟩:=HU8.out.2.1.cells;by_cases hbe:be=0
     ·subst hbe;obtain rfl:=hat.nil rfl;have HRES:Hid (unO s.data.toList=.inr (f,h,acc)):=hid (by rw [HP2.out,if_neg (by simp)]);have HM:=hid (((HU8.out.2.1.put (o:=0) (v:=.slice af nf cf) rfl).put (o:=1) (v:=.slice ah nh ch) rfl).put (o:=2) (v:=.slice aw na cw) rfl);have HBO:Hid (aJ (((w8.setCell ⟨w.heap.size,0,none⟩ (.slice af nf cf)).setCell ⟨w.heap.size,1,none⟩ (.slice ah nh ch)).setCell ⟨w.heap.size,2,none⟩ (.slice aw na cw)) (w.heap.size+1) (.slice af nf cf) (.slice ah nh ch) (.slice aw na cw) f h acc):=hid (by
       have h0:aJ w8 (w.heap.size+1) (.slice af nf cf) (.slice ah nh ch) (.slice aw na cw) f h acc:=⟨HU8.out.2.2.2.2.1.mono (by omega),HU8.out.2.2.2.2.2.1.mono (by omega),HU8.out.2.2.2.2.2.2.mono (by omega),HF16.out,HH16.out,by have:=HAC.out;omega,HWO.out⟩;exact ((h0.keep (ge _ _ _ _) (fun k hk=>by injection hk with hk;omega)).keep (ge _ _ _ _) (fun k hk=>by injection hk with hk;omega)).keep (ge _ _ _ _) (fun k hk=>by injection hk with hk;omega))
      clear hat;go_wp2;obtain ⟨⟨q0,q1,q2⟩,_⟩:=HM.out.cells;refine Dc (v:=.tuple #[.agg #[.slice af nf cf,.slice ah nh ch,.slice aw na cw],.nilIface]) (by simp [results,Tryz.results44,go_sem,q0,q1,q2]) rfl ?_;exact ⟨HM.out.2.1,.inr ⟨f,h,acc,_,_,_,HRES.out,rfl,HBO.out⟩⟩
     ·have HRES:Hid (unO s.data.toList=.inl be):=hid (by rw [HP2.out,if_pos hbe]);have HIE:=hid (hat.isErr hbe);obtain ⟨t,u,rfl⟩:=hat.iface hbe;clear hat;go_wp2_with fail
      refine (e7 _ (be:Int) w8 (HEG.out _ HU8.out.2.1.2.1) HIE.out).mono ?_;rintro r w9 ⟨rfl,hb9⟩;have HU9:=hid (HU8.out.2.1.below hb9);clear hb9 b0 b1 b2 a0 a1 a2 za0 za1 za2;obtain ⟨⟨a0,a1,a2⟩,za0,za1,za2⟩:=HU9.out.cells;have HM:=hid (((HU9.out.put (o:=0) (v:=.slice none 0 0) rfl).put (o:=1) (v:=.slice none 0 0) rfl).put (o:=2) (v:=.slice none 0 0) rfl);go_wp2;obtain ⟨⟨q0,q1,q2⟩,_⟩:=HM.out.cells;refine Dc (v:=.tuple #[.agg #[.slice none 0 0,.slice none 0 0,.slice none 0 0],.iface 26 (.int .i64 be)]) (by simp [results,Tryz.results44,go_sem,q0,q1,q2]) rfl ?_;exact ⟨HM.out.2.1,.inl ⟨be,HRES.out,hbe,rfl⟩⟩
end
