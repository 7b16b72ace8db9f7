import Derived.Test.YtdhognaoejiglaaGreatDoorKb11
import Derived.WalkLawsBesides
namespace Go.Proofs.YtdhognaoejiglaaGreatDoor
open Lib (hid)
set_option maxRecDepth 100000
set_option maxHeartbeats 8000000
section
open Go.RowKit
theorem yj:(Tryz.prog.info? 100).map (·.size)=some 5:=by kernel_rfl
theorem iH (a0 a1 a2 a3 a4:Value):(Tryz.prog.info? 100).map (·.size)=some (#[a0,a1,a2,a3,a4]:Array Value).size:=yj
theorem lQ (k t:ByteArray) (h:Bool) (s:Int) (a:Option Addr) (n c:Nat) (w:World) (hn:n≤9223372036854775807) :
 Calls Tryz.prog 76 #[.agg #[.string k,.bool h,.string t,.int .i64 s,.slice a n c]] w fun e w'=>e=.returned (.bool (h || s != 0 || decide (0<n)))∧Below w.heap.size w w':=by
 cases h with
 | true =>
  go_enter Tryz.func76,Tryz.ntmps76
  go_wp2;go_ret;exact ⟨by first | rfl | simp,(Below.refl _ _).alloc (Nat.le_refl _) _⟩
 | false =>
  by_cases h1:s=0
  ·subst h1;by_cases h2:0<n
   ·have b2:decide ((0:Int)<(n:Int))=true:=by simpa using h2
    go_enter Tryz.func76,Tryz.ntmps76
    go_wp2;go_ret;exact ⟨by rw [decide_eq_true h2];rfl,(Below.refl _ _).alloc (Nat.le_refl _) _⟩
   ·obtain rfl:n=0:=by omega
    go_enter Tryz.func76,Tryz.ntmps76
    go_wp2;go_ret;exact ⟨rfl,(Below.refl _ _).alloc (Nat.le_refl _) _⟩
  ·have b1:(s != 0)=true:=by simpa using h1
   go_enter Tryz.func76,Tryz.ntmps76
   go_wp2;go_ret;exact ⟨by rw [b1];rfl,(Below.refl _ _).alloc (Nat.le_refl _) _⟩
theorem row5 {w:World} {B:Nat} {a0 a1 a2 a3 a4:Value} {T:TypeId} (h:w.heap[B]? = some (.cells #[a0,a1,a2,a3,a4] T (0,0))) :
 w.cell? ⟨B,0,none⟩=some a0∧w.cell? ⟨B,1,none⟩=some a1∧w.cell? ⟨B,2,none⟩=some a2∧w.cell? ⟨B,3,none⟩=some a3∧w.cell? ⟨B,4,none⟩=some a4 ∧
 w.frozen? ⟨B,0,none⟩=false∧w.frozen? ⟨B,1,none⟩=false∧w.frozen? ⟨B,2,none⟩=false∧w.frozen? ⟨B,3,none⟩=false∧w.frozen? ⟨B,4,none⟩=false :=
 ⟨cell_of_row _ _ 0 _ _ _ h,cell_of_row _ _ 1 _ _ _ h,cell_of_row _ _ 2 _ _ _ h,cell_of_row _ _ 3 _ _ _ h,cell_of_row _ _ 4 _ _ _ h,by simp [World.frozen?,h],by simp [World.frozen?,h],by simp [World.frozen?,h],by simp [World.frozen?,h],by simp [World.frozen?,h]⟩
theorem kM (w:World) (a b c:Obj):(((w.alloc a).alloc b).alloc c).heap[w.heap.size]? = some a∧(((w.alloc a).alloc b).alloc c).heap[w.heap.size+1]? = some b∧(((w.alloc a).alloc b).alloc c).heap[w.heap.size+1+1]? = some c:=by
 have old:∀ (W:World) (o:Obj) (k:Nat),k<W.heap.size→(W.alloc o).heap[k]? = W.heap[k]? := fun W o k hk=>(MapKept.heap_alloc W o).2 k hk
 have new:∀ (W:World) (o:Obj),(W.alloc o).heap[W.heap.size]? = some o:=fun W o=>(MapKept.heap_alloc W o).1
 have s1:(w.alloc a).heap.size=w.heap.size+1:=by simp
 have s2:((w.alloc a).alloc b).heap.size=w.heap.size+1+1:=by simp
 refine ⟨?_,?_,?_⟩
 ·rw [old _ _ _ (by omega),old _ _ _ (by omega)];exact new _ _
 ·rw [old _ _ _ (by omega)];have:=new (w.alloc a) b
  rwa [s1] at this
 ·have:=new ((w.alloc a).alloc b) c
  rwa [s2] at this
structure Aft (w w1:World) (k t:ByteArray) (h:Bool) (s:Int) (l:Value) (x:Value):Prop where
 p0:w1.cell? ⟨w.heap.size,0,none⟩=some (.string k)
 p1:w1.cell? ⟨w.heap.size,1,none⟩=some (.bool h)
 p2:w1.cell? ⟨w.heap.size,2,none⟩=some (.string t)
 p3:w1.cell? ⟨w.heap.size,3,none⟩=some (.int .i64 s)
 p4:w1.cell? ⟨w.heap.size,4,none⟩=some l
 q0:w1.cell? ⟨w.heap.size+1+1,0,none⟩=some (.string ⟨#[]⟩)
 q1:w1.cell? ⟨w.heap.size+1+1,1,none⟩=some (.bool false)
 q2:w1.cell? ⟨w.heap.size+1+1,2,none⟩=some (.string ⟨#[]⟩)
 q3:w1.cell? ⟨w.heap.size+1+1,3,none⟩=some (.int .i64 0)
 q4:w1.cell? ⟨w.heap.size+1+1,4,none⟩=some (.slice none 0 0)
 r:w1.heap[w.heap.size+1+1]? = some (.cells #[.string ⟨#[]⟩,.bool false,.string ⟨#[]⟩,.int .i64 0,.slice none 0 0] 100 (0,0))
 f:∀ i,w1.frozen? ⟨w.heap.size,i,none⟩=false
 g:∀ i,w1.frozen? ⟨w.heap.size+1+1,i,none⟩=false
theorem wY {w w1:World} {k t:ByteArray} {h:Bool} {s:Int} {l:Value} {b:Obj} {o:Option Nat}
 (hb:(((w.alloc (.cells #[.string k,.bool h,.string t,.int .i64 s,l] 100)).alloc b).alloc (.cells #[.string ⟨#[]⟩,.bool false,.string ⟨#[]⟩,.int .i64 0,.slice none 0 0] 100)).grownBy w1 o) (ho:∀ g,o=some g→g<w.heap.size):Aft w w1 k t h s l undef:=by
 obtain ⟨h0,_,h2⟩:=kM w (.cells #[.string k,.bool h,.string t,.int .i64 s,l] 100) b (.cells #[.string ⟨#[]⟩,.bool false,.string ⟨#[]⟩,.int .i64 0,.slice none 0 0] 100);have e0:=(hb.block w.heap.size (by simp;omega) (fun e=>by have:=ho _ e.symm;omega)).trans h0;have e2:=(hb.block (w.heap.size+1+1) (by simp) (fun e=>by have:=ho _ e.symm;omega)).trans h2;obtain ⟨p0,p1,p2,p3,p4,_⟩:=row5 e0;obtain ⟨q0,q1,q2,q3,q4,_⟩:=row5 e2;exact ⟨p0,p1,p2,p3,p4,q0,q1,q2,q3,q4,e2,fun i=>by simp [World.frozen?,e0],fun i=>by simp [World.frozen?,e2]⟩
theorem bM {w w':World} (h:Below w.heap.size w w'):w.grownBy w' none:=⟨h.os,h.tape,h.output,h.size,fun k hk _=>h.block k hk⟩
theorem bX {a w:World} {o:Option Nat} (h:a.grownBy w o) {B i:Nat} (v:Value) (hB:a.heap.size≤B):a.grownBy (w.setCell ⟨B,i,none⟩ v) o :=
 ⟨h.os,h.tape,h.output,by rw [show (w.setCell ⟨B,i,none⟩ v).heap.size=w.heap.size from by simp];exact h.size,fun k hk hne=>by
  rw [heap_setCell_other _ _ _ _ (fun e=>by have e2:k=B:=e;omega)];exact h.block k hk hne⟩
theorem bI {a w:World} {o:Option Nat} (h:a.grownBy w o) (x:Obj):a.grownBy (w.alloc x) o :=
 ⟨h.os,h.tape,h.output,by simp;have:=h.size;omega,fun k hk hne=>((MapKept.heap_alloc w x).2 k (Nat.lt_of_lt_of_le hk h.size)).trans (h.block k hk hne)⟩
theorem aW (a:World) (o:Option Nat):a.grownBy a o:=⟨rfl,rfl,rfl,Nat.le_refl _,fun _ _ _=>rfl⟩
theorem cj {a b c:World} {o:Option Nat} (h:a.grownBy b none) (k:b.grownBy c o):a.grownBy c o :=
 ⟨k.os.trans h.os,k.tape.trans h.tape,k.output.trans h.output,Nat.le_trans h.size k.size,fun i hi hne=>(k.block i (Nat.lt_of_lt_of_le hi h.size) hne).trans (h.block i hi (by simp))⟩
theorem kH (w:World) (a b c:Obj):w.grownBy (((w.alloc a).alloc b).alloc c) none:=bI (bI (bI (aW w none) a) b) c
theorem lD {U:World} {B:Nat} {z0 z1 z2 z3 z4:Value} {T:TypeId} (h:U.heap[B]? = some (.cells #[z0,z1,z2,z3,z4] T (0,0))) (a0 a1 a2 a3 a4:Value) :
 (((((U.setCell ⟨B,0,none⟩ a0).setCell ⟨B,1,none⟩ a1).setCell ⟨B,2,none⟩ a2).setCell ⟨B,3,none⟩ a3).setCell ⟨B,4,none⟩ a4).heap[B]? = some (.cells #[a0,a1,a2,a3,a4] T (0,0)) :=
 heap_setCell_same _ _ 4 _ _ a4 (heap_setCell_same _ _ 3 _ _ a3 (heap_setCell_same _ _ 2 _ _ a2 (heap_setCell_same _ _ 1 _ _ a1 (heap_setCell_same _ _ 0 _ _ a0 h))))
theorem x9 (k t:ByteArray) (h:Bool) (s:Int) (la:Option Addr) (ln lc:Nat) (T R:Int) (key val:ByteArray) (N:Int) (w:World) (hv:val.size≤140737488351232) :
 Calls Tryz.prog 75 #[.agg #[.string k,.bool h,.string t,.int .i64 s,.slice la ln lc],.agg #[.int .i64 T,.int .i64 R,.int .i64 1,.string key,.string val,.int .i64 N]] w fun e w' =>
  e=.returned (.agg #[.string k,.bool true,.string val,.int .i64 s,.slice la ln lc])∧w.grownBy w' none:=by
 have hne:¬ w.heap.size+1+1=w.heap.size:=by omega
 have hne2:¬ w.heap.size=w.heap.size+1+1:=by omega
 go_enter Tryz.func75,Tryz.ntmps75
 go_wp2_with (go_at_call 74;refine (bP val _ hv).mono ?_;rintro r w1 ⟨rfl,hb1⟩;have HB:=hid (cj (kH w _ _ _) (bM hb1));obtain ⟨p0,p1,p2,p3,p4,q0,q1,q2,q3,q4,r2,pf,qf⟩:=wY (bM hb1) (fun g e=>by cases e);have R2:=hid r2;have f1:=pf 1;have f2:=pf 2;have f3:=pf 3;have f4:=pf 4;have g0:=qf 0;have g1:=qf 1;have g2:=qf 2;have g3:=qf 3;have g4:=qf 4;clear hb1 pf qf r2)
 obtain ⟨U,hU⟩:∃ U,U=(w1.setCell ⟨w.heap.size,1,none⟩ (.bool true)).setCell ⟨w.heap.size,2,none⟩ (.string val):=⟨_,rfl⟩;have hrow:U.heap[w.heap.size+1+1]? = some (.cells #[.string ⟨#[]⟩,.bool false,.string ⟨#[]⟩,.int .i64 0,.slice none 0 0] 100 (0,0)):=by
  rw [hU,heap_setCell_other _ _ _ _ (by show _≠w.heap.size;omega),heap_setCell_other _ _ _ _ (by show _≠w.heap.size;omega)];exact R2.out
 have hgU:w.grownBy U none:=by rw [hU];exact bX (bX HB.out _ (by omega)) _ (by omega)
 rw [←hU];have hR:=lD hrow (.string k) (.bool true) (.string val) (.int .i64 s) (.slice la ln lc);obtain ⟨W,hW⟩:∃ W,W=((((U.setCell ⟨w.heap.size+1+1,0,none⟩ (.string k)).setCell ⟨w.heap.size+1+1,1,none⟩ (.bool true)).setCell ⟨w.heap.size+1+1,2,none⟩ (.string val)).setCell ⟨w.heap.size+1+1,3,none⟩ (.int .i64 s)).setCell ⟨w.heap.size+1+1,4,none⟩ (.slice la ln lc):=⟨_,rfl⟩;have hgW:w.grownBy W none:=by rw [hW];exact bX (bX (bX (bX (bX hgU _ (by omega)) _ (by omega)) _ (by omega)) _ (by omega)) _ (by omega)
 rw [←hW] at hR ⊢;clear hW hgU hrow hU p0 p1 p2 p3 p4 q0 q1 q2 q3 q4 f1 f2 f3 f4 g0 g1 g2 g3 g4;refine bodyPost_ret (v:=.agg #[.string k,.bool true,.string val,.int .i64 s,.slice la ln lc]) (results_cell_row Tryz.results75 _ _ (w.heap.size+1+1) 100 _ _ _ rfl hR Tryz.underlying100 rfl (iH _ _ _ _ _)) rfl ?_;exact ⟨rfl,hgW⟩
theorem x7 (k t:ByteArray) (h:Bool) (s:Int) (la:Option Addr) (ln lc:Nat) (T R:Int) (key val:ByteArray) (N:Int) (w:World) :
 Calls Tryz.prog 75 #[.agg #[.string k,.bool h,.string t,.int .i64 s,.slice la ln lc],.agg #[.int .i64 T,.int .i64 R,.int .i64 2,.string key,.string val,.int .i64 N]] w fun e w' =>
  e=.returned (.agg #[.string ⟨#[]⟩,.bool false,.string ⟨#[]⟩,.int .i64 0,.slice none 0 0])∧w.grownBy w' none:=by
 have hne:¬ w.heap.size+1+1=w.heap.size:=by omega
 have hne2:¬ w.heap.size=w.heap.size+1+1:=by omega
 go_enter Tryz.func75,Tryz.ntmps75
 go_wp2;refine bodyPost_ret (v:=.agg #[.string ⟨#[]⟩,.bool false,.string ⟨#[]⟩,.int .i64 0,.slice none 0 0]) (results_cell_row Tryz.results75 _ _ (w.heap.size+1+1) 100 _ _ _ rfl (kM w _ _ _).2.2 Tryz.underlying100 rfl (iH _ _ _ _ _)) rfl ?_;exact ⟨rfl,kH w _ _ _⟩
theorem wZ (k t:ByteArray) (h:Bool) (s:Int) (la:Option Addr) (ln lc:Nat) (T R:Int) (key val:ByteArray) (N:Int) (w:World) :
 Calls Tryz.prog 75 #[.agg #[.string k,.bool h,.string t,.int .i64 s,.slice la ln lc],.agg #[.int .i64 T,.int .i64 R,.int .i64 3,.string key,.string val,.int .i64 N]] w fun e w' =>
  e=.returned (.agg #[.string k,.bool h,.string t,.int .i64 (wrap64 (s+N)),.slice la ln lc])∧w.grownBy w' none:=by
 have hne:¬ w.heap.size+1+1=w.heap.size:=by omega
 have hne2:¬ w.heap.size=w.heap.size+1+1:=by omega
 go_enter Tryz.func75,Tryz.ntmps75
 go_wp2;refine bodyPost_ret (v:=.agg #[.string k,.bool h,.string t,.int .i64 (wrap64 (s+N)),.slice la ln lc]) (results_cell_row Tryz.results75 _ _ (w.heap.size+1+1) 100 _ _ _ rfl (kM w _ _ _).2.2 Tryz.underlying100 rfl (iH _ _ _ _ _)) rfl ?_;exact ⟨rfl,kH w _ _ _⟩
end
section
def maxT (l:List Ent):Int:=l.foldl (fun a e=>max a e.time) 0
theorem nS (l:List Ent):∀ a:Int,a≤l.foldl (fun a e=>max a e.time) a∧∀ e∈l,e.time≤l.foldl (fun a e=>max a e.time) a:=by
 induction l with
 | nil=>intro a;exact ⟨Int.le_refl _,fun e h=>(by cases h)⟩
 | cons d r ih =>
  intro a;rw [List.foldl_cons];obtain ⟨h1,h2⟩:=ih (max a d.time);refine ⟨by omega,fun e he=>?_⟩;rcases List.mem_cons.1 he with rfl | he
  ·omega
  ·exact h2 e he
theorem sE (l:List Ent):0≤maxT l:=(nS l 0).1
theorem fc (l:List Ent) (r:Int):ofF l r≤maxT l:=by
 by_cases h:ofF l r=0
 ·have:=sE l;omega
 ·obtain ⟨e,he,_,h2⟩:=jd h;have:=(nS l 0).2 e he;unfold maxT;omega
def lcW (s:LogS) (w:Wr):Wr:={ w with time:=maxT s.hv+1,rep:=s.rep }
def lcJ (s:LogS):Nat×List Ent:=aR s.hv [⟨s.rep,maxT s.hv+1⟩]
def lcE (s:LogS) (w:Wr):Nat:=if 1099511627776≤maxT s.hv then 4 else if wE (lcW s w)≠0 then wE (lcW s w) else if 300≤s.ws.length then 12 else (lcJ s).1
def lcS (s:LogS) (w:Wr):LogS:=⟨s.rep,(lcJ s).2,s.ws++[lcW s w]⟩
theorem nP {s:LogS} {w:Wr} (h:lcE s w=0):maxT s.hv<1099511627776∧wE (lcW s w)=0∧s.ws.length<300∧(lcJ s).1=0:=by
 unfold lcE at h;split at h
 ·cases h
 ·split at h
  ·rename_i h2;exact absurd h h2
  ·split at h
   ·cases h
   ·rename_i h1 h2 h3;exact ⟨by omega,by simpa using h2,by omega,h⟩
theorem nI {a b:List Ent} (h:(aR a b).1=0):aB a∧aB b∧aB (aR a b).2∧∀ r,ofF (aR a b).2 r=max (ofF a r) (ofF b r):=by
 by_cases h1:(aq a).1=0
 ·by_cases h2:(aq b).1=0
  ·by_cases h3:16<(cO a b).length
   ·rw [s6 h1 h2 h3] at h;cases h
   ·rw [kO h1 h2 h3];have ra:=(bO a).1 h1;have rb:=(bO b).1 h2;exact ⟨ra,rb,⟨(by show (cO a b).length≤16;omega),nK ra.2 rb.2⟩,nJ ra.2 rb.2⟩
  ·rw [s5 h1 h2] at h;exact absurd h h2
 ·rw [rY h1] at h;exact absurd h h1
theorem sN (r t x:Int):ofF [⟨r,t⟩] x=if r=x then t else 0:=by
 by_cases h:r=x
 ·rw [du h,if_pos h]
 ·rw [dH h,if_neg h];rfl
theorem kW {s:LogS} (hs:aM s) (h:(lcJ s).1=0) (x:Int):ofF (lcJ s).2 x=if s.rep=x then maxT s.hv+1 else ofF s.hv x:=by
 have h1:=(nI h).2.2.2 x;unfold lcJ;rw [h1,sN];have h2:=fc s.hv x;have h3:=cQ hs.hv.2 x;split <;> omega
theorem kZ {s:LogS} (hs:aM s) {w:Wr} (h:lcE s w=0):aM (lcS s w):=by
 obtain ⟨h1,h2,h3,h4⟩:=nP h;refine ⟨hs.rep,(nI h4).2.2.1,?_,fun x hx=>?_,?_⟩
 ·show (s.ws++[lcW s w]).Pairwise late
  rw [List.pairwise_append];refine ⟨hs.srt,List.pairwise_singleton _ _,fun a ha b hb=>?_⟩;obtain rfl:=List.mem_singleton.1 hb;have h5:=(hs.mem a ha).2;have h6:=fc s.hv a.rep;exact eI.2 (.inl (by show a.time<maxT s.hv+1;omega))
 ·have hx':x∈s.ws++[lcW s w]:=hx;show wE x=0∧x.time≤ofF (lcJ s).2 x.rep
  rw [kW hs h4];rcases List.mem_append.1 hx' with hx | hx
  ·obtain ⟨g1,g2⟩:=hs.mem x hx;refine ⟨g1,?_⟩;have h6:=fc s.hv x.rep;split <;> omega
  ·obtain rfl:=List.mem_singleton.1 hx;refine ⟨h2,?_⟩;rw [if_pos (show s.rep=(lcW s w).rep from rfl)];exact Int.le_refl _
 ·show (s.ws++[lcW s w]).length≤300
  rw [List.length_append];simp;omega
def dp (ws:List Wr) (x:Wr):Prop:=∃ y∈ws,wid y=wid x∧y≠x
open Classical in
noncomputable def twA (ws:List Wr):List Wr→Nat→Option Nat
 | [],_=>none
 | x::r,i=>if dp ws x then some i else twA ws r (i+1)
def bd (ws b:List Wr):List Wr:=b.filter (fun x=>!ws.any (fun y=>decide (wid y=wid x)))
noncomputable def accE (s:LogS) (f h:List Ent) (b:List Wr):Nat×Int :=
 if (batF f h b).1≠0 then batF f h b else if covB s.hv f=false then (10,-1) else if (aR s.hv h).1≠0 then ((aR s.hv h).1,-1) else
  match twA s.ws b 0 with
  | some i=>(9,(i:Int))
  | none=>if 300<s.ws.length+(bd s.ws b).length then (12,-1) else (0,-1)
def accS (s:LogS) (h:List Ent) (b:List Wr):LogS:=⟨s.rep,(aR s.hv h).2,de (s.ws++bd s.ws b)⟩
theorem oT {ws:List Wr} (b:List Wr):∀ i,twA ws b i=none↔∀ x∈b,¬ dp ws x:=by
 induction b with
 | nil=>intro i;exact ⟨fun _ x h=>(by cases h),fun _=>rfl⟩
 | cons x r ih =>
  intro i;rw [twA];by_cases h:dp ws x
  ·rw [if_pos h];exact ⟨fun e=>(by cases e),fun k=>absurd h (k x List.mem_cons_self)⟩
  ·rw [if_neg h,ih];exact ⟨fun k y hy=>by
    rcases List.mem_cons.1 hy with rfl | hy
    ·exact h
    ·exact k y hy,fun k y hy=>k y (List.mem_cons_of_mem _ hy)⟩
theorem ga {ws b:List Wr} {x:Wr}:x∈bd ws b↔x∈b∧∀ y∈ws,wid y≠wid x:=by
 unfold bd;rw [List.mem_filter];simp
theorem wN {s:LogS} {f h:List Ent} {b:List Wr} (ha:(accE s f h b).1=0):aY f h b∧covB s.hv f=true∧(aR s.hv h).1=0∧(∀ x∈b,¬ dp s.ws x)∧s.ws.length+(bd s.ws b).length≤300:=by
 unfold accE at ha;split at ha
 ·rename_i h1;exact absurd ha h1
 ·rename_i h1;split at ha
  ·simp at ha
  ·rename_i h2;split at ha
   ·rename_i h3;exact absurd ha h3
   ·rename_i h3;split at ha
    ·simp at ha
    ·rename_i h4;split at ha
     ·simp at ha
     ·rename_i h5;exact ⟨by unfold aY;simpa using h1,by simpa using h2,by simpa using h3,(oT b 0).1 h4,by omega⟩
theorem pM {s:LogS} (hs:aM s) {f h:List Ent} {b:List Wr} (ha:(accE s f h b).1=0):aM (accS s h b):=by
 obtain ⟨h1,_,h3,_,h5⟩:=wN ha;obtain ⟨_,_,hr,hj⟩:=nI h3;have hb:=(dX.1 h1).2.2;refine ⟨hs.rep,hr,?_,fun x hx=>?_,?_⟩
 ·refine tM ?_;show (s.ws++bd s.ws b).Pairwise _
  rw [List.pairwise_append];exact ⟨kV hs.srt,kV (hb.2.filter _),fun a ha c hc=>(ga.1 hc).2 a ha⟩
 ·have hx':x∈s.ws++bd s.ws b:=oG.1 hx;show wE x=0∧x.time≤ofF (aR s.hv h).2 x.rep
  rw [hj];rcases List.mem_append.1 hx' with hx | hx
  ·obtain ⟨g1,g2⟩:=hs.mem x hx;exact ⟨g1,by omega⟩
  ·obtain ⟨g1,g2⟩:=hb.1 x (ga.1 hx).1;refine ⟨g1,?_⟩;unfold wiF wid at g2;simp only [Bool.and_eq_true,decide_eq_true_eq] at g2
   omega
 ·show (de (s.ws++bd s.ws b)).length≤300
  rw [tN,List.length_append];exact h5
theorem oz {s t:LogS} (hs:aM s) (ht:aM t) {h:List Ent} {b:List Wr} (ho:gC s t.hv h b) :
 (∀ x∈b,¬ dp t.ws x)∧bd t.ws b=b∧aR t.hv h=(0,h)∧accE t t.hv h b=if 300<t.ws.length+b.length then (12,-1) else (0,-1):=by
 have hne:∀ x∈b,∀ y∈t.ws,wid y≠wid x:=by
  intro x hx y hy e;have h1:=(ho.mem x).1 hx;have h2:=(ht.mem y hy).2;unfold wid at e;simp only [Prod.mk.injEq] at e
  rw [e.2] at h2;omega
 have h1:∀ x∈b,¬ dp t.ws x:=fun x hx ⟨y,hy,e,_⟩=>hne x hx y hy e
 have h2:bd t.ws b=b:=by
  unfold bd;rw [List.filter_eq_self];intro x hx
  simpa using fun y hy=>hne x hx y hy
 have hj:cO t.hv h=h:=nW (nK ht.hv.2 ho.right.2) ho.right.2 (fun r=>by rw [nJ ht.hv.2 ho.right.2];have:=ho.lo r;omega);have h3:aR t.hv h=(0,h):=by
  rw [kO ((bO _).2 ht.hv) ((bO _).2 ho.right) (by rw [hj];have:=ho.right.1;omega),hj]
 refine ⟨h1,h2,h3,?_⟩;have h4:(batF t.hv h b).1=0:=oE hs ht.hv ho;unfold accE;rw [if_neg (by rw [h4];simp),if_neg (by rw [(fu ht.hv ht.hv).2 (fun _=>Int.le_refl _)];simp),h3,if_neg (by simp),(oT b 0).2 h1,h2]
structure cW (U:List Wr) (L:List LogS):Prop where
 ids:∀ x∈U,∀ y∈U,wid x=wid y→x=y
 ok:∀ s∈L,aM s
 rep:∀ (i:Nat) s,L[i]? = some s→s.rep=i
 own:∀ (i:Nat) s,L[i]? = some s→∀ x∈U,x.rep=i→x.time≤ofF s.hv i
 cov:∀ (i:Nat) s,L[i]? = some s→∀ t∈L,ofF t.hv i≤ofF s.hv i
 out:∀ s∈L,∀ r:Int,(r<0∨(L.length:Int)≤r)→ofF s.hv r=0
 ws:∀ s∈L,∀ x,x∈s.ws↔x∈U∧x.time≤ofF s.hv x.rep
theorem CT (n:Nat) (hn:n≤201):cW [] ((List.range n).map fun i:Nat=>(⟨(i:Int),[],[]⟩:LogS)):=by
 have hm:∀ s∈(List.range n).map fun i:Nat=>(⟨(i:Int),[],[]⟩:LogS),∃ i:Nat,i<n∧s=⟨(i:Int),[],[]⟩:=fun s hs=>by
  obtain ⟨i,hi,rfl⟩:=List.mem_map.1 hs;exact ⟨i,List.mem_range.1 hi,rfl⟩
 have hi:∀ (i:Nat) s,((List.range n).map fun i:Nat=>(⟨(i:Int),[],[]⟩:LogS))[i]? = some s→s=⟨(i:Int),[],[]⟩:=fun i s h=>by
  obtain ⟨hlt,e⟩:=List.getElem?_eq_some_iff.1 h;rw [←e];simp
 refine ⟨fun x h=>(by cases h),fun s hs=>?_,fun i s h=>by rw [hi i s h],fun i s _ x hx=>(by cases hx),fun i s h t ht=>?_,fun s hs r _=>?_,fun s hs x=>?_⟩
 ·obtain ⟨i,h1,rfl⟩:=hm s hs;exact l5 ⟨by omega,by omega⟩
 ·obtain ⟨j,_,rfl⟩:=hm t ht;rw [hi i s h];exact Int.le_refl _
 ·obtain ⟨i,_,rfl⟩:=hm s hs;rfl
 ·obtain ⟨i,_,rfl⟩:=hm s hs;exact ⟨fun h=>(by cases h),fun h=>(by cases h.1)⟩
theorem dY {α:Type} {L:List α} {i j:Nat} {a b:α} (h:(L.set i a)[j]? = some b):(j=i∧b=a)∨(j≠i∧L[j]? = some b):=by
 by_cases e:j=i
 ·subst e;rw [List.getElem?_set_self' ] at h;cases h2:L[j]? with
  | none=>rw [h2] at h;cases h
  | some c=>rw [h2] at h;left;exact ⟨rfl,(Option.some.inj h).symm⟩
 ·right
  rw [List.getElem?_set_ne (fun e2=>e e2.symm)] at h;exact ⟨e,h⟩
theorem fI {α:Type} {L:List α} {i:Nat} {a b:α} (h:b∈L.set i a):b=a∨b∈L:=by
 rcases List.mem_or_eq_of_mem_set h with h | h
 ·exact .inr h
 ·exact .inl h
theorem CS {U:List Wr} {L:List LogS} (h:cW U L) {i:Nat} {s:LogS} (hi:L[i]? = some s) {w:Wr} (hw:lcE s w=0):cW (lcW s w::U) (L.set i (lcS s w)):=by
 have hs:=List.mem_of_getElem? hi;have ok:=h.ok s hs;obtain ⟨_,h2,_,h4⟩:=nP hw;have hr:s.rep=i:=h.rep i s hi;have hof:=kW ok h4;have hwr:(lcW s w).rep=i:=hr;have hwt:(lcW s w).time=maxT s.hv+1:=rfl;have hil:i<L.length:=(List.getElem?_eq_some_iff.1 hi).1;have hnew:∀ x∈U,wid x≠wid (lcW s w):=by
  intro x hx e;unfold wid at e;simp only [Prod.mk.injEq] at e
  have h5:=h.own i s hi x hx (by rw [e.2,hwr]);have h6:=fc s.hv (i:Int);rw [hwt] at e;omega
 refine ⟨?_,?_,?_,?_,?_,?_,?_⟩
 ·intro x hx y hy e;rcases List.mem_cons.1 hx with ex | hx
  ·rcases List.mem_cons.1 hy with ey | hy
   ·rw [ex,ey]
   ·rw [ex] at e;exact absurd e.symm (hnew y hy)
  ·rcases List.mem_cons.1 hy with ey | hy
   ·rw [ey] at e;exact absurd e (hnew x hx)
   ·exact h.ids x hx y hy e
 ·intro t ht;rcases fI ht with rfl | ht
  ·exact kZ ok hw
  ·exact h.ok t ht
 ·intro j t ht;rcases dY ht with ⟨rfl,rfl⟩ | ⟨_,ht⟩
  ·exact hr
  ·exact h.rep j t ht
 ·intro j t ht x hx e;rcases dY ht with ⟨rfl,rfl⟩ | ⟨hj,ht⟩
  ·show x.time≤ofF (lcJ s).2 j
   rw [hof,if_pos hr];rcases List.mem_cons.1 hx with rfl | hx
   ·exact Int.le_refl _
   ·have:=h.own j s hi x hx e;have:=fc s.hv (j:Int);omega
  ·rcases List.mem_cons.1 hx with rfl | hx
   ·rw [hwr] at e;exact absurd (by omega) hj
   ·exact h.own j t ht x hx e
 ·intro j t ht u hu0;have hu':ofF u.hv j≤if s.rep=j then maxT s.hv+1 else ofF t.hv j:=by
   rcases fI hu0 with rfl | hu
   ·show ofF (lcJ s).2 j≤_
    rw [hof];split
    ·exact Int.le_refl _
    ·rename_i hne;rcases dY ht with ⟨rfl,rfl⟩ | ⟨_,ht⟩
     ·exact absurd hr hne
     ·exact h.cov j t ht s hs
   ·split
    ·rename_i he;have hj:j=i:=by omega
     subst hj;have:=h.cov j s hi u hu;have:=fc s.hv (j:Int);omega
    ·rename_i hne;rcases dY ht with ⟨rfl,rfl⟩ | ⟨_,ht⟩
     ·exact absurd hr hne
     ·exact h.cov j t ht u hu
  rcases dY ht with ⟨rfl,rfl⟩ | ⟨hj,ht⟩
  ·show _≤ofF (lcJ s).2 j
   rw [hof,if_pos hr]
   rwa [if_pos hr] at hu'
  ·rwa [if_neg (by omega)] at hu'
 ·intro t ht r hout;rw [List.length_set] at hout;rcases fI ht with rfl | ht
  ·show ofF (lcJ s).2 r=0
   rw [hof,if_neg (by omega)];exact h.out s hs r hout
  ·exact h.out t ht r hout
 ·intro t ht x;obtain ⟨j,hj⟩:=List.getElem?_of_mem ht;rcases dY hj with ⟨rfl,rfl⟩ | ⟨hji,hj⟩
  ·show x∈s.ws++[lcW s w]↔x∈lcW s w::U∧x.time≤ofF (lcJ s).2 x.rep
   rw [hof,List.mem_append,List.mem_singleton,List.mem_cons,h.ws s hs]
   constructor
   ·rintro (⟨h1,h3⟩ | rfl)
    ·refine ⟨.inr h1,?_⟩;have:=fc s.hv x.rep;split <;> omega
    ·refine ⟨.inl rfl,?_⟩;rw [if_pos (show s.rep=(lcW s w).rep from rfl)];exact Int.le_refl _
   ·rintro ⟨rfl | h1,h3⟩
    ·exact .inr rfl
    ·left
     refine ⟨h1,?_⟩;split at h3
     ·rename_i he;have:=h.own j s hi x h1 (by omega);rw [show x.rep=(j:Int) by omega];exact this
     ·exact h3
  ·have htm:=List.mem_of_getElem? hj;rw [h.ws t htm,List.mem_cons]
   constructor
   ·rintro ⟨h1,h3⟩;exact ⟨.inr h1,h3⟩
   ·rintro ⟨rfl | h1,h3⟩
    ·rw [hwr,hwt] at h3;have h5:=h.cov i s hi t htm;have h6:=fc s.hv (i:Int);omega
    ·exact ⟨h1,h3⟩
theorem CU {U:List Wr} {L:List LogS} (h:cW U L) {j:Nat} {s t:LogS} (hs:s∈L) (hj:L[j]? = some t) {hh:List Ent} {b:List Wr} (ho:gC s t.hv hh b) (ha:(accE t t.hv hh b).1=0) :
 accS t hh b=⟨t.rep,hh,de (t.ws++b)⟩∧cW U (L.set j (accS t hh b)):=by
 have ht:=List.mem_of_getElem? hj;obtain ⟨_,h2,h3,_⟩:=oz (h.ok s hs) (h.ok t ht) ho;have eS:accS t hh b=⟨t.rep,hh,de (t.ws++b)⟩:=by unfold accS;rw [h2,h3]
 refine ⟨eS,h.ids,?_,?_,?_,?_,?_,?_⟩
 ·intro u hu;rcases fI hu with rfl | hu
  ·exact pM (h.ok t ht) ha
  ·exact h.ok u hu
 ·intro i u hu;rcases dY hu with ⟨rfl,rfl⟩ | ⟨_,hu⟩
  ·exact h.rep i t hj
  ·exact h.rep i u hu
 ·intro i u hu x hx e;rcases dY hu with ⟨rfl,rfl⟩ | ⟨_,hu⟩
  ·rw [eS];have h5:=h.own i t hj x hx e;have h6:=ho.lo (i:Int);show x.time≤ofF hh i
   omega
  ·exact h.own i u hu x hx e
 ·intro i u hu v hv;have hv':ofF v.hv i≤ofF hh i∨∃ y∈L,ofF v.hv i≤ofF y.hv i:=by
   rcases fI hv with rfl | hv
   ·rw [eS];exact .inl (Int.le_refl _)
   ·exact .inr ⟨v,hv,Int.le_refl _⟩
  rcases dY hu with ⟨rfl,rfl⟩ | ⟨_,hu⟩
  ·rw [eS];show _≤ofF hh i
   rcases hv' with hv' | ⟨y,hy,hv'⟩
   ·exact hv'
   ·have:=h.cov i t hj y hy;have:=ho.lo (i:Int);omega
  ·rcases hv' with hv' | ⟨y,hy,hv'⟩
   ·have:=ho.hi (i:Int);have:=h.cov i u hu s hs;omega
   ·have:=h.cov i u hu y hy;omega
 ·intro u hu r hout;rw [List.length_set] at hout;rcases fI hu with rfl | hu
  ·rw [eS];show ofF hh r=0
   have h1:=ho.hi r;have h5:=ho.lo r;rw [h.out s hs r hout] at h1;rw [h.out t ht r hout] at h5;omega
  ·exact h.out u hu r hout
 ·intro u hu x;rcases fI hu with rfl | hu
  ·rw [eS];show x∈de (t.ws++b)↔x∈U∧x.time≤ofF hh x.rep
   rw [oG,List.mem_append,h.ws t ht,ho.mem,h.ws s hs];have h1:=ho.lo x.rep;have h5:=ho.hi x.rep
   constructor
   ·rintro (⟨g1,g2⟩ | ⟨⟨g1,_⟩,_,g3⟩)
    ·exact ⟨g1,by omega⟩
    ·exact ⟨g1,g3⟩
   ·rintro ⟨g1,g2⟩;by_cases e:x.time≤ofF t.hv x.rep
    ·exact .inl ⟨g1,e⟩
    ·exact .inr ⟨⟨g1,by omega⟩,by omega,g2⟩
  ·exact h.ws u hu x
end
section
open Go.RowKit
def ic (f h:List Ent) (l:List Wr) (f2 h2:List Ent) (l2:List Wr):Bool:=decide (f=f2) && decide (h=h2) && decide (l=l2)
theorem DD (f h:List Ent) (l:List Wr):ic f h l f h l=true:=by simp [ic]
def bat2 (w:World) (B:Nat) (a b c d e g:Value):Prop :=
 w.cell? ⟨B,0,none⟩=some a∧w.cell? ⟨B,1,none⟩=some b∧w.cell? ⟨B,2,none⟩=some c∧w.cell? ⟨B+1,0,none⟩=some d∧w.cell? ⟨B+1,1,none⟩=some e∧w.cell? ⟨B+1,2,none⟩=some g
theorem xv (w:World) (a b c d e g:Value) (t u:TypeId):bat2 ((w.alloc (.cells #[a,b,c] t)).alloc (.cells #[d,e,g] u)) w.heap.size a b c d e g:=by
 unfold bat2;simp
theorem bat2.drewN {w:World} {B:Nat} {a b c d e g:Value} (h:bat2 w B a b c d e g) (n:Nat):bat2 (w.drewN n) B a b c d e g:=h
end
section
def accW (ws b:List Wr):List Wr:=de (ws++bd ws b)
theorem fS {ws b:List Wr} {x:Wr}:x∈accW ws b↔x∈ws∨x∈bd ws b:=by unfold accW;rw [oG,List.mem_append]
theorem mw (ws b:List Wr):(accW ws b).length=ws.length+(bd ws b).length:=by unfold accW;rw [tN,List.length_append]
theorem fR {ws b:List Wr} (hw:ws.Pairwise late) (hb:b.Pairwise late):(accW ws b).Pairwise late:=by
 refine tM ?_;show (ws++bd ws b).Pairwise _
 rw [List.pairwise_append];exact ⟨kV hw,kV (hb.filter _),fun a ha c hc=>(ga.1 hc).2 a ha⟩
theorem pL {ws:List Wr} (hw:ws.Pairwise late):accW ws []=ws :=
 kU (fR hw List.Pairwise.nil) hw (fun c=>by rw [fS,ga];simp)
theorem gx {b:List Wr} (hb:b.Pairwise late) (k:Nat):(b.take k).Pairwise late:=hb.sublist (List.take_sublist k b)
theorem lX {b:List Wr} {k:Nat} {x:Wr} (hx:b[k]? = some x):b.take (k+1)=b.take k++[x]:=by rw [List.take_add_one,hx];rfl
theorem ED {b:List Wr} (hb:b.Pairwise late) {k:Nat} {x:Wr} (hx:b[k]? = some x):∀ y∈b.take k,wid y≠wid x:=by
 intro y hy;have h:=gx hb (k+1);rw [lX hx,List.pairwise_append] at h;exact dr (h.2.2 y hy x List.mem_cons_self)
theorem ri {ws b:List Wr} {k:Nat} {x:Wr} (hx:b[k]? = some x) (y:Wr):y∈bd ws (b.take (k+1))↔y∈bd ws (b.take k)∨y=x∧∀ z∈ws,wid z≠wid x:=by
 rw [lX hx,ga,ga,List.mem_append,List.mem_singleton]
 constructor
 ·rintro ⟨h | rfl,h2⟩
  ·exact .inl ⟨h,h2⟩
  ·exact .inr ⟨rfl,h2⟩
 ·rintro (⟨h,h2⟩ | ⟨rfl,h2⟩)
  ·exact ⟨.inl h,h2⟩
  ·exact ⟨.inr rfl,h2⟩
theorem wR {ws b:List Wr} (hw:ws.Pairwise late) (hb:b.Pairwise late) {k:Nat} {x y:Wr} (hx:b[k]? = some x) (hy:y∈ws) (e:wid y=wid x):accW ws (b.take (k+1))=accW ws (b.take k) :=
 kU (fR hw (gx hb _)) (fR hw (gx hb _)) (fun c=>by
  rw [fS,fS,ri hx]
  constructor
  ·rintro (h | h | ⟨rfl,h⟩)
   ·exact .inl h
   ·exact .inr h
   ·exact absurd e (h y hy)
  ·rintro (h | h)
   ·exact .inl h
   ·exact .inr (.inl h))
theorem wQ {ws b:List Wr} (hb:b.Pairwise late) {k:Nat} {x y:Wr} (hx:b[k]? = some x) (hy:y∈accW ws (b.take k)) (e:wid y=wid x):y∈ws:=by
 rcases fS.1 hy with h | h
 ·exact h
 ·exact absurd e (ED hb hx y (ga.1 h).1)
theorem wP {ws b:List Wr} (hw:ws.Pairwise late) (hb:b.Pairwise late) {k:Nat} {x:Wr} (hx:b[k]? = some x) {p:Nat} (hp:p≤(accW ws (b.take k)).length)
 (h1:∀ i y,i<p→(accW ws (b.take k))[i]? = some y→late y x) (h2:∀ i y,p≤i→(accW ws (b.take k))[i]? = some y→late x y) :
 accW ws (b.take (k+1))=(accW ws (b.take k)).take p++x::(accW ws (b.take k)).drop p:=by
 obtain ⟨A,hA⟩:∃ A,A=accW ws (b.take k):=⟨_,rfl⟩;have hl:A.Pairwise late:=by rw [hA];exact fR hw (gx hb _)
 have hm:∀ c,c∈A↔c∈ws∨c∈bd ws (b.take k):=fun c=>by rw [hA,fS]
 rw [←hA] at h1 h2 hp ⊢;have t1:∀ y∈A.take p,late y x:=fun y hy=>by
  obtain ⟨i,hi,e⟩:=List.getElem_of_mem hy;have hip:i<p:=by rw [List.length_take] at hi;omega
  refine h1 i y hip ?_;rw [←List.getElem?_take_of_lt hip,List.getElem?_eq_getElem hi,e]
 have t2:∀ y∈A.drop p,late x y:=fun y hy=>by
  obtain ⟨i,hi,e⟩:=List.getElem_of_mem hy;refine h2 (p+i) y (by omega) ?_;rw [←List.getElem?_drop,List.getElem?_eq_getElem hi,e]
 have hn:∀ z∈A,wid z≠wid x:=fun z hz=>by
  rw [←List.take_append_drop p A] at hz;rcases List.mem_append.1 hz with hz | hz
  ·exact dr (t1 z hz)
  ·exact fun e=>dr (t2 z hz) e.symm
 refine kU (fR hw (gx hb _)) ?_ (fun c=>?_)
 ·rw [List.pairwise_append,List.pairwise_cons];have hs:=hl;rw [←List.take_append_drop p A,List.pairwise_append] at hs;refine ⟨hs.1,⟨t2,hs.2.1⟩,fun a ha c hc=>?_⟩;rcases List.mem_cons.1 hc with rfl | hc
  ·exact t1 a ha
  ·exact hs.2.2 a ha c hc
 ·rw [fS,ri hx,List.mem_append,List.mem_cons];have hd:c∈A↔c∈A.take p∨c∈A.drop p:=by rw [←List.mem_append,List.take_append_drop]
  constructor
  ·rintro (h | h | ⟨rfl,_⟩)
   ·rcases hd.1 ((hm c).2 (.inl h)) with h | h
    ·exact .inl h
    ·exact .inr (.inr h)
   ·rcases hd.1 ((hm c).2 (.inr h)) with h | h
    ·exact .inl h
    ·exact .inr (.inr h)
   ·exact .inr (.inl rfl)
  ·rintro (h | rfl | h)
   ·rcases (hm c).1 (hd.2 (.inl h)) with h | h
    ·exact .inl h
    ·exact .inr (.inl h)
   ·exact .inr (.inr ⟨rfl,fun z hz=>hn z ((hm z).2 (.inl hz))⟩)
   ·rcases (hm c).1 (hd.2 (.inr h)) with h | h
    ·exact .inl h
    ·exact .inr (.inl h)
theorem F0 {ws:List Wr} (b:List Wr):∀ (k i:Nat) (x:Wr),(∀ y∈b.take k,¬ dp ws y)→b[k]? = some x→dp ws x→twA ws b i=some (i+k):=by
 induction b with
 | nil=>intro k i x _ h;cases h
 | cons c r ih =>
  intro k i x hn hx hc;rw [twA];cases k with
  | zero =>
   obtain rfl:c=x:=by simpa using hx
   rw [if_pos hc];rfl
  | succ k =>
   rw [if_neg (hn c (by simp)),ih k (i+1) x (fun y hy=>hn y (by simp [hy])) (by simpa using hx) hc]
   congr 1;omega
noncomputable def togE (ws b:List Wr):Nat×Int :=
 match twA ws b 0 with
 | some i=>(9,(i:Int))
 | none=>if 300<ws.length+(bd ws b).length then (12,-1) else (0,-1)
end
section
def bz (f:List Ent) (l:List Wr):List Ent:=tab (fun r=>topT f l (r:Int)) 201
theorem EZ (f:List Ent) (l:List Wr) (x:Wr) (r:Int):topT f (l++[x]) r=if x.rep=r then max (topT f l r) x.time else topT f l r:=by
 unfold topT;rw [List.foldl_append];rfl
theorem De {f:List Ent} (hf:aB f):bz f []=f:=Ev hf.2
def InV (hv:List Ent) (l:List Wr):Prop:=∀ x∈l,0≤x.rep∧x.rep≤200∧1≤x.time∧x.time≤1099511627776∧x.time≤ofF hv x.rep
theorem om {hv f:List Ent} {l:List Wr} (hh:aB hv) (hf:aB f) (hc:∀ r,ofF f r≤ofF hv r) (hl:InV hv l) :
 (∀ r,ofF f r≤topT f l r∧topT f l r≤ofF hv r)∧(∀ r,ofF (bz f l) r=topT f l r)∧aB (bz f l):=by
 have hT:∀ r:Int,ofF f r≤topT f l r∧topT f l r≤ofF hv r:=by
  intro r;refine ⟨(m3 r l _).1,?_⟩;rcases oS r l (ofF f r) with h | ⟨x,hx,hr,h⟩
  ·unfold topT;rw [h];exact hc r
  ·unfold topT;rw [h,←hr];exact (hl x hx).2.2.2.2
 have hof:∀ r,ofF (bz f l) r=topT f l r:=by
  intro r;unfold bz;rw [l9];have h1:=hT r;have h2:=cQ hf.2 r;by_cases hr:0≤r∧r≤200
  ·have e:(r.toNat:Int)=r:=by omega
   rw [e];split
   ·rfl
   ·omega
  ·have h3:=gi hf.2 (x:=r) (by omega);have h4:=gi hh.2 (x:=r) (by omega);rw [if_neg (by omega)];omega
 have hov:okV (-1) (bz f l):=lV (f:=fun r=>topT f l (r:Int)) (fun r=>Int.le_trans (hT r).2 (cQ hh.2 _).2) (Nat.le_refl 201);refine ⟨hT,hof,?_,hov⟩;have hsub:∀ e∈bz f l,∃ d∈hv,d.rep=e.rep:=by
  intro e he;have h1:=nV hov he;have h2:=bJ hov e he;have h3:=hof e.rep;have h4:=(hT e.rep).2;obtain ⟨d,hd,h5,_⟩:=jd (l:=hv) (x:=e.rep) (by omega);exact ⟨d,hd,h5⟩
 have hnd:∀ {l:List Ent} {a:Int},okV a l→(l.map (·.rep)).Nodup:=by
  intro l
  induction l with
  | nil=>intro a _;exact List.nodup_nil
  | cons e r ih =>
   intro a h;rw [List.map_cons,List.nodup_cons];refine ⟨fun hm=>?_,ih h.2⟩;obtain ⟨d,hd,he⟩:=List.mem_map.1 hm;have:=bJ h.2 d hd;omega
 have h5:=(hnd hov).length_le_of_subset (l₂:=hv.map (·.rep)) (fun r hr=>by
  obtain ⟨e,he,rfl⟩:=List.mem_map.1 hr;obtain ⟨d,hd,h6⟩:=hsub e he;exact List.mem_map.2 ⟨d,hd,h6⟩)
 rw [List.length_map,List.length_map] at h5;exact Nat.le_trans h5 hh.1
theorem Df {hv f:List Ent} {l:List Wr} {x:Wr} (hh:aB hv) (hf:aB f) (hc:∀ r,ofF f r≤ofF hv r) (hl:InV hv (l++[x])) :
 aR (bz f l) [⟨x.rep,x.time⟩]=(0,bz f (l++[x])):=by
 have hx:=hl x (by simp);obtain ⟨_,h2,h3⟩:=om hh hf hc (l:=l) (fun y hy=>hl y (List.mem_append_left _ hy));obtain ⟨_,h5,h6⟩:=om hh hf hc hl;have h7:aB [(⟨x.rep,x.time⟩:Ent)]:=by
  refine ⟨by simp,?_⟩;exact ⟨im.2 ⟨hx.1,hx.2.1,hx.2.2.1,hx.2.2.2.1,by show (-1:Int)<x.rep;omega⟩,trivial⟩
 have hj:cO (bz f l) [⟨x.rep,x.time⟩]=bz f (l++[x]):=nW (nK h3.2 h7.2) h6.2 (fun r=>by
  rw [nJ h3.2 h7.2,h2,h5,EZ,sN];split
  ·rfl
  ·have:=(m3 r l (ofF f r)).1;have h8:=cQ hf.2 r;have h9:topT f l r=l.foldl (fun a w=>if w.rep=r then max a w.time else a) (ofF f r):=rfl;omega)
 rw [kO ((bO _).2 h3) ((bO _).2 h7) (by rw [hj];have:=h6.1;omega),hj]
theorem A0 {s:LogS} (ok:aM s) {l:List Wr} (h:∀ x∈l,x∈s.ws):InV s.hv l:=fun x hx=>by
 have h1:=ok.mem x (h x hx);have h2:=pu h1.1;exact ⟨h2.2.2.1,h2.2.2.2,h2.1,h2.2.1,h1.2⟩
end
section
structure wf (U:List Wr) (f h:List Ent) (b:List Wr):Prop where
 right:aY f h b
 mem:∀ x,x∈b↔x∈U∧ofF f x.rep<x.time∧x.time≤ofF h x.rep
theorem DW {U:List Wr} {L:List LogS} (h:cW U L) {s:LogS} (hs:s∈L) {f hh:List Ent} {b:List Wr} (hf:aB f) (ho:gC s f hh b):wf U f hh b :=
 ⟨oE (h.ok s hs) hf ho,fun x=>by
  rw [ho.mem,h.ws s hs];have:=ho.hi x.rep;exact ⟨fun ⟨⟨a,_⟩,c,d⟩=>⟨a,c,d⟩,fun ⟨a,c,d⟩=>⟨⟨a,by omega⟩,c,d⟩⟩⟩
theorem CR {U:List Wr} {L:List LogS} (h:cW U L) {s:LogS} (hs:s∈L):s.ws.length≤U.length:=by
 have hn:s.ws.Nodup:=(h.ok s hs).srt.imp (fun {a b} h (e:a=b)=>dr h (by rw [e]));exact hn.length_le_of_subset (fun x hx=>((h.ws s hs x).1 hx).1)
theorem DV {s:LogS} (f:List Ent) (h:s.ws.length≤60):aD s f=aO s f∧aT s f=s.hv:=by
 have hl:(aO s f).length≤60:=Nat.le_trans (List.length_filter_le _ _) h;exact ⟨by unfold aD;rw [if_pos hl],by unfold aT;rw [if_pos hl]⟩
end
