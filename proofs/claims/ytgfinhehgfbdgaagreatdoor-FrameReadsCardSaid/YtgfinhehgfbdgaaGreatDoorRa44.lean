import Derived.Test.YtgfinhehgfbdgaaGreatDoorRa43
import Derived.Test.YtgfinhehgfbdgaaGreatDoorRa38
namespace Go.Proofs.YtgfinhehgfbdgaaGreatDoor
open Go.RowKit
theorem unT_ne {s:List UInt8}:∀ (k a:Nat) (T:List ByteArray) (e p:Nat),unT s k a T=.inl (e,p)→e≠0:=by
 intro k
 induction k with
 | zero=>intro a T e p h;cases h
 | succ k ih =>
   intro a T e p h;rw [unT] at h;split at h
   · rename_i h0;injection h with h;injection h with h1 _;rw [←h1];exact h0
   · exact ih _ _ _ _ h
theorem unOne_ne {s:List UInt8} {h:List Ent} {T:List ByteArray} {a:Nat} {ahead:Int} {e p:Nat} (h0:unOne s h T a ahead=.inl (e,p)):e≠0:=by
 unfold unOne at h0
 repeat' split at h0
 all_goals first
   | (rename_i hx;injection h0 with h0;injection h0 with h1 _;rw [←h1];exact hx)
   | cases h0
theorem unW_ne {s:List UInt8} {h:List Ent} {T:List ByteArray}:∀ (k a:Nat) (ahead:Int) (W:List Wr) (N:List Nat) (e p:Nat),unW s h T k a ahead W N=.inl (e,p)→e≠0:=by
 intro k
 induction k with
 | zero=>intro a ahead W N e p h;cases h
 | succ k ih =>
   intro a ahead W N e p h0;rw [unW] at h0;split at h0
   · rename_i r hr;injection h0 with h0;subst h0;exact unOne_ne hr
   · exact ih _ _ _ _ _ _ h0
theorem unb_ne {s:List UInt8} {x:Nat} {pl:Int} (h:unbF s=.inl (x,pl)):x≠0:=by
 unfold unbF at h
 repeat' split at h
 all_goals first
   | (injection h with h;injection h with h1 _;rw [←h1];first | assumption | decide | (exact unT_ne _ _ _ _ _ (by assumption)) | (exact unW_ne _ _ _ _ _ _ _ (by assumption)))
   | cases h
theorem grown_cell1 (W:World) (b o:Nat) (v:Value):W.grownBy (W.setCell ⟨b,o,none⟩ v) (some b) :=
 ⟨rfl,rfl,rfl,by simp,fun k _ hk=>Below.heap_setCell _ _ _ k (fun e=>hk (by rw [e]))⟩
theorem BatOwn.cell {w:World} {B k:Nat} {vf vh vw:Value} {f h:List Ent} {l:List Wr} (b:BatOwn w B vf vh vw f h l) (hk:k<B) (o:Nat) (v:Value):BatOwn (w.setCell ⟨k,o,none⟩ v) B vf vh vw f h l :=
 b.keep (grown_cell1 w k o v) (fun j hj=>by injection hj with hj;omega)
end Go.Proofs.YtgfinhehgfbdgaaGreatDoor
namespace Go.Proofs.YtgfinhehgfbdgaaGreatDoor
open Go.RowKit
def BReadIs (w:World) (s:List UInt8) (e:Ending) (w':World):Prop :=
 Below w.heap.size w w'∧((∃ x pl err,unbF s=.inl (x,pl)∧x≠0∧e=.returned (.tuple #[.agg #[.slice none 0 0,.slice none 0 0,.slice none 0 0],err])∧anyErr w' err (x,pl)) ∨
   ∃ f h l vf vh vw,unbF s=.inr (f,h,l)∧e=.returned (.tuple #[.agg #[vf,vh,vw],.nilIface])∧BatOwn w' w.heap.size vf vh vw f h l)
theorem anyErr.row {w:World} {v:Value} {r:Nat×Int} {B:Nat} {a:Option Addr} {n c:Nat} {cs:Array Value} (h:anyErr w v r) (hE:w.cell? ⟨B,0,none⟩=some (.slice a n c)):anyErr (w.setRow B cs) v r:=by
 rcases h with (h | ⟨h0,b,h1,h2,h3,h4⟩) | h
 · exact .inl (.inl h)
 · have hne:B≠b:=fun e=>by rw [←e,hE] at h3;cases h3
   have hcell:∀ o,(w.setRow B cs).cell? ⟨b,o,none⟩=w.cell? ⟨b,o,none⟩:=fun o=>by
     simp only [World.cell?,World.setRow,Array.getElem?_modify]
     rw [if_neg hne]
   exact .inl (.inr ⟨h0,b,h1,by simpa [World.setRow] using h2,by rw [hcell];exact h3,by rw [hcell];exact h4⟩)
 · exact .inr h
theorem bat_sized (a b c:Value):(Tryz.prog.info? 25).map (·.size)=some (#[a,b,c]:Array Value).size:=bat_info
set_option maxRecDepth 100000 in
theorem catB_idle (E:Nat) (w:World) :
   CallsD Tryz.prog 147 #[.pointer (some ⟨E,0,none⟩)] .returning w fun r u' w'=>r=.returned (.tuple #[])∧u'=.returning∧w'=w:=by
 have iN:=isErrorN;refine callsD_of_wpS Tryz.func147 rfl fun c₀ cs hu=>?_
 apply wpS_seq
 apply wpS_region
 simp [wpOpsS,go_sem,recoverD,hu,Tryz.ntmps147,Exit.thenS,iN]
 refine wpS_of_wp ?_;rw [show (#[.pointer (some ⟨E,0,none⟩)]++(((((((Array.replicate 9 undef).setIfInBounds 3 .nilIface).setIfInBounds 4 (.tuple #[.nilIface,.bool false])).setIfInBounds 2 (.tuple #[.nilIface,.bool false])).setIfInBounds 5 .nilIface).setIfInBounds 6 (.bool false)).setIfInBounds 0 .nilIface).setIfInBounds 1 (.bool false):Array Value)=#[.pointer (some ⟨E,0,none⟩),.nilIface,.bool false,.tuple #[.nilIface,.bool false],.nilIface,.tuple #[.nilIface,.bool false],.nilIface,.bool false,undef,undef] by kernel_rfl];go_wp2;cases c₀
 simp_all [bodyPostS,results,Tryz.results147]
set_option maxRecDepth 100000 in
theorem catB_pan (E:Nat) (t:TypeId) (v old:Value) (older:List PanicEntry) (w:World) (ht:t=27∨t=82) (h0:w.cell? ⟨E,0,none⟩=some old) (z0:w.frozen? ⟨E,0,none⟩=false) :
   CallsD Tryz.prog 147 #[.pointer (some ⟨E,0,none⟩)] (.panicking ({ v:=.iface t v,recovered:=false }::older)) w fun r u' w' =>
     r=.returned (.tuple #[])∧u'=.panicking ({ v:=.iface t v,recovered:=true }::older)∧w'=w.setCell ⟨E,0,none⟩ (.iface t v):=by
 have iT:∀ (xT:TypeId) (w:World),(Instr.typeAssert (.iface t v) xT 33 true).run Tryz.prog w=.ok (.tuple #[.iface t v,.bool true]) w:=by
   rcases ht with rfl | rfl
   · exact fun xT w=>isErrorE v xT w
   · exact fun xT w=>isErrorA v xT w
 refine callsD_of_wpS Tryz.func147 rfl fun c₀ cs hu=>?_
 apply wpS_seq
 apply wpS_region
 simp [wpOpsS,go_sem,recoverD,hu,Tryz.ntmps147,Exit.thenS,iT]
 refine wpS_of_wp ?_;rw [show (#[.pointer (some ⟨E,0,none⟩)]++(((((((Array.replicate 9 undef).setIfInBounds 3 (.iface t v)).setIfInBounds 4 (.tuple #[.iface t v,.bool true])).setIfInBounds 2 (.tuple #[.iface t v,.bool true])).setIfInBounds 5 (.iface t v)).setIfInBounds 6 (.bool true)).setIfInBounds 0 (.iface t v)).setIfInBounds 1 (.bool true):Array Value)=#[.pointer (some ⟨E,0,none⟩),.iface t v,.bool true,.tuple #[.iface t v,.bool true],.iface t v,.tuple #[.iface t v,.bool true],.iface t v,.bool true,undef,undef] by kernel_rfl];go_wp2;simp [bodyPostS,results,Tryz.results147]
def bdoor (E:Nat):List Deferred:=[{ target:=.fn (Fn.func 147) #[.pointer (some ⟨E,0,none⟩)],args:=#[] }]
def CB (w:World) (vf vh vw:Value) (W:World):Prop :=
 Below w.heap.size w W∧W.heap[w.heap.size]? = some (.cells #[vf,vh,vw] 25 (0,0))∧W.heap[w.heap.size+1]? = some (.cells #[.nilIface] 33 (0,0))
set_option maxRecDepth 100000 in
theorem bdoor_bad {w W:World} {s:List UInt8} {x:Nat} {pl:Int} {t:TypeId} {v:Value} (h:CB w (.slice none 0 0) (.slice none 0 0) (.slice none 0 0) W) (hr:unbF s=.inl (x,pl)) (hx:x≠0) (ha:anyErr W (.iface t v) (x,pl)) (tmps:Array Value)
   (t2:tmps[2]? = some (.pointer (some ⟨w.heap.size,0,none⟩))) (t3:tmps[3]? = some (.pointer (some ⟨w.heap.size+1,0,none⟩))) :
   Leaves Tryz.prog Tryz.f97 tmps (BReadIs w s) (bdoor (w.heap.size+1)) (.panicking [{ v:=.iface t v,recovered:=false }]) W:=by
 obtain ⟨hb,hA,hE⟩:=h;have c0:W.cell? ⟨w.heap.size+1,0,none⟩=some .nilIface:=cell_of_row _ _ 0 _ _ (0,0) hE;unfold bdoor;refine leaves_cons (f:=147) (args:=#[.pointer (some ⟨w.heap.size+1,0,none⟩)]) (by simp) (by simp [go_sem]) ?_;refine (catB_pan (w.heap.size+1) t v .nilIface [] W ha.typed c0 (Lib.frozen_of_heap hE 0)).mono ?_;rintro r' u' w2 ⟨rfl,rfl,rfl⟩;have p0:(W.setCell ⟨w.heap.size+1,0,none⟩ (.iface t v)).cell? ⟨w.heap.size+1,0,none⟩=some (.iface t v):=World.cell?_setCell_same _ _ _ c0;have hA2:=row_setCell (o:=0) hA (show w.heap.size≠w.heap.size+1 by omega) (.iface t v);have q0:=cell_of_row _ _ 0 _ _ _ hA2;have q1:=cell_of_row _ _ 1 _ _ _ hA2;have q2:=cell_of_row _ _ 2 _ _ _ hA2;refine ⟨.tuple #[.agg #[.slice none 0 0,.slice none 0 0,.slice none 0 0],.iface t v],by simp [results,Tryz.results97,go_sem,t2,t3,p0,q0,q1,q2],hb.setCell (by simp) _,.inl ⟨x,pl,.iface t v,hr,hx,rfl,ha.set c0⟩⟩
set_option maxRecDepth 100000 in
theorem bdoor_good {w W:World} {s:List UInt8} {f h:List Ent} {l:List Wr} {vf vh vw:Value} (hc:CB w vf vh vw W) (hr:unbF s=.inr (f,h,l)) (ho:BatOwn W w.heap.size vf vh vw f h l) (tmps:Array Value)
   (t2:tmps[2]? = some (.pointer (some ⟨w.heap.size,0,none⟩))) (t3:tmps[3]? = some (.pointer (some ⟨w.heap.size+1,0,none⟩))) :
   Leaves Tryz.prog Tryz.f97 tmps (BReadIs w s) (bdoor (w.heap.size+1)) .returning W:=by
 obtain ⟨hb,hA,hE⟩:=hc;have p0:W.cell? ⟨w.heap.size+1,0,none⟩=some .nilIface:=cell_of_row _ _ 0 _ _ (0,0) hE;have q0:=cell_of_row _ _ 0 _ _ _ hA;have q1:=cell_of_row _ _ 1 _ _ _ hA;have q2:=cell_of_row _ _ 2 _ _ _ hA;unfold bdoor;refine leaves_cons (f:=147) (args:=#[.pointer (some ⟨w.heap.size+1,0,none⟩)]) (by simp) (by simp [go_sem]) ?_;refine (catB_idle (w.heap.size+1) W).mono ?_;rintro r' u' w2 ⟨rfl,rfl,rfl⟩;refine ⟨.tuple #[.agg #[vf,vh,vw],.nilIface],by simp [results,Tryz.results97,go_sem,t2,t3,p0,q0,q1,q2],hb,.inr ⟨f,h,l,vf,vh,vw,hr,rfl,ho⟩⟩
theorem bat_ones (a1 a2 a3:Option Addr) (n1 n2 n3 c1 c2 c3:Nat):(#[.slice a1 n1 c1,.slice a2 n2 c2,.slice a3 n3 c3]:Array Value).all (·.oneCell')=true:=by simp [Value.oneCell']
theorem bat_same (a b c d e f:Value):(#[a,b,c]:Array Value).size=(#[d,e,f]:Array Value).size:=rfl
set_option maxRecDepth 100000 in
set_option maxHeartbeats 1000000 in
theorem read1_any (b:Nat) (s:ByteArray) (w:World) (hs:s.size≤maxLen) (hg:errT w) (hb:b<w.heap.size) (hc:w.cell? ⟨b,0,none⟩=some (.string s)) :
   Calls Tryz.prog 98 #[.pointer (some ⟨b,0,none⟩)] w (ReadIs w s.data.toList):=by
 have HG:=Lib.hid (hg.alloc (.cells #[.slice none 0 0,.slice none 0 0,.slice none 0 0] 25));have h1:(w.alloc (.cells #[.slice none 0 0,.slice none 0 0,.slice none 0 0] 25)).cell? ⟨b,0,none⟩=some (.string s):=(World.cell?_alloc_lt _ _ _ hb).trans hc;clear hg hc;go_enter Tryz.func98,Tryz.ntmps98
 go_wp2_with fail
 refine (read_any s _ hs HG.out).mono ?_;rintro e w1 ⟨hb1,hcs⟩;have HB:Hid (Below w.heap.size w w1):=Lib.hid (((Below.refl _ _).alloc (Nat.le_refl _) _).trans (hb1.mono (by simp)));rcases hcs with ⟨x,pl,hx,t,u,rfl,hne,hat⟩ | ⟨f,h,l,vf,vh,vw,hx,rfl,ho⟩
 · exact And.intro rfl ⟨HB.out,.inl ⟨x,pl,hx,t,u,rfl,hne,hat⟩⟩
 · obtain ⟨a1,c1,rfl,_⟩:=ho.1.is.form;obtain ⟨a2,c2,rfl,_⟩:=ho.2.1.is.form;obtain ⟨a3,c3,rfl,_⟩:=ho.2.2.1.is.form;generalize f.length=n1 at ho ⊢;generalize h.length=n2 at ho ⊢;generalize l.length=n3 at ho ⊢;have hrow:w1.heap[w.heap.size]? = some (.cells #[.slice none 0 0,.slice none 0 0,.slice none 0 0] 25 (0,0)):=(hb1.block _ (by simp)).trans (heap_alloc_new w _);have HROW:=Lib.hid hrow;have HI:=Lib.hid (bat_sized (.slice a1 n1 c1) (.slice a2 n2 c2) (.slice a3 n3 c3));have HONE:=Lib.hid (bat_ones a1 a2 a3 n1 n2 n3 c1 c2 c3);have HSAME:=Lib.hid (bat_same (.slice none 0 0) (.slice none 0 0) (.slice none 0 0) (.slice a1 n1 c1) (.slice a2 n2 c2) (.slice a3 n3 c3));have HRA:=Lib.hid (row_set hrow #[.slice a1 n1 c1,.slice a2 n2 c2,.slice a3 n3 c3]);have HO:=Lib.hid ((ho.keep (grown_rowQ w1 w.heap.size #[.slice a1 n1 c1,.slice a2 n2 c2,.slice a3 n3 c3]) (fun k hk=>by injection hk with hk;simp;omega)).mono (C:=w.heap.size) (by simp));have HX:=Lib.hid hx;clear hrow ho hb1 hx h1;go_wp2_with (with_reducible refine wpList_store_row rfl _ _ _ rfl _ _ rfl rfl _ _ HROW.out HI.out HSAME.out HONE.out ?_)
   have g0:=cell_of_row _ _ 0 _ _ _ HRA.out;have g1:=cell_of_row _ _ 1 _ _ _ HRA.out;have g2:=cell_of_row _ _ 2 _ _ _ HRA.out;refine bodyPost_ret (v:=.agg #[.slice a1 n1 c1,.slice a2 n2 c2,.slice a3 n3 c3]) (by simp [results,Tryz.results98,go_sem,g0,g1,g2]) rfl ?_;exact ⟨below_row HB.out (Nat.le_refl _) _,.inr ⟨f,h,l,_,_,_,HX.out,rfl,HO.out⟩⟩
set_option maxRecDepth 100000 in
set_option maxHeartbeats 1000000 in
theorem catB_any (b:Nat) (s:ByteArray) (w:World) (hs:s.size≤maxLen) (hg:errT w) (hb:b<w.heap.size) (hc:w.cell? ⟨b,0,none⟩=some (.string s)) :
   Calls Tryz.prog 97 #[.func (.func 98) #[] #[.pointer (some ⟨b,0,none⟩)]] w (BReadIs w s.data.toList):=by
 have hmf:∀ (fn:Fn) (first cap:Array Value) (w:World),(Instr.makeFunc fn first cap).run Tryz.prog w=.ok (.func fn first cap) w:=fun _ _ _ _=>rfl
 obtain ⟨W,hW⟩:∃ W,(w.alloc (.cells #[.slice none 0 0,.slice none 0 0,.slice none 0 0] 25)).alloc (.cells #[.nilIface] 33)=W:=⟨_,rfl⟩;have hbW:Below w.heap.size w W:=by rw [←hW];exact ((Below.refl _ _).alloc (Nat.le_refl _) _).alloc (by simp) _
 have hzW:w.heap.size+2=W.heap.size:=by rw [←hW];simp
 have hcb:CB w (.slice none 0 0) (.slice none 0 0) (.slice none 0 0) W:=by
   refine ⟨hbW,?_,?_⟩
   · rw [←hW,Below.heap_alloc _ _ _ (by simp)];exact heap_alloc_new w _
   · rw [←hW];have h:=heap_alloc_new (w.alloc (.cells #[.slice none 0 0,.slice none 0 0,.slice none 0 0] 25)) (.cells #[.nilIface] 33);simpa using h
 have HF:=Lib.hid (read1_any b s W hs (hg.below hbW) (Nat.lt_of_lt_of_le hb hbW.size) ((hbW.cell hb).trans hc));have HCB:=Lib.hid hcb;have HZW:=Lib.hid hzW;clear hg hb hc hbW hcb hzW
 go_enter_defers Tryz.func97,Tryz.ntmps97
 go_wp2_with fail
 refine HF.out.mono ?_;rintro e w1 ⟨hb1,hcs⟩;have HC1:Hid (CB w (.slice none 0 0) (.slice none 0 0) (.slice none 0 0) w1):=Lib.hid ⟨HCB.out.1.trans (hb1.mono (by have:=HZW.out;omega)),(hb1.block _ (by have:=HZW.out;omega)).trans HCB.out.2.1,(hb1.block _ (by have:=HZW.out;omega)).trans HCB.out.2.2⟩;rcases hcs with ⟨x,pl,hx,t,u,rfl,hne,hat⟩ | ⟨f,h,l,vf,vh,vw,hx,rfl,ho⟩
 · exact bdoor_bad HC1.out hx hne hat _ rfl rfl
 · obtain ⟨a1,c1,rfl,_⟩:=ho.1.is.form;obtain ⟨a2,c2,rfl,_⟩:=ho.2.1.is.form;obtain ⟨a3,c3,rfl,_⟩:=ho.2.2.1.is.form;generalize f.length=n1 at ho ⊢;generalize h.length=n2 at ho ⊢;generalize l.length=n3 at ho ⊢;have HROW:=Lib.hid HC1.out.2.1;have HI:=Lib.hid (bat_sized (.slice a1 n1 c1) (.slice a2 n2 c2) (.slice a3 n3 c3));have HONE:=Lib.hid (bat_ones a1 a2 a3 n1 n2 n3 c1 c2 c3);have HSAME:=Lib.hid (bat_same (.slice none 0 0) (.slice none 0 0) (.slice none 0 0) (.slice a1 n1 c1) (.slice a2 n2 c2) (.slice a3 n3 c3));have hrow1:(w1.setRow w.heap.size #[.slice a1 n1 c1,.slice a2 n2 c2,.slice a3 n3 c3]).heap[w.heap.size+1]? = some (.cells #[.nilIface] 33 (0,0)):=row_setRow HC1.out.2.2 (by omega);have k0:(w1.setRow w.heap.size #[.slice a1 n1 c1,.slice a2 n2 c2,.slice a3 n3 c3]).cell? ⟨w.heap.size+1,0,none⟩=some .nilIface:=cell_of_row _ _ 0 _ _ (0,0) hrow1;have z0:(w1.setRow w.heap.size #[.slice a1 n1 c1,.slice a2 n2 c2,.slice a3 n3 c3]).frozen? ⟨w.heap.size+1,0,none⟩=false:=Lib.frozen_of_heap hrow1 0;have HC2:Hid (CB w (.slice a1 n1 c1) (.slice a2 n2 c2) (.slice a3 n3 c3) ((w1.setRow w.heap.size #[.slice a1 n1 c1,.slice a2 n2 c2,.slice a3 n3 c3]).setCell ⟨w.heap.size+1,0,none⟩ .nilIface)):=Lib.hid ⟨(below_row HC1.out.1 (Nat.le_refl _) _).setCell (by simp) _,row_setCell (row_set HC1.out.2.1 _) (by omega) _,by rw [heap_setCell_same _ _ _ _ _ _ hrow1];rfl⟩
   have HO:=Lib.hid (((ho.keep (grown_rowQ w1 w.heap.size #[.slice a1 n1 c1,.slice a2 n2 c2,.slice a3 n3 c3]) (fun k hk=>by injection hk with hk;have:=HZW.out;omega)).keep (grown_setQ _ (w.heap.size+1) 0 .nilIface) (fun k hk=>by injection hk with hk;have:=HZW.out;omega)).mono (C:=w.heap.size) (by have:=HZW.out;omega));have HX:=Lib.hid hx;clear ho hb1 hx hrow1;go_wp2_with (with_reducible refine wpList_store_row rfl _ _ _ rfl _ _ rfl rfl _ _ HROW.out HI.out HSAME.out HONE.out ?_)
   exact bdoor_good HC2.out HX.out HO.out _ rfl rfl
set_option maxRecDepth 100000 in
set_option maxHeartbeats 1000000 in
theorem bread_any (s:ByteArray) (w:World) (hs:s.size≤maxLen) (hg:errT w):Calls Tryz.prog 50 #[.string s] w (BReadIs w s.data.toList):=by
 have hmf:∀ (fn:Fn) (first cap:Array Value) (w:World),(Instr.makeFunc fn first cap).run Tryz.prog w=.ok (.func fn first cap) w:=fun _ _ _ _=>rfl
 obtain ⟨W,hW⟩:∃ W,(w.alloc (.cells #[.string s] 9)).alloc (.cells #[.slice none 0 0,.slice none 0 0,.slice none 0 0] 25)=W:=⟨_,rfl⟩;have hbW:Below w.heap.size w W:=by rw [←hW];exact ((Below.refl _ _).alloc (Nat.le_refl _) _).alloc (by simp) _
 have hzW:w.heap.size+2=W.heap.size:=by rw [←hW];simp
 have hA:W.heap[w.heap.size+1]? = some (.cells #[.slice none 0 0,.slice none 0 0,.slice none 0 0] 25 (0,0)):=by rw [←hW];have h:=heap_alloc_new (w.alloc (.cells #[.string s] 9)) (.cells #[.slice none 0 0,.slice none 0 0,.slice none 0 0] 25);simpa using h
 have hcs:W.cell? ⟨w.heap.size,0,none⟩=some (.string s):=by rw [←hW,World.cell?_alloc_lt _ _ _ (by simp)];simp
 have HF:=Lib.hid (catB_any w.heap.size s W hs (hg.below hbW) (by omega) hcs);have HBW:=Lib.hid hbW;have HZW:=Lib.hid hzW;have HA:=Lib.hid hA;clear hg hbW hzW hA hcs;go_enter Tryz.func50,Tryz.ntmps50
 go_wp2_with fail
 refine HF.out.mono ?_;rintro e w1 ⟨hb1,hcs⟩;have hrow:w1.heap[w.heap.size+1]? = some (.cells #[.slice none 0 0,.slice none 0 0,.slice none 0 0] 25 (0,0)):=(hb1.block _ (by have:=HZW.out;omega)).trans HA.out;have HROW:=Lib.hid hrow;have HB:Hid (Below w.heap.size w w1):=Lib.hid (HBW.out.trans (hb1.mono HBW.out.size));rcases hcs with ⟨x,pl,err,hx,hx0,rfl,hat⟩ | ⟨f,h,l,vf,vh,vw,hx,rfl,ho⟩
 · have HI:=Lib.hid (bat_sized (.slice none 0 0) (.slice none 0 0) (.slice none 0 0));have HONE:=Lib.hid (bat_ones none none none 0 0 0 0 0 0);have HRA:=Lib.hid (row_set hrow #[.slice none 0 0,.slice none 0 0,.slice none 0 0]);have HAT:=Lib.hid (anyErr.row (cs:=#[.slice none 0 0,.slice none 0 0,.slice none 0 0]) hat (cell_of_row _ _ 0 _ _ _ hrow));have HX:=Lib.hid hx;clear hrow hat hb1 hx;go_wp2_with (with_reducible refine wpList_store_row rfl _ _ _ rfl _ _ rfl rfl _ _ HROW.out HI.out rfl HONE.out ?_)
   have g0:=cell_of_row _ _ 0 _ _ _ HRA.out;have g1:=cell_of_row _ _ 1 _ _ _ HRA.out;have g2:=cell_of_row _ _ 2 _ _ _ HRA.out;refine bodyPost_ret (v:=.tuple #[.agg #[.slice none 0 0,.slice none 0 0,.slice none 0 0],err]) (by simp [results,Tryz.results50,go_sem,g0,g1,g2]) rfl ?_;exact ⟨below_row HB.out (by omega) _,.inl ⟨x,pl,err,HX.out,hx0,rfl,HAT.out⟩⟩
 · obtain ⟨a1,c1,rfl,_⟩:=ho.1.is.form;obtain ⟨a2,c2,rfl,_⟩:=ho.2.1.is.form;obtain ⟨a3,c3,rfl,_⟩:=ho.2.2.1.is.form;generalize f.length=n1 at ho ⊢;generalize h.length=n2 at ho ⊢;generalize l.length=n3 at ho ⊢;have HI:=Lib.hid (bat_sized (.slice a1 n1 c1) (.slice a2 n2 c2) (.slice a3 n3 c3));have HONE:=Lib.hid (bat_ones a1 a2 a3 n1 n2 n3 c1 c2 c3);have HSAME:=Lib.hid (bat_same (.slice none 0 0) (.slice none 0 0) (.slice none 0 0) (.slice a1 n1 c1) (.slice a2 n2 c2) (.slice a3 n3 c3));have HRA:=Lib.hid (row_set hrow #[.slice a1 n1 c1,.slice a2 n2 c2,.slice a3 n3 c3]);have HO:=Lib.hid ((ho.keep (grown_rowQ w1 (w.heap.size+1) #[.slice a1 n1 c1,.slice a2 n2 c2,.slice a3 n3 c3]) (fun k hk=>by injection hk with hk;have:=HZW.out;omega)).mono (C:=w.heap.size) (by have:=HZW.out;omega));have HX:=Lib.hid hx;clear hrow ho hb1 hx;go_wp2_with (with_reducible refine wpList_store_row rfl _ _ _ rfl _ _ rfl rfl _ _ HROW.out HI.out HSAME.out HONE.out ?_)
   have g0:=cell_of_row _ _ 0 _ _ _ HRA.out;have g1:=cell_of_row _ _ 1 _ _ _ HRA.out;have g2:=cell_of_row _ _ 2 _ _ _ HRA.out;refine bodyPost_ret (v:=.tuple #[.agg #[.slice a1 n1 c1,.slice a2 n2 c2,.slice a3 n3 c3],.nilIface]) (by simp [results,Tryz.results50,go_sem,g0,g1,g2]) rfl ?_;exact ⟨below_row HB.out (by omega) _,.inr ⟨f,h,l,_,_,_,HX.out,rfl,HO.out⟩⟩
end Go.Proofs.YtgfinhehgfbdgaaGreatDoor
namespace Go.Proofs.YtgfinhehgfbdgaaGreatDoor
open Go.RowKit
def FReadIs (w:World) (s:List UInt8) (e:Ending) (w':World):Prop :=
 Below w.heap.size w w'∧((∃ x pl err,unfF s=.inl (x,pl)∧x≠0∧e=.returned (.tuple #[.agg #[.slice none 0 0,.slice none 0 0,.slice none 0 0],err])∧anyErr w' err (x,pl)) ∨
   ∃ f h l a1 c1 a2 c2 a3 c3,unfF s=.inr (f,h,l)∧e=.returned (.tuple #[.agg #[.slice a1 f.length c1,.slice a2 h.length c2,.slice a3 l.length c3],.nilIface])∧BatIs w' (.slice a1 f.length c1) (.slice a2 h.length c2) (.slice a3 l.length c3) f h l)
theorem errC_any (w:World) {e:Nat} (he:e≠0):anyErr w (.iface 27 (.int .i64 e)) (e,-1):=.inr ⟨he,rfl,rfl⟩
def RD1 (w W:World) (vf vh vw:Value):Prop :=
 W.heap[w.heap.size]? = some (.cells #[vf,vh,vw] 25 (0,0))∧Below w.heap.size w W∧w.heap.size+1≤W.heap.size
theorem RD1.cells {w W:World} {vf vh vw:Value} (h:RD1 w W vf vh vw) :
   (W.cell? ⟨w.heap.size,0,none⟩=some vf∧W.cell? ⟨w.heap.size,1,none⟩=some vh∧W.cell? ⟨w.heap.size,2,none⟩=some vw)∧W.frozen? ⟨w.heap.size,0,none⟩=false∧W.frozen? ⟨w.heap.size,1,none⟩=false∧W.frozen? ⟨w.heap.size,2,none⟩=false:=by
 obtain ⟨h1,_⟩:=h;exact ⟨⟨cell_of_row _ _ 0 _ _ (0,0) h1,cell_of_row _ _ 1 _ _ (0,0) h1,cell_of_row _ _ 2 _ _ (0,0) h1⟩,Lib.frozen_of_heap h1 0,Lib.frozen_of_heap h1 1,Lib.frozen_of_heap h1 2⟩
theorem RD1.below {w W W2:World} {vf vh vw:Value} (h:RD1 w W vf vh vw) (hb:Below W.heap.size W W2):RD1 w W2 vf vh vw:=by
 obtain ⟨h1,h2,h3⟩:=h;exact ⟨(hb.block _ (by omega)).trans h1,h2.trans (hb.mono h2.size),Nat.le_trans h3 hb.size⟩
theorem RD1.put {w W:World} {vf vh vw uf uh uw v:Value} {o:Nat} (h:RD1 w W vf vh vw) (hs:(#[vf,vh,vw]:Array Value).setIfInBounds o v=#[uf,uh,uw]):RD1 w (W.setCell ⟨w.heap.size,o,none⟩ v) uf uh uw:=by
 obtain ⟨h1,h4,h5⟩:=h;exact ⟨by rw [heap_setCell_same _ _ _ _ _ _ h1,hs],h4.setCell (Nat.le_refl _) _,by simpa using h5⟩
theorem anyErr.cellB {w W:World} {vf vh vw v u:Value} {r:Nat×Int} {o:Nat} (h:anyErr W v r) (hr:RD1 w W vf vh vw) (hv:vf=.slice none 0 0):anyErr (W.setCell ⟨w.heap.size,o,none⟩ u) v r:=by
 rcases h with (h | ⟨h0,b,h1,h2,h3,h4⟩) | h
 · exact .inl (.inl h)
 · have c0:=hr.cells.1.1;have hne:w.heap.size≠b:=fun e=>by rw [←e,c0,hv] at h3;cases h3
   have hcell:∀ j,(W.setCell ⟨w.heap.size,o,none⟩ u).cell? ⟨b,j,none⟩=W.cell? ⟨b,j,none⟩:=fun j=>by
     unfold World.cell?;rw [heap_setCell_other _ _ _ _ (fun e=>hne e.symm)]
   exact .inl (.inr ⟨h0,b,h1,by simpa using h2,by rw [hcell];exact h3,by rw [hcell];exact h4⟩)
 · exact .inr h
theorem bread_err2 (s:ByteArray) (x:Nat) (pl:Int) (w:World) (hs:s.size≤maxLen) (hg:errT w) (hu:unbF s.data.toList=.inl (x,pl)) :
   Calls Tryz.prog 50 #[.string s] w fun e w'=>∃ t u,e=.returned (.tuple #[.agg #[.slice none 0 0,.slice none 0 0,.slice none 0 0],.iface t u])∧anyErr w' (.iface t u) (x,pl)∧Below w.heap.size w w':=by
 refine (bread_any s w hs hg).mono ?_;rintro e w' ⟨hb,⟨x',pl',err,hx,hx0,rfl,ha⟩ | ⟨f',h',l',vf,vh,vw,hx,_⟩⟩
 · rw [hu] at hx;injection hx with hx
   injection hx with h1 h2
   subst h1 h2;obtain ⟨t,u,rfl⟩:=ha.iface hx0;exact ⟨t,u,rfl,ha,hb⟩
 · rw [hu] at hx;cases hx
theorem bread_own (s:ByteArray) (f h:List Ent) (l:List Wr) (w:World) (hs:s.size≤maxLen) (hg:errT w) (hu:unbF s.data.toList=.inr (f,h,l)) :
   Calls Tryz.prog 50 #[.string s] w fun e w'=>∃ a1 c1 a2 c2 a3 c3,e=.returned (.tuple #[.agg #[.slice a1 f.length c1,.slice a2 h.length c2,.slice a3 l.length c3],.nilIface])∧BatOwn w' w.heap.size (.slice a1 f.length c1) (.slice a2 h.length c2) (.slice a3 l.length c3) f h l∧Below w.heap.size w w':=by
 refine (bread_any s w hs hg).mono ?_;rintro e w' ⟨hb,⟨x,pl,err,hx,_⟩ | ⟨f',h',l',vf,vh,vw,hx,rfl,ho⟩⟩
 · rw [hu] at hx;cases hx
 · rw [hu] at hx;injection hx with hx
   injection hx with h1 h2
   injection h2 with h2 h3
   subst h1 h2 h3;obtain ⟨a1,c1,rfl,_⟩:=ho.1.is.form;obtain ⟨a2,c2,rfl,_⟩:=ho.2.1.is.form;obtain ⟨a3,c3,rfl,_⟩:=ho.2.2.1.is.form;exact ⟨a1,c1,a2,c2,a3,c3,rfl,ho,hb⟩
set_option maxRecDepth 100000 in
set_option maxHeartbeats 2400000 in
theorem fread_any (s:ByteArray) (w:World) (hs:s.size≤400000) (hg:errT w) :
   Calls Tryz.prog 15 #[.string s] w (FReadIs w s.data.toList):=by
 have hsz:s.size≤140737488351232:=by omega
 have HW:Hid (RD1 w (w.alloc (.cells #[.slice none 0 0,.slice none 0 0,.slice none 0 0] 25)) (.slice none 0 0) (.slice none 0 0) (.slice none 0 0)):=Lib.hid ⟨heap_alloc_new w _,(Below.refl _ _).alloc (Nat.le_refl _) _,by simp⟩;have HG:=Lib.hid (hg.alloc (.cells #[.slice none 0 0,.slice none 0 0,.slice none 0 0] 25));obtain ⟨v,i,e,ho⟩:∃ v i e,opnF s.data.toList=(v,i,e):=⟨_,_,_,rfl⟩;obtain ⟨J,hJ⟩:∃ J:ByteArray,i=J.data.toList:=⟨⟨i.toArray⟩,by simp⟩;subst hJ;have HO:=Lib.hid ho;clear hg;by_cases he:e=0
 · subst he;have hp:=opn_pos ho;rw [←size_data,←size_data] at hp;by_cases hv:v=3
   · subst hv;obtain ⟨b,e,hp2⟩:∃ b e,unpF J.data.toList=(b,e):=⟨_,_,rfl⟩;obtain ⟨B,hB⟩:∃ B:ByteArray,b=B.data.toList:=⟨⟨b.toArray⟩,by simp⟩;subst hB;have HUP:=Lib.hid hp2;have HPK:Hid (∀ w',errT w'→Calls Tryz.prog 49 #[.string J] w' fun r w2=>r=.returned (.tuple #[.string B,errC e])∧Below w'.heap.size w' w2):=Lib.hid (fun w' hg=>by
       have h1:=unpack_any J w' hp.1 (by omega) hg;rw [hp2] at h1;unfold unpV at h1;simp only [bs_of] at h1
       exact h1)
     by_cases he:e=0
     · subst he;have HBM:Hid (B.size≤maxLen):=Lib.hid (by have:=unp_few hp2;rw [←size_data] at this;unfold maxLen;omega);clear ho hp hp2;rcases hub:unbF B.data.toList with ⟨x,pl⟩ | ⟨f,h,l⟩
       · have HUF:Hid (unfF s.data.toList=.inl (x,pl)):=Lib.hid (unf_body HO.out HUP.out hub);have hx0:=unb_ne hub;have HRD:=Lib.hid (fun w' hg=>bread_err2 B x pl w' HBM.out hg hub);clear hub;go_enter Tryz.func15,Tryz.ntmps15
         go_wp2_with fail
         generalize w.alloc (.cells #[.slice none 0 0,.slice none 0 0,.slice none 0 0] 25)=W at HW HG ⊢;refine (fopen_as s J 3 0 W hsz HO.out).mono ?_;rintro r w1 ⟨rfl,hb⟩;have H1:=Lib.hid (HW.out.below hb);have HG1:=Lib.hid (HG.out.below hb);clear hb;rw [errC_zero];go_wp2_with fail
         refine (HPK.out w1 HG1.out).mono ?_;rintro r w2 ⟨rfl,hb⟩;have H2:=Lib.hid (H1.out.below hb);have HG2:=Lib.hid (HG1.out.below hb);clear hb;rw [errC_zero];go_wp2_with fail
         refine (HRD.out w2 HG2.out).mono ?_;rintro r w3 ⟨t,u,rfl,hae,hb⟩;have hb2:Below w2.heap.size w2 (w3.alloc (.cells #[.slice none 0 0,.slice none 0 0,.slice none 0 0] 25)):=hb.alloc hb.size _;have H3:=Lib.hid (H2.out.below hb2);have HA3:=Lib.hid (hae.below (w':=w3.alloc (.cells #[.slice none 0 0,.slice none 0 0,.slice none 0 0] 25)) ((Below.refl _ _).alloc (Nat.le_refl _) _));clear hb hb2 hae;obtain ⟨⟨c0,c1,c2⟩,z0,z1,z2⟩:=H3.out.cells;have HM:=Lib.hid (((H3.out.put (o:=0) (v:=.slice none 0 0) rfl).put (o:=1) (v:=.slice none 0 0) rfl).put (o:=2) (v:=.slice none 0 0) rfl);have HAE:=Lib.hid (((HA3.out.cellB (o:=0) (u:=.slice none 0 0) H3.out rfl).cellB (o:=1) (u:=.slice none 0 0) (H3.out.put (o:=0) (v:=.slice none 0 0) rfl) rfl).cellB (o:=2) (u:=.slice none 0 0) ((H3.out.put (o:=0) (v:=.slice none 0 0) rfl).put (o:=1) (v:=.slice none 0 0) rfl) rfl);go_wp2;generalize (((w3.alloc (.cells #[.slice none 0 0,.slice none 0 0,.slice none 0 0] 25)).setCell ⟨w.heap.size,0,none⟩ (.slice none 0 0)).setCell ⟨w.heap.size,1,none⟩ (.slice none 0 0)).setCell ⟨w.heap.size,2,none⟩ (.slice none 0 0)=WZ at HM HAE ⊢;obtain ⟨⟨q0,q1,q2⟩,_⟩:=HM.out.cells;refine bodyPost_ret (v:=.tuple #[.agg #[.slice none 0 0,.slice none 0 0,.slice none 0 0],.iface t u]) (by simp [results,Tryz.results15,go_sem,q0,q1,q2]) rfl ?_
         exact ⟨HM.out.2.1,.inl ⟨_,_,_,HUF.out,hx0,rfl,HAE.out⟩⟩
       · obtain ⟨hfr,_,_,_⟩:=frm_of hub;obtain ⟨U,hU⟩:∃ U:ByteArray,frmL B.data.toList=U.data.toList:=⟨⟨(frmL B.data.toList).toArray⟩,by simp⟩;rw [hU] at hfr;have HFR:=Lib.hid hfr;have HUB:=Lib.hid hub;have HRD:=Lib.hid (fun w' hg=>bread_own B f h l w' HBM.out hg hub);have HQQ:Hid (∀ a1 c1 a2 c2 a3 c3 W',Below w.heap.size w W'→unfF s.data.toList=.inr (f,h,l)→BatIs W' (.slice a1 f.length c1) (.slice a2 h.length c2) (.slice a3 l.length c3) f h l→FReadIs w s.data.toList (.returned (.tuple #[.agg #[.slice a1 f.length c1,.slice a2 h.length c2,.slice a3 l.length c3],.nilIface])) W'):=Lib.hid (fun a1 c1 a2 c2 a3 c3 W' h1 h2 h3=>⟨h1,.inr ⟨f,h,l,a1,c1,a2,c2,a3,c3,h2,rfl,h3⟩⟩);clear hfr hub;generalize f.length=nf at HRD HQQ;generalize h.length=nh at HRD HQQ;generalize l.length=nl at HRD HQQ;go_enter Tryz.func15,Tryz.ntmps15
         go_wp2_with fail
         generalize w.alloc (.cells #[.slice none 0 0,.slice none 0 0,.slice none 0 0] 25)=W at HW HG ⊢;refine (fopen_as s J 3 0 W hsz HO.out).mono ?_;rintro r w1 ⟨rfl,hb⟩;have H1:=Lib.hid (HW.out.below hb);have HG1:=Lib.hid (HG.out.below hb);clear hb;rw [errC_zero];go_wp2_with fail
         refine (HPK.out w1 HG1.out).mono ?_;rintro r w2 ⟨rfl,hb⟩;have H2:=Lib.hid (H1.out.below hb);have HG2:=Lib.hid (HG1.out.below hb);clear hb;rw [errC_zero];go_wp2_with fail
         refine (HRD.out w2 HG2.out).mono ?_;rintro r w3 ⟨a1,c1,a2,c2,a3,c3,rfl,ho3,hb⟩;have hb2:Below w2.heap.size w2 (w3.alloc (.cells #[.slice a1 nf c1,.slice a2 nh c2,.slice a3 nl c3] 25)):=hb.alloc hb.size _;have HBK:Hid (w.heap.size+1≤w2.heap.size):=Lib.hid H2.out.2.2;have H3:=Lib.hid (H2.out.below hb2);have HG3:=Lib.hid (HG2.out.below hb2);have HO3:=Lib.hid (ho3.keep (grown_b (w':=w3.alloc (.cells #[.slice a1 nf c1,.slice a2 nh c2,.slice a3 nl c3] 25)) ((Below.refl _ _).alloc (Nat.le_refl _) _)) (fun k hk=>by cases hk));have HA3:=Lib.hid (batAt_new w3 (.slice a1 nf c1) (.slice a2 nh c2) (.slice a3 nl c3) 25);have HZ3:Hid (w3.heap.size<(w3.alloc (.cells #[.slice a1 nf c1,.slice a2 nh c2,.slice a3 nl c3] 25)).heap.size):=Lib.hid (by simp);clear hb hb2 ho3;obtain ⟨d0,d1,d2⟩:=HA3.out;go_wp2_with fail
         generalize w3.alloc (.cells #[.slice a1 nf c1,.slice a2 nh c2,.slice a3 nl c3] 25)=W3 at H3 HG3 HO3 HA3 HZ3 d0 d1 d2 ⊢;generalize hG:w3.heap.size=G at HA3 HZ3 d0 d1 d2 ⊢;clear hG;refine (fwrite_as _ _ _ f h l U 0 (-1) W3 HO3.out.bat HG3.out HFR.out).mono ?_;rintro r w4 ⟨err,rfl,hat,hb⟩;obtain rfl:=hat.nil rfl;have H4:=Lib.hid (H3.out.below hb);have HO4:=Lib.hid (HO3.out.keep (grown_b hb) (fun k hk=>by cases hk));have HA4:=Lib.hid (HA3.out.below hb HZ3.out);clear hb hat d0 d1 d2;by_cases hus:U=s
         · subst hus;have HUF:Hid (unfF U.data.toList=.inr (f,h,l)):=Lib.hid (unf_ok HO.out HUP.out HUB.out hU);have hte:(U.toList == U.toList)=true:=beq_self_eq_true _;have hte2:(U.toList != U.toList)=false:=by simp
           clear hU;obtain ⟨d0,d1,d2⟩:=HA4.out;obtain ⟨⟨c4,c5,c6⟩,z0,z1,z2⟩:=H4.out.cells;have HM:=Lib.hid (((H4.out.put (o:=0) (v:=.slice a1 nf c1) rfl).put (o:=1) (v:=.slice a2 nh c2) rfl).put (o:=2) (v:=.slice a3 nl c3) rfl);have HOM:=Lib.hid (((HO4.out.cell (k:=w.heap.size) (by have:=HBK.out;omega) 0 (.slice a1 nf c1)).cell (k:=w.heap.size) (by have:=HBK.out;omega) 1 (.slice a2 nh c2)).cell (k:=w.heap.size) (by have:=HBK.out;omega) 2 (.slice a3 nl c3));go_wp2;generalize ((w4.setCell ⟨w.heap.size,0,none⟩ (.slice a1 nf c1)).setCell ⟨w.heap.size,1,none⟩ (.slice a2 nh c2)).setCell ⟨w.heap.size,2,none⟩ (.slice a3 nl c3)=WZ at HM HOM ⊢;obtain ⟨⟨q0,q1,q2⟩,_⟩:=HM.out.cells;refine bodyPost_ret (v:=.tuple #[.agg #[.slice a1 nf c1,.slice a2 nh c2,.slice a3 nl c3],.nilIface]) (by simp [results,Tryz.results15,go_sem,q0,q1,q2]) rfl ?_;exact HQQ.out _ _ _ _ _ _ _ HM.out.2.1 HUF.out HOM.out.bat
         · have HUF:Hid (unfF s.data.toList=.inl (13,-1)):=Lib.hid (unf_false HO.out HUP.out HUB.out (fun hx=>hus (bytes_ext (by rw [←hU];exact hx))));have hte:(U.toList == s.toList)=false:=beq_eq_false_iff_ne.2 (fun hx=>hus (bytes_ext (by rw [←toL,←toL];exact hx)));have hte2:(U.toList != s.toList)=true:=by rw [bne,hte];rfl
           clear hU;obtain ⟨⟨c0,c1,c2⟩,z0,z1,z2⟩:=H4.out.cells;have HM:=Lib.hid (((H4.out.put (o:=0) (v:=.slice none 0 0) rfl).put (o:=1) (v:=.slice none 0 0) rfl).put (o:=2) (v:=.slice none 0 0) rfl);have HAE:Hid (anyErr (((w4.setCell ⟨w.heap.size,0,none⟩ (.slice none 0 0)).setCell ⟨w.heap.size,1,none⟩ (.slice none 0 0)).setCell ⟨w.heap.size,2,none⟩ (.slice none 0 0)) (.iface 27 (.int .i64 13)) (13,-1)):=Lib.hid (errC_any _ (by decide));go_wp2;generalize ((w4.setCell ⟨w.heap.size,0,none⟩ (.slice none 0 0)).setCell ⟨w.heap.size,1,none⟩ (.slice none 0 0)).setCell ⟨w.heap.size,2,none⟩ (.slice none 0 0)=WZ at HM HAE ⊢;obtain ⟨⟨q0,q1,q2⟩,_⟩:=HM.out.cells;refine bodyPost_ret (v:=.tuple #[.agg #[.slice none 0 0,.slice none 0 0,.slice none 0 0],.iface 27 (.int .i64 13)]) (by simp [results,Tryz.results15,go_sem,q0,q1,q2]) rfl ?_;exact ⟨HM.out.2.1,.inl ⟨_,_,_,HUF.out,(by decide),rfl,HAE.out⟩⟩
     · have HUF:Hid (unfF s.data.toList=.inl (e,-1)):=Lib.hid (unf_pack HO.out hp2 he);clear ho hp hp2;go_enter Tryz.func15,Tryz.ntmps15
       go_wp2_with fail
       generalize w.alloc (.cells #[.slice none 0 0,.slice none 0 0,.slice none 0 0] 25)=W at HW HG ⊢;refine (fopen_as s J 3 0 W hsz HO.out).mono ?_;rintro r w1 ⟨rfl,hb⟩;have H1:=Lib.hid (HW.out.below hb);have HG1:=Lib.hid (HG.out.below hb);clear hb;rw [errC_zero];go_wp2_with fail
       refine (HPK.out w1 HG1.out).mono ?_;rintro r w2 ⟨rfl,hb⟩;have H2:=Lib.hid (H1.out.below hb);clear hb;rw [errC_ne he];obtain ⟨⟨c0,c1,c2⟩,z0,z1,z2⟩:=H2.out.cells;have HM:=Lib.hid (((H2.out.put (o:=0) (v:=.slice none 0 0) rfl).put (o:=1) (v:=.slice none 0 0) rfl).put (o:=2) (v:=.slice none 0 0) rfl);have HAE:Hid (anyErr (((w2.setCell ⟨w.heap.size,0,none⟩ (.slice none 0 0)).setCell ⟨w.heap.size,1,none⟩ (.slice none 0 0)).setCell ⟨w.heap.size,2,none⟩ (.slice none 0 0)) (.iface 27 (.int .i64 e)) (e,-1)):=Lib.hid (errC_any _ he);go_wp2;generalize ((w2.setCell ⟨w.heap.size,0,none⟩ (.slice none 0 0)).setCell ⟨w.heap.size,1,none⟩ (.slice none 0 0)).setCell ⟨w.heap.size,2,none⟩ (.slice none 0 0)=WZ at HM HAE ⊢;obtain ⟨⟨q0,q1,q2⟩,_⟩:=HM.out.cells;refine bodyPost_ret (v:=.tuple #[.agg #[.slice none 0 0,.slice none 0 0,.slice none 0 0],.iface 27 (.int .i64 e)]) (by simp [results,Tryz.results15,go_sem,q0,q1,q2]) rfl ?_;exact ⟨HM.out.2.1,.inl ⟨_,_,_,HUF.out,he,rfl,HAE.out⟩⟩
   · have HUF:Hid (unfF s.data.toList=.inl (6,-1)):=Lib.hid (unf_state HO.out hv);have hvi:((v:Int) == 3)=false:=by simp;omega
     have hvj:((v:Int) != 3)=true:=by rw [bne,hvi];rfl
     clear ho hp;go_enter Tryz.func15,Tryz.ntmps15
     go_wp2_with fail
     generalize w.alloc (.cells #[.slice none 0 0,.slice none 0 0,.slice none 0 0] 25)=W at HW HG ⊢;refine (fopen_as s J v 0 W hsz HO.out).mono ?_;rintro r w1 ⟨rfl,hb⟩;have H1:=Lib.hid (HW.out.below hb);have HG1:=Lib.hid (HG.out.below hb);clear hb;rw [errC_zero];obtain ⟨⟨c0,c1,c2⟩,z0,z1,z2⟩:=H1.out.cells;have HM:=Lib.hid (((H1.out.put (o:=0) (v:=.slice none 0 0) rfl).put (o:=1) (v:=.slice none 0 0) rfl).put (o:=2) (v:=.slice none 0 0) rfl);have HAE:Hid (anyErr (((w1.setCell ⟨w.heap.size,0,none⟩ (.slice none 0 0)).setCell ⟨w.heap.size,1,none⟩ (.slice none 0 0)).setCell ⟨w.heap.size,2,none⟩ (.slice none 0 0)) (.iface 27 (.int .i64 6)) (6,-1)):=Lib.hid (errC_any _ (by decide));go_wp2;generalize ((w1.setCell ⟨w.heap.size,0,none⟩ (.slice none 0 0)).setCell ⟨w.heap.size,1,none⟩ (.slice none 0 0)).setCell ⟨w.heap.size,2,none⟩ (.slice none 0 0)=WZ at HM HAE ⊢;obtain ⟨⟨q0,q1,q2⟩,_⟩:=HM.out.cells;refine bodyPost_ret (v:=.tuple #[.agg #[.slice none 0 0,.slice none 0 0,.slice none 0 0],.iface 27 (.int .i64 6)]) (by simp [results,Tryz.results15,go_sem,q0,q1,q2]) rfl ?_;exact ⟨HM.out.2.1,.inl ⟨_,_,_,HUF.out,(by decide),rfl,HAE.out⟩⟩
 · have HUF:Hid (unfF s.data.toList=.inl (e,-1)):=Lib.hid (unf_open HO.out he);clear ho;go_enter Tryz.func15,Tryz.ntmps15
   go_wp2_with fail
   generalize w.alloc (.cells #[.slice none 0 0,.slice none 0 0,.slice none 0 0] 25)=W at HW HG ⊢;refine (fopen_as s J v e W hsz HO.out).mono ?_;rintro r w1 ⟨rfl,hb⟩;have H1:=Lib.hid (HW.out.below hb);have HG1:=Lib.hid (HG.out.below hb);clear hb;rw [errC_ne he];obtain ⟨⟨c0,c1,c2⟩,z0,z1,z2⟩:=H1.out.cells;have HM:=Lib.hid (((H1.out.put (o:=0) (v:=.slice none 0 0) rfl).put (o:=1) (v:=.slice none 0 0) rfl).put (o:=2) (v:=.slice none 0 0) rfl);have HAE:Hid (anyErr (((w1.setCell ⟨w.heap.size,0,none⟩ (.slice none 0 0)).setCell ⟨w.heap.size,1,none⟩ (.slice none 0 0)).setCell ⟨w.heap.size,2,none⟩ (.slice none 0 0)) (.iface 27 (.int .i64 e)) (e,-1)):=Lib.hid (errC_any _ he);go_wp2;generalize ((w1.setCell ⟨w.heap.size,0,none⟩ (.slice none 0 0)).setCell ⟨w.heap.size,1,none⟩ (.slice none 0 0)).setCell ⟨w.heap.size,2,none⟩ (.slice none 0 0)=WZ at HM HAE ⊢;obtain ⟨⟨q0,q1,q2⟩,_⟩:=HM.out.cells;refine bodyPost_ret (v:=.tuple #[.agg #[.slice none 0 0,.slice none 0 0,.slice none 0 0],.iface 27 (.int .i64 e)]) (by simp [results,Tryz.results15,go_sem,q0,q1,q2]) rfl ?_;exact ⟨HM.out.2.1,.inl ⟨_,_,_,HUF.out,he,rfl,HAE.out⟩⟩
end Go.Proofs.YtgfinhehgfbdgaaGreatDoor
