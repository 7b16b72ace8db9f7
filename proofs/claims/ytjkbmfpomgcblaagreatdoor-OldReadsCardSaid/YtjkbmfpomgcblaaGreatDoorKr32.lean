import Derived.Test.YtjkbmfpomgcblaaGreatDoorKr30
namespace Go.Proofs.YtjkbmfpomgcblaaGreatDoor
open Go.RowKit
def BReadIs (w:World) (s:List UInt8) (e:Ending) (w':World):Prop :=
 Below w.heap.size w w'∧((∃ x pl err,unbF s=.inl (x,pl)∧x≠0∧e=.returned (.tuple #[.agg #[.slice none 0 0,.slice none 0 0,.slice none 0 0],err])∧anyErr w' err (x,pl)) ∨
   ∃ f h l vf vh vw,unbF s=.inr (f,h,l)∧e=.returned (.tuple #[.agg #[vf,vh,vw],.nilIface])∧BatOwn w' w.heap.size vf vh vw f h l)
theorem anyErr.row {w:World} {v:Value} {r:Nat×Int} {B:Nat} {a:Option Addr} {n c:Nat} {cs:Array Value} (h:anyErr w v r) (hE:w.cell? ⟨B,0,none⟩=some (.slice a n c)):anyErr (w.setRow B cs) v r:=by
 rcases h with (h | ⟨h0,b,h1,h2,h3,h4⟩) | h
 · exact .inl (.inl h)
 · have hne:B≠b:=fun e=>by rw [←e,hE] at h3;cases h3
   have hcell:∀ o,(w.setRow B cs).cell? ⟨b,o,none⟩=w.cell? ⟨b,o,none⟩:=fun o=>by
     simp only [World.cell?,World.setRow,Array.getElem?_modify]
     rw [if_neg hne]
   exact .inl (.inr ⟨h0,b,h1,by simpa [World.setRow] using h2,by rw [hcell];exact h3,by rw [hcell];exact h4⟩)
 · exact .inr h
theorem bat_sized (a b c:Value):(Tryz.prog.info? 25).map (·.size)=some (#[a,b,c]:Array Value).size:=bat_info
set_option maxRecDepth 100000 in
theorem catB_idle (E:Nat) (w:World) :
   CallsD Tryz.prog 155 #[.pointer (some ⟨E,0,none⟩)] .returning w fun r u' w'=>r=.returned (.tuple #[])∧u'=.returning∧w'=w:=by
 have iN:=isErrorN
 refine callsD_of_wpS Tryz.func155 rfl fun c₀ cs hu=>?_
 apply wpS_seq
 apply wpS_region
 simp [wpOpsS,go_sem,recoverD,hu,Tryz.ntmps155,Exit.thenS,iN]
 refine wpS_of_wp ?_
 rw [show (#[.pointer (some ⟨E,0,none⟩)] ++ (((((((Array.replicate 9 undef).setIfInBounds 3 .nilIface).setIfInBounds 4 (.tuple #[.nilIface,.bool false])).setIfInBounds 2 (.tuple #[.nilIface,.bool false])).setIfInBounds 5 .nilIface).setIfInBounds 6 (.bool false)).setIfInBounds 0 .nilIface).setIfInBounds 1 (.bool false):Array Value)=#[.pointer (some ⟨E,0,none⟩),.nilIface,.bool false,.tuple #[.nilIface,.bool false],.nilIface,.tuple #[.nilIface,.bool false],.nilIface,.bool false,undef,undef] by kernel_rfl]
 go_wp2
 cases c₀
 simp_all [bodyPostS,results,Tryz.results155]
set_option maxRecDepth 100000 in
theorem catB_pan (E:Nat) (t:TypeId) (v old:Value) (older:List PanicEntry) (w:World) (ht:t=44∨t=111) (h0:w.cell? ⟨E,0,none⟩=some old) (z0:w.frozen? ⟨E,0,none⟩=false) :
   CallsD Tryz.prog 155 #[.pointer (some ⟨E,0,none⟩)] (.panicking ({ v:=.iface t v,recovered:=false } :: older)) w fun r u' w' =>
     r=.returned (.tuple #[])∧u'=.panicking ({ v:=.iface t v,recovered:=true } :: older)∧w'=w.setCell ⟨E,0,none⟩ (.iface t v):=by
 have iT:∀ (xT:TypeId) (w:World),(Instr.typeAssert (.iface t v) xT 29 true).run Tryz.prog w=.ok (.tuple #[.iface t v,.bool true]) w:=by
   rcases ht with rfl | rfl
   · exact fun xT w=>isErrorE v xT w
   · exact fun xT w=>isErrorA v xT w
 refine callsD_of_wpS Tryz.func155 rfl fun c₀ cs hu=>?_
 apply wpS_seq
 apply wpS_region
 simp [wpOpsS,go_sem,recoverD,hu,Tryz.ntmps155,Exit.thenS,iT]
 refine wpS_of_wp ?_
 rw [show (#[.pointer (some ⟨E,0,none⟩)] ++ (((((((Array.replicate 9 undef).setIfInBounds 3 (.iface t v)).setIfInBounds 4 (.tuple #[.iface t v,.bool true])).setIfInBounds 2 (.tuple #[.iface t v,.bool true])).setIfInBounds 5 (.iface t v)).setIfInBounds 6 (.bool true)).setIfInBounds 0 (.iface t v)).setIfInBounds 1 (.bool true):Array Value)=#[.pointer (some ⟨E,0,none⟩),.iface t v,.bool true,.tuple #[.iface t v,.bool true],.iface t v,.tuple #[.iface t v,.bool true],.iface t v,.bool true,undef,undef] by kernel_rfl]
 go_wp2
 simp [bodyPostS,results,Tryz.results155]
def bdoor (E:Nat):List Deferred:=[{ target:=.fn (Fn.func 155) #[.pointer (some ⟨E,0,none⟩)],args:=#[] }]
def CB (w:World) (vf vh vw:Value) (W:World):Prop :=
 Below w.heap.size w W∧W.heap[w.heap.size]? = some (.cells #[vf,vh,vw] 25 (0,0))∧W.heap[w.heap.size + 1]? = some (.cells #[.nilIface] 29 (0,0))
set_option maxRecDepth 100000 in
theorem bdoor_bad {w W:World} {s:List UInt8} {x:Nat} {pl:Int} {t:TypeId} {v:Value} (h:CB w (.slice none 0 0) (.slice none 0 0) (.slice none 0 0) W) (hr:unbF s=.inl (x,pl)) (hx:x≠0) (ha:anyErr W (.iface t v) (x,pl)) (tmps:Array Value)
   (t2:tmps[2]? = some (.pointer (some ⟨w.heap.size,0,none⟩))) (t3:tmps[3]? = some (.pointer (some ⟨w.heap.size + 1,0,none⟩))) :
   Leaves Tryz.prog Tryz.f98 tmps (BReadIs w s) (bdoor (w.heap.size + 1)) (.panicking [{ v:=.iface t v,recovered:=false }]) W:=by
 obtain ⟨hb,hA,hE⟩:=h
 have c0:W.cell? ⟨w.heap.size + 1,0,none⟩=some .nilIface:=cell_of_row _ _ 0 _ _ (0,0) hE
 unfold bdoor
 refine leaves_cons (f:=155) (args:=#[.pointer (some ⟨w.heap.size + 1,0,none⟩)]) (by simp) (by simp [go_sem]) ?_
 refine (catB_pan (w.heap.size + 1) t v .nilIface [] W ha.typed c0 (Lib.frozen_of_heap hE 0)).mono ?_
 rintro r' u' w2 ⟨rfl,rfl,rfl⟩
 have p0:(W.setCell ⟨w.heap.size + 1,0,none⟩ (.iface t v)).cell? ⟨w.heap.size + 1,0,none⟩=some (.iface t v):=World.cell?_setCell_same _ _ _ c0
 have hA2:=row_setCell (o:=0) hA (show w.heap.size≠w.heap.size + 1 by omega) (.iface t v)
 have q0:=cell_of_row _ _ 0 _ _ _ hA2
 have q1:=cell_of_row _ _ 1 _ _ _ hA2
 have q2:=cell_of_row _ _ 2 _ _ _ hA2
 refine ⟨.tuple #[.agg #[.slice none 0 0,.slice none 0 0,.slice none 0 0],.iface t v],by simp [results,Tryz.results98,go_sem,t2,t3,p0,q0,q1,q2],hb.setCell (by simp) _,.inl ⟨x,pl,.iface t v,hr,hx,rfl,ha.set c0⟩⟩
set_option maxRecDepth 100000 in
theorem bdoor_good {w W:World} {s:List UInt8} {f h:List Ent} {l:List Wr} {vf vh vw:Value} (hc:CB w vf vh vw W) (hr:unbF s=.inr (f,h,l)) (ho:BatOwn W w.heap.size vf vh vw f h l) (tmps:Array Value)
   (t2:tmps[2]? = some (.pointer (some ⟨w.heap.size,0,none⟩))) (t3:tmps[3]? = some (.pointer (some ⟨w.heap.size + 1,0,none⟩))) :
   Leaves Tryz.prog Tryz.f98 tmps (BReadIs w s) (bdoor (w.heap.size + 1)) .returning W:=by
 obtain ⟨hb,hA,hE⟩:=hc
 have p0:W.cell? ⟨w.heap.size + 1,0,none⟩=some .nilIface:=cell_of_row _ _ 0 _ _ (0,0) hE
 have q0:=cell_of_row _ _ 0 _ _ _ hA
 have q1:=cell_of_row _ _ 1 _ _ _ hA
 have q2:=cell_of_row _ _ 2 _ _ _ hA
 unfold bdoor
 refine leaves_cons (f:=155) (args:=#[.pointer (some ⟨w.heap.size + 1,0,none⟩)]) (by simp) (by simp [go_sem]) ?_
 refine (catB_idle (w.heap.size + 1) W).mono ?_
 rintro r' u' w2 ⟨rfl,rfl,rfl⟩
 refine ⟨.tuple #[.agg #[vf,vh,vw],.nilIface],by simp [results,Tryz.results98,go_sem,t2,t3,p0,q0,q1,q2],hb,.inr ⟨f,h,l,vf,vh,vw,hr,rfl,ho⟩⟩
theorem bat_ones (a1 a2 a3:Option Addr) (n1 n2 n3 c1 c2 c3:Nat):(#[.slice a1 n1 c1,.slice a2 n2 c2,.slice a3 n3 c3]:Array Value).all (·.oneCell')=true:=by simp [Value.oneCell']
theorem bat_same (a b c d e f:Value):(#[a,b,c]:Array Value).size=(#[d,e,f]:Array Value).size:=rfl
set_option maxRecDepth 100000 in
set_option maxHeartbeats 1000000 in
theorem read1_any (b:Nat) (s:ByteArray) (w:World) (hs:s.size≤maxLen) (hg:errT w) (hb:b < w.heap.size) (hc:w.cell? ⟨b,0,none⟩=some (.string s)) :
   Calls Tryz.prog 99 #[.pointer (some ⟨b,0,none⟩)] w (ReadIs w s.data.toList):=by
 have HG:=Lib.hid (hg.alloc (.cells #[.slice none 0 0,.slice none 0 0,.slice none 0 0] 25))
 have h1:(w.alloc (.cells #[.slice none 0 0,.slice none 0 0,.slice none 0 0] 25)).cell? ⟨b,0,none⟩=some (.string s):=(World.cell?_alloc_lt _ _ _ hb).trans hc
 clear hg hc
 go_enter Tryz.func99,Tryz.ntmps99
 go_wp2_with fail
 refine (read_any s _ hs HG.out).mono ?_
 rintro e w1 ⟨hb1,hcs⟩
 have HB:Hid (Below w.heap.size w w1):=Lib.hid (((Below.refl _ _).alloc (Nat.le_refl _) _).trans (hb1.mono (by simp)))
 rcases hcs with ⟨x,pl,hx,t,u,rfl,hne,hat⟩ | ⟨f,h,l,vf,vh,vw,hx,rfl,ho⟩
 · exact And.intro rfl ⟨HB.out,.inl ⟨x,pl,hx,t,u,rfl,hne,hat⟩⟩
 · obtain ⟨a1,c1,rfl,_⟩:=ho.1.is.form
   obtain ⟨a2,c2,rfl,_⟩:=ho.2.1.is.form
   obtain ⟨a3,c3,rfl,_⟩:=ho.2.2.1.is.form
   generalize f.length=n1 at ho ⊢
   generalize h.length=n2 at ho ⊢
   generalize l.length=n3 at ho ⊢
   have hrow:w1.heap[w.heap.size]? = some (.cells #[.slice none 0 0,.slice none 0 0,.slice none 0 0] 25 (0,0)):=(hb1.block _ (by simp)).trans (heap_alloc_new w _)
   have HROW:=Lib.hid hrow
   have HI:=Lib.hid (bat_sized (.slice a1 n1 c1) (.slice a2 n2 c2) (.slice a3 n3 c3))
   have HONE:=Lib.hid (bat_ones a1 a2 a3 n1 n2 n3 c1 c2 c3)
   have HSAME:=Lib.hid (bat_same (.slice none 0 0) (.slice none 0 0) (.slice none 0 0) (.slice a1 n1 c1) (.slice a2 n2 c2) (.slice a3 n3 c3))
   have HRA:=Lib.hid (row_set hrow #[.slice a1 n1 c1,.slice a2 n2 c2,.slice a3 n3 c3])
   have HO:=Lib.hid ((ho.keep (grown_rowQ w1 w.heap.size #[.slice a1 n1 c1,.slice a2 n2 c2,.slice a3 n3 c3]) (fun k hk=>by injection hk with hk;simp;omega)).mono (C:=w.heap.size) (by simp))
   have HX:=Lib.hid hx
   clear hrow ho hb1 hx h1
   go_wp2_with (with_reducible refine wpList_store_row rfl _ _ _ rfl _ _ rfl rfl _ _ HROW.out HI.out HSAME.out HONE.out ?_)
   have g0:=cell_of_row _ _ 0 _ _ _ HRA.out
   have g1:=cell_of_row _ _ 1 _ _ _ HRA.out
   have g2:=cell_of_row _ _ 2 _ _ _ HRA.out
   refine bodyPost_ret (v:=.agg #[.slice a1 n1 c1,.slice a2 n2 c2,.slice a3 n3 c3]) (by simp [results,Tryz.results99,go_sem,g0,g1,g2]) rfl ?_
   exact ⟨below_row HB.out (Nat.le_refl _) _,.inr ⟨f,h,l,_,_,_,HX.out,rfl,HO.out⟩⟩
set_option maxRecDepth 100000 in
set_option maxHeartbeats 1000000 in
theorem catB_any (b:Nat) (s:ByteArray) (w:World) (hs:s.size≤maxLen) (hg:errT w) (hb:b < w.heap.size) (hc:w.cell? ⟨b,0,none⟩=some (.string s)) :
   Calls Tryz.prog 98 #[.func (.func 99) #[] #[.pointer (some ⟨b,0,none⟩)]] w (BReadIs w s.data.toList):=by
 have hmf:∀ (fn:Fn) (first cap:Array Value) (w:World),(Instr.makeFunc fn first cap).run Tryz.prog w=.ok (.func fn first cap) w:=fun _ _ _ _=>rfl
 obtain ⟨W,hW⟩:∃ W,(w.alloc (.cells #[.slice none 0 0,.slice none 0 0,.slice none 0 0] 25)).alloc (.cells #[.nilIface] 29)=W:=⟨_,rfl⟩
 have hbW:Below w.heap.size w W:=by rw [←hW];exact ((Below.refl _ _).alloc (Nat.le_refl _) _).alloc (by simp) _
 have hzW:w.heap.size + 2=W.heap.size:=by rw [←hW];simp
 have hcb:CB w (.slice none 0 0) (.slice none 0 0) (.slice none 0 0) W:=by
   refine ⟨hbW,?_,?_⟩
   · rw [←hW,Below.heap_alloc _ _ _ (by simp)];exact heap_alloc_new w _
   · rw [←hW];have h:=heap_alloc_new (w.alloc (.cells #[.slice none 0 0,.slice none 0 0,.slice none 0 0] 25)) (.cells #[.nilIface] 29);simpa using h
 have HF:=Lib.hid (read1_any b s W hs (hg.below hbW) (Nat.lt_of_lt_of_le hb hbW.size) ((hbW.cell hb).trans hc))
 have HCB:=Lib.hid hcb
 have HZW:=Lib.hid hzW
 clear hg hb hc hbW hcb hzW
 go_enter_defers Tryz.func98,Tryz.ntmps98
 go_wp2_with fail
 refine HF.out.mono ?_
 rintro e w1 ⟨hb1,hcs⟩
 have HC1:Hid (CB w (.slice none 0 0) (.slice none 0 0) (.slice none 0 0) w1):=Lib.hid ⟨HCB.out.1.trans (hb1.mono (by have:=HZW.out;omega)),(hb1.block _ (by have:=HZW.out;omega)).trans HCB.out.2.1,(hb1.block _ (by have:=HZW.out;omega)).trans HCB.out.2.2⟩
 rcases hcs with ⟨x,pl,hx,t,u,rfl,hne,hat⟩ | ⟨f,h,l,vf,vh,vw,hx,rfl,ho⟩
 · exact bdoor_bad HC1.out hx hne hat _ rfl rfl
 · obtain ⟨a1,c1,rfl,_⟩:=ho.1.is.form
   obtain ⟨a2,c2,rfl,_⟩:=ho.2.1.is.form
   obtain ⟨a3,c3,rfl,_⟩:=ho.2.2.1.is.form
   generalize f.length=n1 at ho ⊢
   generalize h.length=n2 at ho ⊢
   generalize l.length=n3 at ho ⊢
   have HROW:=Lib.hid HC1.out.2.1
   have HI:=Lib.hid (bat_sized (.slice a1 n1 c1) (.slice a2 n2 c2) (.slice a3 n3 c3))
   have HONE:=Lib.hid (bat_ones a1 a2 a3 n1 n2 n3 c1 c2 c3)
   have HSAME:=Lib.hid (bat_same (.slice none 0 0) (.slice none 0 0) (.slice none 0 0) (.slice a1 n1 c1) (.slice a2 n2 c2) (.slice a3 n3 c3))
   have hrow1:(w1.setRow w.heap.size #[.slice a1 n1 c1,.slice a2 n2 c2,.slice a3 n3 c3]).heap[w.heap.size + 1]? = some (.cells #[.nilIface] 29 (0,0)):=row_setRow HC1.out.2.2 (by omega)
   have k0:(w1.setRow w.heap.size #[.slice a1 n1 c1,.slice a2 n2 c2,.slice a3 n3 c3]).cell? ⟨w.heap.size + 1,0,none⟩=some .nilIface:=cell_of_row _ _ 0 _ _ (0,0) hrow1
   have z0:(w1.setRow w.heap.size #[.slice a1 n1 c1,.slice a2 n2 c2,.slice a3 n3 c3]).frozen? ⟨w.heap.size + 1,0,none⟩=false:=Lib.frozen_of_heap hrow1 0
   have HC2:Hid (CB w (.slice a1 n1 c1) (.slice a2 n2 c2) (.slice a3 n3 c3) ((w1.setRow w.heap.size #[.slice a1 n1 c1,.slice a2 n2 c2,.slice a3 n3 c3]).setCell ⟨w.heap.size + 1,0,none⟩ .nilIface)):=Lib.hid ⟨(below_row HC1.out.1 (Nat.le_refl _) _).setCell (by simp) _,row_setCell (row_set HC1.out.2.1 _) (by omega) _,by rw [heap_setCell_same _ _ _ _ _ _ hrow1];rfl⟩
   have HO:=Lib.hid (((ho.keep (grown_rowQ w1 w.heap.size #[.slice a1 n1 c1,.slice a2 n2 c2,.slice a3 n3 c3]) (fun k hk=>by injection hk with hk;have:=HZW.out;omega)).keep (grown_setQ _ (w.heap.size + 1) 0 .nilIface) (fun k hk=>by injection hk with hk;have:=HZW.out;omega)).mono (C:=w.heap.size) (by have:=HZW.out;omega))
   have HX:=Lib.hid hx
   clear ho hb1 hx hrow1
   go_wp2_with (with_reducible refine wpList_store_row rfl _ _ _ rfl _ _ rfl rfl _ _ HROW.out HI.out HSAME.out HONE.out ?_)
   exact bdoor_good HC2.out HX.out HO.out _ rfl rfl
set_option maxRecDepth 100000 in
set_option maxHeartbeats 1000000 in
theorem bread_any (s:ByteArray) (w:World) (hs:s.size≤maxLen) (hg:errT w):Calls Tryz.prog 52 #[.string s] w (BReadIs w s.data.toList):=by
 have hmf:∀ (fn:Fn) (first cap:Array Value) (w:World),(Instr.makeFunc fn first cap).run Tryz.prog w=.ok (.func fn first cap) w:=fun _ _ _ _=>rfl
 obtain ⟨W,hW⟩:∃ W,(w.alloc (.cells #[.string s] 9)).alloc (.cells #[.slice none 0 0,.slice none 0 0,.slice none 0 0] 25)=W:=⟨_,rfl⟩
 have hbW:Below w.heap.size w W:=by rw [←hW];exact ((Below.refl _ _).alloc (Nat.le_refl _) _).alloc (by simp) _
 have hzW:w.heap.size + 2=W.heap.size:=by rw [←hW];simp
 have hA:W.heap[w.heap.size + 1]? = some (.cells #[.slice none 0 0,.slice none 0 0,.slice none 0 0] 25 (0,0)):=by rw [←hW];have h:=heap_alloc_new (w.alloc (.cells #[.string s] 9)) (.cells #[.slice none 0 0,.slice none 0 0,.slice none 0 0] 25);simpa using h
 have hcs:W.cell? ⟨w.heap.size,0,none⟩=some (.string s):=by rw [←hW,World.cell?_alloc_lt _ _ _ (by simp)];simp
 have HF:=Lib.hid (catB_any w.heap.size s W hs (hg.below hbW) (by omega) hcs)
 have HBW:=Lib.hid hbW
 have HZW:=Lib.hid hzW
 have HA:=Lib.hid hA
 clear hg hbW hzW hA hcs
 go_enter Tryz.func52,Tryz.ntmps52
 go_wp2_with fail
 refine HF.out.mono ?_
 rintro e w1 ⟨hb1,hcs⟩
 have hrow:w1.heap[w.heap.size + 1]? = some (.cells #[.slice none 0 0,.slice none 0 0,.slice none 0 0] 25 (0,0)):=(hb1.block _ (by have:=HZW.out;omega)).trans HA.out
 have HROW:=Lib.hid hrow
 have HB:Hid (Below w.heap.size w w1):=Lib.hid (HBW.out.trans (hb1.mono HBW.out.size))
 rcases hcs with ⟨x,pl,err,hx,hx0,rfl,hat⟩ | ⟨f,h,l,vf,vh,vw,hx,rfl,ho⟩
 · have HI:=Lib.hid (bat_sized (.slice none 0 0) (.slice none 0 0) (.slice none 0 0))
   have HONE:=Lib.hid (bat_ones none none none 0 0 0 0 0 0)
   have HRA:=Lib.hid (row_set hrow #[.slice none 0 0,.slice none 0 0,.slice none 0 0])
   have HAT:=Lib.hid (anyErr.row (cs:=#[.slice none 0 0,.slice none 0 0,.slice none 0 0]) hat (cell_of_row _ _ 0 _ _ _ hrow))
   have HX:=Lib.hid hx
   clear hrow hat hb1 hx
   go_wp2_with (with_reducible refine wpList_store_row rfl _ _ _ rfl _ _ rfl rfl _ _ HROW.out HI.out rfl HONE.out ?_)
   have g0:=cell_of_row _ _ 0 _ _ _ HRA.out
   have g1:=cell_of_row _ _ 1 _ _ _ HRA.out
   have g2:=cell_of_row _ _ 2 _ _ _ HRA.out
   refine bodyPost_ret (v:=.tuple #[.agg #[.slice none 0 0,.slice none 0 0,.slice none 0 0],err]) (by simp [results,Tryz.results52,go_sem,g0,g1,g2]) rfl ?_
   exact ⟨below_row HB.out (by omega) _,.inl ⟨x,pl,err,HX.out,hx0,rfl,HAT.out⟩⟩
 · obtain ⟨a1,c1,rfl,_⟩:=ho.1.is.form
   obtain ⟨a2,c2,rfl,_⟩:=ho.2.1.is.form
   obtain ⟨a3,c3,rfl,_⟩:=ho.2.2.1.is.form
   generalize f.length=n1 at ho ⊢
   generalize h.length=n2 at ho ⊢
   generalize l.length=n3 at ho ⊢
   have HI:=Lib.hid (bat_sized (.slice a1 n1 c1) (.slice a2 n2 c2) (.slice a3 n3 c3))
   have HONE:=Lib.hid (bat_ones a1 a2 a3 n1 n2 n3 c1 c2 c3)
   have HSAME:=Lib.hid (bat_same (.slice none 0 0) (.slice none 0 0) (.slice none 0 0) (.slice a1 n1 c1) (.slice a2 n2 c2) (.slice a3 n3 c3))
   have HRA:=Lib.hid (row_set hrow #[.slice a1 n1 c1,.slice a2 n2 c2,.slice a3 n3 c3])
   have HO:=Lib.hid ((ho.keep (grown_rowQ w1 (w.heap.size + 1) #[.slice a1 n1 c1,.slice a2 n2 c2,.slice a3 n3 c3]) (fun k hk=>by injection hk with hk;have:=HZW.out;omega)).mono (C:=w.heap.size) (by have:=HZW.out;omega))
   have HX:=Lib.hid hx
   clear hrow ho hb1 hx
   go_wp2_with (with_reducible refine wpList_store_row rfl _ _ _ rfl _ _ rfl rfl _ _ HROW.out HI.out HSAME.out HONE.out ?_)
   have g0:=cell_of_row _ _ 0 _ _ _ HRA.out
   have g1:=cell_of_row _ _ 1 _ _ _ HRA.out
   have g2:=cell_of_row _ _ 2 _ _ _ HRA.out
   refine bodyPost_ret (v:=.tuple #[.agg #[.slice a1 n1 c1,.slice a2 n2 c2,.slice a3 n3 c3],.nilIface]) (by simp [results,Tryz.results52,go_sem,g0,g1,g2]) rfl ?_
   exact ⟨below_row HB.out (by omega) _,.inr ⟨f,h,l,_,_,_,HX.out,rfl,HO.out⟩⟩
end Go.Proofs.YtjkbmfpomgcblaaGreatDoor
namespace Go.Proofs.YtjkbmfpomgcblaaGreatDoor
open Go.RowKit
def RUnbodyIs (w:World) (s:List UInt8) (e:Ending) (w':World):Prop :=
 Below w.heap.size w w'∧((∃ x pl,unbF s=.inl (x,pl)∧e=.returned (.tuple #[.agg #[.slice none 0 0,.slice none 0 0,.slice none 0 0],.agg #[.int .i64 (x:Nat),.int .i64 pl]])) ∨
   ∃ f h l vf vh vw,unbF s=.inr (f,h,l)∧e=.returned (.tuple #[.agg #[vf,vh,vw],.agg #[.int .i64 0,.int .i64 (-1)]])∧BatOwn w' w.heap.size vf vh vw f h l)
def UD (w W:World) (vf vh vw:Value) (x pl:Int):Prop :=
 W.heap[w.heap.size]? = some (.cells #[vf,vh,vw] 25 (0,0))∧W.heap[w.heap.size + 1]? = some (.cells #[.int .i64 x,.int .i64 pl] 46 (0,0))∧Below w.heap.size w W∧w.heap.size + 2≤W.heap.size
theorem UD.cells {w W:World} {vf vh vw:Value} {x pl:Int} (h:UD w W vf vh vw x pl) :
   (W.cell? ⟨w.heap.size,0,none⟩=some vf∧W.cell? ⟨w.heap.size,1,none⟩=some vh∧W.cell? ⟨w.heap.size,2,none⟩=some vw)∧(W.cell? ⟨w.heap.size + 1,0,none⟩=some (.int .i64 x)∧W.cell? ⟨w.heap.size + 1,1,none⟩=some (.int .i64 pl)) ∧
     (W.frozen? ⟨w.heap.size,0,none⟩=false∧W.frozen? ⟨w.heap.size,1,none⟩=false∧W.frozen? ⟨w.heap.size,2,none⟩=false)∧W.frozen? ⟨w.heap.size + 1,0,none⟩=false∧W.frozen? ⟨w.heap.size + 1,1,none⟩=false:=by
 obtain ⟨h1,h2,_⟩:=h
 exact ⟨⟨cell_of_row _ _ 0 _ _ (0,0) h1,cell_of_row _ _ 1 _ _ (0,0) h1,cell_of_row _ _ 2 _ _ (0,0) h1⟩,⟨cell_of_row _ _ 0 _ _ (0,0) h2,cell_of_row _ _ 1 _ _ (0,0) h2⟩,⟨Lib.frozen_of_heap h1 0,Lib.frozen_of_heap h1 1,Lib.frozen_of_heap h1 2⟩,Lib.frozen_of_heap h2 0,Lib.frozen_of_heap h2 1⟩
theorem UD.kept {w W W2:World} {vf vh vw:Value} {x pl:Int} {row:Option Nat} (h:UD w W vf vh vw x pl) (hg:W.grownBy W2 row) (hr:∀ k,row=some k→w.heap.size + 2≤k):UD w W2 vf vh vw x pl:=by
 obtain ⟨h1,h2,h4,h5⟩:=h
 have ne:∀ k,k < w.heap.size + 2→some k≠row:=fun k hk e=>by have:=hr k e.symm;omega
 exact ⟨(hg.block _ (by omega) (ne _ (by omega))).trans h1,(hg.block _ (by omega) (ne _ (by omega))).trans h2,h4.grown hg (by omega) (fun k hk=>by have:=hr k hk;omega),Nat.le_trans h5 hg.size⟩
theorem UD.put {w W:World} {vf vh vw uf uh uw v:Value} {x pl:Int} {o:Nat} (h:UD w W vf vh vw x pl) (hs:(#[vf,vh,vw]:Array Value).setIfInBounds o v=#[uf,uh,uw]):UD w (W.setCell ⟨w.heap.size,o,none⟩ v) uf uh uw x pl:=by
 obtain ⟨h1,h2,h4,h5⟩:=h
 exact ⟨by rw [heap_setCell_same _ _ _ _ _ _ h1,hs],row_setCell h2 (by omega) v,h4.setCell (Nat.le_refl _) _,by simpa using h5⟩
theorem UD.row {w W:World} {vf vh vw uf uh uw:Value} {x pl:Int} (h:UD w W vf vh vw x pl):UD w (W.setRow w.heap.size #[uf,uh,uw]) uf uh uw x pl:=by
 obtain ⟨h1,h2,h4,h5⟩:=h
 exact ⟨row_set h1 _,row_setRow h2 (by omega),below_row h4 (Nat.le_refl _) _,by simpa [World.setRow] using h5⟩
theorem UD.fault {w W:World} {vf vh vw:Value} {x pl:Int} (h:UD w W vf vh vw x pl) (e p:Int):UD w ((W.setCell ⟨w.heap.size + 1,0,none⟩ (.int .i64 e)).setCell ⟨w.heap.size + 1,1,none⟩ (.int .i64 p)) vf vh vw e p:=by
 obtain ⟨h1,h2,h4,h5⟩:=h
 exact ⟨row_setCell (row_setCell h1 (by omega) _) (by omega) _,rowF.put (F:=w.heap.size + 1) h2 e p,below_put h4 (Nat.le_succ _) _ _,by simpa using h5⟩
set_option maxRecDepth 100000 in
theorem ureset_good (F O:Nat) (pl:Int) (u:FrameMode) (w:World) (c0:w.cell? ⟨F,0,none⟩=some (.int .i64 0)) (c1:w.cell? ⟨F,1,none⟩=some (.int .i64 pl)) :
   CallsD Tryz.prog 125 #[.pointer (some ⟨F,0,none⟩),.pointer (some ⟨O,0,none⟩)] u w fun r u' w'=>u'=u∧(r=.returned (.tuple #[])∧Below w.heap.size w w'):=by
 go_enter_d Tryz.func125,Tryz.ntmps125
 go_wp2_with fail
 refine (is_any 0 pl _).mono ?_
 rintro r w1 ⟨rfl,hb1⟩
 have HB1:=Lib.hid hb1
 clear hb1
 go_wp2
 go_end0
 exact ⟨rfl,HB1.out⟩
set_option maxRecDepth 100000 in
theorem ureset_bad (F O:Nat) (e pl:Int) (vf vh vw:Value) (u:FrameMode) (w:World) (he:(e == 0)=false) (c0:w.cell? ⟨F,0,none⟩=some (.int .i64 e)) (c1:w.cell? ⟨F,1,none⟩=some (.int .i64 pl)) (hO:O < w.heap.size) (hrow:w.heap[O]? = some (.cells #[vf,vh,vw] 25 (0,0))) :
   CallsD Tryz.prog 125 #[.pointer (some ⟨F,0,none⟩),.pointer (some ⟨O,0,none⟩)] u w fun r u' w'=>u'=u∧(r=.returned (.tuple #[])∧∃ w1,Below w.heap.size w w1∧w'=w1.setRow O #[.slice none 0 0,.slice none 0 0,.slice none 0 0]):=by
 go_enter_d Tryz.func125,Tryz.ntmps125
 go_wp2_with fail
 refine (is_any e pl _).mono ?_
 rintro r w1 ⟨rfl,hb1⟩
 rw [he]
 have HROW:=Lib.hid ((hb1.block O hO).trans hrow)
 have HI:=Lib.hid (bat_sized (.slice none 0 0) (.slice none 0 0) (.slice none 0 0))
 have HONE:=Lib.hid (bat_ones none none none 0 0 0 0 0 0)
 have HSAME:=Lib.hid (bat_same vf vh vw (.slice none 0 0) (.slice none 0 0) (.slice none 0 0))
 have HB1:=Lib.hid hb1
 clear hb1 hrow
 go_wp2_with (with_reducible refine wpList_store_row rfl _ _ _ rfl _ _ rfl rfl _ _ HROW.out HI.out HSAME.out HONE.out ?_)
 go_end0
 exact ⟨rfl,w1,HB1.out,rfl⟩
def udoor (w:World):List Deferred :=
 [{ target:=.fn (Fn.func 75) #[],args:=#[.pointer (some ⟨w.heap.size + 1,0,none⟩)] },
   { target:=.fn (Fn.func 125) #[.pointer (some ⟨w.heap.size + 1,0,none⟩),.pointer (some ⟨w.heap.size,0,none⟩)],args:=#[] }]
set_option maxRecDepth 100000 in
set_option maxHeartbeats 1000000 in
theorem udoor_bad {w W:World} {vf vh vw:Value} {s:List UInt8} (e:Nat) (pl:Int) (h:UD w W vf vh vw 0 (-1)) (he:e≠0) (hrd:unbF s=.inl (e,pl)) (tmps:Array Value)
   (t2:tmps[2]? = some (.pointer (some ⟨w.heap.size,0,none⟩))) (t3:tmps[3]? = some (.pointer (some ⟨w.heap.size + 1,0,none⟩))) :
   Leaves Tryz.prog Tryz.f73 tmps (RUnbodyIs w s) (udoor w) (.panicking [{ v:=.iface 156 (.agg #[.int .i64 (e:Int),.int .i64 pl]),recovered:=false }]) W:=by
 obtain ⟨_,⟨c0,c1⟩,_,z0,z1⟩:=h.cells
 have hz:=h.2.2.2
 have hbe:((e:Int) == 0)=false:=by simp;omega
 obtain ⟨W2,hW2⟩:∃ W2,(W.setCell ⟨w.heap.size + 1,0,none⟩ (.int .i64 (e:Int))).setCell ⟨w.heap.size + 1,1,none⟩ (.int .i64 pl)=W2:=⟨_,rfl⟩
 have h2:UD w W2 vf vh vw e pl:=by rw [←hW2];exact h.fault e pl
 obtain ⟨W3,hW3⟩:∃ W3,W2.alloc (.cells #[.int .i64 (e:Int),.int .i64 pl] 156)=W3:=⟨_,rfl⟩
 have h3:UD w W3 vf vh vw e pl:=by rw [←hW3];exact h2.kept (World.grownBy_alloc W2 _ none) (fun k hk=>by cases hk)
 have hz3:=h3.2.2.2
 obtain ⟨_,⟨p2,p3⟩,_⟩:=h3.cells
 unfold udoor
 refine leaves_cons (f:=75) (args:=#[.pointer (some ⟨w.heap.size + 1,0,none⟩)]) (by simp) (by simp [go_sem]) ?_
 refine (caught_pan (w.heap.size + 1) e pl 0 (-1) [] W (by omega) c0 c1 z0 z1).mono ?_
 rintro r u' w2 ⟨rfl,rfl,rfl⟩
 rw [hW2,hW3]
 refine leaves_cons (f:=125) (args:=#[.pointer (some ⟨w.heap.size + 1,0,none⟩),.pointer (some ⟨w.heap.size,0,none⟩)]) (by simp [settle]) (by simp [go_sem]) ?_
 refine (ureset_bad (w.heap.size + 1) w.heap.size e pl vf vh vw _ _ hbe p2 p3 (by omega) h3.1).mono ?_
 rintro r u' w4 ⟨rfl,rfl,w5,hb5,rfl⟩
 have h6:=(h3.kept (grown_b hb5) (fun k hk=>by cases hk)).row (uf:=.slice none 0 0) (uh:=.slice none 0 0) (uw:=.slice none 0 0)
 obtain ⟨⟨q0,q1,q2⟩,⟨v2,v3⟩,_⟩:=h6.cells
 exact ⟨.tuple #[.agg #[.slice none 0 0,.slice none 0 0,.slice none 0 0],.agg #[.int .i64 (e:Int),.int .i64 pl]],by simp [results,Tryz.results73,go_sem,t2,t3,q0,q1,q2,v2,v3],h6.2.2.1,.inl ⟨e,pl,hrd,rfl⟩⟩
set_option maxRecDepth 100000 in
set_option maxHeartbeats 1000000 in
theorem udoor_good {w W:World} {vf vh vw:Value} {f h:List Ent} {l:List Wr} {s:List UInt8} (hd:UD w W vf vh vw 0 (-1)) (ho:BatOwn W (w.heap.size + 2) vf vh vw f h l) (hrd:unbF s=.inr (f,h,l)) (tmps:Array Value)
   (t2:tmps[2]? = some (.pointer (some ⟨w.heap.size,0,none⟩))) (t3:tmps[3]? = some (.pointer (some ⟨w.heap.size + 1,0,none⟩))) :
   Leaves Tryz.prog Tryz.f73 tmps (RUnbodyIs w s) (udoor w) .returning W:=by
 obtain ⟨_,⟨c0,c1⟩,_⟩:=hd.cells
 unfold udoor
 refine leaves_cons (f:=75) (args:=#[.pointer (some ⟨w.heap.size + 1,0,none⟩)]) (by simp) (by simp [go_sem]) ?_
 refine (caught_idle _ W).mono ?_
 rintro r u' w2 ⟨rfl,rfl,rfl⟩
 refine leaves_cons (f:=125) (args:=#[.pointer (some ⟨w.heap.size + 1,0,none⟩),.pointer (some ⟨w.heap.size,0,none⟩)]) (by simp [settle]) (by simp [go_sem]) ?_
 refine (ureset_good (w.heap.size + 1) w.heap.size (-1) _ _ c0 c1).mono ?_
 rintro r u' w3 ⟨rfl,rfl,hb3⟩
 have h3:=hd.kept (grown_b hb3) (fun k hk=>by cases hk)
 obtain ⟨⟨q0,q1,q2⟩,⟨v2,v3⟩,_⟩:=h3.cells
 exact ⟨.tuple #[.agg #[vf,vh,vw],.agg #[.int .i64 0,.int .i64 (-1)]],by simp [results,Tryz.results73,go_sem,t2,t3,q0,q1,q2,v2,v3],h3.2.2.1,.inr ⟨f,h,l,vf,vh,vw,hrd,rfl,(ho.keep (grown_b hb3) (fun k hk=>by cases hk)).mono (by omega)⟩⟩
end Go.Proofs.YtjkbmfpomgcblaaGreatDoor
namespace Go.Proofs.YtjkbmfpomgcblaaGreatDoor
open Go.RowKit
theorem errC_any (w:World) {e:Nat} (he:e≠0):anyErr w (.iface 44 (.int .i64 e)) (e,-1):=.inr ⟨he,rfl,rfl⟩
def RD1 (w W:World) (vf vh vw:Value):Prop :=
 W.heap[w.heap.size]? = some (.cells #[vf,vh,vw] 25 (0,0))∧Below w.heap.size w W∧w.heap.size + 1≤W.heap.size
theorem RD1.cells {w W:World} {vf vh vw:Value} (h:RD1 w W vf vh vw) :
   (W.cell? ⟨w.heap.size,0,none⟩=some vf∧W.cell? ⟨w.heap.size,1,none⟩=some vh∧W.cell? ⟨w.heap.size,2,none⟩=some vw)∧W.frozen? ⟨w.heap.size,0,none⟩=false∧W.frozen? ⟨w.heap.size,1,none⟩=false∧W.frozen? ⟨w.heap.size,2,none⟩=false:=by
 obtain ⟨h1,_⟩:=h
 exact ⟨⟨cell_of_row _ _ 0 _ _ (0,0) h1,cell_of_row _ _ 1 _ _ (0,0) h1,cell_of_row _ _ 2 _ _ (0,0) h1⟩,Lib.frozen_of_heap h1 0,Lib.frozen_of_heap h1 1,Lib.frozen_of_heap h1 2⟩
theorem RD1.below {w W W2:World} {vf vh vw:Value} (h:RD1 w W vf vh vw) (hb:Below W.heap.size W W2):RD1 w W2 vf vh vw:=by
 obtain ⟨h1,h2,h3⟩:=h
 exact ⟨(hb.block _ (by omega)).trans h1,h2.trans (hb.mono h2.size),Nat.le_trans h3 hb.size⟩
theorem RD1.put {w W:World} {vf vh vw uf uh uw v:Value} {o:Nat} (h:RD1 w W vf vh vw) (hs:(#[vf,vh,vw]:Array Value).setIfInBounds o v=#[uf,uh,uw]):RD1 w (W.setCell ⟨w.heap.size,o,none⟩ v) uf uh uw:=by
 obtain ⟨h1,h4,h5⟩:=h
 exact ⟨by rw [heap_setCell_same _ _ _ _ _ _ h1,hs],h4.setCell (Nat.le_refl _) _,by simpa using h5⟩
theorem anyErr.cellB {w W:World} {vf vh vw v u:Value} {r:Nat×Int} {o:Nat} (h:anyErr W v r) (hr:RD1 w W vf vh vw) (hv:vf=.slice none 0 0):anyErr (W.setCell ⟨w.heap.size,o,none⟩ u) v r:=by
 rcases h with (h | ⟨h0,b,h1,h2,h3,h4⟩) | h
 · exact .inl (.inl h)
 · have c0:=hr.cells.1.1
   have hne:w.heap.size≠b:=fun e=>by rw [←e,c0,hv] at h3;cases h3
   have hcell:∀ j,(W.setCell ⟨w.heap.size,o,none⟩ u).cell? ⟨b,j,none⟩=W.cell? ⟨b,j,none⟩:=fun j=>by
     unfold World.cell?
     rw [heap_setCell_other _ _ _ _ (fun e=>hne e.symm)]
   exact .inl (.inr ⟨h0,b,h1,by simpa using h2,by rw [hcell];exact h3,by rw [hcell];exact h4⟩)
 · exact .inr h
theorem bread_err2 (s:ByteArray) (x:Nat) (pl:Int) (w:World) (hs:s.size≤maxLen) (hg:errT w) (hu:unbF s.data.toList=.inl (x,pl)) :
   Calls Tryz.prog 52 #[.string s] w fun e w'=>∃ t u,e=.returned (.tuple #[.agg #[.slice none 0 0,.slice none 0 0,.slice none 0 0],.iface t u])∧anyErr w' (.iface t u) (x,pl)∧Below w.heap.size w w':=by
 refine (bread_any s w hs hg).mono ?_
 rintro e w' ⟨hb,⟨x',pl',err,hx,hx0,rfl,ha⟩ | ⟨f',h',l',vf,vh,vw,hx,_⟩⟩
 · rw [hu] at hx
   injection hx with hx
   injection hx with h1 h2
   subst h1 h2
   obtain ⟨t,u,rfl⟩:=ha.iface hx0
   exact ⟨t,u,rfl,ha,hb⟩
 · rw [hu] at hx;cases hx
theorem bread_own (s:ByteArray) (f h:List Ent) (l:List Wr) (w:World) (hs:s.size≤maxLen) (hg:errT w) (hu:unbF s.data.toList=.inr (f,h,l)) :
   Calls Tryz.prog 52 #[.string s] w fun e w'=>∃ a1 c1 a2 c2 a3 c3,e=.returned (.tuple #[.agg #[.slice a1 f.length c1,.slice a2 h.length c2,.slice a3 l.length c3],.nilIface])∧BatOwn w' w.heap.size (.slice a1 f.length c1) (.slice a2 h.length c2) (.slice a3 l.length c3) f h l∧Below w.heap.size w w':=by
 refine (bread_any s w hs hg).mono ?_
 rintro e w' ⟨hb,⟨x,pl,err,hx,_⟩ | ⟨f',h',l',vf,vh,vw,hx,rfl,ho⟩⟩
 · rw [hu] at hx;cases hx
 · rw [hu] at hx
   injection hx with hx
   injection hx with h1 h2
   injection h2 with h2 h3
   subst h1 h2 h3
   obtain ⟨a1,c1,rfl,_⟩:=ho.1.is.form
   obtain ⟨a2,c2,rfl,_⟩:=ho.2.1.is.form
   obtain ⟨a3,c3,rfl,_⟩:=ho.2.2.1.is.form
   exact ⟨a1,c1,a2,c2,a3,c3,rfl,ho,hb⟩
end Go.Proofs.YtjkbmfpomgcblaaGreatDoor
