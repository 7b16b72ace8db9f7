import Derived.Test.YtjkbmfpomgcblaaGreatDoorKw20
import Derived.Test.YtjkbmfpomgcblaaGreatDoorKw18
import Derived.Defers
import Derived.Recover
namespace Go.Proofs.YtjkbmfpomgcblaaGreatDoor
open Go.RowKit
theorem isErrorE (v:Value) (xT:TypeId) (w:World):(Instr.typeAssert (.iface 44 v) xT 29 true).run Tryz.prog w=.ok (.tuple #[.iface 44 v,.bool true]) w :=
 run_typeAssert_hasB Tryz.underlying29 (by kernel_rfl) v xT w
theorem isErrorA (v:Value) (xT:TypeId) (w:World):(Instr.typeAssert (.iface 111 v) xT 29 true).run Tryz.prog w=.ok (.tuple #[.iface 111 v,.bool true]) w :=
 run_typeAssert_hasB Tryz.underlying29 (by kernel_rfl) v xT w
theorem isErrorN (xT:TypeId) (w:World):(Instr.typeAssert .nilIface xT 29 true).run Tryz.prog w=.ok (.tuple #[.nilIface,.bool false]) w:=by kernel_rfl
set_option maxRecDepth 100000 in
theorem catS_idle (E:Nat) (w:World) :
   CallsD Tryz.prog 102 #[.pointer (some ⟨E,0,none⟩)] .returning w fun r u' w'=>r=.returned (.tuple #[])∧u'=.returning∧w'=w:=by
 have iN:=isErrorN
 refine callsD_of_wpS Tryz.func102 rfl fun c₀ cs hu=>?_
 apply wpS_seq
 apply wpS_region
 simp [wpOpsS,go_sem,recoverD,hu,Tryz.ntmps102,Exit.thenS,iN]
 refine wpS_of_wp ?_
 rw [show (#[.pointer (some ⟨E,0,none⟩)] ++ (((((((Array.replicate 9 undef).setIfInBounds 3 .nilIface).setIfInBounds 4 (.tuple #[.nilIface,.bool false])).setIfInBounds 2 (.tuple #[.nilIface,.bool false])).setIfInBounds 5 .nilIface).setIfInBounds 6 (.bool false)).setIfInBounds 0 .nilIface).setIfInBounds 1 (.bool false):Array Value)=#[.pointer (some ⟨E,0,none⟩),.nilIface,.bool false,.tuple #[.nilIface,.bool false],.nilIface,.tuple #[.nilIface,.bool false],.nilIface,.bool false,undef,undef] by kernel_rfl]
 go_wp2
 cases c₀
 simp_all [bodyPostS,results,Tryz.results102]
set_option maxRecDepth 100000 in
theorem catS_pan (E:Nat) (t:TypeId) (v old:Value) (older:List PanicEntry) (w:World) (ht:t=44∨t=111) (h0:w.cell? ⟨E,0,none⟩=some old) (z0:w.frozen? ⟨E,0,none⟩=false) :
   CallsD Tryz.prog 102 #[.pointer (some ⟨E,0,none⟩)] (.panicking ({ v:=.iface t v,recovered:=false } :: older)) w fun r u' w' =>
     r=.returned (.tuple #[])∧u'=.panicking ({ v:=.iface t v,recovered:=true } :: older)∧w'=w.setCell ⟨E,0,none⟩ (.iface t v):=by
 have iT:∀ (xT:TypeId) (w:World),(Instr.typeAssert (.iface t v) xT 29 true).run Tryz.prog w=.ok (.tuple #[.iface t v,.bool true]) w:=by
   rcases ht with rfl | rfl
   · exact fun xT w=>isErrorE v xT w
   · exact fun xT w=>isErrorA v xT w
 refine callsD_of_wpS Tryz.func102 rfl fun c₀ cs hu=>?_
 apply wpS_seq
 apply wpS_region
 simp [wpOpsS,go_sem,recoverD,hu,Tryz.ntmps102,Exit.thenS,iT]
 refine wpS_of_wp ?_
 rw [show (#[.pointer (some ⟨E,0,none⟩)] ++ (((((((Array.replicate 9 undef).setIfInBounds 3 (.iface t v)).setIfInBounds 4 (.tuple #[.iface t v,.bool true])).setIfInBounds 2 (.tuple #[.iface t v,.bool true])).setIfInBounds 5 (.iface t v)).setIfInBounds 6 (.bool true)).setIfInBounds 0 (.iface t v)).setIfInBounds 1 (.bool true):Array Value)=#[.pointer (some ⟨E,0,none⟩),.iface t v,.bool true,.tuple #[.iface t v,.bool true],.iface t v,.tuple #[.iface t v,.bool true],.iface t v,.bool true,undef,undef] by kernel_rfl]
 go_wp2
 simp [bodyPostS,results,Tryz.results102]
theorem anyErr.typed {w:World} {t:TypeId} {v:Value} {r:Nat×Int} (h:anyErr w (.iface t v) r):t=44∨t=111:=by
 rcases h with (⟨_,h⟩ | ⟨_,b,h,_⟩) | ⟨_,_,h⟩
 · cases h
 · injection h with h1 h2;exact .inr h1
 · injection h with h1 h2;exact .inl h1
theorem anyErr.set {w:World} {v x:Value} {r:Nat×Int} {E:Nat} (h:anyErr w v r) (hE:w.cell? ⟨E,0,none⟩=some .nilIface):anyErr (w.setCell ⟨E,0,none⟩ x) v r:=by
 rcases h with (h | ⟨h0,b,h1,h2,h3,h4⟩) | h
 · exact .inl (.inl h)
 · have hne:b≠E:=fun e=>by rw [e,hE] at h3;cases h3
   refine .inl (.inr ⟨h0,b,h1,by simpa using h2,?_,?_⟩)
   · rw [World.cell?_setCell_other _ _ _ _ (by intro e;first | (simp at e;done) | (simp at e;omega))];exact h3
   · rw [World.cell?_setCell_other _ _ _ _ (by intro e;simp at e)];exact h4
 · exact .inr h
def BWriteIs (w:World) (r:List UInt8×Nat×Int) (e:Ending) (w':World):Prop :=
 ∃ err,e=.returned (.tuple #[.string ⟨r.1.toArray⟩,err])∧anyErr w' err r.2∧Below w.heap.size w w'
def sdoor (E:Nat):List Deferred:=[{ target:=.fn (Fn.func 102) #[.pointer (some ⟨E,0,none⟩)],args:=#[] }]
set_option maxRecDepth 100000 in
theorem sdoor_bad {w W:World} {r:List UInt8×Nat×Int} {t:TypeId} {v:Value} (hb:Below w.heap.size w W) (hE:W.heap[w.heap.size]? = some (.cells #[.nilIface] 29 (0,0))) (hr1:r.1=[]) (ha:anyErr W (.iface t v) r.2) (tmps:Array Value)
   (t2:tmps[2]? = some (.string ⟨#[]⟩)) (t3:tmps[3]? = some (.pointer (some ⟨w.heap.size,0,none⟩))) :
   Leaves Tryz.prog Tryz.f57 tmps (BWriteIs w r) (sdoor w.heap.size) (.panicking [{ v:=.iface t v,recovered:=false }]) W:=by
 have c0:W.cell? ⟨w.heap.size,0,none⟩=some .nilIface:=cell_of_row _ _ 0 _ _ (0,0) hE
 unfold sdoor
 refine leaves_cons (f:=102) (args:=#[.pointer (some ⟨w.heap.size,0,none⟩)]) (by simp) (by simp [go_sem]) ?_
 refine (catS_pan w.heap.size t v .nilIface [] W ha.typed c0 (Lib.frozen_of_heap hE 0)).mono ?_
 rintro r' u' w2 ⟨rfl,rfl,rfl⟩
 have p0:(W.setCell ⟨w.heap.size,0,none⟩ (.iface t v)).cell? ⟨w.heap.size,0,none⟩=some (.iface t v):=World.cell?_setCell_same _ _ _ c0
 refine ⟨.tuple #[.string ⟨#[]⟩,.iface t v],by simp [results,Tryz.results57,go_sem,t2,t3,p0],.iface t v,?_,ha.set c0,hb.setCell (by simp) _⟩
 rw [hr1]
set_option maxRecDepth 100000 in
theorem sdoor_good {w W:World} {r:List UInt8×Nat×Int} (hb:Below w.heap.size w W) (hE:W.heap[w.heap.size]? = some (.cells #[.nilIface] 29 (0,0))) (hr2:r.2=(0,-1)) (tmps:Array Value)
   (t2:tmps[2]? = some (.string ⟨r.1.toArray⟩)) (t3:tmps[3]? = some (.pointer (some ⟨w.heap.size,0,none⟩))) :
   Leaves Tryz.prog Tryz.f57 tmps (BWriteIs w r) (sdoor w.heap.size) .returning W:=by
 have c0:W.cell? ⟨w.heap.size,0,none⟩=some .nilIface:=cell_of_row _ _ 0 _ _ (0,0) hE
 unfold sdoor
 refine leaves_cons (f:=102) (args:=#[.pointer (some ⟨w.heap.size,0,none⟩)]) (by simp) (by simp [go_sem]) ?_
 refine (catS_idle w.heap.size W).mono ?_
 rintro r' u' w2 ⟨rfl,rfl,rfl⟩
 refine ⟨.tuple #[.string ⟨r.1.toArray⟩,.nilIface],by simp [results,Tryz.results57,go_sem,t2,t3,c0],.nilIface,rfl,?_,hb⟩
 exact .inl (.inl ⟨hr2,rfl⟩)
set_option maxRecDepth 100000 in
set_option maxHeartbeats 1000000 in
theorem catS_any (b:Nat) (w:World) (r:List UInt8×Nat×Int) (hf:Calls Tryz.prog 58 #[.pointer (some ⟨b,0,none⟩)] (w.alloc (.cells #[.nilIface] 29)) (WrtnIs (w.alloc (.cells #[.nilIface] 29)) r)) :
   Calls Tryz.prog 57 #[.func (.func 58) #[] #[.pointer (some ⟨b,0,none⟩)]] w (BWriteIs w r):=by
 have hmf:∀ (fn:Fn) (first cap:Array Value) (w:World),(Instr.makeFunc fn first cap).run Tryz.prog w=.ok (.func fn first cap) w:=fun _ _ _ _=>rfl
 have HF:=Lib.hid hf
 clear hf
 go_enter_defers Tryz.func57,Tryz.ntmps57
 go_wp2_with fail
 refine HF.out.mono ?_
 rintro e w1 ⟨hb1,hc⟩
 have hbw:Below w.heap.size w w1:=((Below.refl _ _).alloc (Nat.le_refl _) _).trans (hb1.mono (by simp))
 have hE:w1.heap[w.heap.size]? = some (.cells #[.nilIface] 29 (0,0)):=(hb1.block _ (by simp)).trans (heap_alloc_new w _)
 have HB:=Lib.hid hbw
 have HE:=Lib.hid hE
 rcases hc with ⟨hr,rfl⟩ | ⟨hne,hr1,t,v,rfl,ha⟩
 · have c0:w1.cell? ⟨w.heap.size,0,none⟩=some .nilIface:=cell_of_row _ _ 0 _ _ (0,0) hE
   have z0:w1.frozen? ⟨w.heap.size,0,none⟩=false:=Lib.frozen_of_heap hE 0
   have HR:=Lib.hid hr
   have HS:Hid ((w1.setCell ⟨w.heap.size,0,none⟩ .nilIface).heap[w.heap.size]? = some (.cells #[.nilIface] 29 (0,0))):=Lib.hid (by rw [heap_setCell_same _ _ _ _ _ _ hE];rfl)
   have HBS:Hid (Below w.heap.size w (w1.setCell ⟨w.heap.size,0,none⟩ .nilIface)):=Lib.hid (hbw.setCell (by simp) _)
   clear hb1 hbw hE hr
   go_wp2
   exact sdoor_good HBS.out HS.out HR.out _ rfl rfl
 · exact sdoor_bad HB.out HE.out hr1 ha _ rfl rfl
set_option maxRecDepth 100000 in
theorem write1_any (b:Nat) (vf vh vw:Value) (f h:List Ent) (l:List Wr) (w:World) (hx:BatIs w vf vh vw f h l) (hg:errT w) (hc:batAt w b vf vh vw) :
   Calls Tryz.prog 58 #[.pointer (some ⟨b,0,none⟩)] w (WrtnIs w (bodyF f h l)):=by
 have HX:=Lib.hid hx
 have HG:=Lib.hid hg
 obtain ⟨c0,c1,c2⟩:=hc
 obtain ⟨af,cf,rfl,_⟩:=hx.1.form
 obtain ⟨ah,ch,rfl,_⟩:=hx.2.1.form
 obtain ⟨aw,cw,rfl,_⟩:=hx.2.2.1.form
 generalize f.length=nf at HX c0 ⊢
 generalize h.length=nh at HX c1 ⊢
 generalize l.length=n at HX c2 ⊢
 clear hx hg
 have hw:Calls Tryz.prog 59 #[.agg #[.slice af nf cf,.slice ah nh ch,.slice aw n cw]] w (WrtnIs w (bodyF f h l)):=by
   by_cases h0:(batF f h l).1=0
   · exact written_ok _ _ _ f h l w HX.out HG.out h0
   · exact written_bad _ _ _ f h l w HX.out HG.out h0
 have HW:=Lib.hid hw
 clear hw
 go_enter Tryz.func58,Tryz.ntmps58
 go_wp2_with fail
 refine HW.out.mono ?_
 rintro e w1 ⟨hb1,hc⟩
 rcases hc with ⟨hr,rfl⟩ | ⟨hne,hr1,t,v,rfl,ha⟩
 · have HB:=Lib.hid hb1
   have HR:=Lib.hid hr
   clear hb1 hr
   go_wp2
   go_ret
   exact ⟨HB.out,.inl ⟨HR.out,rfl⟩⟩
 · exact And.intro rfl ⟨hb1,.inr ⟨hne,hr1,t,v,rfl,ha⟩⟩
set_option maxRecDepth 100000 in
theorem bwrite_any (vf vh vw:Value) (f h:List Ent) (l:List Wr) (w:World) (hx:BatIs w vf vh vw f h l) (hg:errT w) :
   Calls Tryz.prog 25 #[.agg #[vf,vh,vw]] w (BWriteIs w (bodyF f h l)):=by
 have hmf:∀ (fn:Fn) (first cap:Array Value) (w:World),(Instr.makeFunc fn first cap).run Tryz.prog w=.ok (.func fn first cap) w:=fun _ _ _ _=>rfl
 obtain ⟨W0,hW0⟩:∃ W0,w.alloc (.cells #[vf,vh,vw] 25)=W0:=⟨_,rfl⟩
 have hb0:Below w.heap.size w W0:=by rw [←hW0];exact (Below.refl _ _).alloc (Nat.le_refl _) _
 have hz0:w.heap.size < W0.heap.size:=by rw [←hW0];simp
 have hc:=batAt_new w vf vh vw 25
 rw [hW0] at hc
 have hx0:BatIs W0 vf vh vw f h l:=hx.below hb0
 have hcat:=catS_any w.heap.size W0 (bodyF f h l) (write1_any w.heap.size vf vh vw f h l _ (hx0.alloc _) ((hg.below hb0).alloc _) (hc.below ((Below.refl _ _).alloc (Nat.le_refl _) _) hz0))
 have HCAT:=Lib.hid hcat
 have HB0:=Lib.hid hb0
 obtain ⟨af,cf,rfl,_⟩:=hx.1.form
 obtain ⟨ah,ch,rfl,_⟩:=hx.2.1.form
 obtain ⟨aw,cw,rfl,_⟩:=hx.2.2.1.form
 generalize f.length=nf at hW0 ⊢
 generalize h.length=nh at hW0 ⊢
 generalize l.length=n at hW0 ⊢
 clear hx hg hb0 hz0 hc hx0 hcat
 go_enter Tryz.func25,Tryz.ntmps25
 go_wp2_with fail
 refine HCAT.out.mono ?_
 rintro e w1 ⟨err,rfl,ha,hb1⟩
 have HA:=Lib.hid ha
 have HB1:Hid (Below w.heap.size w w1):=HB0.out.trans (hb1.mono HB0.out.size)
 clear ha hb1
 go_wp2
 go_ret2
 exact ⟨err,rfl,HA.out,HB1.out⟩
end Go.Proofs.YtjkbmfpomgcblaaGreatDoor
namespace Go.Proofs.YtjkbmfpomgcblaaGreatDoor
open Go.RowKit
theorem bodyF_fits {f h:List Ent} {l:List Wr} {s:List UInt8} {pl:Int} (hb:bodyF f h l=(s,0,pl)):s.length≤20000:=by
 by_cases hr:(batF f h l).1=0
 · by_cases hbg:20000 < (bodyL f h l).length
   · rw [bodyF_big hr hbg] at hb;injection hb with _ hb;injection hb with hb _;cases hb
   · rw [bodyF_ok hr hbg] at hb;injection hb with hb _;rw [←hb];omega
 · rw [bodyF_bad hr] at hb;injection hb with _ hb;exact absurd (by rw [hb]) hr
end Go.Proofs.YtjkbmfpomgcblaaGreatDoor
namespace Go.Proofs.YtjkbmfpomgcblaaGreatDoor
open Go.RowKit
theorem rbright_at (vf vh vw:Value) (f h:List Ent) (l:List Wr) (e:Nat) (pl:Int) (w:World) (hx:BatIs w vf vh vw f h l) (hb:batF f h l=(e,pl)) :
   Calls Tryz.prog 61 #[.agg #[vf,vh,vw]] w fun r w'=>r=.returned (.agg #[.int .i64 (e:Int),.int .i64 pl])∧Below w.heap.size w w' :=
 (rbright_any vf vh vw f h l w hx.1 hx.2.1 hx.2.2.1 hx.2.2.2.1 hx.2.2.2.2.1 hx.2.2.2.2.2.2).mono fun r w' ⟨h1,h2⟩=>⟨by rw [h1,hb];rfl,h2⟩
def rowF (w:World) (F:Nat) (e p:Int):Prop:=w.heap[F]? = some (.cells #[.int .i64 e,.int .i64 p] 46 (0,0))
theorem rowF.at {w:World} {F:Nat} {e p:Int} (h:rowF w F e p):w.cell? ⟨F,0,none⟩=some (.int .i64 e)∧w.cell? ⟨F,1,none⟩=some (.int .i64 p) :=
 ⟨by rw [cell_of_row _ _ _ _ _ (0,0) h];rfl,by rw [cell_of_row _ _ _ _ _ (0,0) h];rfl⟩
theorem rowF.frozen {w:World} {F:Nat} {e p:Int} (h:rowF w F e p) (j:Nat):w.frozen? ⟨F,j,none⟩=false:=frozen_of_row w F j _ _ h
theorem rowF.below {w w':World} {F m:Nat} {e p:Int} (h:rowF w F e p) (hb:Below m w w') (hm:F < m):rowF w' F e p:=(hb.block F hm).trans h
theorem rowF.put {w:World} {F:Nat} {e p:Int} (h:rowF w F e p) (a b:Int):rowF ((w.setCell ⟨F,0,none⟩ (.int .i64 a)).setCell ⟨F,1,none⟩ (.int .i64 b)) F a b :=
 heap_setCell_same _ F 1 _ _ _ (heap_setCell_same w F 0 _ _ _ h)
theorem below_put {w w':World} {m F:Nat} (hb:Below m w w') (hF:m≤F) (u v:Value):Below m w ((w'.setCell ⟨F,0,none⟩ u).setCell ⟨F,1,none⟩ v) :=
 Below.setCell (p:=⟨F,1,none⟩) (Below.setCell (p:=⟨F,0,none⟩) hb hF u) hF v
set_option maxRecDepth 100000 in
set_option maxHeartbeats 8000000 in
theorem rbody_bad (w:World) (vf vh vw:Value) (f h:List Ent) (l:List Wr) (e:Nat) (pl:Int) (hx:BatIs w vf vh vw f h l) (hb:batF f h l=(e,pl)) (he:e≠0) :
   Calls Tryz.prog 68 #[.agg #[vf,vh,vw]] w fun r w'=>r=.returned (.tuple #[.string ⟨#[]⟩,.agg #[.int .i64 (e:Int),.int .i64 pl]])∧Below w.heap.size w w':=by
 have HX:=Lib.hid hx
 obtain ⟨hf,hh,hv,_⟩:=hx
 obtain ⟨af,cf,rfl,_⟩:=hf.form
 obtain ⟨ah,ch,rfl,_⟩:=hh.form
 obtain ⟨aw,cw,rfl,_⟩:=hv.form
 have HBF:=Lib.hid hb
 have hz:((e:Int) == 0)=false:=by simp;omega
 generalize f.length=nf at HX ⊢
 generalize h.length=nh at HX ⊢
 generalize l.length=n at HX ⊢
 clear hf hh hv hb
 go_enter Tryz.func68,Tryz.ntmps68
 go_wp2_with fail
 have HA:=Lib.hid ((batAt_new w (.slice af nf cf) (.slice ah nh ch) (.slice aw n cw) 25).below ((Below.refl _ _).alloc (Nat.le_refl _) (.cells #[.int .i64 0,.int .i64 0] 46)) (by simp))
 have HF:Hid (rowF ((w.alloc (.cells #[.slice af nf cf,.slice ah nh ch,.slice aw n cw] 25)).alloc (.cells #[.int .i64 0,.int .i64 0] 46)) (w.heap.size + 1) 0 0):=Lib.hid (heap_alloc2_new w _ _)
 have HW:Hid (Below w.heap.size w ((w.alloc (.cells #[.slice af nf cf,.slice ah nh ch,.slice aw n cw] 25)).alloc (.cells #[.int .i64 0,.int .i64 0] 46))):=Lib.hid (((Below.refl _ _).alloc (Nat.le_refl _) _).alloc (by simp) _)
 have HZ:Hid (w.heap.size + 1 < ((w.alloc (.cells #[.slice af nf cf,.slice ah nh ch,.slice aw n cw] 25)).alloc (.cells #[.int .i64 0,.int .i64 0] 46)).heap.size):=Lib.hid (by simp)
 have HBW:Hid (w.heap.size≤w.heap.size + 1):=Lib.hid (Nat.le_succ _)
 generalize (w.alloc (.cells #[.slice af nf cf,.slice ah nh ch,.slice aw n cw] 25)).alloc (.cells #[.int .i64 0,.int .i64 0] 46)=W at HA HF HW HZ ⊢
 generalize w.heap.size + 1=F at HF HZ HBW ⊢
 refine (rbright_at _ _ _ f h l e pl W (HX.out.below HW.out) HBF.out).mono ?_
 rintro r w1 ⟨rfl,hb1⟩
 have HB1:=Lib.hid hb1
 clear hb1
 have HF1:=Lib.hid (HF.out.below HB1.out HZ.out)
 have HW1:Hid (Below w.heap.size w w1):=HW.out.trans (HB1.out.mono HW.out.size)
 have HZ1:Hid (F < w1.heap.size):=Lib.hid (Nat.lt_of_lt_of_le HZ.out HB1.out.size)
 go_wp2_with fail
 refine (is_any (e:Int) pl _).mono ?_
 rintro r w2 ⟨rfl,hb2⟩
 rw [hz]
 have HB2:Hid (Below w1.heap.size w1 w2):=Lib.hid (((Below.refl _ _).alloc (Nat.le_refl _) _).trans (hb2.mono (by simp)))
 have HF2:=Lib.hid (HF1.out.below HB2.out HZ1.out)
 have HT2:Hid (rowF w2 w1.heap.size e pl):=Lib.hid (rowF.below (w:=w1.alloc (.cells #[.int .i64 e,.int .i64 pl] 46)) (heap_alloc_new w1 _) hb2 (by simp))
 have HW2:Hid (Below w.heap.size w w2):=HW1.out.trans (HB2.out.mono HW1.out.size)
 clear hb2
 obtain ⟨c0,c1⟩:=HT2.out.at
 obtain ⟨c2,c3⟩:=HF2.out.at
 have g0:=HF2.out.frozen 0
 have g1:=HF2.out.frozen 1
 go_wp2
 go_region
 have HF3:Hid (rowF ((w2.setCell ⟨F,0,none⟩ (.int .i64 (e:Int))).setCell ⟨F,1,none⟩ (.int .i64 pl)).drew F e pl):=Lib.hid (HF2.out.put e pl)
 have HW3:Hid (Below w.heap.size w ((w2.setCell ⟨F,0,none⟩ (.int .i64 (e:Int))).setCell ⟨F,1,none⟩ (.int .i64 pl)).drew):=Lib.hid (below_put HW2.out HBW.out _ _).drew
 generalize ((w2.setCell ⟨F,0,none⟩ (.int .i64 (e:Int))).setCell ⟨F,1,none⟩ (.int .i64 pl)).drew=w3 at HF3 HW3 ⊢
 clear c0 c1 c2 c3 g0 g1
 obtain ⟨c0,c1⟩:=HF3.out.at
 go_wp2
 refine bodyPost_ret (v:=.tuple #[.string ⟨#[]⟩,.agg #[.int .i64 (e:Int),.int .i64 pl]]) (by simp [results,Tryz.results68,go_sem,c0,c1]) rfl ?_
 exact ⟨rfl,HW3.out⟩
end Go.Proofs.YtjkbmfpomgcblaaGreatDoor
namespace Go.Proofs.YtjkbmfpomgcblaaGreatDoor
open Go.RowKit
theorem frame_bytes (v:Nat) (I T:ByteArray) (h:sealL (80 :: 84 :: UInt8.ofNat v :: I.data.toList)=T.data.toList):sealB ((⟨#[80,84]⟩:ByteArray) ++ ⟨#[UInt8.ofNat v]⟩ ++ I)=T:=by
 apply bytes_ext
 rw [sealB_data,←h]
 simp
set_option maxRecDepth 100000 in
set_option maxHeartbeats 1000000 in
theorem oframed_as (v:Nat) (I T:ByteArray) (w:World) (hv:v≤255) (hI:I.size≤1000000) (h:sealL (80 :: 84 :: UInt8.ofNat v :: I.data.toList)=T.data.toList) :
   Calls Tryz.prog 48 #[.int .u8 (v:Int),.string I] w fun e w'=>e=.returned (.string T)∧Below w.heap.size w w':=by
 have hsl:=frame_bytes v I T h
 obtain ⟨B,hB⟩:∃ B:ByteArray,B=⟨#[UInt8.ofNat v]⟩:=⟨_,rfl⟩
 obtain ⟨A,hA⟩:∃ A:ByteArray,A=⟨#[80,84]⟩:=⟨_,rfl⟩
 rw [←hA,←hB] at hsl
 have hAz:A.size=2:=by rw [hA];rfl
 have hBz:B.size=1:=by rw [hB];rfl
 have HSL:=Lib.hid hsl
 have ha1:¬ (9223372036854775807 < A.size + B.size):=by omega
 have ha2:¬ (9223372036854775807 < (A ++ B).size + I.size):=by rw [ByteArray.size_append];omega
 have ha3:¬ (9223372036854775807 < A.size + B.size + I.size):=by omega
 have HSZ:Hid ((A ++ B ++ I).size≤140737488351232):=Lib.hid (by rw [ByteArray.size_append,ByteArray.size_append];omega)
 have hA2:(⟨#[80,84]⟩:ByteArray)=A:=hA.symm
 have hcA:=byte_lit v (v:Int) B rfl hB hv (w.alloc (.cells #[.int .u8 (v:Int)] 5)) w.heap.size (heap_alloc_new w _)
 have HBA:Hid (Below w.heap.size w (w.alloc (.cells #[.int .u8 (v:Int)] 5))):=Lib.hid ((Below.refl _ _).alloc (Nat.le_refl _) _)
 clear h hsl hA hB
 go_enter Tryz.func48,Tryz.ntmps48
 rw [hA2]
 go_wp2_with fail
 refine (seal_any _ _ HSZ.out).mono ?_
 rintro r w1 ⟨rfl,hb1⟩
 have HB1:Hid (Below w.heap.size w w1):=Lib.hid (HBA.out.trans (hb1.mono HBA.out.size))
 clear hb1
 go_wp2
 go_ret
 exact ⟨by rw [←HSL.out];rfl,HB1.out⟩
set_option maxRecDepth 100000 in
theorem onumput_to (n:Nat) (N:ByteArray) (w:World) (h:n≤9223372036854775807) (hN:putL n=N.data.toList) :
   Calls Tryz.prog 46 #[.int .i64 (n:Int)] w fun e w'=>e=.returned (.string N)∧Below w.heap.size w w':=by
 have hu:IntKind.u64.wrap (n:Int)=(n:Int):=by rw [IntKind.wrap_u64];omega
 have HP:Hid ((⟨(putL (n:Int).toNat).toArray⟩:ByteArray)=N):=Lib.hid (by rw [Int.toNat_natCast,hN,bs_of])
 clear hN
 go_enter Tryz.func46,Tryz.ntmps46
 go_wp2_with fail
 refine (put_any (n:Int) w (by omega) (by omega)).mono ?_
 rintro r w1 ⟨rfl,hb1⟩
 rw [HP.out]
 have HB1:=Lib.hid hb1
 clear hb1
 go_wp2
 go_ret
 exact ⟨rfl,HB1.out⟩
theorem entsP_snoc (l:List Ent) (j:Nat) (t:Ent) (h:l[j]? = some t):entsP (l.take (j + 1))=entsP (l.take j) ++ (putL t.rep.toNat ++ putL t.time.toNat):=by
 rw [List.take_add_one,h];simp [entsP]
theorem entsP_len (l:List Ent) (h:∀ e∈l,0≤e.rep∧e.rep≤200∧0≤e.time∧e.time≤1099511627776):(entsP l).length≤20 * l.length:=by
 induction l with
 | nil=>simp [entsP]
 | cons x l ih =>
   have hx:=h x List.mem_cons_self
   rw [entsP_cons,List.length_append,List.length_append,List.length_cons]
   have h1:=putL_le10 (n:=x.rep.toNat) (by omega)
   have h2:=putL_le10 (n:=x.time.toNat) (by omega)
   have h3:=ih (fun e he=>h e (List.mem_cons_of_mem _ he))
   omega
theorem of_data (l:List UInt8):∃ B:ByteArray,l=B.data.toList:=⟨⟨l.toArray⟩,by simp⟩
theorem app_dataO (A B:ByteArray):(A ++ B).data.toList=A.data.toList ++ B.data.toList:=by simp
set_option maxRecDepth 100000 in
set_option maxHeartbeats 2000000 in
theorem oplain_to (v:Value) (l:List Ent) (P:ByteArray) (w:World) (hv:IsEnts w v l) (hl:l.length≤16) (hok:∀ e∈l,0≤e.rep∧e.rep≤200∧0≤e.time∧e.time≤1099511627776) (hP:plainL l=P.data.toList) :
   Calls Tryz.prog 45 #[v] w fun e w'=>e=.returned (.string P)∧Below w.heap.size w w':=by
 obtain ⟨a,c,rfl,hf⟩:=hv.form
 obtain ⟨n,hn⟩:∃ n,n=l.length:=⟨_,rfl⟩
 rw [←hn] at hl ⊢
 obtain ⟨N,hN⟩:=of_data (putL n)
 have HNZ:Hid (N.size≤10):=Lib.hid (by rw [size_data,←hN];exact putL_le10 (by omega))
 have HN:=Lib.hid hN
 have HLN:=Lib.hid hn
 have HF:=Lib.hid hf
 have HOK:=Lib.hid hok
 have HP:=Lib.hid hP
 have HNC:=Lib.hid (fun w'=>onumput_to n N w' (by omega) hN)
 clear hv hN hn hf hok hP
 go_enter Tryz.func45,Tryz.ntmps45
 go_wp2_with fail
 refine (HNC.out w).mono ?_
 rintro r w1 ⟨rfl,hb1⟩
 have HB1:=Lib.hid hb1
 clear hb1
 go_wp2
 go_loopw [3,10] (fun sv iv wr=>∃ (j:Nat) (S:ByteArray),j≤n∧iv=.int .i64 j∧sv=.string S∧S.data.toList=putL n ++ entsP (l.take j)∧Below w.heap.size w wr) (fun _ iv _=>n - (intOf iv).toNat)
 case atStart=>exact ⟨0,N,Nat.zero_le _,rfl,rfl,by rw [←HN.out];simp [entsP],HB1.out⟩
 case round =>
   obtain ⟨j,S,hj,rfl,rfl,hS,hb⟩:=hrel
   have HS:=Lib.hid hS
   have HB:=Lib.hid hb
   clear hS hb
   by_cases hlt:j < n
   · obtain ⟨t, ht⟩ : ∃ t, l[j]? = some t := ⟨l[j]'(by have := HLN.out; omega), List.getElem?_eq_getElem _⟩
     obtain ⟨b,off,rfl,hbw,p0,p1⟩:=HF.out j t ht
     obtain ⟨rep,time⟩:=t
     have hk:=HOK.out _ (List.mem_of_getElem? ht)
     have hsn:=entsP_snoc l j _ ht
     simp only at p0 p1 hk hsn
     obtain ⟨rn,rfl⟩:=Int.eq_ofNat_of_zero_le hk.1
     obtain ⟨tn,rfl⟩:=Int.eq_ofNat_of_zero_le hk.2.2.1
     rw [Int.toNat_natCast,Int.toNat_natCast] at hsn
     obtain ⟨A,hA⟩:=of_data (putL rn)
     obtain ⟨C,hC⟩:=of_data (putL tn)
     have HAC:=Lib.hid (fun w'=>onumput_to rn A w' (by omega) hA)
     have HCC:=Lib.hid (fun w'=>onumput_to tn C w' (by omega) hC)
     have hAz:A.size≤10:=by rw [size_data,←hA];exact putL_le10 (by omega)
     have hCz:C.size≤10:=by rw [size_data,←hC];exact putL_le10 (by omega)
     have hSz:S.size≤1000:=by
       rw [size_data,HS.out,List.length_append]
       have h1:=entsP_len (l.take j) (fun e he=>HOK.out e (List.mem_of_mem_take he))
       rw [List.length_take] at h1
       have h2:=putL_le10 (n:=n) (by omega)
       omega
     have HNX:Hid ((S ++ (A ++ C)).data.toList=putL n ++ entsP (l.take (j + 1))):=Lib.hid (by rw [app_dataO,app_dataO,HS.out,hsn,←hA,←hC,List.append_assoc])
     have ha1:¬ (9223372036854775807 < A.size + C.size):=by omega
     have ha2:¬ (9223372036854775807 < S.size + (A ++ C).size):=by rw [ByteArray.size_append];omega
     have ha3:¬ (9223372036854775807 < S.size + (A.size + C.size)):=by omega
     have q0:=(HB.out.cell (p:=⟨b,off + j * 2,none⟩) hbw).trans p0
     have q1:=(HB.out.cell (p:=⟨b,off + j * 2 + 1,none⟩) hbw).trans p1
     have HQ0:=Lib.hid p0
     have HQ1:=Lib.hid p1
     have HBW:=Lib.hid hbw
     have hj0:(0:Int)≤(j:Int):=by omega
     have hj1:(j:Int) < (n:Int):=by omega
     clear p0 p1 ht hk hsn hA hC hAz hCz hSz
     go_wp2
     go_region_held3 (fun w'=>w'.cell? ⟨b,off + j * 2,none⟩=some (.int .i64 (rn:Int))∧w'.cell? ⟨b,off + j * 2 + 1,none⟩=some (.int .i64 (tn:Int))) (first | exact ⟨q0,q1⟩ | exact ⟨k0,k1⟩ | exact ⟨m0,m1⟩ | fail) (first
       | (go_at_call 46;((with_reducible refine (HAC.out wr.drew).mono ?_);rintro r w2 ⟨rfl,hb2⟩;have HB2:Hid (Below w.heap.size w w2):=Lib.hid (HB.out.trans ((undrewP hb2).mono HB.out.size));have k0:=(HB2.out.cell (p:=⟨b,off + j * 2,none⟩) HBW.out).trans HQ0.out;have k1:=(HB2.out.cell (p:=⟨b,off + j * 2 + 1,none⟩) HBW.out).trans HQ1.out;clear hb2))
       | (go_at_call 46;((with_reducible refine (HCC.out w2).mono ?_);rintro r w3 ⟨rfl,hb3⟩;have HB3:Hid (Below w.heap.size w w3):=Lib.hid (HB2.out.trans (hb3.mono HB2.out.size));have m0:=(HB3.out.cell (p:=⟨b,off + j * 2,none⟩) HBW.out).trans HQ0.out;have m1:=(HB3.out.cell (p:=⟨b,off + j * 2 + 1,none⟩) HBW.out).trans HQ1.out;clear hb3))
       | fail)
     clear q0 q1 k0 k1 m0 m1
     go_wp2
     go_roundw
     case rel=>exact ⟨j + 1,S ++ (A ++ C),by omega,by go_num,rfl,HNX.out,HB3.out⟩
     case measure=>simp [intOf];omega
   · obtain rfl:j=n:=by omega
     have HSP:Hid (S=P):=Lib.hid (by
       apply bytes_ext
       rw [HS.out,←HP.out,HLN.out,List.take_length]
       rfl)
     go_wp2
     go_ret
     exact ⟨by rw [HSP.out];rfl,HB.out⟩
end Go.Proofs.YtjkbmfpomgcblaaGreatDoor
