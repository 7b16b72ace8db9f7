import Derived.Test.YtgfinhehgfbdgaaGreatDoorRa31
import Derived.Test.YtgfinhehgfbdgaaGreatDoorRa09
import Derived.Lib.Join
namespace Go.Proofs.YtgfinhehgfbdgaaGreatDoor
open Go.RowKit
def vdoor (w:World):List Deferred :=
 [{ target:=.fn (Fn.func 88) #[],args:=#[.pointer (some ⟨w.heap.size+2,0,none⟩)] },
   { target:=.fn (Fn.func 142) #[.pointer (some ⟨w.heap.size+2,0,none⟩),.pointer (some ⟨w.heap.size,0,none⟩),.pointer (some ⟨w.heap.size+1,0,none⟩)],args:=#[] }]
set_option maxRecDepth 100000 in
set_option maxHeartbeats 1000000 in
theorem vdoor_bad {w W:World} {lv:Value} {m:Int} {s:List UInt8} (e:Nat) (pl:Int) (h:D3 w W lv m 0 (-1)) (he:e≠0) (hrd:vreadF s=(e,0,[])) (tmps:Array Value)
   (t2:tmps[2]? = some (.pointer (some ⟨w.heap.size,0,none⟩))) (t3:tmps[3]? = some (.pointer (some ⟨w.heap.size+1,0,none⟩))) (t4:tmps[4]? = some (.pointer (some ⟨w.heap.size+2,0,none⟩))) :
   Leaves Tryz.prog Tryz.f89 tmps (RVReadIs w s) (vdoor w) (.panicking [{ v:=.iface 190 (.agg #[.int .i64 (e:Int),.int .i64 pl]),recovered:=false }]) W:=by
 obtain ⟨o0,n0,c0,c1,y0,y1,z0,z1⟩:=h.cells;have hbel:=h.2.2.2.1;have hz:=h.2.2.2.2;have hbe:((e:Int) == 0)=false:=by simp;omega
 obtain ⟨W2,hW2⟩:∃ W2,(W.setCell ⟨w.heap.size+2,0,none⟩ (.int .i64 (e:Int))).setCell ⟨w.heap.size+2,1,none⟩ (.int .i64 pl)=W2:=⟨_,rfl⟩;have hz2:W2.heap.size=W.heap.size:=by rw [←hW2];simp
 have h2:D3 w W2 lv m e pl:=by
   rw [←hW2];obtain ⟨r1,r2,r3,r4,r5⟩:=h;refine ⟨?_,?_,?_,(r4.setCell (by simp) _).setCell (by simp) _,by simpa using r5⟩
   · simp [World.setCell,Array.getElem?_modify,r1]
   · simp [World.setCell,Array.getElem?_modify,r2]
   · simp [World.setCell,Array.getElem?_modify,r3]
 obtain ⟨W3,hW3⟩:∃ W3,W2.alloc (.cells #[.int .i64 (e:Int),.int .i64 pl] 190)=W3:=⟨_,rfl⟩;have h3:D3 w W3 lv m e pl:=by rw [←hW3];exact h2.kept (World.grownBy_alloc W2 _ none) (fun k hk=>by cases hk)
 have hz3:=h3.2.2.2.2;obtain ⟨p0,p1,p2,p3,q0,q1,q2,q3⟩:=h3.cells;unfold vdoor;refine leaves_cons (f:=88) (args:=#[.pointer (some ⟨w.heap.size+2,0,none⟩)]) (by simp) (by simp [go_sem]) ?_;refine (caught_pan (w.heap.size+2) e pl 0 (-1) [] W (by omega) c0 c1 z0 z1).mono ?_;rintro r u' w2 ⟨rfl,rfl,rfl⟩;rw [hW2,hW3];refine leaves_cons (f:=142) (args:=#[.pointer (some ⟨w.heap.size+2,0,none⟩),.pointer (some ⟨w.heap.size,0,none⟩),.pointer (some ⟨w.heap.size+1,0,none⟩)]) (by simp [settle]) (by simp [go_sem]) ?_;refine (vreset_bad (w.heap.size+2) w.heap.size (w.heap.size+1) e pl m lv _ _ hbe p2 p3 (by omega) (by omega) (by omega) (by omega) (by omega) (by omega) p0 p1 q0 q1 q2 q3).mono ?_;rintro r u' w4 ⟨rfl,rfl,w5,hb5,rfl⟩;have h5:D3 w w5 lv m e pl:=h3.kept (grown_b hb5) (fun k hk=>by cases hk);obtain ⟨r1,r2,r3,r4,r5⟩:=h5;have h6:D3 w ((((w5.setCell ⟨w.heap.size,0,none⟩ (.slice none 0 0)).setCell ⟨w.heap.size+1,0,none⟩ (.int .i64 0)).setCell ⟨w.heap.size+2,0,none⟩ (.int .i64 e)).setCell ⟨w.heap.size+2,1,none⟩ (.int .i64 (-1))) (.slice none 0 0) 0 e (-1):=by
   refine ⟨?_,?_,?_,(((r4.setCell (by simp) _).setCell (by simp) _).setCell (by simp) _).setCell (by simp) _,by simpa using r5⟩
   · simp [World.setCell,Array.getElem?_modify,r1]
   · simp [World.setCell,Array.getElem?_modify,r2]
   · simp [World.setCell,Array.getElem?_modify,r3]
 obtain ⟨v0,v1,v2,v3,_⟩:=h6.cells;refine ⟨.tuple #[.slice none 0 0,.int .i64 0,.agg #[.int .i64 (e:Int),.int .i64 (-1)]],by simp [results,Tryz.results89,go_sem,t2,t3,t4,v0,v1,v2,v3],.slice none 0 0,?_,?_,h6.2.2.2.1⟩
 · rw [hrd];rfl
 · rw [hrd];exact ownsE_nil _ _
set_option maxRecDepth 100000 in
set_option maxHeartbeats 1000000 in
theorem vdoor_good {w W:World} {lv:Value} {n:Nat} {l:List Ent} {s:List UInt8} (h:D3 w W lv n 0 (-1)) (ho:ownsE W (w.heap.size+3) lv l) (hrd:vreadF s=(0,n,l)) (tmps:Array Value)
   (t2:tmps[2]? = some (.pointer (some ⟨w.heap.size,0,none⟩))) (t3:tmps[3]? = some (.pointer (some ⟨w.heap.size+1,0,none⟩))) (t4:tmps[4]? = some (.pointer (some ⟨w.heap.size+2,0,none⟩))) :
   Leaves Tryz.prog Tryz.f89 tmps (RVReadIs w s) (vdoor w) .returning W:=by
 obtain ⟨_,_,c0,c1,_⟩:=h.cells;unfold vdoor;refine leaves_cons (f:=88) (args:=#[.pointer (some ⟨w.heap.size+2,0,none⟩)]) (by simp) (by simp [go_sem]) ?_;refine (caught_idle _ W).mono ?_;rintro r u' w2 ⟨rfl,rfl,rfl⟩;refine leaves_cons (f:=142) (args:=#[.pointer (some ⟨w.heap.size+2,0,none⟩),.pointer (some ⟨w.heap.size,0,none⟩),.pointer (some ⟨w.heap.size+1,0,none⟩)]) (by simp [settle]) (by simp [go_sem]) ?_;refine (vreset_good (w.heap.size+2) w.heap.size (w.heap.size+1) (-1) _ _ c0 c1).mono ?_;rintro r u' w3 ⟨rfl,rfl,hb3⟩;have h3:=h.kept (grown_b hb3) (fun k hk=>by cases hk);obtain ⟨v0,v1,v2,v3,_⟩:=h3.cells;refine ⟨.tuple #[lv,.int .i64 (n:Int),.agg #[.int .i64 0,.int .i64 (-1)]],by simp [results,Tryz.results89,go_sem,t2,t3,t4,v0,v1,v2,v3],lv,?_,?_,h3.2.2.2.1⟩
 · rw [hrd];rfl
 · rw [hrd];exact (ho.below hb3).mono (by omega)
theorem grown_set (W:World) (b o:Nat) (x:Value):W.grownBy (W.setCell ⟨b,o,none⟩ x) (some b) :=
 ⟨rfl,rfl,rfl,by simp,fun k hk hne=>by
   have hk2:b≠k:=fun e=>hne (by rw [e])
   simp only [World.setCell,Array.getElem?_modify,if_neg hk2]⟩
theorem own_set {W:World} {base b o:Nat} {v x:Value} {l:List Ent} (ho:ownsE W base v l) (hb:b<base):ownsE (W.setCell ⟨b,o,none⟩ x) base v l :=
 grown_ne ho hb (grown_set W b o x)
theorem D3.over {w W:World} {lv lv':Value} {m m' x pl:Int} (h:D3 w W lv m x pl):D3 w ((((W.setCell ⟨w.heap.size,0,none⟩ lv').setCell ⟨w.heap.size+1,0,none⟩ (.int .i64 m')).setCell ⟨w.heap.size+2,0,none⟩ (.int .i64 x)).setCell ⟨w.heap.size+2,1,none⟩ (.int .i64 pl)) lv' m' x pl:=by
 obtain ⟨r1,r2,r3,r4,r5⟩:=h;refine ⟨?_,?_,?_,(((r4.setCell (by simp) _).setCell (by simp) _).setCell (by simp) _).setCell (by simp) _,by simpa using r5⟩
 · simp [World.setCell,Array.getElem?_modify,r1]
 · simp [World.setCell,Array.getElem?_modify,r2]
 · simp [World.setCell,Array.getElem?_modify,r3]
set_option maxRecDepth 100000 in
set_option maxHeartbeats 4000000 in
theorem rvread_any (s:ByteArray) (w:World) (hs:s.size≤1000000) :
   Calls Tryz.prog 89 #[.string s] w (RVReadIs w s.data.toList):=by
 have hmf:∀ (fn:Fn) (first cap:Array Value) (w:World),(Instr.makeFunc fn first cap).run Tryz.prog w=.ok (.func fn first cap) w:=fun _ _ _ _=>rfl
 go_enter_defers Tryz.func89,Tryz.ntmps89
 go_wp2_with fail
 refine (good_any _).mono ?_;rintro r w1 ⟨rfl,hb1⟩;have hz1:w.heap.size+3≤w1.heap.size:=by have:=hb1.size;simpa using this
 have hA:D3 w (((w.alloc (.cells #[.slice none 0 0] 22)).alloc (.cells #[.int .i64 0] 3)).alloc (.cells #[.int .i64 0,.int .i64 0] 29)) (.slice none 0 0) 0 0 0:=by
   refine ⟨?_,?_,?_,(((Below.refl _ _).alloc (Nat.le_refl _) _).alloc (by simp) _).alloc (by simp only [World.size_alloc];omega) _,by simp⟩
   · rw [Below.heap_alloc _ _ _ (by simp only [World.size_alloc];omega),Below.heap_alloc _ _ _ (by simp only [World.size_alloc];omega)];exact heap_alloc_new w _
   · rw [Below.heap_alloc _ _ _ (by simp only [World.size_alloc];omega)];have h:=heap_alloc_new (w.alloc (.cells #[.slice none 0 0] 22)) (.cells #[.int .i64 0] 3);simpa using h
   · have h:=heap_alloc_new ((w.alloc (.cells #[.slice none 0 0] 22)).alloc (.cells #[.int .i64 0] 3)) (.cells #[.int .i64 0,.int .i64 0] 29);simpa using h
 have h1:=hA.kept (grown_b hb1) (fun k hk=>by cases hk);obtain ⟨_,_,c0,c1,_,_,f0,f1⟩:=h1.cells;have h2:D3 w ((w1.setCell ⟨w.heap.size+2,0,none⟩ (.int .i64 0)).setCell ⟨w.heap.size+2,1,none⟩ (.int .i64 (-1))) (.slice none 0 0) 0 0 (-1):=by
   obtain ⟨r1,r2,r3,r4,r5⟩:=h1;refine ⟨?_,?_,?_,(r4.setCell (by simp) _).setCell (by simp) _,by simpa using r5⟩
   · simp [World.setCell,Array.getElem?_modify,r1]
   · simp [World.setCell,Array.getElem?_modify,r2]
   · simp [World.setCell,Array.getElem?_modify,r3]
 have H2:=Lib.hid h2;clear hb1 hA h1 h2;have HS0:Hid (Sc (((w1.setCell ⟨w.heap.size+1+1,0,none⟩ (.int .i64 0)).setCell ⟨w.heap.size+1+1,1,none⟩ (.int .i64 (-1))).alloc (.cells #[.string s,.int .i64 0] 122)) w1.heap.size s 0):=Lib.hid (by
   have h:=heap_alloc_new ((w1.setCell ⟨w.heap.size+1+1,0,none⟩ (.int .i64 0)).setCell ⟨w.heap.size+1+1,1,none⟩ (.int .i64 (-1))) (.cells #[.string s,.int .i64 0] 122);unfold Sc
   simpa using h)
 have H3:=Lib.hid (H2.out.kept (World.grownBy_alloc _ (.cells #[.string s,.int .i64 0] 122) none) (fun k hk=>by cases hk));go_wp2_with fail
 refine (entries_any w1.heap.size s _ HS0.out hs).mono ?_;rintro r w2 ⟨hg,hc⟩;have h4:=H3.out.kept hg (fun k hk=>by cases hk;exact hz1);have H4:=Lib.hid h4;rcases hc with ⟨v,n,l,hv,rfl,ho,hsc⟩ | ⟨x,pl,hv,hx,rfl⟩
 · obtain ⟨ad, cc, rfl⟩ : ∃ ad cc, v = .slice ad l.length cc := by
     obtain ⟨ad,cc,hh,_⟩:=ho.is.form;exact ⟨ad,cc,hh⟩
   have h5:D3 w (w2.setCell ⟨w.heap.size,0,none⟩ (.slice ad l.length cc)) (.slice ad l.length cc) 0 0 (-1):=by
     obtain ⟨r1,r2,r3,r4,r5⟩:=h4;refine ⟨?_,?_,?_,r4.setCell (by simp) _,by simpa using r5⟩
     · simp [World.setCell,Array.getElem?_modify,r1]
     · simp [World.setCell,Array.getElem?_modify,r2]
     · simp [World.setCell,Array.getElem?_modify,r3]
   obtain ⟨o0,_,_,_,y0,_⟩:=h4.cells;obtain ⟨k0,k1,k2,k3,g0,g1,g2,g3⟩:=h5.cells;have k2':(w2.setCell ⟨w.heap.size,0,none⟩ (.slice ad l.length cc)).cell? ⟨w.heap.size+1+1,0,none⟩=some (.int .i64 0):=k2;have k3':(w2.setCell ⟨w.heap.size,0,none⟩ (.slice ad l.length cc)).cell? ⟨w.heap.size+1+1,1,none⟩=some (.int .i64 (-1)):=k3;have g2':(w2.setCell ⟨w.heap.size,0,none⟩ (.slice ad l.length cc)).frozen? ⟨w.heap.size+1+1,0,none⟩=false:=g2;have g3':(w2.setCell ⟨w.heap.size,0,none⟩ (.slice ad l.length cc)).frozen? ⟨w.heap.size+1+1,1,none⟩=false:=g3;have hne:w1.heap.size≠w.heap.size:=by omega
   have sc:(w2.setCell ⟨w.heap.size,0,none⟩ (.slice ad l.length cc)).cell? ⟨w1.heap.size,1,none⟩=some (.int .i64 (n:Int)):=(World.cell?_setCell_other _ _ _ _ (by simp)).trans hsc.cells.2.1;have H5:=Lib.hid h5;have HO:=Lib.hid ho;have HV:=Lib.hid hv;clear h4 h5 ho hv hsc hg;go_wp2;refine wp_region_noPanic ?_;go_region
   all_goals
     refine NoPanic.normal ?_;have HO2:=Lib.hid (HO.out.mono (show w.heap.size+3≤_ by simp;omega));have HD:=Lib.hid (H5.out.over (lv':=.slice ad l.length cc) (m':=(n:Int)) |>.kept (grown_drewN _ 1 none) (fun k hk=>by cases hk));go_wp2;exact vdoor_good HD.out (((((own_set HO2.out (by omega) |> fun h=>own_set h (by omega)) |> fun h=>own_set h (by omega)) |> fun h=>own_set h (by omega)) |> fun h=>own_set h (by omega)).drewN 1) HV.out _ rfl rfl rfl
 · exact vdoor_bad x pl h4 hx hv _ rfl rfl rfl
end Go.Proofs.YtgfinhehgfbdgaaGreatDoor
namespace Go.Proofs.YtgfinhehgfbdgaaGreatDoor
open Go.RowKit
theorem isErrorE (v:Value) (xT:TypeId) (w:World):(Instr.typeAssert (.iface 27 v) xT 33 true).run Tryz.prog w=.ok (.tuple #[.iface 27 v,.bool true]) w :=
 run_typeAssert_hasB Tryz.underlying33 (by kernel_rfl) v xT w
theorem isErrorA (v:Value) (xT:TypeId) (w:World):(Instr.typeAssert (.iface 82 v) xT 33 true).run Tryz.prog w=.ok (.tuple #[.iface 82 v,.bool true]) w :=
 run_typeAssert_hasB Tryz.underlying33 (by kernel_rfl) v xT w
theorem isErrorN (xT:TypeId) (w:World):(Instr.typeAssert .nilIface xT 33 true).run Tryz.prog w=.ok (.tuple #[.nilIface,.bool false]) w:=by kernel_rfl
set_option maxRecDepth 100000 in
theorem catS_idle (E:Nat) (w:World) :
   CallsD Tryz.prog 108 #[.pointer (some ⟨E,0,none⟩)] .returning w fun r u' w'=>r=.returned (.tuple #[])∧u'=.returning∧w'=w:=by
 have iN:=isErrorN;refine callsD_of_wpS Tryz.func108 rfl fun c₀ cs hu=>?_
 apply wpS_seq
 apply wpS_region
 simp [wpOpsS,go_sem,recoverD,hu,Tryz.ntmps108,Exit.thenS,iN]
 refine wpS_of_wp ?_;rw [show (#[.pointer (some ⟨E,0,none⟩)]++(((((((Array.replicate 9 undef).setIfInBounds 3 .nilIface).setIfInBounds 4 (.tuple #[.nilIface,.bool false])).setIfInBounds 2 (.tuple #[.nilIface,.bool false])).setIfInBounds 5 .nilIface).setIfInBounds 6 (.bool false)).setIfInBounds 0 .nilIface).setIfInBounds 1 (.bool false):Array Value)=#[.pointer (some ⟨E,0,none⟩),.nilIface,.bool false,.tuple #[.nilIface,.bool false],.nilIface,.tuple #[.nilIface,.bool false],.nilIface,.bool false,undef,undef] by kernel_rfl];go_wp2;cases c₀
 simp_all [bodyPostS,results,Tryz.results108]
set_option maxRecDepth 100000 in
theorem catS_pan (E:Nat) (t:TypeId) (v old:Value) (older:List PanicEntry) (w:World) (ht:t=27∨t=82) (h0:w.cell? ⟨E,0,none⟩=some old) (z0:w.frozen? ⟨E,0,none⟩=false) :
   CallsD Tryz.prog 108 #[.pointer (some ⟨E,0,none⟩)] (.panicking ({ v:=.iface t v,recovered:=false }::older)) w fun r u' w' =>
     r=.returned (.tuple #[])∧u'=.panicking ({ v:=.iface t v,recovered:=true }::older)∧w'=w.setCell ⟨E,0,none⟩ (.iface t v):=by
 have iT:∀ (xT:TypeId) (w:World),(Instr.typeAssert (.iface t v) xT 33 true).run Tryz.prog w=.ok (.tuple #[.iface t v,.bool true]) w:=by
   rcases ht with rfl | rfl
   · exact fun xT w=>isErrorE v xT w
   · exact fun xT w=>isErrorA v xT w
 refine callsD_of_wpS Tryz.func108 rfl fun c₀ cs hu=>?_
 apply wpS_seq
 apply wpS_region
 simp [wpOpsS,go_sem,recoverD,hu,Tryz.ntmps108,Exit.thenS,iT]
 refine wpS_of_wp ?_;rw [show (#[.pointer (some ⟨E,0,none⟩)]++(((((((Array.replicate 9 undef).setIfInBounds 3 (.iface t v)).setIfInBounds 4 (.tuple #[.iface t v,.bool true])).setIfInBounds 2 (.tuple #[.iface t v,.bool true])).setIfInBounds 5 (.iface t v)).setIfInBounds 6 (.bool true)).setIfInBounds 0 (.iface t v)).setIfInBounds 1 (.bool true):Array Value)=#[.pointer (some ⟨E,0,none⟩),.iface t v,.bool true,.tuple #[.iface t v,.bool true],.iface t v,.tuple #[.iface t v,.bool true],.iface t v,.bool true,undef,undef] by kernel_rfl];go_wp2;simp [bodyPostS,results,Tryz.results108]
theorem anyErr.typed {w:World} {t:TypeId} {v:Value} {r:Nat×Int} (h:anyErr w (.iface t v) r):t=27∨t=82:=by
 rcases h with (⟨_,h⟩ | ⟨_,b,h,_⟩) | ⟨_,_,h⟩
 · cases h
 · injection h with h1 h2;exact .inr h1
 · injection h with h1 h2;exact .inl h1
theorem anyErr.set {w:World} {v x:Value} {r:Nat×Int} {E:Nat} (h:anyErr w v r) (hE:w.cell? ⟨E,0,none⟩=some .nilIface):anyErr (w.setCell ⟨E,0,none⟩ x) v r:=by
 rcases h with (h | ⟨h0,b,h1,h2,h3,h4⟩) | h
 · exact .inl (.inl h)
 · have hne:b≠E:=fun e=>by rw [e,hE] at h3;cases h3
   refine .inl (.inr ⟨h0,b,h1,by simpa using h2,?_,?_⟩)
   · rw [World.cell?_setCell_other _ _ _ _ (by intro e;first | (simp at e;done) | (simp at e;omega))];exact h3
   · rw [World.cell?_setCell_other _ _ _ _ (by intro e;simp at e)];exact h4
 · exact .inr h
def BWriteIs (w:World) (r:List UInt8×Nat×Int) (e:Ending) (w':World):Prop :=
 ∃ err,e=.returned (.tuple #[.string ⟨r.1.toArray⟩,err])∧anyErr w' err r.2∧Below w.heap.size w w'
def sdoor (E:Nat):List Deferred:=[{ target:=.fn (Fn.func 108) #[.pointer (some ⟨E,0,none⟩)],args:=#[] }]
set_option maxRecDepth 100000 in
theorem sdoor_bad {w W:World} {r:List UInt8×Nat×Int} {t:TypeId} {v:Value} (hb:Below w.heap.size w W) (hE:W.heap[w.heap.size]? = some (.cells #[.nilIface] 33 (0,0))) (hr1:r.1=[]) (ha:anyErr W (.iface t v) r.2) (tmps:Array Value)
   (t2:tmps[2]? = some (.string ⟨#[]⟩)) (t3:tmps[3]? = some (.pointer (some ⟨w.heap.size,0,none⟩))) :
   Leaves Tryz.prog Tryz.f61 tmps (BWriteIs w r) (sdoor w.heap.size) (.panicking [{ v:=.iface t v,recovered:=false }]) W:=by
 have c0:W.cell? ⟨w.heap.size,0,none⟩=some .nilIface:=cell_of_row _ _ 0 _ _ (0,0) hE;unfold sdoor;refine leaves_cons (f:=108) (args:=#[.pointer (some ⟨w.heap.size,0,none⟩)]) (by simp) (by simp [go_sem]) ?_;refine (catS_pan w.heap.size t v .nilIface [] W ha.typed c0 (Lib.frozen_of_heap hE 0)).mono ?_;rintro r' u' w2 ⟨rfl,rfl,rfl⟩;have p0:(W.setCell ⟨w.heap.size,0,none⟩ (.iface t v)).cell? ⟨w.heap.size,0,none⟩=some (.iface t v):=World.cell?_setCell_same _ _ _ c0;refine ⟨.tuple #[.string ⟨#[]⟩,.iface t v],by simp [results,Tryz.results61,go_sem,t2,t3,p0],.iface t v,?_,ha.set c0,hb.setCell (by simp) _⟩;rw [hr1]
set_option maxRecDepth 100000 in
theorem sdoor_good {w W:World} {r:List UInt8×Nat×Int} (hb:Below w.heap.size w W) (hE:W.heap[w.heap.size]? = some (.cells #[.nilIface] 33 (0,0))) (hr2:r.2=(0,-1)) (tmps:Array Value)
   (t2:tmps[2]? = some (.string ⟨r.1.toArray⟩)) (t3:tmps[3]? = some (.pointer (some ⟨w.heap.size,0,none⟩))) :
   Leaves Tryz.prog Tryz.f61 tmps (BWriteIs w r) (sdoor w.heap.size) .returning W:=by
 have c0:W.cell? ⟨w.heap.size,0,none⟩=some .nilIface:=cell_of_row _ _ 0 _ _ (0,0) hE;unfold sdoor;refine leaves_cons (f:=108) (args:=#[.pointer (some ⟨w.heap.size,0,none⟩)]) (by simp) (by simp [go_sem]) ?_;refine (catS_idle w.heap.size W).mono ?_;rintro r' u' w2 ⟨rfl,rfl,rfl⟩;refine ⟨.tuple #[.string ⟨r.1.toArray⟩,.nilIface],by simp [results,Tryz.results61,go_sem,t2,t3,c0],.nilIface,rfl,?_,hb⟩;exact .inl (.inl ⟨hr2,rfl⟩)
set_option maxRecDepth 100000 in
set_option maxHeartbeats 1000000 in
theorem catS_any (b:Nat) (w:World) (r:List UInt8×Nat×Int) (hf:Calls Tryz.prog 62 #[.pointer (some ⟨b,0,none⟩)] (w.alloc (.cells #[.nilIface] 33)) (WrtnIs (w.alloc (.cells #[.nilIface] 33)) r)) :
   Calls Tryz.prog 61 #[.func (.func 62) #[] #[.pointer (some ⟨b,0,none⟩)]] w (BWriteIs w r):=by
 have hmf:∀ (fn:Fn) (first cap:Array Value) (w:World),(Instr.makeFunc fn first cap).run Tryz.prog w=.ok (.func fn first cap) w:=fun _ _ _ _=>rfl
 have HF:=Lib.hid hf;clear hf
 go_enter_defers Tryz.func61,Tryz.ntmps61
 go_wp2_with fail
 refine HF.out.mono ?_;rintro e w1 ⟨hb1,hc⟩;have hbw:Below w.heap.size w w1:=((Below.refl _ _).alloc (Nat.le_refl _) _).trans (hb1.mono (by simp));have hE:w1.heap[w.heap.size]? = some (.cells #[.nilIface] 33 (0,0)):=(hb1.block _ (by simp)).trans (heap_alloc_new w _);have HB:=Lib.hid hbw;have HE:=Lib.hid hE;rcases hc with ⟨hr,rfl⟩ | ⟨hne,hr1,t,v,rfl,ha⟩
 · have c0:w1.cell? ⟨w.heap.size,0,none⟩=some .nilIface:=cell_of_row _ _ 0 _ _ (0,0) hE;have z0:w1.frozen? ⟨w.heap.size,0,none⟩=false:=Lib.frozen_of_heap hE 0;have HR:=Lib.hid hr;have HS:Hid ((w1.setCell ⟨w.heap.size,0,none⟩ .nilIface).heap[w.heap.size]? = some (.cells #[.nilIface] 33 (0,0))):=Lib.hid (by rw [heap_setCell_same _ _ _ _ _ _ hE];rfl);have HBS:Hid (Below w.heap.size w (w1.setCell ⟨w.heap.size,0,none⟩ .nilIface)):=Lib.hid (hbw.setCell (by simp) _);clear hb1 hbw hE hr;go_wp2;exact sdoor_good HBS.out HS.out HR.out _ rfl rfl
 · exact sdoor_bad HB.out HE.out hr1 ha _ rfl rfl
set_option maxRecDepth 100000 in
theorem write1_any (b:Nat) (vf vh vw:Value) (f h:List Ent) (l:List Wr) (w:World) (hx:BatIs w vf vh vw f h l) (hg:errT w) (hc:batAt w b vf vh vw) :
   Calls Tryz.prog 62 #[.pointer (some ⟨b,0,none⟩)] w (WrtnIs w (bodyF f h l)):=by
 have HX:=Lib.hid hx;have HG:=Lib.hid hg;obtain ⟨c0,c1,c2⟩:=hc;obtain ⟨af,cf,rfl,_⟩:=hx.1.form;obtain ⟨ah,ch,rfl,_⟩:=hx.2.1.form;obtain ⟨aw,cw,rfl,_⟩:=hx.2.2.1.form;generalize f.length=nf at HX c0 ⊢;generalize h.length=nh at HX c1 ⊢;generalize l.length=n at HX c2 ⊢;clear hx hg;have hw:Calls Tryz.prog 63 #[.agg #[.slice af nf cf,.slice ah nh ch,.slice aw n cw]] w (WrtnIs w (bodyF f h l)):=by
   by_cases h0:(batF f h l).1=0
   · exact written_ok _ _ _ f h l w HX.out HG.out h0
   · exact written_bad _ _ _ f h l w HX.out HG.out h0
 have HW:=Lib.hid hw;clear hw;go_enter Tryz.func62,Tryz.ntmps62
 go_wp2_with fail
 refine HW.out.mono ?_;rintro e w1 ⟨hb1,hc⟩;rcases hc with ⟨hr,rfl⟩ | ⟨hne,hr1,t,v,rfl,ha⟩
 · have HB:=Lib.hid hb1;have HR:=Lib.hid hr;clear hb1 hr;go_wp2;go_ret;exact ⟨HB.out,.inl ⟨HR.out,rfl⟩⟩
 · exact And.intro rfl ⟨hb1,.inr ⟨hne,hr1,t,v,rfl,ha⟩⟩
set_option maxRecDepth 100000 in
theorem bwrite_any (vf vh vw:Value) (f h:List Ent) (l:List Wr) (w:World) (hx:BatIs w vf vh vw f h l) (hg:errT w) :
   Calls Tryz.prog 27 #[.agg #[vf,vh,vw]] w (BWriteIs w (bodyF f h l)):=by
 have hmf:∀ (fn:Fn) (first cap:Array Value) (w:World),(Instr.makeFunc fn first cap).run Tryz.prog w=.ok (.func fn first cap) w:=fun _ _ _ _=>rfl
 obtain ⟨W0,hW0⟩:∃ W0,w.alloc (.cells #[vf,vh,vw] 25)=W0:=⟨_,rfl⟩;have hb0:Below w.heap.size w W0:=by rw [←hW0];exact (Below.refl _ _).alloc (Nat.le_refl _) _
 have hz0:w.heap.size<W0.heap.size:=by rw [←hW0];simp
 have hc:=batAt_new w vf vh vw 25;rw [hW0] at hc;have hx0:BatIs W0 vf vh vw f h l:=hx.below hb0;have hcat:=catS_any w.heap.size W0 (bodyF f h l) (write1_any w.heap.size vf vh vw f h l _ (hx0.alloc _) ((hg.below hb0).alloc _) (hc.below ((Below.refl _ _).alloc (Nat.le_refl _) _) hz0));have HCAT:=Lib.hid hcat;have HB0:=Lib.hid hb0;obtain ⟨af,cf,rfl,_⟩:=hx.1.form;obtain ⟨ah,ch,rfl,_⟩:=hx.2.1.form;obtain ⟨aw,cw,rfl,_⟩:=hx.2.2.1.form;generalize f.length=nf at hW0 ⊢;generalize h.length=nh at hW0 ⊢;generalize l.length=n at hW0 ⊢;clear hx hg hb0 hz0 hc hx0 hcat;go_enter Tryz.func27,Tryz.ntmps27
 go_wp2_with fail
 refine HCAT.out.mono ?_;rintro e w1 ⟨err,rfl,ha,hb1⟩;have HA:=Lib.hid ha;have HB1:Hid (Below w.heap.size w w1):=HB0.out.trans (hb1.mono HB0.out.size);clear ha hb1;go_wp2;go_ret2;exact ⟨err,rfl,HA.out,HB1.out⟩
end Go.Proofs.YtgfinhehgfbdgaaGreatDoor
namespace Go.Proofs.YtgfinhehgfbdgaaGreatDoor
open Go.RowKit
theorem rvary_as (n:Nat) (k:Int) (P:ByteArray) (w:World) (h:n≤1000000) (hk:(n:Int)=k) (hP:⟨(putL n).toArray⟩=P) :
   Calls Tryz.prog 39 #[.int .u64 k] w fun e w'=>e=.returned (.string P)∧Below w.heap.size w w':=by
 subst hk hP;exact rvary_any n w (by omega)
def flatS (l:List ByteArray):List UInt8:=(l.map (·.data.toList)).flatten
theorem flatS_two (l:List ByteArray) (a b:ByteArray):flatS (l++[a,b])=flatS l++(a.data.toList++b.data.toList):=by simp [flatS]
theorem join_empty (l:List ByteArray):Lib.join (l.map (·.data.toList)) (⟨#[]⟩:ByteArray).data.toList=flatS l:=by
 show Lib.join _ []=_
 unfold flatS;cases l with
 | nil=>rfl
 | cons x r =>
   rw [List.map_cons,Lib.join_cons,List.flatten_cons];unfold Lib.joinTail;simp [Function.comp_def]
theorem rjoin_any (v:Value) (base:Nat) (xs:List ByteArray) (w:World) (h:ownsS w base v xs) (hn:xs.length≤1000000) (hlen:(flatS xs).length≤1000000) :
   Calls Tryz.prog 138 #[v,.string ⟨#[]⟩] w fun e w'=>e=.returned (.string ⟨(flatS xs).toArray⟩)∧Below w.heap.size w w':=by
 have hown:=h;have hlt:=h.lt;obtain ⟨h0,h1⟩:=h;rcases h1 with ⟨rfl,hz⟩ | ⟨g,cap,cur,rfl,hb,hh,hc,hm,hs,ht⟩
 · obtain rfl:=List.length_eq_zero_iff.1 hz;exact (Tryz.strings_Join_none none 0 ⟨#[]⟩ w).mono fun e w' ⟨he,hw⟩=>⟨he,hw ▸ Below.refl _ _⟩
 · have hcap:xs.length≤cap:=by omega
   have:=Tryz.strings_Join g 0 cap xs ⟨#[]⟩ w (fun j x hj=>by
     have hjl:j<xs.length:=(List.getElem?_eq_some_iff.1 hj).1;rw [Nat.zero_add,World.ownsRow.cellAt hown j (by omega)];rw [List.getElem?_map,hj];rfl) (hlt g rfl).2 (by omega) hcap (by rw [join_empty];omega)
   rw [join_empty] at this;exact this
theorem grown_cell {w w':World} {row:Option Nat} (hg:w.grownBy w' row) {b o:Nat} (hb:b<w.heap.size) (hne:row≠some b):w'.cell? ⟨b,o,none⟩=w.cell? ⟨b,o,none⟩:=by
 simp [World.cell?,hg.block b hb (fun e=>hne e.symm)]
theorem ownsS.ne {w:World} {base:Nat} {v:Value} {l:List ByteArray} (h:ownsS w base v l) {b:Nat} (hb:w.heap.size≤b):v.ownBlock≠some b:=fun e=>by
 have:=(h.lt b e).2;omega
set_option maxRecDepth 100000 in
set_option maxHeartbeats 4000000 in
theorem rwrite_any (v:Value) (l:List Tok) (w:World) (hv:IsToks w v l) (hl:l.length≤9223372036854775807) (hz:∀ t∈l,t.own.size≤140737488351232) :
   Calls Tryz.prog 79 #[v] w fun e w'=>e=.returned (.tuple #[.string ⟨(writeF l).toArray⟩,faultV (rightF l 0 0)])∧Below w.heap.size w w':=by
 have HLL:=Lib.hid hl;have HZ:=Lib.hid hz;obtain ⟨e,pl,hr⟩:∃ e pl,rightF l 0 0=(e,pl):=⟨_,_,rfl⟩;have HR:Hid (faultV (rightF l 0 0)=.agg #[.int .i64 e,.int .i64 pl]):=by
   have h:faultV (rightF l 0 0)=.agg #[.int .i64 e,.int .i64 pl]:=by rw [hr];rfl
   exact h
 have HVA:=Lib.hid (hv.alloc (.cells #[.int .i64 0,.int .i64 0] 29));by_cases he:e=0
 · subst he;have hr0:(rightF l 0 0).1=0:=by rw [hr]
   have hpl:pl=-1:=by have:=rightF_any hr0;rw [hr] at this;exact (Prod.mk.inj this).2
   subst hpl;have HW:Hid (writeF l=writeL l):=by
     have h:writeF l=writeL l:=by unfold writeF;rw [if_pos hr0]
     exact h
   have HF:=Lib.hid (right_fine hr0);obtain ⟨hfew,hcost,_⟩:=right_few hr0;have HC:=Lib.hid hcost;have HSZ:Hid (∀ t∈l,t.own.size≤20000):=by
     have h:∀ t∈l,t.own.size≤20000:=right_own hr0;exact h
   obtain ⟨a1,c1,rfl,f1⟩:=hv.form;have F1:=Lib.hid f1;obtain ⟨n,hn⟩:∃ n,n=l.length:=⟨_,rfl⟩;rw [←hn] at hl hfew ⊢ HVA;have HN:=Lib.hid hn;clear hv f1 hn hz hr hr0 hcost;go_enter Tryz.func79,Tryz.ntmps79
   go_wp2_with fail
   refine (rright_any _ l _ HVA.out HLL.out HZ.out).mono ?_;rintro r w0 ⟨rfl,hb0⟩;rw [HR.out];have HB0:=Lib.hid hb0;have hz0:=hb0.size;rw [World.size_alloc] at hz0;clear hb0;go_wp2_with fail
   refine (is_any 0 (-1) _).mono ?_;rintro r w1 ⟨rfl,hb1⟩;have HB1:Hid (Below (w.heap.size+1) (w.alloc (.cells #[.int .i64 0,.int .i64 0] 29)) w1):=(HB0.out.mono (by simp)).alloc (by omega) _ |>.trans (hb1.mono (by simp;omega))
   clear hb1;go_wp2
   go_loopw [5,16] (fun o i wr=>∃ (k:Nat) (acc:List ByteArray),k≤n∧i=.int .i64 k∧flatS acc=writeL (l.take k)∧acc.length=2 * k∧ownsS wr (w.heap.size+1) o acc∧Below (w.heap.size+1) (w.alloc (.cells #[.int .i64 0,.int .i64 0] 29)) wr) (fun _ i _=>n-(intOf i).toNat)
   case atStart=>exact ⟨0,[],by omega,rfl,rfl,rfl,ownsS_nil _ _,HB1.out⟩
   case round =>
     obtain ⟨k,acc,hk,rfl,hfl,hal,hown,hbel⟩:=hrel;have HFL:=Lib.hid hfl;have HAL:=Lib.hid hal;have HO:=Lib.hid hown;have HB:=Lib.hid hbel;have hzr:=hbel.size;rw [World.size_alloc] at hzr;have HBW:Hid (Below w.heap.size w wr):=((Below.refl _ _).alloc (Nat.le_refl _) _).trans (hbel.mono (Nat.le_succ _));have x0:wr.cell? ⟨w.heap.size,0,none⟩=some (.int .i64 0):=(hbel.cell (by exact Nat.lt_succ_self _)).trans (by simp);have x1:wr.cell? ⟨w.heap.size,1,none⟩=some (.int .i64 0):=(hbel.cell (by exact Nat.lt_succ_self _)).trans (by simp);have y0:wr.frozen? ⟨w.heap.size,0,none⟩=false:=(hbel.frozen (by exact Nat.lt_succ_self _)).trans (by simp);have y1:wr.frozen? ⟨w.heap.size,1,none⟩=false:=(hbel.frozen (by exact Nat.lt_succ_self _)).trans (by simp);clear hfl hal hown hbel;by_cases hlt:k<n
     · obtain ⟨t, ht⟩ : ∃ t, l[k]? = some t := ⟨l[k]'(by have := HN.out; omega), List.getElem?_eq_getElem _⟩;obtain ⟨b1,o1,rfl,hb1,p0,p1,p2⟩:=F1.out k t ht;have HSN:=Lib.hid (writeL_snoc l k t ht);have hfine:fine t:=(HF.out t (List.mem_of_getElem? ht)).1;have hts:t.own.size≤20000:=HSZ.out t (List.mem_of_getElem? ht);obtain ⟨own,back,size⟩:=t;simp only at p0 p1 p2 hts
       have q0:=(HBW.out.cell (p:=⟨b1,o1+k * 3,none⟩) hb1).trans p0;have q1:=(HBW.out.cell (p:=⟨b1,o1+k * 3+1,none⟩) hb1).trans p1;have q2:=(HBW.out.cell (p:=⟨b1,o1+k * 3+2,none⟩) hb1).trans p2;clear p0 p1 p2 ht x0 x1 y0 y1;rcases hfine with ⟨h1,h2,h3⟩ | ⟨h1,h2,h3,h4,h5⟩
       · simp only at h1 h2 h3
         subst h2 h3;obtain ⟨P,hP⟩:∃ P:ByteArray,⟨(putL (2 * own.size)).toArray⟩=P:=⟨_,rfl⟩;have HX:Hid (flatS (acc++[P,own])=writeL (l.take (k+1))):=by
           have h:flatS (acc++[P,own])=writeL (l.take (k+1)):=by rw [flatS_two,HSN.out,putT_own h1,HFL.out,←hP]
           exact h
         have HPP:=Lib.hid hP;have k1:IntKind.i64.wrap (2 * (own.size:Int))=2 * own.size:=IntWalk.i64_in _ (by omega);have k2:IntKind.u64.wrap (2 * (own.size:Int))=2 * own.size:=IntWalk.u64_in _ (by omega);have HQ:Hid (2 * own.size≤1000000∧((2 * own.size:Nat):Int)=2 * (own.size:Int)):=⟨by omega,by omega⟩;have c0:(wr.alloc (.cells #[.string own,.int .i64 0,.int .i64 0] 163)).cell? ⟨wr.heap.size,0,none⟩=some (.string own):=by simp
         have HO0:=Lib.hid (HO.out.alloc (.cells #[.string own,.int .i64 0,.int .i64 0] 163));have HB0':Hid (Below (w.heap.size+1) (w.alloc (.cells #[.int .i64 0,.int .i64 0] 29)) (wr.alloc (.cells #[.string own,.int .i64 0,.int .i64 0] 163))):=HB.out.alloc (by omega) _;have HAL2:Hid (acc.length+2≤8796093022208):=Lib.hid (show acc.length+2≤8796093022208 by have:=HAL.out;omega);clear h1 hP;go_wp2;go_region_held3 (fun w'=>w'.cell? ⟨wr.heap.size,0,none⟩=some (.string own)) (first | exact c0 | exact c1' | exact c15 | exact c2) (first | (go_at_call 39;(with_reducible refine (rvary_as (2 * own.size) _ P _ HQ.out.1 HQ.out.2 HPP.out).mono ?_);rintro r w2 ⟨rfl,hb2⟩;have c1':w2.cell? ⟨wr.heap.size,0,none⟩=some (.string own):=(hb2.cell (by simp)).trans c0;have HB2:Hid (Below (w.heap.size+1) (w.alloc (.cells #[.int .i64 0,.int .i64 0] 29)) w2):=(HB0'.out.drew.trans (hb2.mono (by simp;omega)));have HO2:Hid (ownsS w2 (w.heap.size+1) _ acc):=(HO0.out.drew.below hb2);have hz2:wr.heap.size<w2.heap.size:=(Nat.lt_of_lt_of_le (by simp) hb2.size);have c15:(w2.alloc (.cells #[.string P,.string own] 9)).cell? ⟨wr.heap.size,0,none⟩=some (.string own):=((((Below.refl _ _).alloc (Nat.le_refl _) _).cell hz2).trans c1');clear hb2) | (refine step_append_strs _ rfl _ _ rfl (w.heap.size+1) _ acc rfl (HO2.out.alloc _) ⟨w2.heap.size,0,none⟩ 2 rfl P own (by simp [Addr.add]) (by simp [Addr.add]) HAL2.out (by simp;omega) ?_;intro g cap w3 hown3 hg3;have c2:w3.cell? ⟨wr.heap.size,0,none⟩=some (.string own):=((grown_cell hg3 (by simp;omega) (HO.out.ne (Nat.le_refl _))).trans c15);have HB3:Hid (Below (w.heap.size+1) (w.alloc (.cells #[.int .i64 0,.int .i64 0] 29)) w3):=((HB2.out.alloc (by omega) _).grown hg3 (by simp;omega) (fun g hg=>(HO.out.lt g hg).1));have HO3:=Lib.hid hown3;clear hown3 hg3))
         go_wp2;go_roundw
         case rel=>exact ⟨k+1,acc++[P,own],by omega,by go_num,HX.out,by rw [List.length_append,HAL.out];simp;omega,HO3.out,HB3.out⟩
         case measure=>simp [intOf];omega
       · simp only at h1 h2 h3 h4 h5
         obtain ⟨Z,rfl⟩:=Int.eq_ofNat_of_zero_le (show 0≤size by omega);obtain ⟨B,rfl⟩:=Int.eq_ofNat_of_zero_le (show 0≤back by omega);obtain ⟨P,hP⟩:∃ P:ByteArray,⟨(putL (2 * (Z-4)+1)).toArray⟩=P:=⟨_,rfl⟩;obtain ⟨R,hR⟩:∃ R:ByteArray,⟨(putL (B-1)).toArray⟩=R:=⟨_,rfl⟩;have HX:Hid (flatS (acc++[P,R])=writeL (l.take (k+1))):=by
           have h:flatS (acc++[P,R])=writeL (l.take (k+1)):=by rw [flatS_two,HSN.out,putT_rep h1,HFL.out,←hP,←hR];rfl
           exact h
         have HPP:=Lib.hid hP;have HRR:=Lib.hid hR;have k0:((Z:Int) == 0)=false:=by simp;omega
         have k1:IntKind.i64.wrap ((Z:Int)-4)=(Z:Int)-4:=IntWalk.i64_in _ (by omega);have k2:IntKind.i64.wrap (2 * ((Z:Int)-4))=2 * ((Z:Int)-4):=IntWalk.i64_in _ (by omega);have k3:IntKind.i64.wrap (2 * ((Z:Int)-4)+1)=2 * ((Z:Int)-4)+1:=IntWalk.i64_in _ (by omega);have k4:IntKind.u64.wrap (2 * ((Z:Int)-4)+1)=2 * ((Z:Int)-4)+1:=IntWalk.u64_in _ (by omega);have k5:IntKind.i64.wrap ((B:Int)-1)=(B:Int)-1:=IntWalk.i64_in _ (by omega);have k6:IntKind.u64.wrap ((B:Int)-1)=(B:Int)-1:=IntWalk.u64_in _ (by omega);have HQ:Hid (2 * (Z-4)+1≤1000000∧((2 * (Z-4)+1:Nat):Int)=2 * ((Z:Int)-4)+1):=⟨by omega,by omega⟩;have HQ2:Hid (B-1≤1000000∧((B-1:Nat):Int)=(B:Int)-1):=⟨by omega,by omega⟩;have c0:(wr.alloc (.cells #[.string own,.int .i64 B,.int .i64 Z] 163)).cell? ⟨wr.heap.size,1,none⟩=some (.int .i64 B)∧(wr.alloc (.cells #[.string own,.int .i64 B,.int .i64 Z] 163)).cell? ⟨wr.heap.size,2,none⟩=some (.int .i64 Z):=by simp
         have HO0:=Lib.hid (HO.out.alloc (.cells #[.string own,.int .i64 B,.int .i64 Z] 163));have HB0':Hid (Below (w.heap.size+1) (w.alloc (.cells #[.int .i64 0,.int .i64 0] 29)) (wr.alloc (.cells #[.string own,.int .i64 B,.int .i64 Z] 163))):=HB.out.alloc (by omega) _;have HAL2:Hid (acc.length+2≤8796093022208):=Lib.hid (show acc.length+2≤8796093022208 by have:=HAL.out;omega);clear h1 hP hR;go_wp2;go_region_held3 (fun w'=>w'.cell? ⟨wr.heap.size,1,none⟩=some (.int .i64 B)∧w'.cell? ⟨wr.heap.size,2,none⟩=some (.int .i64 Z)) (first | exact c0 | exact c1' | exact c12 | exact c15 | exact c2) (first | (go_at_call 39;(with_reducible refine (rvary_as (2 * (Z-4)+1) _ P _ HQ.out.1 HQ.out.2 HPP.out).mono ?_);rintro r w2 ⟨rfl,hb2⟩;have c1':w2.cell? ⟨wr.heap.size,1,none⟩=some (.int .i64 B)∧w2.cell? ⟨wr.heap.size,2,none⟩=some (.int .i64 Z):=⟨(hb2.cell (by simp)).trans c0.1,(hb2.cell (by simp)).trans c0.2⟩;have HB2:Hid (Below (w.heap.size+1) (w.alloc (.cells #[.int .i64 0,.int .i64 0] 29)) w2):=(HB0'.out.drew.trans (hb2.mono (by simp;omega)));have HO2:Hid (ownsS w2 (w.heap.size+1) _ acc):=(HO0.out.drew.below hb2);have HZ2:Hid (wr.heap.size<w2.heap.size):=(Nat.lt_of_lt_of_le (by simp) hb2.size);clear hb2) | (go_at_call 39;(with_reducible refine (rvary_as (B-1) _ R _ HQ2.out.1 HQ2.out.2 HRR.out).mono ?_);rintro r w2' ⟨rfl,hb2⟩;have c12:w2'.cell? ⟨wr.heap.size,1,none⟩=some (.int .i64 B)∧w2'.cell? ⟨wr.heap.size,2,none⟩=some (.int .i64 Z):=⟨(hb2.cell HZ2.out).trans c1'.1,(hb2.cell HZ2.out).trans c1'.2⟩;have HB2':Hid (Below (w.heap.size+1) (w.alloc (.cells #[.int .i64 0,.int .i64 0] 29)) w2'):=(HB2.out.trans (hb2.mono (by have:=HZ2.out;omega)));have HO2':Hid (ownsS w2' (w.heap.size+1) _ acc):=(HO2.out.below hb2);have hz2:wr.heap.size<w2'.heap.size:=(Nat.lt_of_lt_of_le HZ2.out hb2.size);have c15:(w2'.alloc (.cells #[.string P,.string R] 9)).cell? ⟨wr.heap.size,1,none⟩=some (.int .i64 B)∧(w2'.alloc (.cells #[.string P,.string R] 9)).cell? ⟨wr.heap.size,2,none⟩=some (.int .i64 Z):=⟨((((Below.refl _ _).alloc (Nat.le_refl _) _).cell hz2).trans c12.1),((((Below.refl _ _).alloc (Nat.le_refl _) _).cell hz2).trans c12.2)⟩;clear hb2) | (refine step_append_strs _ rfl _ _ rfl (w.heap.size+1) _ acc rfl (HO2'.out.alloc _) ⟨w2'.heap.size,0,none⟩ 2 rfl P R (by simp [Addr.add]) (by simp [Addr.add]) HAL2.out (by simp;omega) ?_;intro g cap w3 hown3 hg3;have c2:w3.cell? ⟨wr.heap.size,1,none⟩=some (.int .i64 B)∧w3.cell? ⟨wr.heap.size,2,none⟩=some (.int .i64 Z):=⟨((grown_cell hg3 (by simp;omega) (HO.out.ne (Nat.le_refl _))).trans c15.1),((grown_cell hg3 (by simp;omega) (HO.out.ne (Nat.le_refl _))).trans c15.2)⟩;have HB3:Hid (Below (w.heap.size+1) (w.alloc (.cells #[.int .i64 0,.int .i64 0] 29)) w3):=((HB2'.out.alloc (by omega) _).grown hg3 (by simp;omega) (fun g hg=>(HO.out.lt g hg).1));have HO3:=Lib.hid hown3;clear hown3 hg3))
         go_wp2;go_roundw
         case rel=>exact ⟨k+1,acc++[P,R],by omega,by go_num,HX.out,by rw [List.length_append,HAL.out];simp;omega,HO3.out,HB3.out⟩
         case measure=>simp [intOf];omega
     · have hkn:k=n:=by omega
       have HFW:Hid ((⟨(flatS acc).toArray⟩:ByteArray)=⟨(writeF l).toArray⟩):=by
         have h:(⟨(flatS acc).toArray⟩:ByteArray)=⟨(writeF l).toArray⟩:=by rw [HFL.out,hkn,HN.out,List.take_length,HW.out]
         exact h
       have HFZ:Hid ((flatS acc).length≤1000000):=by
         have h:(flatS acc).length≤1000000:=by
           rw [HFL.out];have h1:=cost_take (l:=l) k;have:=HC.out;unfold cost at this h1;omega
         exact h
       have hlt0:w.heap.size<wr.heap.size:=by omega
       clear hkn HFL;go_wp2_with fail
       refine (rjoin_any _ _ acc _ HO.out (by have:=HAL.out;omega) HFZ.out).mono ?_;rintro r w2 ⟨rfl,hb2⟩;rw [HFW.out];have HB2:Hid (Below w.heap.size w w2):=HBW.out.trans (hb2.mono (Nat.le_of_lt hlt0));have HLT2:Hid (w.heap.size<w2.heap.size):=Nat.lt_of_lt_of_le hlt0 hb2.size;have x0':=(hb2.cell (p:=⟨w.heap.size,0,none⟩) hlt0).trans x0;have x1':=(hb2.cell (p:=⟨w.heap.size,1,none⟩) hlt0).trans x1;have y0':=(hb2.frozen (p:=⟨w.heap.size,0,none⟩) hlt0).trans y0;have y1':=(hb2.frozen (p:=⟨w.heap.size,1,none⟩) hlt0).trans y1;clear hb2 x0 x1 y0 y1;go_wp2_with fail
       refine (good_any _).mono ?_;rintro r w3 ⟨rfl,hb3⟩;have d0:w3.cell? ⟨w.heap.size,0,none⟩=some (.int .i64 0):=(hb3.cell HLT2.out).trans x0';have d1:w3.cell? ⟨w.heap.size,1,none⟩=some (.int .i64 0):=(hb3.cell HLT2.out).trans x1';have g0:w3.frozen? ⟨w.heap.size,0,none⟩=false:=(hb3.frozen HLT2.out).trans y0';have g1:w3.frozen? ⟨w.heap.size,1,none⟩=false:=(hb3.frozen HLT2.out).trans y1';have HB3:Hid (Below w.heap.size w w3):=HB2.out.trans (hb3.mono (Nat.le_of_lt HLT2.out));clear hb3 x0' x1' y0' y1';go_wp2;refine bodyPost_ret (v:=.tuple #[.string ⟨(writeF l).toArray⟩,.agg #[.int .i64 0,.int .i64 (-1)]]) (by simp [results,Tryz.results79,go_sem,d0,d1]) rfl ?_;rw [HR.out];exact ⟨rfl,(HB3.out.setCell (Nat.le_refl _) _).setCell (Nat.le_refl _) _⟩
 · have HT : Hid ((⟨(writeF l).toArray⟩ : ByteArray) = ⟨#[]⟩) := by
     have h:(⟨(writeF l).toArray⟩:ByteArray)=⟨#[]⟩:=by unfold writeF;rw [if_neg (by rw [hr];exact he)]
     exact h
   have hbe:((e:Int) == 0)=false:=by simp;omega
   have HBE:=Lib.hid hbe;clear hv hl hz hr he hbe;go_enter Tryz.func79,Tryz.ntmps79
   go_wp2_with fail
   refine (rright_any _ l _ HVA.out HLL.out HZ.out).mono ?_;rintro r w0 ⟨rfl,hb0⟩;rw [HR.out];have HB0:=Lib.hid hb0;have hz0:=hb0.size;rw [World.size_alloc] at hz0;clear hb0;go_wp2_with fail
   refine (is_any e pl _).mono ?_;rintro r w1 ⟨rfl,hb1⟩;rw [HBE.out];have HB1:=Lib.hid hb1;have hB1:Below (w.heap.size+1) (w.alloc (.cells #[.int .i64 0,.int .i64 0] 29)) w1:=(HB0.out.mono (by simp)).alloc (by omega) _ |>.trans (hb1.mono (by simp;omega))
   have hl0:w0.heap.size<(w0.alloc (.cells #[.int .i64 e,.int .i64 pl] 29)).heap.size:=by simp
   have u0:w1.cell? ⟨w0.heap.size,0,none⟩=some (.int .i64 e):=(hb1.cell hl0).trans (by simp);have u1:w1.cell? ⟨w0.heap.size,1,none⟩=some (.int .i64 pl):=(hb1.cell hl0).trans (by simp);have x0:w1.cell? ⟨w.heap.size,0,none⟩=some (.int .i64 0):=(hB1.cell (by exact Nat.lt_succ_self _)).trans (by simp);have x1:w1.cell? ⟨w.heap.size,1,none⟩=some (.int .i64 0):=(hB1.cell (by exact Nat.lt_succ_self _)).trans (by simp);have y0:w1.frozen? ⟨w.heap.size,0,none⟩=false:=(hB1.frozen (by exact Nat.lt_succ_self _)).trans (by simp);have y1:w1.frozen? ⟨w.heap.size,1,none⟩=false:=(hB1.frozen (by exact Nat.lt_succ_self _)).trans (by simp);have HBW:Hid (Below w.heap.size w w1):=((Below.refl _ _).alloc (Nat.le_refl _) _).trans (hB1.mono (Nat.le_succ _));clear hb1 hB1;go_wp2;go_region
   go_wp2;refine bodyPost_ret (v:=.tuple #[.string ⟨#[]⟩,.agg #[.int .i64 e,.int .i64 pl]]) (by simp [results,Tryz.results79,go_sem,x0,x1]) rfl ?_;rw [HT.out,HR.out];exact ⟨rfl,by first | exact ((HBW.out.drew).setCell (Nat.le_refl _) _).setCell (Nat.le_refl _) _ | exact ((HBW.out.setCell (Nat.le_refl _) _).setCell (Nat.le_refl _) _).drew⟩
end Go.Proofs.YtgfinhehgfbdgaaGreatDoor
namespace Go.Proofs.YtgfinhehgfbdgaaGreatDoor
open Go.RowKit
set_option maxRecDepth 100000 in
theorem reset_good (F O:Nat) (pl:Int) (u:FrameMode) (w:World) (c0:w.cell? ⟨F,0,none⟩=some (.int .i64 0)) (c1:w.cell? ⟨F,1,none⟩=some (.int .i64 pl)) :
   CallsD Tryz.prog 141 #[.pointer (some ⟨F,0,none⟩),.pointer (some ⟨O,0,none⟩)] u w fun r u' w'=>u'=u∧(r=.returned (.tuple #[])∧Below w.heap.size w w'):=by
 go_enter_d Tryz.func141,Tryz.ntmps141
 go_wp2_with fail
 refine (is_any 0 pl _).mono ?_;rintro r w1 ⟨rfl,hb1⟩;have HB1:=Lib.hid hb1;clear hb1;go_wp2
 go_end0
 exact ⟨rfl,HB1.out⟩
set_option maxRecDepth 100000 in
theorem reset_bad (F O:Nat) (e pl:Int) (v:Value) (u:FrameMode) (w:World) (he:(e == 0)=false) (c0:w.cell? ⟨F,0,none⟩=some (.int .i64 e)) (c1:w.cell? ⟨F,1,none⟩=some (.int .i64 pl)) (hO:O<w.heap.size) (o0:w.cell? ⟨O,0,none⟩=some v) (y0:w.frozen? ⟨O,0,none⟩=false) :
   CallsD Tryz.prog 141 #[.pointer (some ⟨F,0,none⟩),.pointer (some ⟨O,0,none⟩)] u w fun r u' w'=>u'=u∧(r=.returned (.tuple #[])∧∃ w1,Below w.heap.size w w1∧w'=w1.setCell ⟨O,0,none⟩ (.slice none 0 0)):=by
 go_enter_d Tryz.func141,Tryz.ntmps141
 go_wp2_with fail
 refine (is_any e pl _).mono ?_;rintro r w1 ⟨rfl,hb1⟩;rw [he];have o1:w1.cell? ⟨O,0,none⟩=some v:=(hb1.cell hO).trans o0;have y1:w1.frozen? ⟨O,0,none⟩=false:=(hb1.frozen hO).trans y0;have HB1:=Lib.hid hb1;clear hb1 o0 y0;go_wp2
 go_end0
 exact ⟨rfl,w1,HB1.out,rfl⟩
end Go.Proofs.YtgfinhehgfbdgaaGreatDoor
