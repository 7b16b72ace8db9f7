import Derived.Test.YtagoidpkbloflaaGreatDoorKlq
import Derived.Test.YtagoidpkbloflaaGreatDoorKl27
import Derived.Test.YtagoidpkbloflaaGreatDoorKl30
namespace Go.Proofs.YtagoidpkbloflaaGreatDoor
open Lib (hid)
set_option maxRecDepth 100000
set_option maxHeartbeats 8000000
section
open Go.RowKit
theorem pP (v:Value) (xT:TypeId) (w:World):(Instr.typeAssert (.iface 26 v) xT 32 true).run Tryz.prog w=.ok (.tuple #[.iface 26 v,.bool true]) w :=
 run_typeAssert_hasB Tryz.underlying32 (by kernel_rfl) v xT w
theorem pO (v:Value) (xT:TypeId) (w:World):(Instr.typeAssert (.iface 103 v) xT 32 true).run Tryz.prog w=.ok (.tuple #[.iface 103 v,.bool true]) w :=
 run_typeAssert_hasB Tryz.underlying32 (by kernel_rfl) v xT w
theorem pQ (xT:TypeId) (w:World):(Instr.typeAssert .nilIface xT 32 true).run Tryz.prog w=.ok (.tuple #[.nilIface,.bool false]) w:=by kernel_rfl
theorem uH (E:Nat) (w:World) :
 CallsD Tryz.prog 128 #[.pointer (some ⟨E,0,none⟩)] .returning w fun r u' w'=>r=.returned (.tuple #[])∧u'=.returning∧w'=w:=by
 have iN:=pQ;refine callsD_of_wpS Tryz.func128 rfl fun c₀ cs hu=>?_
 apply wpS_seq
 apply wpS_region
 simp [wpOpsS,go_sem,recoverD,hu,Tryz.ntmps128,Exit.thenS,iN]
 refine wpS_of_wp ?_;rw [show (#[.pointer (some ⟨E,0,none⟩)]++(((((((Array.replicate 9 undef).setIfInBounds 3 .nilIface).setIfInBounds 4 (.tuple #[.nilIface,.bool false])).setIfInBounds 2 (.tuple #[.nilIface,.bool false])).setIfInBounds 5 .nilIface).setIfInBounds 6 (.bool false)).setIfInBounds 0 .nilIface).setIfInBounds 1 (.bool false):Array Value)=#[.pointer (some ⟨E,0,none⟩),.nilIface,.bool false,.tuple #[.nilIface,.bool false],.nilIface,.tuple #[.nilIface,.bool false],.nilIface,.bool false,undef,undef] by kernel_rfl];go_wp2;cases c₀
 simp_all [bodyPostS,results,Tryz.results128]
theorem uI (E:Nat) (t:TypeId) (v old:Value) (older:List PanicEntry) (w:World) (ht:t=26∨t=103) (h0:w.cell? ⟨E,0,none⟩=some old) (z0:w.frozen? ⟨E,0,none⟩=false) :
 CallsD Tryz.prog 128 #[.pointer (some ⟨E,0,none⟩)] (.panicking ({ v:=.iface t v,recovered:=false }::older)) w fun r u' w' =>
  r=.returned (.tuple #[])∧u'=.panicking ({ v:=.iface t v,recovered:=true }::older)∧w'=w.setCell ⟨E,0,none⟩ (.iface t v):=by
 have iT:∀ (xT:TypeId) (w:World),(Instr.typeAssert (.iface t v) xT 32 true).run Tryz.prog w=.ok (.tuple #[.iface t v,.bool true]) w:=by
  rcases ht with rfl | rfl
  ·exact fun xT w=>pP v xT w
  ·exact fun xT w=>pO v xT w
 refine callsD_of_wpS Tryz.func128 rfl fun c₀ cs hu=>?_
 apply wpS_seq
 apply wpS_region
 simp [wpOpsS,go_sem,recoverD,hu,Tryz.ntmps128,Exit.thenS,iT]
 refine wpS_of_wp ?_;rw [show (#[.pointer (some ⟨E,0,none⟩)]++(((((((Array.replicate 9 undef).setIfInBounds 3 (.iface t v)).setIfInBounds 4 (.tuple #[.iface t v,.bool true])).setIfInBounds 2 (.tuple #[.iface t v,.bool true])).setIfInBounds 5 (.iface t v)).setIfInBounds 6 (.bool true)).setIfInBounds 0 (.iface t v)).setIfInBounds 1 (.bool true):Array Value)=#[.pointer (some ⟨E,0,none⟩),.iface t v,.bool true,.tuple #[.iface t v,.bool true],.iface t v,.tuple #[.iface t v,.bool true],.iface t v,.bool true,undef,undef] by kernel_rfl];go_wp2;simp [bodyPostS,results,Tryz.results128]
theorem az.typed {w:World} {t:TypeId} {v:Value} {r:Nat×Int} (h:az w (.iface t v) r):t=26∨t=103:=by
 rcases h with (⟨_,h⟩ | ⟨_,b,h,_⟩) | ⟨_,_,h⟩
 ·cases h
 ·injection h with h1 h2;exact .inr h1
 ·injection h with h1 h2;exact .inl h1
theorem az.set {w:World} {v x:Value} {r:Nat×Int} {E:Nat} (h:az w v r) (hE:w.cell? ⟨E,0,none⟩=some .nilIface):az (w.setCell ⟨E,0,none⟩ x) v r:=by
 rcases h with (h | ⟨h0,b,h1,h2,h3,h4⟩) | h
 ·exact .inl (.inl h)
 ·have hne:b≠E:=fun e=>by rw [e,hE] at h3;cases h3
  refine .inl (.inr ⟨h0,b,h1,by simpa using h2,?_,?_⟩)
  ·rw [Er _ _ _ _ (by intro e;first | (simp at e;done) | (simp at e;omega))];exact h3
  ·rw [Er _ _ _ _ (by intro e;simp at e)];exact h4
 ·exact .inr h
def jb (w:World) (r:List UInt8×Nat×Int) (e:Ending) (w':World):Prop :=
 ∃ err,e=.returned (.tuple #[.string ⟨r.1.toArray⟩,err])∧az w' err r.2∧Below w.heap.size w w'
def ku (E:Nat):List Deferred:=[{ target:=.fn (Fn.func 128) #[.pointer (some ⟨E,0,none⟩)],args:=#[] }]
theorem AC {w W:World} {r:List UInt8×Nat×Int} {t:TypeId} {v:Value} (hb:Below w.heap.size w W) (hE:W.heap[w.heap.size]? = some (.cells #[.nilIface] 32 (0,0))) (hr1:r.1=[]) (ha:az W (.iface t v) r.2) (tmps:Array Value)
 (t2:tmps[2]? = some (.string ⟨#[]⟩)) (t3:tmps[3]? = some (.pointer (some ⟨w.heap.size,0,none⟩))) :
 Leaves Tryz.prog Tryz.f88 tmps (jb w r) (ku w.heap.size) (.panicking [{ v:=.iface t v,recovered:=false }]) W:=by
 have c0:W.cell? ⟨w.heap.size,0,none⟩=some .nilIface:=Dd _ _ 0 _ _ (0,0) hE;unfold ku;refine DW (f:=128) (args:=#[.pointer (some ⟨w.heap.size,0,none⟩)]) (by simp) (by simp [go_sem]) ?_;refine (uI w.heap.size t v .nilIface [] W ha.typed c0 (Lib.frozen_of_heap hE 0)).mono ?_;rintro r' u' w2 ⟨rfl,rfl,rfl⟩;have p0:(W.setCell ⟨w.heap.size,0,none⟩ (.iface t v)).cell? ⟨w.heap.size,0,none⟩=some (.iface t v):=ET _ _ _ c0;refine ⟨.tuple #[.string ⟨#[]⟩,.iface t v],by simp [results,Tryz.results88,go_sem,t2,t3,p0],.iface t v,?_,ha.set c0,hb.setCell (by simp) _⟩;rw [hr1]
theorem AD {w W:World} {r:List UInt8×Nat×Int} (hb:Below w.heap.size w W) (hE:W.heap[w.heap.size]? = some (.cells #[.nilIface] 32 (0,0))) (hr2:r.2=(0,-1)) (tmps:Array Value)
 (t2:tmps[2]? = some (.string ⟨r.1.toArray⟩)) (t3:tmps[3]? = some (.pointer (some ⟨w.heap.size,0,none⟩))) :
 Leaves Tryz.prog Tryz.f88 tmps (jb w r) (ku w.heap.size) .returning W:=by
 have c0:W.cell? ⟨w.heap.size,0,none⟩=some .nilIface:=Dd _ _ 0 _ _ (0,0) hE;unfold ku;refine DW (f:=128) (args:=#[.pointer (some ⟨w.heap.size,0,none⟩)]) (by simp) (by simp [go_sem]) ?_;refine (uH w.heap.size W).mono ?_;rintro r' u' w2 ⟨rfl,rfl,rfl⟩;refine ⟨.tuple #[.string ⟨r.1.toArray⟩,.nilIface],by simp [results,Tryz.results88,go_sem,t2,t3,c0],.nilIface,rfl,?_,hb⟩;exact .inl (.inl ⟨hr2,rfl⟩)
theorem uG (b:Nat) (w:World) (r:List UInt8×Nat×Int) (hf:Calls Tryz.prog 89 #[.pointer (some ⟨b,0,none⟩)] (w.alloc (.cells #[.nilIface] 32)) (gK (w.alloc (.cells #[.nilIface] 32)) r)) :
 Calls Tryz.prog 88 #[.func (.func 89) #[] #[.pointer (some ⟨b,0,none⟩)]] w (jb w r):=by
 have hmf:∀ (fn:Fn) (first cap:Array Value) (w:World),(Instr.makeFunc fn first cap).run Tryz.prog w=.ok (.func fn first cap) w:=fun _ _ _ _=>rfl
 have HF:=hid hf;clear hf
 go_enter_defers Tryz.func88,Tryz.ntmps88
 go_wp2_with fail
 refine HF.out.mono ?_;rintro e w1 ⟨hb1,hc⟩;have hbw:Below w.heap.size w w1:=((Below.refl _ _).alloc (Db _) _).trans (hb1.mono (by simp));have hE:w1.heap[w.heap.size]? = some (.cells #[.nilIface] 32 (0,0)):=(hb1.block _ (by simp)).trans (Dg w _);have HB:=hid hbw;have HE:=hid hE;rcases hc with ⟨hr,rfl⟩ | ⟨hne,hr1,t,v,rfl,ha⟩
 ·have c0:w1.cell? ⟨w.heap.size,0,none⟩=some .nilIface:=Dd _ _ 0 _ _ (0,0) hE;have z0:w1.frozen? ⟨w.heap.size,0,none⟩=false:=Lib.frozen_of_heap hE 0;have HR:=hid hr;have HS:Hid ((w1.setCell ⟨w.heap.size,0,none⟩ .nilIface).heap[w.heap.size]? = some (.cells #[.nilIface] 32 (0,0))):=hid (by rw [De _ _ _ _ _ _ hE];rfl);have HBS:Hid (Below w.heap.size w (w1.setCell ⟨w.heap.size,0,none⟩ .nilIface)):=hid (hbw.setCell (by simp) _);clear hb1 hbw hE hr;go_wp2;exact AD HBS.out HS.out HR.out _ rfl rfl
 ·exact AC HB.out HE.out hr1 ha _ rfl rfl
theorem CP (b:Nat) (vf vh vw:Value) (f h:List Ent) (l:List Wr) (w:World) (hx:aR w vf vh vw f h l) (hg:errT w) (hc:eQ w b vf vh vw) :
 Calls Tryz.prog 89 #[.pointer (some ⟨b,0,none⟩)] w (gK w (aP f h l)):=by
 have HX:=hid hx;have HG:=hid hg;obtain ⟨c0,c1,c2⟩:=hc;obtain ⟨af,cf,rfl,_⟩:=hx.1.form;obtain ⟨ah,ch,rfl,_⟩:=hx.2.1.form;obtain ⟨aw,cw,rfl,_⟩:=hx.2.2.1.form;generalize f.length=nf at HX c0 ⊢;generalize h.length=nh at HX c1 ⊢;generalize l.length=n at HX c2 ⊢;clear hx hg;have hw:Calls Tryz.prog 90 #[.agg #[.slice af nf cf,.slice ah nh ch,.slice aw n cw]] w (gK w (aP f h l)):=by
  by_cases h0:(batF f h l).1=0
  ·exact CS _ _ _ f h l w HX.out HG.out h0
  ·exact CR _ _ _ f h l w HX.out HG.out h0
 have HW:=hid hw;clear hw;go_enter Tryz.func89,Tryz.ntmps89
 go_wp2_with fail
 refine HW.out.mono ?_;rintro e w1 ⟨hb1,hc⟩;rcases hc with ⟨hr,rfl⟩ | ⟨hne,hr1,t,v,rfl,ha⟩
 ·have HB:=hid hb1;have HR:=hid hr;clear hb1 hr;go_wp2;go_ret;exact ⟨HB.out,.inl ⟨HR.out,rfl⟩⟩
 ·exact Dp rfl ⟨hb1,.inr ⟨hne,hr1,t,v,rfl,ha⟩⟩
theorem oX (vf vh vw:Value) (f h:List Ent) (l:List Wr) (w:World) (hx:aR w vf vh vw f h l) (hg:errT w) :
 Calls Tryz.prog 56 #[.agg #[vf,vh,vw]] w (jb w (aP f h l)):=by
 have hmf:∀ (fn:Fn) (first cap:Array Value) (w:World),(Instr.makeFunc fn first cap).run Tryz.prog w=.ok (.func fn first cap) w:=fun _ _ _ _=>rfl
 obtain ⟨W0,hW0⟩:∃ W0,w.alloc (.cells #[vf,vh,vw] 25)=W0:=⟨_,rfl⟩;have hb0:Below w.heap.size w W0:=by rw [←hW0];exact (Below.refl _ _).alloc (Db _) _
 have hz0:w.heap.size<W0.heap.size:=by rw [←hW0];simp
 have hc:=cy w vf vh vw 25;rw [hW0] at hc;have hx0:aR W0 vf vh vw f h l:=hx.below hb0;have hcat:=uG w.heap.size W0 (aP f h l) (CP w.heap.size vf vh vw f h l _ (hx0.alloc _) ((hg.below hb0).alloc _) (hc.below ((Below.refl _ _).alloc (Db _) _) hz0));have HCAT:=hid hcat;have HB0:=hid hb0;obtain ⟨af,cf,rfl,_⟩:=hx.1.form;obtain ⟨ah,ch,rfl,_⟩:=hx.2.1.form;obtain ⟨aw,cw,rfl,_⟩:=hx.2.2.1.form;generalize f.length=nf at hW0 ⊢;generalize h.length=nh at hW0 ⊢;generalize l.length=n at hW0 ⊢;clear hx hg hb0 hz0 hc hx0 hcat;go_enter Tryz.func56,Tryz.ntmps56
 go_wp2_with fail
 refine HCAT.out.mono ?_;rintro e w1 ⟨err,rfl,ha,hb1⟩;have HA:=hid ha;have HB1:Hid (Below w.heap.size w w1):=HB0.out.trans (hb1.mono HB0.out.size);clear ha hb1;go_wp2;go_ret2;exact ⟨err,rfl,HA.out,HB1.out⟩
end
section
open Go.RowKit
def sqL (s:List UInt8):List UInt8:=aZ (toks s)
theorem rz (s:List UInt8) (h:s.length≤20000):bR (toks s)=sqL s∧a8 (toks s) 0 0=(0,-1):=by
 have h1:=(s5 s h).1;refine ⟨?_,h1⟩;unfold bR;rw [if_pos (by rw [h1])];rfl
theorem s4 (s:List UInt8) (h:s.length≤400000):(toks s).length≤9223372036854775807∧∀ t∈toks s,t.own.size≤140737488351232:=by
 have h1:=BB s s.length 0 0;refine ⟨by unfold toks;omega,fun t ht=>?_⟩;have:=BC s _ _ _ t ht;omega
theorem xz (s:ByteArray) (w:World) (hs:s.size≤20000) :
 Calls Tryz.prog 92 #[.string s] w fun e w'=>e=.returned (.tuple #[.string ⟨(sqL s.data.toList).toArray⟩,.nilIface])∧Below w.heap.size w w':=by
 have hl:s.data.toList.length≤20000:=by rw [←ac];exact hs
 obtain ⟨f1,f2⟩:=s4 s.data.toList (by omega);obtain ⟨g1,g2⟩:=rz s.data.toList hl;have F1:=hid f1;have F2:=hid f2;have G1:=hid g1;have G2:=hid g2;clear f1 f2 g1 g2 hl;go_enter Tryz.func92,Tryz.ntmps92
 go_wp2_with fail
 refine (BF s _ (by omega)).mono ?_;rintro r w1 ⟨v,rfl,hown,hb1⟩;have HO:=hid hown;have HB1:=hid hb1;clear hown hb1;go_wp2_with fail
 refine (xB v _ _ HO.out.is F1.out F2.out).mono ?_;rintro r w2 ⟨err,rfl,hat,hb2⟩;obtain rfl:err=.nilIface:=by
  rcases hat with ⟨_,h⟩ | ⟨h,_⟩
  ·exact h
  ·exact absurd (by rw [G2.out]) h
 rw [G1.out];have HB2:Hid (Below w.heap.size w w2):=HB1.out.trans (hb2.mono HB1.out.size);clear hat hb2;go_wp2;go_ret2;exact ⟨rfl,HB2.out⟩
theorem Aa (s:ByteArray) (w:World) (hs:s.size≤20000) :
 Calls Tryz.prog 19 #[.string s] w fun e w'=>e=.returned (.tuple #[.string ⟨(sqL s.data.toList).toArray⟩,.agg #[.int .i64 0,.int .i64 (-1)]])∧Below w.heap.size w w':=by
 have hl:s.data.toList.length≤20000:=by rw [←ac];exact hs
 obtain ⟨f1,f2⟩:=s4 s.data.toList (by omega);obtain ⟨g1,g2⟩:=rz s.data.toList hl;have HFV:Hid (bH (a8 (toks s.data.toList) 0 0)=.agg #[.int .i64 0,.int .i64 (-1)]):=by
  have h:bH (a8 (toks s.data.toList) 0 0)=.agg #[.int .i64 0,.int .i64 (-1)]:=by rw [g2];rfl
  exact h
 have F1:=hid f1;have F2:=hid f2;have G1:=hid g1;clear f1 f2 g1 g2 hl;go_enter Tryz.func19,Tryz.ntmps19
 go_wp2_with fail
 refine (Ah s _ (by omega)).mono ?_;rintro r w1 ⟨v,rfl,hown,hb1⟩;have HO:=hid hown;have HB1:=hid hb1;clear hown hb1;go_wp2_with fail
 refine (Ax v _ _ HO.out.is F1.out F2.out).mono ?_;rintro r w2 ⟨rfl,hb2⟩;rw [G1.out,HFV.out];have hl1:w.heap.size<w1.heap.size:=Dv (by simp) HB1.out.size;have hl2:w.heap.size<w2.heap.size:=Dv hl1 hb2.size;have x0:w2.cell? ⟨w.heap.size,0,none⟩=some (.int .i64 0):=(hb2.cell hl1).trans ((HB1.out.cell (by simp)).trans (by simp));have x1:w2.cell? ⟨w.heap.size,1,none⟩=some (.int .i64 0):=(hb2.cell hl1).trans ((HB1.out.cell (by simp)).trans (by simp));have y0:w2.frozen? ⟨w.heap.size,0,none⟩=false:=(hb2.frozen hl1).trans ((HB1.out.frozen (by simp)).trans (by simp));have y1:w2.frozen? ⟨w.heap.size,1,none⟩=false:=(hb2.frozen hl1).trans ((HB1.out.frozen (by simp)).trans (by simp));have HB2:Hid (Below w.heap.size w w2):=((Below.refl _ _).alloc (Db _) _).trans ((HB1.out.mono (by simp)).trans (hb2.mono (DG hl1)));clear hb2;go_wp2;refine Dc (v:=.tuple #[.string ⟨(sqL s.data.toList).toArray⟩,.agg #[.int .i64 0,.int .i64 (-1)]]) (by simp [results,Tryz.results19,go_sem,x0,x1]) rfl ?_;exact ⟨rfl,(HB2.out.setCell (Db _) _).setCell (Db _) _⟩
end
section
open Go.RowKit
def Rd (w:World) (R:Nat) (s:ByteArray) (a:Nat):Prop:=w.heap[R]? = some (.cells #[.string s,.int .i64 (a:Int)] 165 (0,0))
theorem Rd.cells {w:World} {R:Nat} {s:ByteArray} {a:Nat} (h:Rd w R s a):w.cell? ⟨R,0,none⟩=some (.string s)∧w.cell? ⟨R,1,none⟩=some (.int .i64 (a:Int))∧w.frozen? ⟨R,1,none⟩=false∧R<w.heap.size:=by
 refine ⟨Dd _ _ 0 _ _ (0,0) h,Dd _ _ 1 _ _ (0,0) h,Lib.frozen_of_heap h 1,?_⟩;exact (DF.1 h).1
theorem Rd.below {w w':World} {R:Nat} {s:ByteArray} {a:Nat} (h:Rd w R s a) (hb:Below w.heap.size w w'):Rd w' R s a:=(hb.block R h.cells.2.2.2).trans h
theorem Rd.moved {w:World} {R:Nat} {s:ByteArray} {a b:Nat} (h:Rd w R s a):Rd (w.setCell ⟨R,1,none⟩ (.int .i64 (b:Int))) R s b:=by
 unfold Rd at h ⊢;simp [World.setCell,Dw,h]
theorem grownR {w w1:World} {R:Nat} (h:Below w.heap.size w w1) (v:Value):w.grownBy (w1.setCell ⟨R,1,none⟩ v) (some R) :=
 ⟨h.os,h.tape,h.output,by simpa using h.size,fun k hk hne=>by
  have hk2:R≠k:=fun e=>hne (by rw [e])
  simp only [World.setCell,Dw,if_neg hk2]
  exact h.block k hk⟩
theorem eY {w w1:World} {R:Nat} (h:Below w.heap.size w w1):w.grownBy w1 (some R):=⟨h.os,h.tape,h.output,h.size,fun k hk _=>h.block k hk⟩
def dL (r:Nat×Int) (e:Ending) (w':World):Prop:=∃ t v,e=.panicked [{ v:=.iface t v,recovered:=false }]∧r.1≠0∧az w' (.iface t v) r
theorem eU (R:Nat) (w:World):Calls Tryz.prog 113 #[.pointer (some ⟨R,0,none⟩),.nilIface] w fun e w'=>e=.returned (.tuple #[])∧w=w':=by
 go_enter Tryz.func113,Tryz.ntmps113
 go_wp2
 go_end0
 exact ⟨rfl,rfl⟩
theorem eT (R:Nat) (s:ByteArray) (a:Nat) (v:Value) (x:Nat) (w:World) (h:Rd w R s a) (hg:errT w) (hv:isErr w v (x:Int)) (hx:x≠0) :
 Calls Tryz.prog 113 #[.pointer (some ⟨R,0,none⟩),v] w fun e w'=>dL (x,(a:Int)) e w'∧Below w.heap.size w w':=by
 have H:=hid h;have HG:=hid hg;have HV:=hid hv;obtain ⟨t,u,rfl⟩:=hv.iface;obtain ⟨_,c1,_,_⟩:=h.cells;have HB0:Hid (Below w.heap.size w w.drew):=hid (Below.refl _ _).drew;clear h hg hv;go_enter Tryz.func113,Tryz.ntmps113
 go_wp2;refine Ea (S:=fun w'=>w'.cell? ⟨R,1,none⟩=some (.int .i64 (a:Int))) (by kernel_rfl) c1 (fun hHeld=>?_);refine tkO 0 ?_
 refine tkO 2 ?_
 refine tkO 3 ?_
 refine tkO 4 ?_
 refine tkO 5 ?_
 refine Dm (rs:=[1]) (by kernel_rfl) (by simp) ?_;refine Dk rfl (fun K hK=>?_) Dn
 go_simp
 refine (e7 _ (x:Int) _ (HG.out.below HB0.out) (HV.out.below HB0.out)).mono ?_;rintro r w1 ⟨rfl,hb1⟩;have HB1:Hid (Below w.heap.size w w1):=hid (bQ hb1);have k1:=(H.out.below HB1.out).cells.2.1;have k2:=((H.out.below HB1.out).below ((Below.refl _ _).alloc (Db _) (.cells #[.int .i64 (x:Int),.int .i64 (a:Int)] 106))).cells.2.1;clear hb1;refine hK.out _ _ k1 (fun hHeld1=>sp ?_);clear hK hHeld
 refine tkO 6 ?_
 refine Dm (rs:=[7]) (by kernel_rfl) (by simp) ?_;refine Dk rfl (fun K hK=>?_) Dn
 go_simp
 refine hK.out _ _ k2 (fun hHeld7=>sp ?_);clear hK hHeld1
 refine tkO 8 ?_
 refine Dm (rs:=[9]) (by kernel_rfl) (by simp) ?_;refine Dk rfl (fun K hK=>?_) Dn
 go_simp
 refine (jl _ _ _).mono ?_;rintro r w2 ⟨rfl,rfl⟩;refine Dp rfl ⟨⟨_,_,rfl,hx,.inl (atIs.new w1 x a hx)⟩,HB1.out.alloc HB1.out.size _⟩
end
section
open Go.RowKit
theorem cJ (s I:ByteArray) (v e:Nat) (w:World) (hs:s.size≤1000000) (h:opnF s.data.toList=(v,I.data.toList,e)) :
 Calls Tryz.prog 11 #[.string s] w fun r w'=>r=.returned (.tuple #[.int .i64 (v:Int),.int .i64 (e:Int)])∧Below w.heap.size w w':=by
 have hl:s.size=s.data.toList.length:=ac s;by_cases h8:s.size<8
 ·rw [io (by rw [←hl];exact h8)] at h;injection h with h1 h
  injection h with hI h2
  clear hI;subst h1 h2;have h8i:(s.size:Int)<8:=by omega
  clear hl;go_enter Tryz.func11,Tryz.ntmps11
  go_wp2;go_ret2;exact ⟨rfl,Below.refl _ _⟩
 ·have h8l:¬ s.data.toList.length<8:=by rw [←hl];exact h8
  have h8i:8≤(s.size:Int):=by omega
  by_cases hp:s.data.toList.take 2=[80,84]
  ·have HPB:Hid (Lib.hasPrefix s.data.toList [80,84]=true):=hid ((mJ _).2 hp);have hsz:2<s.size:=by omega
   obtain ⟨c, hc⟩ : ∃ c : UInt8, s[2]'hsz = c := ⟨_, rfl⟩;have hwr:wrap64 (c.toNat:Int)=(c.toNat:Int):=IntWalk.wrap64_in _ (by have:=c.toNat_lt;omega);have hcd:s.data.toList.getD 2 0=c:=by
    rw [DN,Di (by omega),Option.getD_some,←hc];rfl
   by_cases hv:c.toNat<1∨3<c.toNat
   ·rw [iq h8l hp (by rw [hcd];exact hv)] at h;injection h with h1 h
    injection h with hI h2
    clear hI;subst h1 h2;have hvs:((c.toNat:Int)<1)∨(1≤(c.toNat:Int)∧3<(c.toNat:Int)):=by omega
    clear hl hp hcd;go_enter Tryz.func11,Tryz.ntmps11
    go_wp2_with fail
    refine (Tryz.strings_HasPrefix s _ w).mono ?_;rintro r w1 ⟨rfl,rfl⟩;rw [HPB.out];rcases hvs with h1 | ⟨h1,h2⟩
    ·go_wp2_with (go_at_call 27;refine (bV _ _ _ _ h1).mono ?_;rintro r w2 ⟨rfl,rfl⟩)
     go_ret2;exact ⟨rfl,Below.refl _ _⟩
    ·go_wp2_with (go_at_call 27;refine (bU _ _ _ _ h1 h2).mono ?_;rintro r w2 ⟨rfl,rfl⟩)
     go_ret2;exact ⟨rfl,Below.refl _ _⟩
   ·have hv1:1≤(c.toNat:Int):=by omega
    have hv2:(c.toNat:Int)≤3:=by omega
    obtain ⟨o,x,hop⟩:∃ o x,aF s.data.toList=(o,x):=⟨_,_,rfl⟩;have HO:Hid (et (aF s.data.toList)=.tuple #[.string ⟨o.toArray⟩,.int .i64 (x:Int)]):=hid (by show et _=_;rw [hop];rfl);by_cases hx:x=0
    ·subst hx;rw [ir h8l hp (by rw [hcd];exact hv) (by rw [hop]),hcd] at h;injection h with h1 h
     injection h with hI h2
     clear hI;subst h1 h2;clear hl hp hcd hop;go_enter Tryz.func11,Tryz.ntmps11
     go_wp2_with fail
     refine (Tryz.strings_HasPrefix s _ w).mono ?_;rintro r w1 ⟨rfl,rfl⟩;rw [HPB.out];go_wp2_with (go_at_call 27;refine (aQ _ _ _ _ hv1 hv2).mono ?_;rintro r w2 ⟨rfl,rfl⟩)
     refine (mQ s _ hs).mono ?_;rintro r w2 ⟨rfl,hb2⟩;rw [HO.out];have HB2:=hid hb2;clear hb2;go_wp2;go_ret2;exact ⟨rfl,HB2.out⟩
    ·rw [iu h8l hp (by rw [hcd];exact hv) (by rw [hop]) hx] at h;injection h with h1 h
     injection h with hI h2
     clear hI;subst h1 h2;have hxi:((x:Int) == 0)=false:=by simp;omega
     clear hl hp hcd hop;go_enter Tryz.func11,Tryz.ntmps11
     go_wp2_with fail
     refine (Tryz.strings_HasPrefix s _ w).mono ?_;rintro r w1 ⟨rfl,rfl⟩;rw [HPB.out];go_wp2_with (go_at_call 27;refine (aQ _ _ _ _ hv1 hv2).mono ?_;rintro r w2 ⟨rfl,rfl⟩)
     refine (mQ s _ hs).mono ?_;rintro r w2 ⟨rfl,hb2⟩;rw [HO.out];have HB2:=hid hb2;clear hb2;go_wp2;go_ret2;exact ⟨rfl,HB2.out⟩
  ·have HPB:Hid (Lib.hasPrefix s.data.toList [80,84]=false):=hid (qK hp);rw [ip h8l hp] at h;injection h with h1 h
   injection h with hI h2
   clear hI;subst h1 h2;clear hl hp;go_enter Tryz.func11,Tryz.ntmps11
   go_wp2_with fail
   refine (Tryz.strings_HasPrefix s _ w).mono ?_;rintro r w1 ⟨rfl,rfl⟩;rw [HPB.out];go_wp2;go_ret2;exact ⟨rfl,Below.refl _ _⟩
theorem Ab (s T:ByteArray) (w:World) (hs:s.size≤20000) (hT:sqL s.data.toList=T.data.toList) :
 Calls Tryz.prog 19 #[.string s] w fun e w'=>e=.returned (.tuple #[.string T,.agg #[.int .i64 0,.int .i64 (-1)]])∧Below w.heap.size w w':=by
 have h:=Aa s w hs;rw [hT,bF] at h;exact h
theorem rb (s T:ByteArray) (w:World) (hs:s.size≤1000000) (hT:dI s.data.toList=T.data.toList) :
 Calls Tryz.prog 21 #[.string s] w fun e w'=>e=.returned (.string T)∧Below w.heap.size w w':=by
 have h:=mR s w hs;rw [show cS s=T from bY (by rw [kx,hT])] at h;exact h
end
section
open Go.RowKit
theorem zq {s:List UInt8} {f a e p:Nat} {l:List Tok} {b:List Nat} (h:rdF s f a l b=.inl (e,p)):e≠0:=by
 induction f generalizing a l b with
 | zero=>cases h
 | succ f ih =>
  by_cases hlt:a<s.length
  ·match hg:getT (s.drop a) with
   | .inl (e',p') =>
    rw [iC hlt hg] at h;injection h with h
    injection h with h1 h2
    subst h1;exact pB hg
   | .inr (t,k)=>rw [gm hlt hg] at h;exact ih h
  ·rw [iD hlt] at h;cases h
def bN (s:List UInt8):List UInt8:=if (am s).1.1=0 then aD [] (am s).2 else []
theorem rQ {s:List UInt8} (h:(am s).1.1=0):bN s=aD [] (am s).2:=by unfold bN;rw [if_pos h]
theorem rP {s:List UInt8} (h:¬ (am s).1.1=0):bN s=[]:=by unfold bN;rw [if_neg h]
theorem qQ {s:List UInt8} (h:(am s).1.1=0):(am s).1=(0,-1):=by
 match hr:rdF s s.length 0 [] [] with
 | .inl (e,p) =>
  rw [ke hr] at h;exact absurd h (zq hr)
 | .inr (l,b) =>
  by_cases hw:(a8 l 0 0).1=0
  ·rw [kf hr hw]
  ·rw [kg hr hw] at h;exact absurd h hw
def tj (w:World) (s:List UInt8) (e:Ending) (w':World):Prop :=
 ∃ err,e=.returned (.tuple #[.string ⟨(bN s).toArray⟩,err])∧atIs w' err (am s).1∧Below w.heap.size w w'
theorem xA (s:ByteArray) (w:World) (hs:s.size≤400000) (hg:errT w) :
 Calls Tryz.prog 75 #[.string s] w (tj w s.data.toList):=by
 have HG:=hid hg;clear hg;by_cases hr:(am s.data.toList).1.1=0
 ·have HS:=hid (rQ hr);have hr2:=(mO hr).1;obtain ⟨f1,_,_⟩:=gr hr2;have HF1:Hid ((am s.data.toList).2.length≤9223372036854775807):=hid (show (am s.data.toList).2.length≤9223372036854775807 by omega);have HF2:Hid (∀ t∈(am s.data.toList).2,t.own.size≤140737488351232):=hid (show ∀ t∈(am s.data.toList).2,t.own.size≤140737488351232 from fun t ht=>by have:=kj hr2 t ht;omega);have HR0:=hid hr;have HRG:=hid (qQ hr);have HR2:=hid hr2;have HT:Hid (bB (am s.data.toList).2=aD [] (am s.data.toList).2):=hid (show bB (am s.data.toList).2=aD [] (am s.data.toList).2 by unfold bB;rw [if_pos hr2]);clear hr hr2 f1;go_enter Tryz.func75,Tryz.ntmps75
  go_wp2_with fail
  refine (qd s _ hs HG.out).mono ?_;rintro r w1 ⟨v,err,rfl,hok,hat,hb1⟩;obtain rfl:=hat.nil HR0.out;have HK:=hid hok;have HB1:=hid hb1;clear hok hat hb1;go_wp2_with fail
  refine (Bo v _ _ HK.out.is HF1.out HF2.out).mono ?_;rintro r w2 ⟨err,rfl,hat,hb2⟩;obtain rfl:=hat.nil HR2.out;have HB2:Hid (Below w.heap.size w w2):=HB1.out.trans (hb2.mono HB1.out.size);clear hat hb2;go_wp2;go_ret2;refine ⟨.nilIface,?_,.inl ⟨HRG.out,rfl⟩,HB2.out⟩;rw [HS.out,HT.out];rfl
 ·have HS:=hid (rP hr);have HR0:=hid hr;clear hr;go_enter Tryz.func75,Tryz.ntmps75
  go_wp2_with fail
  refine (qd s _ hs HG.out).mono ?_;rintro r w1 ⟨v,err,rfl,hok,hat,hb1⟩;obtain ⟨ty,u,rfl⟩:=hat.iface HR0.out;have HAT:=hid hat;have HB1:=hid hb1;clear hok hat hb1;go_wp2;go_ret2;exact ⟨_,by rw [HS.out];rfl,HAT.out,HB1.out⟩
theorem rA (s:List UInt8) (h:s.length≤20000):(sqL s).length≤220000:=(gr (l:=toks s) (by rw [(s5 s h).1])).2.1
end
section
open Go.RowKit
def dV (b:List UInt8):List UInt8 :=
 if (sqL b).length<b.length then 1::(putL b.length++sqL b) else 0::(putL b.length++b)
def frmL (b:List UInt8):List UInt8:=dI (80::84::3::dV b)
def unpF (i:List UInt8):List UInt8×Nat :=
 if 1<(i.getD 0 0).toNat then ([],3) else
 match intL (i.drop 1) 20000 with
 | (n,k,e)=>if e≠0 then ([],e) else
  if (i.getD 0 0).toNat=1 then
   if (am ((i.drop 1).drop k)).1.1≠0 then ([],(am ((i.drop 1).drop k)).1.1)
   else if (bN ((i.drop 1).drop k)).length≠n then ([],2) else (bN ((i.drop 1).drop k),0)
  else if ((i.drop 1).drop k).length≠n then ([],2) else ((i.drop 1).drop k,0)
section
variable {i:List UInt8} {n k e:Nat}
theorem sh (h:1<(i.getD 0 0).toNat):unpF i=([],3):=by unfold unpF;rw [if_pos h]
theorem si (h:¬ 1<(i.getD 0 0).toNat) (h1:intL (i.drop 1) 20000=(n,k,e)) (he:e≠0):unpF i=([],e):=by
 unfold unpF;rw [if_neg h,h1];simp only;rw [if_pos he]
theorem sr (h:(i.getD 0 0).toNat=1) (h1:intL (i.drop 1) 20000=(n,k,0)) (h2:(am ((i.drop 1).drop k)).1.1=e) (he:e≠0):unpF i=([],e):=by
 unfold unpF;rw [if_neg (by omega),h1];simp only;rw [if_neg (by simp),if_pos h,if_pos (by rw [h2];exact he),h2]
theorem sq (h:(i.getD 0 0).toNat=1) (h1:intL (i.drop 1) 20000=(n,k,0)) (h2:(am ((i.drop 1).drop k)).1.1=0) (h3:(bN ((i.drop 1).drop k)).length≠n):unpF i=([],2):=by
 unfold unpF;rw [if_neg (by omega),h1];simp only;rw [if_neg (by simp),if_pos h,if_neg (by rw [h2];simp),if_pos h3]
theorem sk (h:(i.getD 0 0).toNat=1) (h1:intL (i.drop 1) 20000=(n,k,0)) (h2:(am ((i.drop 1).drop k)).1.1=0) (h3:(bN ((i.drop 1).drop k)).length=n):unpF i=(bN ((i.drop 1).drop k),0):=by
 unfold unpF;rw [if_neg (by omega),h1];simp only;rw [if_neg (by simp),if_pos h,if_neg (by rw [h2];simp),if_neg (by rw [h3];simp)]
theorem sn (h:(i.getD 0 0).toNat=0) (h1:intL (i.drop 1) 20000=(n,k,0)) (h3:((i.drop 1).drop k).length≠n):unpF i=([],2):=by
 unfold unpF;rw [if_neg (by omega),h1];simp only;rw [if_neg (by simp),if_neg (by omega),if_pos h3]
theorem sj (h:(i.getD 0 0).toNat=0) (h1:intL (i.drop 1) 20000=(n,k,0)) (h3:((i.drop 1).drop k).length=n):unpF i=((i.drop 1).drop k,0):=by
 unfold unpF;rw [if_neg (by omega),h1];simp only;rw [if_neg (by simp),if_neg (by omega),if_neg (by rw [h3];simp)]
end
theorem nW {i b:List UInt8} (h:unpF i=(b,0)):b.length≤20000:=by
 have hint:∀ n k,intL (i.drop 1) 20000=(n,k,0)→n≤20000:=by
  intro n k h1;unfold intL at h1;split at h1
  ·rename_i h2;injection h1 with _ h1;injection h1 with _ h1;exact absurd h1 h2
  ·split at h1
   ·injection h1 with _ h1;injection h1 with _ h1;cases h1
   ·rename_i h2;rw [h1] at h2;simp only at h2;omega
 unfold unpF at h;split at h
 ·injection h with _ h;cases h
 ·rcases hi:intL (i.drop 1) 20000 with ⟨n,k,e⟩
  rw [hi] at h;simp only at h
  split at h
  ·rename_i he;injection h with _ h;exact absurd h he
  ·rename_i he;have he0:e=0:=by simpa using he
   subst he0;have:=hint n k hi;split at h
   ·split at h
    ·rename_i h2;injection h with _ h;exact absurd h h2
    ·split at h
     ·injection h with _ h;cases h
     ·rename_i h3;injection h with h _;rw [←h];omega
   ·split at h
    ·injection h with _ h;cases h
    ·rename_i h3;injection h with h _;rw [←h];omega
theorem yJ (b:List UInt8):(dV b).length=1+(putL b.length).length+min (sqL b).length b.length:=by
 unfold dV;by_cases h:(sqL b).length<b.length
 ·rw [if_pos h,DM,Df];omega
 ·rw [if_neg h,DM,Df];omega
theorem mM {n:Nat} (h:n≤20000):(putL n).length=1+(if 128≤n then 1 else 0)+(if 16384≤n then 1 else 0):=by
 rw [qL];by_cases h1:n<128
 ·rw [iK h1,if_neg (by omega),if_neg (by omega)]
 ·rw [kz h1,if_pos (by omega)];by_cases h2:n<16384
  ·rw [iK (by omega),if_neg (by omega)]
  ·rw [kz (by omega),iK (by omega),if_pos (by omega)]
end
section
open Go.RowKit
theorem qP (s:List UInt8):(am s).2.length≤20000∧∀ t∈(am s).2,t.own.size≤20000:=by
 by_cases h:(am s).1.1=0
 ·have h2:=(mO h).1;exact ⟨(gr h2).1,kj h2⟩
 ·rw [zw h];exact ⟨Ds _,fun t ht=>by cases ht⟩
theorem Ac (s:ByteArray) (w:World) (hs:s.size≤400000) (e:Nat) (pl:Int) (he:(am s.data.toList).1=(e,pl)) :
 Calls Tryz.prog 30 #[.string s] w fun r w'=>r=.returned (.tuple #[.string ⟨(bN s.data.toList).toArray⟩,.agg #[.int .i64 (e:Int),.int .i64 pl]])∧Below w.heap.size w w':=by
 have HE:=hid he;have HFQ:Hid ((.agg #[.int .i64 ((am s.data.toList).1.1:Nat),.int .i64 (am s.data.toList).1.2]:Value)=.agg #[.int .i64 (e:Int),.int .i64 pl]):=hid (show (.agg #[.int .i64 ((am s.data.toList).1.1:Nat),.int .i64 (am s.data.toList).1.2]:Value)=.agg #[.int .i64 (e:Int),.int .i64 pl] by rw [he]);by_cases h0:e=0
 ·subst h0;have hr:(am s.data.toList).1.1=0:=by rw [he]
  have hpl:pl=-1:=by have:=qQ hr;rw [he] at this;exact (Prod.mk.inj this).2
  subst hpl;have hr2:=(mO hr).1;obtain ⟨l,hl⟩:∃ l,(am s.data.toList).2=l:=⟨_,rfl⟩;have hfew:=(qP s.data.toList).1;have hown:=(qP s.data.toList).2;rw [hl] at hr2 hfew hown;have HL:=hid hl;have HLN:Hid (l.length≤9223372036854775807):=hid (show l.length≤9223372036854775807 by omega);have HZ:Hid (∀ t∈l,t.own.size≤140737488351232):=hid (show ∀ t∈l,t.own.size≤140737488351232 from fun t ht=>by have:=hown t ht;omega);have HTX:Hid ((⟨(bB l).toArray⟩:ByteArray)=⟨(bN s.data.toList).toArray⟩):=hid (show (⟨(bB l).toArray⟩:ByteArray)=⟨(bN s.data.toList).toArray⟩ by rw [rQ hr,hl];unfold bB;rw [if_pos hr2]);have HFV:Hid (bH (a8 l 0 0)=.agg #[.int .i64 0,.int .i64 (-1)]):=hid (show bH (a8 l 0 0)=.agg #[.int .i64 0,.int .i64 (-1)] by rw [fM hr2];rfl);clear hr hr2 hl hfew hown he;go_enter Tryz.func30,Tryz.ntmps30
  go_wp2_with fail
  refine (r9 s _ hs).mono ?_;rintro r w1 ⟨v,rfl,hok,hb1⟩;rw [HL.out] at hok;rw [HFQ.out];have HK:=hid hok;have HB1:=hid hb1;clear hok hb1;go_wp2_with fail
  refine (aH 0 (-1) _).mono ?_;rintro r w2 ⟨rfl,hb2⟩;have hz1:=HB1.out.size;rw [DE] at hz1;have HB2:Hid (Below (w.heap.size+1) (w.alloc (.cells #[.int .i64 0,.int .i64 0] 28)) w2):=((HB1.out.mono (by simp)).alloc (by omega) _).trans (hb2.mono (by simp;omega));have HK2:=hid ((HK.out.alloc _).below hb2);clear hb2;go_wp2_with fail
  refine (Ag v l _ HK2.out.is HLN.out HZ.out).mono ?_;rintro r w3 ⟨rfl,hb3⟩;rw [HTX.out,HFV.out];have hz2:=HB2.out.size;rw [DE] at hz2;have HB3:Hid (Below (w.heap.size+1) (w.alloc (.cells #[.int .i64 0,.int .i64 0] 28)) w3):=HB2.out.trans (hb3.mono hz2);clear hb3;have x0:w3.cell? ⟨w.heap.size,0,none⟩=some (.int .i64 0):=(HB3.out.cell (by exact Du _)).trans (by simp);have x1:w3.cell? ⟨w.heap.size,1,none⟩=some (.int .i64 0):=(HB3.out.cell (by exact Du _)).trans (by simp);have y0:w3.frozen? ⟨w.heap.size,0,none⟩=false:=(HB3.out.frozen (by exact Du _)).trans (by simp);have y1:w3.frozen? ⟨w.heap.size,1,none⟩=false:=(HB3.out.frozen (by exact Du _)).trans (by simp);have HBW:Hid (Below w.heap.size w w3):=((Below.refl _ _).alloc (Db _) _).trans (HB3.out.mono (Dq _));go_wp2;refine Dc (v:=.tuple #[.string ⟨(bN s.data.toList).toArray⟩,.agg #[.int .i64 0,.int .i64 (-1)]]) (by simp [results,Tryz.results30,go_sem,x0,x1]) rfl ?_;exact ⟨rfl,(HBW.out.setCell (Db _) _).setCell (Db _) _⟩
 ·have hr:¬ (am s.data.toList).1.1=0:=by rw [he];exact h0
  have HSB:Hid ((⟨(bN s.data.toList).toArray⟩:ByteArray)=⟨#[]⟩):=hid (show (⟨(bN s.data.toList).toArray⟩:ByteArray)=⟨#[]⟩ by rw [rP hr]);have hbe:((e:Int) == 0)=false:=by simp;omega
  have HBE:=hid hbe;clear hr h0 he hbe;go_enter Tryz.func30,Tryz.ntmps30
  go_wp2_with fail
  refine (r9 s _ hs).mono ?_;rintro r w0 ⟨v,rfl,_,hb0⟩;rw [HFQ.out];have HB0:=hid hb0;have hz0:=hb0.size;rw [DE] at hz0;clear hb0;go_wp2_with fail
  refine (aH e pl _).mono ?_;rintro r w1 ⟨rfl,hb1⟩;rw [HBE.out];have hB1:Below (w.heap.size+1) (w.alloc (.cells #[.int .i64 0,.int .i64 0] 28)) w1:=(HB0.out.mono (by simp)).alloc (by omega) _ |>.trans (hb1.mono (by simp;omega))
  have hl0:w0.heap.size<(w0.alloc (.cells #[.int .i64 e,.int .i64 pl] 28)).heap.size:=by simp
  have u0:w1.cell? ⟨w0.heap.size,0,none⟩=some (.int .i64 e):=(hb1.cell hl0).trans (by simp);have u1:w1.cell? ⟨w0.heap.size,1,none⟩=some (.int .i64 pl):=(hb1.cell hl0).trans (by simp);have x0:w1.cell? ⟨w.heap.size,0,none⟩=some (.int .i64 0):=(hB1.cell (by exact Du _)).trans (by simp);have x1:w1.cell? ⟨w.heap.size,1,none⟩=some (.int .i64 0):=(hB1.cell (by exact Du _)).trans (by simp);have y0:w1.frozen? ⟨w.heap.size,0,none⟩=false:=(hB1.frozen (by exact Du _)).trans (by simp);have y1:w1.frozen? ⟨w.heap.size,1,none⟩=false:=(hB1.frozen (by exact Du _)).trans (by simp);have HBW:Hid (Below w.heap.size w w1):=((Below.refl _ _).alloc (Db _) _).trans (hB1.mono (Dq _));clear hb1 hB1;go_wp2;go_region
  go_wp2;refine Dc (v:=.tuple #[.string ⟨#[]⟩,.agg #[.int .i64 e,.int .i64 pl]]) (by simp [results,Tryz.results30,go_sem,x0,x1]) rfl ?_;rw [HSB.out];exact ⟨rfl,by first | exact ((HBW.out.drew).setCell (Db _) _).setCell (Db _) _ | exact ((HBW.out.setCell (Db _) _).setCell (Db _) _).drew⟩
end
section
open Go.RowKit
theorem qw {s i:List UInt8} {v:Nat} (h:opnF s=(v,i,0)):∃ o,aF s=(o,0)∧i=o.drop 3∧4≤o.length:=by
 have hp:=mF h;by_cases h0:s.length<8
 ·rw [io h0] at h;injection h with _ h;injection h with _ h;cases h
 ·by_cases h1:s.take 2=[80,84]
  ·by_cases h2:(s.getD 2 0).toNat<1∨3<(s.getD 2 0).toNat
   ·rw [iq h0 h1 h2] at h;injection h with _ h;injection h with _ h;cases h
   ·by_cases h3:(aF s).2=0
    ·rw [ir h0 h1 h2 h3] at h;injection h with _ h
     injection h with h _
     refine ⟨(aF s).1,by rw [←h3],h.symm,?_⟩;rw [←h,Dj] at hp;omega
    ·rw [iu h0 h1 h2 rfl h3] at h;injection h with _ h;injection h with _ h;exact absurd h h3
  ·rw [ip h0 h1] at h;injection h with _ h;injection h with _ h;cases h
theorem eB (s O:ByteArray) (w:World) (hs:s.size≤1000000) (h:aF s.data.toList=(O.data.toList,0)) :
 Calls Tryz.prog 28 #[.string s] w fun e w'=>e=.returned (.tuple #[.string O,.int .i64 0])∧Below w.heap.size w w':=by
 have h1:=mQ s w hs;rw [h] at h1;unfold et at h1;simp only [bF] at h1
 exact h1
end
