import Derived.Test.YtddbpnplbcjpgaaGreatDoorLp12
import Derived.Sort.KeysCollected
namespace Go.Proofs.YtddbpnplbcjpgaaGreatDoor
open Go.RowKit Go.Maps
theorem keyB_inv:∀ key kl,keyOf Tryz.prog 9 key=some kl→∃ x:ByteArray,key=.string x:=fun key kl h=>by
 obtain ⟨x,hx,_⟩:=Maps.keyOf_str Tryz.underlying9 h
 exact ⟨⟨x.toArray⟩,hx⟩
theorem cellB_inv:∀ v y,cellR v=some y→∃ c:CV,v=cvV c:=fun v y h=>by obtain ⟨c,h1,_⟩:=cellR_inv h;exact ⟨c,h1⟩
theorem keyB_size {x:ByteArray} {kl:Lit} (h:keyOf Tryz.prog 9 (.string x)=some kl):x.size≤maxLen∧kl=keyL x:=by
 obtain ⟨y,hy,hk,hs⟩:=Maps.keyOf_str Tryz.underlying9 h
 have e:x=⟨y.toArray⟩:=Value.string.inj hy
 subst e
 exact ⟨by simpa [ByteArray.size] using hs,by rw [hk];simp [keyL]⟩
structure CellsW (w wr:World) (R P M m:Nat) (D:DataW Value) (G:ByteArray→Cel) (L:ByteArray→Value) (left:Lit→Bool) (cnt:Nat) (ks:List ByteArray) (zs:List CV) (v:Value):Prop where
 rng:wr.ranges Tryz.prog 9 cellR M w.heap.size m D left cnt
 nodup:ks.Nodup
 mem:∀ k,k∈ks↔live (G k)=true∧left (keyL k)=false
 lsub:∀ k,left (keyL k)=true→live (G k)=true
 own:ownsC wr (w.heap.size + 1) v zs
 rows:RowsAre wr (w.heap.size + 1) G ks zs
 bel:Below w.heap.size w wr
 cnt:ks.length + cnt≤m
 sz:w.heap.size + 1≤wr.heap.size
theorem below_of_grown2 {B:Nat} {a w w':World} (h:Below B a w) {o:Option Nat} (hg:w.grownBy w' o) (hB:B + 1≤w.heap.size) (ho:∀ g,o=some g→B≤g):Below B a w' :=
 ⟨hg.os.trans h.os,hg.tape.trans h.tape,hg.output.trans h.output,Nat.le_trans h.size hg.size,fun k hk=>(hg.block k (by omega) (fun e=>by have:=ho k e.symm;omega)).trans (h.block k hk)⟩
theorem ownsC.shape {w:World} {base:Nat} {v:Value} {l:List CV} (h:ownsC w base v l):(v=.slice none 0 0∧l=[])∨∃ g cap,v=.slice (some ⟨g,0,none⟩) l.length cap∧base≤g:=by
 rcases h.2 with ⟨e,h0⟩ | ⟨g,cap,_,e,hb,_⟩
 · exact .inl ⟨e,List.length_eq_zero_iff.1 h0⟩
 · exact .inr ⟨g,cap,e,hb⟩
theorem range_off {wr:World} {base:Nat} {v:Value} {l:List CV} (h:ownsC wr base v l) {b:Nat} (hb:b < base):some b≠v.ownBlock:=fun e=>by have:=(h.lt b e.symm).1;omega
theorem RowsAre.off {w w':World} {base b:Nat} {G:ByteArray→Cel} {ks:List ByteArray} {zs:List CV} (h:RowsAre w base G ks zs) (hg:w.grownBy w' (some b)) (hb:b < base):RowsAre w' base G ks zs :=
 ⟨h.1,fun c hc=>by
   obtain ⟨h1,h2,h3,h4⟩:=h.2 c hc
   exact ⟨h1,h2,h3,World.ownsRow.kept h4 hg (by
     cases e:c.list.ownBlock with
     | none=>exact .inl rfl
     | some g=>exact .inr (fun e2=>by have:=(h4.lt g e).1;have e3:g=b:=Option.some.inj e2;omega))⟩⟩
theorem cells_own {w wr w1 w3:World} {v:Value} {zs:List CV} {o:Obj} {o2:Obj} (h:ownsC wr (w.heap.size + 1) v zs) (hg:wr.grownBy w1 (some w.heap.size)) (hb:Below (w1.alloc o).heap.size (w1.alloc o) w3):ownsC (w3.alloc o2) (w.heap.size + 1) v zs :=
 (ownsC.below (w:=w1.alloc o) (ownsC.alloc (World.ownsRow.kept h hg (by
   cases e:v.ownBlock with
   | none=>exact .inl rfl
   | some g=>exact .inr (fun e2=>by have:=(h.lt g e).1;have e3:g=w.heap.size:=Option.some.inj e2;omega))) o) hb).alloc o2
end Go.Proofs.YtddbpnplbcjpgaaGreatDoor
namespace Go.Proofs.YtddbpnplbcjpgaaGreatDoor
open Go.RowKit Go.Extern.Stop Go.Stop Go.Extern
set_option maxRecDepth 100000 in
set_option maxHeartbeats 4000000 in
theorem as_at (e:Int) (b off:Nat) (t:Addr) (old:Value) (w:World) (hg:errT w) (ht0:w.cell? t=some old) (hf0:w.frozen? t=false) (hp:w.cell? ⟨b,off,none⟩=some (.int .i64 e)) :
   Calls Tryz.prog 76 #[.iface 114 (.pointer (some ⟨b,off,none⟩)),.iface 137 (.pointer (some t))] w fun ev w'=>ev=.returned (.bool true)∧((asWorld w t).alloc (.cells #[.int .i64 e] 40)).setCell t (.int .i64 e)=w':=by
 unfold asWorld
 unfold errT at hg
 have h6:=@run_callFunc_extern Tryz.prog 77 _ (fun args=>ReflectliteValue.unpack (args.getD 0 (.tuple #[]))) Tryz.func77 (by kernel_rfl) (by kernel_rfl) (by kernel_rfl) (by kernel_rfl)
 have h7 := @run_callFunc_extern Tryz.prog 94 _ (ReflectliteValue.methodAny (ReflectliteValue.valueError "reflectlite.Value.Type" 0) (fun t _ _ _ => ReflectliteType.toType t)) Tryz.func94 (by kernel_rfl) (by kernel_rfl) (by kernel_rfl) (by kernel_rfl)
 have h8 := @run_callFunc_extern Tryz.prog 95 _ (ReflectliteValue.method (ReflectliteValue.valueError "reflectlite.Value.IsNil" 0) ReflectliteValue.isNil) Tryz.func95 (by kernel_rfl) (by kernel_rfl) (by kernel_rfl) (by kernel_rfl)
 have h27:=@run_callFunc_extern Tryz.prog 197 _ (ReflectliteType.abiMethod fun t=>do pure (.int .u8 (←Rtype.kind t))) Tryz.func197 (by kernel_rfl) (by kernel_rfl) (by kernel_rfl) (by kernel_rfl)
 have h37:=@run_callFunc_extern Tryz.prog 209 _ (ReflectliteType.method ReflectliteType.elem) Tryz.func209 (by kernel_rfl) (by kernel_rfl) (by kernel_rfl) (by kernel_rfl)
 have h38 := @run_callFunc_extern Tryz.prog 210 _ (ReflectliteType.relation "Implements" ReflectliteType.implements_) Tryz.func210 (by kernel_rfl) (by kernel_rfl) (by kernel_rfl) (by kernel_rfl)
 have h10:=@run_callFunc_extern Tryz.prog 121 _ ReflectliteType.typeOf Tryz.func121 (by kernel_rfl) (by kernel_rfl) (by kernel_rfl) (by kernel_rfl)
 have h35 := @run_callFunc_extern Tryz.prog 207 _ (ReflectliteType.relation "AssignableTo" ReflectliteType.assignableTo) Tryz.func207 (by kernel_rfl) (by kernel_rfl) (by kernel_rfl) (by kernel_rfl)
 have h11 := @run_callFunc_extern Tryz.prog 122 _ (ReflectliteValue.method (ReflectliteValue.valueError "reflectlite.Value.Elem" 0) ReflectliteValue.elem) Tryz.func122 (by kernel_rfl) (by kernel_rfl) (by kernel_rfl) (by kernel_rfl)
 have h12:=@run_callFunc_extern Tryz.prog 123 _ ReflectliteValue.set Tryz.func123 (by kernel_rfl) (by kernel_rfl) (by kernel_rfl) (by kernel_rfl)
 have tO:=As.typeOfE
 have mA:=As.methodAssignableTo
 have aE:=As.assignableE
 have vE:=As.valueOfE
 have f6:=As.valueOfP
 have f7:=As.typeP
 have mK:=As.methodKind
 have mE:=As.methodElem
 have mI:=As.methodImplements
 have kP:=As.kindP
 have kE:=As.kindE
 have eP:=As.elemP
 have iE:=As.implementsE
 have tA:=As.typeOfA
 have nA:=As.noAsA
 have uA:=As.unwrapA
 have aA:=As.assignableA
 have hbl:b < w.heap.size:=lt_of_cell hp
 have hp3:(((w.alloc (.cells #[.pointer (some t)] 137)).alloc (.cells #[.pointer (some ⟨5,137,none⟩),.pointer (some ⟨w.heap.size,0,none⟩),.int .u64 150] 141)).alloc (.cells #[.pointer (some ⟨5,137,none⟩),.pointer (some ⟨w.heap.size,0,none⟩),.int .u64 150] 141)).cell? ⟨b,off,none⟩=some (.int .i64 e):=by
   rw [World.cell?_alloc_lt _ _ ⟨b,off,none⟩ (by simp;omega),World.cell?_alloc_lt _ _ ⟨b,off,none⟩ (by simp;omega),World.cell?_alloc_lt _ _ ⟨b,off,none⟩ hbl];exact hp
 have htl:=lt_of_cell ht0
 have hlt:0 < w.heap.size:=lt_of_cell hg
 have n8:=As.isNilP ⟨w.heap.size,0,none⟩ t ((w.alloc (.cells #[.pointer (some t)] 137)).alloc (.cells #[.pointer (some ⟨5,137,none⟩),.pointer (some ⟨w.heap.size,0,none⟩),.int .u64 150] 141)) (by simp)
 have hg2:((w.alloc (.cells #[.pointer (some t)] 137)).alloc (.cells #[.pointer (some ⟨5,137,none⟩),.pointer (some ⟨w.heap.size,0,none⟩),.int .u64 150] 141)).cell? ⟨0,0,none⟩=some (.iface 162 (.agg #[.pointer (some ⟨5,36,none⟩)])):=by
   rw [World.cell?_alloc_lt _ _ ⟨0,0,none⟩ (by simp only [World.size_alloc];omega),World.cell?_alloc_lt _ _ ⟨0,0,none⟩ hlt];exact hg
 have el:=As.elemVP ⟨w.heap.size,0,none⟩ t (((w.alloc (.cells #[.pointer (some t)] 137)).alloc (.cells #[.pointer (some ⟨5,137,none⟩),.pointer (some ⟨w.heap.size,0,none⟩),.int .u64 150] 141)).alloc (.cells #[.pointer (some ⟨5,137,none⟩),.pointer (some ⟨w.heap.size,0,none⟩),.int .u64 150] 141)) (by rw [World.cell?_alloc_lt _ _ ⟨w.heap.size,0,none⟩ (by simp;omega)];simp)
 have st:=As.setE t ⟨w.heap.size + 1 + 1 + 1,0,none⟩ e old ((((w.alloc (.cells #[.pointer (some t)] 137)).alloc (.cells #[.pointer (some ⟨5,137,none⟩),.pointer (some ⟨w.heap.size,0,none⟩),.int .u64 150] 141)).alloc (.cells #[.pointer (some ⟨5,137,none⟩),.pointer (some ⟨w.heap.size,0,none⟩),.int .u64 150] 141)).alloc (.cells #[.int .i64 e] 40))
   (by rw [World.cell?_alloc_at _ _ _ _ (by simp)];rfl)
   (by rw [World.cell?_alloc_lt _ _ t (by simp;omega),World.cell?_alloc_lt _ _ t (by simp;omega),World.cell?_alloc_lt _ _ t (by simp;omega),World.cell?_alloc_lt _ _ t htl];exact ht0)
   (by rw [World.frozen?_alloc_old _ _ t (by simp;omega),World.frozen?_alloc_old _ _ t (by simp;omega),World.frozen?_alloc_old _ _ t (by simp;omega),World.frozen?_alloc_old _ _ t (Nat.ne_of_lt htl)];exact hf0)
 go_enter Tryz.func76,Tryz.ntmps76
 go_wp2
 refine wp_loop_rounds 2 ?_
 rw [rounds_succ]
 go_wp2
 rw [rounds_succ]
 go_wp2
 go_ret
 exact ⟨rfl,rfl⟩
end Go.Proofs.YtddbpnplbcjpgaaGreatDoor
