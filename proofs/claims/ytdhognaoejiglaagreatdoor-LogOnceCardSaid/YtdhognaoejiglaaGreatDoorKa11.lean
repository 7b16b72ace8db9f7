import Derived.Test.YtdhognaoejiglaaGreatDoorKa10
import Derived.WalkLawsBesides
namespace Go.Proofs.YtdhognaoejiglaaGreatDoor
open Lib (hid)
set_option maxRecDepth 100000
set_option maxHeartbeats 8000000
section
open Go.RowKit Go.Extern.Stop Go.Stop Go.Extern
def errT (w:World):Prop:=w.cell? ⟨0,0,none⟩=some (.iface 160 (.agg #[.pointer (some ⟨2,41,none⟩)]))
def eI (w:World) (t:Addr):World :=
 ((w.alloc (.cells #[.pointer (some t)] 107)).alloc (.cells #[.pointer (some ⟨2,107,none⟩),.pointer (some ⟨w.heap.size,0,none⟩),.int .u64 150] 133)).alloc (.cells #[.pointer (some ⟨2,107,none⟩),.pointer (some ⟨w.heap.size,0,none⟩),.int .u64 150] 133)
theorem aK {w:World} {a:Addr} {v:Value} (h:w.cell? a=some v):a.block<w.heap.size:=by
 rcases Nat.lt_or_ge a.block w.heap.size with h' | h'
 ·exact h'
 ·simp [World.cell?,Array.getElem?_eq_none h'] at h
theorem yf (e:Int) (t:Addr) (old:Value) (w:World) (hg:errT w) (ht0:w.cell? t=some old) (hf0:w.frozen? t=false) :
 Calls Tryz.prog 60 #[.iface 68 (.int .i64 e),.iface 107 (.pointer (some t))] w fun ev w'=>ev=.returned (.bool true)∧((eI w t).alloc (.cells #[.int .i64 e] 68)).setCell t (.int .i64 e)=w':=by
 unfold eI;unfold errT at hg;have h6:=@run_callFunc_extern Tryz.prog 81 _ (fun args=>ReflectliteValue.unpack (args.getD 0 (.tuple #[]))) Tryz.func81 (by kernel_rfl) (by kernel_rfl) (by kernel_rfl) (by kernel_rfl)
 have h7 := @run_callFunc_extern Tryz.prog 82 _ (ReflectliteValue.methodAny (ReflectliteValue.valueError "reflectlite.Value.Type" 0) (fun t _ _ _ => ReflectliteType.toType t)) Tryz.func82 (by kernel_rfl) (by kernel_rfl) (by kernel_rfl) (by kernel_rfl)
 have h8 := @run_callFunc_extern Tryz.prog 83 _ (ReflectliteValue.method (ReflectliteValue.valueError "reflectlite.Value.IsNil" 0) ReflectliteValue.isNil) Tryz.func83 (by kernel_rfl) (by kernel_rfl) (by kernel_rfl) (by kernel_rfl)
 have h27:=@run_callFunc_extern Tryz.prog 237 _ (ReflectliteType.abiMethod fun t=>do pure (.int .u8 (←Rtype.kind t))) Tryz.func237 (by kernel_rfl) (by kernel_rfl) (by kernel_rfl) (by kernel_rfl);have h37:=@run_callFunc_extern Tryz.prog 250 _ (ReflectliteType.method ReflectliteType.elem) Tryz.func250 (by kernel_rfl) (by kernel_rfl) (by kernel_rfl) (by kernel_rfl)
 have h38 := @run_callFunc_extern Tryz.prog 251 _ (ReflectliteType.relation "Implements" ReflectliteType.implements_) Tryz.func251 (by kernel_rfl) (by kernel_rfl) (by kernel_rfl) (by kernel_rfl)
 have h10:=@run_callFunc_extern Tryz.prog 107 _ ReflectliteType.typeOf Tryz.func107 (by kernel_rfl) (by kernel_rfl) (by kernel_rfl) (by kernel_rfl)
 have h35 := @run_callFunc_extern Tryz.prog 248 _ (ReflectliteType.relation "AssignableTo" ReflectliteType.assignableTo) Tryz.func248 (by kernel_rfl) (by kernel_rfl) (by kernel_rfl) (by kernel_rfl)
 have h11 := @run_callFunc_extern Tryz.prog 108 _ (ReflectliteValue.method (ReflectliteValue.valueError "reflectlite.Value.Elem" 0) ReflectliteValue.elem) Tryz.func108 (by kernel_rfl) (by kernel_rfl) (by kernel_rfl) (by kernel_rfl)
 have h12:=@run_callFunc_extern Tryz.prog 109 _ ReflectliteValue.set Tryz.func109 (by kernel_rfl) (by kernel_rfl) (by kernel_rfl) (by kernel_rfl);have tO:=As.typeOfE;have mA:=As.methodAssignableTo;have aE:=As.assignableE;have vE:=As.valueOfE;have f6:=As.valueOfP;have f7:=As.typeP;have mK:=As.methodKind;have mE:=As.methodElem;have mI:=As.methodImplements;have kP:=As.kindP;have kE:=As.kindE;have eP:=As.elemP;have iE:=As.implementsE;have htl:=aK ht0;have hlt:0<w.heap.size:=aK hg;have n8:=As.isNilP ⟨w.heap.size,0,none⟩ t ((w.alloc (.cells #[.pointer (some t)] 107)).alloc (.cells #[.pointer (some ⟨2,107,none⟩),.pointer (some ⟨w.heap.size,0,none⟩),.int .u64 150] 133)) (by simp);have hg2:((w.alloc (.cells #[.pointer (some t)] 107)).alloc (.cells #[.pointer (some ⟨2,107,none⟩),.pointer (some ⟨w.heap.size,0,none⟩),.int .u64 150] 133)).cell? ⟨0,0,none⟩=some (.iface 160 (.agg #[.pointer (some ⟨2,41,none⟩)])):=by
  rw [World.cell?_alloc_lt _ _ ⟨0,0,none⟩ (by simp only [World.size_alloc];omega),World.cell?_alloc_lt _ _ ⟨0,0,none⟩ hlt];exact hg
 have el:=As.elemVP ⟨w.heap.size,0,none⟩ t (((w.alloc (.cells #[.pointer (some t)] 107)).alloc (.cells #[.pointer (some ⟨2,107,none⟩),.pointer (some ⟨w.heap.size,0,none⟩),.int .u64 150] 133)).alloc (.cells #[.pointer (some ⟨2,107,none⟩),.pointer (some ⟨w.heap.size,0,none⟩),.int .u64 150] 133)) (by rw [World.cell?_alloc_lt _ _ ⟨w.heap.size,0,none⟩ (by simp;omega)];simp)
 have st:=As.setE t ⟨w.heap.size+1+1+1,0,none⟩ e old ((((w.alloc (.cells #[.pointer (some t)] 107)).alloc (.cells #[.pointer (some ⟨2,107,none⟩),.pointer (some ⟨w.heap.size,0,none⟩),.int .u64 150] 133)).alloc (.cells #[.pointer (some ⟨2,107,none⟩),.pointer (some ⟨w.heap.size,0,none⟩),.int .u64 150] 133)).alloc (.cells #[.int .i64 e] 68))
  (by rw [World.cell?_alloc_at _ _ _ _ (by simp)];rfl)
  (by rw [World.cell?_alloc_lt _ _ t (by simp;omega),World.cell?_alloc_lt _ _ t (by simp;omega),World.cell?_alloc_lt _ _ t (by simp;omega),World.cell?_alloc_lt _ _ t htl];exact ht0)
  (by rw [World.frozen?_alloc_old _ _ t (by simp;omega),World.frozen?_alloc_old _ _ t (by simp;omega),World.frozen?_alloc_old _ _ t (by simp;omega),World.frozen?_alloc_old _ _ t (Nat.ne_of_lt htl)];exact hf0)
 go_enter Tryz.func60,Tryz.ntmps60
 go_wp2;refine wp_loop_rounds 1 ?_;rw [rounds_succ];go_wp2;go_ret;exact ⟨rfl,rfl⟩
end
section
open Go.RowKit Go.Maps
structure fi (G:ByteArray→Cel) (z:List (ByteArray×Cel)):Prop where
 nodup:(z.map (·.1)).Nodup
 sorted:z.Pairwise (fun a b=>leB a.1 b.1=true)
 mem:∀ k c,(k,c)∈z↔G k=c∧live c=true
theorem nF (l:List Wr):fi (bA l) (aY l):=⟨qW l,z8 l,fun _ _=>nE⟩
theorem fi.unique {G:ByteArray→Cel} {z y:List (ByteArray×Cel)} (h:fi G z) (k:fi G y):z=y :=
 ET h.nodup k.nodup h.sorted k.sorted (fun p=>by obtain ⟨a,b⟩:=p;rw [h.mem,k.mem])
theorem fi.is {l:List Wr} {z:List (ByteArray×Cel)} (h:fi (bA l) z):z=aY l:=h.unique (nF l)
def bS (w:World) (v:Value) (z:List (ByteArray×Cel)):Prop :=
 ∃ zs:List CV,dj w v zs∧zs.length=z.length∧∀ (i:Nat) (c:CV),zs[i]? = some c→∃ p:ByteArray×Cel,z[i]? = some p∧c.key=p.1∧c.has=p.2.has∧c.text=p.2.text∧c.sum=p.2.sum∧bg w c.list p.2.list
theorem bS.below {w w':World} {v:Value} {z:List (ByteArray×Cel)} (h:bS w v z) (hb:Below w.heap.size w w'):bS w' v z:=by
 obtain ⟨zs,h1,h2,h3⟩:=h;exact ⟨zs,h1.below hb,h2,fun i c hc=>by obtain ⟨p,a,b,c1,d,e,f⟩:=h3 i c hc;exact ⟨p,a,b,c1,d,e,f.below hb⟩⟩
def bZ (w:World) (base:Nat) (G:ByteArray→Cel) (ks:List ByteArray) (zs:List CV):Prop :=
 zs.map (·.key)=ks∧∀ c∈zs,c.has=(G c.key).has∧c.text=(G c.key).text∧c.sum=(G c.key).sum∧ai w base c.list (G c.key).list
theorem bZ.kept {w w':World} {base b2:Nat} {G:ByteArray→Cel} {ks:List ByteArray} {zs:List CV} {v:Value} {l:List CV} (h:bZ w base G ks zs) (ho:bI w b2 v l) (hg:w.grownBy w' v.ownBlock):bZ w' base G ks zs :=
 ⟨h.1,fun c hc=>by
  obtain ⟨h1,h2,h3,h4⟩:=h.2 c hc;exact ⟨h1,h2,h3,World.ownsRow.kept h4 hg (lY h4 ho (by decide))⟩⟩
theorem bZ.grown {w w':World} {base:Nat} {G:ByteArray→Cel} {ks:List ByteArray} {zs:List CV} (h:bZ w base G ks zs) (hg:w.grownBy w' none):bZ w' base G ks zs :=
 ⟨h.1,fun c hc=>by
  obtain ⟨h1,h2,h3,h4⟩:=h.2 c hc;exact ⟨h1,h2,h3,World.ownsRow.kept h4 hg (by cases e:c.list.ownBlock with
   | none=>exact .inl rfl
   | some g=>exact .inr (by simp))⟩⟩
theorem bZ.add {w:World} {base:Nat} {G:ByteArray→Cel} {ks:List ByteArray} {zs:List CV} (h:bZ w base G ks zs) {k:ByteArray} {u:Value} (hu:ai w base u (G k).list) :
 bZ w base G (ks++[k]) (zs++[⟨k,(G k).has,(G k).text,(G k).sum,u⟩]) :=
 ⟨by rw [List.map_append,h.1];rfl,fun c hc=>by
  rcases List.mem_append.1 hc with hc | hc
  ·exact h.2 c hc
  ·obtain rfl:=List.mem_singleton.1 hc;exact ⟨rfl,rfl,rfl,hu⟩⟩
def cQ (zs:List CV) (k:ByteArray):CV:=match zs.find? (fun c=>decide (c.key=k)) with
 | some c=>c
 | none=>{ cv0 with key:=k }
theorem qQ (zs:List CV) (k:ByteArray):(cQ zs k).key=k:=by
 unfold cQ;split
 ·rename_i c h;simpa using List.find?_some h
 ·rfl
theorem rP:∀ {zs:List CV},(zs.map (·.key)).Nodup→∀ {c:CV},c∈zs→zs.find? (fun d=>decide (d.key=c.key))=some c
 | [],_,_,hc=>by cases hc
 | a::r,hn,c,hc=>by
  rw [List.map_cons,List.nodup_cons] at hn;rcases List.mem_cons.1 hc with rfl | hc
  ·simp
  ·have hne:a.key≠c.key:=fun e=>hn.1 (by rw [e];exact List.mem_map_of_mem hc)
   rw [List.find?_cons_of_neg (by simpa using hne)];exact rP hn.2 hc
theorem qR {zs:List CV} (hn:(zs.map (·.key)).Nodup) {c:CV} (hc:c∈zs):cQ zs c.key=c:=by
 unfold cQ;rw [rP hn hc]
theorem qP {zs:List CV} (hn:(zs.map (·.key)).Nodup):(zs.map (·.key)).map (cQ zs)=zs:=by
 rw [List.map_map]
 conv=>rhs;rw [←List.map_id zs]
 exact List.map_congr_left (fun c hc=>qR hn hc)
theorem qS {w:World} {base:Nat} {G:ByteArray→Cel} {ks:List ByteArray} {zs:List CV} (h:bZ w base G ks zs) (k:ByteArray):(cQ zs k).list.oneCell'=true:=by
 unfold cQ;split
 ·rename_i c e;obtain ⟨a,c2,h2⟩:=(h.2 c (List.mem_of_find?_eq_some e)).2.2.2.slice;rw [h2];rfl
 ·rfl
theorem bZ.cells {w':World} {base:Nat} {G:ByteArray→Cel} {ks ks':List ByteArray} {zs:List CV} {v:Value} (h:bZ w' base G ks zs) (hn:ks.Nodup) (hp:ks'.Perm ks) (hs:ks'.Pairwise (fun a b=>leB a b=true)) (hk:∀ k,k∈ks↔live (G k)=true)
 (hv:dj w' v (ks'.map (cQ zs))):∃ z,fi G z∧bS w' v z:=by
 have hn2:(zs.map (·.key)).Nodup:=by rw [h.1];exact hn
 have hfst:(ks'.map fun k=>(k,G k)).map (·.1)=ks':=by rw [List.map_map];exact List.map_id ks'
 refine ⟨ks'.map fun k=>(k,G k),⟨by rw [hfst];exact hp.nodup_iff.2 hn,List.pairwise_map.2 hs,fun k c=>?_⟩,_,hv,by rw [List.length_map,List.length_map],fun i c hc=>?_⟩
 ·rw [List.mem_map]
  constructor
  ·rintro ⟨k',hk',e⟩;simp only [Prod.mk.injEq] at e
   obtain ⟨rfl,rfl⟩:=e;exact ⟨rfl,(hk k').1 (hp.mem_iff.1 hk')⟩
  ·rintro ⟨rfl,hl⟩;exact ⟨k,hp.mem_iff.2 ((hk k).2 hl),rfl⟩
 ·rw [List.getElem?_map] at hc;obtain ⟨k,hki,rfl⟩:=Option.map_eq_some_iff.1 hc;have hkm:k∈ks:=hp.mem_iff.1 (List.mem_of_getElem? hki);rw [←h.1] at hkm;obtain ⟨c0,hc0,rfl⟩:=List.mem_map.1 hkm;obtain ⟨h1,h2,h3,h4⟩:=h.2 c0 hc0;rw [qR hn2 hc0];exact ⟨(c0.key,G c0.key),by rw [List.getElem?_map,hki];rfl,rfl,h1,h2,h3,h4.isTexts⟩
end
section
open Go.RowKit Go.Shelf Go.Lib Go.Sort
theorem qX:CmpC 79:=by
 intro a b W;obtain ⟨ka,ha,ta,sa,la⟩:=a;obtain ⟨kb,hb,tb,sb,lb⟩:=b;show Calls Tryz.prog 79 #[.agg #[.string ka,.bool ha,.string ta,.int .i64 sa,la],.agg #[.string kb,.bool hb,.string tb,.int .i64 sb,lb]] W fun e w'=>e=.returned (.int .i64 (cfB ka kb))∧∃ q os',w'=grow (W.drewN q) os'
 unfold cfB;have hcon:=fun W'=>Tryz.strings_Compare ka kb W'
 generalize Lib.compareBytes ka.data.toList kb.data.toList=r at hcon ⊢;go_enter Tryz.func79,Tryz.ntmps79
 go_wp2_with (go_at_call 80;refine (hcon _).mono ?_;rintro e w' ⟨rfl,rfl⟩)
 go_ret;exact ⟨rfl,0,_,by rw [alloc_eq_grow,alloc_eq_grow,grow_grow];rfl⟩
theorem qY:∀ args w,(callFunc 79 args).run Tryz.prog w=.ok (.enter 79 args) w:=enters_of Tryz.func79 (by kernel_rfl) rfl
theorem EU (fv:Value) (w:World):Calls Tryz.prog 127 #[.slice none 0 0,.int .i64 0,.int .i64 0,fv] w fun e w'=>e=.returned (.tuple #[])∧w'=w:=by
 go_enter Tryz.func127,Tryz.ntmps127
 go_wp2;refine wp_loop_rounds 1 ?_;rw [rounds_succ];go_wp2
 go_end0
 exact ⟨rfl,rfl⟩
theorem EV (fv:Value) (lim:Int) (w:World):Calls Tryz.prog 104 #[.slice none 0 0,.int .i64 0,.int .i64 0,.int .i64 lim,fv] w fun e w'=>e=.returned (.tuple #[])∧w'=w:=by
 go_enter Tryz.func104,Tryz.ntmps104
 go_wp2;refine wp_loop_rounds 1 ?_;rw [rounds_succ];go_wp2_with (go_at_call 127;refine (EU _ _).mono ?_;rintro e w' ⟨rfl,rfl⟩)
 (try simp only [Exit.inBlock,Exit.then]);refine bodyPost_ret (results_none rfl _ _ _) rfl ?_
 exact ⟨rfl,rfl⟩
theorem uL (fv:Value) (w:World):Calls Tryz.prog 78 #[.slice none 0 0,fv] w fun e w'=>e=.returned (.tuple #[])∧w'=w:=by
 go_enter Tryz.func78,Tryz.ntmps78
 go_wp2_with (first | (go_at_call 105;refine (Tryz.bits_Len 0 _ (by decide) (by decide)).mono ?_;rintro e w' ⟨rfl,rfl⟩) | (go_at_call 104;refine (EV _ _ _).mono ?_;rintro e w' ⟨rfl,rfl⟩))
 go_end0
 exact ⟨rfl,rfl⟩
end
section
structure LogS where
 rep:Int
 hv:List Ent
 ws:List Wr
structure aH (s:LogS):Prop where
 rep:0≤s.rep∧s.rep≤200
 hv:az s.hv
 srt:s.ws.Pairwise late
 mem:∀ x∈s.ws,wE x=0∧x.time≤ofF s.hv x.rep
 len:s.ws.length≤300
theorem jv {r:Int} (h:0≤r∧r≤200):aH ⟨r,[],[]⟩:=⟨h,⟨by simp,trivial⟩,List.Pairwise.nil,fun x hx=>(by cases hx),by simp⟩
theorem pO {x:Wr} (h:wE x=0):1≤x.time∧x.time≤1099511627776∧0≤x.rep∧x.rep≤200:=by
 have h2:=(fX (show wriE x.time x.rep x.kind x.key x.value x.n=0 from h)).2.1
 simpa [idOk] using h2
theorem fp {a b:Wr}:late a b↔a.time<b.time∨a.time=b.time∧a.rep<b.rep:=by
 rw [ou];unfold wid;rw [fI];split
 ·simp;assumption
 ·split
  ·simp;omega
  ·simp;omega
theorem Bo {a b:Wr} (h:wid a≠wid b):late a b∨late b a:=by
 rw [fp,fp];unfold wid at h;have:¬ (a.time=b.time∧a.rep=b.rep):=fun e=>h (by rw [e.1,e.2])
 omega
theorem db {a b:Wr} (h:late a b):wid a≠wid b:=fun e=>by
 rw [fp] at h;unfold wid at e;simp only [Prod.mk.injEq] at e
 omega
theorem jr {x y:List Wr} (hx:x.Pairwise late) (hy:y.Pairwise late) (h:∀ c,c∈x↔c∈y):x=y:=by
 have nx:x.Nodup:=hx.imp (fun {a b} h (e:a=b)=>db h (by rw [e]));have ny:y.Nodup:=hy.imp (fun {a b} h (e:a=b)=>db h (by rw [e]));refine List.Perm.eq_of_pairwise (le:=late) ?_ hx hy ((List.perm_ext_iff_of_nodup nx ny).2 h);intro a b _ _ h1 h2;exact absurd (ov h1 h2) (tc a)
theorem oq {l:List Wr} (h:l.Pairwise late) {a b:Wr} (ha:a∈l) (hb:b∈l) (e:wid a=wid b):a=b:=by
 induction l with
 | nil=>cases ha
 | cons c r ih =>
  rw [List.pairwise_cons] at h;rcases List.mem_cons.1 ha with ea | ha'
  ·rcases List.mem_cons.1 hb with eb | hb'
   ·rw [ea,eb]
   ·exact absurd e (db (by rw [ea];exact h.1 b hb'))
  ·rcases List.mem_cons.1 hb with eb | hb'
   ·exact absurd e.symm (db (by rw [eb];exact h.1 a ha'))
   ·exact ih h.2 ha' hb'
def leW (a b:Wr):Bool:=decide (a.time<b.time∨a.time=b.time∧a.rep≤b.rep)
def cO (l:List Wr):List Wr:=l.mergeSort leW
theorem BG (a b c:Wr) (h:leW a b=true) (k:leW b c=true):leW a c=true:=by
 unfold leW at *;simp only [decide_eq_true_eq] at *;omega
theorem BF (a b:Wr):(leW a b || leW b a)=true:=by
 unfold leW;simp only [Bool.or_eq_true,decide_eq_true_eq];omega
theorem p9 (l:List Wr):(cO l).Perm l:=List.mergeSort_perm _ _
theorem jQ {l:List Wr} {x:Wr}:x∈cO l↔x∈l:=(p9 l).mem_iff
theorem uJ (l:List Wr):(cO l).length=l.length:=(p9 l).length_eq
def sD (l:List Wr):Prop:=l.Pairwise (fun a b=>wid a≠wid b)
theorem p8 {l:List Wr} (h:sD l):(cO l).Pairwise late:=by
 have h1:(cO l).Pairwise (fun a b=>leW a b=true):=List.pairwise_mergeSort BG BF _;have h2:(cO l).Pairwise (fun a b=>wid a≠wid b):=(p9 l).symm.pairwise h (fun h e=>h e.symm);refine (h1.and h2).imp ?_;rintro a b ⟨h1,h2⟩;rw [fp];unfold leW at h1;unfold wid at h2;simp only [decide_eq_true_eq] at h1
 have:¬ (a.time=b.time∧a.rep=b.rep):=fun e=>h2 (by rw [e.1,e.2])
 omega
theorem js {l:List Wr} (h:l.Pairwise late):sD l:=h.imp db
def aS (s:LogS) (f:List Ent):List Wr:=s.ws.filter (fun x=>decide (ofF f x.rep<x.time))
def topT (f:List Ent) (l:List Wr) (r:Int):Int:=l.foldl (fun a w=>if w.rep=r then max a w.time else a) (ofF f r)
def ak (s:LogS) (f:List Ent):List Wr:=if (aS s f).length≤60 then aS s f else (aS s f).take 60
def ay (s:LogS) (f:List Ent):List Ent:=if (aS s f).length≤60 then s.hv else tab (fun r=>topT f ((aS s f).take 60) (r:Int)) 201
def bj (s:LogS) (f:List Ent):Nat:=if (ar f).1≠0 then (ar f).1 else if covB s.hv f=false then 13 else 0
theorem my (r:Int) (l:List Wr):∀ a,a≤l.foldl (fun a w=>if w.rep=r then max a w.time else a) a∧∀ x∈l,x.rep=r→x.time≤l.foldl (fun a w=>if w.rep=r then max a w.time else a) a:=by
 induction l with
 | nil=>intro a;exact ⟨Int.le_refl _,fun x h=>(by cases h)⟩
 | cons w l ih =>
  intro a;rw [List.foldl_cons];obtain ⟨h1,h2⟩:=ih (if w.rep=r then max a w.time else a);refine ⟨Int.le_trans ?_ h1,fun x hx hr=>?_⟩
  ·split <;> omega
  ·rcases List.mem_cons.1 hx with rfl | hx
   ·refine Int.le_trans ?_ h1;rw [if_pos hr];omega
   ·exact h2 x hx hr
theorem pn (r:Int) (l:List Wr):∀ a,l.foldl (fun a w=>if w.rep=r then max a w.time else a) a=a∨∃ x∈l,x.rep=r∧l.foldl (fun a w=>if w.rep=r then max a w.time else a) a=x.time:=by
 induction l with
 | nil=>intro a;exact .inl rfl
 | cons w l ih =>
  intro a;rw [List.foldl_cons];rcases ih (if w.rep=r then max a w.time else a) with h | ⟨x,hx,hr,h⟩
  ·rw [h];split
   ·rename_i hw;rcases Int.le_total a w.time with h2 | h2
    ·exact .inr ⟨w,List.mem_cons_self,hw,by omega⟩
    ·exact .inl (by omega)
   ·exact .inl rfl
  ·exact .inr ⟨x,List.mem_cons_of_mem _ hx,hr,h⟩
theorem jO {s:LogS} {f:List Ent} {x:Wr}:x∈aS s f↔x∈s.ws∧ofF f x.rep<x.time:=by
 unfold aS;rw [List.mem_filter];simp
theorem p6 {s:LogS} (h:aH s) (f:List Ent):(aS s f).Pairwise late:=h.srt.filter _
theorem uC (s:LogS) (f:List Ent):(ak s f).length≤60:=by
 unfold ak;split
 ·assumption
 ·rw [List.length_take];omega
theorem EM (s:LogS) (f:List Ent):(ak s f).Sublist (aS s f):=by
 unfold ak;split
 ·exact List.Sublist.refl _
 ·exact List.take_sublist _ _
structure iC (s:LogS) (f h:List Ent) (b:List Wr):Prop where
 right:az h
 lo:∀ r,ofF f r≤ofF h r
 hi:∀ r,ofF h r≤ofF s.hv r
 mem:∀ x,x∈b↔x∈s.ws∧ofF f x.rep<x.time∧x.time≤ofF h x.rep
 srt:b.Pairwise late
 len:b.length≤60
 full:b.length=60∨h=s.hv
theorem jP {s:LogS} (hs:aH s) {f:List Ent} (hf:az f) (hc:covB s.hv f=true):iC s f (ay s f) (ak s f):=by
 have hcv:=(dp hs.hv hf).1 hc;by_cases hl:(aS s f).length≤60
 ·have eB:ak s f=aS s f:=by unfold ak;rw [if_pos hl]
  have eH:ay s f=s.hv:=by unfold ay;rw [if_pos hl]
  rw [eB,eH];refine ⟨hs.hv,hcv,fun _=>Int.le_refl _,fun x=>?_,p6 hs f,hl,.inr rfl⟩;rw [jO];exact ⟨fun h=>⟨h.1,h.2,(hs.mem x h.1).2⟩,fun h=>⟨h.1,h.2.1⟩⟩
 ·have eB:ak s f=(aS s f).take 60:=by unfold ak;rw [if_neg hl]
  have eH:ay s f=tab (fun r=>topT f ((aS s f).take 60) (r:Int)) 201:=by unfold ay;rw [if_neg hl]
  rw [eB,eH];obtain ⟨t,ht⟩:∃ t,t=(aS s f).take 60:=⟨_,rfl⟩;have htl:t.length=60:=by rw [ht,List.length_take];omega
  have hts:t.Sublist (aS s f):=by rw [ht];exact List.take_sublist _ _
  have hmt:∀ x∈t,x∈s.ws∧ofF f x.rep<x.time:=fun x hx=>jO.1 (hts.subset hx)
  have hpre:∀ x∈aS s f,∀ y∈t,late x y→x∈t:=by
   intro x hx y hy hxy;have e:aS s f=t++(aS s f).drop 60:=by rw [ht,List.take_append_drop]
   have hp:=p6 hs f;rw [e,List.pairwise_append] at hp;rw [e] at hx;rcases List.mem_append.1 hx with h | h
   ·exact h
   ·exact absurd (ov hxy (hp.2.2 y hy x h)) (tc x)
  rw [←ht];have hT:∀ r:Int,ofF f r≤topT f t r∧topT f t r≤ofF s.hv r:=by
   intro r;refine ⟨(my r t _).1,?_⟩;rcases pn r t (ofF f r) with h | ⟨x,hx,hr,h⟩
   ·unfold topT;rw [h];exact hcv r
   ·unfold topT;rw [h,←hr];exact (hs.mem x (hmt x hx).1).2
  have hof:∀ r,ofF (tab (fun r=>topT f t (r:Int)) 201) r=if 0≤r∧r≤200 then topT f t r else 0:=by
   intro r;rw [lF];have h1:=hT r;have h2:=bR hf.2 r;by_cases hr:0≤r∧r≤200
   ·have e:(r.toNat:Int)=r:=by omega
    rw [if_pos hr,e];split
    ·rfl
    ·omega
   ·rw [if_neg hr,if_neg (by omega)]
  have hout:∀ r,¬ (0≤r∧r≤200)→ofF f r=0∧ofF s.hv r=0:=fun r hr=>⟨gu hf.2 (by omega),gu hs.hv.2 (by omega)⟩
  have hov:=mt (f:=fun r=>topT f t (r:Int)) (fun r=>Int.le_trans (hT r).2 (bR hs.hv.2 _).2) (Nat.le_refl 201);have hhi:∀ r,ofF (tab (fun r=>topT f t (r:Int)) 201) r≤ofF s.hv r:=by
   intro r;rw [hof];split
   ·exact (hT r).2
   ·rename_i hr;rw [(hout r hr).2];exact Int.le_refl _
  refine ⟨⟨?_,hov⟩,fun r=>?_,hhi,fun x=>?_,(p6 hs f).sublist hts,by omega,.inl htl⟩
  ·have hsub : ∀ e ∈ tab (fun r => topT f t (r : Int)) 201, ∃ d ∈ s.hv, d.rep = e.rep := by
    intro e he;have h1:=jA hov he;have h2:=bc hov e he;have h3:=hhi e.rep;obtain ⟨d,hd,h4,_⟩:=jz (l:=s.hv) (x:=e.rep) (by omega);exact ⟨d,hd,h4⟩
   have hnd:∀ {l:List Ent} {a:Int},okV a l→(l.map (·.rep)).Nodup:=by
    intro l
    induction l with
    | nil=>intro a _;exact List.nodup_nil
    | cons e r ih =>
     intro a h;rw [List.map_cons,List.nodup_cons];refine ⟨fun hm=>?_,ih h.2⟩;obtain ⟨d,hd,he⟩:=List.mem_map.1 hm;have:=bc h.2 d hd;omega
   have h5:=(hnd hov).length_le_of_subset (l₂:=s.hv.map (·.rep)) (fun r hr=>by
    obtain ⟨e,he,rfl⟩:=List.mem_map.1 hr;obtain ⟨d,hd,h6⟩:=hsub e he;exact List.mem_map.2 ⟨d,hd,h6⟩)
   rw [List.length_map,List.length_map] at h5;exact Nat.le_trans h5 hs.hv.1
  ·rw [hof];split
   ·exact (hT r).1
   ·rename_i hr;rw [(hout r hr).1];exact Int.le_refl _
  ·constructor
   ·intro hx;obtain ⟨h1,h2⟩:=hmt x hx;have h3:=pO (hs.mem x h1).1;refine ⟨h1,h2,?_⟩;rw [hof,if_pos ⟨h3.2.2.1,h3.2.2.2⟩];exact (my x.rep t _).2 x hx rfl
   ·rintro ⟨h1,h2,h3⟩;have h4:=pO (hs.mem x h1).1;rw [hof,if_pos ⟨h4.2.2.1,h4.2.2.2⟩] at h3;have hxs:x∈aS s f:=jO.2 ⟨h1,h2⟩;rcases pn x.rep t (ofF f x.rep) with h | ⟨y,hy,hr,h⟩
    ·unfold topT at h3;rw [h] at h3;omega
    ·unfold topT at h3;rw [h] at h3;by_cases e:x.time=y.time
     ·have:x=y:=oq hs.srt h1 (hmt y hy).1 (by unfold wid;rw [e,hr]);rw [this];exact hy
     ·exact hpre x hxs y hy (fp.2 (.inl (by omega)))
theorem mi {s:LogS} (hs:aH s) {f h:List Ent} {b:List Wr} (hf:az f) (ho:iC s f h b):aZ f h b:=by
 rw [dx];refine ⟨⟨hf,ho.right,(dp ho.right hf).2 ho.lo⟩,ho.len,fun x hx=>?_,ho.srt⟩;obtain ⟨h1,h2,h3⟩:=(ho.mem x).1 hx;refine ⟨(hs.mem x h1).1,?_⟩;unfold wiF wid;simp [h2,h3]
end
section
open Go.RowKit
theorem yZ:(Tryz.prog.info? 100).map (·.size)=some 5:=by kernel_rfl
theorem iS (a0 a1 a2 a3 a4:Value):(Tryz.prog.info? 100).map (·.size)=some (#[a0,a1,a2,a3,a4]:Array Value).size:=yZ
theorem mj (k t:ByteArray) (h:Bool) (s:Int) (a:Option Addr) (n c:Nat) (w:World) (hn:n≤9223372036854775807) :
 Calls Tryz.prog 76 #[.agg #[.string k,.bool h,.string t,.int .i64 s,.slice a n c]] w fun e w'=>e=.returned (.bool (h || s != 0 || decide (0<n)))∧Below w.heap.size w w':=by
 cases h with
 | true =>
  go_enter Tryz.func76,Tryz.ntmps76
  go_wp2;go_ret;exact ⟨by first | rfl | simp,(Below.refl _ _).alloc (Nat.le_refl _) _⟩
 | false =>
  by_cases h1:s=0
  ·subst h1;by_cases h2:0<n
   ·have b2:decide ((0:Int)<(n:Int))=true:=by simpa using h2
    go_enter Tryz.func76,Tryz.ntmps76
    go_wp2;go_ret;exact ⟨by rw [decide_eq_true h2];rfl,(Below.refl _ _).alloc (Nat.le_refl _) _⟩
   ·obtain rfl:n=0:=by omega
    go_enter Tryz.func76,Tryz.ntmps76
    go_wp2;go_ret;exact ⟨rfl,(Below.refl _ _).alloc (Nat.le_refl _) _⟩
  ·have b1:(s != 0)=true:=by simpa using h1
   go_enter Tryz.func76,Tryz.ntmps76
   go_wp2;go_ret;exact ⟨by rw [b1];rfl,(Below.refl _ _).alloc (Nat.le_refl _) _⟩
theorem row5 {w:World} {B:Nat} {a0 a1 a2 a3 a4:Value} {T:TypeId} (h:w.heap[B]? = some (.cells #[a0,a1,a2,a3,a4] T (0,0))) :
 w.cell? ⟨B,0,none⟩=some a0∧w.cell? ⟨B,1,none⟩=some a1∧w.cell? ⟨B,2,none⟩=some a2∧w.cell? ⟨B,3,none⟩=some a3∧w.cell? ⟨B,4,none⟩=some a4 ∧
 w.frozen? ⟨B,0,none⟩=false∧w.frozen? ⟨B,1,none⟩=false∧w.frozen? ⟨B,2,none⟩=false∧w.frozen? ⟨B,3,none⟩=false∧w.frozen? ⟨B,4,none⟩=false :=
 ⟨cell_of_row _ _ 0 _ _ _ h,cell_of_row _ _ 1 _ _ _ h,cell_of_row _ _ 2 _ _ _ h,cell_of_row _ _ 3 _ _ _ h,cell_of_row _ _ 4 _ _ _ h,by simp [World.frozen?,h],by simp [World.frozen?,h],by simp [World.frozen?,h],by simp [World.frozen?,h],by simp [World.frozen?,h]⟩
theorem lw (w:World) (a b c:Obj):(((w.alloc a).alloc b).alloc c).heap[w.heap.size]? = some a∧(((w.alloc a).alloc b).alloc c).heap[w.heap.size+1]? = some b∧(((w.alloc a).alloc b).alloc c).heap[w.heap.size+1+1]? = some c:=by
 have old:∀ (W:World) (o:Obj) (k:Nat),k<W.heap.size→(W.alloc o).heap[k]? = W.heap[k]? := fun W o k hk=>(MapKept.heap_alloc W o).2 k hk
 have new:∀ (W:World) (o:Obj),(W.alloc o).heap[W.heap.size]? = some o:=fun W o=>(MapKept.heap_alloc W o).1
 have s1:(w.alloc a).heap.size=w.heap.size+1:=by simp
 have s2:((w.alloc a).alloc b).heap.size=w.heap.size+1+1:=by simp
 refine ⟨?_,?_,?_⟩
 ·rw [old _ _ _ (by omega),old _ _ _ (by omega)];exact new _ _
 ·rw [old _ _ _ (by omega)];have:=new (w.alloc a) b
  rwa [s1] at this
 ·have:=new ((w.alloc a).alloc b) c
  rwa [s2] at this
structure Aft (w w1:World) (k t:ByteArray) (h:Bool) (s:Int) (l:Value) (x:Value):Prop where
 p0:w1.cell? ⟨w.heap.size,0,none⟩=some (.string k)
 p1:w1.cell? ⟨w.heap.size,1,none⟩=some (.bool h)
 p2:w1.cell? ⟨w.heap.size,2,none⟩=some (.string t)
 p3:w1.cell? ⟨w.heap.size,3,none⟩=some (.int .i64 s)
 p4:w1.cell? ⟨w.heap.size,4,none⟩=some l
 q0:w1.cell? ⟨w.heap.size+1+1,0,none⟩=some (.string ⟨#[]⟩)
 q1:w1.cell? ⟨w.heap.size+1+1,1,none⟩=some (.bool false)
 q2:w1.cell? ⟨w.heap.size+1+1,2,none⟩=some (.string ⟨#[]⟩)
 q3:w1.cell? ⟨w.heap.size+1+1,3,none⟩=some (.int .i64 0)
 q4:w1.cell? ⟨w.heap.size+1+1,4,none⟩=some (.slice none 0 0)
 r:w1.heap[w.heap.size+1+1]? = some (.cells #[.string ⟨#[]⟩,.bool false,.string ⟨#[]⟩,.int .i64 0,.slice none 0 0] 100 (0,0))
 f:∀ i,w1.frozen? ⟨w.heap.size,i,none⟩=false
 g:∀ i,w1.frozen? ⟨w.heap.size+1+1,i,none⟩=false
theorem xN {w w1:World} {k t:ByteArray} {h:Bool} {s:Int} {l:Value} {b:Obj} {o:Option Nat}
 (hb:(((w.alloc (.cells #[.string k,.bool h,.string t,.int .i64 s,l] 100)).alloc b).alloc (.cells #[.string ⟨#[]⟩,.bool false,.string ⟨#[]⟩,.int .i64 0,.slice none 0 0] 100)).grownBy w1 o) (ho:∀ g,o=some g→g<w.heap.size):Aft w w1 k t h s l undef:=by
 obtain ⟨h0,_,h2⟩:=lw w (.cells #[.string k,.bool h,.string t,.int .i64 s,l] 100) b (.cells #[.string ⟨#[]⟩,.bool false,.string ⟨#[]⟩,.int .i64 0,.slice none 0 0] 100);have e0:=(hb.block w.heap.size (by simp;omega) (fun e=>by have:=ho _ e.symm;omega)).trans h0;have e2:=(hb.block (w.heap.size+1+1) (by simp) (fun e=>by have:=ho _ e.symm;omega)).trans h2;obtain ⟨p0,p1,p2,p3,p4,_⟩:=row5 e0;obtain ⟨q0,q1,q2,q3,q4,_⟩:=row5 e2;exact ⟨p0,p1,p2,p3,p4,q0,q1,q2,q3,q4,e2,fun i=>by simp [World.frozen?,e0],fun i=>by simp [World.frozen?,e2]⟩
theorem bU {w w':World} (h:Below w.heap.size w w'):w.grownBy w' none:=⟨h.os,h.tape,h.output,h.size,fun k hk _=>h.block k hk⟩
theorem cy {a w:World} {o:Option Nat} (h:a.grownBy w o) {B i:Nat} (v:Value) (hB:a.heap.size≤B):a.grownBy (w.setCell ⟨B,i,none⟩ v) o :=
 ⟨h.os,h.tape,h.output,by rw [show (w.setCell ⟨B,i,none⟩ v).heap.size=w.heap.size from by simp];exact h.size,fun k hk hne=>by
  rw [heap_setCell_other _ _ _ _ (fun e=>by have e2:k=B:=e;omega)];exact h.block k hk hne⟩
theorem bB {a w:World} {o:Option Nat} (h:a.grownBy w o) (x:Obj):a.grownBy (w.alloc x) o :=
 ⟨h.os,h.tape,h.output,by simp;have:=h.size;omega,fun k hk hne=>((MapKept.heap_alloc w x).2 k (Nat.lt_of_lt_of_le hk h.size)).trans (h.block k hk hne)⟩
theorem aV (a:World) (o:Option Nat):a.grownBy a o:=⟨rfl,rfl,rfl,Nat.le_refl _,fun _ _ _=>rfl⟩
theorem cz {a b c:World} {o:Option Nat} (h:a.grownBy b none) (k:b.grownBy c o):a.grownBy c o :=
 ⟨k.os.trans h.os,k.tape.trans h.tape,k.output.trans h.output,Nat.le_trans h.size k.size,fun i hi hne=>(k.block i (Nat.lt_of_lt_of_le hi h.size) hne).trans (h.block i hi (by simp))⟩
theorem lk (w:World) (a b c:Obj):w.grownBy (((w.alloc a).alloc b).alloc c) none:=bB (bB (bB (aV w none) a) b) c
theorem lX {U:World} {B:Nat} {z0 z1 z2 z3 z4:Value} {T:TypeId} (h:U.heap[B]? = some (.cells #[z0,z1,z2,z3,z4] T (0,0))) (a0 a1 a2 a3 a4:Value) :
 (((((U.setCell ⟨B,0,none⟩ a0).setCell ⟨B,1,none⟩ a1).setCell ⟨B,2,none⟩ a2).setCell ⟨B,3,none⟩ a3).setCell ⟨B,4,none⟩ a4).heap[B]? = some (.cells #[a0,a1,a2,a3,a4] T (0,0)) :=
 heap_setCell_same _ _ 4 _ _ a4 (heap_setCell_same _ _ 3 _ _ a3 (heap_setCell_same _ _ 2 _ _ a2 (heap_setCell_same _ _ 1 _ _ a1 (heap_setCell_same _ _ 0 _ _ a0 h))))
theorem xS (k t:ByteArray) (h:Bool) (s:Int) (la:Option Addr) (ln lc:Nat) (T R:Int) (key val:ByteArray) (N:Int) (w:World) (hv:val.size≤140737488351232) :
 Calls Tryz.prog 75 #[.agg #[.string k,.bool h,.string t,.int .i64 s,.slice la ln lc],.agg #[.int .i64 T,.int .i64 R,.int .i64 1,.string key,.string val,.int .i64 N]] w fun e w' =>
  e=.returned (.agg #[.string k,.bool true,.string val,.int .i64 s,.slice la ln lc])∧w.grownBy w' none:=by
 have hne:¬ w.heap.size+1+1=w.heap.size:=by omega
 have hne2:¬ w.heap.size=w.heap.size+1+1:=by omega
 go_enter Tryz.func75,Tryz.ntmps75
 go_wp2_with (go_at_call 74;refine (ce val _ hv).mono ?_;rintro r w1 ⟨rfl,hb1⟩;have HB:=hid (cz (lk w _ _ _) (bU hb1));obtain ⟨p0,p1,p2,p3,p4,q0,q1,q2,q3,q4,r2,pf,qf⟩:=xN (bU hb1) (fun g e=>by cases e);have R2:=hid r2;have f1:=pf 1;have f2:=pf 2;have f3:=pf 3;have f4:=pf 4;have g0:=qf 0;have g1:=qf 1;have g2:=qf 2;have g3:=qf 3;have g4:=qf 4;clear hb1 pf qf r2)
 obtain ⟨U,hU⟩:∃ U,U=(w1.setCell ⟨w.heap.size,1,none⟩ (.bool true)).setCell ⟨w.heap.size,2,none⟩ (.string val):=⟨_,rfl⟩;have hrow:U.heap[w.heap.size+1+1]? = some (.cells #[.string ⟨#[]⟩,.bool false,.string ⟨#[]⟩,.int .i64 0,.slice none 0 0] 100 (0,0)):=by
  rw [hU,heap_setCell_other _ _ _ _ (by show _≠w.heap.size;omega),heap_setCell_other _ _ _ _ (by show _≠w.heap.size;omega)];exact R2.out
 have hgU:w.grownBy U none:=by rw [hU];exact cy (cy HB.out _ (by omega)) _ (by omega)
 rw [←hU];have hR:=lX hrow (.string k) (.bool true) (.string val) (.int .i64 s) (.slice la ln lc);obtain ⟨W,hW⟩:∃ W,W=((((U.setCell ⟨w.heap.size+1+1,0,none⟩ (.string k)).setCell ⟨w.heap.size+1+1,1,none⟩ (.bool true)).setCell ⟨w.heap.size+1+1,2,none⟩ (.string val)).setCell ⟨w.heap.size+1+1,3,none⟩ (.int .i64 s)).setCell ⟨w.heap.size+1+1,4,none⟩ (.slice la ln lc):=⟨_,rfl⟩;have hgW:w.grownBy W none:=by rw [hW];exact cy (cy (cy (cy (cy hgU _ (by omega)) _ (by omega)) _ (by omega)) _ (by omega)) _ (by omega)
 rw [←hW] at hR ⊢;clear hW hgU hrow hU p0 p1 p2 p3 p4 q0 q1 q2 q3 q4 f1 f2 f3 f4 g0 g1 g2 g3 g4;refine bodyPost_ret (v:=.agg #[.string k,.bool true,.string val,.int .i64 s,.slice la ln lc]) (results_cell_row Tryz.results75 _ _ (w.heap.size+1+1) 100 _ _ _ rfl hR Tryz.underlying100 rfl (iS _ _ _ _ _)) rfl ?_;exact ⟨rfl,hgW⟩
theorem xQ (k t:ByteArray) (h:Bool) (s:Int) (la:Option Addr) (ln lc:Nat) (T R:Int) (key val:ByteArray) (N:Int) (w:World) :
 Calls Tryz.prog 75 #[.agg #[.string k,.bool h,.string t,.int .i64 s,.slice la ln lc],.agg #[.int .i64 T,.int .i64 R,.int .i64 2,.string key,.string val,.int .i64 N]] w fun e w' =>
  e=.returned (.agg #[.string ⟨#[]⟩,.bool false,.string ⟨#[]⟩,.int .i64 0,.slice none 0 0])∧w.grownBy w' none:=by
 have hne:¬ w.heap.size+1+1=w.heap.size:=by omega
 have hne2:¬ w.heap.size=w.heap.size+1+1:=by omega
 go_enter Tryz.func75,Tryz.ntmps75
 go_wp2;refine bodyPost_ret (v:=.agg #[.string ⟨#[]⟩,.bool false,.string ⟨#[]⟩,.int .i64 0,.slice none 0 0]) (results_cell_row Tryz.results75 _ _ (w.heap.size+1+1) 100 _ _ _ rfl (lw w _ _ _).2.2 Tryz.underlying100 rfl (iS _ _ _ _ _)) rfl ?_;exact ⟨rfl,lk w _ _ _⟩
theorem xO (k t:ByteArray) (h:Bool) (s:Int) (la:Option Addr) (ln lc:Nat) (T R:Int) (key val:ByteArray) (N:Int) (w:World) :
 Calls Tryz.prog 75 #[.agg #[.string k,.bool h,.string t,.int .i64 s,.slice la ln lc],.agg #[.int .i64 T,.int .i64 R,.int .i64 3,.string key,.string val,.int .i64 N]] w fun e w' =>
  e=.returned (.agg #[.string k,.bool h,.string t,.int .i64 (wrap64 (s+N)),.slice la ln lc])∧w.grownBy w' none:=by
 have hne:¬ w.heap.size+1+1=w.heap.size:=by omega
 have hne2:¬ w.heap.size=w.heap.size+1+1:=by omega
 go_enter Tryz.func75,Tryz.ntmps75
 go_wp2;refine bodyPost_ret (v:=.agg #[.string k,.bool h,.string t,.int .i64 (wrap64 (s+N)),.slice la ln lc]) (results_cell_row Tryz.results75 _ _ (w.heap.size+1+1) 100 _ _ _ rfl (lw w _ _ _).2.2 Tryz.underlying100 rfl (iS _ _ _ _ _)) rfl ?_;exact ⟨rfl,lk w _ _ _⟩
end
section
open Go.RowKit Go.Maps
theorem Ew (k t:ByteArray) (h:Bool) (s:Int) (a a':Option Addr) (n c c':Nat) (l:List ByteArray) (w:World) (h1:bg w (.slice a n c) l) (h2:bg w (.slice a' n c') l) (hl:l.length≤1000000) :
 Calls Tryz.prog 59 #[.agg #[.string k,.bool h,.string t,.int .i64 s,.slice a n c],.agg #[.string k,.bool h,.string t,.int .i64 s,.slice a' n c']] w fun e w'=>e=.returned (.bool true)∧Below w.heap.size w w':=by
 have H1:=hid h1;have H2:=hid h2;have HL:=hid hl;clear h1 h2 hl;go_enter Tryz.func59,Tryz.ntmps59
 go_wp2_with (go_at_call 54;refine (vu _ _ l _ ((H1.out.alloc _).alloc _) ((H2.out.alloc _).alloc _) (by have:=HL.out;omega)).mono ?_;rintro r w1 ⟨rfl,q,rfl⟩)
 go_ret;exact ⟨rfl,below_drewN (((Below.refl _ _).alloc (Nat.le_refl _) _).alloc (by simp) _) _⟩
theorem zQ (v v':Value) (z:List (ByteArray×Cel)) (w:World) (h:bS w v z) (h':bS w v' z) (hz:z.length≤1000000) (hzl:∀ p∈z,p.2.list.length≤1000000) :
 Calls Tryz.prog 58 #[v,v',.func (.func 59) #[] #[]] w fun e w'=>e=.returned (.bool true)∧Below w.heap.size w w':=by
 obtain ⟨zs,hv,hl,hc⟩:=h;obtain ⟨zs',hv',hl',hc'⟩:=h';obtain ⟨a,cap,rfl,hf⟩:=hv.form;obtain ⟨a',cap',rfl,hf'⟩:=hv'.form;obtain ⟨n,hn⟩:∃ n,n=z.length:=⟨_,rfl⟩;rw [hl',←hn];rw [hl,←hn];rw [←hn] at hz;have HN:=hid hn;have HF:=hid hf;have HF':=hid hf';have HC:=hid hc;have HC':=hid hc';have HLL:Hid (zs.length=n∧zs'.length=n):=hid ⟨by rw [hl,hn],by rw [hl',hn]⟩;have HZL:=hid hzl;clear hv hv' hl hl' hc hc' hf hf' hn hzl;go_enter Tryz.func58,Tryz.ntmps58
 go_wp2
 go_loopw [17] (fun i wr=>∃ k:Nat,k≤n∧i=.int .i64 k∧Below w.heap.size w wr) (fun i _=>n-(intOf i).toNat)
 case atStart=>exact ⟨0,by omega,rfl,Below.refl _ _⟩
 case round =>
  obtain ⟨k,hk,rfl,hb⟩:=hrel;have HB:=hid hb;clear hb;by_cases hlt:k<n
  ·have b1:decide ((k:Int)<(n:Int))=true:=by simpa using hlt
   obtain ⟨x, hx⟩ : ∃ x, zs[k]? = some x := ⟨zs[k]'(by rw [HLL.out.1]; exact hlt), List.getElem?_eq_getElem _⟩;obtain ⟨y, hy⟩ : ∃ y, zs'[k]? = some y := ⟨zs'[k]'(by rw [HLL.out.2]; exact hlt), List.getElem?_eq_getElem _⟩;obtain ⟨b,off,rfl,hbl,c0,c1,c2,c3,c4⟩:=HF.out k x hx;obtain ⟨b',off',rfl,hbl',d0,d1,d2,d3,d4⟩:=HF'.out k y hy;obtain ⟨p,hp,e1,e2,e3,e4,e5⟩:=HC.out k x hx;obtain ⟨p',hp',f1,f2,f3,f4,f5⟩:=HC'.out k y hy;rw [hp] at hp';obtain rfl:=Option.some.inj hp';obtain ⟨kx,hxx,tx,sx,lx⟩:=x;obtain ⟨ky,hyy,ty,sy,ly⟩:=y;simp only at e1 e2 e3 e4 e5 f1 f2 f3 f4 f5 c0 c1 c2 c3 c4 d0 d1 d2 d3 d4
   obtain rfl:ky=kx:=f1.trans e1.symm;obtain rfl:hyy=hxx:=f2.trans e2.symm;obtain rfl:ty=tx:=f3.trans e3.symm;obtain rfl:sy=sx:=f4.trans e4.symm;obtain ⟨la,lc,rfl⟩:=e5.form;obtain ⟨la',lc',rfl⟩:=f5.form;have hq:=HZL.out p (List.mem_of_getElem? hp);obtain ⟨m,hm⟩:∃ m,m=p.2.list.length:=⟨_,rfl⟩;rw [←hm] at c4 d4 e5 f5;have hq2:p.2.list.length≤1000000:=hq;have HQ:=hid hq2;have E5:=hid e5;have F5:=hid f5;have up:∀ B,B<w.heap.size→∀ j u,w.cell? ⟨B,j,none⟩=some u→wr.cell? ⟨B,j,none⟩=some u:=fun B hB j u hu=>(HB.out.cell (p:=⟨B,j,none⟩) hB).trans hu
   have g0:=up _ hbl _ _ c0;have g1:=up _ hbl _ _ c1;have g2:=up _ hbl _ _ c2;have g3:=up _ hbl _ _ c3;have g4:=up _ hbl _ _ c4;have i0:=up _ hbl' _ _ d0;have i1:=up _ hbl' _ _ d1;have i2:=up _ hbl' _ _ d2;have i3:=up _ hbl' _ _ d3;have i4:=up _ hbl' _ _ d4;have hbr:b'<wr.heap.size:=Nat.lt_of_lt_of_le hbl' HB.out.size;have hbn:¬ wr.heap.size=b':=by omega
   have hbn2:¬ b'=wr.heap.size:=by omega
   have HSZ:=hid HB.out.size;clear up c0 c1 c2 c3 c4 d0 d1 d2 d3 d4 e1 e2 e3 e4 e5 f1 f2 f3 f4 f5 hp hx hy hbl hbl' hm hq hq2;go_wp2_with (go_at_call 59;refine (Ew _ _ _ _ _ _ m _ _ p.2.list _ ((E5.out.below (HB.out.alloc HSZ.out _)).alloc _) ((F5.out.below (HB.out.alloc HSZ.out _)).alloc _) HQ.out).mono ?_;rintro r w3 ⟨rfl,hb3⟩;have HB3:=hid hb3;clear hb3)
   go_roundw
   ·refine ⟨k+1,by omega,by simp,((HB.out.alloc HSZ.out _).alloc (by simp;have:=HSZ.out;omega) _).trans (HB3.out.mono (by simp;have:=HSZ.out;omega))⟩
   ·simp [intOf];omega
  ·have b1:decide ((k:Int)<(n:Int))=false:=by simp;omega
   go_wp2;go_ret;exact ⟨rfl,HB.out⟩
theorem Ev (v v':Value) (z:List (ByteArray×Cel)) (w:World) (h:bS w v z) (h':bS w v' z) (hz:z.length≤1000000) (hzl:∀ p∈z,p.2.list.length≤1000000) :
 Calls Tryz.prog 33 #[v,v'] w fun e w'=>e=.returned (.bool true)∧Below w.heap.size w w':=by
 have HH:=hid h;have HH':=hid h';have HZ:=hid hz;have HZL:=hid hzl;clear h h' hz hzl;go_enter Tryz.func33,Tryz.ntmps33
 go_wp2_with (go_at_call 58;refine (zQ v v' z _ HH.out HH'.out HZ.out HZL.out).mono ?_;rintro r w3 ⟨rfl,hb3⟩;have HB3:=hid hb3;clear hb3)
 go_ret;exact ⟨rfl,HB3.out⟩
end
