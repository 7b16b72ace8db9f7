import Derived.Test.YtifbebhgeheooaaGreatDoorKl07
namespace Go.Proofs.YtifbebhgeheooaaGreatDoor
structure LogS where
 rep:Int
 hv:List Ent
 ws:List Wr
structure LogOk (s:LogS):Prop where
 rep:0≤s.rep∧s.rep≤200
 hv:rightV s.hv
 srt:s.ws.Pairwise late
 mem:∀ x∈s.ws,wE x=0∧x.time≤ofF s.hv x.rep
 len:s.ws.length≤300
theorem log_new {r:Int} (h:0≤r∧r≤200):LogOk ⟨r,[],[]⟩:=⟨h,⟨by simp,trivial⟩,List.Pairwise.nil,fun x hx=>(by cases hx),by simp⟩
theorem wE_id {x:Wr} (h:wE x=0):1≤x.time∧x.time≤1099511627776∧0≤x.rep∧x.rep≤200:=by
 have h2:=(wriE_good (show wriE x.time x.rep x.kind x.key x.value x.n=0 from h)).2.1
 simpa [idOk] using h2
theorem late_lt {a b:Wr}:late a b↔a.time < b.time∨a.time=b.time∧a.rep < b.rep:=by
 rw [late_iff]
 unfold wid
 rw [cI_val]
 split
 · simp;assumption
 · split
   · simp;omega
   · simp;omega
theorem late_total {a b:Wr} (h:wid a≠wid b):late a b∨late b a:=by
 rw [late_lt,late_lt]
 unfold wid at h
 have:¬ (a.time=b.time∧a.rep=b.rep):=fun e=>h (by rw [e.1,e.2])
 omega
theorem late_ne {a b:Wr} (h:late a b):wid a≠wid b:=fun e=>by
 rw [late_lt] at h
 unfold wid at e
 simp only [Prod.mk.injEq] at e
 omega
theorem late_ext {x y:List Wr} (hx:x.Pairwise late) (hy:y.Pairwise late) (h:∀ c,c∈x↔c∈y):x=y:=by
 have nx:x.Nodup:=hx.imp (fun {a b} h (e:a=b)=>late_ne h (by rw [e]))
 have ny:y.Nodup:=hy.imp (fun {a b} h (e:a=b)=>late_ne h (by rw [e]))
 refine List.Perm.eq_of_pairwise (le:=late) ?_ hx hy ((List.perm_ext_iff_of_nodup nx ny).2 h)
 intro a b _ _ h1 h2
 exact absurd (late_trans h1 h2) (late_self a)
theorem late_ids {l:List Wr} (h:l.Pairwise late) {a b:Wr} (ha:a∈l) (hb:b∈l) (e:wid a=wid b):a=b:=by
 induction l with
 | nil=>cases ha
 | cons c r ih =>
   rw [List.pairwise_cons] at h
   rcases List.mem_cons.1 ha with ea | ha'
   · rcases List.mem_cons.1 hb with eb | hb'
     · rw [ea,eb]
     · exact absurd e (late_ne (by rw [ea];exact h.1 b hb'))
   · rcases List.mem_cons.1 hb with eb | hb'
     · exact absurd e.symm (late_ne (by rw [eb];exact h.1 a ha'))
     · exact ih h.2 ha' hb'
def leW (a b:Wr):Bool:=decide (a.time < b.time∨a.time=b.time∧a.rep≤b.rep)
def sortW (l:List Wr):List Wr:=l.mergeSort leW
theorem leW_trans (a b c:Wr) (h:leW a b=true) (k:leW b c=true):leW a c=true:=by
 unfold leW at *;simp only [decide_eq_true_eq] at *;omega
theorem leW_total (a b:Wr):(leW a b || leW b a)=true:=by
 unfold leW;simp only [Bool.or_eq_true,decide_eq_true_eq];omega
theorem sortW_perm (l:List Wr):(sortW l).Perm l:=List.mergeSort_perm _ _
theorem sortW_mem {l:List Wr} {x:Wr}:x∈sortW l↔x∈l:=(sortW_perm l).mem_iff
theorem sortW_len (l:List Wr):(sortW l).length=l.length:=(sortW_perm l).length_eq
def idsOk (l:List Wr):Prop:=l.Pairwise (fun a b=>wid a≠wid b)
theorem sortW_late {l:List Wr} (h:idsOk l):(sortW l).Pairwise late:=by
 have h1:(sortW l).Pairwise (fun a b=>leW a b=true):=List.pairwise_mergeSort leW_trans leW_total _
 have h2:(sortW l).Pairwise (fun a b=>wid a≠wid b):=(sortW_perm l).symm.pairwise h (fun h e=>h e.symm)
 refine (h1.and h2).imp ?_
 rintro a b ⟨h1,h2⟩
 rw [late_lt]
 unfold leW at h1
 unfold wid at h2
 simp only [decide_eq_true_eq] at h1
 have:¬ (a.time=b.time∧a.rep=b.rep):=fun e=>h2 (by rw [e.1,e.2])
 omega
theorem late_idsOk {l:List Wr} (h:l.Pairwise late):idsOk l:=h.imp late_ne
def sinceW (s:LogS) (f:List Ent):List Wr:=s.ws.filter (fun x=>decide (ofF f x.rep < x.time))
def topT (f:List Ent) (l:List Wr) (r:Int):Int:=l.foldl (fun a w=>if w.rep=r then max a w.time else a) (ofF f r)
def sinceB (s:LogS) (f:List Ent):List Wr:=if (sinceW s f).length≤60 then sinceW s f else (sinceW s f).take 60
def sinceH (s:LogS) (f:List Ent):List Ent:=if (sinceW s f).length≤60 then s.hv else tab (fun r=>topT f ((sinceW s f).take 60) (r:Int)) 201
def sinceE (s:LogS) (f:List Ent):Nat:=if (vrightF f).1≠0 then (vrightF f).1 else if covB s.hv f=false then 13 else 0
theorem topT_ge (r:Int) (l:List Wr):∀ a,a≤l.foldl (fun a w=>if w.rep=r then max a w.time else a) a∧∀ x∈l,x.rep=r→x.time≤l.foldl (fun a w=>if w.rep=r then max a w.time else a) a:=by
 induction l with
 | nil=>intro a;exact ⟨Int.le_refl _,fun x h=>(by cases h)⟩
 | cons w l ih =>
   intro a
   rw [List.foldl_cons]
   obtain ⟨h1,h2⟩:=ih (if w.rep=r then max a w.time else a)
   refine ⟨Int.le_trans ?_ h1,fun x hx hr=>?_⟩
   · split <;> omega
   · rcases List.mem_cons.1 hx with rfl | hx
     · refine Int.le_trans ?_ h1
       rw [if_pos hr];omega
     · exact h2 x hx hr
theorem topT_is (r:Int) (l:List Wr):∀ a,l.foldl (fun a w=>if w.rep=r then max a w.time else a) a=a∨∃ x∈l,x.rep=r∧l.foldl (fun a w=>if w.rep=r then max a w.time else a) a=x.time:=by
 induction l with
 | nil=>intro a;exact .inl rfl
 | cons w l ih =>
   intro a
   rw [List.foldl_cons]
   rcases ih (if w.rep=r then max a w.time else a) with h | ⟨x,hx,hr,h⟩
   · rw [h]
     split
     · rename_i hw
       rcases Int.le_total a w.time with h2 | h2
       · exact .inr ⟨w,List.mem_cons_self,hw,by omega⟩
       · exact .inl (by omega)
     · exact .inl rfl
   · exact .inr ⟨x,List.mem_cons_of_mem _ hx,hr,h⟩
theorem sinceW_mem {s:LogS} {f:List Ent} {x:Wr}:x∈sinceW s f↔x∈s.ws∧ofF f x.rep < x.time:=by
 unfold sinceW;rw [List.mem_filter];simp
theorem sinceW_late {s:LogS} (h:LogOk s) (f:List Ent):(sinceW s f).Pairwise late:=h.srt.filter _
theorem sinceB_len (s:LogS) (f:List Ent):(sinceB s f).length≤60:=by
 unfold sinceB
 split
 · assumption
 · rw [List.length_take];omega
theorem sinceB_sub (s:LogS) (f:List Ent):(sinceB s f).Sublist (sinceW s f):=by
 unfold sinceB
 split
 · exact List.Sublist.refl _
 · exact List.take_sublist _ _
structure SinceOk (s:LogS) (f h:List Ent) (b:List Wr):Prop where
 right:rightV h
 lo:∀ r,ofF f r≤ofF h r
 hi:∀ r,ofF h r≤ofF s.hv r
 mem:∀ x,x∈b↔x∈s.ws∧ofF f x.rep < x.time∧x.time≤ofF h x.rep
 srt:b.Pairwise late
 len:b.length≤60
 full:b.length=60∨h=s.hv
theorem since_ok {s:LogS} (hs:LogOk s) {f:List Ent} (hf:rightV f) (hc:covB s.hv f=true):SinceOk s f (sinceH s f) (sinceB s f):=by
 have hcv:=(covB_iff hs.hv hf).1 hc
 by_cases hl:(sinceW s f).length≤60
 · have eB:sinceB s f=sinceW s f:=by unfold sinceB;rw [if_pos hl]
   have eH:sinceH s f=s.hv:=by unfold sinceH;rw [if_pos hl]
   rw [eB,eH]
   refine ⟨hs.hv,hcv,fun _=>Int.le_refl _,fun x=>?_,sinceW_late hs f,hl,.inr rfl⟩
   rw [sinceW_mem]
   exact ⟨fun h=>⟨h.1,h.2,(hs.mem x h.1).2⟩,fun h=>⟨h.1,h.2.1⟩⟩
 · have eB:sinceB s f=(sinceW s f).take 60:=by unfold sinceB;rw [if_neg hl]
   have eH:sinceH s f=tab (fun r=>topT f ((sinceW s f).take 60) (r:Int)) 201:=by unfold sinceH;rw [if_neg hl]
   rw [eB,eH]
   obtain ⟨t,ht⟩:∃ t,t=(sinceW s f).take 60:=⟨_,rfl⟩
   have htl:t.length=60:=by rw [ht,List.length_take];omega
   have hts:t.Sublist (sinceW s f):=by rw [ht];exact List.take_sublist _ _
   have hmt:∀ x∈t,x∈s.ws∧ofF f x.rep < x.time:=fun x hx=>sinceW_mem.1 (hts.subset hx)
   have hpre:∀ x∈sinceW s f,∀ y∈t,late x y→x∈t:=by
     intro x hx y hy hxy
     have e:sinceW s f=t ++ (sinceW s f).drop 60:=by rw [ht,List.take_append_drop]
     have hp:=sinceW_late hs f
     rw [e,List.pairwise_append] at hp
     rw [e] at hx
     rcases List.mem_append.1 hx with h | h
     · exact h
     · exact absurd (late_trans hxy (hp.2.2 y hy x h)) (late_self x)
   rw [←ht]
   have hT:∀ r:Int,ofF f r≤topT f t r∧topT f t r≤ofF s.hv r:=by
     intro r
     refine ⟨(topT_ge r t _).1,?_⟩
     rcases topT_is r t (ofF f r) with h | ⟨x,hx,hr,h⟩
     · unfold topT;rw [h];exact hcv r
     · unfold topT;rw [h,←hr];exact (hs.mem x (hmt x hx).1).2
   have hof:∀ r,ofF (tab (fun r=>topT f t (r:Int)) 201) r=if 0≤r∧r≤200 then topT f t r else 0:=by
     intro r
     rw [ofF_tab]
     have h1:=hT r
     have h2:=ofF_bd hf.2 r
     by_cases hr:0≤r∧r≤200
     · have e:(r.toNat:Int)=r:=by omega
       rw [if_pos hr,e]
       split
       · rfl
       · omega
     · rw [if_neg hr,if_neg (by omega)]
   have hout:∀ r,¬ (0≤r∧r≤200)→ofF f r=0∧ofF s.hv r=0:=fun r hr=>⟨ofF_out hf.2 (by omega),ofF_out hs.hv.2 (by omega)⟩
   have hov:=tab_okV (f:=fun r=>topT f t (r:Int)) (fun r=>Int.le_trans (hT r).2 (ofF_bd hs.hv.2 _).2) (Nat.le_refl 201)
   have hhi:∀ r,ofF (tab (fun r=>topT f t (r:Int)) 201) r≤ofF s.hv r:=by
     intro r
     rw [hof]
     split
     · exact (hT r).2
     · rename_i hr;rw [(hout r hr).2];exact Int.le_refl _
   refine ⟨⟨?_,hov⟩,fun r=>?_,hhi,fun x=>?_,(sinceW_late hs f).sublist hts,by omega,.inl htl⟩
   · have hsub : ∀ e ∈ tab (fun r => topT f t (r : Int)) 201, ∃ d ∈ s.hv, d.rep = e.rep := by
       intro e he
       have h1:=ofF_mem hov he
       have h2:=okV_mem hov e he
       have h3:=hhi e.rep
       obtain ⟨d,hd,h4,_⟩:=ofF_has (l:=s.hv) (x:=e.rep) (by omega)
       exact ⟨d,hd,h4⟩
     have hnd:∀ {l:List Ent} {a:Int},okV a l→(l.map (·.rep)).Nodup:=by
       intro l
       induction l with
       | nil=>intro a _;exact List.nodup_nil
       | cons e r ih =>
         intro a h
         rw [List.map_cons,List.nodup_cons]
         refine ⟨fun hm=>?_,ih h.2⟩
         obtain ⟨d,hd,he⟩:=List.mem_map.1 hm
         have:=okV_mem h.2 d hd
         omega
     have h5:=(hnd hov).length_le_of_subset (l₂:=s.hv.map (·.rep)) (fun r hr=>by
       obtain ⟨e,he,rfl⟩:=List.mem_map.1 hr
       obtain ⟨d,hd,h6⟩:=hsub e he
       exact List.mem_map.2 ⟨d,hd,h6⟩)
     rw [List.length_map,List.length_map] at h5
     exact Nat.le_trans h5 hs.hv.1
   · rw [hof]
     split
     · exact (hT r).1
     · rename_i hr;rw [(hout r hr).1];exact Int.le_refl _
   · constructor
     · intro hx
       obtain ⟨h1,h2⟩:=hmt x hx
       have h3:=wE_id (hs.mem x h1).1
       refine ⟨h1,h2,?_⟩
       rw [hof,if_pos ⟨h3.2.2.1,h3.2.2.2⟩]
       exact (topT_ge x.rep t _).2 x hx rfl
     · rintro ⟨h1,h2,h3⟩
       have h4:=wE_id (hs.mem x h1).1
       rw [hof,if_pos ⟨h4.2.2.1,h4.2.2.2⟩] at h3
       have hxs:x∈sinceW s f:=sinceW_mem.2 ⟨h1,h2⟩
       rcases topT_is x.rep t (ofF f x.rep) with h | ⟨y,hy,hr,h⟩
       · unfold topT at h3;rw [h] at h3;omega
       · unfold topT at h3
         rw [h] at h3
         by_cases e:x.time=y.time
         · have:x=y:=late_ids hs.srt h1 (hmt y hy).1 (by unfold wid;rw [e,hr])
           rw [this];exact hy
         · exact hpre x hxs y hy (late_lt.2 (.inl (by omega)))
theorem since_right {s:LogS} (hs:LogOk s) {f h:List Ent} {b:List Wr} (hf:rightV f) (ho:SinceOk s f h b):rightB f h b:=by
 rw [rightB_iff]
 refine ⟨⟨hf,ho.right,(covB_iff ho.right hf).2 ho.lo⟩,ho.len,fun x hx=>?_,ho.srt⟩
 obtain ⟨h1,h2,h3⟩:=(ho.mem x).1 hx
 refine ⟨(hs.mem x h1).1,?_⟩
 unfold wiF wid
 simp [h2,h3]
end Go.Proofs.YtifbebhgeheooaaGreatDoor
namespace Go.Proofs.YtifbebhgeheooaaGreatDoor
open Go.RowKit Go.Extern.Stop Go.Stop Go.Extern
def errT (w:World):Prop:=w.cell? ⟨0,0,none⟩=some (.iface 182 (.agg #[.pointer (some ⟨5,28,none⟩)]))
def asWorld (w:World) (t:Addr):World :=
 ((w.alloc (.cells #[.pointer (some t)] 95)).alloc (.cells #[.pointer (some ⟨5,95,none⟩),.pointer (some ⟨w.heap.size,0,none⟩),.int .u64 150] 141)).alloc (.cells #[.pointer (some ⟨5,95,none⟩),.pointer (some ⟨w.heap.size,0,none⟩),.int .u64 150] 141)
theorem lt_of_cell {w:World} {a:Addr} {v:Value} (h:w.cell? a=some v):a.block < w.heap.size:=by
 rcases Nat.lt_or_ge a.block w.heap.size with h' | h'
 · exact h'
 · simp [World.cell?,Array.getElem?_eq_none h'] at h
set_option maxRecDepth 100000 in
set_option maxHeartbeats 4000000 in
theorem as_errno (e:Int) (t:Addr) (old:Value) (w:World) (hg:errT w) (ht0:w.cell? t=some old) (hf0:w.frozen? t=false) :
   Calls Tryz.prog 46 #[.iface 42 (.int .i64 e),.iface 95 (.pointer (some t))] w fun ev w'=>ev=.returned (.bool true)∧((asWorld w t).alloc (.cells #[.int .i64 e] 42)).setCell t (.int .i64 e)=w':=by
 unfold asWorld
 unfold errT at hg
 have h6:=@run_callFunc_extern Tryz.prog 87 _ (fun args=>ReflectliteValue.unpack (args.getD 0 (.tuple #[]))) Tryz.func87 (by kernel_rfl) (by kernel_rfl) (by kernel_rfl) (by kernel_rfl)
 have h7 := @run_callFunc_extern Tryz.prog 88 _ (ReflectliteValue.methodAny (ReflectliteValue.valueError "reflectlite.Value.Type" 0) (fun t _ _ _ => ReflectliteType.toType t)) Tryz.func88 (by kernel_rfl) (by kernel_rfl) (by kernel_rfl) (by kernel_rfl)
 have h8 := @run_callFunc_extern Tryz.prog 89 _ (ReflectliteValue.method (ReflectliteValue.valueError "reflectlite.Value.IsNil" 0) ReflectliteValue.isNil) Tryz.func89 (by kernel_rfl) (by kernel_rfl) (by kernel_rfl) (by kernel_rfl)
 have h27:=@run_callFunc_extern Tryz.prog 220 _ (ReflectliteType.abiMethod fun t=>do pure (.int .u8 (←Rtype.kind t))) Tryz.func220 (by kernel_rfl) (by kernel_rfl) (by kernel_rfl) (by kernel_rfl)
 have h37:=@run_callFunc_extern Tryz.prog 233 _ (ReflectliteType.method ReflectliteType.elem) Tryz.func233 (by kernel_rfl) (by kernel_rfl) (by kernel_rfl) (by kernel_rfl)
 have h38 := @run_callFunc_extern Tryz.prog 234 _ (ReflectliteType.relation "Implements" ReflectliteType.implements_) Tryz.func234 (by kernel_rfl) (by kernel_rfl) (by kernel_rfl) (by kernel_rfl)
 have h10:=@run_callFunc_extern Tryz.prog 117 _ ReflectliteType.typeOf Tryz.func117 (by kernel_rfl) (by kernel_rfl) (by kernel_rfl) (by kernel_rfl)
 have h35 := @run_callFunc_extern Tryz.prog 231 _ (ReflectliteType.relation "AssignableTo" ReflectliteType.assignableTo) Tryz.func231 (by kernel_rfl) (by kernel_rfl) (by kernel_rfl) (by kernel_rfl)
 have h11 := @run_callFunc_extern Tryz.prog 118 _ (ReflectliteValue.method (ReflectliteValue.valueError "reflectlite.Value.Elem" 0) ReflectliteValue.elem) Tryz.func118 (by kernel_rfl) (by kernel_rfl) (by kernel_rfl) (by kernel_rfl)
 have h12:=@run_callFunc_extern Tryz.prog 119 _ ReflectliteValue.set Tryz.func119 (by kernel_rfl) (by kernel_rfl) (by kernel_rfl) (by kernel_rfl)
 have tO:=As.typeOfE
 have mA:=As.methodAssignableTo
 have aE:=As.assignableE
 have vE:=As.valueOfE
 have f6:=As.valueOfP
 have f7:=As.typeP
 have mK:=As.methodKind
 have mE:=As.methodElem
 have mI:=As.methodImplements
 have kP:=As.kindP
 have kE:=As.kindE
 have eP:=As.elemP
 have iE:=As.implementsE
 have htl:=lt_of_cell ht0
 have hlt:0 < w.heap.size:=lt_of_cell hg
 have n8:=As.isNilP ⟨w.heap.size,0,none⟩ t ((w.alloc (.cells #[.pointer (some t)] 95)).alloc (.cells #[.pointer (some ⟨5,95,none⟩),.pointer (some ⟨w.heap.size,0,none⟩),.int .u64 150] 141)) (by simp)
 have hg2:((w.alloc (.cells #[.pointer (some t)] 95)).alloc (.cells #[.pointer (some ⟨5,95,none⟩),.pointer (some ⟨w.heap.size,0,none⟩),.int .u64 150] 141)).cell? ⟨0,0,none⟩=some (.iface 182 (.agg #[.pointer (some ⟨5,28,none⟩)])):=by
   rw [World.cell?_alloc_lt _ _ ⟨0,0,none⟩ (by simp only [World.size_alloc];omega),World.cell?_alloc_lt _ _ ⟨0,0,none⟩ hlt];exact hg
 have el:=As.elemVP ⟨w.heap.size,0,none⟩ t (((w.alloc (.cells #[.pointer (some t)] 95)).alloc (.cells #[.pointer (some ⟨5,95,none⟩),.pointer (some ⟨w.heap.size,0,none⟩),.int .u64 150] 141)).alloc (.cells #[.pointer (some ⟨5,95,none⟩),.pointer (some ⟨w.heap.size,0,none⟩),.int .u64 150] 141)) (by rw [World.cell?_alloc_lt _ _ ⟨w.heap.size,0,none⟩ (by simp;omega)];simp)
 have st:=As.setE t ⟨w.heap.size + 1 + 1 + 1,0,none⟩ e old ((((w.alloc (.cells #[.pointer (some t)] 95)).alloc (.cells #[.pointer (some ⟨5,95,none⟩),.pointer (some ⟨w.heap.size,0,none⟩),.int .u64 150] 141)).alloc (.cells #[.pointer (some ⟨5,95,none⟩),.pointer (some ⟨w.heap.size,0,none⟩),.int .u64 150] 141)).alloc (.cells #[.int .i64 e] 42))
   (by rw [World.cell?_alloc_at _ _ _ _ (by simp)];rfl)
   (by rw [World.cell?_alloc_lt _ _ t (by simp;omega),World.cell?_alloc_lt _ _ t (by simp;omega),World.cell?_alloc_lt _ _ t (by simp;omega),World.cell?_alloc_lt _ _ t htl];exact ht0)
   (by rw [World.frozen?_alloc_old _ _ t (by simp;omega),World.frozen?_alloc_old _ _ t (by simp;omega),World.frozen?_alloc_old _ _ t (by simp;omega),World.frozen?_alloc_old _ _ t (Nat.ne_of_lt htl)];exact hf0)
 go_enter Tryz.func46,Tryz.ntmps46
 go_wp2
 refine wp_loop_rounds 1 ?_
 rw [rounds_succ]
 go_wp2
 go_ret
 exact ⟨rfl,rfl⟩
end Go.Proofs.YtifbebhgeheooaaGreatDoor
namespace Go.Proofs.YtifbebhgeheooaaGreatDoor
open Go.RowKit
def sameV (f h:List Ent) (l:List Wr) (f2 h2:List Ent) (l2:List Wr):Bool:=decide (f=f2) && decide (h=h2) && decide (l=l2)
theorem sameV_self (f h:List Ent) (l:List Wr):sameV f h l f h l=true:=by simp [sameV]
def bat2 (w:World) (B:Nat) (a b c d e g:Value):Prop :=
 w.cell? ⟨B,0,none⟩=some a∧w.cell? ⟨B,1,none⟩=some b∧w.cell? ⟨B,2,none⟩=some c∧w.cell? ⟨B + 1,0,none⟩=some d∧w.cell? ⟨B + 1,1,none⟩=some e∧w.cell? ⟨B + 1,2,none⟩=some g
theorem bat2_new (w:World) (a b c d e g:Value) (t u:TypeId):bat2 ((w.alloc (.cells #[a,b,c] t)).alloc (.cells #[d,e,g] u)) w.heap.size a b c d e g:=by
 unfold bat2;simp
theorem bat2.drewN {w:World} {B:Nat} {a b c d e g:Value} (h:bat2 w B a b c d e g) (n:Nat):bat2 (w.drewN n) B a b c d e g:=h
theorem bat2.below {w w':World} {B:Nat} {a b c d e g:Value} {m:Nat} (h:bat2 w B a b c d e g) (hb:Below m w w') (hm:B + 1 < m):bat2 w' B a b c d e g :=
 ⟨(hb.cell (Nat.lt_of_succ_lt hm)).trans h.1,(hb.cell (Nat.lt_of_succ_lt hm)).trans h.2.1,(hb.cell (Nat.lt_of_succ_lt hm)).trans h.2.2.1,(hb.cell hm).trans h.2.2.2.1,(hb.cell hm).trans h.2.2.2.2.1,(hb.cell hm).trans h.2.2.2.2.2⟩
end Go.Proofs.YtifbebhgeheooaaGreatDoor
namespace Go.Proofs.YtifbebhgeheooaaGreatDoor
def maxT (l:List Ent):Int:=l.foldl (fun a e=>max a e.time) 0
theorem maxT_from (l:List Ent):∀ a:Int,a≤l.foldl (fun a e=>max a e.time) a∧∀ e∈l,e.time≤l.foldl (fun a e=>max a e.time) a:=by
 induction l with
 | nil=>intro a;exact ⟨Int.le_refl _,fun e h=>(by cases h)⟩
 | cons d r ih =>
   intro a
   rw [List.foldl_cons]
   obtain ⟨h1,h2⟩:=ih (max a d.time)
   refine ⟨by omega,fun e he=>?_⟩
   rcases List.mem_cons.1 he with rfl | he
   · omega
   · exact h2 e he
theorem maxT_pos (l:List Ent):0≤maxT l:=(maxT_from l 0).1
theorem ofF_maxT (l:List Ent) (r:Int):ofF l r≤maxT l:=by
 by_cases h:ofF l r=0
 · have:=maxT_pos l;omega
 · obtain ⟨e,he,_,h2⟩:=ofF_has h
   have:=(maxT_from l 0).2 e he
   unfold maxT
   omega
def lcW (s:LogS) (w:Wr):Wr:={ w with time:=maxT s.hv + 1,rep:=s.rep }
def lcJ (s:LogS):Nat×List Ent:=joinR s.hv [⟨s.rep,maxT s.hv + 1⟩]
def lcE (s:LogS) (w:Wr):Nat:=if 1099511627776≤maxT s.hv then 4 else if wE (lcW s w)≠0 then wE (lcW s w) else if 300≤s.ws.length then 12 else (lcJ s).1
def lcS (s:LogS) (w:Wr):LogS:=⟨s.rep,(lcJ s).2,s.ws ++ [lcW s w]⟩
theorem lcE_ok {s:LogS} {w:Wr} (h:lcE s w=0):maxT s.hv < 1099511627776∧wE (lcW s w)=0∧s.ws.length < 300∧(lcJ s).1=0:=by
 unfold lcE at h
 split at h
 · cases h
 · split at h
   · rename_i h2;exact absurd h h2
   · split at h
     · cases h
     · rename_i h1 h2 h3;exact ⟨by omega,by simpa using h2,by omega,h⟩
theorem joinR_right {a b:List Ent} (h:(joinR a b).1=0):rightV a∧rightV b∧rightV (joinR a b).2∧∀ r,ofF (joinR a b).2 r=max (ofF a r) (ofF b r):=by
 by_cases h1:(vrightF a).1=0
 · by_cases h2:(vrightF b).1=0
   · by_cases h3:16 < (joinL a b).length
     · rw [joinR_many h1 h2 h3] at h;cases h
     · rw [joinR_ok h1 h2 h3]
       have ra:=(vright_ok a).1 h1
       have rb:=(vright_ok b).1 h2
       exact ⟨ra,rb,⟨(by show (joinL a b).length≤16;omega),join_okV ra.2 rb.2⟩,join_of ra.2 rb.2⟩
   · rw [joinR_b h1 h2] at h;exact absurd h h2
 · rw [joinR_a h1] at h;exact absurd h h1
theorem ofF_one (r t x:Int):ofF [⟨r,t⟩] x=if r=x then t else 0:=by
 by_cases h:r=x
 · rw [ofF_at h,if_pos h]
 · rw [ofF_on h,if_neg h];rfl
theorem lcJ_of {s:LogS} (hs:LogOk s) (h:(lcJ s).1=0) (x:Int):ofF (lcJ s).2 x=if s.rep=x then maxT s.hv + 1 else ofF s.hv x:=by
 have h1:=(joinR_right h).2.2.2 x
 unfold lcJ
 rw [h1,ofF_one]
 have h2:=ofF_maxT s.hv x
 have h3:=ofF_bd hs.hv.2 x
 split <;> omega
theorem local_ok {s:LogS} (hs:LogOk s) {w:Wr} (h:lcE s w=0):LogOk (lcS s w):=by
 obtain ⟨h1,h2,h3,h4⟩:=lcE_ok h
 refine ⟨hs.rep,(joinR_right h4).2.2.1,?_,fun x hx=>?_,?_⟩
 · show (s.ws ++ [lcW s w]).Pairwise late
   rw [List.pairwise_append]
   refine ⟨hs.srt,List.pairwise_singleton _ _,fun a ha b hb=>?_⟩
   obtain rfl:=List.mem_singleton.1 hb
   have h5:=(hs.mem a ha).2
   have h6:=ofF_maxT s.hv a.rep
   exact late_lt.2 (.inl (by show a.time < maxT s.hv + 1;omega))
 · have hx':x∈s.ws ++ [lcW s w]:=hx
   show wE x=0∧x.time≤ofF (lcJ s).2 x.rep
   rw [lcJ_of hs h4]
   rcases List.mem_append.1 hx' with hx | hx
   · obtain ⟨g1,g2⟩:=hs.mem x hx
     refine ⟨g1,?_⟩
     have h6:=ofF_maxT s.hv x.rep
     split <;> omega
   · obtain rfl:=List.mem_singleton.1 hx
     refine ⟨h2,?_⟩
     rw [if_pos (show s.rep=(lcW s w).rep from rfl)]
     exact Int.le_refl _
 · show (s.ws ++ [lcW s w]).length≤300
   rw [List.length_append];simp;omega
def clash (ws:List Wr) (x:Wr):Prop:=∃ y∈ws,wid y=wid x∧y≠x
open Classical in
noncomputable def twA (ws:List Wr):List Wr→Nat→Option Nat
 | [],_=>none
 | x :: r,i=>if clash ws x then some i else twA ws r (i + 1)
def freshW (ws b:List Wr):List Wr:=b.filter (fun x=>!ws.any (fun y=>decide (wid y=wid x)))
noncomputable def accE (s:LogS) (f h:List Ent) (b:List Wr):Nat×Int :=
 if (batF f h b).1≠0 then batF f h b else if covB s.hv f=false then (10,-1) else if (joinR s.hv h).1≠0 then ((joinR s.hv h).1,-1) else
   match twA s.ws b 0 with
   | some i=>(9,(i:Int))
   | none=>if 300 < s.ws.length + (freshW s.ws b).length then (12,-1) else (0,-1)
def accS (s:LogS) (h:List Ent) (b:List Wr):LogS:=⟨s.rep,(joinR s.hv h).2,sortW (s.ws ++ freshW s.ws b)⟩
theorem twA_none {ws:List Wr} (b:List Wr):∀ i,twA ws b i=none↔∀ x∈b,¬ clash ws x:=by
 induction b with
 | nil=>intro i;exact ⟨fun _ x h=>(by cases h),fun _=>rfl⟩
 | cons x r ih =>
   intro i
   rw [twA]
   by_cases h:clash ws x
   · rw [if_pos h]
     exact ⟨fun e=>(by cases e),fun k=>absurd h (k x List.mem_cons_self)⟩
   · rw [if_neg h,ih]
     exact ⟨fun k y hy=>by
       rcases List.mem_cons.1 hy with rfl | hy
       · exact h
       · exact k y hy,fun k y hy=>k y (List.mem_cons_of_mem _ hy)⟩
theorem freshW_mem {ws b:List Wr} {x:Wr}:x∈freshW ws b↔x∈b∧∀ y∈ws,wid y≠wid x:=by
 unfold freshW
 rw [List.mem_filter]
 simp
theorem accE_ok {s:LogS} {f h:List Ent} {b:List Wr} (ha:(accE s f h b).1=0):rightB f h b∧covB s.hv f=true∧(joinR s.hv h).1=0∧(∀ x∈b,¬ clash s.ws x)∧s.ws.length + (freshW s.ws b).length≤300:=by
 unfold accE at ha
 split at ha
 · rename_i h1;exact absurd ha h1
 · rename_i h1
   split at ha
   · simp at ha
   · rename_i h2
     split at ha
     · rename_i h3;exact absurd ha h3
     · rename_i h3
       split at ha
       · simp at ha
       · rename_i h4
         split at ha
         · simp at ha
         · rename_i h5
           exact ⟨by unfold rightB;simpa using h1,by simpa using h2,by simpa using h3,(twA_none b 0).1 h4,by omega⟩
theorem accept_ok {s:LogS} (hs:LogOk s) {f h:List Ent} {b:List Wr} (ha:(accE s f h b).1=0):LogOk (accS s h b):=by
 obtain ⟨h1,_,h3,_,h5⟩:=accE_ok ha
 obtain ⟨_,_,hr,hj⟩:=joinR_right h3
 have hb:=(rightB_iff.1 h1).2.2
 refine ⟨hs.rep,hr,?_,fun x hx=>?_,?_⟩
 · refine sortW_late ?_
   show (s.ws ++ freshW s.ws b).Pairwise _
   rw [List.pairwise_append]
   exact ⟨late_idsOk hs.srt,late_idsOk (hb.2.filter _),fun a ha c hc=>(freshW_mem.1 hc).2 a ha⟩
 · have hx':x∈s.ws ++ freshW s.ws b:=sortW_mem.1 hx
   show wE x=0∧x.time≤ofF (joinR s.hv h).2 x.rep
   rw [hj]
   rcases List.mem_append.1 hx' with hx | hx
   · obtain ⟨g1,g2⟩:=hs.mem x hx
     exact ⟨g1,by omega⟩
   · obtain ⟨g1,g2⟩:=hb.1 x (freshW_mem.1 hx).1
     refine ⟨g1,?_⟩
     unfold wiF wid at g2
     simp only [Bool.and_eq_true,decide_eq_true_eq] at g2
     omega
 · show (sortW (s.ws ++ freshW s.ws b)).length≤300
   rw [sortW_len,List.length_append];exact h5
theorem send_ok {s t:LogS} (hs:LogOk s) (ht:LogOk t) {h:List Ent} {b:List Wr} (ho:SinceOk s t.hv h b) :
   (∀ x∈b,¬ clash t.ws x)∧freshW t.ws b=b∧joinR t.hv h=(0,h)∧accE t t.hv h b=if 300 < t.ws.length + b.length then (12,-1) else (0,-1):=by
 have hne:∀ x∈b,∀ y∈t.ws,wid y≠wid x:=by
   intro x hx y hy e
   have h1:=(ho.mem x).1 hx
   have h2:=(ht.mem y hy).2
   unfold wid at e
   simp only [Prod.mk.injEq] at e
   rw [e.2] at h2
   omega
 have h1:∀ x∈b,¬ clash t.ws x:=fun x hx ⟨y,hy,e,_⟩=>hne x hx y hy e
 have h2:freshW t.ws b=b:=by
   unfold freshW
   rw [List.filter_eq_self]
   intro x hx
   simpa using fun y hy=>hne x hx y hy
 have hj:joinL t.hv h=h:=ok_ext (join_okV ht.hv.2 ho.right.2) ho.right.2 (fun r=>by rw [join_of ht.hv.2 ho.right.2];have:=ho.lo r;omega)
 have h3:joinR t.hv h=(0,h):=by
   rw [joinR_ok ((vright_ok _).2 ht.hv) ((vright_ok _).2 ho.right) (by rw [hj];have:=ho.right.1;omega),hj]
 refine ⟨h1,h2,h3,?_⟩
 have h4:(batF t.hv h b).1=0:=since_right hs ht.hv ho
 unfold accE
 rw [if_neg (by rw [h4];simp),if_neg (by rw [(covB_iff ht.hv ht.hv).2 (fun _=>Int.le_refl _)];simp),h3,if_neg (by simp),(twA_none b 0).2 h1,h2]
structure Party (U:List Wr) (L:List LogS):Prop where
 ids:∀ x∈U,∀ y∈U,wid x=wid y→x=y
 ok:∀ s∈L,LogOk s
 rep:∀ (i:Nat) s,L[i]? = some s→s.rep=i
 own:∀ (i:Nat) s,L[i]? = some s→∀ x∈U,x.rep=i→x.time≤ofF s.hv i
 cov:∀ (i:Nat) s,L[i]? = some s→∀ t∈L,ofF t.hv i≤ofF s.hv i
 out:∀ s∈L,∀ r:Int,(r < 0∨(L.length:Int)≤r)→ofF s.hv r=0
 ws:∀ s∈L,∀ x,x∈s.ws↔x∈U∧x.time≤ofF s.hv x.rep
theorem set_at {α:Type} {L:List α} {i j:Nat} {a b:α} (h:(L.set i a)[j]? = some b):(j=i∧b=a)∨(j≠i∧L[j]? = some b):=by
 by_cases e:j=i
 · subst e
   rw [List.getElem?_set_self' ] at h
   cases h2:L[j]? with
   | none=>rw [h2] at h;cases h
   | some c=>rw [h2] at h;left;exact ⟨rfl,(Option.some.inj h).symm⟩
 · right
   rw [List.getElem?_set_ne (fun e2=>e e2.symm)] at h
   exact ⟨e,h⟩
theorem set_mem {α:Type} {L:List α} {i:Nat} {a b:α} (h:b∈L.set i a):b=a∨b∈L:=by
 rcases List.mem_or_eq_of_mem_set h with h | h
 · exact .inr h
 · exact .inl h
end Go.Proofs.YtifbebhgeheooaaGreatDoor
namespace Go.Proofs.YtifbebhgeheooaaGreatDoor
open Go.RowKit
set_option maxRecDepth 100000 in
set_option maxHeartbeats 4000000 in
theorem bsame_as (vf vh vw uf uh uw:Value) (f h:List Ent) (l:List Wr) (f2 h2:List Ent) (l2:List Wr) (c:Bool) (w:World) (hx:BatIs w vf vh vw f h l) (hy:BatIs w uf uh uw f2 h2 l2) (hc:sameV f h l f2 h2 l2=c) :
   Calls Tryz.prog 58 #[.agg #[vf,vh,vw],.agg #[uf,uh,uw]] w fun e w'=>e=.returned (.bool c)∧Below w.heap.size w w':=by
 subst hc
 have HX:=Lib.hid hx
 have HY:=Lib.hid hy
 obtain ⟨hf,hh,hv,_⟩:=hx
 obtain ⟨af,cf,rfl,_⟩:=hf.form
 obtain ⟨ah,ch,rfl,_⟩:=hh.form
 obtain ⟨aw,cw,rfl,_⟩:=hv.form
 obtain ⟨hf2,hh2,hv2,_⟩:=hy
 obtain ⟨bf,df,rfl,_⟩:=hf2.form
 obtain ⟨bh,dh,rfl,_⟩:=hh2.form
 obtain ⟨bw,dw,rfl,_⟩:=hv2.form
 clear hf hh hv hf2 hh2 hv2
 obtain ⟨nf,hn1⟩:∃ n,n=f.length:=⟨_,rfl⟩
 obtain ⟨nh,hn2⟩:∃ n,n=h.length:=⟨_,rfl⟩
 obtain ⟨n,hn3⟩:∃ n,n=l.length:=⟨_,rfl⟩
 obtain ⟨mf,hn4⟩:∃ n,n=f2.length:=⟨_,rfl⟩
 obtain ⟨mh,hn5⟩:∃ n,n=h2.length:=⟨_,rfl⟩
 obtain ⟨m,hn6⟩:∃ n,n=l2.length:=⟨_,rfl⟩
 rw [←hn1,←hn2,←hn3] at HX ⊢
 rw [←hn4,←hn5,←hn6] at HY ⊢
 obtain ⟨c1,e1⟩:∃ c,decide (f=f2)=c:=⟨_,rfl⟩
 obtain ⟨c2,e2⟩:∃ c,decide (h=h2)=c:=⟨_,rfl⟩
 obtain ⟨c3,e3⟩:∃ c,decide (l=l2)=c:=⟨_,rfl⟩
 have HR:Hid (sameV f h l f2 h2 l2=(c1 && c2 && c3)):=Lib.hid (by unfold sameV;rw [e1,e2,e3])
 have H1:=Lib.hid e1
 have H2:=Lib.hid e2
 have H3:=Lib.hid e3
 have HW0:Hid (Below w.heap.size w ((w.alloc (.cells #[.slice af nf cf,.slice ah nh ch,.slice aw n cw] 38)).alloc (.cells #[.slice bf mf df,.slice bh mh dh,.slice bw m dw] 38))):=Lib.hid (((Below.refl _ _).alloc (Nat.le_refl _) _).alloc (by simp) _)
 have HA:Hid (bat2 ((w.alloc (.cells #[.slice af nf cf,.slice ah nh ch,.slice aw n cw] 38)).alloc (.cells #[.slice bf mf df,.slice bh mh dh,.slice bw m dw] 38)) w.heap.size (.slice af nf cf) (.slice ah nh ch) (.slice aw n cw) (.slice bf mf df) (.slice bh mh dh) (.slice bw m dw)):=Lib.hid (bat2_new _ _ _ _ _ _ _ _ _)
 clear hn1 hn2 hn3 hn4 hn5 hn6 e1 e2 e3
 rw [HR.out]
 go_enter Tryz.func58,Tryz.ntmps58
 go_wp2_with fail
 generalize (w.alloc (.cells #[.slice af nf cf,.slice ah nh ch,.slice aw n cw] 38)).alloc (.cells #[.slice bf mf df,.slice bh mh dh,.slice bw m dw] 38)=W at HA HW0 ⊢
 have HX0:=Lib.hid (HX.out.below HW0.out)
 have HY0:=Lib.hid (HY.out.below HW0.out)
 refine (equal_asL _ _ f f2 c1 _ HX0.out.1 HY0.out.1 HX0.out.2.2.2.1 HY0.out.2.2.2.1 H1.out).mono ?_
 rintro r w1 ⟨rfl,q1,rfl⟩
 cases c1 with
 | false =>
   go_wp2
   go_ret
   exact ⟨rfl,below_drewN HW0.out _⟩
 | true =>
   obtain ⟨d0,d1,d2,d3,d4,d5⟩:=HA.out.drewN q1
   go_wp2_with fail
   refine (equal_asL _ _ h h2 c2 _ (HX0.out.2.1.drewN q1) (HY0.out.2.1.drewN q1) HX0.out.2.2.2.2.1 HY0.out.2.2.2.2.1 H2.out).mono ?_
   rintro r w2 ⟨rfl,q2,rfl⟩
   rw [World.drewN_drewN]
   clear d0 d1 d2 d3 d4 d5
   cases c2 with
   | false =>
     go_wp2
     go_ret
     exact ⟨rfl,below_drewN HW0.out _⟩
   | true =>
     obtain ⟨d0,d1,d2,d3,d4,d5⟩:=HA.out.drewN (q1 + q2)
     go_wp2_with fail
     refine (equalw_as _ _ l l2 c3 _ (HX0.out.2.2.1.drewN (q1 + q2)) (HY0.out.2.2.1.drewN (q1 + q2)) HX0.out.2.2.2.2.2.1 HY0.out.2.2.2.2.2.1 H3.out).mono ?_
     rintro r w3 ⟨rfl,q3,rfl⟩
     rw [World.drewN_drewN]
     clear d0 d1 d2 d3 d4 d5
     go_wp2
     go_ret
     exact ⟨by first | rfl | simp,below_drewN HW0.out _⟩
end Go.Proofs.YtifbebhgeheooaaGreatDoor
namespace Go.Proofs.YtifbebhgeheooaaGreatDoor
def accW (ws b:List Wr):List Wr:=sortW (ws ++ freshW ws b)
theorem accW_mem {ws b:List Wr} {x:Wr}:x∈accW ws b↔x∈ws∨x∈freshW ws b:=by unfold accW;rw [sortW_mem,List.mem_append]
theorem accW_len (ws b:List Wr):(accW ws b).length=ws.length + (freshW ws b).length:=by unfold accW;rw [sortW_len,List.length_append]
theorem accW_late {ws b:List Wr} (hw:ws.Pairwise late) (hb:b.Pairwise late):(accW ws b).Pairwise late:=by
 refine sortW_late ?_
 show (ws ++ freshW ws b).Pairwise _
 rw [List.pairwise_append]
 exact ⟨late_idsOk hw,late_idsOk (hb.filter _),fun a ha c hc=>(freshW_mem.1 hc).2 a ha⟩
theorem accW_nil {ws:List Wr} (hw:ws.Pairwise late):accW ws []=ws :=
 late_ext (accW_late hw List.Pairwise.nil) hw (fun c=>by rw [accW_mem,freshW_mem];simp)
theorem take_late {b:List Wr} (hb:b.Pairwise late) (k:Nat):(b.take k).Pairwise late:=hb.sublist (List.take_sublist k b)
theorem take_one {b:List Wr} {k:Nat} {x:Wr} (hx:b[k]? = some x):b.take (k + 1)=b.take k ++ [x]:=by rw [List.take_add_one,hx];rfl
theorem take_ne {b:List Wr} (hb:b.Pairwise late) {k:Nat} {x:Wr} (hx:b[k]? = some x):∀ y∈b.take k,wid y≠wid x:=by
 intro y hy
 have h:=take_late hb (k + 1)
 rw [take_one hx,List.pairwise_append] at h
 exact late_ne (h.2.2 y hy x List.mem_cons_self)
theorem fresh_snoc {ws b:List Wr} {k:Nat} {x:Wr} (hx:b[k]? = some x) (y:Wr):y∈freshW ws (b.take (k + 1))↔y∈freshW ws (b.take k)∨y=x∧∀ z∈ws,wid z≠wid x:=by
 rw [take_one hx,freshW_mem,freshW_mem,List.mem_append,List.mem_singleton]
 constructor
 · rintro ⟨h | rfl,h2⟩
   · exact .inl ⟨h,h2⟩
   · exact .inr ⟨rfl,h2⟩
 · rintro (⟨h,h2⟩ | ⟨rfl,h2⟩)
   · exact ⟨.inl h,h2⟩
   · exact ⟨.inr rfl,h2⟩
theorem accW_there {ws b:List Wr} (hw:ws.Pairwise late) (hb:b.Pairwise late) {k:Nat} {x y:Wr} (hx:b[k]? = some x) (hy:y∈ws) (e:wid y=wid x):accW ws (b.take (k + 1))=accW ws (b.take k) :=
 late_ext (accW_late hw (take_late hb _)) (accW_late hw (take_late hb _)) (fun c=>by
   rw [accW_mem,accW_mem,fresh_snoc hx]
   constructor
   · rintro (h | h | ⟨rfl,h⟩)
     · exact .inl h
     · exact .inr h
     · exact absurd e (h y hy)
   · rintro (h | h)
     · exact .inl h
     · exact .inr (.inl h))
theorem accW_own {ws b:List Wr} (hb:b.Pairwise late) {k:Nat} {x y:Wr} (hx:b[k]? = some x) (hy:y∈accW ws (b.take k)) (e:wid y=wid x):y∈ws:=by
 rcases accW_mem.1 hy with h | h
 · exact h
 · exact absurd e (take_ne hb hx y (freshW_mem.1 h).1)
theorem accW_ins {ws b:List Wr} (hw:ws.Pairwise late) (hb:b.Pairwise late) {k:Nat} {x:Wr} (hx:b[k]? = some x) {p:Nat} (hp:p≤(accW ws (b.take k)).length)
   (h1:∀ i y,i < p→(accW ws (b.take k))[i]? = some y→late y x) (h2:∀ i y,p≤i→(accW ws (b.take k))[i]? = some y→late x y) :
   accW ws (b.take (k + 1))=(accW ws (b.take k)).take p ++ x :: (accW ws (b.take k)).drop p:=by
 obtain ⟨A,hA⟩:∃ A,A=accW ws (b.take k):=⟨_,rfl⟩
 have hl:A.Pairwise late:=by rw [hA];exact accW_late hw (take_late hb _)
 have hm:∀ c,c∈A↔c∈ws∨c∈freshW ws (b.take k):=fun c=>by rw [hA,accW_mem]
 rw [←hA] at h1 h2 hp ⊢
 have t1:∀ y∈A.take p,late y x:=fun y hy=>by
   obtain ⟨i,hi,e⟩:=List.getElem_of_mem hy
   have hip:i < p:=by rw [List.length_take] at hi;omega
   refine h1 i y hip ?_
   rw [←List.getElem?_take_of_lt hip,List.getElem?_eq_getElem hi,e]
 have t2:∀ y∈A.drop p,late x y:=fun y hy=>by
   obtain ⟨i,hi,e⟩:=List.getElem_of_mem hy
   refine h2 (p + i) y (by omega) ?_
   rw [←List.getElem?_drop,List.getElem?_eq_getElem hi,e]
 have hn:∀ z∈A,wid z≠wid x:=fun z hz=>by
   rw [←List.take_append_drop p A] at hz
   rcases List.mem_append.1 hz with hz | hz
   · exact late_ne (t1 z hz)
   · exact fun e=>late_ne (t2 z hz) e.symm
 refine late_ext (accW_late hw (take_late hb _)) ?_ (fun c=>?_)
 · rw [List.pairwise_append,List.pairwise_cons]
   have hs:=hl
   rw [←List.take_append_drop p A,List.pairwise_append] at hs
   refine ⟨hs.1,⟨t2,hs.2.1⟩,fun a ha c hc=>?_⟩
   rcases List.mem_cons.1 hc with rfl | hc
   · exact t1 a ha
   · exact hs.2.2 a ha c hc
 · rw [accW_mem,fresh_snoc hx,List.mem_append,List.mem_cons]
   have hd:c∈A↔c∈A.take p∨c∈A.drop p:=by rw [←List.mem_append,List.take_append_drop]
   constructor
   · rintro (h | h | ⟨rfl,_⟩)
     · rcases hd.1 ((hm c).2 (.inl h)) with h | h
       · exact .inl h
       · exact .inr (.inr h)
     · rcases hd.1 ((hm c).2 (.inr h)) with h | h
       · exact .inl h
       · exact .inr (.inr h)
     · exact .inr (.inl rfl)
   · rintro (h | rfl | h)
     · rcases (hm c).1 (hd.2 (.inl h)) with h | h
       · exact .inl h
       · exact .inr (.inl h)
     · exact .inr (.inr ⟨rfl,fun z hz=>hn z ((hm z).2 (.inl hz))⟩)
     · rcases (hm c).1 (hd.2 (.inr h)) with h | h
       · exact .inl h
       · exact .inr (.inl h)
theorem twA_some {ws:List Wr} (b:List Wr):∀ (k i:Nat) (x:Wr),(∀ y∈b.take k,¬ clash ws y)→b[k]? = some x→clash ws x→twA ws b i=some (i + k):=by
 induction b with
 | nil=>intro k i x _ h;cases h
 | cons c r ih =>
   intro k i x hn hx hc
   rw [twA]
   cases k with
   | zero =>
     obtain rfl:c=x:=by simpa using hx
     rw [if_pos hc];rfl
   | succ k =>
     rw [if_neg (hn c (by simp)),ih k (i + 1) x (fun y hy=>hn y (by simp [hy])) (by simpa using hx) hc]
     congr 1;omega
noncomputable def togE (ws b:List Wr):Nat×Int :=
 match twA ws b 0 with
 | some i=>(9,(i:Int))
 | none=>if 300 < ws.length + (freshW ws b).length then (12,-1) else (0,-1)
end Go.Proofs.YtifbebhgeheooaaGreatDoor
namespace Go.Proofs.YtifbebhgeheooaaGreatDoor
open Go.RowKit
theorem within_as (x1 x2:Int) (vf vh:Value) (f h:List Ent) (b:Bool) (w:World) (hf:IsEnts w vf f) (hh:IsEnts w vh h) (hlf:f.length≤9223372036854775807) (hlh:h.length≤9223372036854775807) (hb:wiF (x1,x2) f h=b) :
   Calls Tryz.prog 27 #[.agg #[.int .i64 x1,.int .i64 x2],vf,vh] w fun e w'=>e=.returned (.bool b)∧Below w.heap.size w w':=within_any x1 x2 vf vh f h w hf hh hlf hlh b hb
def okE:List Ent:=[⟨1,2⟩]
theorem okE_is (w:World):IsEnts (w.alloc (.cells #[.int .i64 1,.int .i64 2] 34)) (.slice (some ⟨w.heap.size,0,none⟩) 1 1) okE:=by
 refine .inr ⟨w.heap.size,0,1,rfl,⟨by decide,by decide⟩,by simp,fun j u hj=>?_⟩
 rw [Nat.zero_add,cell_of_row _ _ j _ _ (0,0) (heap_alloc_new w _)]
 have e:entsC okE=[.int .i64 1,.int .i64 2]:=rfl
 rw [e] at hj
 simpa using hj
set_option maxRecDepth 100000 in
set_option maxHeartbeats 4000000 in
theorem ordered_any (w:World):Calls Tryz.prog 24 #[] w fun e w'=>e=.returned (.bool true)∧Below w.heap.size w w':=by
 go_enter Tryz.func24,Tryz.ntmps24
 go_wp2_with fail
 refine (idcmp_as 2 1 1 9 1 _ (by decide)).mono ?_
 rintro r w1 ⟨rfl,hb1⟩
 have k1_0:w1.cell? ⟨w.heap.size,0,none⟩=some (.int .i64 2):=(hb1.cell (by first | (simp;done) | (simp;omega))).trans (by simp)
 have k1_1:w1.cell? ⟨w.heap.size,1,none⟩=some (.int .i64 1):=(hb1.cell (by first | (simp;done) | (simp;omega))).trans (by simp)
 have k1_2:w1.cell? ⟨w.heap.size + 1,0,none⟩=some (.int .i64 1):=(hb1.cell (by first | (simp;done) | (simp;omega))).trans (by simp)
 have k1_3:w1.cell? ⟨w.heap.size + 1,1,none⟩=some (.int .i64 9):=(hb1.cell (by first | (simp;done) | (simp;omega))).trans (by simp)
 have HB1:Hid (Below w.heap.size w w1):=((((Below.refl _ _).alloc (Nat.le_refl _) _).alloc (by simp) _).trans (hb1.mono (by simp;omega)))
 have HZ1:Hid (w.heap.size + 1 < w1.heap.size):=(Nat.lt_of_lt_of_le (by first | (simp;done) | (simp;omega)) hb1.size)
 clear hb1
 go_wp2_with fail
 refine (idcmp_as 1 9 2 1 (-1) _ (by decide)).mono ?_
 rintro r w2 ⟨rfl,hb2⟩
 have k2_0:w2.cell? ⟨w.heap.size,0,none⟩=some (.int .i64 2):=(hb2.cell (by have:=HZ1.out;show w.heap.size < _;omega)).trans (k1_0)
 have k2_1:w2.cell? ⟨w.heap.size,1,none⟩=some (.int .i64 1):=(hb2.cell (by have:=HZ1.out;show w.heap.size < _;omega)).trans (k1_1)
 have k2_2:w2.cell? ⟨w.heap.size + 1,0,none⟩=some (.int .i64 1):=(hb2.cell (by have:=HZ1.out;show w.heap.size + 1 < _;omega)).trans (k1_2)
 have k2_3:w2.cell? ⟨w.heap.size + 1,1,none⟩=some (.int .i64 9):=(hb2.cell (by have:=HZ1.out;show w.heap.size + 1 < _;omega)).trans (k1_3)
 have HB2:Hid (Below w.heap.size w w2):=HB1.out.trans (hb2.mono HB1.out.size)
 have HZ2:Hid (w.heap.size + 1 < w2.heap.size):=(Nat.lt_of_lt_of_le HZ1.out hb2.size)
 clear hb2 k1_0 k1_1 k1_2 k1_3
 go_wp2_with fail
 refine (idcmp_as 2 1 2 1 0 _ (by decide)).mono ?_
 rintro r w3 ⟨rfl,hb3⟩
 have k3_0:w3.cell? ⟨w.heap.size,0,none⟩=some (.int .i64 2):=(hb3.cell (by have:=HZ2.out;show w.heap.size < _;omega)).trans (k2_0)
 have k3_1:w3.cell? ⟨w.heap.size,1,none⟩=some (.int .i64 1):=(hb3.cell (by have:=HZ2.out;show w.heap.size < _;omega)).trans (k2_1)
 have k3_2:w3.cell? ⟨w.heap.size + 1,0,none⟩=some (.int .i64 1):=(hb3.cell (by have:=HZ2.out;show w.heap.size + 1 < _;omega)).trans (k2_2)
 have k3_3:w3.cell? ⟨w.heap.size + 1,1,none⟩=some (.int .i64 9):=(hb3.cell (by have:=HZ2.out;show w.heap.size + 1 < _;omega)).trans (k2_3)
 have HB3:Hid (Below w.heap.size w w3):=HB2.out.trans (hb3.mono HB2.out.size)
 have HZ3:Hid (w.heap.size + 1 < w3.heap.size):=(Nat.lt_of_lt_of_le HZ2.out hb3.size)
 clear hb3 k2_0 k2_1 k2_2 k2_3
 go_wp2_with fail
 refine (within_as 2 1 _ _ [] okE true _ (IsEnts.nil _) (okE_is w3) (by decide) (by decide) (by decide)).mono ?_
 rintro r w4 ⟨rfl,hb4⟩
 have k4_0:w4.cell? ⟨w.heap.size,0,none⟩=some (.int .i64 2):=(hb4.cell (by have:=HZ3.out;show w.heap.size < _;rw [World.size_alloc];omega)).trans ((World.cell?_alloc_lt w3 _ (⟨w.heap.size,0,none⟩:Addr) (by have:=HZ3.out;show w.heap.size < _;omega)).trans k3_0)
 have k4_1:w4.cell? ⟨w.heap.size,1,none⟩=some (.int .i64 1):=(hb4.cell (by have:=HZ3.out;show w.heap.size < _;rw [World.size_alloc];omega)).trans ((World.cell?_alloc_lt w3 _ (⟨w.heap.size,1,none⟩:Addr) (by have:=HZ3.out;show w.heap.size < _;omega)).trans k3_1)
 have k4_2:w4.cell? ⟨w.heap.size + 1,0,none⟩=some (.int .i64 1):=(hb4.cell (by have:=HZ3.out;show w.heap.size + 1 < _;rw [World.size_alloc];omega)).trans ((World.cell?_alloc_lt w3 _ (⟨w.heap.size + 1,0,none⟩:Addr) (by have:=HZ3.out;show w.heap.size + 1 < _;omega)).trans k3_2)
 have k4_3:w4.cell? ⟨w.heap.size + 1,1,none⟩=some (.int .i64 9):=(hb4.cell (by have:=HZ3.out;show w.heap.size + 1 < _;rw [World.size_alloc];omega)).trans ((World.cell?_alloc_lt w3 _ (⟨w.heap.size + 1,1,none⟩:Addr) (by have:=HZ3.out;show w.heap.size + 1 < _;omega)).trans k3_3)
 have HB4:Hid (Below w.heap.size w w4):=(HB3.out.alloc HB3.out.size _).trans (hb4.mono (by have:=HB3.out.size;simp;omega))
 have HZ4:Hid (w.heap.size + 1 < w4.heap.size):=(Nat.lt_of_lt_of_le (by have:=HZ3.out;simp;omega) hb4.size)
 clear hb4 k3_0 k3_1 k3_2 k3_3
 go_wp2_with fail
 refine (within_as 2 1 _ _ okE [] false _ (okE_is w4) (IsEnts.nil _) (by decide) (by decide) (by decide)).mono ?_
 rintro r w5 ⟨rfl,hb5⟩
 have k5_0:w5.cell? ⟨w.heap.size,0,none⟩=some (.int .i64 2):=(hb5.cell (by have:=HZ4.out;show w.heap.size < _;rw [World.size_alloc];omega)).trans ((World.cell?_alloc_lt w4 _ (⟨w.heap.size,0,none⟩:Addr) (by have:=HZ4.out;show w.heap.size < _;omega)).trans k4_0)
 have k5_1:w5.cell? ⟨w.heap.size,1,none⟩=some (.int .i64 1):=(hb5.cell (by have:=HZ4.out;show w.heap.size < _;rw [World.size_alloc];omega)).trans ((World.cell?_alloc_lt w4 _ (⟨w.heap.size,1,none⟩:Addr) (by have:=HZ4.out;show w.heap.size < _;omega)).trans k4_1)
 have k5_2:w5.cell? ⟨w.heap.size + 1,0,none⟩=some (.int .i64 1):=(hb5.cell (by have:=HZ4.out;show w.heap.size + 1 < _;rw [World.size_alloc];omega)).trans ((World.cell?_alloc_lt w4 _ (⟨w.heap.size + 1,0,none⟩:Addr) (by have:=HZ4.out;show w.heap.size + 1 < _;omega)).trans k4_2)
 have k5_3:w5.cell? ⟨w.heap.size + 1,1,none⟩=some (.int .i64 9):=(hb5.cell (by have:=HZ4.out;show w.heap.size + 1 < _;rw [World.size_alloc];omega)).trans ((World.cell?_alloc_lt w4 _ (⟨w.heap.size + 1,1,none⟩:Addr) (by have:=HZ4.out;show w.heap.size + 1 < _;omega)).trans k4_3)
 have HB5:Hid (Below w.heap.size w w5):=(HB4.out.alloc HB4.out.size _).trans (hb5.mono (by have:=HB4.out.size;simp;omega))
 have HZ5:Hid (w.heap.size + 1 < w5.heap.size):=(Nat.lt_of_lt_of_le (by have:=HZ4.out;simp;omega) hb5.size)
 clear hb5 k4_0 k4_1 k4_2 k4_3
 go_wp2
 go_ret
 exact ⟨by first | rfl | simp,HB5.out⟩
end Go.Proofs.YtifbebhgeheooaaGreatDoor
