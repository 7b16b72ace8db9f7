import Derived.Test.YtjkbmfpomgcblaaGreatDoorKp10
namespace Go.Proofs.YtjkbmfpomgcblaaGreatDoor
open Go.RowKit
def wE (x:Wr):Nat:=wriE x.time x.rep x.kind x.key x.value x.n
def wid (x:Wr):Int×Int:=(x.time,x.rep)
def late (q x:Wr):Prop:=cI (wid x) (wid q)=1
instance (q x : Wr) : Decidable (late q x) := by unfold late; infer_instance
def lateO:Option Wr→Wr→Prop
 | none,_=>True
 | some q,x=>late q x
instance (p : Option Wr) (x : Wr) : Decidable (lateO p x) := by cases p <;> (unfold lateO; infer_instance)
def bwE (f h:List Ent) (p:Option Wr) (x:Wr):Nat:=if wE x≠0 then wE x else if ¬ lateO p x then 10 else if wiF (wid x) f h=false then 6 else 0
def bwr (f h:List Ent):List Wr→Nat→Option Wr→Nat×Int
 | [],_,_=>(0,-1)
 | x :: r,i,p=>if bwE f h p x≠0 then (bwE f h p x,(i:Int)) else bwr f h r (i + 1) (some x)
def bbE (f h:List Ent):Nat:=if (vrightF f).1≠0 then (vrightF f).1 else if (vrightF h).1≠0 then (vrightF h).1 else if covB h f=false then 13 else 0
def batF (f h:List Ent) (ws:List Wr):Nat×Int:=if bbE f h≠0 then (bbE f h,-1) else if 60 < ws.length then (4,-1) else bwr f h ws 0 none
theorem bwr_bad {f h:List Ent} {x:Wr} {r:List Wr} {i:Nat} {p:Option Wr} {e:Nat} (hx:bwE f h p x=e) (he:e≠0):bwr f h (x :: r) i p=(e,(i:Int)):=by subst hx;rw [bwr,if_pos he]
theorem bwr_good {f h:List Ent} {x:Wr} {r:List Wr} {i:Nat} {p:Option Wr} (hx:bwE f h p x=0):bwr f h (x :: r) i p=bwr f h r (i + 1) (some x):=by rw [bwr,if_neg (by rw [hx];simp)]
theorem batF_bb {f h:List Ent} {ws:List Wr} {e:Nat} (hx:bbE f h=e) (he:e≠0):batF f h ws=(e,-1):=by subst hx;unfold batF;rw [if_pos he]
theorem batF_many {f h:List Ent} {ws:List Wr} (hx:bbE f h=0) (hl:60 < ws.length):batF f h ws=(4,-1):=by unfold batF;rw [if_neg (by rw [hx];simp),if_pos hl]
theorem batF_rest {f h:List Ent} {ws:List Wr} (hx:bbE f h=0) (hl:¬ 60 < ws.length):batF f h ws=bwr f h ws 0 none:=by unfold batF;rw [if_neg (by rw [hx];simp),if_neg hl]
theorem bwE_w {f h:List Ent} {p:Option Wr} {x:Wr} {e:Nat} (hx:wE x=e) (he:e≠0):bwE f h p x=e:=by subst hx;unfold bwE;rw [if_pos he]
theorem bwE_order {f h:List Ent} {p:Option Wr} {x:Wr} (hx:wE x=0) (hl:¬ lateO p x):bwE f h p x=10:=by unfold bwE;rw [if_neg (by rw [hx];simp),if_pos hl]
theorem bwE_state {f h:List Ent} {p:Option Wr} {x:Wr} (hx:wE x=0) (hl:lateO p x) (hw:wiF (wid x) f h=false):bwE f h p x=6:=by unfold bwE;rw [if_neg (by rw [hx];simp),if_neg (by simpa using hl),if_pos hw]
theorem bwE_fine {f h:List Ent} {p:Option Wr} {x:Wr} (hx:wE x=0) (hl:lateO p x) (hw:wiF (wid x) f h=true):bwE f h p x=0:=by unfold bwE;rw [if_neg (by rw [hx];simp),if_neg (by simpa using hl),if_neg (by rw [hw];decide)]
theorem bwE_ok {f h:List Ent} {p:Option Wr} {x:Wr}:bwE f h p x=0↔wE x=0∧lateO p x∧wiF (wid x) f h=true:=by
 constructor
 · intro h0
   unfold bwE at h0
   split at h0
   · rename_i h1;exact absurd h0 h1
   · rename_i h1
     split at h0
     · simp at h0
     · rename_i h2
       split at h0
       · simp at h0
       · rename_i h3
         exact ⟨by simpa using h1,by simpa using h2,by simpa using h3⟩
 · rintro ⟨h1,h2,h3⟩;exact bwE_fine h1 h2 h3
def okW (f h:List Ent):Option Wr→List Wr→Prop
 | _,[]=>True
 | p,x :: r=>bwE f h p x=0∧okW f h (some x) r
theorem bwr_ok {f h:List Ent} (l:List Wr):∀ i p,(bwr f h l i p).1=0↔okW f h p l:=by
 induction l with
 | nil=>intro i p;simp [bwr,okW]
 | cons x r ih =>
   intro i p
   by_cases h0:bwE f h p x=0
   · rw [bwr_good h0,ih];exact ⟨fun h1=>⟨h0,h1⟩,fun h1=>h1.2⟩
   · rw [bwr_bad rfl h0];exact ⟨fun h1=>absurd h1 h0,fun h1=>absurd h1.1 h0⟩
theorem bwr_place {f h:List Ent} (l:List Wr):∀ i p,(bwr f h l i p).1=0→bwr f h l i p=(0,-1):=by
 induction l with
 | nil=>intro i p _;rfl
 | cons x r ih =>
   intro i p h1
   by_cases h0:bwE f h p x=0
   · rw [bwr_good h0] at h1 ⊢;exact ih _ _ h1
   · rw [bwr_bad rfl h0] at h1;exact absurd h1 h0
theorem bbE_ok {f h:List Ent}:bbE f h=0↔rightV f∧rightV h∧covB h f=true:=by
 rw [←vright_ok,←vright_ok]
 unfold bbE
 constructor
 · intro h0
   split at h0
   · rename_i h1;exact absurd h0 h1
   · rename_i h1
     split at h0
     · rename_i h2;exact absurd h0 h2
     · rename_i h2
       split at h0
       · simp at h0
       · rename_i h3;exact ⟨by simpa using h1,by simpa using h2,by simpa using h3⟩
 · rintro ⟨h1,h2,h3⟩
   rw [if_neg (by simpa using h1),if_neg (by simpa using h2),if_neg (by rw [h3];decide)]
theorem batF_ok {f h:List Ent} {ws:List Wr}:(batF f h ws).1=0↔(rightV f∧rightV h∧covB h f=true)∧ws.length≤60∧okW f h none ws:=by
 rw [←bbE_ok]
 by_cases h1:bbE f h=0
 · by_cases h2:60 < ws.length
   · rw [batF_many h1 h2]
     constructor
     · intro h;cases h
     · intro h;omega
   · rw [batF_rest h1 h2,bwr_ok]
     exact ⟨fun h=>⟨h1,by omega,h⟩,fun h=>h.2.2⟩
 · rw [batF_bb rfl h1]
   exact ⟨fun h=>absurd h h1,fun h=>absurd h.1 h1⟩
theorem batF_place {f h:List Ent} {ws:List Wr} (h0:(batF f h ws).1=0):batF f h ws=(0,-1):=by
 unfold batF at h0 ⊢
 split
 · rename_i h1;rw [if_pos h1] at h0;exact absurd h0 h1
 · rename_i h1
   rw [if_neg h1] at h0
   split
   · rename_i h2;rw [if_pos h2] at h0;cases h0
   · rename_i h2;rw [if_neg h2] at h0;exact bwr_place _ _ _ h0
theorem late_iff {q x:Wr}:late q x↔cI (wid q) (wid x)=-1:=by
 unfold late wid
 have:=cI_neg x.time x.rep q.time q.rep
 omega
theorem late_trans {a b c:Wr} (h1:late a b) (h2:late b c):late a c:=by
 rw [late_iff] at h1 h2 ⊢
 exact cI_trans h1 h2
theorem okW_iff {f h:List Ent} (l:List Wr):∀ p,okW f h p l↔(∀ x∈l,wE x=0∧lateO p x∧wiF (wid x) f h=true)∧l.Pairwise late:=by
 induction l with
 | nil=>intro p;simp [okW]
 | cons x r ih =>
   intro p
   show bwE f h p x=0∧okW f h (some x) r↔_
   rw [ih (some x),bwE_ok,List.pairwise_cons]
   constructor
   · rintro ⟨h1,h2,h3⟩
     refine ⟨fun y hy=>?_,fun y hy=>(h2 y hy).2.1,h3⟩
     rcases List.mem_cons.1 hy with rfl | hy
     · exact h1
     · obtain ⟨g1,g2,g3⟩:=h2 y hy
       refine ⟨g1,?_,g3⟩
       cases p with
       | none=>trivial
       | some q=>exact late_trans h1.2.1 g2
   · rintro ⟨h1,h2,h3⟩
     exact ⟨h1 x List.mem_cons_self,fun y hy=>⟨(h1 y (List.mem_cons_of_mem _ hy)).1,h2 y hy,(h1 y (List.mem_cons_of_mem _ hy)).2.2⟩,h3⟩
theorem okW_none {f h:List Ent} {l:List Wr}:okW f h none l↔(∀ x∈l,wE x=0∧wiF (wid x) f h=true)∧l.Pairwise late:=by
 rw [okW_iff]
 exact ⟨fun ⟨h1,h2⟩=>⟨fun x hx=>⟨(h1 x hx).1,(h1 x hx).2.2⟩,h2⟩,fun ⟨h1,h2⟩=>⟨fun x hx=>⟨(h1 x hx).1,trivial,(h1 x hx).2⟩,h2⟩⟩
def rightB (f h:List Ent) (ws:List Wr):Prop:=(batF f h ws).1=0
theorem rightB_iff {f h:List Ent} {ws:List Wr}:rightB f h ws↔(rightV f∧rightV h∧covB h f=true)∧ws.length≤60∧(∀ x∈ws,wE x=0∧wiF (wid x) f h=true)∧ws.Pairwise late:=by
 unfold rightB
 rw [batF_ok,okW_none]
end Go.Proofs.YtjkbmfpomgcblaaGreatDoor
namespace Go.Proofs.YtjkbmfpomgcblaaGreatDoor
open Go.RowKit Go.Extern.Stop Go.Stop Go.Extern
def errT (w:World):Prop:=w.cell? ⟨0,0,none⟩=some (.iface 229 (.agg #[.pointer (some ⟨5,29,none⟩)]))
def asWorld (w:World) (t:Addr):World :=
 ((w.alloc (.cells #[.pointer (some t)] 109)).alloc (.cells #[.pointer (some ⟨5,109,none⟩),.pointer (some ⟨w.heap.size,0,none⟩),.int .u64 150] 173)).alloc (.cells #[.pointer (some ⟨5,109,none⟩),.pointer (some ⟨w.heap.size,0,none⟩),.int .u64 150] 173)
theorem lt_of_cell {w:World} {a:Addr} {v:Value} (h:w.cell? a=some v):a.block < w.heap.size:=by
 rcases Nat.lt_or_ge a.block w.heap.size with h' | h'
 · exact h'
 · simp [World.cell?,Array.getElem?_eq_none h'] at h
set_option maxRecDepth 100000 in
set_option maxHeartbeats 4000000 in
theorem as_errno (e:Int) (t:Addr) (old:Value) (w:World) (hg:errT w) (ht0:w.cell? t=some old) (hf0:w.frozen? t=false) :
   Calls Tryz.prog 86 #[.iface 44 (.int .i64 e),.iface 109 (.pointer (some t))] w fun ev w'=>ev=.returned (.bool true)∧((asWorld w t).alloc (.cells #[.int .i64 e] 44)).setCell t (.int .i64 e)=w':=by
 unfold asWorld
 unfold errT at hg
 have h6:=@run_callFunc_extern Tryz.prog 137 _ (fun args=>ReflectliteValue.unpack (args.getD 0 (.tuple #[]))) Tryz.func137 (by kernel_rfl) (by kernel_rfl) (by kernel_rfl) (by kernel_rfl)
 have h7 := @run_callFunc_extern Tryz.prog 138 _ (ReflectliteValue.methodAny (ReflectliteValue.valueError "reflectlite.Value.Type" 0) (fun t _ _ _ => ReflectliteType.toType t)) Tryz.func138 (by kernel_rfl) (by kernel_rfl) (by kernel_rfl) (by kernel_rfl)
 have h8 := @run_callFunc_extern Tryz.prog 139 _ (ReflectliteValue.method (ReflectliteValue.valueError "reflectlite.Value.IsNil" 0) ReflectliteValue.isNil) Tryz.func139 (by kernel_rfl) (by kernel_rfl) (by kernel_rfl) (by kernel_rfl)
 have h27:=@run_callFunc_extern Tryz.prog 263 _ (ReflectliteType.abiMethod fun t=>do pure (.int .u8 (←Rtype.kind t))) Tryz.func263 (by kernel_rfl) (by kernel_rfl) (by kernel_rfl) (by kernel_rfl)
 have h37:=@run_callFunc_extern Tryz.prog 276 _ (ReflectliteType.method ReflectliteType.elem) Tryz.func276 (by kernel_rfl) (by kernel_rfl) (by kernel_rfl) (by kernel_rfl)
 have h38 := @run_callFunc_extern Tryz.prog 277 _ (ReflectliteType.relation "Implements" ReflectliteType.implements_) Tryz.func277 (by kernel_rfl) (by kernel_rfl) (by kernel_rfl) (by kernel_rfl)
 have h10:=@run_callFunc_extern Tryz.prog 188 _ ReflectliteType.typeOf Tryz.func188 (by kernel_rfl) (by kernel_rfl) (by kernel_rfl) (by kernel_rfl)
 have h35 := @run_callFunc_extern Tryz.prog 274 _ (ReflectliteType.relation "AssignableTo" ReflectliteType.assignableTo) Tryz.func274 (by kernel_rfl) (by kernel_rfl) (by kernel_rfl) (by kernel_rfl)
 have h11 := @run_callFunc_extern Tryz.prog 189 _ (ReflectliteValue.method (ReflectliteValue.valueError "reflectlite.Value.Elem" 0) ReflectliteValue.elem) Tryz.func189 (by kernel_rfl) (by kernel_rfl) (by kernel_rfl) (by kernel_rfl)
 have h12:=@run_callFunc_extern Tryz.prog 190 _ ReflectliteValue.set Tryz.func190 (by kernel_rfl) (by kernel_rfl) (by kernel_rfl) (by kernel_rfl)
 have tO:=As.typeOfE
 have mA:=As.methodAssignableTo
 have aE:=As.assignableE
 have vE:=As.valueOfE
 have f6:=As.valueOfP
 have f7:=As.typeP
 have mK:=As.methodKind
 have mE:=As.methodElem
 have mI:=As.methodImplements
 have kP:=As.kindP
 have kE:=As.kindE
 have eP:=As.elemP
 have iE:=As.implementsE
 have htl:=lt_of_cell ht0
 have hlt:0 < w.heap.size:=lt_of_cell hg
 have n8:=As.isNilP ⟨w.heap.size,0,none⟩ t ((w.alloc (.cells #[.pointer (some t)] 109)).alloc (.cells #[.pointer (some ⟨5,109,none⟩),.pointer (some ⟨w.heap.size,0,none⟩),.int .u64 150] 173)) (by simp)
 have hg2:((w.alloc (.cells #[.pointer (some t)] 109)).alloc (.cells #[.pointer (some ⟨5,109,none⟩),.pointer (some ⟨w.heap.size,0,none⟩),.int .u64 150] 173)).cell? ⟨0,0,none⟩=some (.iface 229 (.agg #[.pointer (some ⟨5,29,none⟩)])):=by
   rw [World.cell?_alloc_lt _ _ ⟨0,0,none⟩ (by simp only [World.size_alloc];omega),World.cell?_alloc_lt _ _ ⟨0,0,none⟩ hlt];exact hg
 have el:=As.elemVP ⟨w.heap.size,0,none⟩ t (((w.alloc (.cells #[.pointer (some t)] 109)).alloc (.cells #[.pointer (some ⟨5,109,none⟩),.pointer (some ⟨w.heap.size,0,none⟩),.int .u64 150] 173)).alloc (.cells #[.pointer (some ⟨5,109,none⟩),.pointer (some ⟨w.heap.size,0,none⟩),.int .u64 150] 173)) (by rw [World.cell?_alloc_lt _ _ ⟨w.heap.size,0,none⟩ (by simp;omega)];simp)
 have st:=As.setE t ⟨w.heap.size + 1 + 1 + 1,0,none⟩ e old ((((w.alloc (.cells #[.pointer (some t)] 109)).alloc (.cells #[.pointer (some ⟨5,109,none⟩),.pointer (some ⟨w.heap.size,0,none⟩),.int .u64 150] 173)).alloc (.cells #[.pointer (some ⟨5,109,none⟩),.pointer (some ⟨w.heap.size,0,none⟩),.int .u64 150] 173)).alloc (.cells #[.int .i64 e] 44))
   (by rw [World.cell?_alloc_at _ _ _ _ (by simp)];rfl)
   (by rw [World.cell?_alloc_lt _ _ t (by simp;omega),World.cell?_alloc_lt _ _ t (by simp;omega),World.cell?_alloc_lt _ _ t (by simp;omega),World.cell?_alloc_lt _ _ t htl];exact ht0)
   (by rw [World.frozen?_alloc_old _ _ t (by simp;omega),World.frozen?_alloc_old _ _ t (by simp;omega),World.frozen?_alloc_old _ _ t (by simp;omega),World.frozen?_alloc_old _ _ t (Nat.ne_of_lt htl)];exact hf0)
 go_enter Tryz.func86,Tryz.ntmps86
 go_wp2
 refine wp_loop_rounds 1 ?_
 rw [rounds_succ]
 go_wp2
 go_ret
 exact ⟨rfl,rfl⟩
end Go.Proofs.YtjkbmfpomgcblaaGreatDoor
namespace Go.Proofs.YtjkbmfpomgcblaaGreatDoor
open Go.RowKit
def textF (l:List Tok):List UInt8:=if (rightF l 0 0).1=0 then textL [] l else []
def TextIs (w:World) (l:List Tok) (e:Ending) (w':World):Prop :=
 ∃ err,e=.returned (.tuple #[.string ⟨(textF l).toArray⟩,err])∧atIs w' err (rightF l 0 0)∧Below w.heap.size w w'
theorem textL_cons (b:List UInt8) (t:Tok) (r:List Tok):textL b (t :: r)=textL (stepT b t) r:=rfl
theorem repL_succ (b:List UInt8) (k n:Nat):repL b k (n + 1)=repL (b ++ [b.getD (b.length - k) 0]) k n:=rfl
set_option maxRecDepth 100000 in
set_option maxHeartbeats 4000000 in
theorem text_any (v:Value) (l:List Tok) (w:World) (hv:IsToks w v l) (hl:l.length≤9223372036854775807) (hz:∀ t∈l,t.own.size≤140737488351232) :
   Calls Tryz.prog 154 #[v] w (TextIs w l):=by
 have HV:=Lib.hid hv
 have HLL:=Lib.hid hl
 have HZ:=Lib.hid hz
 by_cases hr:(rightF l 0 0).1=0
 · have HR:=Lib.hid (rightF_any hr)
   have HT:Hid (textF l=textL [] l):=by
     have h:textF l=textL [] l:=by unfold textF;rw [if_pos hr]
     exact h
   have HR0:=Lib.hid hr
   obtain ⟨a1,c1,rfl,f1⟩:=hv.form
   have F1:=Lib.hid f1
   obtain ⟨n,hn⟩:∃ n,n=l.length:=⟨_,rfl⟩
   rw [←hn] at hl ⊢ HV
   have HN:=Lib.hid hn
   clear hv f1 hn hz hr
   go_enter Tryz.func154,Tryz.ntmps154
   go_wp2_with fail
   refine (right_any _ l _ HV.out HLL.out HZ.out).mono ?_
   rintro r w0 ⟨err,rfl,hat,hb0⟩
   obtain rfl:err=.nilIface:=by
     rcases hat with ⟨_,h⟩ | ⟨h,_⟩
     · exact h
     · exact absurd HR0.out h
   have HB0:=Lib.hid hb0
   clear hat hb0
   go_wp2
   go_loopw [5,15] (fun v i wr=>∃ (k:Nat) (acc:List UInt8),k≤n∧i=.int .i64 k∧textL [] l=textL acc (l.drop k)∧(rightF (l.drop k) k acc.length).1=0∧acc.length≤20000∧ownsB wr w.heap.size v acc∧Below w.heap.size w wr) (fun _ i _=>n - (intOf i).toNat)
   case atStart=>exact ⟨0,[],by omega,rfl,rfl,HR0.out,by simp,ownsB_nil _ _,HB0.out⟩
   case round =>
     obtain ⟨k,acc,hk,rfl,htx,hrt,hac,hown,hbel⟩:=hrel
     have HTX:=Lib.hid htx
     have HRT:=Lib.hid hrt
     have HO:=Lib.hid hown
     have HB:=Lib.hid hbel
     clear htx hrt hown hbel
     by_cases hlt:k < n
     · have hkl:k < l.length:=by have:=HN.out;omega
       obtain ⟨t,ht⟩:∃ t,l[k]? = some t:=⟨l[k],List.getElem?_eq_getElem hkl⟩
       obtain ⟨b1,o1,rfl,hb1,p0,p1,p2⟩:=F1.out k t ht
       have hd:l.drop k=t :: l.drop (k + 1):=by
         rw [List.drop_eq_getElem_cons hkl];congr 1
         rw [List.getElem?_eq_getElem hkl] at ht;exact Option.some.inj ht
       obtain ⟨own,back,size⟩:=t
       simp only at p0 p1 p2
       have q0:=(HB.out.cell (p:=⟨b1,o1 + k * 3,none⟩) hb1).trans p0
       have q1:=(HB.out.cell (p:=⟨b1,o1 + k * 3 + 1,none⟩) hb1).trans p1
       have q2:=(HB.out.cell (p:=⟨b1,o1 + k * 3 + 2,none⟩) hb1).trans p2
       have hzr:=HB.out.size
       have hrt:=HRT.out
       rw [hd] at hrt
       obtain ⟨hw0,hw1⟩:=rightF_head hrt
       have hle:=wrongN_le hw0
       obtain ⟨nn,hnn⟩:∃ nn:Nat,size=nn:=by
         rcases wrongN_ok hw0 with ⟨_,h,_⟩ | ⟨_,h,_⟩
         · exact ⟨0,h⟩
         · exact Int.eq_ofNat_of_zero_le (Int.le_trans (by decide) h)
       subst hnn
       have hfacts:own.size≤20000∧nn≤67∧(0 < nn→own.size=0∧1≤back∧back≤acc.length):=by
         rcases wrongN_ok hw0 with ⟨h1,h2,h3,h4⟩ | ⟨h1,h2,h3,h4,h5,h6,h7⟩
         · simp only at h1 h2 h3 h4
           exact ⟨by omega,by omega,fun h=>absurd h (by omega)⟩
         · simp only at h1 h2 h3 h4 h5 h6 h7
           exact ⟨by omega,by omega,fun h=>⟨h1,h4,h6⟩⟩
       have HD:Hid (textL [] l=textL (repL (acc ++ own.data.toList) back.toNat nn) (l.drop (k + 1))):=by
         have h:textL [] l=textL (repL (acc ++ own.data.toList) back.toNat nn) (l.drop (k + 1)):=by
           rw [HTX.out,hd,textL_cons];rfl
         exact h
       have HW1:Hid ((rightF (l.drop (k + 1)) (k + 1) ((acc ++ own.data.toList).length + nn)).1=0):=by
         have h:(rightF (l.drop (k + 1)) (k + 1) ((acc ++ own.data.toList).length + nn)).1=0:=by
           have e:(acc ++ own.data.toList).length + nn=acc.length + lenT ⟨own,back,nn⟩:=by
             rw [List.length_append,←size_data];show _=_ + (own.size + (nn:Int).toNat);omega
           rw [e];exact hw1
         exact h
       have hle2:(acc ++ own.data.toList).length + nn≤20000:=by
         rw [List.length_append,←size_data]
         have h:lenT ⟨own,back,nn⟩=own.size + nn:=by show own.size + (nn:Int).toNat=_;omega
         omega
       obtain ⟨acc1,hacc1⟩:∃ acc1,acc ++ own.data.toList=acc1:=⟨_,rfl⟩
       have hal:acc.length≤acc1.length:=by rw [←hacc1,List.length_append];omega
       rw [hacc1] at HD HW1 hle2
       have HA1:=Lib.hid hacc1
       obtain ⟨f1',f2',f3'⟩:=hfacts
       have HF3:=Lib.hid f3'
       clear p0 p1 p2 ht hd hkl hrt hw0 hw1 hle HTX HRT hacc1 f3'
       go_wp2_with (at_builtin;refine wpList_append_text rfl _ _ rfl w.heap.size _ acc rfl (HO.out.alloc _) own rfl ?c1 ?c2 ?_)
       case c1=>omega
       case c2=>simp;omega
       · intro v1 w1 ho1 hg1
         rw [HA1.out] at ho1
         have htb:tokBlk w1 wr.heap.size ⟨own,back,nn⟩:=(tokBlk_new wr own back nn).grown hg1 ((HO.out.alloc _).ne_tok (tokBlk_new wr own back nn))
         have hbel1:Below w.heap.size w w1:=(HB.out.alloc hzr _).grown hg1 (by simp;omega) (fun g hg=>(HO.out.lt g hg).1)
         have HTB:=Lib.hid htb
         have HO1:=Lib.hid ho1
         have HB1:=Lib.hid hbel1
         obtain ⟨_,_,t2⟩:=htb.cells
         simp only at t2
         clear ho1 hg1 htb hbel1 q0 q1 q2
         go_wp2
         obtain ⟨Bt,hBt⟩:∃ B,B=wr.heap.size:=⟨_,rfl⟩
         rw [←hBt]
         rw [←hBt] at HTB
         clear t2 hBt hzr HB HO
         go_loopw [5,25] (fun v j wi=>∃ (j':Nat) (b:List UInt8),j'≤nn∧j=.int .i64 j'∧repL acc1 back.toNat nn=repL b back.toNat (nn - j')∧b.length=acc1.length + j'∧ownsB wi w.heap.size v b∧tokBlk wi Bt ⟨own,back,nn⟩∧Below w.heap.size w wi) (fun _ j _=>nn - (intOf j).toNat)
         case atStart=>exact ⟨0,acc1,by omega,rfl,rfl,rfl,HO1.out,HTB.out,HB1.out⟩
         case round =>
           obtain ⟨j,b,hj,rfl,hrep,hbl,hown,htb,hbel⟩:=hrel
           have HREP:=Lib.hid hrep
           have HBL:=Lib.hid hbl
           by_cases hjl:j < nn
           · obtain ⟨_,hk1,hk2⟩:=HF3.out (by omega)
             obtain ⟨kb,rfl⟩:=Int.eq_ofNat_of_zero_le (show 0≤back by omega)
             rcases hown.forms with ⟨_,hnil⟩ | ⟨g,cap,hv,hbg,hgl,hcells⟩
             · rw [hnil] at hbl;simp at hbl;omega
             · subst hv
               obtain ⟨m,hm⟩:∃ m,m=b.length:=⟨_,rfl⟩
               obtain ⟨r,hr⟩:∃ r,r=b.length - kb:=⟨_,rfl⟩
               have hcr:=hcells r (by omega)
               obtain ⟨_,t1,_⟩:=htb.cells
               simp only at t1
               have e1:(m:Int) - (kb:Int)=(r:Int):=by omega
               have hrm:r < m:=by omega
               have hm2:m≤20100:=by omega
               have HRN:Hid (repL acc1 kb nn=repL (b ++ [b.getD r 0]) kb (nn - (j + 1))):=by
                 have h:repL acc1 kb nn=repL (b ++ [b.getD r 0]) kb (nn - (j + 1)):=by
                   have h2:=HREP.out
                   rw [Int.toNat_natCast,show nn - j=(nn - (j + 1)) + 1 by omega,repL_succ,←hr] at h2
                   exact h2
                 exact h
               obtain ⟨c,hc⟩:∃ c,b.getD r 0=c:=⟨_,rfl⟩
               rw [hc] at hcr HRN
               rw [←hm]
               have HOW:=Lib.hid hown
               rw [←hm] at HOW
               have HTB2:=Lib.hid htb
               have HB2:=Lib.hid hbel
               have HM:=Lib.hid hm
               have hzi:=hbel.size
               clear hrep hbl hown htb hbel hcells hr hc hm HREP
               go_wp2_with (at_builtin;refine wpList_append_byte rfl _ _ rfl w.heap.size _ b rfl (HOW.out.alloc _) ⟨wr.heap.size,0,none⟩ 1 rfl ((c.toNat:Nat):Int) c ?d1 ?d2 ?d3 ?d4 ?_)
               case d2=>rfl
               case d3=>have:=HM.out;omega
               case d4=>first | omega | (simp;omega)
               · intro v2 w2 ho2 hg2 _
                 have HB3:Hid (Below w.heap.size w w2):=(HB2.out.alloc hzi _).grown hg2 (by simp;omega) (fun g hg=>(HOW.out.lt g hg).1)
                 have HTB3:Hid (tokBlk w2 Bt ⟨own,kb,nn⟩):=(HTB2.out.alloc _).grown hg2 (HOW.out.ne_tok HTB2.out)
                 have HO3:=Lib.hid ho2
                 clear ho2 hg2 hcr t1
                 go_wp2
                 go_roundw
                 case rel=>exact ⟨j + 1,b ++ [c],by omega,by go_num,by rw [Int.toNat_natCast];exact HRN.out,by rw [List.length_append,List.length_singleton,HBL.out];omega,HO3.out,HTB3.out,HB3.out⟩
                 case measure=>simp [intOf];omega
           · have HRN : Hid (textL [] l = textL b (l.drop (k + 1))) := by
               have h:textL [] l=textL b (l.drop (k + 1)):=by rw [HD.out,HREP.out,show nn - j=0 by omega];rfl
               exact h
             have HRW:Hid ((rightF (l.drop (k + 1)) (k + 1) b.length).1=0):=by
               have h:(rightF (l.drop (k + 1)) (k + 1) b.length).1=0:=by rw [hbl,show j=nn by omega];exact HW1.out
               exact h
             have HOW:=Lib.hid hown
             have HB2:=Lib.hid hbel
             obtain ⟨_,_,t2⟩:=htb.cells
             clear hrep hbl hown hbel htb
             go_wp2
             go_roundw
             case rel=>exact ⟨k + 1,b,by omega,by go_num,HRN.out,HRW.out,by have:=HBL.out;omega,HOW.out,HB2.out⟩
             case measure=>simp [intOf];omega
     · have HRN : Hid (textF l = acc) := by
         have h:textF l=acc:=by rw [HT.out,HTX.out,List.drop_eq_nil_of_le (by have:=HN.out;omega)];rfl
         exact h
       have hcv:=run_string_ownsB HO.out
       go_wp2
       go_ret2
       exact ⟨_,by rw [HRN.out];rfl,.inl ⟨HR.out,rfl⟩,HB.out⟩
 · have HT : Hid (textF l = []) := by
     have h:textF l=[]:=by unfold textF;rw [if_neg hr]
     exact h
   have HR0:=Lib.hid hr
   clear hv hl hz hr
   go_enter Tryz.func154,Tryz.ntmps154
   go_wp2_with fail
   refine (right_any _ l _ HV.out HLL.out HZ.out).mono ?_
   rintro r w0 ⟨err,rfl,hat,hb0⟩
   have HAT:=Lib.hid hat
   have HB0:=Lib.hid hb0
   obtain ⟨b,rfl,_⟩:∃ b,err=.iface 111 (.pointer (some ⟨b,0,none⟩))∧True:=by
     rcases hat with ⟨h,_⟩ | ⟨_,b,h,_⟩
     · exact absurd (by rw [h]) HR0.out
     · exact ⟨b,h,trivial⟩
   clear hat hb0
   go_wp2
   go_ret2
   exact ⟨_,by rw [HT.out];rfl,HAT.out,HB0.out⟩
end Go.Proofs.YtjkbmfpomgcblaaGreatDoor
namespace Go.Proofs.YtjkbmfpomgcblaaGreatDoor
open Go.RowKit
def sameV (f h:List Ent) (l:List Wr) (f2 h2:List Ent) (l2:List Wr):Bool:=decide (f=f2) && decide (h=h2) && decide (l=l2)
theorem sameV_self (f h:List Ent) (l:List Wr):sameV f h l f h l=true:=by simp [sameV]
def bat2 (w:World) (B:Nat) (a b c d e g:Value):Prop :=
 w.cell? ⟨B,0,none⟩=some a∧w.cell? ⟨B,1,none⟩=some b∧w.cell? ⟨B,2,none⟩=some c∧w.cell? ⟨B + 1,0,none⟩=some d∧w.cell? ⟨B + 1,1,none⟩=some e∧w.cell? ⟨B + 1,2,none⟩=some g
theorem bat2_new (w:World) (a b c d e g:Value) (t u:TypeId):bat2 ((w.alloc (.cells #[a,b,c] t)).alloc (.cells #[d,e,g] u)) w.heap.size a b c d e g:=by
 unfold bat2;simp
theorem bat2.drewN {w:World} {B:Nat} {a b c d e g:Value} (h:bat2 w B a b c d e g) (n:Nat):bat2 (w.drewN n) B a b c d e g:=h
theorem bat2.below {w w':World} {B:Nat} {a b c d e g:Value} {m:Nat} (h:bat2 w B a b c d e g) (hb:Below m w w') (hm:B + 1 < m):bat2 w' B a b c d e g :=
 ⟨(hb.cell (Nat.lt_of_succ_lt hm)).trans h.1,(hb.cell (Nat.lt_of_succ_lt hm)).trans h.2.1,(hb.cell (Nat.lt_of_succ_lt hm)).trans h.2.2.1,(hb.cell hm).trans h.2.2.2.1,(hb.cell hm).trans h.2.2.2.2.1,(hb.cell hm).trans h.2.2.2.2.2⟩
end Go.Proofs.YtjkbmfpomgcblaaGreatDoor
namespace Go.Proofs.YtjkbmfpomgcblaaGreatDoor
open Go.RowKit
set_option maxRecDepth 100000 in
set_option maxHeartbeats 4000000 in
theorem bsame_as (vf vh vw uf uh uw:Value) (f h:List Ent) (l:List Wr) (f2 h2:List Ent) (l2:List Wr) (c:Bool) (w:World) (hx:BatIs w vf vh vw f h l) (hy:BatIs w uf uh uw f2 h2 l2) (hc:sameV f h l f2 h2 l2=c) :
   Calls Tryz.prog 18 #[.agg #[vf,vh,vw],.agg #[uf,uh,uw]] w fun e w'=>e=.returned (.bool c)∧Below w.heap.size w w':=by
 subst hc
 have HX:=Lib.hid hx
 have HY:=Lib.hid hy
 obtain ⟨hf,hh,hv,_⟩:=hx
 obtain ⟨af,cf,rfl,_⟩:=hf.form
 obtain ⟨ah,ch,rfl,_⟩:=hh.form
 obtain ⟨aw,cw,rfl,_⟩:=hv.form
 obtain ⟨hf2,hh2,hv2,_⟩:=hy
 obtain ⟨bf,df,rfl,_⟩:=hf2.form
 obtain ⟨bh,dh,rfl,_⟩:=hh2.form
 obtain ⟨bw,dw,rfl,_⟩:=hv2.form
 clear hf hh hv hf2 hh2 hv2
 obtain ⟨nf,hn1⟩:∃ n,n=f.length:=⟨_,rfl⟩
 obtain ⟨nh,hn2⟩:∃ n,n=h.length:=⟨_,rfl⟩
 obtain ⟨n,hn3⟩:∃ n,n=l.length:=⟨_,rfl⟩
 obtain ⟨mf,hn4⟩:∃ n,n=f2.length:=⟨_,rfl⟩
 obtain ⟨mh,hn5⟩:∃ n,n=h2.length:=⟨_,rfl⟩
 obtain ⟨m,hn6⟩:∃ n,n=l2.length:=⟨_,rfl⟩
 rw [←hn1,←hn2,←hn3] at HX ⊢
 rw [←hn4,←hn5,←hn6] at HY ⊢
 obtain ⟨c1,e1⟩:∃ c,decide (f=f2)=c:=⟨_,rfl⟩
 obtain ⟨c2,e2⟩:∃ c,decide (h=h2)=c:=⟨_,rfl⟩
 obtain ⟨c3,e3⟩:∃ c,decide (l=l2)=c:=⟨_,rfl⟩
 have HR:Hid (sameV f h l f2 h2 l2=(c1 && c2 && c3)):=Lib.hid (by unfold sameV;rw [e1,e2,e3])
 have H1:=Lib.hid e1
 have H2:=Lib.hid e2
 have H3:=Lib.hid e3
 have HW0:Hid (Below w.heap.size w ((w.alloc (.cells #[.slice af nf cf,.slice ah nh ch,.slice aw n cw] 25)).alloc (.cells #[.slice bf mf df,.slice bh mh dh,.slice bw m dw] 25))):=Lib.hid (((Below.refl _ _).alloc (Nat.le_refl _) _).alloc (by simp) _)
 have HA:Hid (bat2 ((w.alloc (.cells #[.slice af nf cf,.slice ah nh ch,.slice aw n cw] 25)).alloc (.cells #[.slice bf mf df,.slice bh mh dh,.slice bw m dw] 25)) w.heap.size (.slice af nf cf) (.slice ah nh ch) (.slice aw n cw) (.slice bf mf df) (.slice bh mh dh) (.slice bw m dw)):=Lib.hid (bat2_new _ _ _ _ _ _ _ _ _)
 clear hn1 hn2 hn3 hn4 hn5 hn6 e1 e2 e3
 rw [HR.out]
 go_enter Tryz.func18,Tryz.ntmps18
 go_wp2_with fail
 generalize (w.alloc (.cells #[.slice af nf cf,.slice ah nh ch,.slice aw n cw] 25)).alloc (.cells #[.slice bf mf df,.slice bh mh dh,.slice bw m dw] 25)=W at HA HW0 ⊢
 have HX0:=Lib.hid (HX.out.below HW0.out)
 have HY0:=Lib.hid (HY.out.below HW0.out)
 refine (equal_asL _ _ f f2 c1 _ HX0.out.1 HY0.out.1 HX0.out.2.2.2.1 HY0.out.2.2.2.1 H1.out).mono ?_
 rintro r w1 ⟨rfl,q1,rfl⟩
 cases c1 with
 | false =>
   go_wp2
   go_ret
   exact ⟨rfl,below_drewN HW0.out _⟩
 | true =>
   obtain ⟨d0,d1,d2,d3,d4,d5⟩:=HA.out.drewN q1
   go_wp2_with fail
   refine (equal_asL _ _ h h2 c2 _ (HX0.out.2.1.drewN q1) (HY0.out.2.1.drewN q1) HX0.out.2.2.2.2.1 HY0.out.2.2.2.2.1 H2.out).mono ?_
   rintro r w2 ⟨rfl,q2,rfl⟩
   rw [World.drewN_drewN]
   clear d0 d1 d2 d3 d4 d5
   cases c2 with
   | false =>
     go_wp2
     go_ret
     exact ⟨rfl,below_drewN HW0.out _⟩
   | true =>
     obtain ⟨d0,d1,d2,d3,d4,d5⟩:=HA.out.drewN (q1 + q2)
     go_wp2_with fail
     refine (equalw_as _ _ l l2 c3 _ (HX0.out.2.2.1.drewN (q1 + q2)) (HY0.out.2.2.1.drewN (q1 + q2)) HX0.out.2.2.2.2.2.1 HY0.out.2.2.2.2.2.1 H3.out).mono ?_
     rintro r w3 ⟨rfl,q3,rfl⟩
     rw [World.drewN_drewN]
     clear d0 d1 d2 d3 d4 d5
     go_wp2
     go_ret
     exact ⟨by first | rfl | simp,below_drewN HW0.out _⟩
end Go.Proofs.YtjkbmfpomgcblaaGreatDoor
