import Derived.Deep.RegionHeld
import Derived.WalkKit
import Derived.Maps.OwnSet
import Derived.Maps.OwnOps
import Derived.Test.YtifbebhgeheooaaGreatDoorProg
import Derived.Handy
import Derived.KernelRfl
import Derived.Deep.AppendLies
import Derived.Laws.OwnMore
import Derived.Shelf.SlSortCmp.WholeK
import Derived.Ground.SlsfProg
import Derived.Lib.Hide
import Derived.Laws.IdiomStrings
namespace Go.Proofs.YtifbebhgeheooaaGreatDoor
open Go
section
variable {P:Program} {ops:Array Oper} {Q:Exit→Act→World→Prop} {md:Region.Mode} {S:World→Prop} {z:Nat}
def wpAnyZ (P:Program) (md:Region.Mode) (ops:Array Oper) (Q:Exit→Act→World→Prop) (S:World→Prop) (z:Nat):Nat→Array Bool→Act→World→Prop
 | 0,L,a,w=>Region.ready md ops L=[]∧Q .normal a w
 | n + 1,L,a,w=>(Region.ready md ops L=[]→Q .normal a w) ∧
   ∀ i∈Region.ready md ops L,wpOp P ops Q i (fun a' w'=>((L.setIfInBounds i true).getD z true=false→S w')∧wpAnyZ P md ops Q S z n (L.setIfInBounds i true) a' w') a w
theorem wpAny_of_Z:∀ (n:Nat) (L:Array Bool) (a:Act) (w:World),wpAnyZ P md ops Q S z n L a w→wpAny P md ops Q n L a w
 | 0,_,_,_,h=>h
 | n + 1,_,_,_,h=>⟨h.1,fun i hi=>wpOp_mono (fun a' w' h'=>wpAny_of_Z n _ a' w' h'.2) (h.2 i hi)⟩
def waitsZ (md:Region.Mode) (ops:Array Oper) (z i:Nat):Bool:=match ops[z]? with
 | some o=>o.after.any (fun e=>Region.binds md e && e.on == i)
 | none=>false
theorem waitsZ_spec {i:Nat} (h:waitsZ md ops z i=true):∃ o,ops[z]? = some o∧∃ e∈o.after,Region.binds md e=true∧e.on=i:=by
 unfold waitsZ at h
 split at h
 · rename_i o ho
   obtain ⟨e,he,hb⟩:=Array.any_eq_true'.1 h
   simp only [Bool.and_eq_true,beq_iff_eq] at hb
   exact ⟨o,ho,e,he,hb⟩
 · cases h
theorem not_readyZ {i:Nat} {L:Array Bool} (hw:waitsZ md ops z i=true) (hi:i∈Region.ready md ops L):z ∉ Region.ready md ops L:=fun hz=>by
 obtain ⟨o,ho,e,he,hb,rfl⟩:=waitsZ_spec hw
 obtain ⟨_,o2,ho2,hall⟩:=mem_ready.1 hz
 rw [ho] at ho2
 cases ho2
 have h1:=hall e he hb
 have h0:=(mem_ready.1 hi).1
 rcases Nat.lt_or_ge e.on L.size with h' | h'
 · simp [h'] at h0 h1;rw [h0] at h1;cases h1
 · simp [Array.getElem?_eq_none h'] at h1
theorem wpAnyZ_first {i:Nat} {oi:Oper} {v:Value} (hi:ops[i]? = some oi) (hsel:∀ (j:Nat) (o:Oper) cs b,ops[j]? = some o→o.op≠.select cs b) (hw:waitsZ md ops z i=true)
   (hQ:∀ c a w,Q (.panic c) (a.put oi.dst v) w→Q (.panic c) a w):∀ (n:Nat) (L:Array Bool) (a:Act) (w:World),
     (∀ j oj,ops[j]? = some oj→j≠i→L.getD j true=false→(∀ e∈oj.after,Region.binds md e=true→e.on≠i)→oi.apart ops oj=true) →
     i∈Region.ready md ops L→YieldsIf P ops S oi v a→S w→L.getD z true=false →
     wpAnyZ P md ops Q S z n (L.setIfInBounds i true) (a.put oi.dst v) w→wpAnyZ P md ops Q S z (n + 1) L a w:=by
 intro n
 induction n with
 | zero =>
   intro L a w _ hr hy hS hz H
   refine ⟨fun h=>(by rw [h] at hr;cases hr),fun j hj=>?_⟩
   by_cases hji:j=i
   · subst hji;exact hy.wpOp hi hS ⟨fun _=>hS,H⟩
   · have:=ready_mono hj hji
     rw [H.1] at this
     cases this
 | succ n ih =>
   intro L a w hfree hr hy hS hz H
   refine ⟨fun h=>(by rw [h] at hr;cases hr),fun j hj=>?_⟩
   by_cases hji:j=i
   · subst hji;exact hy.wpOp hi hS ⟨fun _=>hS,H⟩
   · have h1:=H.2 j (ready_mono hj hji)
     have hjz:j≠z:=fun e=>not_readyZ hw hr (e ▸ hj)
     have hiz:i≠z:=fun e=>not_readyZ hw hr (e ▸ hr)
     obtain ⟨hjun,oj,hoj,hall⟩:=mem_ready.1 hj
     have hnot:∀ e∈oj.after,Region.binds md e=true→e.on≠i:=fun e he hb heq=>by
       have h1:=hall e he hb
       have h0:=(mem_ready.1 hr).1
       rw [heq] at h1
       rcases Nat.lt_or_ge i L.size with h' | h'
       · simp [h'] at h0 h1;rw [h0] at h1;cases h1
       · simp [Array.getElem?_eq_none h'] at h1
     have h2:=wpOp_putIf hoj (hfree j oj hoj hji hjun hnot) (fun cs b=>hsel i oi cs b hi) (fun cs b=>hsel j oj cs b hoj) hQ hy h1
     have hfree':∀ k ok,ops[k]? = some ok→k≠i→(L.setIfInBounds j true).getD k true=false→(∀ e∈ok.after,Region.binds md e=true→e.on≠i)→oi.apart ops ok=true:=fun k ok hk hki hun hno=>by
       refine hfree k ok hk hki ?_ hno
       by_cases hjk:j=k
       · subst hjk;exact hjun
       · rw [getD_set_ne true hjk] at hun;exact hun
     have hz1:(L.setIfInBounds j true).getD z true=false:=by rw [getD_set_ne true hjz];exact hz
     have hz2:((L.setIfInBounds i true).setIfInBounds j true).getD z true=false:=by rw [getD_set_ne true hjz,getD_set_ne true hiz];exact hz
     refine wpOp_mono (fun a' w' h3=>⟨fun _=>h3.2.1 hz2,ih (L.setIfInBounds j true) a' w' hfree' (ready_mono hr (Ne.symm hji)) h3.1 (h3.2.1 hz2) hz1 ?_⟩) h2
     rw [Array.setIfInBounds_comm _ _ hji]
     exact h3.2.2
theorem wpAnyZ_take {i:Nat} {oi:Oper} {v:Value} {n:Nat} {L:Array Bool} {a:Act} {w:World} (hi:ops[i]? = some oi) (hs:Region.noSelect ops=true) (hf:Region.free md ops L i=true)
   (hr:((Region.ready md ops L).contains i && waitsZ md ops z i && !(L.getD z true))=true) (hQ:∀ c a w,Q (.panic c) (a.put oi.dst v) w→Q (.panic c) a w) (hy:YieldsIf P ops S oi v a) (hS:S w)
   (h:wpAnyZ P md ops Q S z n (L.setIfInBounds i true) (a.put oi.dst v) w):wpAnyZ P md ops Q S z (n + 1) L a w:=by
 simp only [Bool.and_eq_true,Bool.not_eq_true'] at hr
 exact wpAnyZ_first hi (Region.noSelect_spec hs) hr.1.2 hQ n L a w (Region.free_spec hi hf) (by simpa using hr.1.1) hy hS hr.2 h
def AllReadyZ (P:Program) (md:Region.Mode) (ops:Array Oper) (Q:Exit→Act→World→Prop) (S:World→Prop) (z n:Nat) (L:Array Bool) (a:Act) (w:World) (rs:List Nat):Prop :=
 ∀ i∈rs,wpOp P ops Q i (fun a' w'=>((L.setIfInBounds i true).getD z true=false→S w')∧wpAnyZ P md ops Q S z n (L.setIfInBounds i true) a' w') a w
theorem AllReadyZ.nil {n:Nat} {L:Array Bool} {a:Act} {w:World}:AllReadyZ P md ops Q S z n L a w []:=fun _ h=>by cases h
theorem AllReadyZ.cons {n:Nat} {L:Array Bool} {a:Act} {w:World} {i:Nat} {o:Oper} {rs:List Nat} (ho:ops[i]? = some o)
   (h:∀ K':Act→World→Prop,Shut (∀ a w,S w→(S w→wpAnyZ P md ops Q S z n (L.setIfInBounds i true) a w)→K' a w)→if Region.wanted o (yielded ops a.tmps)=true then Oper.wp P o a w K' Q else K' (a.put o.dst undef) w)
   (hs:AllReadyZ P md ops Q S z n L a w rs):AllReadyZ P md ops Q S z n L a w (i :: rs):=fun j hj=>by
 rcases List.mem_cons.1 hj with rfl | hj
 · exact wpOp_step ho (fun K' hK=>h K' (fun a w hS hW=>hK a w ⟨fun _=>hS,hW hS⟩))
 · exact hs j hj
theorem AllReadyZ.last {n:Nat} {L:Array Bool} {a:Act} {w:World} {o:Oper} (ho:ops[z]? = some o) (hl:z < L.size)
   (h:∀ K':Act→World→Prop,Shut (∀ a w,wpAnyZ P md ops Q S z n (L.setIfInBounds z true) a w→K' a w)→if Region.wanted o (yielded ops a.tmps)=true then Oper.wp P o a w K' Q else K' (a.put o.dst undef) w):AllReadyZ P md ops Q S z n L a w [z]:=fun j hj=>by
 obtain rfl:=List.mem_singleton.1 hj
 exact wpOp_step ho (fun K' hK=>h K' (fun a w hW=>hK a w ⟨fun e=>by simp [hl] at e,hW⟩))
theorem wpAnyZ_ready {rs:List Nat} {n:Nat} {L:Array Bool} {a:Act} {w:World} (hr:Region.ready md ops L=rs) (hne:rs≠[]) (h:AllReadyZ P md ops Q S z n L a w rs):wpAnyZ P md ops Q S z (n + 1) L a w :=
 ⟨fun h0=>absurd (hr ▸ h0) hne,hr ▸ h⟩
theorem wpAnyZ_done {L:Array Bool} {a:Act} {w:World} (hr:Region.ready md ops L=[]) (h:Q .normal a w):∀ n,wpAnyZ P md ops Q S z n L a w
 | 0=>⟨hr,h⟩
 | _ + 1=>⟨fun _=>h,by rw [hr];simp⟩
theorem wp_region_Z {id:Nat} {a:Act} {w:World} (z:Nat) (hm:P.follows .mixedOrders=true) (hS:S w.drew) (h:S w.drew→wpAnyZ P .any ops Q S z ops.size (Array.replicate ops.size false) a w.drew):(Code.region id ops true).wp P Q a w :=
 wp_region_any hm (wpAny_of_Z _ _ _ _ (h hS))
end
end Go.Proofs.YtifbebhgeheooaaGreatDoor
namespace Go.Proofs.YtifbebhgeheooaaGreatDoor
instance memB (s : ByteArray) (t : List ByteArray) : Decidable (s ∈ t) := decidable_of_iff (t.any (fun x => decide (x = s)) = true) (by simp)
def addK (t:List ByteArray) (s:ByteArray):List ByteArray:=if s∈t then t else t ++ [s]
def tabK:List ByteArray→List ByteArray→List ByteArray
 | t,[]=>t
 | t,s :: r=>tabK (addK t s) r
theorem addK_mem (t:List ByteArray) (s:ByteArray):s∈addK t s:=by
 unfold addK;split
 · assumption
 · simp
theorem addK_nodup {t:List ByteArray} {s:ByteArray} (h:t.Nodup):(addK t s).Nodup:=by
 unfold addK;split
 · exact h
 · rename_i hs
   rw [List.nodup_append]
   exact ⟨h,by simp,fun a ha b hb=>by simp at hb;subst hb;rintro rfl;exact hs ha⟩
theorem addK_pre (t:List ByteArray) (s:ByteArray):t <+: addK t s:=by
 unfold addK;split
 · exact List.prefix_rfl
 · exact List.prefix_append _ _
theorem tabK_pre (r:List ByteArray):∀ t,t <+: tabK t r:=by
 induction r with
 | nil=>intro t;exact List.prefix_rfl
 | cons s r ih=>intro t;exact (addK_pre t s).trans (ih _)
theorem tabK_nodup (r:List ByteArray):∀ t,t.Nodup→(tabK t r).Nodup:=by
 induction r with
 | nil=>intro t h;exact h
 | cons s r ih=>intro t h;exact ih _ (addK_nodup h)
theorem tabK_sub (r:List ByteArray):∀ t x,x∈tabK t r→x∈t∨x∈r:=by
 induction r with
 | nil=>intro t x h;exact .inl h
 | cons s r ih =>
   intro t x h
   rcases ih _ _ h with h1 | h1
   · unfold addK at h1
     split at h1
     · exact .inl h1
     · rcases List.mem_append.1 h1 with h2 | h2
       · exact .inl h2
       · simp at h2;subst h2;exact .inr (by simp)
   · exact .inr (List.mem_cons_of_mem _ h1)
theorem tabK_has (r:List ByteArray):∀ t x,x∈r→x∈tabK t r:=by
 induction r with
 | nil=>intro t x h;cases h
 | cons s r ih =>
   intro t x h
   rcases List.mem_cons.1 h with rfl | h
   · exact (tabK_pre r (addK t x)).subset (addK_mem t x)
   · exact ih _ _ h
end Go.Proofs.YtifbebhgeheooaaGreatDoor
namespace Go.Proofs.YtifbebhgeheooaaGreatDoor
open Go.Maps
def keyL (s:ByteArray):Lit:=.string s.data.toList
theorem keyL_inj {a b:ByteArray} (h:keyL a=keyL b):a=b:=by
 unfold keyL at h
 cases a;cases b
 simpa using h
theorem keyL_key (s:ByteArray):WideAt.IsKeyLit (keyL s):=trivial
theorem keyN (k:Int):WideAt.IsKeyLit (.int .i64 k):=trivial
structure NumM (D:DataW Unit) (t:List ByteArray):Prop where
 isMap:IsMap D
 nodup:t.Nodup
 there:∀ s,s∈t→has D (keyL s)=true
 none:∀ s,s ∉ t→has D (keyL s)=false
 at':∀ s (j:Nat),t[j]? = some s→D.atKey (keyL s) (.lit (.int .i64 0))=.lit (.int .i64 j)
theorem NumM.put {D:DataW Unit} {t:List ByteArray} (h:NumM D t) {s:ByteArray} (hs:s ∉ t):NumM (D.put (keyL s) (.lit (.int .i64 t.length))) (t ++ [s]):=by
 refine ⟨h.isMap.put _ _,?_,?_,?_,?_⟩
 · rw [List.nodup_append]
   exact ⟨h.nodup,by simp,fun a ha b hb=>by simp at hb;subst hb;rintro rfl;exact hs ha⟩
 · intro x hx
   rcases List.mem_append.1 hx with hx | hx
   · rw [has_put_other (fun e=>hs (by rw [←keyL_inj e];exact hx))];exact h.there x hx
   · simp at hx;subst hx;exact has_put_same h.isMap (keyL_key _) _
 · intro x hx
   have h1:x ∉ t:=fun h=>hx (List.mem_append_left _ h)
   have h2:x≠s:=fun e=>hx (by rw [e];simp)
   rw [has_put_other (fun e=>h2 (keyL_inj e))];exact h.none x h1
 · intro x j hj
   by_cases hlt:j < t.length
   · rw [List.getElem?_append_left hlt] at hj
     have hx:x∈t:=List.mem_of_getElem? hj
     rw [atKey_put_other (fun e=>hs (by rw [←keyL_inj e];exact hx))];exact h.at' x j hj
   · rw [List.getElem?_append_right (by omega)] at hj
     have hj0:j - t.length=0:=by have:=(List.getElem?_eq_some_iff.1 hj).1;simpa using this
     rw [hj0] at hj
     simp at hj
     subst hj
     rw [atKey_put_same h.isMap (keyL_key _)]
     rw [show j=t.length by omega]
structure SetM (D:DataW Unit) (t:List ByteArray):Prop where
 isMap:IsMap D
 there:∀ s,s∈t→D.atKey (keyL s) (.lit (.bool false))=.lit (.bool true)
 none:∀ s,s ∉ t→D.atKey (keyL s) (.lit (.bool false))=.lit (.bool false)
theorem SetM.put {D:DataW Unit} {t:List ByteArray} (h:SetM D t) (s:ByteArray):SetM (D.put (keyL s) (.lit (.bool true))) (t ++ [s]):=by
 refine ⟨h.isMap.put _ _,?_,?_⟩
 · intro x hx
   by_cases e:x=s
   · subst e;rw [atKey_put_same h.isMap (keyL_key _)]
   · rw [atKey_put_other (fun h=>e (keyL_inj h))]
     rcases List.mem_append.1 hx with hx | hx
     · exact h.there x hx
     · simp at hx;exact absurd hx e
 · intro x hx
   have h1:x ∉ t:=fun h=>hx (List.mem_append_left _ h)
   have h2:x≠s:=fun e=>hx (by rw [e];simp)
   rw [atKey_put_other (fun e=>h2 (keyL_inj e))];exact h.none x h1
structure ToldM (D:DataW Unit) (m:Nat):Prop where
 tidy:Tidy D
 size:Maps.size D=m
 below:∀ j:Nat,has D (.int .i64 j)=decide (j < m)
theorem ToldM.old {D:DataW Unit} {m j:Nat} (h:ToldM D m) (hj:j < m):ToldM (D.put (.int .i64 j) (.lit (.bool true))) m:=by
 refine ⟨h.tidy.put (keyN _) _,?_,?_⟩
 · rw [size_put h.tidy,h.below j,if_pos (by simpa using hj),h.size]
 · intro i
   by_cases e:i=j
   · subst e;rw [has_put_same h.tidy.isMap (keyN _)];simp [hj]
   · rw [has_put_other (by simp;omega)];exact h.below i
theorem ToldM.new {D:DataW Unit} {m:Nat} (h:ToldM D m):ToldM (D.put (.int .i64 m) (.lit (.bool true))) (m + 1):=by
 refine ⟨h.tidy.put (keyN _) _,?_,?_⟩
 · rw [size_put h.tidy,h.below m,if_neg (by simp),h.size]
 · intro i
   by_cases e:i=m
   · subst e;rw [has_put_same h.tidy.isMap (keyN _)];simp
   · rw [has_put_other (by simp;omega),h.below i]
     by_cases h1:i < m
     · simp [h1];omega
     · simp [h1];omega
end Go.Proofs.YtifbebhgeheooaaGreatDoor
namespace Go.Proofs.YtifbebhgeheooaaGreatDoor
open Go.RowKit
theorem info_str:(Tryz.prog.info? 9).map (fun i=>(i.zero,i.size,i.bytes))=some (some (.string ⟨#[]⟩),1,16):=by kernel_rfl
def ownsS (w:World) (base:Nat) (v:Value) (l:List ByteArray):Prop:=w.ownsRow base 9 1 v l.length (l.map Value.string)
theorem ownsS_nil (w:World) (base:Nat):ownsS w base (.slice none 0 0) []:=World.ownsRow_nil _ _ _ _
theorem ownsS.alloc {w:World} {base:Nat} {v:Value} {l:List ByteArray} (h:ownsS w base v l) (o:Obj):ownsS (w.alloc o) base v l:=World.ownsRow.alloc h o
theorem ownsS.drew {w:World} {base:Nat} {v:Value} {l:List ByteArray} (h:ownsS w base v l):ownsS w.drew base v l:=World.ownsRow.drew h
theorem ownsS.lt {w:World} {base:Nat} {v:Value} {l:List ByteArray} (h:ownsS w base v l):∀ k,v.ownBlock=some k→base≤k∧k < w.heap.size:=World.ownsRow.lt h
theorem ownsS.below {w w':World} {base:Nat} {v:Value} {l:List ByteArray} (h:ownsS w base v l) (hb:Below w.heap.size w w'):ownsS w' base v l:=by
 refine World.ownsRow.kept h (row:=none) ⟨hb.os,hb.tape,hb.output,hb.size,fun k hk _=>hb.block k hk⟩ ?_
 cases hv:v.ownBlock with
 | none=>exact .inl rfl
 | some g=>exact .inr (by simp)
theorem ownsS.forms {w:World} {base:Nat} {v:Value} {l:List ByteArray} (h:ownsS w base v l) :
   (v=.slice none 0 0∧l=[])∨∃ g cap,v=.slice (some ⟨g,0,none⟩) l.length cap∧base≤g∧g < w.heap.size∧∀ j,j < l.length→w.cell? ⟨g,j,none⟩=some (.string (l.getD j ByteArray.empty)):=by
 have hall:=h
 obtain ⟨h0,h1⟩:=h
 rcases h1 with ⟨rfl,hn⟩ | ⟨g,cap,cur,rfl,hb,hh,hc,hm,hs,ht⟩
 · exact .inl ⟨rfl,List.length_eq_zero_iff.1 hn⟩
 · refine .inr ⟨g,cap,rfl,hb,(World.ownsRow.lt hall g rfl).2,fun j hj=>?_⟩
   rw [World.ownsRow.cellAt hall j (by omega)]
   simp [List.getElem?_eq_getElem hj]
end Go.Proofs.YtifbebhgeheooaaGreatDoor
namespace Go.Proofs.YtifbebhgeheooaaGreatDoor
open Go.RowKit
def natV (n:Nat):Value:=.int .i64 (n:Int)
def ownsN (w:World) (base:Nat) (v:Value) (l:List Nat):Prop:=w.ownsRow base 3 1 v l.length (l.map natV)
theorem ownsN.alloc {w:World} {base:Nat} {v:Value} {l:List Nat} (h:ownsN w base v l) (o:Obj):ownsN (w.alloc o) base v l:=World.ownsRow.alloc h o
theorem ownsN.drew {w:World} {base:Nat} {v:Value} {l:List Nat} (h:ownsN w base v l):ownsN w.drew base v l:=World.ownsRow.drew h
theorem ownsN.lt {w:World} {base:Nat} {v:Value} {l:List Nat} (h:ownsN w base v l):∀ k,v.ownBlock=some k→base≤k∧k < w.heap.size:=World.ownsRow.lt h
theorem ownsN.below {w w':World} {base:Nat} {v:Value} {l:List Nat} (h:ownsN w base v l) (hb:Below w.heap.size w w'):ownsN w' base v l:=by
 refine World.ownsRow.kept h (row:=none) ⟨hb.os,hb.tape,hb.output,hb.size,fun k hk _=>hb.block k hk⟩ ?_
 cases hv:v.ownBlock with
 | none=>exact .inl rfl
 | some g=>exact .inr (by simp)
theorem ownsN.forms {w:World} {base:Nat} {v:Value} {l:List Nat} (h:ownsN w base v l) :
   (v=.slice none 0 0∧l=[])∨∃ g cap,v=.slice (some ⟨g,0,none⟩) l.length cap∧base≤g∧g < w.heap.size∧∀ j,j < l.length→w.cell? ⟨g,j,none⟩=some (.int .i64 ((l.getD j 0:Nat):Int)):=by
 have hall:=h
 obtain ⟨h0,h1⟩:=h
 rcases h1 with ⟨rfl,hn⟩ | ⟨g,cap,cur,rfl,hb,hh,hc,hm,hs,ht⟩
 · exact .inl ⟨rfl,List.length_eq_zero_iff.1 hn⟩
 · refine .inr ⟨g,cap,rfl,hb,(World.ownsRow.lt hall g rfl).2,fun j hj=>?_⟩
   rw [World.ownsRow.cellAt hall j (by omega)]
   simp [List.getElem?_eq_getElem hj,natV]
end Go.Proofs.YtifbebhgeheooaaGreatDoor
namespace Go.Proofs
open Go.Shelf
def Tryz.sortC_ren:Go.Shelf.Ren:=⟨fun | 6=>124 | 15=>143 | 14=>147 | 28=>162 | 29=>163 | 20=>167 | 21=>168 | 22=>169 | 23=>170 | 24=>171 | 25=>172 | 26=>173 | 27=>174 | 46=>192 | 47=>186 | 48=>187 | 49=>193 | 50=>194 | 57=>203 | n=>n,fun | 22=>55 | 24=>59 | 25=>201 | 3=>3 | 39=>96 | 0=>0 | 53=>220 | 55=>160 | 4=>4 | 46=>214 | 45=>213 | 50=>135 | 5=>5 | 9=>9 | 66=>234 | 70=>238 | 76=>248 | 77=>249 | n=>n,fun | n=>n⟩
theorem Tryz.sortC:Go.Proofs.SlLaysF0.n6 Tryz.prog Tryz.sortC_ren:={
 mixed:=by kernel_rfl
 f6:=⟨Tryz.f124.name,by decide,Tryz.func124.trans (congrArg some (by kernel_rfl))⟩
 f14:=⟨Tryz.f147.name,by decide,Tryz.func147.trans (congrArg some (by kernel_rfl))⟩
 f15:=Tryz.func143.trans (congrArg some (by kernel_rfl))
 f20:=⟨Tryz.f167.name,by decide,Tryz.func167.trans (congrArg some (by kernel_rfl))⟩
 f21:=⟨Tryz.f168.name,by decide,Tryz.func168.trans (congrArg some (by kernel_rfl))⟩
 f22:=⟨Tryz.f169.name,by decide,Tryz.func169.trans (congrArg some (by kernel_rfl))⟩
 f23:=⟨Tryz.f170.name,by decide,Tryz.func170.trans (congrArg some (by kernel_rfl))⟩
 f24:=⟨Tryz.f171.name,by decide,Tryz.func171.trans (congrArg some (by kernel_rfl))⟩
 f25:=⟨Tryz.f172.name,by decide,Tryz.func172.trans (congrArg some (by kernel_rfl))⟩
 f26:=⟨Tryz.f173.name,by decide,Tryz.func173.trans (congrArg some (by kernel_rfl))⟩
 f27:=⟨Tryz.f174.name,by decide,Tryz.func174.trans (congrArg some (by kernel_rfl))⟩
 f28:=Tryz.func162.trans (congrArg some (by kernel_rfl))
 f29:=Tryz.func163.trans (congrArg some (by kernel_rfl))
 f46:=⟨Tryz.f192.name,by decide,Tryz.func192.trans (congrArg some (by kernel_rfl))⟩
 f47:=Tryz.func186.trans (congrArg some (by kernel_rfl))
 f48:=Tryz.func187.trans (congrArg some (by kernel_rfl))
 f49:=⟨Tryz.f193.name,by decide,Tryz.func193.trans (congrArg some (by kernel_rfl))⟩
 f50:=⟨Tryz.f194.name,by decide,Tryz.func194.trans (congrArg some (by kernel_rfl))⟩
 f57:=⟨Tryz.f203.name,by decide,Tryz.func203.trans (congrArg some (by kernel_rfl))⟩
 t0:=Tryz.underlying0
 a0:=Tryz.isAgg0
 z0:=Tryz.sizeOf0
 v0:=Tryz.zeroValue0
 t3:=Tryz.underlying3
 a3:=Tryz.isAgg3
 z3:=Tryz.sizeOf3
 v3:=Tryz.zeroValue3
 t4:=Tryz.underlying4
 a4:=Tryz.isAgg4
 z4:=Tryz.sizeOf4
 v4:=Tryz.zeroValue4
 t5:=Tryz.underlying5
 a5:=Tryz.isAgg5
 z5:=Tryz.sizeOf5
 v5:=Tryz.zeroValue5
 t9:=Tryz.underlying9
 a9:=Tryz.isAgg9
 z9:=Tryz.sizeOf9
 v9:=Tryz.zeroValue9
 t22:=Tryz.underlying55
 a22:=Tryz.isAgg55
 z22:=Tryz.sizeOf55
 v22:=Tryz.zeroValue55
 t25:=Tryz.underlying201
 a25:=Tryz.isAgg201
 z25:=Tryz.sizeOf201
 v25:=Tryz.zeroValue201
 t39:=Tryz.underlying96
 a39:=Tryz.isAgg96
 z39:=Tryz.sizeOf96
 v39:=Tryz.zeroValue96
 t45:=Tryz.underlying213
 a45:=Tryz.isAgg213
 z45:=Tryz.sizeOf213
 v45:=Tryz.zeroValue213
 t46:=Tryz.underlying214
 a46:=Tryz.isAgg214
 z46:=Tryz.sizeOf214
 v46:=Tryz.zeroValue214
 t50:=Tryz.underlying135
 a50:=Tryz.isAgg135
 z50:=Tryz.sizeOf135
 v50:=Tryz.zeroValue135
 t53:=Tryz.underlying220
 a53:=Tryz.isAgg220
 z53:=Tryz.sizeOf220
 v53:=Tryz.zeroValue220
 t55:=Tryz.underlying160
 a55:=Tryz.isAgg160
 z55:=Tryz.sizeOf160
 v55:=Tryz.zeroValue160
 t66:=Tryz.underlying234
 a66:=Tryz.isAgg234
 z66:=Tryz.sizeOf234
 v66:=Tryz.zeroValue234
 t70:=Tryz.underlying238
 a70:=Tryz.isAgg238
 z70:=Tryz.sizeOf238
 v70:=Tryz.zeroValue238
 t76:=Tryz.underlying248
 a76:=Tryz.isAgg248
 z76:=Tryz.sizeOf248
 v76:=Tryz.zeroValue248
 t77:=Tryz.underlying249
 a77:=Tryz.isAgg249
 z77:=Tryz.sizeOf249
 v77:=Tryz.zeroValue249 }
end Go.Proofs
namespace Go.Proofs.YtifbebhgeheooaaGreatDoor
open Go.RowKit
def pickN (a n:Int):Int:=(a % 18446744073709551616) % n
theorem pickN_pos {a n:Int} (h:0 < n):0≤pickN a n∧pickN a n < n:=⟨Int.emod_nonneg _ (by omega),Int.emod_lt_of_pos _ h⟩
set_option maxRecDepth 100000 in
theorem pick_any (a n:Int) (w:World) (h0:0 < n) (h1:n≤9223372036854775807) :
   Calls Tryz.prog 16 #[.int .i64 a,.int .i64 n] w fun e w'=>e=.returned (.int .i64 (pickN a n))∧w=w':=by
 obtain ⟨q,hq'⟩:∃ q,IntKind.u64.wrap a=q:=⟨_,rfl⟩
 have hq:0≤q∧q≤18446744073709551615:=by rw [←hq',IntKind.wrap_u64];omega
 have hr:=Int.emod_nonneg q (show n≠0 by omega)
 have hr2:=Int.emod_lt_of_pos q h0
 have hw:Hid (wrap64 (q % n)=pickN a n):=by
   rw [IntWalk.wrap64_in _ ⟨by omega,by omega⟩,←hq',IntKind.wrap_u64];rfl
 clear hr hr2
 go_enter Tryz.func16,Tryz.ntmps16
 go_wp2
 go_ret
 refine ⟨?_,rfl⟩
 rw [←hw.out];rfl
end Go.Proofs.YtifbebhgeheooaaGreatDoor
namespace Go.Proofs.YtifbebhgeheooaaGreatDoor
def putL (n:Nat):List UInt8:=if n < 128 then [UInt8.ofNat n] else UInt8.ofNat (n % 128 + 128) :: putL (n / 128)
termination_by n
decreasing_by omega
theorem putL_small {n:Nat} (h:n < 128):putL n=[UInt8.ofNat n]:=by rw [putL,if_pos h]
theorem putL_big {n:Nat} (h:¬ n < 128):putL n=UInt8.ofNat (n % 128 + 128) :: putL (n / 128):=by rw [putL,if_neg h]
theorem putL_pos (n:Nat):0 < (putL n).length:=by
 by_cases h:n < 128
 · rw [putL_small h];simp
 · rw [putL_big h];simp
theorem toNat_ofNat_lt {n:Nat} (h:n < 256):(UInt8.ofNat n).toNat=n:=by simp;omega
theorem putL_len (j:Nat):∀ n,n < 128 ^ j→0 < j→(putL n).length≤j:=by
 induction j with
 | zero=>intro n _ h;omega
 | succ j ih =>
   intro n hn _
   by_cases h:n < 128
   · rw [putL_small h];simp
   · rw [putL_big h,List.length_cons]
     have hj:0 < j:=by
       rcases Nat.eq_zero_or_pos j with rfl | h'
       · simp at hn;omega
       · exact h'
     have h2:n / 128 < 128 ^ j:=by
       rw [Nat.pow_succ] at hn
       exact Nat.div_lt_of_lt_mul (by rw [Nat.mul_comm];exact hn)
     have:=ih (n / 128) h2 hj
     omega
theorem putL_le10 {n:Nat} (h:n < 18446744073709551616):(putL n).length≤10 :=
 putL_len 10 n (Nat.lt_of_lt_of_le h (by decide)) (by decide)
end Go.Proofs.YtifbebhgeheooaaGreatDoor
namespace Go.Proofs.YtifbebhgeheooaaGreatDoor
open Go.RowKit
def byteV (c:UInt8):Value:=.int .u8 (c.toNat:Int)
theorem info_u8:(Tryz.prog.info? 5).map (fun i=>(i.zero,i.size,i.bytes))=some (some (.int .u8 0),1,1):=by kernel_rfl
def ownsB (w:World) (base:Nat) (v:Value) (l:List UInt8):Prop:=w.ownsRow base 5 1 v l.length (l.map byteV)
theorem ownsB.alloc {w:World} {base:Nat} {v:Value} {l:List UInt8} (h:ownsB w base v l) (o:Obj):ownsB (w.alloc o) base v l:=World.ownsRow.alloc h o
theorem wpList_append_byte {w:World} {ops:Array Oper} {rest:List Oper} {o:Oper} {a:Act} {Q:Exit→Act→World→Prop} (hgd:o.guard=none) (s x:Operand)
   (ho:o.op=.call { callee:=.builtin .append,args:=#[s,x],argTypes:=#[155,155] })
   (base:Nat) (v:Value) (l:List UInt8) (hs:a.eval s=v) (hown:ownsB w base v l)
   (ad:Addr) (c:Nat) (hx:a.eval x=.slice (some ad) 1 c) (b:Int) (d:UInt8) (hcell:w.cell? (ad.add 0)=some (.int .u8 b)) (hb:b=(d.toNat:Int))
   (hlen:l.length + 1≤140737488355328) (hbase:base≤w.heap.size)
   (h:∀ v' w',ownsB w' base v' (l ++ [d])→w.grownBy w' v.ownBlock→v'≠.slice none 0 0→wpList Tryz.prog ops Q rest (a.put o.dst v') w'):wpList Tryz.prog ops Q (o :: rest) a w:=by
 obtain ⟨i0,hi,hz0,hz1,hz2⟩:=info_parts info_u8
 refine wpList_append_own w hgd s x 155 ho base 5 i0 (.int .u8 0) 1 1 Tryz.underlying155 hi hz0 hz1 hz2 rfl (by decide) v l.length (l.map byteV) hs hown ad 1 c [byteV d] hx rfl ?_ ?_ (by unfold maxLen;omega) (by omega) hbase ?_
 · intro j u hj
   match j,hj with
   | 0,hj=>simp at hj;subst hj;rw [hcell,hb];rfl
 · intro u hu;simp at hu;subst hu;rfl
 · intro v' w' h1 h2 h3
   refine h v' w' ?_ h2 ?_
   · unfold ownsB
     rw [List.length_append,List.map_append]
     exact h1
   · intro e;have:=(h3.1 e).2;omega
theorem run_string_ownsB {w:World} {base:Nat} {v:Value} {l:List UInt8} (h:ownsB w base v l) :
   (convert 155 9 v).run Tryz.prog w=.ok (.string ⟨l.toArray⟩) w:=by
 have hall:=h
 obtain ⟨h0,h1⟩:=h
 rcases h1 with ⟨rfl,hn⟩ | ⟨g,cap,cur,rfl,hb,hh,hc,hm,hs,ht⟩
 · have:l=[]:=List.length_eq_zero_iff.1 hn
   subst this
   rw [run_convert_bytes_string w _ _ _ _ _ _ Tryz.underlying155 Tryz.underlying5 Tryz.underlying9]
   rfl
 · refine run_convert_bytes_back w _ _ _ _ _ _ Tryz.underlying155 Tryz.underlying5 Tryz.underlying9 fun j hj=>?_
   exact World.ownsRow.cells hall rfl j (byteV l[j]) (by simp [List.getElem?_eq_getElem hj])
end Go.Proofs.YtifbebhgeheooaaGreatDoor
namespace Go.Proofs.YtifbebhgeheooaaGreatDoor
theorem bs_size (l:List UInt8):(⟨l.toArray⟩:ByteArray).size=l.length:=by simp [ByteArray.size]
theorem bs_of (s:ByteArray):(⟨s.data.toList.toArray⟩:ByteArray)=s:=by cases s;simp
end Go.Proofs.YtifbebhgeheooaaGreatDoor
