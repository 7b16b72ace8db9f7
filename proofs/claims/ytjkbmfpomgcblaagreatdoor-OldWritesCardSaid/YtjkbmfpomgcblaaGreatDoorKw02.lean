import Derived.Test.YtjkbmfpomgcblaaGreatDoorKw01
import Derived.Test.YtjkbmfpomgcblaaGreatDoorKw00
import Derived.Maps.OwnSet
import Derived.Maps.OwnOps
import Derived.RegionTactic
import Derived.OrdersHeld
import Derived.BigQuiet
import Derived.StringKeys
import Derived.Deep.Draws
import Derived.Test.YtjkbmfpomgcblaaGreatDoorRows
import Derived.Lib.Strings
import Derived.Laws.BitsAllLaws
namespace Go.Proofs.YtjkbmfpomgcblaaGreatDoor
open Go.Maps
def keyL (s:ByteArray):Lit:=.string s.data.toList
theorem keyL_inj {a b:ByteArray} (h:keyL a=keyL b):a=b:=by
 unfold keyL at h
 cases a;cases b
 simpa using h
theorem keyL_key (s:ByteArray):WideAt.IsKeyLit (keyL s):=trivial
theorem keyN (k:Int):WideAt.IsKeyLit (.int .i64 k):=trivial
structure NumM (D:DataW Unit) (t:List ByteArray):Prop where
 isMap:IsMap D
 nodup:t.Nodup
 there:∀ s,s∈t→has D (keyL s)=true
 none:∀ s,s ∉ t→has D (keyL s)=false
 at':∀ s (j:Nat),t[j]? = some s→D.atKey (keyL s) (.lit (.int .i64 0))=.lit (.int .i64 j)
theorem numM_nil:NumM (.map []) []:=⟨isMap_empty,List.nodup_nil,fun _ h=>(by cases h),fun _ _=>rfl,fun _ _ h=>(by simp at h)⟩
theorem NumM.put {D:DataW Unit} {t:List ByteArray} (h:NumM D t) {s:ByteArray} (hs:s ∉ t):NumM (D.put (keyL s) (.lit (.int .i64 t.length))) (t ++ [s]):=by
 refine ⟨h.isMap.put _ _,?_,?_,?_,?_⟩
 · rw [List.nodup_append]
   exact ⟨h.nodup,by simp,fun a ha b hb=>by simp at hb;subst hb;rintro rfl;exact hs ha⟩
 · intro x hx
   rcases List.mem_append.1 hx with hx | hx
   · rw [has_put_other (fun e=>hs (by rw [←keyL_inj e];exact hx))];exact h.there x hx
   · simp at hx;subst hx;exact has_put_same h.isMap (keyL_key _) _
 · intro x hx
   have h1:x ∉ t:=fun h=>hx (List.mem_append_left _ h)
   have h2:x≠s:=fun e=>hx (by rw [e];simp)
   rw [has_put_other (fun e=>h2 (keyL_inj e))];exact h.none x h1
 · intro x j hj
   by_cases hlt:j < t.length
   · rw [List.getElem?_append_left hlt] at hj
     have hx:x∈t:=List.mem_of_getElem? hj
     rw [atKey_put_other (fun e=>hs (by rw [←keyL_inj e];exact hx))];exact h.at' x j hj
   · rw [List.getElem?_append_right (by omega)] at hj
     have hj0:j - t.length=0:=by have:=(List.getElem?_eq_some_iff.1 hj).1;simpa using this
     rw [hj0] at hj
     simp at hj
     subst hj
     rw [atKey_put_same h.isMap (keyL_key _)]
     rw [show j=t.length by omega]
structure SetM (D:DataW Unit) (t:List ByteArray):Prop where
 isMap:IsMap D
 there:∀ s,s∈t→D.atKey (keyL s) (.lit (.bool false))=.lit (.bool true)
 none:∀ s,s ∉ t→D.atKey (keyL s) (.lit (.bool false))=.lit (.bool false)
theorem SetM.put {D:DataW Unit} {t:List ByteArray} (h:SetM D t) (s:ByteArray):SetM (D.put (keyL s) (.lit (.bool true))) (t ++ [s]):=by
 refine ⟨h.isMap.put _ _,?_,?_⟩
 · intro x hx
   by_cases e:x=s
   · subst e;rw [atKey_put_same h.isMap (keyL_key _)]
   · rw [atKey_put_other (fun h=>e (keyL_inj h))]
     rcases List.mem_append.1 hx with hx | hx
     · exact h.there x hx
     · simp at hx;exact absurd hx e
 · intro x hx
   have h1:x ∉ t:=fun h=>hx (List.mem_append_left _ h)
   have h2:x≠s:=fun e=>hx (by rw [e];simp)
   rw [atKey_put_other (fun e=>h2 (keyL_inj e))];exact h.none x h1
structure ToldM (D:DataW Unit) (m:Nat):Prop where
 tidy:Tidy D
 size:Maps.size D=m
 below:∀ j:Nat,has D (.int .i64 j)=decide (j < m)
theorem ToldM.old {D:DataW Unit} {m j:Nat} (h:ToldM D m) (hj:j < m):ToldM (D.put (.int .i64 j) (.lit (.bool true))) m:=by
 refine ⟨h.tidy.put (keyN _) _,?_,?_⟩
 · rw [size_put h.tidy,h.below j,if_pos (by simpa using hj),h.size]
 · intro i
   by_cases e:i=j
   · subst e;rw [has_put_same h.tidy.isMap (keyN _)];simp [hj]
   · rw [has_put_other (by simp;omega)];exact h.below i
theorem ToldM.new {D:DataW Unit} {m:Nat} (h:ToldM D m):ToldM (D.put (.int .i64 m) (.lit (.bool true))) (m + 1):=by
 refine ⟨h.tidy.put (keyN _) _,?_,?_⟩
 · rw [size_put h.tidy,h.below m,if_neg (by simp),h.size]
 · intro i
   by_cases e:i=m
   · subst e;rw [has_put_same h.tidy.isMap (keyN _)];simp
   · rw [has_put_other (by simp;omega),h.below i]
     by_cases h1:i < m
     · simp [h1];omega
     · simp [h1];omega
theorem plainElem_str_inv {H:Type} {P:Program} {e:TypeId} (he:P.underlying e=some .string) {v:Value} {z:DataW H×List MemPlace} (h:plainElem P e v=some z):∃ s:ByteArray,v=.string s∧z=(.lit (.string s.data.toList),[]):=by
 unfold plainElem at h
 rw [he] at h
 cases v <;> simp at h
 exact ⟨_,rfl,h.2.symm⟩
end Go.Proofs.YtjkbmfpomgcblaaGreatDoor
namespace Go.Proofs.YtjkbmfpomgcblaaGreatDoor
open Go
theorem count_down {L:Array Bool} {i:Nat} (h:L.getD i true=false):(L.setIfInBounds i true).toList.count false + 1≤L.toList.count false∧i < L.size:=by
 have hi:i < L.size:=by
   rcases Nat.lt_or_ge i L.size with h' | h'
   · exact h'
   · simp [Array.getElem?_eq_none h'] at h
 have hv : L.toList[i]'(by simpa using hi) = false := by
   simp [hi] at h
   simpa using h
 refine ⟨?_,hi⟩
 rw [Array.toList_setIfInBounds,List.count_set (by simpa using hi),hv]
 have hpos:0 < L.toList.count false:=List.count_pos_iff.2 (by rw [←hv];exact List.getElem_mem _)
 simp only [beq_self_eq_true,if_true]
 have:(true == false)=false:=rfl
 rw [this]
 simp only [Bool.false_eq_true,if_false]
 omega
section
variable {P:Program} {ops:Array Oper} {Q:Exit→Act→World→Prop} {md:Region.Mode}
theorem ready_none {L:Array Bool} (hs:L.size=ops.size) (hb:∀ (i:Nat) (o:Oper),ops[i]? = some o→∀ e∈o.after,e.on < i) (h:Region.ready md ops L=[]):∀ i,i < ops.size→L.getD i false=true:=by
 intro i
 induction i using Nat.strongRecOn with
 | _ i ih =>
   intro hi
   cases hc:L.getD i false with
   | true=>rfl
   | false =>
     have hm:i∈Region.ready md ops L:=mem_ready.2 ⟨by
       have hL:i < L.size:=by omega
       simp [hL] at hc ⊢;exact hc,ops[i],by simp [hi],fun e he _=>by
       have:=hb i ops[i] (by simp [hi]) e he
       exact ih e.on this (by omega)⟩
     rw [h] at hm
     cases hm
theorem wpAny_law (J:Array Bool→Act→World→Prop) (hb:∀ (i:Nat) (o:Oper),ops[i]? = some o→∀ e∈o.after,e.on < i)
   (hstep:∀ (i:Nat) (o:Oper),ops[i]? = some o→∀ (L:Array Bool) (a:Act) (W:World),L.size=ops.size→(∀ e∈o.after,Region.binds md e=true→L.getD e.on false=true)→L.getD i true=false→J L a W→wpOp P ops Q i (J (L.setIfInBounds i true)) a W)
   (hend:∀ (L:Array Bool) (a:Act) (W:World),(∀ i,i < ops.size→L.getD i false=true)→J L a W→Q .normal a W) :
   ∀ (fuel:Nat) (L:Array Bool) (a:Act) (W:World),L.size=ops.size→L.toList.count false≤fuel→J L a W→wpAny P md ops Q fuel L a W:=by
 intro fuel
 induction fuel with
 | zero =>
   intro L a W hs hc hJ
   have hall:∀ i,i < ops.size→L.getD i false=true:=fun i hi=>by
     have hL:i < L.size:=by omega
     have h0:L.toList.count false=0:=by omega
     have hn:=List.count_eq_zero.1 h0
     have:L[i]=true:=by
       cases hv:L[i] with
       | true=>rfl
       | false=>exact absurd (by rw [←hv];simp) hn
     simp [hL,this]
   refine ⟨?_,hend L a W hall hJ⟩
   cases hr:Region.ready md ops L with
   | nil=>rfl
   | cons j r =>
     have hj:j∈Region.ready md ops L:=by rw [hr];simp
     obtain ⟨h1,_⟩:=mem_ready.1 hj
     obtain ⟨h2,h3⟩:=count_down h1
     omega
 | succ fuel ih =>
   intro L a W hs hc hJ
   refine ⟨fun hr=>hend L a W (ready_none hs hb hr) hJ,fun i hi=>?_⟩
   obtain ⟨hun,o,hoi,hall⟩:=mem_ready.1 hi
   obtain ⟨h2,h3⟩:=count_down hun
   exact wpOp_mono (fun a' W' hJ'=>ih _ a' W' (by simpa using hs) (by omega) hJ') (hstep i o hoi L a W hs hall hun hJ)
def backB (ops:Array Oper):Bool:=(List.range ops.size).all fun i=>match ops[i]? with | some o=>o.after.all (fun e=>decide (e.on < i)) | none=>true
theorem of_backB (h:backB ops=true):∀ (i:Nat) (o:Oper),ops[i]? = some o→∀ e∈o.after,e.on < i:=by
 intro i o hi e he
 have hlt:i < ops.size:=(Array.getElem?_eq_some_iff.1 hi).1
 have h1:=List.all_eq_true.1 h i (by simpa using hlt)
 rw [hi] at h1
 have h2:=Array.all_eq_true'.1 h1 e he
 simpa using h2
theorem none_yet (n j:Nat):(Array.replicate n false).getD j false=false:=by
 by_cases h:j < n <;> simp [h]
theorem getD_put {L:Array Bool} {i j:Nat} (h:(L.setIfInBounds i true).getD j false=true):j=i∨L.getD j false=true:=by
 by_cases hij:i=j
 · exact .inl hij.symm
 · right
   simpa [Array.getElem?_setIfInBounds,hij] using h
theorem getD_keep {L:Array Bool} {i j:Nat} (h:L.getD j false=true):(L.setIfInBounds i true).getD j false=true:=by
 by_cases hij:i=j
 · subst hij
   have:i < L.size:=by
     rcases Nat.lt_or_ge i L.size with h' | h'
     · exact h'
     · simp [Array.getElem?_eq_none h'] at h
   simp [this]
 · simpa [Array.getElem?_setIfInBounds,hij] using h
end
end Go.Proofs.YtjkbmfpomgcblaaGreatDoor
namespace Go.Proofs.YtjkbmfpomgcblaaGreatDoor
open Go.RowKit
def IsTexts (w:World) (v:Value) (l:List ByteArray):Prop :=
 ∃ a cap,v=.slice a l.length cap∧l.length≤cap∧∀ k s,l[k]? = some s→∃ b off,a=some ⟨b,off,none⟩∧b < w.heap.size∧w.cell? ⟨b,off + k,none⟩=some (.string s)
def IsNums (w:World) (v:Value) (l:List Int):Prop :=
 ∃ a cap,v=.slice a l.length cap∧l.length≤cap∧∀ k n,l[k]? = some n→∃ b off,a=some ⟨b,off,none⟩∧b < w.heap.size∧w.cell? ⟨b,off + k,none⟩=some (.int .i64 n)
theorem IsTexts.below {w w':World} {v:Value} {l:List ByteArray} (h:IsTexts w v l) (hb:Below w.heap.size w w'):IsTexts w' v l:=by
 obtain ⟨a,cap,h1,h2,h3⟩:=h
 exact ⟨a,cap,h1,h2,fun k s hk=>by obtain ⟨b,off,e,hlt,hc⟩:=h3 k s hk;exact ⟨b,off,e,Nat.lt_of_lt_of_le hlt hb.size,(hb.cell hlt).trans hc⟩⟩
theorem IsNums.below {w w':World} {v:Value} {l:List Int} (h:IsNums w v l) (hb:Below w.heap.size w w'):IsNums w' v l:=by
 obtain ⟨a,cap,h1,h2,h3⟩:=h
 exact ⟨a,cap,h1,h2,fun k s hk=>by obtain ⟨b,off,e,hlt,hc⟩:=h3 k s hk;exact ⟨b,off,e,Nat.lt_of_lt_of_le hlt hb.size,(hb.cell hlt).trans hc⟩⟩
theorem IsTexts.alloc {w:World} {v:Value} {l:List ByteArray} (h:IsTexts w v l) (o:Obj):IsTexts (w.alloc o) v l:=h.below ((Below.refl _ _).alloc (Nat.le_refl _) _)
theorem IsNums.alloc {w:World} {v:Value} {l:List Int} (h:IsNums w v l) (o:Obj):IsNums (w.alloc o) v l:=h.below ((Below.refl _ _).alloc (Nat.le_refl _) _)
theorem IsTexts.drewN {w:World} {v:Value} {l:List ByteArray} (h:IsTexts w v l) (n:Nat):IsTexts (w.drewN n) v l:=h.below ⟨rfl,rfl,rfl,Nat.le_refl _,fun _ _=>rfl⟩
theorem IsNums.drewN {w:World} {v:Value} {l:List Int} (h:IsNums w v l) (n:Nat):IsNums (w.drewN n) v l:=h.below ⟨rfl,rfl,rfl,Nat.le_refl _,fun _ _=>rfl⟩
theorem IsTexts.drew {w:World} {v:Value} {l:List ByteArray} (h:IsTexts w v l):IsTexts w.drew v l:=h.below ((Below.refl _ _).drew)
theorem IsNums.drew {w:World} {v:Value} {l:List Int} (h:IsNums w v l):IsNums w.drew v l:=h.below ((Below.refl _ _).drew)
theorem isTexts_nil (w:World):IsTexts w (.slice none 0 0) []:=⟨none,0,rfl,Nat.le_refl _,fun k s h=>by simp at h⟩
theorem isNums_nil (w:World):IsNums w (.slice none 0 0) []:=⟨none,0,rfl,Nat.le_refl _,fun k s h=>by simp at h⟩
theorem IsTexts.take {w:World} {a:Option Addr} {cap:Nat} {l:List ByteArray} (h:IsTexts w (.slice a l.length cap) l) (i c:Nat) (hi:i≤l.length) (hc:i≤c):IsTexts w (.slice a i c) (l.take i):=by
 obtain ⟨a',cap',h1,h2,h3⟩:=h
 obtain ⟨rfl,_,rfl⟩:=Value.slice.inj h1
 refine ⟨a,c,by rw [List.length_take,Nat.min_eq_left hi],by rw [List.length_take];omega,fun k s hk=>?_⟩
 have hki:k < i:=by have:=(List.getElem?_eq_some_iff.1 hk).1;rw [List.length_take] at this;omega
 rw [List.getElem?_take_of_lt hki] at hk
 exact h3 k s hk
theorem ownsS.isTexts {w:World} {base:Nat} {v:Value} {l:List ByteArray} (h:ownsS w base v l):IsTexts w v l:=by
 rcases h.forms with ⟨rfl,rfl⟩ | ⟨g,cap,rfl,hb,hg,hc⟩
 · exact isTexts_nil w
 · have hcap : l.length ≤ cap := by
     rcases h.2 with ⟨e,_⟩ | ⟨_,_,_,e,_,_,hcl,_⟩
     · simp at e
     · obtain ⟨_,_,rfl⟩:=Value.slice.inj e;omega
   refine ⟨_,cap,rfl,hcap,fun k s hk=>⟨g,0,rfl,hg,?_⟩⟩
   obtain ⟨hkl,e⟩:=List.getElem?_eq_some_iff.1 hk
   have:=hc k hkl
   rw [Nat.zero_add,this]
   simp [List.getD_eq_getElem?_getD,hk]
theorem ownsN.isNums {w:World} {base:Nat} {v:Value} {l:List Nat} (h:ownsN w base v l):IsNums w v (l.map Int.ofNat):=by
 rcases h.forms with ⟨rfl,rfl⟩ | ⟨g,cap,rfl,hb,hg,hc⟩
 · exact isNums_nil w
 · have hcap : l.length ≤ cap := by
     rcases h.2 with ⟨e,_⟩ | ⟨_,_,_,e,_,_,hcl,_⟩
     · simp at e
     · obtain ⟨_,_,rfl⟩:=Value.slice.inj e;omega
   refine ⟨some ⟨g,0,none⟩,cap,by rw [List.length_map],by rw [List.length_map];exact hcap,fun k s hk=>⟨g,0,rfl,hg,?_⟩⟩
   rw [List.getElem?_map] at hk
   obtain ⟨n,hn,rfl⟩:=Option.map_eq_some_iff.1 hk
   have hkl:=(List.getElem?_eq_some_iff.1 hn).1
   have:=hc k hkl
   rw [Nat.zero_add,this]
   simp [List.getD_eq_getElem?_getD,hn]
theorem rows_apart {w:World} {base base':Nat} {e1 e2:TypeId} {k1 k2 n1 n2:Nat} {v1 v2:Value} {x1 x2:List Value} (h1:w.ownsRow base e1 k1 v1 n1 x1) (h2:w.ownsRow base' e2 k2 v2 n2 x2) (hne:e1≠e2) :
   v1.ownBlock=none∨v1.ownBlock≠v2.ownBlock:=by
 rcases h1.2 with ⟨rfl,_⟩ | ⟨g,cap,cur,rfl,_,hh,_⟩
 · exact .inl rfl
 · refine .inr ?_
   rcases h2.2 with ⟨rfl,_⟩ | ⟨g',cap',cur',rfl,_,hh',_⟩
   · simp [Value.ownBlock]
   · intro e
     have:g=g':=by simpa [Value.ownBlock] using e
     subst this
     rw [hh] at hh'
     injection hh' with hh'
     injection hh' with _ ht
     exact hne ht
theorem ownsS.off {w:World} {base b:Nat} {v:Value} {l:List ByteArray} (h:ownsS w base v l) (hb:b < base):v.ownBlock≠some b:=fun e=>by have:=(h.lt b e).1;omega
theorem ownsN.off {w:World} {base b:Nat} {v:Value} {l:List Nat} (h:ownsN w base v l) (hb:b < base):v.ownBlock≠some b:=fun e=>by have:=(h.lt b e).1;omega
theorem ownsS.mono {w:World} {base b:Nat} {v:Value} {l:List ByteArray} (h:ownsS w base v l) (hb:b≤base):ownsS w b v l:=by
 refine ⟨h.1,?_⟩
 rcases h.2 with h1 | ⟨g,cap,cur,e,h2,h3⟩
 · exact .inl h1
 · exact .inr ⟨g,cap,cur,e,Nat.le_trans hb h2,h3⟩
theorem ownsN.mono {w:World} {base b:Nat} {v:Value} {l:List Nat} (h:ownsN w base v l) (hb:b≤base):ownsN w b v l:=by
 refine ⟨h.1,?_⟩
 rcases h.2 with h1 | ⟨g,cap,cur,e,h2,h3⟩
 · exact .inl h1
 · exact .inr ⟨g,cap,cur,e,Nat.le_trans hb h2,h3⟩
end Go.Proofs.YtjkbmfpomgcblaaGreatDoor
namespace Go.Proofs.YtjkbmfpomgcblaaGreatDoor
open Go.RowKit Go.Maps
theorem keyedS:Keyed Tryz.prog 9:=string_keyed Tryz.underlying9
theorem zeroI (w:World):(zeroValue 3).run Tryz.prog w=.ok (.int .i64 0) w:=by kernel_rfl
theorem keyS {s:ByteArray} (h:s.size≤maxLen):keyOf Tryz.prog 9 (.string s)=some (keyL s):=Go.WideMaps.keyOf_string_mk Tryz.underlying9 h
def ownsNum (w:World) (b n:Nat) (t:List ByteArray):Prop:=∃ D,NumM D t∧w.ownsMap Tryz.prog 9 (plainElem Tryz.prog 3) b n D
theorem ownsNum_made (w:World):ownsNum (w.alloc (.map #[] 0)) w.heap.size 0 []:=⟨_,numM_nil,World.ownsMap_made _ _ _ _⟩
theorem ownsNum.kept {w w':World} {b n:Nat} {t:List ByteArray} {row:Option Nat} (h:ownsNum w b n t) (hg:w.grownBy w' row) (hne:some b≠row):ownsNum w' b n t:=by
 obtain ⟨D,h1,h2⟩:=h;exact ⟨D,h1,h2.kept hg hne⟩
theorem ownsNum.alloc {w:World} {b n:Nat} {t:List ByteArray} (h:ownsNum w b n t) (o:Obj):ownsNum (w.alloc o) b n t:=by
 obtain ⟨D,h1,h2⟩:=h;exact ⟨D,h1,h2.alloc o⟩
theorem ownsNum.drew {w:World} {b n:Nat} {t:List ByteArray} (h:ownsNum w b n t):ownsNum w.drew b n t:=by
 obtain ⟨D,h1,h2⟩:=h;exact ⟨D,h1,h2.drew⟩
theorem ownsNum.mono {w:World} {b n m:Nat} {t:List ByteArray} (h:ownsNum w b n t) (hm:n≤m):ownsNum w b m t:=by
 obtain ⟨D,h1,h2⟩:=h;exact ⟨D,h1,h2.mono hm⟩
theorem ownsNum.lt {w:World} {b n:Nat} {t:List ByteArray} (h:ownsNum w b n t):b < w.heap.size:=by
 obtain ⟨D,h1,h2⟩:=h;exact h2.lt
theorem ownsNum.below {w w':World} {b n:Nat} {t:List ByteArray} (h:ownsNum w b n t) (hb:Below w.heap.size w w'):ownsNum w' b n t :=
 h.kept (row:=none) ⟨hb.os,hb.tape,hb.output,hb.size,fun k hk _=>hb.block k hk⟩ (by simp)
theorem ownsNum.nodup {w:World} {b n:Nat} {t:List ByteArray} (h:ownsNum w b n t):t.Nodup:=by
 obtain ⟨D,h1,h2⟩:=h;exact h1.nodup
section
variable {w:World} {ops:Array Oper} {rest:List Oper} {o:Oper} {a:Act} {Q:Exit→Act→World→Prop}
theorem wpList_num_there (hg:o.guard=none) (m x:Operand) (hop:o.op=Op.lookup 206 m x true) (b n:Nat) (t:List ByteArray)
   (hm:a.eval m=.map (some b)) (hown:ownsNum w b n t) (s:ByteArray) (hx:a.eval x=.string s) (hs:s.size≤maxLen) (j:Nat) (hj:t[j]? = some s)
   (hK:wpList Tryz.prog ops Q rest (a.put o.dst (.tuple #[.int .i64 j,.bool true])) w):wpList Tryz.prog ops Q (o :: rest) a w:=by
 obtain ⟨D,h1,h2⟩:=hown
 refine wpList_lookup_own_ok_int w hg m x _ hop 9 3 .i64 keyedS Tryz.underlying206 Tryz.underlying3 (zeroI w) b n D hm h2 _ _ hx (keyS hs) ?_
 intro c hc _
 rw [h1.at' s j hj] at hc
 obtain rfl:(j:Int)=c:=by simpa using hc
 rw [h1.there s (List.mem_of_getElem? hj)]
 exact hK
theorem wpList_num_none (hg:o.guard=none) (m x:Operand) (hop:o.op=Op.lookup 206 m x true) (b n:Nat) (t:List ByteArray)
   (hm:a.eval m=.map (some b)) (hown:ownsNum w b n t) (s:ByteArray) (hx:a.eval x=.string s) (hs:s.size≤maxLen) (hj:s ∉ t)
   (hK:∀ c,wpList Tryz.prog ops Q rest (a.put o.dst (.tuple #[.int .i64 c,.bool false])) w):wpList Tryz.prog ops Q (o :: rest) a w:=by
 obtain ⟨D,h1,h2⟩:=hown
 refine wpList_lookup_own_ok_int w hg m x _ hop 9 3 .i64 keyedS Tryz.underlying206 Tryz.underlying3 (zeroI w) b n D hm h2 _ _ hx (keyS hs) ?_
 intro c hc _
 rw [h1.none s hj]
 exact hK c
theorem wpList_num_put (hg:o.guard=none) (m x v:Operand) (hop:o.op=Op.mapUpdate 206 m x v) (b n:Nat) (t:List ByteArray)
   (hm:a.eval m=.map (some b)) (hown:ownsNum w b n t) (hn:n < maxLen) (s:ByteArray) (hx:a.eval x=.string s) (hv:a.eval v=.int .i64 (t.length:Nat)) (hs:s.size≤maxLen) (hj:s ∉ t) (ht:t.length≤maxLen)
   (hK:∀ w',ownsNum w' b (n + 1) (t ++ [s])→w.grownBy w' (some b)→wpList Tryz.prog ops Q rest (a.put o.dst undef) w'):wpList Tryz.prog ops Q (o :: rest) a w:=by
 obtain ⟨D,h1,h2⟩:=hown
 refine wpList_mapUpdate_own w hg m x v _ hop 9 3 keyedS Tryz.underlying206 _ b n D hm h2 hn _ _ _ hx hv (keyS hs) (.lit (.int .i64 t.length)) [] (plainElem_int Tryz.underlying3 (WalkArith.wf_i64 (by unfold maxLen at ht;omega))) ?_
 intro w' h3 h4
 exact hK w' ⟨_,h1.put hj,h3⟩ h4
end
end Go.Proofs.YtjkbmfpomgcblaaGreatDoor
namespace Go.Proofs.YtjkbmfpomgcblaaGreatDoor
open Go.RowKit
def tokC (t:Tok):List Value:=[.string t.own,.int .i64 t.back,.int .i64 t.size]
def toksC (l:List Tok):List Value:=l.flatMap tokC
theorem toksC_len (l:List Tok):(toksC l).length=l.length * 3:=by
 induction l with
 | nil=>rfl
 | cons t r ih=>simp only [toksC,List.flatMap_cons,List.length_append,List.length_cons] at ih ⊢;rw [ih];simp [tokC];omega
theorem toksC_app (a b:List Tok):toksC (a ++ b)=toksC a ++ toksC b:=by simp [toksC]
theorem toksC_at (l:List Tok) (i j:Nat) (t:Tok) (h:l[i]? = some t) (hj:j < 3):(toksC l)[i * 3 + j]? = (tokC t)[j]? := by
 induction l generalizing i with
 | nil=>simp at h
 | cons u r ih =>
   have hc:toksC (u :: r)=tokC u ++ toksC r:=by simp [toksC]
   have h3:(tokC u).length=3:=rfl
   rw [hc]
   cases i with
   | zero =>
     obtain rfl:u=t:=by simpa using h
     rw [List.getElem?_append_left (by omega)]
     congr 1;omega
   | succ i =>
     rw [List.getElem?_append_right (by omega),h3,show (i + 1) * 3 + j - 3=i * 3 + j by omega]
     exact ih i (by simpa using h)
def ownsK (w:World) (base:Nat) (v:Value) (l:List Tok):Prop:=w.ownsRow base 224 3 v l.length (toksC l)
theorem ownsK.alloc {w:World} {base:Nat} {v:Value} {l:List Tok} (h:ownsK w base v l) (o:Obj):ownsK (w.alloc o) base v l:=World.ownsRow.alloc h o
theorem ownsK.drew {w:World} {base:Nat} {v:Value} {l:List Tok} (h:ownsK w base v l):ownsK w.drew base v l:=World.ownsRow.drew h
theorem ownsK.drewN {w:World} {base:Nat} {v:Value} {l:List Tok} (h:ownsK w base v l) (n:Nat):ownsK (w.drewN n) base v l:=h
theorem ownsK.lt {w:World} {base:Nat} {v:Value} {l:List Tok} (h:ownsK w base v l):∀ k,v.ownBlock=some k→base≤k∧k < w.heap.size:=World.ownsRow.lt h
theorem ownsK.mono {w:World} {base base':Nat} {v:Value} {l:List Tok} (h:ownsK w base v l) (hb:base'≤base):ownsK w base' v l:=by
 obtain ⟨h0,h1⟩:=h
 refine ⟨h0,?_⟩
 rcases h1 with h1 | ⟨g,cap,cur,hv,hg,r⟩
 · exact .inl h1
 · exact .inr ⟨g,cap,cur,hv,Nat.le_trans hb hg,r⟩
theorem ownsK.below {w w':World} {base:Nat} {v:Value} {l:List Tok} (h:ownsK w base v l) (hb:Below w.heap.size w w'):ownsK w' base v l:=by
 refine World.ownsRow.kept h (row:=none) ⟨hb.os,hb.tape,hb.output,hb.size,fun k hk _=>hb.block k hk⟩ ?_
 cases hv:v.ownBlock with
 | none=>exact .inl rfl
 | some g=>exact .inr (by simp)
def IsToks (w:World) (v:Value) (l:List Tok):Prop :=
 (∃ a c,v=.slice a 0 c∧l=[])∨∃ b off c,v=.slice (some ⟨b,off,none⟩) l.length c∧0 < l.length∧b < w.heap.size∧∀ j u,(toksC l)[j]? = some u→w.cell? ⟨b,off + j,none⟩=some u
theorem ownsK.is {w:World} {base:Nat} {v:Value} {l:List Tok} (h:ownsK w base v l):IsToks w v l:=by
 have hall:=h
 have hlt:=h.lt
 obtain ⟨h0,h1⟩:=h
 rcases h1 with ⟨rfl,hn⟩ | ⟨g,cap,cur,rfl,hb,hh,hc,hm,hs,ht⟩
 · exact .inl ⟨_,_,rfl,List.length_eq_zero_iff.1 hn⟩
 · by_cases hz:l.length=0
   · exact .inl ⟨_,_,by rw [hz],List.length_eq_zero_iff.1 hz⟩
   · refine .inr ⟨g,0,cap,rfl,by omega,(hlt g rfl).2,fun j u hj=>?_⟩
     have hjl:j < l.length * 3:=by rw [←toksC_len];exact (List.getElem?_eq_some_iff.1 hj).1
     rw [Nat.zero_add,World.ownsRow.cellAt hall j hjl]
     exact hj
theorem IsToks.below {w w':World} {v:Value} {l:List Tok} (h:IsToks w v l) (hb:Below w.heap.size w w'):IsToks w' v l:=by
 rcases h with ⟨a,c,h1,h2⟩ | ⟨b,off,c,h1,h0,h2,h3⟩
 · exact .inl ⟨a,c,h1,h2⟩
 · exact .inr ⟨b,off,c,h1,h0,Nat.lt_of_lt_of_le h2 hb.size,fun j u hj=>(hb.cell (p:=⟨b,off + j,none⟩) h2).trans (h3 j u hj)⟩
theorem IsToks.alloc {w:World} {v:Value} {l:List Tok} (h:IsToks w v l) (o:Obj):IsToks (w.alloc o) v l:=h.below ((Below.refl _ _).alloc (Nat.le_refl _) o)
theorem IsToks.drewN {w:World} {v:Value} {l:List Tok} (h:IsToks w v l) (n:Nat):IsToks (w.drewN n) v l:=h
theorem IsToks.form {w:World} {v:Value} {l:List Tok} (h:IsToks w v l):∃ a c,v=.slice a l.length c∧∀ i t,l[i]? = some t→∃ b off,a=some ⟨b,off,none⟩∧b < w.heap.size ∧
   w.cell? ⟨b,off + i * 3,none⟩=some (.string t.own)∧w.cell? ⟨b,off + i * 3 + 1,none⟩=some (.int .i64 t.back)∧w.cell? ⟨b,off + i * 3 + 2,none⟩=some (.int .i64 t.size):=by
 rcases h with ⟨a,c,rfl,rfl⟩ | ⟨b,off,c,rfl,h0,h2,h3⟩
 · exact ⟨a,c,rfl,fun i t h=>by simp at h⟩
 · refine ⟨_,_,rfl,fun i t h=>⟨b,off,rfl,h2,?_,?_,?_⟩⟩
   · exact h3 _ _ ((toksC_at l i 0 t h (by omega)).trans rfl)
   · exact h3 _ _ ((toksC_at l i 1 t h (by omega)).trans rfl)
   · exact h3 _ _ ((toksC_at l i 2 t h (by omega)).trans rfl)
def tokBlk (w:World) (B:Nat) (t:Tok):Prop:=w.heap[B]? = some (.cells #[.string t.own,.int .i64 t.back,.int .i64 t.size] 224 (0,0))
theorem ownsK.stored {w:World} {base g n cap:Nat} {l:List Tok} {t:Tok} (h:ownsK w base (.slice (some ⟨g,0,none⟩) n cap) (l ++ [t])) (hn:n=l.length + 1) (s:ByteArray) :
   ownsK (w.setCell ⟨g,l.length * 3,none⟩ (.string s)) base (.slice (some ⟨g,0,none⟩) n cap) (l ++ [⟨s,t.back,t.size⟩]):=by
 subst hn
 unfold ownsK at h ⊢
 rw [List.length_append] at h ⊢
 have h2:=(World.ownsRow.stored h (l.length * 3) (.string s)).1
 have e:(toksC (l ++ [t])).set (l.length * 3) (.string s)=toksC (l ++ [⟨s,t.back,t.size⟩]):=by
   rw [toksC_app,toksC_app,List.set_append_right _ _ (by rw [toksC_len];exact Nat.le_refl _),toksC_len,Nat.sub_self]
   rfl
 rw [e] at h2
 exact h2
theorem ownsK.last {w:World} {base g n cap:Nat} {l:List Tok} {t:Tok} (h:ownsK w base (.slice (some ⟨g,0,none⟩) n cap) (l ++ [t])) (hn:n=l.length + 1) :
   w.cell? ⟨g,l.length * 3,none⟩=some (.string t.own)∧w.frozen? ⟨g,l.length * 3,none⟩=false∧base≤g:=by
 subst hn
 have hlt:=(h.lt g rfl).1
 unfold ownsK at h
 rw [List.length_append] at h
 refine ⟨?_,World.ownsRow.frozenAt h _,hlt⟩
 rw [World.ownsRow.cellAt h _ (by simp)]
 exact (toksC_at (l ++ [t]) l.length 0 t (by simp) (by omega)).trans rfl
theorem ownsK.form {w:World} {base:Nat} {v:Value} {l:List Tok} {t:Tok} (h:ownsK w base v (l ++ [t])):∃ g cap,v=.slice (some ⟨g,0,none⟩) (l.length + 1) cap:=by
 obtain ⟨h0,h1⟩:=h
 rcases h1 with ⟨rfl,hn⟩ | ⟨g,cap,cur,rfl,hb,hh,hc,hm,hs,ht⟩
 · simp at hn
 · exact ⟨g,cap,by simp⟩
end Go.Proofs.YtjkbmfpomgcblaaGreatDoor
namespace Go.Proofs.YtjkbmfpomgcblaaGreatDoor
open Go.RowKit
theorem zigr_any (n:Int) (w:World) (h0 : -9223372036854775808≤n) (h1:n≤9223372036854775807) :
   Calls Tryz.prog 119 #[.int .i64 n] w fun e w'=>e=.returned (.int .u64 (zigN n))∧w=w':=by
 by_cases hneg:n < 0
 · go_enter Tryz.func119,Tryz.ntmps119
   go_wp2
   go_ret
   exact ⟨ret_int (by rw [zigN,if_pos hneg];omega),rfl⟩
 · have h':0≤n:=by omega
   go_enter Tryz.func119,Tryz.ntmps119
   go_wp2
   go_ret
   exact ⟨ret_int (by rw [zigN,if_neg (by omega)]),rfl⟩
end Go.Proofs.YtjkbmfpomgcblaaGreatDoor
namespace Go.Proofs.YtjkbmfpomgcblaaGreatDoor
open Go.RowKit
def errV (e:Nat):Value:=if e=0 then .nilIface else .iface 44 (.int .i64 e)
end Go.Proofs.YtjkbmfpomgcblaaGreatDoor
namespace Go.Proofs.YtjkbmfpomgcblaaGreatDoor
open Go.RowKit
theorem info_ent:(Tryz.prog.info? 74).map (fun i=>(i.zero,i.size,i.bytes))=some (some (.agg #[.int .i64 0,.int .i64 0]),2,16):=by kernel_rfl
def entC (t:Ent):List Value:=[.int .i64 t.rep,.int .i64 t.time]
def entsC (l:List Ent):List Value:=l.flatMap entC
theorem entsC_len (l:List Ent):(entsC l).length=l.length * 2:=by
 induction l with
 | nil=>rfl
 | cons t r ih=>simp only [entsC,List.flatMap_cons,List.length_append,List.length_cons] at ih ⊢;rw [ih];simp [entC];omega
theorem entsC_app (a b:List Ent):entsC (a ++ b)=entsC a ++ entsC b:=by simp [entsC]
theorem entsC_at (l:List Ent) (i j:Nat) (t:Ent) (h:l[i]? = some t) (hj:j < 2):(entsC l)[i * 2 + j]? = (entC t)[j]? := by
 induction l generalizing i with
 | nil=>simp at h
 | cons u r ih =>
   have hc:entsC (u :: r)=entC u ++ entsC r:=by simp [entsC]
   have h3:(entC u).length=2:=rfl
   rw [hc]
   cases i with
   | zero =>
     obtain rfl:u=t:=by simpa using h
     rw [List.getElem?_append_left (by omega)]
     congr 1;omega
   | succ i =>
     rw [List.getElem?_append_right (by omega),h3,show (i + 1) * 2 + j - 2=i * 2 + j by omega]
     exact ih i (by simpa using h)
def ownsE (w:World) (base:Nat) (v:Value) (l:List Ent):Prop:=w.ownsRow base 74 2 v l.length (entsC l)
theorem ownsE_nil (w:World) (base:Nat):ownsE w base (.slice none 0 0) []:=World.ownsRow_nil _ _ _ _
theorem ownsE.alloc {w:World} {base:Nat} {v:Value} {l:List Ent} (h:ownsE w base v l) (o:Obj):ownsE (w.alloc o) base v l:=World.ownsRow.alloc h o
theorem ownsE.drew {w:World} {base:Nat} {v:Value} {l:List Ent} (h:ownsE w base v l):ownsE w.drew base v l:=World.ownsRow.drew h
theorem ownsE.drewN {w:World} {base:Nat} {v:Value} {l:List Ent} (h:ownsE w base v l) (n:Nat):ownsE (w.drewN n) base v l:=h
theorem ownsE.lt {w:World} {base:Nat} {v:Value} {l:List Ent} (h:ownsE w base v l):∀ k,v.ownBlock=some k→base≤k∧k < w.heap.size:=World.ownsRow.lt h
theorem ownsE.mono {w:World} {base base':Nat} {v:Value} {l:List Ent} (h:ownsE w base v l) (hb:base'≤base):ownsE w base' v l:=by
 obtain ⟨h0,h1⟩:=h
 refine ⟨h0,?_⟩
 rcases h1 with h1 | ⟨g,cap,cur,hv,hg,r⟩
 · exact .inl h1
 · exact .inr ⟨g,cap,cur,hv,Nat.le_trans hb hg,r⟩
theorem ownsE.below {w w':World} {base:Nat} {v:Value} {l:List Ent} (h:ownsE w base v l) (hb:Below w.heap.size w w'):ownsE w' base v l:=by
 refine World.ownsRow.kept h (row:=none) ⟨hb.os,hb.tape,hb.output,hb.size,fun k hk _=>hb.block k hk⟩ ?_
 cases hv:v.ownBlock with
 | none=>exact .inl rfl
 | some g=>exact .inr (by simp)
def IsEnts (w:World) (v:Value) (l:List Ent):Prop :=
 (∃ a c,v=.slice a 0 c∧l=[])∨∃ b off c,v=.slice (some ⟨b,off,none⟩) l.length c∧(0 < l.length∧l.length≤c)∧b < w.heap.size∧∀ j u,(entsC l)[j]? = some u→w.cell? ⟨b,off + j,none⟩=some u
theorem ownsE.is {w:World} {base:Nat} {v:Value} {l:List Ent} (h:ownsE w base v l):IsEnts w v l:=by
 have hall:=h
 have hlt:=h.lt
 obtain ⟨h0,h1⟩:=h
 rcases h1 with ⟨rfl,hn⟩ | ⟨g,cap,cur,rfl,hb,hh,hc,hm,hs,ht⟩
 · exact .inl ⟨_,_,rfl,List.length_eq_zero_iff.1 hn⟩
 · by_cases hz:l.length=0
   · exact .inl ⟨_,_,by rw [hz],List.length_eq_zero_iff.1 hz⟩
   · refine .inr ⟨g,0,cap,rfl,⟨by omega,hc⟩,(hlt g rfl).2,fun j u hj=>?_⟩
     have hjl:j < l.length * 2:=by rw [←entsC_len];exact (List.getElem?_eq_some_iff.1 hj).1
     rw [Nat.zero_add,World.ownsRow.cellAt hall j hjl]
     exact hj
theorem IsEnts.nil (w:World):IsEnts w (.slice none 0 0) []:=.inl ⟨_,_,rfl,rfl⟩
theorem IsEnts.below {w w':World} {v:Value} {l:List Ent} (h:IsEnts w v l) (hb:Below w.heap.size w w'):IsEnts w' v l:=by
 rcases h with ⟨a,c,h1,h2⟩ | ⟨b,off,c,h1,h0,h2,h3⟩
 · exact .inl ⟨a,c,h1,h2⟩
 · exact .inr ⟨b,off,c,h1,h0,Nat.lt_of_lt_of_le h2 hb.size,fun j u hj=>(hb.cell (p:=⟨b,off + j,none⟩) h2).trans (h3 j u hj)⟩
theorem IsEnts.alloc {w:World} {v:Value} {l:List Ent} (h:IsEnts w v l) (o:Obj):IsEnts (w.alloc o) v l:=h.below ((Below.refl _ _).alloc (Nat.le_refl _) o)
theorem IsEnts.drewN {w:World} {v:Value} {l:List Ent} (h:IsEnts w v l) (n:Nat):IsEnts (w.drewN n) v l:=h
theorem IsEnts.form {w:World} {v:Value} {l:List Ent} (h:IsEnts w v l):∃ a c,v=.slice a l.length c∧∀ i t,l[i]? = some t→∃ b off,a=some ⟨b,off,none⟩∧b < w.heap.size ∧
   w.cell? ⟨b,off + i * 2,none⟩=some (.int .i64 t.rep)∧w.cell? ⟨b,off + i * 2 + 1,none⟩=some (.int .i64 t.time):=by
 rcases h with ⟨a,c,rfl,rfl⟩ | ⟨b,off,c,rfl,h0,h2,h3⟩
 · exact ⟨a,c,rfl,fun i t h=>by simp at h⟩
 · refine ⟨_,_,rfl,fun i t h=>⟨b,off,rfl,h2,?_,?_⟩⟩
   · exact h3 _ _ ((entsC_at l i 0 t h (by omega)).trans rfl)
   · exact h3 _ _ ((entsC_at l i 1 t h (by omega)).trans rfl)
theorem IsEnts.lies {w:World} {v:Value} {l:List Ent} (h:IsEnts w v l) (h0:0 < l.length):∃ b off c,v=.slice (some ⟨b,off,none⟩) l.length c∧l.length≤c∧b < w.heap.size∧∀ j u,(entsC l)[j]? = some u→w.cell? ⟨b,off + j,none⟩=some u:=by
 rcases h with ⟨a,c,rfl,rfl⟩ | ⟨b,off,c,rfl,h1,h2,h3⟩
 · exact absurd h0 (Nat.lt_irrefl _)
 · exact ⟨b,off,c,rfl,h1.2,h2,h3⟩
theorem IsEnts.part {w:World} {b off n c:Nat} {l:List Ent} (h:∀ j u,(entsC l)[j]? = some u→w.cell? ⟨b,off + j,none⟩=some u) (hb:b < w.heap.size) (i j:Nat) (hj:j≤l.length) (hij:i < j) (hn:n=j - i) (hc:n≤c) :
   IsEnts w (.slice (some ⟨b,off + i * 2,none⟩) n c) ((l.take j).drop i):=by
 have hl:((l.take j).drop i).length=n:=by rw [List.length_drop,List.length_take];omega
 refine .inr ⟨b,off + i * 2,c,by rw [hl],⟨by omega,by omega⟩,hb,fun k u hk=>?_⟩
 rw [Nat.add_assoc]
 refine h _ _ ?_
 have hkl:k < n * 2:=by rw [←hl,←entsC_len];exact (List.getElem?_eq_some_iff.1 hk).1
 have ht : ((l.take j).drop i)[k / 2]? = some (((l.take j).drop i)[k / 2]'(by omega)) := List.getElem?_eq_getElem _
 have h1:=entsC_at _ (k / 2) (k % 2) _ ht (Nat.mod_lt _ (by decide))
 rw [show k / 2 * 2 + k % 2=k by omega] at h1
 have ht2 : l[i + k / 2]? = some (((l.take j).drop i)[k / 2]'(by omega)) := by
   rw [←ht,List.getElem?_drop,List.getElem?_take_of_lt (by omega)]
 have h2:=entsC_at _ (i + k / 2) (k % 2) _ ht2 (Nat.mod_lt _ (by decide))
 rw [show (i + k / 2) * 2 + k % 2=i * 2 + k by omega] at h2
 rw [h2,←h1,hk]
def entBlk (w:World) (B:Nat) (t:Ent):Prop:=w.heap[B]? = some (.cells #[.int .i64 t.rep,.int .i64 t.time] 74 (0,0))
theorem entBlk_new (w:World) (a b:Int):entBlk (w.alloc (.cells #[.int .i64 a,.int .i64 b] 74)) w.heap.size ⟨a,b⟩:=heap_alloc_new _ _
theorem ownsE.form {w:World} {base:Nat} {v:Value} {l:List Ent} (h:ownsE w base v l):(v=.slice none 0 0∧l=[])∨∃ g cap,v=.slice (some ⟨g,0,none⟩) l.length cap∧base≤g∧g < w.heap.size∧∀ j u,(entsC l)[j]? = some u→w.cell? ⟨g,j,none⟩=some u:=by
 have hall:=h
 have hlt:=h.lt
 obtain ⟨h0,h1⟩:=h
 rcases h1 with ⟨rfl,hn⟩ | ⟨g,cap,cur,rfl,hb,hh,hc,hm,hs,ht⟩
 · exact .inl ⟨rfl,List.length_eq_zero_iff.1 hn⟩
 · refine .inr ⟨g,cap,rfl,hb,(hlt g rfl).2,fun j u hj=>?_⟩
   have hjl:j < l.length * 2:=by rw [←entsC_len];exact (List.getElem?_eq_some_iff.1 hj).1
   rw [World.ownsRow.cellAt hall j hjl]
   exact hj
end Go.Proofs.YtjkbmfpomgcblaaGreatDoor
