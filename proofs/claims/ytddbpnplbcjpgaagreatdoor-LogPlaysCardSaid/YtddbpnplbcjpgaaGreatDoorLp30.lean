import Derived.Test.YtddbpnplbcjpgaaGreatDoorLp28
namespace Go.Proofs.YtddbpnplbcjpgaaGreatDoor
open Go.RowKit
structure Logs (W w:World) (D:Nat→Prop) (L:List (Nat×LogS)):Prop where
 ex:∃ Fs:Nat→Nat→Prop,(∀ i P s,L[i]? = some (P,s)→LogAt w P (Fs i) s∧∀ k,Fs i k→W.heap.size≤k)∧(∀ i j k,i < L.length→j < L.length→i≠j→Fs i k→¬ Fs j k)∧(∀ i k,i < L.length→D k→¬ Fs i k)
 data:∀ k,D k→k < w.heap.size
 ok:∀ p∈L,LogOk p.2
 bel:Below W.heap.size W w
theorem Logs.nil (W:World):Logs W W (fun _=>False) []:=⟨⟨fun _ _=>False,fun i P s h=>(by simp at h),fun i j k h=>(by simp at h),fun i k h=>(by simp at h)⟩,fun k h=>h.elim,fun p h=>(by cases h),Below.refl _ _⟩
theorem Logs.call {W w w':World} {D D':Nat→Prop} {L:List (Nat×LogS)} (h:Logs W w D L) (hb:Below w.heap.size w w') (hD:∀ k,D' k→D k∨(w.heap.size≤k∧k < w'.heap.size)):Logs W w' D' L:=by
 obtain ⟨⟨Fs,h1,h2,h3⟩,h4,h5,h6⟩:=h
 refine ⟨⟨Fs,fun i P s hi=>⟨(h1 i P s hi).1.below hb,(h1 i P s hi).2⟩,h2,fun i k hi hk hf=>?_⟩,fun k hk=>?_,h5,h6.trans (hb.mono h6.size)⟩
 · rcases hD k hk with h | ⟨h,_⟩
   · exact h3 i k hi h hf
   · obtain ⟨⟨P,s⟩,hL⟩:∃ p,L[i]? = some p:=⟨_,List.getElem?_eq_getElem hi⟩
     have:=(h1 i P s hL).1.lt k hf
     omega
 · rcases hD k hk with h | ⟨_,h⟩
   · exact Nat.lt_of_lt_of_le (h4 k h) hb.size
   · exact h
theorem Logs.all {W w w':World} {D:Nat→Prop} {L:List (Nat×LogS)} (h:Logs W w D L) (hb:Below w.heap.size w w'):Logs W w' (fun k=>D k∨(w.heap.size≤k∧k < w'.heap.size)) L:=h.call hb (fun _ h=>h)
theorem Logs.new {W w w':World} {D:Nat→Prop} {L:List (Nat×LogS)} {P:Nat} {s:LogS} (h:Logs W w D L) (hb:Below w.heap.size w w') (hP:P=w.heap.size) (hl:LogAt w' P (fun k=>k=P) s) (ok:LogOk s):Logs W w' D (L ++ [(P,s)]):=by
 obtain ⟨⟨Fs,h1,h2,h3⟩,h4,h5,h6⟩:=h
 have hlt:∀ i k,i < L.length→Fs i k→k < w.heap.size:=fun i k hi hk=>by
   obtain ⟨⟨P',s'⟩,hL⟩:∃ p,L[i]? = some p:=⟨_,List.getElem?_eq_getElem hi⟩
   exact (h1 i P' s' hL).1.lt k hk
 refine ⟨⟨fun i=>if i < L.length then Fs i else fun k=>k=P,fun i P' s' hi=>?_,fun i j k hi hj hij hk=>?_,fun i k hi hk=>?_⟩,fun k hk=>Nat.lt_of_lt_of_le (h4 k hk) hb.size,fun p hp=>?_,h6.trans (hb.mono h6.size)⟩
 · by_cases hl':i < L.length
   · rw [List.getElem?_append_left hl'] at hi
     show LogAt w' P' (if i < L.length then Fs i else _) s'∧∀ k,(if i < L.length then Fs i else _) k→_
     rw [if_pos hl']
     exact ⟨(h1 i P' s' hi).1.below hb,(h1 i P' s' hi).2⟩
   · rw [List.getElem?_append_right (by omega)] at hi
     have hi0:i - L.length=0:=by
       have:=(List.getElem?_eq_some_iff.1 hi).1
       simp at this;omega
     rw [hi0] at hi
     simp only [List.getElem?_cons_zero,Option.some.injEq,Prod.mk.injEq] at hi
     obtain ⟨rfl,rfl⟩:=hi
     show LogAt w' P (if i < L.length then Fs i else _) s∧∀ k,(if i < L.length then Fs i else _) k→_
     rw [if_neg hl']
     exact ⟨hl,fun k (e:k=P)=>by have:=h6.size;omega⟩
 · rw [List.length_append] at hi hj
   simp only [List.length_cons,List.length_nil] at hi hj
   dsimp only at hk ⊢
   by_cases hi':i < L.length
   · rw [if_pos hi'] at hk
     by_cases hj':j < L.length
     · rw [if_pos hj'];exact h2 i j k hi' hj' hij hk
     · rw [if_neg hj']
       intro (e:k=P)
       have:=hlt i k hi' hk;omega
   · rw [if_neg hi'] at hk
     have hk':k=P:=hk
     by_cases hj':j < L.length
     · rw [if_pos hj']
       intro e
       have:=hlt j k hj' e;omega
     · omega
 · have:=h4 k hk
   dsimp only
   by_cases hi':i < L.length
   · rw [if_pos hi'];exact h3 i k hi' hk
   · rw [if_neg hi']
     intro (e:k=P)
     omega
 · rcases List.mem_append.1 hp with hp | hp
   · exact h5 p hp
   · rw [List.mem_singleton.1 hp];exact ok
theorem Logs.at {W w:World} {D:Nat→Prop} {L:List (Nat×LogS)} {i P:Nat} {s:LogS} (h:Logs W w D L) (hi:L[i]? = some (P,s)) :
   ∃ F,LogAt w P F s∧LogOk s∧∀ F' s' w',(∀ k,F' k→F k∨w.heap.size≤k)→LogAt w' P F' s'→But F w w'→LogOk s' →
     Logs W w' D (L.set i (P,s'))∧(∀ k,D k→w'.heap[k]? = w.heap[k]?)∧w.heap.size≤w'.heap.size:=by
 obtain ⟨⟨Fs,h1,h2,h3⟩,h4,h5,h6⟩:=h
 have hil:=(List.getElem?_eq_some_iff.1 hi).1
 refine ⟨Fs i,(h1 i P s hi).1,h5 _ (List.mem_of_getElem? hi),fun F' s' w' hF hl hb ok=>⟨⟨⟨fun j=>if j=i then F' else Fs j,fun j P' s'' hj=>?_,fun a b k ha hb' hab hk=>?_,fun j k hj hk=>?_⟩,fun k hk=>Nat.lt_of_lt_of_le (h4 k hk) hb.size,fun p hp=>?_,But.on h6 hb h6.size (h1 i P s hi).2⟩,fun k hk=>hb.block k (h4 k hk) (h3 i k hil hk),hb.size⟩⟩
 · show LogAt w' P' (if j=i then F' else Fs j) s''∧∀ k,(if j=i then F' else Fs j) k→_
   rcases set_at hj with ⟨rfl,e⟩ | ⟨hne,hj⟩
   · rw [if_pos rfl]
     simp only [Prod.mk.injEq] at e
     obtain ⟨rfl,rfl⟩:=e
     refine ⟨hl,fun k hk=>?_⟩
     rcases hF k hk with hk | hk
     · exact (h1 j _ _ hi).2 k hk
     · have:=h6.size;omega
   · rw [if_neg hne]
     have hjl:=(List.getElem?_eq_some_iff.1 hj).1
     exact ⟨(h1 j P' s'' hj).1.but hb (fun k hk hk2=>h2 j i k hjl hil hne hk hk2),(h1 j P' s'' hj).2⟩
 · rw [List.length_set] at ha hb'
   have hlt:∀ j k,j < L.length→Fs j k→k < w.heap.size:=fun j k hj hk=>by
     obtain ⟨⟨P',s''⟩,hL⟩:∃ p,L[j]? = some p:=⟨_,List.getElem?_eq_getElem hj⟩
     exact (h1 j P' s'' hL).1.lt k hk
   dsimp only at hk ⊢
   by_cases e:a=i
   · subst e
     rw [if_pos rfl] at hk
     rw [if_neg (fun e=>hab e.symm)]
     intro hk2
     rcases hF k hk with hk | hk
     · exact h2 a b k hil hb' hab hk hk2
     · have:=hlt b k hb' hk2;omega
   · rw [if_neg e] at hk
     by_cases e2:b=i
     · subst e2
       rw [if_pos rfl]
       intro hk2
       rcases hF k hk2 with hk2 | hk2
       · exact h2 a b k ha hil hab hk hk2
       · have:=hlt a k ha hk;omega
     · rw [if_neg e2];exact h2 a b k ha hb' hab hk
 · rw [List.length_set] at hj
   dsimp only
   by_cases e:j=i
   · subst e
     rw [if_pos rfl]
     intro hk2
     rcases hF k hk2 with hk2 | hk2
     · exact h3 j k hj hk hk2
     · have:=h4 k hk;omega
   · rw [if_neg e];exact h3 j k hj hk
 · rcases set_mem hp with rfl | hp
   · exact ok
   · exact h5 p hp
theorem IsWrs.at {w w':World} {v:Value} {l:List Wr} (h:IsWrs w v l) (hs:w.heap.size≤w'.heap.size) (hb:∀ k,v.ownBlock=some k→w'.heap[k]? = w.heap[k]?):IsWrs w' v l:=by
 rcases h with ⟨a,c,h1,h2⟩ | ⟨b,off,c,h1,h0,h2,h3⟩
 · exact .inl ⟨a,c,h1,h2⟩
 · exact .inr ⟨b,off,c,h1,h0,Nat.lt_of_lt_of_le h2 hs,fun j u hj=>(World.cell?_of_block (w:=w) (a:=⟨b,off + j,none⟩) (hb b (by rw [h1];rfl))).trans (h3 j u hj)⟩
theorem IsEnts.at {w w':World} {v:Value} {l:List Ent} (h:IsEnts w v l) (hs:w.heap.size≤w'.heap.size) (hb:∀ k,v.ownBlock=some k→w'.heap[k]? = w.heap[k]?):IsEnts w' v l:=by
 rcases h with ⟨a,c,h1,h2⟩ | ⟨b,off,c,h1,h0,h2,h3⟩
 · exact .inl ⟨a,c,h1,h2⟩
 · exact .inr ⟨b,off,c,h1,h0,Nat.lt_of_lt_of_le h2 hs,fun j u hj=>(World.cell?_of_block (w:=w) (a:=⟨b,off + j,Option.none⟩) (hb b (by rw [h1];rfl))).trans (h3 j u hj)⟩
theorem wrOk_of {x:Wr} (h:wE x=0):WrOk x:=by
 obtain ⟨h1,_,h3,h4,h5,h6⟩:=wriE_good (show wriE x.time x.rep x.kind x.key x.value x.n=0 from h)
 have hn : -1125899906842624≤x.n∧x.n≤1125899906842624:=by
   unfold fitsN at h6
   split at h6
   · simp at h6;omega
   · split at h6
     · simp at h6;omega
     · rename_i k3 k4
       have:x.n=0:=Classical.byContradiction (fun e=>h5 (.inr ⟨e,by unfold hasN;simp [k3,k4]⟩))
       omega
 exact ⟨by omega,by omega,by omega,by omega⟩
end Go.Proofs.YtddbpnplbcjpgaaGreatDoor
