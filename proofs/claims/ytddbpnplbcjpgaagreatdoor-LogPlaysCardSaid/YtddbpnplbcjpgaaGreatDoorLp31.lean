import Derived.Test.YtddbpnplbcjpgaaGreatDoorLp24
import Derived.Test.YtddbpnplbcjpgaaGreatDoorLp25
import Derived.Test.YtddbpnplbcjpgaaGreatDoorLp26
import Derived.Test.YtddbpnplbcjpgaaGreatDoorLp30
namespace Go.Proofs.YtddbpnplbcjpgaaGreatDoor
open Go.RowKit
structure Play (W w:World) (P R:Nat) (F G:Nat→Prop) (s t:LogS):Prop where
 lg:LogAt w P F s
 rf:RefAt w R G t
 sep:Sep F G
 base:∀ k,F k∨G k→W.heap.size≤k
 bel:Below W.heap.size W w
 oks:LogOk s
 okt:LogOk t
theorem RefAt.lt {w:World} {R:Nat} {G:Nat→Prop} {s:LogS} (h:RefAt w R G s):∀ k,G k→k < w.heap.size:=by obtain ⟨_,_,_,h⟩:=h;exact h.lt
theorem RefAt.below {w w':World} {R:Nat} {G:Nat→Prop} {s:LogS} (h:RefAt w R G s) (hb:Below w.heap.size w w'):RefAt w' R G s:=by obtain ⟨u,vh,vl,h⟩:=h;exact ⟨u,vh,vl,h.below hb⟩
theorem RefAt.but {w w':World} {R:Nat} {F G:Nat→Prop} {s:LogS} (h:RefAt w R G s) (hb:But F w w') (hd:∀ k,G k→¬ F k):RefAt w' R G s:=by obtain ⟨u,vh,vl,h⟩:=h;exact ⟨u,vh,vl,h.but hb hd⟩
section
variable {W w w':World} {P R:Nat} {F G:Nat→Prop} {s t:LogS}
theorem Play.call (h:Play W w P R F G s t) (hb:Below w.heap.size w w'):Play W w' P R F G s t :=
 ⟨h.lg.below hb,h.rf.below hb,h.sep,h.base,h.bel.trans (hb.mono h.bel.size),h.oks,h.okt⟩
theorem Play.ref (h:Play W w P R F G s t) {G':Nat→Prop} {t':LogS} (h1:∀ k,G' k→G k∨w.heap.size≤k) (h2:RefAt w' R G' t') (h3:But G w w') (ok:LogOk t'):Play W w' P R F G' s t' :=
 ⟨h.lg.but h3 h.sep,h2,fun k f g=>(h1 k g).elim (h.sep k f) (fun hk=>by have:=h.lg.lt k f;omega),
   fun k hk=>hk.elim (fun f=>h.base k (.inl f)) (fun g=>(h1 k g).elim (fun g=>h.base k (.inr g)) (fun hk=>Nat.le_trans h.bel.size hk)),
   But.on h.bel h3 h.bel.size (fun k g=>h.base k (.inr g)),h.oks,ok⟩
theorem Play.log (h:Play W w P R F G s t) {F':Nat→Prop} {s':LogS} (h1:∀ k,F' k→F k∨w.heap.size≤k) (h2:LogAt w' P F' s') (h3:But F w w') (ok:LogOk s'):Play W w' P R F' G s' t :=
 ⟨h2,h.rf.but h3 h.sep.symm,fun k f g=>(h1 k f).elim (fun f=>h.sep k f g) (fun hk=>by have:=h.rf.lt k g;omega),
   fun k hk=>hk.elim (fun f=>(h1 k f).elim (fun f=>h.base k (.inl f)) (fun hk=>Nat.le_trans h.bel.size hk)) (fun g=>h.base k (.inr g)),
   But.on h.bel h3 h.bel.size (fun k f=>h.base k (.inl f)),ok,h.okt⟩
end
def locR (s:LogS) (x:Wr):Int×Int×Nat×LogS:=if lcE s x=0 then (maxT s.hv + 1,s.rep,0,lcS s x) else (0,0,lcE s x,s)
noncomputable def accR (s:LogS) (f h:List Ent) (b:List Wr):Nat×(Nat×Int)×LogS:=if (accE s f h b).1=0 then ((freshW s.ws b).length,(0,-1),accS s h b) else (0,accE s f h b,s)
def sinR (s:LogS) (f:List Ent):List Ent×List Ent×List Wr×Nat:=if sinceE s f=0 then (f,sinceH s f,sinceB s f,0) else ([],[],[],sinceE s f)
theorem placeIs_errN (w:World) (e:Nat):placeIs w (.iface 40 (.int .i64 e)) e (-1):=.inr (.inl ⟨rfl,rfl⟩)
theorem placeIs_nilN (w:World):placeIs w .nilIface 0 (-1):=.inl ⟨rfl,by omega,rfl⟩
section
variable {W w:World} {P R:Nat} {F G:Nat→Prop} {s:LogS}
theorem Play.rlocal (h:Play W w P R F G s s) (T0 R0 K:Int) (key val:ByteArray) (N:Int) (hk:key.size≤140737488351232) (hv:val.size≤140737488351232) {a b:Int} {e:Nat} {t:LogS} (hL:locR s ⟨T0,R0,K,key,val,N⟩=(a,b,e,t)) :
   Calls Tryz.prog 7 #[.pointer (some ⟨R,0,none⟩),.agg #[.int .i64 T0,.int .i64 R0,.int .i64 K,.string key,.string val,.int .i64 N]] w fun r w'=>r=.returned (.tuple #[.agg #[.int .i64 a,.int .i64 b],.int .i64 e])∧(∃ G',Play W w' P R F G' s t)∧w.heap.size≤w'.heap.size∧∀ k,k < w.heap.size→¬ G k→w'.heap[k]? = w.heap[k]? := by
 refine (rlocal_any R G s T0 R0 K key val N w h.rf h.okt hk hv).mono ?_
 rintro r w' (⟨h0,rfl,hb⟩ | ⟨h0,rfl,G',h1,h2,h3⟩)
 · unfold locR at hL
   rw [if_neg h0] at hL
   simp only [Prod.mk.injEq] at hL
   obtain ⟨rfl,rfl,rfl,rfl⟩:=hL
   exact ⟨rfl,⟨G,h.call hb⟩,hb.size,fun k hk _=>hb.block k hk⟩
 · unfold locR at hL
   rw [if_pos h0] at hL
   simp only [Prod.mk.injEq] at hL
   obtain ⟨rfl,rfl,rfl,rfl⟩:=hL
   exact ⟨rfl,⟨G',h.ref h1 h2 h3 (local_ok h.okt h0)⟩,h3.size,fun k hk hn=>h3.block k hk hn⟩
theorem Play.llocal {t:LogS} (h:Play W w P R F G s t) (T0 R0 K:Int) (key val:ByteArray) (N:Int) (hk:key.size≤140737488351232) (hv:val.size≤140737488351232) (hg:errT w) {a b:Int} {e:Nat} (hL:locR s ⟨T0,R0,K,key,val,N⟩=(a,b,e,t)) :
   Calls Tryz.prog 8 #[.pointer (some ⟨P,0,none⟩),.agg #[.int .i64 T0,.int .i64 R0,.int .i64 K,.string key,.string val,.int .i64 N]] w fun r w'=>∃ err,r=.returned (.tuple #[.agg #[.int .i64 a,.int .i64 b],err])∧placeIs w' err e (-1)∧(∃ F',Play W w' P R F' G t t)∧w.heap.size≤w'.heap.size∧∀ k,k < w.heap.size→¬ F k→w'.heap[k]? = w.heap[k]? := by
 refine (llocal_any P F s T0 R0 K key val N w h.lg h.oks hk hv hg).mono ?_
 rintro r w' (⟨h0,rfl,hb⟩ | ⟨h0,rfl,F',h1,h2,h3⟩)
 · unfold locR at hL
   rw [if_neg h0] at hL
   simp only [Prod.mk.injEq] at hL
   obtain ⟨rfl,rfl,rfl,rfl⟩:=hL
   exact ⟨_,rfl,placeIs_errN _ _,⟨F,h.call hb⟩,hb.size,fun k hk _=>hb.block k hk⟩
 · unfold locR at hL
   rw [if_pos h0] at hL
   simp only [Prod.mk.injEq] at hL
   obtain ⟨rfl,rfl,rfl,rfl⟩:=hL
   exact ⟨_,rfl,placeIs_nilN _,⟨F',h.log h1 h2 h3 (local_ok h.oks h0)⟩,h3.size,fun k hk hn=>h3.block k hk hn⟩
theorem Play.raccept (h:Play W w P R F G s s) (uf uh uw:Value) (f hh:List Ent) (l:List Wr) (hx:BatIs w uf uh uw f hh l) {n:Nat} {e:Nat} {pl:Int} {t:LogS} (hA:accR s f hh l=(n,(e,pl),t)) :
   Calls Tryz.prog 9 #[.pointer (some ⟨R,0,none⟩),.agg #[uf,uh,uw]] w fun r w'=>r=.returned (.tuple #[.int .i64 n,.agg #[.int .i64 e,.int .i64 pl]])∧(∃ G',Play W w' P R F G' s t)∧w.heap.size≤w'.heap.size∧∀ k,k < w.heap.size→¬ G k→w'.heap[k]? = w.heap[k]? := by
 refine (raccept_any R G s uf uh uw f hh l w h.rf h.okt hx).mono ?_
 rintro r w' (⟨h0,rfl,hb⟩ | ⟨h0,rfl,G',h1,h2,h3⟩)
 · unfold accR at hA
   rw [if_neg h0] at hA
   simp only [Prod.mk.injEq] at hA
   obtain ⟨rfl,h4,rfl⟩:=hA
   rw [h4]
   exact ⟨rfl,⟨G,h.call hb⟩,hb.size,fun k hk _=>hb.block k hk⟩
 · unfold accR at hA
   rw [if_pos h0] at hA
   simp only [Prod.mk.injEq] at hA
   obtain ⟨rfl,⟨rfl,rfl⟩,rfl⟩:=hA
   exact ⟨rfl,⟨G',h.ref h1 h2 h3 (accept_ok h.okt h0)⟩,h3.size,fun k hk hn=>h3.block k hk hn⟩
theorem Play.laccept {t:LogS} (h:Play W w P R F G s t) (uf uh uw:Value) (f hh:List Ent) (l:List Wr) (hx:BatIs w uf uh uw f hh l) (hg:errT w) {n:Nat} {e:Nat} {pl:Int} (hA:accR s f hh l=(n,(e,pl),t)) :
   Calls Tryz.prog 10 #[.pointer (some ⟨P,0,none⟩),.agg #[uf,uh,uw]] w fun r w'=>∃ err,r=.returned (.tuple #[.int .i64 n,err])∧placeIs w' err e pl∧(∃ F',Play W w' P R F' G t t)∧w.heap.size≤w'.heap.size∧∀ k,k < w.heap.size→¬ F k→w'.heap[k]? = w.heap[k]? := by
 refine (laccept_any P F s uf uh uw f hh l w h.lg h.oks hx hg).mono ?_
 rintro r w' (⟨h0,t0,u0,rfl,ha,hb⟩ | ⟨h0,rfl,F',h1,h2,h3⟩)
 · unfold accR at hA
   rw [if_neg h0] at hA
   simp only [Prod.mk.injEq] at hA
   obtain ⟨rfl,h4,rfl⟩:=hA
   rw [h4] at ha
   exact ⟨_,rfl,ha.place,⟨F,h.call hb⟩,hb.size,fun k hk _=>hb.block k hk⟩
 · unfold accR at hA
   rw [if_pos h0] at hA
   simp only [Prod.mk.injEq] at hA
   obtain ⟨rfl,⟨rfl,rfl⟩,rfl⟩:=hA
   exact ⟨_,rfl,placeIs_nilN _,⟨F',h.log h1 h2 h3 (accept_ok h.oks h0)⟩,h3.size,fun k hk hn=>h3.block k hk hn⟩
theorem since_lens {s:LogS} {f:List Ent} (ok:LogOk s) (h0:sinceE s f=0):(sinceH s f).length≤1000∧(sinceB s f).length≤1000∧∀ t∈sinceB s f,WrOk t:=by
 have h1:(vrightF f).1=0:=by
   unfold sinceE at h0
   split at h0
   · rename_i h;exact absurd h0 h
   · rename_i h;simpa using h
 have h2:covB s.hv f=true:=by
   unfold sinceE at h0
   rw [if_neg (by rw [h1];simp)] at h0
   cases hc:covB s.hv f with
   | true=>rfl
   | false=>rw [hc] at h0;cases h0
 have hr:=(vright_ok f).1 h1
 obtain ⟨h3,h4,h5,_⟩:=rightB_iff.1 (since_right ok hr (since_ok ok hr h2))
 exact ⟨Nat.le_trans h3.2.1.1 (by decide),Nat.le_trans h4 (by decide),fun t ht=>wrOk_of (h5 t ht).1⟩
theorem batIs_nil (w:World):BatIs w (.slice none 0 0) (.slice none 0 0) (.slice none 0 0) [] [] [] :=
 ⟨.inl ⟨_,_,rfl,rfl⟩,.inl ⟨_,_,rfl,rfl⟩,.inl ⟨_,_,rfl,rfl⟩,by simp,by simp,by simp,fun t h=>by cases h⟩
theorem Play.rsince (h:Play W w P R F G s s) (v:Value) (f:List Ent) (hf:IsEnts w v f) (hfl:f.length≤9223372036854775807) {f1 h1:List Ent} {b1:List Wr} {e:Nat} (hS:sinR s f=(f1,h1,b1,e)) :
   Calls Tryz.prog 12 #[.pointer (some ⟨R,0,none⟩),v] w fun r w'=>∃ va vb vc,r=.returned (.tuple #[.agg #[va,vb,vc],.int .i64 e])∧BatIs w' va vb vc f1 h1 b1∧Below w.heap.size w w':=by
 refine (rsince_any R G s v f w h.rf h.okt hf hfl).mono ?_
 rintro r w' ⟨hb,⟨h0,rfl⟩ | ⟨h0,vb,vc,rfl,i1,i2⟩⟩
 · unfold sinR at hS
   rw [if_neg h0] at hS
   simp only [Prod.mk.injEq] at hS
   obtain ⟨rfl,rfl,rfl,rfl⟩:=hS
   exact ⟨_,_,_,rfl,batIs_nil _,hb⟩
 · unfold sinR at hS
   rw [if_pos h0] at hS
   simp only [Prod.mk.injEq] at hS
   obtain ⟨rfl,rfl,rfl,rfl⟩:=hS
   obtain ⟨l1,l2,l3⟩:=since_lens h.okt h0
   exact ⟨_,_,_,rfl,⟨hf.below hb,i1,i2,hfl,by omega,by omega,l3⟩,hb⟩
theorem Play.lsince (h:Play W w P R F G s s) (v:Value) (f:List Ent) (hf:IsEnts w v f) (hfl:f.length≤9223372036854775807) (hg:errT w) {f1 h1:List Ent} {b1:List Wr} {e:Nat} (hS:sinR s f=(f1,h1,b1,e)) :
   Calls Tryz.prog 13 #[.pointer (some ⟨P,0,none⟩),v] w fun r w'=>∃ va vb vc err,r=.returned (.tuple #[.agg #[va,vb,vc],err])∧placeIs w' err e (-1)∧BatIs w' va vb vc f1 h1 b1∧Below w.heap.size w w':=by
 refine (lsince_any P F s v f w h.lg h.oks hf hfl hg).mono ?_
 rintro r w' (⟨h0,rfl,hb⟩ | ⟨h0,va,vb,vc,rfl,i0,i1,i2,hb⟩)
 · unfold sinR at hS
   rw [if_neg h0] at hS
   simp only [Prod.mk.injEq] at hS
   obtain ⟨rfl,rfl,rfl,rfl⟩:=hS
   exact ⟨_,_,_,_,rfl,placeIs_errN _ _,batIs_nil _,hb⟩
 · unfold sinR at hS
   rw [if_pos h0] at hS
   simp only [Prod.mk.injEq] at hS
   obtain ⟨rfl,rfl,rfl,rfl⟩:=hS
   obtain ⟨l1,l2,l3⟩:=since_lens h.oks h0
   exact ⟨_,_,_,_,rfl,placeIs_nilN _,⟨i0.is,i1.is,i2.is,hfl,by omega,by omega,l3⟩,hb⟩
end
end Go.Proofs.YtddbpnplbcjpgaaGreatDoor
