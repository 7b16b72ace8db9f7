import Derived.Test.YtifbebhgeheooaaGreatDoorKl17
namespace Go.Proofs.YtifbebhgeheooaaGreatDoor
open Go.RowKit
theorem wpList_append_wr2 {w:World} {ops:Array Oper} {rest:List Oper} {o:Oper} {a:Act} {Q:Exit→Act→World→Prop} (hgd:o.guard=none) (s x:Operand)
   (ho:o.op=.call { callee:=.builtin .append,args:=#[s,x],argTypes:=#[36,36] })
   (base:Nat) (v:Value) (l:List Wr) (hs:a.eval s=v) (hown:ownsW w base v l)
   (B c:Nat) (hx:a.eval x=.slice (some ⟨B,0,none⟩) 1 c) (t:Wr) (hcell:wrBlk w B t)
   (hlen:l.length + 1≤1000000) (hbase:base≤w.heap.size)
   (h:∀ g cap w',ownsW w' base (.slice (some ⟨g,0,none⟩) (l.length + 1) cap) (l ++ [t])→w.grownBy w' v.ownBlock→(v.ownBlock=some g∨g=w.heap.size)→wpList Tryz.prog ops Q rest (a.put o.dst (.slice (some ⟨g,0,none⟩) (l.length + 1) cap)) w'):wpList Tryz.prog ops Q (o :: rest) a w:=by
 obtain ⟨i0,hi,hz0,hz1,hz2⟩:=info_parts info_wr
 refine wpList_append_lies w hgd s x 36 ho base 25 i0 (.agg #[.int .i64 0,.int .i64 0,.int .i64 0,.string ⟨#[]⟩,.string ⟨#[]⟩,.int .i64 0]) 6 64 Tryz.underlying36 hi hz0 hz1 hz2 rfl (by decide) v l.length (wrsC l) hs hown ⟨B,0,none⟩ 1 c (wrC t) hx rfl ?_ (wrC_cell t) (by decide) (by unfold maxLen;omega) (by omega) hbase _ rfl ?_
 · intro j u hj
   have hadd:(⟨B,0,none⟩:Addr).add j=⟨B,j,none⟩:=by unfold Addr.add;split <;> simp_all
   rw [hadd,cell_of_row _ _ _ _ _ _ hcell,←hj]
   simp
 · intro g cap w' h1 h2 h3 _
   refine h g cap w' ?_ h2 h3
   unfold ownsW
   rw [List.length_append,wrsC_app,wrsC_one]
   exact h1
def apartW (v u:Value):Prop:=v.ownBlock=none∨v.ownBlock≠u.ownBlock
theorem apartW.symm {v u:Value} (h:apartW v u):apartW u v:=by
 rcases h with h | h
 · by_cases h2:u.ownBlock=none
   · exact .inl h2
   · exact .inr (by rw [h];exact h2)
 · exact .inr (Ne.symm h)
def PT (W0:World) (base P Q:Nat) (a1 b1 a2 b2:Value) (L1 L2:List Wr) (v1 v2:Value) (wr:World):Prop :=
 batAt wr P a1 b1 v1∧batAt wr Q a2 b2 v2∧wr.frozen? ⟨P,2,none⟩=false∧wr.frozen? ⟨Q,2,none⟩=false∧ownsW wr base v1 L1∧ownsW wr base v2 L2∧apartW v1 v2∧base≤wr.heap.size∧Below W0.heap.size W0 wr
theorem PT.swap {W0:World} {base P Q:Nat} {a1 b1 a2 b2:Value} {L1 L2:List Wr} {v1 v2:Value} {wr:World} (h:PT W0 base P Q a1 b1 a2 b2 L1 L2 v1 v2 wr):PT W0 base Q P a2 b2 a1 b1 L2 L1 v2 v1 wr :=
 ⟨h.2.1,h.1,h.2.2.2.1,h.2.2.1,h.2.2.2.2.2.1,h.2.2.2.2.1,h.2.2.2.2.2.2.1.symm,h.2.2.2.2.2.2.2⟩
theorem PT.below {W0:World} {base P Q:Nat} {a1 b1 a2 b2:Value} {L1 L2:List Wr} {v1 v2:Value} {wr w':World} (h:PT W0 base P Q a1 b1 a2 b2 L1 L2 v1 v2 wr) (hb:Below wr.heap.size wr w') (hP:P < base) (hQ:Q < base):PT W0 base P Q a1 b1 a2 b2 L1 L2 v1 v2 w':=by
 obtain ⟨h1,h2,h3,h4,h5,h6,h7,h8,h9⟩:=h
 exact ⟨h1.below hb (by omega),h2.below hb (by omega),(hb.frozen (show P < wr.heap.size by omega)).trans h3,(hb.frozen (show Q < wr.heap.size by omega)).trans h4,h5.below hb,h6.below hb,h7,Nat.le_trans h8 hb.size,h9.trans (hb.mono h9.size)⟩
theorem PT.alloc {W0:World} {base P Q:Nat} {a1 b1 a2 b2:Value} {L1 L2:List Wr} {v1 v2:Value} {wr:World} (h:PT W0 base P Q a1 b1 a2 b2 L1 L2 v1 v2 wr) (o:Obj) (hP:P < base) (hQ:Q < base):PT W0 base P Q a1 b1 a2 b2 L1 L2 v1 v2 (wr.alloc o) :=
 h.below ((Below.refl _ _).alloc (Nat.le_refl _) o) hP hQ
theorem PT.push {W0:World} {base P Q:Nat} {a1 b1 a2 b2:Value} {L1 L2 L3:List Wr} {v1 v2:Value} {wr w':World} {g n cap:Nat} (h:PT W0 base P Q a1 b1 a2 b2 L1 L2 v1 v2 wr) (hP:P < base) (hQ:Q < base) (hPQ:P≠Q) (h0:W0.heap.size≤P)
   (ho:ownsW w' base (.slice (some ⟨g,0,none⟩) n cap) L3) (hg:wr.grownBy w' v1.ownBlock) (hw:v1.ownBlock=some g∨g=wr.heap.size) :
   PT W0 base P Q a1 b1 a2 b2 L3 L2 (.slice (some ⟨g,0,none⟩) n cap) v2 (w'.setCell ⟨P,2,none⟩ (.slice (some ⟨g,0,none⟩) n cap)):=by
 obtain ⟨h1,h2,h3,h4,h5,h6,h7,h8,h9⟩:=h
 have far:∀ B,B < base→some B≠v1.ownBlock:=fun B hB e=>by have:=(h5.lt B e.symm).1;omega
 have cP:∀ i,w'.cell? ⟨P,i,none⟩=wr.cell? ⟨P,i,none⟩:=fun i=>hg.cell_far _ (show P < wr.heap.size by omega) (far P hP)
 have cQ:∀ i,w'.cell? ⟨Q,i,none⟩=wr.cell? ⟨Q,i,none⟩:=fun i=>hg.cell_far _ (show Q < wr.heap.size by omega) (far Q hQ)
 have hgs:=hg.size
 have hset:w'.grownBy (w'.setCell ⟨P,2,none⟩ (.slice (some ⟨g,0,none⟩) n cap)) (some P):=⟨rfl,rfl,rfl,by simp,fun k _ hk=>heap_setCell_other _ _ _ _ (fun e=>hk (by rw [e]))⟩
 have g0:g≠P:=by
   have:=(ho.lt g rfl).1
   omega
 refine ⟨⟨?_,?_,?_⟩,⟨?_,?_,?_⟩,?_,?_,?_,?_,?_,?_,?_⟩
 · rw [World.cell?_setCell_other _ _ _ _ (by simp),cP];exact h1.1
 · rw [World.cell?_setCell_other _ _ _ _ (by simp),cP];exact h1.2.1
 · exact World.cell?_setCell_same _ _ _ ((cP 2).trans h1.2.2)
 · rw [World.cell?_setCell_other _ _ _ _ (by first | (simp;done) | (simp [hPQ];done) | (simp;exact hPQ)),cQ];exact h2.1
 · rw [World.cell?_setCell_other _ _ _ _ (by first | (simp;done) | (simp [hPQ];done) | (simp;exact hPQ)),cQ];exact h2.2.1
 · rw [World.cell?_setCell_other _ _ _ _ (by first | (simp;done) | (simp [hPQ];done) | (simp;exact hPQ)),cQ];exact h2.2.2
 · rw [World.frozen?_setCell];exact (hg.frozen_far _ (show P < wr.heap.size by omega) (far P hP)).trans h3
 · rw [World.frozen?_setCell];exact (hg.frozen_far _ (show Q < wr.heap.size by omega) (far Q hQ)).trans h4
 · exact World.ownsRow.kept ho hset (.inr (by show some g≠some P;simpa using g0))
 · refine World.ownsRow.kept (World.ownsRow.kept h6 hg h7.symm) hset ?_
   by_cases hn:v2.ownBlock=none
   · exact .inl hn
   · refine .inr fun e=>?_
     have:=(h6.lt P e).1
     omega
 · refine .inr ?_
   show some g≠v2.ownBlock
   rcases hw with hw | hw
   · rcases h7 with h | h
     · rw [h] at hw;cases hw
     · rw [hw] at h;exact h
   · intro e
     have:=(h6.lt g e.symm).2
     omega
 · show base≤(w'.setCell _ _).heap.size;simp;omega
 · exact (h9.grown hg h9.size (fun k hk=>by have:=(h5.lt k hk).1;omega)).setCell h0 _
theorem pt_newA (w:World) (a1 b1 a2 b2:Value):PT w (w.heap.size + 1 + 1) w.heap.size (w.heap.size + 1) a1 b1 a2 b2 [] [] (.slice none 0 0) (.slice none 0 0) ((w.alloc (.cells #[a1,b1,.slice none 0 0] 38)).alloc (.cells #[a2,b2,.slice none 0 0] 38)).drew:=by
 refine ⟨⟨by simp,by simp,by simp⟩,⟨by simp,by simp,by simp⟩,by simp,by simp,ownsW_nil _ _,ownsW_nil _ _,.inl rfl,by simp,(((Below.refl _ _).alloc (Nat.le_refl _) _).alloc (by simp) _).drew⟩
theorem pt_newB (w:World) (a1 b1 a2 b2:Value):PT w (w.heap.size + 1 + 1) (w.heap.size + 1) w.heap.size a1 b1 a2 b2 [] [] (.slice none 0 0) (.slice none 0 0) ((w.alloc (.cells #[a2,b2,.slice none 0 0] 38)).alloc (.cells #[a1,b1,.slice none 0 0] 38)).drew :=
 (pt_newA w a2 b2 a1 b1).swap
theorem PT.grown {W0:World} {base P Q:Nat} {a1 b1 a2 b2:Value} {L1 L2:List Wr} {v1 v2:Value} {wr w':World} (h:PT W0 base P Q a1 b1 a2 b2 L1 L2 v1 v2 wr) (hP:P < base) (hg:wr.grownBy w' v1.ownBlock) :
   w'.cell? ⟨P,2,none⟩=some v1∧w'.frozen? ⟨P,2,none⟩=false:=by
 obtain ⟨h1,h2,h3,h4,h5,h6,h7,h8,h9⟩:=h
 have far:some P≠v1.ownBlock:=fun e=>by have:=(h5.lt P e.symm).1;omega
 exact ⟨(hg.cell_far ⟨P,2,none⟩ (show P < wr.heap.size by omega) far).trans h1.2.2,(hg.frozen_far ⟨P,2,none⟩ (show P < wr.heap.size by omega) far).trans h3⟩
theorem wrAt.grown {wr w':World} {B P:Nat} {v u:Value} {T R K N:Int} {key val:ByteArray} (h:wrAt wr B T R K key val N) (hB:B < wr.heap.size) (hg:wr.grownBy w' v.ownBlock) (hne:v.ownBlock≠some B) (hP:B≠P):wrAt (w'.setCell ⟨P,2,none⟩ u) B T R K key val N:=by
 have c:∀ i x,wr.cell? ⟨B,i,none⟩=some x→(w'.setCell ⟨P,2,none⟩ u).cell? ⟨B,i,none⟩=some x:=fun i x hx=>by
   rw [World.cell?_setCell_other _ _ _ _ (by first | (simp;done) | (simp [Ne.symm hP];done) | (simp;exact Ne.symm hP)),hg.cell_far ⟨B,i,none⟩ hB (fun e=>hne e.symm)];exact hx
 exact ⟨c _ _ h.1,c _ _ h.2.1,c _ _ h.2.2.1,c _ _ h.2.2.2.1,c _ _ h.2.2.2.2.1,c _ _ h.2.2.2.2.2⟩
theorem few_one (va:Value) (a:List Ent) (x:Bool) (w:World) (ha:IsEnts w va a) (hla:a.length≤9223372036854775807) (hx:allR [a]=x) :
   Calls Tryz.prog 26 #[.slice (some ⟨w.heap.size,0,none⟩) 1 1] (w.alloc (.cells #[va] 35)) fun e w'=>e=.returned (.bool x)∧Below w.heap.size w w':=by
 subst hx
 refine (few_any w.heap.size 1 1 [va] [a] _ rfl (by simp) ?_ ⟨ha.alloc _,trivial⟩ ?_ (by decide)).mono fun e w' ⟨h1,h2⟩=>⟨h1,((Below.refl _ _).alloc (Nat.le_refl _) _).trans (h2.mono (by simp))⟩
 · intro i v hv
   rw [cell_of_row _ _ i _ _ (0,0) (heap_alloc_new w (.cells #[va] 35))]
   simpa using hv
 · intro l hl
   simp only [List.mem_cons,List.not_mem_nil,or_false] at hl
   subst hl;assumption
theorem wi_partsB {a b c:List Ent} (x:Int×Int) (ha:rightV a) (hb:rightV b) (hc:rightV c) (h1:covB b a=true) (h2:covB c b=true) (hx:wiF x a c=true):wiF x b c=!wiF x a b:=by
 have g1:=(covB_iff hb ha).1 h1 x.2
 have g2:=(covB_iff hc hb).1 h2 x.2
 unfold wiF at hx ⊢
 simp only [Bool.and_eq_true,decide_eq_true_eq] at hx
 rw [decide_eq_true (show x.1≤ofF c x.2 from hx.2),decide_eq_true (show ofF a x.2 < x.1 from hx.1)]
 simp only [Bool.and_true,Bool.true_and]
 by_cases h:ofF b x.2 < x.1
 · rw [decide_eq_true h,decide_eq_false (by omega)];rfl
 · rw [decide_eq_false h,decide_eq_true (by omega)];rfl
theorem filter_snoc {p:Wr→Bool} {l:List Wr} {k:Nat} {t:Wr} (ht:l[k]? = some t):(l.take (k + 1)).filter p=if p t=true then (l.take k).filter p ++ [t] else (l.take k).filter p:=by
 obtain ⟨hk,h⟩:=List.getElem?_eq_some_iff.1 ht
 rw [List.take_succ_eq_append_getElem hk,h,List.filter_append]
 cases hp:p t with
 | true=>simp [hp]
 | false=>simp [hp]
theorem filter_both {p q:Wr→Bool} (l:List Wr) (h:∀ x∈l,q x=!p x):(l.filter p).length + (l.filter q).length=l.length:=by
 induction l with
 | nil=>rfl
 | cons x r ih =>
   have hx:=h x List.mem_cons_self
   have hr:=ih fun y hy=>h y (List.mem_cons_of_mem _ hy)
   cases hp:p x with
   | true =>
     rw [hp] at hx
     have hx':q x=false:=hx
     rw [List.filter_cons_of_pos hp,List.filter_cons_of_neg (by rw [hx'];decide),List.length_cons,List.length_cons];omega
   | false =>
     rw [hp] at hx
     have hx':q x=true:=hx
     rw [List.filter_cons_of_neg (by rw [hp];decide),List.filter_cons_of_pos hx',List.length_cons,List.length_cons];omega
theorem right_part1 {f h:List Ent} {l:List Wr} {m:List Ent} (hr:rightB f h l) (hm:rightV m) (h1:covB m f=true):rightB f m (l.filter fun x=>wiF (wid x) f m):=by
 rw [rightB_iff] at hr ⊢
 obtain ⟨⟨g1,g2,g3⟩,g4,g5,g6⟩:=hr
 refine ⟨⟨g1,hm,h1⟩,Nat.le_trans (List.length_filter_le _ _) g4,fun x hx=>?_,g6.sublist List.filter_sublist⟩
 rw [List.mem_filter] at hx
 exact ⟨(g5 x hx.1).1,hx.2⟩
theorem right_part2 {f h:List Ent} {l:List Wr} {m:List Ent} (hr:rightB f h l) (hm:rightV m) (h1:covB h m=true):rightB m h (l.filter fun x=>wiF (wid x) m h):=by
 rw [rightB_iff] at hr ⊢
 obtain ⟨⟨g1,g2,g3⟩,g4,g5,g6⟩:=hr
 refine ⟨⟨hm,g2,h1⟩,Nat.le_trans (List.length_filter_le _ _) g4,fun x hx=>?_,g6.sublist List.filter_sublist⟩
 rw [List.mem_filter] at hx
 exact ⟨(g5 x hx.1).1,hx.2⟩
end Go.Proofs.YtifbebhgeheooaaGreatDoor
