import Derived.Test.YtjkbmfpomgcblaaGreatDoorKw05
namespace Go.Proofs.YtjkbmfpomgcblaaGreatDoor
open Go.RowKit
def bigS:Int→List Wr→Int
 | x,[]=>x
 | x,t :: r=>bigS (IntKind.i64.wrap (x + IntKind.i64.wrap ((IntKind.i64.wrap ((t.key.size:Int) + (t.value.size:Int))).tdiv 8))) r
def bigV (lim:Int) (f h:List Ent) (l:List Wr):Bool:=decide (lim < bigS (IntKind.i64.wrap (IntKind.i64.wrap ((f.length:Int) + (h.length:Int)) + (l.length:Int))) l)
theorem bigS_drop {l:List Wr} {k:Nat} {t:Wr} (x:Int) (ht:l[k]? = some t):bigS x (l.drop k)=bigS (IntKind.i64.wrap (x + IntKind.i64.wrap ((IntKind.i64.wrap ((t.key.size:Int) + (t.value.size:Int))).tdiv 8))) (l.drop (k + 1)):=by
 obtain ⟨hk,h⟩:=List.getElem?_eq_some_iff.1 ht
 rw [List.drop_eq_getElem_cons hk,h];rfl
end Go.Proofs.YtjkbmfpomgcblaaGreatDoor
namespace Go.Proofs.YtjkbmfpomgcblaaGreatDoor
theorem cI_val (x1 x2 y1 y2:Int):cI (x1,x2) (y1,y2)=if x1 < y1∨x1=y1∧x2 < y2 then -1 else if x1=y1∧x2=y2 then 0 else 1:=by
 unfold cI orF cmpF
 simp only
 repeat' split
 all_goals omega
theorem cI_neg (x1 x2 y1 y2:Int):cI (y1,y2) (x1,x2)=- cI (x1,x2) (y1,y2):=by
 rw [cI_val,cI_val]
 repeat' split
 all_goals omega
theorem cI_three (x1 x2 y1 y2:Int):cI (x1,x2) (y1,y2)=-1∨cI (x1,x2) (y1,y2)=0∨cI (x1,x2) (y1,y2)=1:=by
 rw [cI_val]
 repeat' split
 all_goals omega
theorem cI_trans {x1 x2 y1 y2 z1 z2:Int} (h1:cI (x1,x2) (y1,y2)=-1) (h2:cI (y1,y2) (z1,z2)=-1):cI (x1,x2) (z1,z2)=-1:=by
 rw [cI_val] at h1 h2 ⊢
 split at h1
 · split at h2
   · rw [if_pos (by omega)]
   · split at h2 <;> omega
 · split at h1 <;> omega
end Go.Proofs.YtjkbmfpomgcblaaGreatDoor
namespace Go.Proofs.YtjkbmfpomgcblaaGreatDoor
open Go.RowKit
set_option maxRecDepth 100000 in
set_option maxHeartbeats 2000000 in
theorem within_any (x1 x2:Int) (vf vh:Value) (f h:List Ent) (w:World) (hf:IsEnts w vf f) (hh:IsEnts w vh h) (hlf:f.length≤9223372036854775807) (hlh:h.length≤9223372036854775807) (b:Bool) (hb:wiF (x1,x2) f h=b) :
   Calls Tryz.prog 147 #[.agg #[.int .i64 x1,.int .i64 x2],vf,vh] w fun e w'=>e=.returned (.bool b)∧Below w.heap.size w w':=by
 subst hb
 obtain ⟨p,hp⟩:∃ p,ofF f x2=p:=⟨_,rfl⟩
 obtain ⟨q,hq⟩:∃ q,ofF h x2=q:=⟨_,rfl⟩
 have HP:=Lib.hid hp
 have HQ:=Lib.hid hq
 have HLF:=Lib.hid hlf
 have HLH:=Lib.hid hlh
 have HF:Hid (IsEnts (w.alloc (.cells #[.int .i64 x1,.int .i64 x2] 57)).drew vf f):=Lib.hid ((hf.alloc _).drewN 1)
 have HH:Hid (IsEnts (w.alloc (.cells #[.int .i64 x1,.int .i64 x2] 57)).drew vh h):=Lib.hid ((hh.alloc _).drewN 1)
 have c0:(w.alloc (.cells #[.int .i64 x1,.int .i64 x2] 57)).cell? ⟨w.heap.size,0,none⟩=some (.int .i64 x1)∧(w.alloc (.cells #[.int .i64 x1,.int .i64 x2] 57)).cell? ⟨w.heap.size,1,none⟩=some (.int .i64 x2):=by simp
 have hval:wiF (x1,x2) f h=(decide (p < x1) && decide (x1≤q)):=by unfold wiF;simp only;rw [hp,hq]
 have HB0:Hid (Below w.heap.size w (w.alloc (.cells #[.int .i64 x1,.int .i64 x2] 57)).drew):=Lib.hid ((Below.refl _ _).alloc (Nat.le_refl _) _).drew
 by_cases h1:p < x1
 · by_cases h2:x1≤q
   · have HW:Hid (wiF (x1,x2) f h=true):=Lib.hid (by rw [hval,decide_eq_true h1,decide_eq_true h2];rfl)
     clear hf hh hp hq hlf hlh hval
     rw [HW.out]
     go_enter Tryz.func147,Tryz.ntmps147
     go_wp2
     go_region_held3 (fun w'=>w'.cell? ⟨w.heap.size,0,none⟩=some (.int .i64 x1)∧w'.cell? ⟨w.heap.size,1,none⟩=some (.int .i64 x2)) (first | exact c0 | exact c2 | exact c3) (first
       | (go_at_call 196;((with_reducible refine (vofI_as vf f x2 p _ HF.out HLF.out HP.out).mono ?_);rintro r w2 ⟨rfl,hb2⟩;have c2:w2.cell? ⟨w.heap.size,0,none⟩=some (.int .i64 x1)∧w2.cell? ⟨w.heap.size,1,none⟩=some (.int .i64 x2):=⟨(hb2.cell (by simp)).trans c0.1,(hb2.cell (by simp)).trans c0.2⟩;have HB2:Hid (Below w.heap.size w w2):=(HB0.out.trans (hb2.mono (by simp)));have HH2:=Lib.hid (HH.out.below hb2);have HZ2:Hid (w.heap.size < w2.heap.size):=(Nat.lt_of_lt_of_le (by simp) hb2.size);clear hb2))
       | (go_at_call 196;((with_reducible refine (vofI_as vh h x2 q w2 HH2.out HLH.out HQ.out).mono ?_);rintro r w3 ⟨rfl,hb3⟩;have c3:w3.cell? ⟨w.heap.size,0,none⟩=some (.int .i64 x1)∧w3.cell? ⟨w.heap.size,1,none⟩=some (.int .i64 x2):=⟨(hb3.cell HZ2.out).trans c2.1,(hb3.cell HZ2.out).trans c2.2⟩;have HB3:Hid (Below w.heap.size w w3):=(HB2.out.trans (hb3.mono HB2.out.size));clear hb3)))
     go_wp2
     go_ret
     exact ⟨rfl,HB3.out⟩
   · have HW:Hid (wiF (x1,x2) f h=false):=Lib.hid (by rw [hval,decide_eq_true h1,decide_eq_false h2];rfl)
     have d7:decide (x1≤q)=false:=decide_eq_false h2
     clear hf hh hp hq hlf hlh hval h2
     rw [HW.out]
     go_enter Tryz.func147,Tryz.ntmps147
     go_wp2
     go_region_held3 (fun w'=>w'.cell? ⟨w.heap.size,0,none⟩=some (.int .i64 x1)∧w'.cell? ⟨w.heap.size,1,none⟩=some (.int .i64 x2)) (first | exact c0 | exact c2 | exact c3) (first
       | (go_at_call 196;((with_reducible refine (vofI_as vf f x2 p _ HF.out HLF.out HP.out).mono ?_);rintro r w2 ⟨rfl,hb2⟩;have c2:w2.cell? ⟨w.heap.size,0,none⟩=some (.int .i64 x1)∧w2.cell? ⟨w.heap.size,1,none⟩=some (.int .i64 x2):=⟨(hb2.cell (by simp)).trans c0.1,(hb2.cell (by simp)).trans c0.2⟩;have HB2:Hid (Below w.heap.size w w2):=(HB0.out.trans (hb2.mono (by simp)));have HH2:=Lib.hid (HH.out.below hb2);have HZ2:Hid (w.heap.size < w2.heap.size):=(Nat.lt_of_lt_of_le (by simp) hb2.size);clear hb2))
       | (go_at_call 196;((with_reducible refine (vofI_as vh h x2 q w2 HH2.out HLH.out HQ.out).mono ?_);rintro r w3 ⟨rfl,hb3⟩;have c3:w3.cell? ⟨w.heap.size,0,none⟩=some (.int .i64 x1)∧w3.cell? ⟨w.heap.size,1,none⟩=some (.int .i64 x2):=⟨(hb3.cell HZ2.out).trans c2.1,(hb3.cell HZ2.out).trans c2.2⟩;have HB3:Hid (Below w.heap.size w w3):=(HB2.out.trans (hb3.mono HB2.out.size));clear hb3)))
     go_wp2
     go_ret
     exact ⟨rfl,HB3.out⟩
 · have HW:Hid (wiF (x1,x2) f h=false):=Lib.hid (by rw [hval,decide_eq_false h1];rfl)
   have d6:decide (p < x1)=false:=decide_eq_false h1
   clear hf hh hp hq hlf hlh hval h1
   rw [HW.out]
   go_enter Tryz.func147,Tryz.ntmps147
   go_wp2
   refine wp_region_held_drew (S:=fun w'=>w'.cell? ⟨w.heap.size,0,none⟩=some (.int .i64 x1)∧w'.cell? ⟨w.heap.size,1,none⟩=some (.int .i64 x2)) (by kernel_rfl) c0 (fun hHeld=>?_)
   refine wpAnyH_take (i:=0) (v:=?v0) rfl (by kernel_rfl) (by kernel_rfl) (by kernel_rfl) (fun _ _ _ h=>h) (Or.inl ⟨by rfl,?h0⟩) (by assumption) ?r0
   case h0=>(intro W hSw;(try dsimp only at hSw);go_simp;all_goals (with_reducible rfl))
   try simp only [Act.put,List.getElem_toArray,List.getElem_cons_zero,List.setIfInBounds_toArray,List.set_cons_zero,List.set_cons_succ]
   refine wpAnyH_take (i:=1) (v:=?v1) rfl (by kernel_rfl) (by kernel_rfl) (by kernel_rfl) (fun _ _ _ h=>h) (Or.inl ⟨by rfl,?h1⟩) (by assumption) ?r1
   case h1=>(intro W hSw;(try dsimp only at hSw);go_simp;all_goals (with_reducible rfl))
   try simp only [Act.put,List.getElem_toArray,List.getElem_cons_zero,List.getElem_cons_succ,List.setIfInBounds_toArray,List.set_cons_zero,List.set_cons_succ]
   refine wpAnyH_take (i:=2) (v:=?v2) rfl (by kernel_rfl) (by kernel_rfl) (by kernel_rfl) (fun _ _ _ h=>h) (Or.inl ⟨by rfl,?h2⟩) (by assumption) ?r2
   case h2=>(intro W hSw;(try dsimp only at hSw);go_simp;all_goals (with_reducible rfl))
   try simp only [Act.put,List.getElem_toArray,List.getElem_cons_zero,List.getElem_cons_succ,List.setIfInBounds_toArray,List.set_cons_zero,List.set_cons_succ]
   refine wpAnyH_take (i:=3) (v:=?v3) rfl (by kernel_rfl) (by kernel_rfl) (by kernel_rfl) (fun _ _ _ h=>h) (Or.inl ⟨by rfl,?h3⟩) (by assumption) ?r3
   case h3=>(intro W hSw;(try dsimp only at hSw);go_simp;all_goals (with_reducible rfl))
   try simp only [Act.put,List.getElem_toArray,List.getElem_cons_zero,List.getElem_cons_succ,List.setIfInBounds_toArray,List.set_cons_zero,List.set_cons_succ]
   refine wpAnyH_take (i:=4) (v:=?v4) rfl (by kernel_rfl) (by kernel_rfl) (by kernel_rfl) (fun _ _ _ h=>h) (Or.inl ⟨by rfl,?h4⟩) (by assumption) ?r4
   case h4=>(intro W hSw;(try dsimp only at hSw);go_simp;all_goals (with_reducible rfl))
   try simp only [Act.put,List.getElem_toArray,List.getElem_cons_zero,List.getElem_cons_succ,List.setIfInBounds_toArray,List.set_cons_zero,List.set_cons_succ]
   refine wpAnyH_ready (rs:=[5]) (by kernel_rfl) (by simp) ?_
   refine AllReadyH.cons rfl (fun K hK=>?_) AllReadyH.nil
   go_simp
   refine (vofI_as vf f x2 p _ HF.out HLF.out HP.out).mono ?_
   rintro r w2 ⟨rfl,hb2⟩
   have c2:w2.cell? ⟨w.heap.size,0,none⟩=some (.int .i64 x1)∧w2.cell? ⟨w.heap.size,1,none⟩=some (.int .i64 x2):=⟨(hb2.cell (by simp)).trans c0.1,(hb2.cell (by simp)).trans c0.2⟩
   have HB2:Hid (Below w.heap.size w w2):=HB0.out.trans (hb2.mono (by simp))
   clear hb2
   refine hK.out _ _ c2 (fun hHeld2=>?_)
   clear hK hHeld
   try simp only [Act.put,List.getElem_toArray,List.getElem_cons_zero,List.getElem_cons_succ,List.setIfInBounds_toArray,List.set_cons_zero,List.set_cons_succ]
   refine wpAnyH_take (i:=6) (v:=?v6) rfl (by kernel_rfl) (by kernel_rfl) (by kernel_rfl) (fun _ _ _ h=>h) (Or.inl ⟨by rfl,?h6⟩) (by assumption) ?r6
   case h6=>(intro W hSw;(try dsimp only at hSw);go_simp;all_goals (with_reducible rfl))
   try simp only [Act.put,List.getElem_toArray,List.getElem_cons_zero,List.getElem_cons_succ,List.setIfInBounds_toArray,List.set_cons_zero,List.set_cons_succ]
   refine wpAnyH_take (i:=7) (v:=?v7) rfl (by kernel_rfl) (by kernel_rfl) (by kernel_rfl) (fun _ _ _ h=>h) (Or.inl ⟨by rfl,?h7⟩) (by assumption) ?r7
   case h7=>(intro W hSw;(try dsimp only at hSw);go_simp;all_goals (with_reducible rfl))
   try simp only [Act.put,List.getElem_toArray,List.getElem_cons_zero,List.getElem_cons_succ,List.setIfInBounds_toArray,List.set_cons_zero,List.set_cons_succ]
   refine wpAnyH_take (i:=8) (v:=undef) rfl (by kernel_rfl) (by kernel_rfl) (by kernel_rfl) (fun _ _ _ h=>h) (Or.inr ⟨by rfl,rfl⟩) (by assumption) ?_
   try simp only [Act.put,List.getElem_toArray,List.getElem_cons_zero,List.getElem_cons_succ,List.setIfInBounds_toArray,List.set_cons_zero,List.set_cons_succ]
   refine wpAnyH_take (i:=10) (v:=undef) rfl (by kernel_rfl) (by kernel_rfl) (by kernel_rfl) (fun _ _ _ h=>h) (Or.inr ⟨by rfl,rfl⟩) (by assumption) ?_
   try simp only [Act.put,List.getElem_toArray,List.getElem_cons_zero,List.getElem_cons_succ,List.setIfInBounds_toArray,List.set_cons_zero,List.set_cons_succ]
   refine wpAnyH_take (i:=11) (v:=undef) rfl (by kernel_rfl) (by kernel_rfl) (by kernel_rfl) (fun _ _ _ h=>h) (Or.inr ⟨by rfl,rfl⟩) (by assumption) ?_
   try simp only [Act.put,List.getElem_toArray,List.getElem_cons_zero,List.getElem_cons_succ,List.setIfInBounds_toArray,List.set_cons_zero,List.set_cons_succ]
   refine wpAnyH_take (i:=9) (v:=undef) rfl (by kernel_rfl) (by kernel_rfl) (by kernel_rfl) (fun _ _ _ h=>h) (Or.inr ⟨by rfl,rfl⟩) (by assumption) ?_
   try simp only [Act.put,List.getElem_toArray,List.getElem_cons_zero,List.getElem_cons_succ,List.setIfInBounds_toArray,List.set_cons_zero,List.set_cons_succ]
   refine wpAnyH_take (i:=12) (v:=undef) rfl (by kernel_rfl) (by kernel_rfl) (by kernel_rfl) (fun _ _ _ h=>h) (Or.inr ⟨by rfl,rfl⟩) (by assumption) ?_
   try simp only [Act.put,List.getElem_toArray,List.getElem_cons_zero,List.getElem_cons_succ,List.setIfInBounds_toArray,List.set_cons_zero,List.set_cons_succ]
   refine wpAnyH_take (i:=13) (v:=undef) rfl (by kernel_rfl) (by kernel_rfl) (by kernel_rfl) (fun _ _ _ h=>h) (Or.inr ⟨by rfl,rfl⟩) (by assumption) ?_
   try simp only [Act.put,List.getElem_toArray,List.getElem_cons_zero,List.getElem_cons_succ,List.setIfInBounds_toArray,List.set_cons_zero,List.set_cons_succ]
   refine wpAnyH_take (i:=14) (v:=undef) rfl (by kernel_rfl) (by kernel_rfl) (by kernel_rfl) (fun _ _ _ h=>h) (Or.inr ⟨by rfl,rfl⟩) (by assumption) ?_
   try simp only [Act.put,List.getElem_toArray,List.getElem_cons_zero,List.getElem_cons_succ,List.setIfInBounds_toArray,List.set_cons_zero,List.set_cons_succ]
   refine wpAnyH_take (i:=15) (v:=?v15) rfl (by kernel_rfl) (by kernel_rfl) (by kernel_rfl) (fun _ _ _ h=>h) (Or.inl ⟨by rfl,?h15⟩) (by assumption) ?r15
   case h15=>(intro W hSw;(try dsimp only at hSw);go_simp;all_goals (with_reducible rfl))
   try simp only [Act.put,List.getElem_toArray,List.getElem_cons_zero,List.getElem_cons_succ,List.setIfInBounds_toArray,List.set_cons_zero,List.set_cons_succ]
   refine wpAnyH_take (i:=16) (v:=?v16) rfl (by kernel_rfl) (by kernel_rfl) (by kernel_rfl) (fun _ _ _ h=>h) (Or.inl ⟨by rfl,?h16⟩) (by assumption) ?r16
   case h16=>(intro W hSw;(try dsimp only at hSw);go_simp;all_goals (with_reducible rfl))
   try simp only [Act.put,List.getElem_toArray,List.getElem_cons_zero,List.getElem_cons_succ,List.setIfInBounds_toArray,List.set_cons_zero,List.set_cons_succ]
   refine wpAnyH_done (by kernel_rfl) ?_ _
   go_wp2
   go_ret
   exact ⟨rfl,HB2.out⟩
end Go.Proofs.YtjkbmfpomgcblaaGreatDoor
namespace Go.Proofs.YtjkbmfpomgcblaaGreatDoor
open Go.RowKit
theorem undrew {w w':World} (h:Below w.drew.heap.size w.drew w'):Below w.heap.size w w':=((Below.refl _ _).drew).trans h
end Go.Proofs.YtjkbmfpomgcblaaGreatDoor
namespace Go.Proofs.YtjkbmfpomgcblaaGreatDoor
open Go.RowKit
set_option maxRecDepth 100000 in
set_option maxHeartbeats 4000000 in
theorem bigL_any (vf vh vw:Value) (f h:List Ent) (l:List Wr) (w:World) (hx:BatIs w vf vh vw f h l) :
   Calls Tryz.prog 28 #[.agg #[vf,vh,vw]] w fun e w'=>e=.returned (.bool (bigV 300 f h l))∧Below w.heap.size w w':=by
 obtain ⟨hf,hh,hv,hlf,hlh,hlw,hok⟩:=hx
 obtain ⟨af,cf,rfl,_⟩:=hf.form
 obtain ⟨ah,ch,rfl,_⟩:=hh.form
 obtain ⟨aw,cw,rfl,fw⟩:=hv.form
 have FW:=Lib.hid fw
 obtain ⟨nf,hnf⟩:∃ n,n=f.length:=⟨_,rfl⟩
 obtain ⟨nh,hnh⟩:∃ n,n=h.length:=⟨_,rfl⟩
 obtain ⟨n,hn⟩:∃ n,n=l.length:=⟨_,rfl⟩
 rw [←hnf,←hnh,←hn]
 rw [←hn] at hlw
 have HN:=Lib.hid hn
 have hbv:bigV 300 f h l=decide (300 < bigS (IntKind.i64.wrap (IntKind.i64.wrap ((nf:Int) + (nh:Int)) + (n:Int))) l):=by rw [hnf,hnh,hn];rfl
 obtain ⟨s1,hs1⟩:∃ s,IntKind.i64.wrap ((nf:Int) + (nh:Int))=s:=⟨_,rfl⟩
 obtain ⟨s2,hs2⟩:∃ s,IntKind.i64.wrap (s1 + (n:Int))=s:=⟨_,rfl⟩
 rw [hs1,hs2] at hbv
 have HBV:=Lib.hid hbv
 clear hf hh hv hlf hlh hnf hnh hn fw hok hbv
 go_enter Tryz.func28,Tryz.ntmps28
 go_wp2
 clear hs1 hs2
 go_loopw [3,20] (fun s i wr=>∃ (x:Int) (k:Nat),s=.int .i64 x∧k≤n∧i=.int .i64 k∧bigS s2 l=bigS x (l.drop k)∧Below w.heap.size w wr) (fun _ i _=>n - (intOf i).toNat)
 case atStart=>exact ⟨_,0,rfl,by omega,rfl,rfl,(Below.refl _ _).alloc (Nat.le_refl _) _⟩
 case round =>
   obtain ⟨x,k,rfl,hk,rfl,heq,hbel⟩:=hrel
   have HEQ:=Lib.hid heq
   clear heq
   have HB:=Lib.hid hbel
   have hzr:=hbel.size
   clear hbel
   by_cases hlt:k < n
   · obtain ⟨t, ht⟩ : ∃ t, l[k]? = some t := ⟨l[k]'(by have := HN.out; omega), List.getElem?_eq_getElem _⟩
     obtain ⟨b1,o1,rfl,hb1,p0,p1,p2,p3,p4,p5⟩:=FW.out k t ht
     have q0:=(HB.out.cell (p:=⟨b1,o1 + k * 6,none⟩) hb1).trans p0
     have q1:=(HB.out.cell (p:=⟨b1,o1 + k * 6 + 1,none⟩) hb1).trans p1
     have q2:=(HB.out.cell (p:=⟨b1,o1 + k * 6 + 2,none⟩) hb1).trans p2
     have q3:=(HB.out.cell (p:=⟨b1,o1 + k * 6 + 3,none⟩) hb1).trans p3
     have q4:=(HB.out.cell (p:=⟨b1,o1 + k * 6 + 4,none⟩) hb1).trans p4
     have q5:=(HB.out.cell (p:=⟨b1,o1 + k * 6 + 5,none⟩) hb1).trans p5
     have hd:=bigS_drop x ht
     obtain ⟨T,R,K,key,val,N⟩:=t
     simp only at q0 q1 q2 q3 q4 q5 hd
     obtain ⟨u,hu⟩:∃ u,IntKind.i64.wrap ((key.size:Int) + (val.size:Int))=u:=⟨_,rfl⟩
     obtain ⟨y,hy⟩:∃ y,IntKind.i64.wrap (u.tdiv 8)=y:=⟨_,rfl⟩
     obtain ⟨z,hz⟩:∃ z,IntKind.i64.wrap (x + y)=z:=⟨_,rfl⟩
     rw [hu,hy,hz] at hd
     have HD:Hid (bigS s2 l=bigS z (l.drop (k + 1))):=Lib.hid (HEQ.out.trans hd)
     clear hd
     clear p0 p1 p2 p3 p4 p5 ht
     go_wp2
     go_roundw
     case rel=>exact ⟨_,k + 1,rfl,by omega,by go_num,HD.out,HB.out.alloc hzr _⟩
     case measure=>simp [intOf];omega
   · have HD:Hid (bigV 300 f h l=decide (300 < x)):=Lib.hid (by rw [HBV.out,HEQ.out,List.drop_eq_nil_of_le (by have:=HN.out;omega)];rfl)
     go_wp2
     go_ret
     exact ⟨by rw [HD.out];rfl,HB.out⟩
theorem bigL_as (vf vh vw:Value) (f h:List Ent) (l:List Wr) (c:Bool) (w:World) (hx:BatIs w vf vh vw f h l) (hc:bigV 300 f h l=c) :
   Calls Tryz.prog 28 #[.agg #[vf,vh,vw]] w fun e w'=>e=.returned (.bool c)∧Below w.heap.size w w':=by
 subst hc;exact bigL_any vf vh vw f h l w hx
end Go.Proofs.YtjkbmfpomgcblaaGreatDoor
namespace Go.Proofs.YtjkbmfpomgcblaaGreatDoor
open Go.RowKit
def wE (x:Wr):Nat:=wriE x.time x.rep x.kind x.key x.value x.n
def wid (x:Wr):Int×Int:=(x.time,x.rep)
def late (q x:Wr):Prop:=cI (wid x) (wid q)=1
instance (q x : Wr) : Decidable (late q x) := by unfold late; infer_instance
def lateO:Option Wr→Wr→Prop
 | none,_=>True
 | some q,x=>late q x
instance (p : Option Wr) (x : Wr) : Decidable (lateO p x) := by cases p <;> (unfold lateO; infer_instance)
def bwE (f h:List Ent) (p:Option Wr) (x:Wr):Nat:=if wE x≠0 then wE x else if ¬ lateO p x then 10 else if wiF (wid x) f h=false then 6 else 0
def bwr (f h:List Ent):List Wr→Nat→Option Wr→Nat×Int
 | [],_,_=>(0,-1)
 | x :: r,i,p=>if bwE f h p x≠0 then (bwE f h p x,(i:Int)) else bwr f h r (i + 1) (some x)
def bbE (f h:List Ent):Nat:=if (vrightF f).1≠0 then (vrightF f).1 else if (vrightF h).1≠0 then (vrightF h).1 else if covB h f=false then 13 else 0
def batF (f h:List Ent) (ws:List Wr):Nat×Int:=if bbE f h≠0 then (bbE f h,-1) else if 60 < ws.length then (4,-1) else bwr f h ws 0 none
theorem bwr_bad {f h:List Ent} {x:Wr} {r:List Wr} {i:Nat} {p:Option Wr} {e:Nat} (hx:bwE f h p x=e) (he:e≠0):bwr f h (x :: r) i p=(e,(i:Int)):=by subst hx;rw [bwr,if_pos he]
theorem bwr_good {f h:List Ent} {x:Wr} {r:List Wr} {i:Nat} {p:Option Wr} (hx:bwE f h p x=0):bwr f h (x :: r) i p=bwr f h r (i + 1) (some x):=by rw [bwr,if_neg (by rw [hx];simp)]
theorem batF_bb {f h:List Ent} {ws:List Wr} {e:Nat} (hx:bbE f h=e) (he:e≠0):batF f h ws=(e,-1):=by subst hx;unfold batF;rw [if_pos he]
theorem batF_many {f h:List Ent} {ws:List Wr} (hx:bbE f h=0) (hl:60 < ws.length):batF f h ws=(4,-1):=by unfold batF;rw [if_neg (by rw [hx];simp),if_pos hl]
theorem batF_rest {f h:List Ent} {ws:List Wr} (hx:bbE f h=0) (hl:¬ 60 < ws.length):batF f h ws=bwr f h ws 0 none:=by unfold batF;rw [if_neg (by rw [hx];simp),if_neg hl]
theorem bwE_w {f h:List Ent} {p:Option Wr} {x:Wr} {e:Nat} (hx:wE x=e) (he:e≠0):bwE f h p x=e:=by subst hx;unfold bwE;rw [if_pos he]
theorem bwE_order {f h:List Ent} {p:Option Wr} {x:Wr} (hx:wE x=0) (hl:¬ lateO p x):bwE f h p x=10:=by unfold bwE;rw [if_neg (by rw [hx];simp),if_pos hl]
theorem bwE_state {f h:List Ent} {p:Option Wr} {x:Wr} (hx:wE x=0) (hl:lateO p x) (hw:wiF (wid x) f h=false):bwE f h p x=6:=by unfold bwE;rw [if_neg (by rw [hx];simp),if_neg (by simpa using hl),if_pos hw]
theorem bwE_fine {f h:List Ent} {p:Option Wr} {x:Wr} (hx:wE x=0) (hl:lateO p x) (hw:wiF (wid x) f h=true):bwE f h p x=0:=by unfold bwE;rw [if_neg (by rw [hx];simp),if_neg (by simpa using hl),if_neg (by rw [hw];decide)]
theorem bwE_ok {f h:List Ent} {p:Option Wr} {x:Wr}:bwE f h p x=0↔wE x=0∧lateO p x∧wiF (wid x) f h=true:=by
 constructor
 · intro h0
   unfold bwE at h0
   split at h0
   · rename_i h1;exact absurd h0 h1
   · rename_i h1
     split at h0
     · simp at h0
     · rename_i h2
       split at h0
       · simp at h0
       · rename_i h3
         exact ⟨by simpa using h1,by simpa using h2,by simpa using h3⟩
 · rintro ⟨h1,h2,h3⟩;exact bwE_fine h1 h2 h3
def okW (f h:List Ent):Option Wr→List Wr→Prop
 | _,[]=>True
 | p,x :: r=>bwE f h p x=0∧okW f h (some x) r
theorem bwr_ok {f h:List Ent} (l:List Wr):∀ i p,(bwr f h l i p).1=0↔okW f h p l:=by
 induction l with
 | nil=>intro i p;simp [bwr,okW]
 | cons x r ih =>
   intro i p
   by_cases h0:bwE f h p x=0
   · rw [bwr_good h0,ih];exact ⟨fun h1=>⟨h0,h1⟩,fun h1=>h1.2⟩
   · rw [bwr_bad rfl h0];exact ⟨fun h1=>absurd h1 h0,fun h1=>absurd h1.1 h0⟩
theorem bwr_place {f h:List Ent} (l:List Wr):∀ i p,(bwr f h l i p).1=0→bwr f h l i p=(0,-1):=by
 induction l with
 | nil=>intro i p _;rfl
 | cons x r ih =>
   intro i p h1
   by_cases h0:bwE f h p x=0
   · rw [bwr_good h0] at h1 ⊢;exact ih _ _ h1
   · rw [bwr_bad rfl h0] at h1;exact absurd h1 h0
theorem bbE_ok {f h:List Ent}:bbE f h=0↔rightV f∧rightV h∧covB h f=true:=by
 rw [←vright_ok,←vright_ok]
 unfold bbE
 constructor
 · intro h0
   split at h0
   · rename_i h1;exact absurd h0 h1
   · rename_i h1
     split at h0
     · rename_i h2;exact absurd h0 h2
     · rename_i h2
       split at h0
       · simp at h0
       · rename_i h3;exact ⟨by simpa using h1,by simpa using h2,by simpa using h3⟩
 · rintro ⟨h1,h2,h3⟩
   rw [if_neg (by simpa using h1),if_neg (by simpa using h2),if_neg (by rw [h3];decide)]
theorem batF_ok {f h:List Ent} {ws:List Wr}:(batF f h ws).1=0↔(rightV f∧rightV h∧covB h f=true)∧ws.length≤60∧okW f h none ws:=by
 rw [←bbE_ok]
 by_cases h1:bbE f h=0
 · by_cases h2:60 < ws.length
   · rw [batF_many h1 h2]
     constructor
     · intro h;cases h
     · intro h;omega
   · rw [batF_rest h1 h2,bwr_ok]
     exact ⟨fun h=>⟨h1,by omega,h⟩,fun h=>h.2.2⟩
 · rw [batF_bb rfl h1]
   exact ⟨fun h=>absurd h h1,fun h=>absurd h.1 h1⟩
theorem batF_place {f h:List Ent} {ws:List Wr} (h0:(batF f h ws).1=0):batF f h ws=(0,-1):=by
 unfold batF at h0 ⊢
 split
 · rename_i h1;rw [if_pos h1] at h0;exact absurd h0 h1
 · rename_i h1
   rw [if_neg h1] at h0
   split
   · rename_i h2;rw [if_pos h2] at h0;cases h0
   · rename_i h2;rw [if_neg h2] at h0;exact bwr_place _ _ _ h0
theorem late_iff {q x:Wr}:late q x↔cI (wid q) (wid x)=-1:=by
 unfold late wid
 have:=cI_neg x.time x.rep q.time q.rep
 omega
theorem late_trans {a b c:Wr} (h1:late a b) (h2:late b c):late a c:=by
 rw [late_iff] at h1 h2 ⊢
 exact cI_trans h1 h2
theorem okW_iff {f h:List Ent} (l:List Wr):∀ p,okW f h p l↔(∀ x∈l,wE x=0∧lateO p x∧wiF (wid x) f h=true)∧l.Pairwise late:=by
 induction l with
 | nil=>intro p;simp [okW]
 | cons x r ih =>
   intro p
   show bwE f h p x=0∧okW f h (some x) r↔_
   rw [ih (some x),bwE_ok,List.pairwise_cons]
   constructor
   · rintro ⟨h1,h2,h3⟩
     refine ⟨fun y hy=>?_,fun y hy=>(h2 y hy).2.1,h3⟩
     rcases List.mem_cons.1 hy with rfl | hy
     · exact h1
     · obtain ⟨g1,g2,g3⟩:=h2 y hy
       refine ⟨g1,?_,g3⟩
       cases p with
       | none=>trivial
       | some q=>exact late_trans h1.2.1 g2
   · rintro ⟨h1,h2,h3⟩
     exact ⟨h1 x List.mem_cons_self,fun y hy=>⟨(h1 y (List.mem_cons_of_mem _ hy)).1,h2 y hy,(h1 y (List.mem_cons_of_mem _ hy)).2.2⟩,h3⟩
theorem okW_none {f h:List Ent} {l:List Wr}:okW f h none l↔(∀ x∈l,wE x=0∧wiF (wid x) f h=true)∧l.Pairwise late:=by
 rw [okW_iff]
 exact ⟨fun ⟨h1,h2⟩=>⟨fun x hx=>⟨(h1 x hx).1,(h1 x hx).2.2⟩,h2⟩,fun ⟨h1,h2⟩=>⟨fun x hx=>⟨(h1 x hx).1,trivial,(h1 x hx).2⟩,h2⟩⟩
def rightB (f h:List Ent) (ws:List Wr):Prop:=(batF f h ws).1=0
theorem rightB_iff {f h:List Ent} {ws:List Wr}:rightB f h ws↔(rightV f∧rightV h∧covB h f=true)∧ws.length≤60∧(∀ x∈ws,wE x=0∧wiF (wid x) f h=true)∧ws.Pairwise late:=by
 unfold rightB
 rw [batF_ok,okW_none]
end Go.Proofs.YtjkbmfpomgcblaaGreatDoor
namespace Go.Proofs.YtjkbmfpomgcblaaGreatDoor
open Go.RowKit Go.Extern.Stop Go.Stop Go.Extern
def errT (w:World):Prop:=w.cell? ⟨0,0,none⟩=some (.iface 229 (.agg #[.pointer (some ⟨5,29,none⟩)]))
def asWorld (w:World) (t:Addr):World :=
 ((w.alloc (.cells #[.pointer (some t)] 109)).alloc (.cells #[.pointer (some ⟨5,109,none⟩),.pointer (some ⟨w.heap.size,0,none⟩),.int .u64 150] 173)).alloc (.cells #[.pointer (some ⟨5,109,none⟩),.pointer (some ⟨w.heap.size,0,none⟩),.int .u64 150] 173)
theorem lt_of_cell {w:World} {a:Addr} {v:Value} (h:w.cell? a=some v):a.block < w.heap.size:=by
 rcases Nat.lt_or_ge a.block w.heap.size with h' | h'
 · exact h'
 · simp [World.cell?,Array.getElem?_eq_none h'] at h
set_option maxRecDepth 100000 in
set_option maxHeartbeats 4000000 in
theorem as_errno (e:Int) (t:Addr) (old:Value) (w:World) (hg:errT w) (ht0:w.cell? t=some old) (hf0:w.frozen? t=false) :
   Calls Tryz.prog 86 #[.iface 44 (.int .i64 e),.iface 109 (.pointer (some t))] w fun ev w'=>ev=.returned (.bool true)∧((asWorld w t).alloc (.cells #[.int .i64 e] 44)).setCell t (.int .i64 e)=w':=by
 unfold asWorld
 unfold errT at hg
 have h6:=@run_callFunc_extern Tryz.prog 137 _ (fun args=>ReflectliteValue.unpack (args.getD 0 (.tuple #[]))) Tryz.func137 (by kernel_rfl) (by kernel_rfl) (by kernel_rfl) (by kernel_rfl)
 have h7 := @run_callFunc_extern Tryz.prog 138 _ (ReflectliteValue.methodAny (ReflectliteValue.valueError "reflectlite.Value.Type" 0) (fun t _ _ _ => ReflectliteType.toType t)) Tryz.func138 (by kernel_rfl) (by kernel_rfl) (by kernel_rfl) (by kernel_rfl)
 have h8 := @run_callFunc_extern Tryz.prog 139 _ (ReflectliteValue.method (ReflectliteValue.valueError "reflectlite.Value.IsNil" 0) ReflectliteValue.isNil) Tryz.func139 (by kernel_rfl) (by kernel_rfl) (by kernel_rfl) (by kernel_rfl)
 have h27:=@run_callFunc_extern Tryz.prog 263 _ (ReflectliteType.abiMethod fun t=>do pure (.int .u8 (←Rtype.kind t))) Tryz.func263 (by kernel_rfl) (by kernel_rfl) (by kernel_rfl) (by kernel_rfl)
 have h37:=@run_callFunc_extern Tryz.prog 276 _ (ReflectliteType.method ReflectliteType.elem) Tryz.func276 (by kernel_rfl) (by kernel_rfl) (by kernel_rfl) (by kernel_rfl)
 have h38 := @run_callFunc_extern Tryz.prog 277 _ (ReflectliteType.relation "Implements" ReflectliteType.implements_) Tryz.func277 (by kernel_rfl) (by kernel_rfl) (by kernel_rfl) (by kernel_rfl)
 have h10:=@run_callFunc_extern Tryz.prog 188 _ ReflectliteType.typeOf Tryz.func188 (by kernel_rfl) (by kernel_rfl) (by kernel_rfl) (by kernel_rfl)
 have h35 := @run_callFunc_extern Tryz.prog 274 _ (ReflectliteType.relation "AssignableTo" ReflectliteType.assignableTo) Tryz.func274 (by kernel_rfl) (by kernel_rfl) (by kernel_rfl) (by kernel_rfl)
 have h11 := @run_callFunc_extern Tryz.prog 189 _ (ReflectliteValue.method (ReflectliteValue.valueError "reflectlite.Value.Elem" 0) ReflectliteValue.elem) Tryz.func189 (by kernel_rfl) (by kernel_rfl) (by kernel_rfl) (by kernel_rfl)
 have h12:=@run_callFunc_extern Tryz.prog 190 _ ReflectliteValue.set Tryz.func190 (by kernel_rfl) (by kernel_rfl) (by kernel_rfl) (by kernel_rfl)
 have tO:=As.typeOfE
 have mA:=As.methodAssignableTo
 have aE:=As.assignableE
 have vE:=As.valueOfE
 have f6:=As.valueOfP
 have f7:=As.typeP
 have mK:=As.methodKind
 have mE:=As.methodElem
 have mI:=As.methodImplements
 have kP:=As.kindP
 have kE:=As.kindE
 have eP:=As.elemP
 have iE:=As.implementsE
 have htl:=lt_of_cell ht0
 have hlt:0 < w.heap.size:=lt_of_cell hg
 have n8:=As.isNilP ⟨w.heap.size,0,none⟩ t ((w.alloc (.cells #[.pointer (some t)] 109)).alloc (.cells #[.pointer (some ⟨5,109,none⟩),.pointer (some ⟨w.heap.size,0,none⟩),.int .u64 150] 173)) (by simp)
 have hg2:((w.alloc (.cells #[.pointer (some t)] 109)).alloc (.cells #[.pointer (some ⟨5,109,none⟩),.pointer (some ⟨w.heap.size,0,none⟩),.int .u64 150] 173)).cell? ⟨0,0,none⟩=some (.iface 229 (.agg #[.pointer (some ⟨5,29,none⟩)])):=by
   rw [World.cell?_alloc_lt _ _ ⟨0,0,none⟩ (by simp only [World.size_alloc];omega),World.cell?_alloc_lt _ _ ⟨0,0,none⟩ hlt];exact hg
 have el:=As.elemVP ⟨w.heap.size,0,none⟩ t (((w.alloc (.cells #[.pointer (some t)] 109)).alloc (.cells #[.pointer (some ⟨5,109,none⟩),.pointer (some ⟨w.heap.size,0,none⟩),.int .u64 150] 173)).alloc (.cells #[.pointer (some ⟨5,109,none⟩),.pointer (some ⟨w.heap.size,0,none⟩),.int .u64 150] 173)) (by rw [World.cell?_alloc_lt _ _ ⟨w.heap.size,0,none⟩ (by simp;omega)];simp)
 have st:=As.setE t ⟨w.heap.size + 1 + 1 + 1,0,none⟩ e old ((((w.alloc (.cells #[.pointer (some t)] 109)).alloc (.cells #[.pointer (some ⟨5,109,none⟩),.pointer (some ⟨w.heap.size,0,none⟩),.int .u64 150] 173)).alloc (.cells #[.pointer (some ⟨5,109,none⟩),.pointer (some ⟨w.heap.size,0,none⟩),.int .u64 150] 173)).alloc (.cells #[.int .i64 e] 44))
   (by rw [World.cell?_alloc_at _ _ _ _ (by simp)];rfl)
   (by rw [World.cell?_alloc_lt _ _ t (by simp;omega),World.cell?_alloc_lt _ _ t (by simp;omega),World.cell?_alloc_lt _ _ t (by simp;omega),World.cell?_alloc_lt _ _ t htl];exact ht0)
   (by rw [World.frozen?_alloc_old _ _ t (by simp;omega),World.frozen?_alloc_old _ _ t (by simp;omega),World.frozen?_alloc_old _ _ t (by simp;omega),World.frozen?_alloc_old _ _ t (Nat.ne_of_lt htl)];exact hf0)
 go_enter Tryz.func86,Tryz.ntmps86
 go_wp2
 refine wp_loop_rounds 1 ?_
 rw [rounds_succ]
 go_wp2
 go_ret
 exact ⟨rfl,rfl⟩
end Go.Proofs.YtjkbmfpomgcblaaGreatDoor
namespace Go.Proofs.YtjkbmfpomgcblaaGreatDoor
open Go.RowKit
theorem ref_conv (n:Nat) (w:World):(convert 60 9 (.slice (some ⟨w.heap.size,0,none⟩) 1 1)).run Tryz.prog (w.alloc (.cells #[.int .u8 ((n:Int) % 256)] 5))=.ok (.string ⟨#[UInt8.ofNat n]⟩) (w.alloc (.cells #[.int .u8 ((n:Int) % 256)] 5)):=by
 refine run_convert_bytes_back _ _ _ _ _ _ [UInt8.ofNat n] Tryz.underlying60 Tryz.underlying5 Tryz.underlying9 fun j hj=>?_
 obtain rfl:j=0:=by simp at hj;omega
 have hadd:(⟨w.heap.size,0,none⟩:Addr).add 0=⟨w.heap.size,0,none⟩:=rfl
 rw [hadd,cell_of_row _ _ _ _ _ _ (heap_alloc_new w _)]
 simp
def tk (s:ByteArray) (n k:Nat):ByteArray:=s ++ ⟨((tail4 n).take k).toArray⟩
theorem tk_zero (s:ByteArray) (n:Nat):tk s n 0=s:=by apply bytes_ext;unfold tk;simp
theorem tk_size (s:ByteArray) (n k:Nat):(tk s n k).size≤s.size + 4:=by
 unfold tk
 rw [ByteArray.size_append]
 have:(⟨((tail4 n).take k).toArray⟩:ByteArray).size=((tail4 n).take k).length:=by show ((tail4 n).take k).toArray.size=_;simp
 rw [this]
 have h2:((tail4 n).take k).length≤4:=List.length_take_le' _ _
 omega
theorem tk_succ (s:ByteArray) (n k:Nat) (h:k < 4):tk s n k ++ ⟨#[UInt8.ofNat (n / 256 ^ k)]⟩=tk s n (k + 1):=by
 apply bytes_ext
 unfold tk
 simp only [ByteArray.data_append,Array.toList_append,List.append_assoc]
 congr 1
 match k,h with
 | 0,_=>simp [tail4]
 | 1,_=>simp [tail4]
 | 2,_=>simp [tail4]
 | 3,_=>simp [tail4]
theorem tk_all (s:ByteArray):tk s (sum s.data.toList) 4=sealB s:=rfl
theorem div_next (n k:Nat):((n / 256 ^ k:Nat):Int) / 256=((n / 256 ^ (k + 1):Nat):Int):=by
 rw [Nat.pow_succ,←Nat.div_div_eq_div_mul]
 omega
set_option maxRecDepth 100000 in
set_option maxHeartbeats 1000000 in
theorem refseal_any (s:ByteArray) (w:World) (hs:s.size≤1000000) :
   Calls Tryz.prog 66 #[.string s] w fun e w'=>e=.returned (.string (sealB s))∧Below w.heap.size w w':=by
 have hl:=sum_lt s.data.toList
 obtain ⟨n,hn⟩:∃ n,n=sum s.data.toList:=⟨_,rfl⟩
 have HN:=Lib.hid hn
 rw [←hn] at hl
 clear hn
 go_enter Tryz.func66,Tryz.ntmps66
 go_wp2_with fail
 refine (refsum_any _ _ hs).mono ?_
 rintro e w' ⟨rfl,rfl⟩
 rw [←HN.out]
 go_wp2
 go_loopw [0,3,6] (fun t m c wr=>∃ k:Nat,k≤4∧c=.int .i64 k∧t=.string (tk s n k)∧m=.int .u32 (n / 256 ^ k:Nat)∧Below w.heap.size w wr) (fun _ _ c _=>4 - (intOf c).toNat)
 case atStart=>exact ⟨0,by omega,rfl,by rw [tk_zero],by simp,Below.refl _ _⟩
 case round =>
   obtain ⟨k,hk,rfl,rfl,rfl,hb⟩:=hrel
   have HB:=Lib.hid hb
   clear hb
   by_cases hlt:k < 4
   · have hcv:=ref_conv (n / 256 ^ k) wr
     have hz:=tk_size s n k
     have hd:=div_next n k
     have ht:=tk_succ s n k hlt
     have hm:n / 256 ^ k < 4294967296:=Nat.lt_of_le_of_lt (Nat.div_le_self _ _) hl
     obtain ⟨m2,hm2⟩:∃ m2,n / 256 ^ (k + 1)=m2:=⟨_,rfl⟩
     rw [hm2] at hd
     have HM2:=Lib.hid hm2
     clear hm2
     generalize n / 256 ^ k=m at *
     go_wp2
     go_roundw
     case rel=>exact ⟨k + 1,by omega,by go_num,rfl,by rw [HM2.out],HB.out.alloc HB.out.size _⟩
     case measure=>simp [intOf];omega
   · obtain rfl:k=4:=by omega
     have HT:Hid (tk s n 4=sealB s):=by
       have h:tk s n 4=sealB s:=by rw [HN.out];exact tk_all s
       exact h
     go_wp2
     go_ret
     exact ⟨by rw [←HT.out];rfl,HB.out⟩
end Go.Proofs.YtjkbmfpomgcblaaGreatDoor
namespace Go.Proofs.YtjkbmfpomgcblaaGreatDoor
open Go.RowKit
theorem within_as (x1 x2:Int) (vf vh:Value) (f h:List Ent) (b:Bool) (w:World) (hf:IsEnts w vf f) (hh:IsEnts w vh h) (hlf:f.length≤9223372036854775807) (hlh:h.length≤9223372036854775807) (hb:wiF (x1,x2) f h=b) :
   Calls Tryz.prog 147 #[.agg #[.int .i64 x1,.int .i64 x2],vf,vh] w fun e w'=>e=.returned (.bool b)∧Below w.heap.size w w':=within_any x1 x2 vf vh f h w hf hh hlf hlh b hb
end Go.Proofs.YtjkbmfpomgcblaaGreatDoor
