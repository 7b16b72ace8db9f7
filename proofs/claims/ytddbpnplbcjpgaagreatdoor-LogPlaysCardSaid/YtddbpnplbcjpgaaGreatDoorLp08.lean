import Derived.Test.YtddbpnplbcjpgaaGreatDoorLp07
namespace Go.Proofs.YtddbpnplbcjpgaaGreatDoor
open Go.RowKit
set_option maxRecDepth 100000 in
set_option maxHeartbeats 2000000 in
theorem within_any (x1 x2:Int) (vf vh:Value) (f h:List Ent) (w:World) (hf:IsEnts w vf f) (hh:IsEnts w vh h) (hlf:f.length≤9223372036854775807) (hlh:h.length≤9223372036854775807) (b:Bool) (hb:wiF (x1,x2) f h=b) :
   Calls Tryz.prog 89 #[.agg #[.int .i64 x1,.int .i64 x2],vf,vh] w fun e w'=>e=.returned (.bool b)∧Below w.heap.size w w':=by
 subst hb
 obtain ⟨p,hp⟩:∃ p,ofF f x2=p:=⟨_,rfl⟩
 obtain ⟨q,hq⟩:∃ q,ofF h x2=q:=⟨_,rfl⟩
 have HP:=Lib.hid hp
 have HQ:=Lib.hid hq
 have HLF:=Lib.hid hlf
 have HLH:=Lib.hid hlh
 have HF:Hid (IsEnts (w.alloc (.cells #[.int .i64 x1,.int .i64 x2] 24)).drew vf f):=Lib.hid ((hf.alloc _).drewN 1)
 have HH:Hid (IsEnts (w.alloc (.cells #[.int .i64 x1,.int .i64 x2] 24)).drew vh h):=Lib.hid ((hh.alloc _).drewN 1)
 have c0:(w.alloc (.cells #[.int .i64 x1,.int .i64 x2] 24)).cell? ⟨w.heap.size,0,none⟩=some (.int .i64 x1)∧(w.alloc (.cells #[.int .i64 x1,.int .i64 x2] 24)).cell? ⟨w.heap.size,1,none⟩=some (.int .i64 x2):=by simp
 have hval:wiF (x1,x2) f h=(decide (p < x1) && decide (x1≤q)):=by unfold wiF;simp only;rw [hp,hq]
 have HB0:Hid (Below w.heap.size w (w.alloc (.cells #[.int .i64 x1,.int .i64 x2] 24)).drew):=Lib.hid ((Below.refl _ _).alloc (Nat.le_refl _) _).drew
 by_cases h1:p < x1
 · by_cases h2:x1≤q
   · have HW:Hid (wiF (x1,x2) f h=true):=Lib.hid (by rw [hval,decide_eq_true h1,decide_eq_true h2];rfl)
     clear hf hh hp hq hlf hlh hval
     rw [HW.out]
     go_enter Tryz.func89,Tryz.ntmps89
     go_wp2
     go_region_held3 (fun w'=>w'.cell? ⟨w.heap.size,0,none⟩=some (.int .i64 x1)∧w'.cell? ⟨w.heap.size,1,none⟩=some (.int .i64 x2)) (first | exact c0 | exact c2 | exact c3) (first
       | (go_at_call 70;((with_reducible refine (vofI_as vf f x2 p _ HF.out HLF.out HP.out).mono ?_);rintro r w2 ⟨rfl,hb2⟩;have c2:w2.cell? ⟨w.heap.size,0,none⟩=some (.int .i64 x1)∧w2.cell? ⟨w.heap.size,1,none⟩=some (.int .i64 x2):=⟨(hb2.cell (by simp)).trans c0.1,(hb2.cell (by simp)).trans c0.2⟩;have HB2:Hid (Below w.heap.size w w2):=(HB0.out.trans (hb2.mono (by simp)));have HH2:=Lib.hid (HH.out.below hb2);have HZ2:Hid (w.heap.size < w2.heap.size):=(Nat.lt_of_lt_of_le (by simp) hb2.size);clear hb2))
       | (go_at_call 70;((with_reducible refine (vofI_as vh h x2 q w2 HH2.out HLH.out HQ.out).mono ?_);rintro r w3 ⟨rfl,hb3⟩;have c3:w3.cell? ⟨w.heap.size,0,none⟩=some (.int .i64 x1)∧w3.cell? ⟨w.heap.size,1,none⟩=some (.int .i64 x2):=⟨(hb3.cell HZ2.out).trans c2.1,(hb3.cell HZ2.out).trans c2.2⟩;have HB3:Hid (Below w.heap.size w w3):=(HB2.out.trans (hb3.mono HB2.out.size));clear hb3)))
     go_wp2
     go_ret
     exact ⟨rfl,HB3.out⟩
   · have HW:Hid (wiF (x1,x2) f h=false):=Lib.hid (by rw [hval,decide_eq_true h1,decide_eq_false h2];rfl)
     have d7:decide (x1≤q)=false:=decide_eq_false h2
     clear hf hh hp hq hlf hlh hval h2
     rw [HW.out]
     go_enter Tryz.func89,Tryz.ntmps89
     go_wp2
     go_region_held3 (fun w'=>w'.cell? ⟨w.heap.size,0,none⟩=some (.int .i64 x1)∧w'.cell? ⟨w.heap.size,1,none⟩=some (.int .i64 x2)) (first | exact c0 | exact c2 | exact c3) (first
       | (go_at_call 70;((with_reducible refine (vofI_as vf f x2 p _ HF.out HLF.out HP.out).mono ?_);rintro r w2 ⟨rfl,hb2⟩;have c2:w2.cell? ⟨w.heap.size,0,none⟩=some (.int .i64 x1)∧w2.cell? ⟨w.heap.size,1,none⟩=some (.int .i64 x2):=⟨(hb2.cell (by simp)).trans c0.1,(hb2.cell (by simp)).trans c0.2⟩;have HB2:Hid (Below w.heap.size w w2):=(HB0.out.trans (hb2.mono (by simp)));have HH2:=Lib.hid (HH.out.below hb2);have HZ2:Hid (w.heap.size < w2.heap.size):=(Nat.lt_of_lt_of_le (by simp) hb2.size);clear hb2))
       | (go_at_call 70;((with_reducible refine (vofI_as vh h x2 q w2 HH2.out HLH.out HQ.out).mono ?_);rintro r w3 ⟨rfl,hb3⟩;have c3:w3.cell? ⟨w.heap.size,0,none⟩=some (.int .i64 x1)∧w3.cell? ⟨w.heap.size,1,none⟩=some (.int .i64 x2):=⟨(hb3.cell HZ2.out).trans c2.1,(hb3.cell HZ2.out).trans c2.2⟩;have HB3:Hid (Below w.heap.size w w3):=(HB2.out.trans (hb3.mono HB2.out.size));clear hb3)))
     go_wp2
     go_ret
     exact ⟨rfl,HB3.out⟩
 · have HW:Hid (wiF (x1,x2) f h=false):=Lib.hid (by rw [hval,decide_eq_false h1];rfl)
   have d6:decide (p < x1)=false:=decide_eq_false h1
   clear hf hh hp hq hlf hlh hval h1
   rw [HW.out]
   go_enter Tryz.func89,Tryz.ntmps89
   go_wp2
   refine wp_region_held_drew (S:=fun w'=>w'.cell? ⟨w.heap.size,0,none⟩=some (.int .i64 x1)∧w'.cell? ⟨w.heap.size,1,none⟩=some (.int .i64 x2)) (by kernel_rfl) c0 (fun hHeld=>?_)
   refine wpAnyH_take (i:=0) (v:=?v0) rfl (by kernel_rfl) (by kernel_rfl) (by kernel_rfl) (fun _ _ _ h=>h) (Or.inl ⟨by rfl,?h0⟩) (by assumption) ?r0
   case h0=>(intro W hSw;(try dsimp only at hSw);go_simp;all_goals (with_reducible rfl))
   try simp only [Act.put,List.getElem_toArray,List.getElem_cons_zero,List.setIfInBounds_toArray,List.set_cons_zero,List.set_cons_succ]
   refine wpAnyH_take (i:=1) (v:=?v1) rfl (by kernel_rfl) (by kernel_rfl) (by kernel_rfl) (fun _ _ _ h=>h) (Or.inl ⟨by rfl,?h1⟩) (by assumption) ?r1
   case h1=>(intro W hSw;(try dsimp only at hSw);go_simp;all_goals (with_reducible rfl))
   try simp only [Act.put,List.getElem_toArray,List.getElem_cons_zero,List.getElem_cons_succ,List.setIfInBounds_toArray,List.set_cons_zero,List.set_cons_succ]
   refine wpAnyH_take (i:=2) (v:=?v2) rfl (by kernel_rfl) (by kernel_rfl) (by kernel_rfl) (fun _ _ _ h=>h) (Or.inl ⟨by rfl,?h2⟩) (by assumption) ?r2
   case h2=>(intro W hSw;(try dsimp only at hSw);go_simp;all_goals (with_reducible rfl))
   try simp only [Act.put,List.getElem_toArray,List.getElem_cons_zero,List.getElem_cons_succ,List.setIfInBounds_toArray,List.set_cons_zero,List.set_cons_succ]
   refine wpAnyH_take (i:=3) (v:=?v3) rfl (by kernel_rfl) (by kernel_rfl) (by kernel_rfl) (fun _ _ _ h=>h) (Or.inl ⟨by rfl,?h3⟩) (by assumption) ?r3
   case h3=>(intro W hSw;(try dsimp only at hSw);go_simp;all_goals (with_reducible rfl))
   try simp only [Act.put,List.getElem_toArray,List.getElem_cons_zero,List.getElem_cons_succ,List.setIfInBounds_toArray,List.set_cons_zero,List.set_cons_succ]
   refine wpAnyH_take (i:=4) (v:=?v4) rfl (by kernel_rfl) (by kernel_rfl) (by kernel_rfl) (fun _ _ _ h=>h) (Or.inl ⟨by rfl,?h4⟩) (by assumption) ?r4
   case h4=>(intro W hSw;(try dsimp only at hSw);go_simp;all_goals (with_reducible rfl))
   try simp only [Act.put,List.getElem_toArray,List.getElem_cons_zero,List.getElem_cons_succ,List.setIfInBounds_toArray,List.set_cons_zero,List.set_cons_succ]
   refine wpAnyH_ready (rs:=[5]) (by kernel_rfl) (by simp) ?_
   refine AllReadyH.cons rfl (fun K hK=>?_) AllReadyH.nil
   go_simp
   refine (vofI_as vf f x2 p _ HF.out HLF.out HP.out).mono ?_
   rintro r w2 ⟨rfl,hb2⟩
   have c2:w2.cell? ⟨w.heap.size,0,none⟩=some (.int .i64 x1)∧w2.cell? ⟨w.heap.size,1,none⟩=some (.int .i64 x2):=⟨(hb2.cell (by simp)).trans c0.1,(hb2.cell (by simp)).trans c0.2⟩
   have HB2:Hid (Below w.heap.size w w2):=HB0.out.trans (hb2.mono (by simp))
   clear hb2
   refine hK.out _ _ c2 (fun hHeld2=>?_)
   clear hK hHeld
   try simp only [Act.put,List.getElem_toArray,List.getElem_cons_zero,List.getElem_cons_succ,List.setIfInBounds_toArray,List.set_cons_zero,List.set_cons_succ]
   refine wpAnyH_take (i:=6) (v:=?v6) rfl (by kernel_rfl) (by kernel_rfl) (by kernel_rfl) (fun _ _ _ h=>h) (Or.inl ⟨by rfl,?h6⟩) (by assumption) ?r6
   case h6=>(intro W hSw;(try dsimp only at hSw);go_simp;all_goals (with_reducible rfl))
   try simp only [Act.put,List.getElem_toArray,List.getElem_cons_zero,List.getElem_cons_succ,List.setIfInBounds_toArray,List.set_cons_zero,List.set_cons_succ]
   refine wpAnyH_take (i:=7) (v:=?v7) rfl (by kernel_rfl) (by kernel_rfl) (by kernel_rfl) (fun _ _ _ h=>h) (Or.inl ⟨by rfl,?h7⟩) (by assumption) ?r7
   case h7=>(intro W hSw;(try dsimp only at hSw);go_simp;all_goals (with_reducible rfl))
   try simp only [Act.put,List.getElem_toArray,List.getElem_cons_zero,List.getElem_cons_succ,List.setIfInBounds_toArray,List.set_cons_zero,List.set_cons_succ]
   refine wpAnyH_take (i:=8) (v:=undef) rfl (by kernel_rfl) (by kernel_rfl) (by kernel_rfl) (fun _ _ _ h=>h) (Or.inr ⟨by rfl,rfl⟩) (by assumption) ?_
   try simp only [Act.put,List.getElem_toArray,List.getElem_cons_zero,List.getElem_cons_succ,List.setIfInBounds_toArray,List.set_cons_zero,List.set_cons_succ]
   refine wpAnyH_take (i:=10) (v:=undef) rfl (by kernel_rfl) (by kernel_rfl) (by kernel_rfl) (fun _ _ _ h=>h) (Or.inr ⟨by rfl,rfl⟩) (by assumption) ?_
   try simp only [Act.put,List.getElem_toArray,List.getElem_cons_zero,List.getElem_cons_succ,List.setIfInBounds_toArray,List.set_cons_zero,List.set_cons_succ]
   refine wpAnyH_take (i:=11) (v:=undef) rfl (by kernel_rfl) (by kernel_rfl) (by kernel_rfl) (fun _ _ _ h=>h) (Or.inr ⟨by rfl,rfl⟩) (by assumption) ?_
   try simp only [Act.put,List.getElem_toArray,List.getElem_cons_zero,List.getElem_cons_succ,List.setIfInBounds_toArray,List.set_cons_zero,List.set_cons_succ]
   refine wpAnyH_take (i:=9) (v:=undef) rfl (by kernel_rfl) (by kernel_rfl) (by kernel_rfl) (fun _ _ _ h=>h) (Or.inr ⟨by rfl,rfl⟩) (by assumption) ?_
   try simp only [Act.put,List.getElem_toArray,List.getElem_cons_zero,List.getElem_cons_succ,List.setIfInBounds_toArray,List.set_cons_zero,List.set_cons_succ]
   refine wpAnyH_take (i:=12) (v:=undef) rfl (by kernel_rfl) (by kernel_rfl) (by kernel_rfl) (fun _ _ _ h=>h) (Or.inr ⟨by rfl,rfl⟩) (by assumption) ?_
   try simp only [Act.put,List.getElem_toArray,List.getElem_cons_zero,List.getElem_cons_succ,List.setIfInBounds_toArray,List.set_cons_zero,List.set_cons_succ]
   refine wpAnyH_take (i:=13) (v:=undef) rfl (by kernel_rfl) (by kernel_rfl) (by kernel_rfl) (fun _ _ _ h=>h) (Or.inr ⟨by rfl,rfl⟩) (by assumption) ?_
   try simp only [Act.put,List.getElem_toArray,List.getElem_cons_zero,List.getElem_cons_succ,List.setIfInBounds_toArray,List.set_cons_zero,List.set_cons_succ]
   refine wpAnyH_take (i:=14) (v:=undef) rfl (by kernel_rfl) (by kernel_rfl) (by kernel_rfl) (fun _ _ _ h=>h) (Or.inr ⟨by rfl,rfl⟩) (by assumption) ?_
   try simp only [Act.put,List.getElem_toArray,List.getElem_cons_zero,List.getElem_cons_succ,List.setIfInBounds_toArray,List.set_cons_zero,List.set_cons_succ]
   refine wpAnyH_take (i:=15) (v:=?v15) rfl (by kernel_rfl) (by kernel_rfl) (by kernel_rfl) (fun _ _ _ h=>h) (Or.inl ⟨by rfl,?h15⟩) (by assumption) ?r15
   case h15=>(intro W hSw;(try dsimp only at hSw);go_simp;all_goals (with_reducible rfl))
   try simp only [Act.put,List.getElem_toArray,List.getElem_cons_zero,List.getElem_cons_succ,List.setIfInBounds_toArray,List.set_cons_zero,List.set_cons_succ]
   refine wpAnyH_take (i:=16) (v:=?v16) rfl (by kernel_rfl) (by kernel_rfl) (by kernel_rfl) (fun _ _ _ h=>h) (Or.inl ⟨by rfl,?h16⟩) (by assumption) ?r16
   case h16=>(intro W hSw;(try dsimp only at hSw);go_simp;all_goals (with_reducible rfl))
   try simp only [Act.put,List.getElem_toArray,List.getElem_cons_zero,List.getElem_cons_succ,List.setIfInBounds_toArray,List.set_cons_zero,List.set_cons_succ]
   refine wpAnyH_done (by kernel_rfl) ?_ _
   go_wp2
   go_ret
   exact ⟨rfl,HB2.out⟩
end Go.Proofs.YtddbpnplbcjpgaaGreatDoor
namespace Go.Proofs.YtddbpnplbcjpgaaGreatDoor
theorem cI_val (x1 x2 y1 y2:Int):cI (x1,x2) (y1,y2)=if x1 < y1∨x1=y1∧x2 < y2 then -1 else if x1=y1∧x2=y2 then 0 else 1:=by
 unfold cI orF cmpF
 simp only
 repeat' split
 all_goals omega
theorem cI_neg (x1 x2 y1 y2:Int):cI (y1,y2) (x1,x2)=- cI (x1,x2) (y1,y2):=by
 rw [cI_val,cI_val]
 repeat' split
 all_goals omega
theorem cI_three (x1 x2 y1 y2:Int):cI (x1,x2) (y1,y2)=-1∨cI (x1,x2) (y1,y2)=0∨cI (x1,x2) (y1,y2)=1:=by
 rw [cI_val]
 repeat' split
 all_goals omega
theorem cI_trans {x1 x2 y1 y2 z1 z2:Int} (h1:cI (x1,x2) (y1,y2)=-1) (h2:cI (y1,y2) (z1,z2)=-1):cI (x1,x2) (z1,z2)=-1:=by
 rw [cI_val] at h1 h2 ⊢
 split at h1
 · split at h2
   · rw [if_pos (by omega)]
   · split at h2 <;> omega
 · split at h1 <;> omega
end Go.Proofs.YtddbpnplbcjpgaaGreatDoor
namespace Go.Proofs.YtddbpnplbcjpgaaGreatDoor
open Go.RowKit
set_option maxRecDepth 100000 in
set_option maxHeartbeats 4000000 in
theorem sins_end (v:Value) (n vb:Nat) (l:List ByteArray) (x:ByteArray) (w:World) (base:Nat) (ho:ownsS w base v l) (hn:n=l.length) (hm:n≤1000000) (hvb:strBlk w vb x) (hbs:base≤w.heap.size) :
   Calls Tryz.prog 125 #[v,.int .i64 (n:Int),.slice (some ⟨vb,0,none⟩) 1 1] w (InsS w base n v l x):=by
 obtain ⟨i0,hi,hz0,hz1,hz2⟩:=info_parts info_str
 obtain ⟨a,c,hv,hle⟩:∃ a c,v=.slice a n c∧n≤c:=by
   rcases ho.2 with ⟨rfl,h0⟩ | ⟨g,cap,cur,rfl,_,_,h1,_⟩
   · exact ⟨none,0,by rw [hn,h0],by omega⟩
   · exact ⟨_,_,by rw [hn],by omega⟩
 have hadd:∀ (ad:Addr),ad.add 0=ad:=fun ad=>by unfold Addr.add;split <;> simp_all
 have hcell:w.cell? ⟨vb,0,none⟩=some (.string x):=by unfold strBlk at hvb;rw [cell_of_row _ _ 0 _ _ (0,0) hvb];rfl
 obtain ⟨H,hH⟩:∃ H,w.heap.size=H:=⟨_,rfl⟩
 have HO:=Lib.hid ho
 have HV:=Lib.hid hv
 have HN:=Lib.hid hn
 have HH:=Lib.hid hH
 have HA:=Lib.hid (hadd ⟨vb,0,none⟩)
 have HC:=Lib.hid hcell
 have HB:=Lib.hid hbs
 have HLN:Hid (l.length≤1000000):=Lib.hid (by omega)
 have hnn:(n:Int)≤9223372036854775807:=by omega
 have HL:=Lib.hid hle
 subst hv
 clear ho hn hH hadd hcell hvb hbs
 rcases Nat.lt_or_ge n c with hcn | hcn
 · have hc1:¬ c=n:=by omega
   have HCN:=Lib.hid hcn
   clear hcn
   go_enter Tryz.func125,Tryz.ntmps125
   go_wp2_with (at_builtin; refine wpList_append_lies _ rfl _ _ 103 rfl base 9 i0 (.string ⟨#[]⟩) 1 16 Tryz.underlying103 hi hz0 hz1 hz2 rfl (by decide) (.slice a n c) l.length (l.map Value.string) rfl HO.out _ 1 1 [.string x] rfl rfl (fun j u hj => by
       match j,hj with
       | 0,hj=>simp at hj;subst hj;rw [HA.out];exact HC.out) (fun u hu=>by simp at hu;subst hu;rfl) (by decide) (by have:=HLN.out;unfold maxLen;omega) (by have:=HLN.out;omega) HB.out _ HH.out ?_;intro g cap w' h1 h2 h3 h4)
   go_ret
   have e0:=HH.out
   subst e0
   refine ⟨g,cap,rfl,?_,h2,h3.imp id (fun e=>by rw [e];exact Nat.le_refl _),h4⟩
   rw [HN.out,List.take_length,List.drop_length]
   unfold ownsS
   rw [List.length_append,List.map_append]
   exact h1
 · obtain rfl:c=n:=by omega
   clear hcn
   go_enter Tryz.func125,Tryz.ntmps125
   go_wp2_with (at_builtin; refine wpList_append_lies _ rfl _ _ 103 rfl base 9 i0 (.string ⟨#[]⟩) 1 16 Tryz.underlying103 hi hz0 hz1 hz2 rfl (by decide) (.slice a c c) l.length (l.map Value.string) rfl HO.out _ 1 1 [.string x] rfl rfl (fun j u hj => by
       match j,hj with
       | 0,hj=>simp at hj;subst hj;rw [HA.out];exact HC.out) (fun u hu=>by simp at hu;subst hu;rfl) (by decide) (by have:=HLN.out;unfold maxLen;omega) (by have:=HLN.out;omega) HB.out _ HH.out ?_;intro g cap w' h1 h2 h3 h4)
   go_ret
   have e0:=HH.out
   subst e0
   refine ⟨g,cap,rfl,?_,h2,h3.imp id (fun e=>by rw [e];exact Nat.le_refl _),h4⟩
   rw [HN.out,List.take_length,List.drop_length]
   unfold ownsS
   rw [List.length_append,List.map_append]
   exact h1
theorem sins_any (v:Value) (i n vb:Nat) (l:List ByteArray) (x:ByteArray) (w:World) (base:Nat) (ho:ownsS w base v l) (hn:n=l.length) (hi:i≤n) (hm:n≤1000000) (hvb:strBlk w vb x) (hne:v.ownBlock≠some vb) (hbs:base≤w.heap.size) :
   Calls Tryz.prog 125 #[v,.int .i64 (i:Int),.slice (some ⟨vb,0,none⟩) 1 1] w (InsS w base i v l x):=by
 rcases Nat.lt_or_ge i n with hlt | hge
 · obtain ⟨g,cap,rfl,hg,hgs,hlc,hcm,hrow,hcs⟩:=ho.rowS (by omega)
   rw [←hn] at hlc hne ⊢
   have hll:(l.take i ++ x :: l.drop i).length=l.length + 1:=by rw [List.length_append,List.length_take,List.length_cons,List.length_drop];omega
   by_cases hroom:n + 1≤cap
   · refine (sins_room g 0 cap i n vb 1 l x w hrow hcs hn hlt hroom (by unfold maxLen at hcm;omega) hvb (fun e=>hne (by rw [e];rfl))).mono ?_
     rintro e w' ⟨rfl,⟨cs,h1,h2⟩,h3,h4⟩
     refine ⟨g,cap,rfl,?_,h4,.inl rfl,Nat.lt_of_lt_of_le hgs h4.size⟩
     rw [←hll]
     exact ownsS_of_cells hg h1 h2 (by omega) hcm (fun j u hj=>by have:=h3 j u hj;rwa [Nat.zero_add] at this)
   · refine (sins_grow g 0 cap i n vb 1 l x w hrow hn hlt hlc (by omega) hm hvb hgs).mono ?_
     rintro e w' ⟨G,rfl,h0,hG,⟨cs,h1,h2⟩,h3,h4⟩
     refine ⟨_,G,rfl,?_,⟨h4.os,h4.tape,h4.output,h4.size,fun k hk _=>h4.block k hk (by simp)⟩,.inr (Nat.le_refl _),(Array.getElem?_eq_some_iff.1 h1).1⟩
     rw [←hll]
     exact ownsS_of_cells hbs h1 h2 (by omega) hG h3
 · obtain rfl:i=n:=by omega
   exact sins_end v i vb l x w base ho hn hm hvb hbs
end Go.Proofs.YtddbpnplbcjpgaaGreatDoor
namespace Go.Proofs.YtddbpnplbcjpgaaGreatDoor
open Go.RowKit Go.Extern.Stop Go.Stop Go.Extern
def errT (w:World):Prop:=w.cell? ⟨0,0,none⟩=some (.iface 162 (.agg #[.pointer (some ⟨5,36,none⟩)]))
def asWorld (w:World) (t:Addr):World :=
 ((w.alloc (.cells #[.pointer (some t)] 137)).alloc (.cells #[.pointer (some ⟨5,137,none⟩),.pointer (some ⟨w.heap.size,0,none⟩),.int .u64 150] 141)).alloc (.cells #[.pointer (some ⟨5,137,none⟩),.pointer (some ⟨w.heap.size,0,none⟩),.int .u64 150] 141)
theorem lt_of_cell {w:World} {a:Addr} {v:Value} (h:w.cell? a=some v):a.block < w.heap.size:=by
 rcases Nat.lt_or_ge a.block w.heap.size with h' | h'
 · exact h'
 · simp [World.cell?,Array.getElem?_eq_none h'] at h
set_option maxRecDepth 100000 in
set_option maxHeartbeats 4000000 in
theorem as_errno (e:Int) (t:Addr) (old:Value) (w:World) (hg:errT w) (ht0:w.cell? t=some old) (hf0:w.frozen? t=false) :
   Calls Tryz.prog 76 #[.iface 40 (.int .i64 e),.iface 137 (.pointer (some t))] w fun ev w'=>ev=.returned (.bool true)∧((asWorld w t).alloc (.cells #[.int .i64 e] 40)).setCell t (.int .i64 e)=w':=by
 unfold asWorld
 unfold errT at hg
 have h6:=@run_callFunc_extern Tryz.prog 77 _ (fun args=>ReflectliteValue.unpack (args.getD 0 (.tuple #[]))) Tryz.func77 (by kernel_rfl) (by kernel_rfl) (by kernel_rfl) (by kernel_rfl)
 have h7 := @run_callFunc_extern Tryz.prog 94 _ (ReflectliteValue.methodAny (ReflectliteValue.valueError "reflectlite.Value.Type" 0) (fun t _ _ _ => ReflectliteType.toType t)) Tryz.func94 (by kernel_rfl) (by kernel_rfl) (by kernel_rfl) (by kernel_rfl)
 have h8 := @run_callFunc_extern Tryz.prog 95 _ (ReflectliteValue.method (ReflectliteValue.valueError "reflectlite.Value.IsNil" 0) ReflectliteValue.isNil) Tryz.func95 (by kernel_rfl) (by kernel_rfl) (by kernel_rfl) (by kernel_rfl)
 have h27:=@run_callFunc_extern Tryz.prog 197 _ (ReflectliteType.abiMethod fun t=>do pure (.int .u8 (←Rtype.kind t))) Tryz.func197 (by kernel_rfl) (by kernel_rfl) (by kernel_rfl) (by kernel_rfl)
 have h37:=@run_callFunc_extern Tryz.prog 209 _ (ReflectliteType.method ReflectliteType.elem) Tryz.func209 (by kernel_rfl) (by kernel_rfl) (by kernel_rfl) (by kernel_rfl)
 have h38 := @run_callFunc_extern Tryz.prog 210 _ (ReflectliteType.relation "Implements" ReflectliteType.implements_) Tryz.func210 (by kernel_rfl) (by kernel_rfl) (by kernel_rfl) (by kernel_rfl)
 have h10:=@run_callFunc_extern Tryz.prog 121 _ ReflectliteType.typeOf Tryz.func121 (by kernel_rfl) (by kernel_rfl) (by kernel_rfl) (by kernel_rfl)
 have h35 := @run_callFunc_extern Tryz.prog 207 _ (ReflectliteType.relation "AssignableTo" ReflectliteType.assignableTo) Tryz.func207 (by kernel_rfl) (by kernel_rfl) (by kernel_rfl) (by kernel_rfl)
 have h11 := @run_callFunc_extern Tryz.prog 122 _ (ReflectliteValue.method (ReflectliteValue.valueError "reflectlite.Value.Elem" 0) ReflectliteValue.elem) Tryz.func122 (by kernel_rfl) (by kernel_rfl) (by kernel_rfl) (by kernel_rfl)
 have h12:=@run_callFunc_extern Tryz.prog 123 _ ReflectliteValue.set Tryz.func123 (by kernel_rfl) (by kernel_rfl) (by kernel_rfl) (by kernel_rfl)
 have tO:=As.typeOfE
 have mA:=As.methodAssignableTo
 have aE:=As.assignableE
 have vE:=As.valueOfE
 have f6:=As.valueOfP
 have f7:=As.typeP
 have mK:=As.methodKind
 have mE:=As.methodElem
 have mI:=As.methodImplements
 have kP:=As.kindP
 have kE:=As.kindE
 have eP:=As.elemP
 have iE:=As.implementsE
 have htl:=lt_of_cell ht0
 have hlt:0 < w.heap.size:=lt_of_cell hg
 have n8:=As.isNilP ⟨w.heap.size,0,none⟩ t ((w.alloc (.cells #[.pointer (some t)] 137)).alloc (.cells #[.pointer (some ⟨5,137,none⟩),.pointer (some ⟨w.heap.size,0,none⟩),.int .u64 150] 141)) (by simp)
 have hg2:((w.alloc (.cells #[.pointer (some t)] 137)).alloc (.cells #[.pointer (some ⟨5,137,none⟩),.pointer (some ⟨w.heap.size,0,none⟩),.int .u64 150] 141)).cell? ⟨0,0,none⟩=some (.iface 162 (.agg #[.pointer (some ⟨5,36,none⟩)])):=by
   rw [World.cell?_alloc_lt _ _ ⟨0,0,none⟩ (by simp only [World.size_alloc];omega),World.cell?_alloc_lt _ _ ⟨0,0,none⟩ hlt];exact hg
 have el:=As.elemVP ⟨w.heap.size,0,none⟩ t (((w.alloc (.cells #[.pointer (some t)] 137)).alloc (.cells #[.pointer (some ⟨5,137,none⟩),.pointer (some ⟨w.heap.size,0,none⟩),.int .u64 150] 141)).alloc (.cells #[.pointer (some ⟨5,137,none⟩),.pointer (some ⟨w.heap.size,0,none⟩),.int .u64 150] 141)) (by rw [World.cell?_alloc_lt _ _ ⟨w.heap.size,0,none⟩ (by simp;omega)];simp)
 have st:=As.setE t ⟨w.heap.size + 1 + 1 + 1,0,none⟩ e old ((((w.alloc (.cells #[.pointer (some t)] 137)).alloc (.cells #[.pointer (some ⟨5,137,none⟩),.pointer (some ⟨w.heap.size,0,none⟩),.int .u64 150] 141)).alloc (.cells #[.pointer (some ⟨5,137,none⟩),.pointer (some ⟨w.heap.size,0,none⟩),.int .u64 150] 141)).alloc (.cells #[.int .i64 e] 40))
   (by rw [World.cell?_alloc_at _ _ _ _ (by simp)];rfl)
   (by rw [World.cell?_alloc_lt _ _ t (by simp;omega),World.cell?_alloc_lt _ _ t (by simp;omega),World.cell?_alloc_lt _ _ t (by simp;omega),World.cell?_alloc_lt _ _ t htl];exact ht0)
   (by rw [World.frozen?_alloc_old _ _ t (by simp;omega),World.frozen?_alloc_old _ _ t (by simp;omega),World.frozen?_alloc_old _ _ t (by simp;omega),World.frozen?_alloc_old _ _ t (Nat.ne_of_lt htl)];exact hf0)
 go_enter Tryz.func76,Tryz.ntmps76
 go_wp2
 refine wp_loop_rounds 1 ?_
 rw [rounds_succ]
 go_wp2
 go_ret
 exact ⟨rfl,rfl⟩
end Go.Proofs.YtddbpnplbcjpgaaGreatDoor
namespace Go.Proofs.YtddbpnplbcjpgaaGreatDoor
open Go.RowKit
def wE (x:Wr):Nat:=wriE x.time x.rep x.kind x.key x.value x.n
def wid (x:Wr):Int×Int:=(x.time,x.rep)
def late (q x:Wr):Prop:=cI (wid x) (wid q)=1
instance (q x : Wr) : Decidable (late q x) := by unfold late; infer_instance
def lateO:Option Wr→Wr→Prop
 | none,_=>True
 | some q,x=>late q x
instance (p : Option Wr) (x : Wr) : Decidable (lateO p x) := by cases p <;> (unfold lateO; infer_instance)
def bwE (f h:List Ent) (p:Option Wr) (x:Wr):Nat:=if wE x≠0 then wE x else if ¬ lateO p x then 10 else if wiF (wid x) f h=false then 6 else 0
def bwr (f h:List Ent):List Wr→Nat→Option Wr→Nat×Int
 | [],_,_=>(0,-1)
 | x :: r,i,p=>if bwE f h p x≠0 then (bwE f h p x,(i:Int)) else bwr f h r (i + 1) (some x)
def bbE (f h:List Ent):Nat:=if (vrightF f).1≠0 then (vrightF f).1 else if (vrightF h).1≠0 then (vrightF h).1 else if covB h f=false then 13 else 0
def batF (f h:List Ent) (ws:List Wr):Nat×Int:=if bbE f h≠0 then (bbE f h,-1) else if 60 < ws.length then (4,-1) else bwr f h ws 0 none
theorem bwr_bad {f h:List Ent} {x:Wr} {r:List Wr} {i:Nat} {p:Option Wr} {e:Nat} (hx:bwE f h p x=e) (he:e≠0):bwr f h (x :: r) i p=(e,(i:Int)):=by subst hx;rw [bwr,if_pos he]
theorem bwr_good {f h:List Ent} {x:Wr} {r:List Wr} {i:Nat} {p:Option Wr} (hx:bwE f h p x=0):bwr f h (x :: r) i p=bwr f h r (i + 1) (some x):=by rw [bwr,if_neg (by rw [hx];simp)]
theorem batF_bb {f h:List Ent} {ws:List Wr} {e:Nat} (hx:bbE f h=e) (he:e≠0):batF f h ws=(e,-1):=by subst hx;unfold batF;rw [if_pos he]
theorem batF_many {f h:List Ent} {ws:List Wr} (hx:bbE f h=0) (hl:60 < ws.length):batF f h ws=(4,-1):=by unfold batF;rw [if_neg (by rw [hx];simp),if_pos hl]
theorem batF_rest {f h:List Ent} {ws:List Wr} (hx:bbE f h=0) (hl:¬ 60 < ws.length):batF f h ws=bwr f h ws 0 none:=by unfold batF;rw [if_neg (by rw [hx];simp),if_neg hl]
theorem bwE_w {f h:List Ent} {p:Option Wr} {x:Wr} {e:Nat} (hx:wE x=e) (he:e≠0):bwE f h p x=e:=by subst hx;unfold bwE;rw [if_pos he]
theorem bwE_order {f h:List Ent} {p:Option Wr} {x:Wr} (hx:wE x=0) (hl:¬ lateO p x):bwE f h p x=10:=by unfold bwE;rw [if_neg (by rw [hx];simp),if_pos hl]
theorem bwE_state {f h:List Ent} {p:Option Wr} {x:Wr} (hx:wE x=0) (hl:lateO p x) (hw:wiF (wid x) f h=false):bwE f h p x=6:=by unfold bwE;rw [if_neg (by rw [hx];simp),if_neg (by simpa using hl),if_pos hw]
theorem bwE_fine {f h:List Ent} {p:Option Wr} {x:Wr} (hx:wE x=0) (hl:lateO p x) (hw:wiF (wid x) f h=true):bwE f h p x=0:=by unfold bwE;rw [if_neg (by rw [hx];simp),if_neg (by simpa using hl),if_neg (by rw [hw];decide)]
theorem bwE_ok {f h:List Ent} {p:Option Wr} {x:Wr}:bwE f h p x=0↔wE x=0∧lateO p x∧wiF (wid x) f h=true:=by
 constructor
 · intro h0
   unfold bwE at h0
   split at h0
   · rename_i h1;exact absurd h0 h1
   · rename_i h1
     split at h0
     · simp at h0
     · rename_i h2
       split at h0
       · simp at h0
       · rename_i h3
         exact ⟨by simpa using h1,by simpa using h2,by simpa using h3⟩
 · rintro ⟨h1,h2,h3⟩;exact bwE_fine h1 h2 h3
def okW (f h:List Ent):Option Wr→List Wr→Prop
 | _,[]=>True
 | p,x :: r=>bwE f h p x=0∧okW f h (some x) r
theorem bwr_ok {f h:List Ent} (l:List Wr):∀ i p,(bwr f h l i p).1=0↔okW f h p l:=by
 induction l with
 | nil=>intro i p;simp [bwr,okW]
 | cons x r ih =>
   intro i p
   by_cases h0:bwE f h p x=0
   · rw [bwr_good h0,ih];exact ⟨fun h1=>⟨h0,h1⟩,fun h1=>h1.2⟩
   · rw [bwr_bad rfl h0];exact ⟨fun h1=>absurd h1 h0,fun h1=>absurd h1.1 h0⟩
theorem bbE_ok {f h:List Ent}:bbE f h=0↔rightV f∧rightV h∧covB h f=true:=by
 rw [←vright_ok,←vright_ok]
 unfold bbE
 constructor
 · intro h0
   split at h0
   · rename_i h1;exact absurd h0 h1
   · rename_i h1
     split at h0
     · rename_i h2;exact absurd h0 h2
     · rename_i h2
       split at h0
       · simp at h0
       · rename_i h3;exact ⟨by simpa using h1,by simpa using h2,by simpa using h3⟩
 · rintro ⟨h1,h2,h3⟩
   rw [if_neg (by simpa using h1),if_neg (by simpa using h2),if_neg (by rw [h3];decide)]
theorem batF_ok {f h:List Ent} {ws:List Wr}:(batF f h ws).1=0↔(rightV f∧rightV h∧covB h f=true)∧ws.length≤60∧okW f h none ws:=by
 rw [←bbE_ok]
 by_cases h1:bbE f h=0
 · by_cases h2:60 < ws.length
   · rw [batF_many h1 h2]
     constructor
     · intro h;cases h
     · intro h;omega
   · rw [batF_rest h1 h2,bwr_ok]
     exact ⟨fun h=>⟨h1,by omega,h⟩,fun h=>h.2.2⟩
 · rw [batF_bb rfl h1]
   exact ⟨fun h=>absurd h h1,fun h=>absurd h.1 h1⟩
theorem late_iff {q x:Wr}:late q x↔cI (wid q) (wid x)=-1:=by
 unfold late wid
 have:=cI_neg x.time x.rep q.time q.rep
 omega
theorem late_trans {a b c:Wr} (h1:late a b) (h2:late b c):late a c:=by
 rw [late_iff] at h1 h2 ⊢
 exact cI_trans h1 h2
theorem late_self (x:Wr):¬ late x x:=by
 intro h
 have h2:=late_iff.1 h
 unfold late at h
 omega
theorem okW_iff {f h:List Ent} (l:List Wr):∀ p,okW f h p l↔(∀ x∈l,wE x=0∧lateO p x∧wiF (wid x) f h=true)∧l.Pairwise late:=by
 induction l with
 | nil=>intro p;simp [okW]
 | cons x r ih =>
   intro p
   show bwE f h p x=0∧okW f h (some x) r↔_
   rw [ih (some x),bwE_ok,List.pairwise_cons]
   constructor
   · rintro ⟨h1,h2,h3⟩
     refine ⟨fun y hy=>?_,fun y hy=>(h2 y hy).2.1,h3⟩
     rcases List.mem_cons.1 hy with rfl | hy
     · exact h1
     · obtain ⟨g1,g2,g3⟩:=h2 y hy
       refine ⟨g1,?_,g3⟩
       cases p with
       | none=>trivial
       | some q=>exact late_trans h1.2.1 g2
   · rintro ⟨h1,h2,h3⟩
     exact ⟨h1 x List.mem_cons_self,fun y hy=>⟨(h1 y (List.mem_cons_of_mem _ hy)).1,h2 y hy,(h1 y (List.mem_cons_of_mem _ hy)).2.2⟩,h3⟩
theorem okW_none {f h:List Ent} {l:List Wr}:okW f h none l↔(∀ x∈l,wE x=0∧wiF (wid x) f h=true)∧l.Pairwise late:=by
 rw [okW_iff]
 exact ⟨fun ⟨h1,h2⟩=>⟨fun x hx=>⟨(h1 x hx).1,(h1 x hx).2.2⟩,h2⟩,fun ⟨h1,h2⟩=>⟨fun x hx=>⟨(h1 x hx).1,trivial,(h1 x hx).2⟩,h2⟩⟩
def rightB (f h:List Ent) (ws:List Wr):Prop:=(batF f h ws).1=0
theorem rightB_iff {f h:List Ent} {ws:List Wr}:rightB f h ws↔(rightV f∧rightV h∧covB h f=true)∧ws.length≤60∧(∀ x∈ws,wE x=0∧wiF (wid x) f h=true)∧ws.Pairwise late:=by
 unfold rightB
 rw [batF_ok,okW_none]
end Go.Proofs.YtddbpnplbcjpgaaGreatDoor
namespace Go.Proofs.YtddbpnplbcjpgaaGreatDoor
open Go.RowKit Go.Maps
structure CellsOf (G:ByteArray→Cel) (z:List (ByteArray×Cel)):Prop where
 nodup:(z.map (·.1)).Nodup
 sorted:z.Pairwise (fun a b=>leB a.1 b.1=true)
 mem:∀ k c,(k,c)∈z↔G k=c∧live c=true
theorem cellsOf_cellsF (l:List Wr):CellsOf (cellK l) (cellsF l):=⟨cellsF_nodup l,cellsF_sorted l,fun _ _=>cellsF_mem⟩
theorem CellsOf.unique {G:ByteArray→Cel} {z y:List (ByteArray×Cel)} (h:CellsOf G z) (k:CellsOf G y):z=y :=
 sorted_unique h.nodup k.nodup h.sorted k.sorted (fun p=>by obtain ⟨a,b⟩:=p;rw [h.mem,k.mem])
theorem CellsOf.is {l:List Wr} {z:List (ByteArray×Cel)} (h:CellsOf (cellK l) z):z=cellsF l:=h.unique (cellsOf_cellsF l)
def IsCells (w:World) (v:Value) (z:List (ByteArray×Cel)):Prop :=
 ∃ zs:List CV,IsCvs w v zs∧zs.length=z.length∧∀ (i:Nat) (c:CV),zs[i]? = some c→∃ p:ByteArray×Cel,z[i]? = some p∧c.key=p.1∧c.has=p.2.has∧c.text=p.2.text∧c.sum=p.2.sum∧IsTexts w c.list p.2.list
theorem IsCells.below {w w':World} {v:Value} {z:List (ByteArray×Cel)} (h:IsCells w v z) (hb:Below w.heap.size w w'):IsCells w' v z:=by
 obtain ⟨zs,h1,h2,h3⟩:=h
 exact ⟨zs,h1.below hb,h2,fun i c hc=>by obtain ⟨p,a,b,c1,d,e,f⟩:=h3 i c hc;exact ⟨p,a,b,c1,d,e,f.below hb⟩⟩
theorem IsCells.alloc {w:World} {v:Value} {z:List (ByteArray×Cel)} (h:IsCells w v z) (o:Obj):IsCells (w.alloc o) v z:=h.below ((Below.refl _ _).alloc (Nat.le_refl _) _)
def RowsAre (w:World) (base:Nat) (G:ByteArray→Cel) (ks:List ByteArray) (zs:List CV):Prop :=
 zs.map (·.key)=ks∧∀ c∈zs,c.has=(G c.key).has∧c.text=(G c.key).text∧c.sum=(G c.key).sum∧ownsS w base c.list (G c.key).list
theorem RowsAre.kept {w w':World} {base b2:Nat} {G:ByteArray→Cel} {ks:List ByteArray} {zs:List CV} {v:Value} {l:List CV} (h:RowsAre w base G ks zs) (ho:ownsC w b2 v l) (hg:w.grownBy w' v.ownBlock):RowsAre w' base G ks zs :=
 ⟨h.1,fun c hc=>by
   obtain ⟨h1,h2,h3,h4⟩:=h.2 c hc
   exact ⟨h1,h2,h3,World.ownsRow.kept h4 hg (rows_apart h4 ho (by decide))⟩⟩
theorem RowsAre.grown {w w':World} {base:Nat} {G:ByteArray→Cel} {ks:List ByteArray} {zs:List CV} (h:RowsAre w base G ks zs) (hg:w.grownBy w' none):RowsAre w' base G ks zs :=
 ⟨h.1,fun c hc=>by
   obtain ⟨h1,h2,h3,h4⟩:=h.2 c hc
   exact ⟨h1,h2,h3,World.ownsRow.kept h4 hg (by cases e:c.list.ownBlock with
     | none=>exact .inl rfl
     | some g=>exact .inr (by simp))⟩⟩
theorem RowsAre.add {w:World} {base:Nat} {G:ByteArray→Cel} {ks:List ByteArray} {zs:List CV} (h:RowsAre w base G ks zs) {k:ByteArray} {u:Value} (hu:ownsS w base u (G k).list) :
   RowsAre w base G (ks ++ [k]) (zs ++ [⟨k,(G k).has,(G k).text,(G k).sum,u⟩]) :=
 ⟨by rw [List.map_append,h.1];rfl,fun c hc=>by
   rcases List.mem_append.1 hc with hc | hc
   · exact h.2 c hc
   · obtain rfl:=List.mem_singleton.1 hc
     exact ⟨rfl,rfl,rfl,hu⟩⟩
def celAtK (zs:List CV) (k:ByteArray):CV:=match zs.find? (fun c=>decide (c.key=k)) with
 | some c=>c
 | none=>{ cv0 with key:=k }
theorem celAtK_key (zs:List CV) (k:ByteArray):(celAtK zs k).key=k:=by
 unfold celAtK
 split
 · rename_i c h;simpa using List.find?_some h
 · rfl
theorem find_nodup:∀ {zs:List CV},(zs.map (·.key)).Nodup→∀ {c:CV},c∈zs→zs.find? (fun d=>decide (d.key=c.key))=some c
 | [],_,_,hc=>by cases hc
 | a :: r,hn,c,hc=>by
   rw [List.map_cons,List.nodup_cons] at hn
   rcases List.mem_cons.1 hc with rfl | hc
   · simp
   · have hne:a.key≠c.key:=fun e=>hn.1 (by rw [e];exact List.mem_map_of_mem hc)
     rw [List.find?_cons_of_neg (by simpa using hne)]
     exact find_nodup hn.2 hc
theorem celAtK_mem {zs:List CV} (hn:(zs.map (·.key)).Nodup) {c:CV} (hc:c∈zs):celAtK zs c.key=c:=by
 unfold celAtK
 rw [find_nodup hn hc]
theorem celAtK_all {zs:List CV} (hn:(zs.map (·.key)).Nodup):(zs.map (·.key)).map (celAtK zs)=zs:=by
 rw [List.map_map]
 conv=>rhs;rw [←List.map_id zs]
 exact List.map_congr_left (fun c hc=>celAtK_mem hn hc)
theorem celAtK_one {w:World} {base:Nat} {G:ByteArray→Cel} {ks:List ByteArray} {zs:List CV} (h:RowsAre w base G ks zs) (k:ByteArray):(celAtK zs k).list.oneCell'=true:=by
 unfold celAtK
 split
 · rename_i c e
   obtain ⟨a,c2,h2⟩:=(h.2 c (List.mem_of_find?_eq_some e)).2.2.2.slice
   rw [h2];rfl
 · rfl
theorem RowsAre.cells {w':World} {base:Nat} {G:ByteArray→Cel} {ks ks':List ByteArray} {zs:List CV} {v:Value} (h:RowsAre w' base G ks zs) (hn:ks.Nodup) (hp:ks'.Perm ks) (hs:ks'.Pairwise (fun a b=>leB a b=true)) (hk:∀ k,k∈ks↔live (G k)=true)
   (hv:IsCvs w' v (ks'.map (celAtK zs))):∃ z,CellsOf G z∧IsCells w' v z:=by
 have hn2:(zs.map (·.key)).Nodup:=by rw [h.1];exact hn
 have hfst:(ks'.map fun k=>(k,G k)).map (·.1)=ks':=by rw [List.map_map];exact List.map_id ks'
 refine ⟨ks'.map fun k=>(k,G k),⟨by rw [hfst];exact hp.nodup_iff.2 hn,List.pairwise_map.2 hs,fun k c=>?_⟩,_,hv,by rw [List.length_map,List.length_map],fun i c hc=>?_⟩
 · rw [List.mem_map]
   constructor
   · rintro ⟨k',hk',e⟩
     simp only [Prod.mk.injEq] at e
     obtain ⟨rfl,rfl⟩:=e
     exact ⟨rfl,(hk k').1 (hp.mem_iff.1 hk')⟩
   · rintro ⟨rfl,hl⟩
     exact ⟨k,hp.mem_iff.2 ((hk k).2 hl),rfl⟩
 · rw [List.getElem?_map] at hc
   obtain ⟨k,hki,rfl⟩:=Option.map_eq_some_iff.1 hc
   have hkm:k∈ks:=hp.mem_iff.1 (List.mem_of_getElem? hki)
   rw [←h.1] at hkm
   obtain ⟨c0,hc0,rfl⟩:=List.mem_map.1 hkm
   obtain ⟨h1,h2,h3,h4⟩:=h.2 c0 hc0
   rw [celAtK_mem hn2 hc0]
   exact ⟨(c0.key,G c0.key),by rw [List.getElem?_map,hki];rfl,rfl,h1,h2,h3,h4.isTexts⟩
end Go.Proofs.YtddbpnplbcjpgaaGreatDoor
namespace Go.Proofs.YtddbpnplbcjpgaaGreatDoor
open Go.RowKit Go.Shelf Go.Lib Go.Sort
set_option maxRecDepth 100000 in
theorem cells_cmp:CmpC 112:=by
 intro a b W
 obtain ⟨ka,ha,ta,sa,la⟩:=a
 obtain ⟨kb,hb,tb,sb,lb⟩:=b
 show Calls Tryz.prog 112 #[.agg #[.string ka,.bool ha,.string ta,.int .i64 sa,la],.agg #[.string kb,.bool hb,.string tb,.int .i64 sb,lb]] W fun e w'=>e=.returned (.int .i64 (cfB ka kb))∧∃ q os',w'=grow (W.drewN q) os'
 unfold cfB
 have hcon:=fun W'=>Tryz.strings_Compare ka kb W'
 generalize Lib.compareBytes ka.data.toList kb.data.toList=r at hcon ⊢
 go_enter Tryz.func112,Tryz.ntmps112
 go_wp2_with (go_at_call 113;refine (hcon _).mono ?_;rintro e w' ⟨rfl,rfl⟩)
 go_ret
 exact ⟨rfl,0,_,by rw [alloc_eq_grow,alloc_eq_grow,grow_grow];rfl⟩
theorem cells_eg:∀ args w,(callFunc 112 args).run Tryz.prog w=.ok (.enter 112 args) w:=enters_of Tryz.func112 (by kernel_rfl) rfl
set_option maxRecDepth 100000 in
theorem sortz_ins (fv:Value) (w:World):Calls Tryz.prog 153 #[.slice none 0 0,.int .i64 0,.int .i64 0,fv] w fun e w'=>e=.returned (.tuple #[])∧w'=w:=by
 go_enter Tryz.func153,Tryz.ntmps153
 go_wp2
 refine wp_loop_rounds 1 ?_
 rw [rounds_succ]
 go_wp2
 go_end0
 exact ⟨rfl,rfl⟩
set_option maxRecDepth 100000 in
theorem sortz_pdq (fv:Value) (lim:Int) (w:World):Calls Tryz.prog 127 #[.slice none 0 0,.int .i64 0,.int .i64 0,.int .i64 lim,fv] w fun e w'=>e=.returned (.tuple #[])∧w'=w:=by
 go_enter Tryz.func127,Tryz.ntmps127
 go_wp2
 refine wp_loop_rounds 1 ?_
 rw [rounds_succ]
 go_wp2_with (go_at_call 153;refine (sortz_ins _ _).mono ?_;rintro e w' ⟨rfl,rfl⟩)
 (try simp only [Exit.inBlock,Exit.then]);refine bodyPost_ret (results_none rfl _ _ _) rfl ?_
 exact ⟨rfl,rfl⟩
set_option maxRecDepth 100000 in
theorem sortz_any (fv:Value) (w:World):Calls Tryz.prog 111 #[.slice none 0 0,fv] w fun e w'=>e=.returned (.tuple #[])∧w'=w:=by
 go_enter Tryz.func111,Tryz.ntmps111
 go_wp2_with (first | (go_at_call 115;refine (Tryz.bits_Len 0 _ (by decide) (by decide)).mono ?_;rintro e w' ⟨rfl,rfl⟩) | (go_at_call 127;refine (sortz_pdq _ _ _).mono ?_;rintro e w' ⟨rfl,rfl⟩))
 go_end0
 exact ⟨rfl,rfl⟩
end Go.Proofs.YtddbpnplbcjpgaaGreatDoor
namespace Go.Proofs.YtddbpnplbcjpgaaGreatDoor
open Go.RowKit
def sameV (f h:List Ent) (l:List Wr) (f2 h2:List Ent) (l2:List Wr):Bool:=decide (f=f2) && decide (h=h2) && decide (l=l2)
theorem sameV_self (f h:List Ent) (l:List Wr):sameV f h l f h l=true:=by simp [sameV]
def bat2 (w:World) (B:Nat) (a b c d e g:Value):Prop :=
 w.cell? ⟨B,0,none⟩=some a∧w.cell? ⟨B,1,none⟩=some b∧w.cell? ⟨B,2,none⟩=some c∧w.cell? ⟨B + 1,0,none⟩=some d∧w.cell? ⟨B + 1,1,none⟩=some e∧w.cell? ⟨B + 1,2,none⟩=some g
theorem bat2_new (w:World) (a b c d e g:Value) (t u:TypeId):bat2 ((w.alloc (.cells #[a,b,c] t)).alloc (.cells #[d,e,g] u)) w.heap.size a b c d e g:=by
 unfold bat2;simp
theorem bat2.drewN {w:World} {B:Nat} {a b c d e g:Value} (h:bat2 w B a b c d e g) (n:Nat):bat2 (w.drewN n) B a b c d e g:=h
theorem bat2.below {w w':World} {B:Nat} {a b c d e g:Value} {m:Nat} (h:bat2 w B a b c d e g) (hb:Below m w w') (hm:B + 1 < m):bat2 w' B a b c d e g :=
 ⟨(hb.cell (Nat.lt_of_succ_lt hm)).trans h.1,(hb.cell (Nat.lt_of_succ_lt hm)).trans h.2.1,(hb.cell (Nat.lt_of_succ_lt hm)).trans h.2.2.1,(hb.cell hm).trans h.2.2.2.1,(hb.cell hm).trans h.2.2.2.2.1,(hb.cell hm).trans h.2.2.2.2.2⟩
end Go.Proofs.YtddbpnplbcjpgaaGreatDoor
