import Derived.Test.YtjkbmfpomgcblaaGreatDoorKr13
namespace Go.Proofs.YtjkbmfpomgcblaaGreatDoor
open Go.RowKit
theorem kgood_any (w:World):Calls Tryz.prog 67 #[] w fun e w'=>e=.returned (.agg #[.int .i64 0,.int .i64 (-1)])∧Below w.heap.size w w':=by
 go_enter Tryz.func67,Tryz.ntmps67
 go_wp2
 refine bodyPost_ret (v:=.agg #[.int .i64 0,.int .i64 (-1)]) (by simp [results,Tryz.results67,go_sem]) rfl ?_
 exact ⟨rfl,(Below.refl _ _).alloc (Nat.le_refl _) _⟩
theorem kbare_any (n:Int) (w:World):Calls Tryz.prog 71 #[.int .i64 n] w fun e w'=>e=.returned (.agg #[.int .i64 n,.int .i64 (-1)])∧Below w.heap.size w w':=by
 go_enter Tryz.func71,Tryz.ntmps71
 go_wp2
 refine bodyPost_ret (v:=.agg #[.int .i64 n,.int .i64 (-1)]) (by simp [results,Tryz.results71,go_sem]) rfl ?_
 exact ⟨rfl,(Below.refl _ _).alloc (Nat.le_refl _) _⟩
def RListIs (w:World) (r:List ByteArray×Nat×Int) (e:Ending) (w':World):Prop :=
 ∃ v,e=.returned (.tuple #[v,.agg #[.int .i64 (r.2.1:Nat),.int .i64 r.2.2]])∧ownsS w' w.heap.size v r.1∧Below w.heap.size w w'
def fault0 (w:World):World:=w.alloc (.cells #[.int .i64 0,.int .i64 0] 46)
theorem fault0_size (w:World):(fault0 w).heap.size=w.heap.size + 1:=by simp [fault0]
theorem fault0_cells {w wr:World} (h:Below (w.heap.size + 1) (fault0 w) wr):wr.cell? ⟨w.heap.size,0,none⟩=some (.int .i64 0)∧wr.cell? ⟨w.heap.size,1,none⟩=some (.int .i64 0)∧wr.frozen? ⟨w.heap.size,0,none⟩=false∧wr.frozen? ⟨w.heap.size,1,none⟩=false :=
 ⟨(h.cell (by exact Nat.lt_succ_self _)).trans (by simp [fault0]),(h.cell (by exact Nat.lt_succ_self _)).trans (by simp [fault0]),(h.frozen (by exact Nat.lt_succ_self _)).trans (by simp [fault0]),(h.frozen (by exact Nat.lt_succ_self _)).trans (by simp [fault0])⟩
theorem fault0_below {w wr:World} (h:Below (w.heap.size + 1) (fault0 w) wr) (e p:Value):Below w.heap.size w ((wr.setCell ⟨w.heap.size,0,none⟩ e).setCell ⟨w.heap.size,1,none⟩ p) :=
 (((Below.refl _ _).alloc (Nat.le_refl _) _).trans ((h.mono (Nat.le_succ _)).setCell (Nat.le_refl _) _)).setCell (Nat.le_refl _) _
theorem take_not {T:List ByteArray} {s x:ByteArray} {q:Nat} (h:s ∉ T.take q) (hx:T[q]? = some x) (hn:x≠s):s ∉ T.take (q + 1):=by
 obtain ⟨hq,e⟩:=List.getElem?_eq_some_iff.1 hx
 rw [←List.take_append_getElem hq,e]
 simp only [List.mem_append,List.mem_singleton,not_or]
 exact ⟨h,fun e=>hn e.symm⟩
theorem take_in {T:List ByteArray} {s:ByteArray} {q k:Nat} (hx:T[q]? = some s) (hq:q < k):s∈T.take k :=
 List.mem_of_getElem? (i:=q) (by rw [List.getElem?_take_of_lt hq];exact hx)
set_option maxRecDepth 100000 in
set_option maxHeartbeats 4000000 in
theorem rlist_any (v u:Value) (T:List ByteArray) (l:List Int) (w:World) (hv:IsTexts w v T) (hu:IsNums w u l) (hT:T.length≤1000000) (hl:l.length≤1000000) :
   Calls Tryz.prog 127 #[v,u] w (RListIs w (listF T l)):=by
 have hv0:IsTexts (fault0 w) v T:=hv.alloc _
 have hu0:IsNums (fault0 w) u l:=hu.alloc _
 obtain ⟨a1,c1,rfl,_,f1⟩:=hv0
 obtain ⟨a2,c2,rfl,_,f2⟩:=hu0
 rw [fault0_size] at f1 f2
 have F1:=Lib.hid f1
 have F2:=Lib.hid f2
 obtain ⟨m,hm⟩:∃ m,m=T.length:=⟨_,rfl⟩
 obtain ⟨n,hn⟩:∃ n,n=l.length:=⟨_,rfl⟩
 rw [←hm] at hT ⊢
 rw [←hn] at hl ⊢
 have HM:=Lib.hid hm
 have HN:=Lib.hid hn
 clear f1 f2 hm hn hv hu
 go_enter Tryz.func127,Tryz.ntmps127
 go_wp2
 go_loopw [14] (fun i wr=>∃ k:Nat,k≤m∧i=.int .i64 k∧dupG [] T 0=dupG (T.take k) (T.drop k) k∧Below (w.heap.size + 1) (fault0 w) wr) (fun i _=>m - (intOf i).toNat)
 case atStart=>exact ⟨0,Nat.zero_le _,rfl,rfl,Below.refl _ _⟩
 case round =>
   obtain ⟨k,hk,rfl,hd,hbel⟩:=hrel
   have HD:=Lib.hid hd
   have HB:=Lib.hid hbel
   obtain ⟨wp,hwp⟩:∃ wp,wp=wr:=⟨_,rfl⟩
   rw [←hwp] at HB ⊢
   clear hd hbel hwp
   by_cases hlt:k < m
   · obtain ⟨s, hs⟩ : ∃ s, T[k]? = some s := ⟨T[k]'(by have := HM.out; omega), List.getElem?_eq_getElem _⟩
     have HS:=Lib.hid hs
     clear hs
     go_wp2
     go_loopw [18] (fun i wo=>∃ q:Nat,q≤k∧i=.int .i64 q∧s ∉ T.take q∧Below (w.heap.size + 1) (fault0 w) wo) (fun i _=>k - (intOf i).toNat)
     case atStart=>exact ⟨0,Nat.zero_le _,rfl,by simp,HB.out⟩
     case round =>
       obtain ⟨q,hq,rfl,hnot,hbel⟩:=hrel
       have HBO:=Lib.hid hbel
       have HNOT:=Lib.hid hnot
       clear hbel hnot
       by_cases hlt2:q < k
       · obtain ⟨x, hx⟩ : ∃ x, T[q]? = some x := ⟨T[q]'(by have := HM.out; omega), List.getElem?_eq_getElem _⟩
         obtain ⟨b1,o1,rfl,hb1,p0⟩:=F1.out q x hx
         obtain ⟨b2,o2,e2,_,p1⟩:=F1.out k s HS.out
         simp only [Option.some.injEq,Addr.mk.injEq,and_true] at e2
         obtain ⟨rfl,rfl⟩:=e2
         have q0:=(HBO.out.cell (p:=⟨b1,o1 + q,none⟩) hb1).trans p0
         have q1:=(HBO.out.cell (p:=⟨b1,o1 + k,none⟩) hb1).trans p1
         obtain ⟨c0,c1',f0,f1⟩:=fault0_cells HBO.out
         by_cases he:x=s
         · have HR:Hid (listF T l=([],9,(k:Int))):=Lib.hid (show _=_ by unfold listF;rw [HD.out,dupG_hit HS.out (take_in (he ▸ hx) hlt2)])
           subst he
           have hb:=beq_same x
           clear p0 p1 hx HNOT
           go_wp2
           go_quiet (fail)
           obtain ⟨wq,hwq⟩:∃ wq,wq=World.drewN wr nq:=⟨_,rfl⟩
           rw [←hwq]
           have HBQ:Hid (Below (w.heap.size + 1) (fault0 w) wq):=Lib.hid (by rw [hwq];exact HBO.out.trans ⟨rfl,rfl,rfl,Nat.le_refl _,fun _ _=>rfl⟩)
           clear hwq c0 c1' f0 f1 q0 q1
           obtain ⟨d0,d1,g0,g1⟩:=fault0_cells HBQ.out
           go_wp2
           refine bodyPost_ret (v:=.tuple #[.slice none 0 0,.agg #[.int .i64 9,.int .i64 k]]) (by simp [results,Tryz.results127,go_sem,d0,d1]) rfl ?_
           rw [HR.out]
           exact ⟨_,rfl,ownsS_nil _ _,fault0_below HBQ.out _ _⟩
         · have HNOT2:=Lib.hid (take_not HNOT.out hx he)
           have hb:=beq_diff he
           clear p0 p1 hx HNOT c0 c1' f0 f1
           go_wp2
           go_quiet (fail)
           obtain ⟨wq,hwq⟩:∃ wq,wq=World.drewN wr nq:=⟨_,rfl⟩
           rw [←hwq]
           have HBQ:Hid (Below (w.heap.size + 1) (fault0 w) wq):=Lib.hid (by rw [hwq];exact HBO.out.trans ⟨rfl,rfl,rfl,Nat.le_refl _,fun _ _=>rfl⟩)
           clear hwq q0 q1
           go_wp2
           go_roundw
           case rel=>exact ⟨q + 1,by omega,by go_num,HNOT2.out,HBQ.out⟩
           case measure=>simp [intOf];omega
       · obtain rfl:q=k:=by omega
         have HD2:=Lib.hid (HD.out.trans (dupG_miss HS.out HNOT.out))
         go_wp2
         go_roundw
         case rel=>exact ⟨q + 1,by omega,by go_num,HD2.out,HBO.out⟩
         case measure=>simp [intOf];omega
   · obtain rfl:k=m:=by omega
     have HDN:Hid (dupG [] T 0=none):=Lib.hid (show _=_ by rw [HD.out,List.drop_eq_nil_of_le (by rw [HM.out];exact Nat.le_refl _)];rfl)
     have HLE:Hid (∀ e p,ordG k 0 l 0=(e,p)→e≠0→listF T l=([],e,p)):=Lib.hid (show _ by
       intro e p h he
       unfold listF
       rw [HDN.out,←HM.out,h]
       simp only [if_neg he])
     have HLO:Hid ((ordG k 0 l 0).1=0→listF T l=(outG T l,0,-1)):=Lib.hid (show _ by
       intro h
       unfold listF
       rw [HDN.out,←HM.out]
       simp only [if_pos h])
     have hmm:=@run_makeMap Tryz.prog
     obtain ⟨M,hM⟩:∃ M,M=wp.heap.size:=⟨_,rfl⟩
     have HMS:=Lib.hid hM
     have HBM:Hid (w.heap.size + 1≤M):=Lib.hid (by rw [hM];have:=HB.out.size;rw [fault0_size] at this;exact this)
     clear hM
     go_wp2
     go_loopw [8,37] (fun x i wo=>∃ q told:Nat,q≤n∧told≤q∧i=.int .i64 q∧ordG k 0 l 0=ordG k told (l.drop q) q∧ownsTold wo wp.heap.size q told∧ownsS wo (M + 1) x (outG T (l.take q))∧M + 1≤wo.heap.size∧Below (w.heap.size + 1) (fault0 w) wo) (fun _ i _=>n - (intOf i).toNat)
     case atStart=>exact ⟨0,0,Nat.zero_le _,Nat.le_refl _,rfl,rfl,ownsTold_made _,ownsS_nil _ _,by rw [HMS.out];simp,HB.out.alloc (by have:=HB.out.size;rw [fault0_size] at this;exact this) _⟩
     case round =>
       obtain ⟨q,told,hq,htq,rfl,hd,hmap,hos,hz,hbel⟩:=hrel
       have HO2:=Lib.hid hd
       have HMP:=Lib.hid hmap
       have HOS:=Lib.hid hos
       have HZ:=Lib.hid hz
       have HBO:=Lib.hid hbel
       clear hd hmap hos hz hbel
       by_cases hlt:q < n
       · obtain ⟨z, hz⟩ : ∃ z, l[q]? = some z := ⟨l[q]'(by have := HN.out; omega), List.getElem?_eq_getElem _⟩
         obtain ⟨b2,o2,rfl,hb2,p2⟩:=F2.out q z hz
         have q2:=(HBO.out.cell (p:=⟨b2,o2 + q,none⟩) hb2).trans p2
         obtain ⟨c0,c1',f0,f1⟩:=fault0_cells HBO.out
         have HC:=Lib.hid (And.intro c0 (And.intro c1' (And.intro f0 f1)))
         by_cases hr:z < 0∨(k:Int)≤z
         · have HR:=Lib.hid (HLE.out 2 q (HO2.out.trans (ordG_range hz hr)) (by decide))
           clear p2 hz c0 c1' f0 f1
           go_wp2_with fail
           have hw:Calls Tryz.prog 78 #[.int .i64 z,.int .i64 0,.int .i64 ((k:Int) - 1)] wr fun e w'=>e=.returned (.bool false)∧wr=w':=by
             by_cases h0:z < 0
             · exact within_low z 0 _ wr h0
             · exact within_high z 0 _ wr (by omega) (by omega)
           refine hw.mono ?_
           rintro r w3 ⟨rfl,rfl⟩
           obtain ⟨c0,c1',f0,f1⟩:=HC.out
           clear hw
           go_wp2
           refine bodyPost_ret (v:=.tuple #[.slice none 0 0,.agg #[.int .i64 2,.int .i64 q]]) (by simp [results,Tryz.results127,go_sem,c0,c1']) rfl ?_
           rw [HR.out]
           exact ⟨_,rfl,ownsS_nil _ _,fault0_below HBO.out _ _⟩
         · have z0:¬ z < 0:=by omega
           have z1:¬ (k:Int)≤z:=by omega
           obtain ⟨j,rfl⟩:∃ j:Nat,z=j:=⟨z.toNat,by omega⟩
           have hjk:j < k:=by omega
           have hj6:j≤1000000:=by omega
           by_cases hf:(told:Int) < (j:Int)
           · have HR:=Lib.hid (HLE.out 13 q (HO2.out.trans (ordG_false hz hr hf)) (by decide))
             clear p2 hz c0 c1' f0 f1 hr z0 z1
             go_wp2_with fail
             refine (within_yes (j:Int) 0 ((k:Int) - 1) wr (by omega) (by omega)).mono ?_
             rintro r w3 ⟨rfl,rfl⟩
             obtain ⟨c0,c1',f0,f1⟩:=HC.out
             go_wp2_with (at_len;refine wpList_told_len rfl _ rfl wp.heap.size q told rfl HMP.out ?_)
             refine bodyPost_ret (v:=.tuple #[.slice none 0 0,.agg #[.int .i64 13,.int .i64 q]]) (by simp [results,Tryz.results127,go_sem,c0,c1']) rfl ?_
             rw [HR.out]
             exact ⟨_,rfl,ownsS_nil _ _,fault0_below HBO.out _ _⟩
           · have htn : ordG k told (l.drop q) q = ordG k (if j = told then told + 1 else told) (l.drop (q + 1)) (q + 1) := by
               by_cases he:j=told
               · rw [if_pos he];exact ordG_new hz hr (by omega)
               · rw [if_neg he];exact ordG_old hz hr (by omega)
             have HO3:=Lib.hid (HO2.out.trans htn)
             obtain ⟨s, hs⟩ : ∃ s, T[j]? = some s := ⟨T[j]'(by have := HM.out; omega), List.getElem?_eq_getElem _⟩
             obtain ⟨b3,o3,rfl,hb3,p3⟩:=F1.out j s hs
             have HX:=Lib.hid (outG_snoc hz hs)
             have hz2:(outG T (l.take q)).length=q:=by unfold outG;rw [List.length_map,List.length_take];have:=HN.out;omega
             have HZ2:=Lib.hid hz2
             have HP3:=Lib.hid p3
             have HB3:=Lib.hid hb3
             clear p2 hz c0 c1' f0 f1 hr z0 z1 htn hs hz2 p3 hb3
             go_wp2_with fail
             refine (within_yes (j:Int) 0 ((k:Int) - 1) wr (by omega) (by omega)).mono ?_
             rintro r w3 ⟨rfl,rfl⟩
             have hjt:j≤told:=by omega
             go_wp2_with (first
               | (at_len;refine wpList_told_len rfl _ rfl wp.heap.size q told rfl HMP.out ?_)
               | (at_mapUpdate;refine wpList_told_put rfl _ _ _ rfl wp.heap.size q told rfl HMP.out (by unfold maxLen;omega) j hjt (by omega) rfl rfl ?_;intro w4 hm4 hg4;obtain ⟨t2,ht2⟩:∃ t2,(if j=told then told + 1 else told)=t2:=⟨_,rfl⟩;rw [ht2] at hm4 HO3;have HM4:=Lib.hid hm4;have HS4:=Lib.hid (show ownsS w4 (M + 1) _ (outG T (l.take q)) from World.ownsRow.kept HOS.out hg4 (.inr (HOS.out.off (by rw [HMS.out];exact Nat.lt_succ_self _))));have HB4:Hid (Below (w.heap.size + 1) (fault0 w) w4):=Lib.hid (HBO.out.grown hg4 (by have:=HBO.out.size;rw [fault0_size] at this;exact this) (fun g hg=>by cases hg;rw [←HMS.out];exact HBM.out));have HZ4:Hid (M + 1≤w4.heap.size):=Lib.hid (Nat.le_trans HZ.out hg4.size);have q3:w4.cell? ⟨b3,o3 + j,none⟩=some (.string s):=(HB4.out.cell (p:=⟨b3,o3 + j,none⟩) HB3.out).trans HP3.out;clear hm4 hg4)
               | (at_builtin;refine wpList_append_str rfl _ _ rfl (M + 1) _ (outG T (l.take q)) rfl (HS4.out.alloc _) ⟨w4.heap.size,0,none⟩ 1 rfl s (by simp [Addr.add]) (by have:=HZ2.out;omega) (by have:=HZ4.out;simp;omega) ?_))
             intro g cap w5 ho5 hg5
             have HB5:Hid (Below (w.heap.size + 1) (fault0 w) w5):=Lib.hid ((HB4.out.alloc (by have:=HB4.out.size;rw [fault0_size] at this;exact this) _).grown hg5 (by have:=HZ4.out;have:=HBM.out;simp;omega) (fun g hg=>by have:=(HS4.out.lt g hg).1;have:=HBM.out;omega))
             have HM5:Hid (ownsTold w5 wp.heap.size (q + 1) t2):=Lib.hid ((HM4.out.alloc _).kept hg5 (by intro e;exact HS4.out.off (by rw [HMS.out];exact Nat.lt_succ_self _) e.symm))
             have HZ5:Hid (M + 1≤w5.heap.size):=Lib.hid (by show _≤_;have:=HZ4.out;have:=hg5.size;simp at this;omega)
             rw [←HX.out] at ho5
             have HS5:=Lib.hid ho5
             have ht3:t2≤q + 1:=by rw [←ht2];split <;> omega
             have HT3:=Lib.hid ht3
             clear ho5 hg5 ht2 ht3
             go_wp2
             go_roundw
             case rel=>exact ⟨q + 1,t2,by omega,HT3.out,by go_num,HO3.out,HM5.out,HS5.out,HZ5.out,HB5.out⟩
             case measure=>simp [intOf];omega
       · obtain rfl:q=n:=by omega
         have hlk:l.take q=l:=List.take_of_length_le (by rw [HN.out];exact Nat.le_refl _)
         have HO3:=Lib.hid (show ownsS wr (M + 1) _ (outG T l) from hlk ▸ HOS.out)
         have HE:Hid (ordG k 0 l 0=if told < k then (8,-1) else (0,-1)):=Lib.hid (show _=_ by rw [HO2.out,List.drop_eq_nil_of_le (by rw [HN.out];exact Nat.le_refl _)];rfl)
         have hlt0:w.heap.size < wr.heap.size:=by have:=HZ.out;have:=HBM.out;omega
         have HL0:=Lib.hid hlt0
         clear hlk hlt0
         by_cases ht:told < k
         · have HR:=Lib.hid (HLE.out 8 (-1) (by rw [HE.out,if_pos ht]) (by decide))
           go_wp2_with (at_len;refine wpList_told_len rfl _ rfl wp.heap.size q told rfl HMP.out ?_)
           refine (kbare_any 8 _).mono ?_
           rintro r w5 ⟨rfl,hb5⟩
           have HB5:=Lib.hid (HBO.out.trans (hb5.mono (Nat.succ_le_of_lt HL0.out)))
           clear hb5
           obtain ⟨c0,c1',f0,f1⟩:=fault0_cells HB5.out
           go_wp2
           refine bodyPost_ret (v:=.tuple #[.slice none 0 0,.agg #[.int .i64 8,.int .i64 (-1)]]) (by simp [results,Tryz.results127,go_sem,c0,c1']) rfl ?_
           rw [HR.out]
           exact ⟨_,rfl,ownsS_nil _ _,fault0_below HB5.out _ _⟩
         · have HR:=Lib.hid (HLO.out (by rw [HE.out,if_neg ht]))
           go_wp2_with (at_len;refine wpList_told_len rfl _ rfl wp.heap.size q told rfl HMP.out ?_)
           refine (kgood_any _).mono ?_
           rintro r w5 ⟨rfl,hb5⟩
           have HB5:=Lib.hid (HBO.out.trans (hb5.mono (Nat.succ_le_of_lt HL0.out)))
           have HO5:=Lib.hid (HO3.out.below hb5)
           clear hb5
           obtain ⟨c0,c1',f0,f1⟩:=fault0_cells HB5.out
           go_wp2
           refine bodyPost_ret (v:=.tuple #[_,.agg #[.int .i64 0,.int .i64 (-1)]]) (by simp [results,Tryz.results127,go_sem,c0,c1'];rfl) rfl ?_
           rw [HR.out]
           exact ⟨_,rfl,(show ownsS _ _ _ _ from ownsRow_setCell_below (ownsRow_setCell_below HO5.out (by show w.heap.size < M + 1;have:=HBM.out;omega) _) (by show w.heap.size < M + 1;have:=HBM.out;omega) _).mono (by have:=HBM.out;omega),fault0_below HB5.out _ _⟩
end Go.Proofs.YtjkbmfpomgcblaaGreatDoor
namespace Go.Proofs.YtjkbmfpomgcblaaGreatDoor
open Go.RowKit
theorem ofF_drop {l:List Ent} {k:Nat} {t:Ent} (h:l[k]? = some t) (x:Int):ofF (l.drop k) x=if t.rep=x then t.time else ofF (l.drop (k + 1)) x:=by
 obtain ⟨hk,ht⟩:=List.getElem?_eq_some_iff.1 h
 rw [List.drop_eq_getElem_cons hk,ht];rfl
set_option maxRecDepth 100000 in
set_option maxHeartbeats 2000000 in
theorem vof_any (v:Value) (l:List Ent) (x:Int) (w:World) (hv:IsEnts w v l) (hl:l.length≤9223372036854775807) :
   Calls Tryz.prog 196 #[v,.int .i64 x] w fun r w'=>r=.returned (.int .i64 (ofF l x))∧Below w.heap.size w w':=by
 obtain ⟨a1,c1,rfl,f1⟩:=hv.form
 have F1:=Lib.hid f1
 obtain ⟨n,hn⟩:∃ n,n=l.length:=⟨_,rfl⟩
 rw [←hn] at hl ⊢
 have HN:=Lib.hid hn
 clear hv f1 hn
 go_enter Tryz.func196,Tryz.ntmps196
 go_wp2
 go_loopw [9] (fun i wr=>∃ k:Nat,k≤n∧i=.int .i64 k∧ofF l x=ofF (l.drop k) x∧Below w.heap.size w wr) (fun i _=>n - (intOf i).toNat)
 case atStart=>exact ⟨0,by omega,rfl,rfl,Below.refl _ _⟩
 case round =>
   obtain ⟨k,hk,rfl,heq,hbel⟩:=hrel
   have HEQ:=Lib.hid heq
   have HB:=Lib.hid hbel
   have hzr:=hbel.size
   clear heq hbel
   by_cases hlt:k < n
   · obtain ⟨t, ht⟩ : ∃ t, l[k]? = some t := ⟨l[k]'(by have := HN.out; omega), List.getElem?_eq_getElem _⟩
     obtain ⟨b1,o1,rfl,hb1,p0,p1⟩:=F1.out k t ht
     have hd:=ofF_drop ht x
     obtain ⟨rep,time⟩:=t
     simp only at p0 p1 hd
     have q0:=(HB.out.cell (p:=⟨b1,o1 + k * 2,none⟩) hb1).trans p0
     have q1:=(HB.out.cell (p:=⟨b1,o1 + k * 2 + 1,none⟩) hb1).trans p1
     by_cases hx:rep=x
     · have HW:Hid (ofF l x=time):=Lib.hid (show ofF l x=time by rw [HEQ.out,hd,if_pos hx])
       clear p0 p1 ht hd
       subst hx
       go_wp2
       go_ret
       exact ⟨by rw [HW.out];rfl,HB.out.alloc hzr _⟩
     · have HW:Hid (ofF l x=ofF (l.drop (k + 1)) x):=Lib.hid (show ofF l x=ofF (l.drop (k + 1)) x by rw [HEQ.out,hd,if_neg hx])
       have bx:(rep == x)=false:=by simpa using hx
       clear p0 p1 ht hd
       go_wp2
       go_roundw
       case rel=>exact ⟨k + 1,by omega,by go_num,HW.out,HB.out.alloc hzr _⟩
       case measure=>simp [intOf];omega
   · have HW:Hid (ofF l x=0):=Lib.hid (show ofF l x=0 by rw [HEQ.out,List.drop_eq_nil_of_le (by have:=HN.out;omega)];rfl)
     go_wp2
     go_ret
     exact ⟨by rw [HW.out];rfl,HB.out⟩
set_option maxRecDepth 100000 in
set_option maxHeartbeats 2000000 in
theorem rof_any (v:Value) (l:List Ent) (x:Int) (w:World) (hv:IsEnts w v l) (hl:l.length≤9223372036854775807) :
   Calls Tryz.prog 168 #[v,.int .i64 x] w fun r w'=>r=.returned (.int .i64 (ofF l x))∧w=w':=by
 obtain ⟨a1,c1,rfl,f1⟩:=hv.form
 have F1:=Lib.hid f1
 obtain ⟨n,hn⟩:∃ n,n=l.length:=⟨_,rfl⟩
 rw [←hn] at hl ⊢
 have HN:=Lib.hid hn
 clear hv f1 hn
 go_enter Tryz.func168,Tryz.ntmps168
 go_wp2
 go_loop [8] (fun i=>∃ k:Nat,k≤n∧i=.int .i64 k∧ofF l x=ofF (l.drop k) x) (fun i=>n - (intOf i).toNat)
 case atStart=>exact ⟨0,by omega,rfl,rfl⟩
 case round =>
   obtain ⟨k,hk,rfl,heq⟩:=hrel
   have HEQ:=Lib.hid heq
   clear heq
   by_cases hlt:k < n
   · obtain ⟨t, ht⟩ : ∃ t, l[k]? = some t := ⟨l[k]'(by have := HN.out; omega), List.getElem?_eq_getElem _⟩
     obtain ⟨b1,o1,rfl,hb1,p0,p1⟩:=F1.out k t ht
     have hd:=ofF_drop ht x
     obtain ⟨rep,time⟩:=t
     simp only at p0 p1 hd
     by_cases hx:rep=x
     · have HW:Hid (ofF l x=time):=Lib.hid (show ofF l x=time by rw [HEQ.out,hd,if_pos hx])
       clear ht hd
       subst hx
       go_wp2
       go_ret
       exact ⟨by rw [HW.out];rfl,rfl⟩
     · have HW:Hid (ofF l x=ofF (l.drop (k + 1)) x):=Lib.hid (show ofF l x=ofF (l.drop (k + 1)) x by rw [HEQ.out,hd,if_neg hx])
       have bx:(rep == x)=false:=by simpa using hx
       clear ht hd
       go_wp2
       go_round
       case rel=>exact ⟨k + 1,by omega,by go_num,HW.out⟩
       case measure=>simp [intOf];omega
   · have HW:Hid (ofF l x=0):=Lib.hid (show ofF l x=0 by rw [HEQ.out,List.drop_eq_nil_of_le (by have:=HN.out;omega)];rfl)
     go_wp2
     go_ret
     exact ⟨by rw [HW.out];rfl,rfl⟩
def noV (e:Nat):Value:=if e=0 then .nilIface else .iface 44 (.int .i64 (e:Nat))
theorem noV_0:noV 0=.nilIface:=rfl
theorem noV_e {e:Nat} (h:e≠0):noV e=.iface 44 (.int .i64 (e:Nat)):=by unfold noV;rw [if_neg h]
set_option maxRecDepth 100000 in
set_option maxHeartbeats 1000000 in
theorem vbare_any (v:Value) (l:List Ent) (w:World) (hv:IsEnts w v l) (hl:l.length≤9223372036854775807) (hg:errT w) :
   Calls Tryz.prog 207 #[v] w fun r w'=>r=.returned (noV (vrightF l).1)∧Below w.heap.size w w':=by
 have HV:=Lib.hid hv
 have HG:=Lib.hid hg
 obtain ⟨a1,c1,rfl,_⟩:=hv.form
 obtain ⟨n,hn⟩:∃ n,n=l.length:=⟨_,rfl⟩
 have HL:=Lib.hid hl
 rw [←hn] at HV ⊢
 clear hv hg hn hl
 by_cases h0:(vrightF l).1=0
 · have H0:=Lib.hid h0
   clear h0
   rw [H0.out]
   go_enter Tryz.func207,Tryz.ntmps207
   go_wp2_with fail
   refine (vright_any _ l _ HV.out HL.out).mono ?_
   rintro r w1 ⟨err,rfl,hat,hb1⟩
   obtain rfl:=hat.nil H0.out
   have HB1:=Lib.hid hb1
   clear hat hb1
   go_wp2
   go_ret
   exact ⟨rfl,HB1.out⟩
 · have H0:=Lib.hid h0
   have HQ:=Lib.hid (noV_e h0)
   clear h0
   go_enter Tryz.func207,Tryz.ntmps207
   go_wp2_with fail
   refine (vright_any _ l _ HV.out HL.out).mono ?_
   rintro r w1 ⟨err,rfl,hat,hb1⟩
   have HE:=Lib.hid (hat.isErr H0.out)
   obtain ⟨t,u,rfl⟩:=hat.iface H0.out
   have HB1:=Lib.hid hb1
   have HG1:=Lib.hid (HG.out.below hb1)
   clear hat hb1
   go_wp2_with fail
   refine (tell_err _ _ _ HG1.out HE.out).mono ?_
   rintro r w2 ⟨rfl,hb2⟩
   have HB2:Hid (Below w.heap.size w w2):=HB1.out.trans (hb2.mono HB1.out.size)
   clear hb2
   go_wp2
   go_ret
   exact ⟨by rw [HQ.out];rfl,HB2.out⟩
end Go.Proofs.YtjkbmfpomgcblaaGreatDoor
namespace Go.Proofs.YtjkbmfpomgcblaaGreatDoor
open Go.RowKit
def WR (w:World) (B b:Nat) (rv:Value) (vs:List Value) (pre:List UInt8) (wr:World):Prop :=
 isBld wr w.heap.size b pre∧ownsR wr B rv vs∧b < B∧B≤wr.heap.size∧Below w.heap.size w wr
theorem WR.put {w:World} {B b:Nat} {rv:Value} {vs:List Value} {pre pre':List UInt8} {wr w':World} (h:WR w B b rv vs pre wr) (h1:isBld w' w.heap.size b pre') (h2:Below w.heap.size wr w') (h3:NonB b wr w'):WR w B b rv vs pre' w':=by
 obtain ⟨g1,g2,g3,g4,g5⟩:=h
 refine ⟨h1,?_,g3,Nat.le_trans g4 h2.size,g5.trans h2⟩
 refine NonB.row h3 g2 (by decide) (fun e=>?_)
 have:=(g2.lt b e).1
 omega
theorem WR.alloc {w:World} {B b:Nat} {rv:Value} {vs:List Value} {pre:List UInt8} {wr:World} (h:WR w B b rv vs pre wr) (o:Obj):WR w B b rv vs pre (wr.alloc o):=by
 obtain ⟨g1,g2,g3,g4,g5⟩:=h
 exact ⟨g1.alloc o,g2.alloc o,g3,Nat.le_trans g4 (by simp),g5.alloc g5.size o⟩
end Go.Proofs.YtjkbmfpomgcblaaGreatDoor
namespace Go.Proofs.YtjkbmfpomgcblaaGreatDoor
open Go.RowKit
theorem vof_as (v:Value) (l:List Ent) (x y:Int) (w:World) (hv:IsEnts w v l) (hl:l.length≤9223372036854775807) (h:ofF l x=y) :
   Calls Tryz.prog 196 #[v,.int .i64 x] w fun r w'=>r=.returned (.int .i64 y)∧Below w.heap.size w w':=by
 subst h;exact vof_any v l x w hv hl
theorem covA_drop {a b:List Ent} {k:Nat} {t:Ent} (h:b[k]? = some t):covA a (b.drop k)=(decide (t.time≤ofF a t.rep) && covA a (b.drop (k + 1))):=by
 obtain ⟨hk,ht⟩:=List.getElem?_eq_some_iff.1 h
 rw [List.drop_eq_getElem_cons hk,ht];rfl
set_option maxRecDepth 100000 in
set_option maxHeartbeats 4000000 in
theorem vcov_any (va vb:Value) (a b:List Ent) (w:World) (ha:IsEnts w va a) (hb:IsEnts w vb b) (hla:a.length≤9223372036854775807) (hlb:b.length≤9223372036854775807) :
   Calls Tryz.prog 144 #[va,vb] w fun r w'=>r=.returned (.bool (covB a b))∧Below w.heap.size w w':=by
 have HVA:=Lib.hid ha
 have HVB:=Lib.hid hb
 have HLA:=Lib.hid hla
 have HLB:=Lib.hid hlb
 obtain ⟨aa,ca,rfl,_⟩:=ha.form
 obtain ⟨ab,cb,rfl,fb⟩:=hb.form
 have FB:=Lib.hid fb
 obtain ⟨na,hna⟩:∃ n,n=a.length:=⟨_,rfl⟩
 obtain ⟨nb,hnb⟩:∃ n,n=b.length:=⟨_,rfl⟩
 have HNB:=Lib.hid hnb
 rw [←hna] at HVA ⊢
 rw [←hnb] at HVB ⊢
 clear ha hb hla hlb fb hna hnb
 by_cases h1:(vrightF a).1=0
 · by_cases h2:(vrightF b).1=0
   · have H1:=Lib.hid h1
     have H2:=Lib.hid h2
     have HC:Hid (covB a b=covA a b):=Lib.hid (show covB a b=covA a b by unfold covB;rw [h1,h2];simp)
     have h16:nb≤16:=by rw [HNB.out];exact ((vright_ok b).1 h2).1
     clear h1 h2
     rw [HC.out]
     go_enter Tryz.func144,Tryz.ntmps144
     go_wp2_with fail
     refine (vright_any _ a _ HVA.out HLA.out).mono ?_
     rintro r w1 ⟨err,rfl,hat,hb1⟩
     obtain rfl:=hat.nil H1.out
     have HB1:=Lib.hid hb1
     clear hat hb1
     go_wp2_with fail
     refine (vright_any _ b _ (HVB.out.below HB1.out) HLB.out).mono ?_
     rintro r w2 ⟨err,rfl,hat,hb2⟩
     obtain rfl:=hat.nil H2.out
     have HB2:Hid (Below w.heap.size w w2):=HB1.out.trans (hb2.mono HB1.out.size)
     clear hat hb2
     go_wp2
     go_loopw [17] (fun i wr=>∃ k:Nat,k≤nb∧i=.int .i64 k∧covA a b=covA a (b.drop k)∧Below w.heap.size w wr) (fun i _=>nb - (intOf i).toNat)
     case atStart=>exact ⟨0,by omega,rfl,rfl,HB2.out⟩
     case round =>
       obtain ⟨k,hk,rfl,heq,hbel⟩:=hrel
       have HEQ:=Lib.hid heq
       have HB:=Lib.hid hbel
       have hzr:=hbel.size
       clear heq hbel
       by_cases hlt:k < nb
       · obtain ⟨t, ht⟩ : ∃ t, b[k]? = some t := ⟨b[k]'(by have := HNB.out; omega), List.getElem?_eq_getElem _⟩
         obtain ⟨b1,o1,rfl,hb1,p0,p1⟩:=FB.out k t ht
         have hd:=covA_drop (a:=a) ht
         obtain ⟨rep,time⟩:=t
         simp only at p0 p1 hd
         have q0:=(HB.out.cell (p:=⟨b1,o1 + k * 2,none⟩) hb1).trans p0
         have q1:=(HB.out.cell (p:=⟨b1,o1 + k * 2 + 1,none⟩) hb1).trans p1
         obtain ⟨x,hx⟩:∃ x,ofF a rep=x:=⟨_,rfl⟩
         rw [hx] at hd
         have HX:=Lib.hid hx
         have HV1:Hid (IsEnts (wr.alloc (.cells #[.int .i64 rep,.int .i64 time] 74)).drew (.slice aa na ca) a):=Lib.hid (((HVA.out.below HB.out).alloc _).drewN 1)
         have c0:(wr.alloc (.cells #[.int .i64 rep,.int .i64 time] 74)).cell? ⟨wr.heap.size,0,none⟩=some (.int .i64 rep)∧(wr.alloc (.cells #[.int .i64 rep,.int .i64 time] 74)).cell? ⟨wr.heap.size,1,none⟩=some (.int .i64 time):=by simp
         by_cases hlx:x < time
         · have HW:Hid (covA a b=false):=Lib.hid (show covA a b=false by rw [HEQ.out,hd,decide_eq_false (by omega),Bool.false_and])
           clear p0 p1 ht hd hx
           go_wp2
           go_region_held3 (fun w'=>w'.cell? ⟨wr.heap.size,0,none⟩=some (.int .i64 rep)∧w'.cell? ⟨wr.heap.size,1,none⟩=some (.int .i64 time)) (first | exact c0 | exact c2) (first | (go_at_call 196;((with_reducible refine (vof_as _ a rep x _ HV1.out HLA.out HX.out).mono ?_);rintro r w2 ⟨rfl,hb2⟩;have c2:w2.cell? ⟨wr.heap.size,0,none⟩=some (.int .i64 rep)∧w2.cell? ⟨wr.heap.size,1,none⟩=some (.int .i64 time):=⟨(hb2.cell (by simp)).trans c0.1,(hb2.cell (by simp)).trans c0.2⟩;have HB2:Hid (Below w.heap.size w w2):=((HB.out.alloc hzr _).drew.trans (hb2.mono (by simp;omega)));clear hb2)))
           go_wp2
           go_ret
           exact ⟨by rw [HW.out];rfl,HB2.out⟩
         · have HW:Hid (covA a b=covA a (b.drop (k + 1))):=Lib.hid (show covA a b=covA a (b.drop (k + 1)) by rw [HEQ.out,hd,decide_eq_true (by omega),Bool.true_and])
           clear p0 p1 ht hd hx
           go_wp2
           go_region_held3 (fun w'=>w'.cell? ⟨wr.heap.size,0,none⟩=some (.int .i64 rep)∧w'.cell? ⟨wr.heap.size,1,none⟩=some (.int .i64 time)) (first | exact c0 | exact c2) (first | (go_at_call 196;((with_reducible refine (vof_as _ a rep x _ HV1.out HLA.out HX.out).mono ?_);rintro r w2 ⟨rfl,hb2⟩;have c2:w2.cell? ⟨wr.heap.size,0,none⟩=some (.int .i64 rep)∧w2.cell? ⟨wr.heap.size,1,none⟩=some (.int .i64 time):=⟨(hb2.cell (by simp)).trans c0.1,(hb2.cell (by simp)).trans c0.2⟩;have HB2:Hid (Below w.heap.size w w2):=((HB.out.alloc hzr _).drew.trans (hb2.mono (by simp;omega)));clear hb2)))
           go_wp2
           go_roundw
           case rel=>exact ⟨k + 1,by omega,by go_num,HW.out,HB2.out⟩
           case measure=>simp [intOf];omega
       · have HW:Hid (covA a b=true):=Lib.hid (show covA a b=true by rw [HEQ.out,List.drop_eq_nil_of_le (by have:=HNB.out;omega)];rfl)
         go_wp2
         go_ret
         exact ⟨by rw [HW.out];rfl,HB.out⟩
   · have H1:=Lib.hid h1
     have H2:=Lib.hid h2
     have HC:Hid (covB a b=false):=Lib.hid (show covB a b=false by unfold covB;rw [decide_eq_false h2];simp)
     clear h1 h2
     rw [HC.out]
     go_enter Tryz.func144,Tryz.ntmps144
     go_wp2_with fail
     refine (vright_any _ a _ HVA.out HLA.out).mono ?_
     rintro r w1 ⟨err,rfl,hat,hb1⟩
     obtain rfl:=hat.nil H1.out
     have HB1:=Lib.hid hb1
     clear hat hb1
     go_wp2_with fail
     refine (vright_any _ b _ (HVB.out.below HB1.out) HLB.out).mono ?_
     rintro r w2 ⟨err,rfl,hat,hb2⟩
     obtain ⟨t,u,rfl⟩:=hat.iface H2.out
     have HB2:Hid (Below w.heap.size w w2):=HB1.out.trans (hb2.mono HB1.out.size)
     clear hat hb2
     go_wp2
     go_ret
     exact ⟨rfl,HB2.out⟩
 · have H1:=Lib.hid h1
   have HC:Hid (covB a b=false):=Lib.hid (show covB a b=false by unfold covB;rw [decide_eq_false h1];simp)
   clear h1
   rw [HC.out]
   go_enter Tryz.func144,Tryz.ntmps144
   go_wp2_with fail
   refine (vright_any _ a _ HVA.out HLA.out).mono ?_
   rintro r w1 ⟨err,rfl,hat,hb1⟩
   obtain ⟨t,u,rfl⟩:=hat.iface H1.out
   have HB1:=Lib.hid hb1
   clear hat hb1
   go_wp2
   go_ret
   exact ⟨rfl,HB1.out⟩
end Go.Proofs.YtjkbmfpomgcblaaGreatDoor
