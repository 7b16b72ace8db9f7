import Derived.Test.YtgfinhehgfbdgaaGreatDoorKa03
import Derived.Test.YtgfinhehgfbdgaaGreatDoorKa18
import Derived.BigQuiet
import Derived.Deep.QuietTactic
import Derived.Outline
import Derived.Test.YtgfinhehgfbdgaaGreatDoorKa01
import Derived.Test.YtgfinhehgfbdgaaGreatDoorKa07
import Derived.Test.YtgfinhehgfbdgaaGreatDoorKa04
import Derived.Lib.Hide
import Derived.WalkSmall
namespace Go.Proofs.YtgfinhehgfbdgaaGreatDoor
open Go.RowKit
set_option maxRecDepth 100000 in
set_option maxHeartbeats 2000000 in
theorem vwrong_any (v:Value) (l:List Ent) (k:Nat) (e:Ent) (last:Int) (w:World) (hv:IsEnts w v l) (hl:l.length≤1000000) (he:l[k]? = some e) (h0:(k=0∧last=-1)∨∃ j d,k=j + 1∧l[j]? = some d∧last=d.rep) :
   Calls Tryz.prog 155 #[v,.int .i64 (k:Int)] w fun r w'=>r=.returned (.int .i64 (wrE e last:Nat))∧Below w.heap.size w w':=by
 obtain ⟨a1,c1,rfl,f1⟩:=hv.form
 obtain ⟨n,hn⟩:∃ n,n=l.length:=⟨_,rfl⟩
 have hkl:k < n:=by rw [hn];exact (List.getElem?_eq_some_iff.1 he).1
 rw [←hn] at hl ⊢
 obtain ⟨b1,o1,rfl,hb1,p0,p1⟩:=f1 k e he
 obtain ⟨rep,time⟩:=e
 simp only at p0 p1
 by_cases hr:rep < 0∨200 < rep∨time < 1∨1099511627776 < time
 · have HW:Hid (wrE ⟨rep,time⟩ last=2):=Lib.hid (wrE_range hr)
   have HR:=Lib.hid hr
   clear hv f1 hn he h0 hr
   rw [HW.out]
   by_cases h1:rep < 0
   · go_enter Tryz.func155,Tryz.ntmps155
     go_wp2
     go_ret
     exact ⟨rfl,(Below.refl _ _).alloc (Nat.le_refl _) _⟩
   · by_cases h2:200 < rep
     · go_enter Tryz.func155,Tryz.ntmps155
       go_wp2
       go_ret
       exact ⟨rfl,(Below.refl _ _).alloc (Nat.le_refl _) _⟩
     · by_cases h3:time < 1
       · go_enter Tryz.func155,Tryz.ntmps155
         go_wp2
         go_ret
         exact ⟨rfl,(Below.refl _ _).alloc (Nat.le_refl _) _⟩
       · have h4:1099511627776 < time:=by have:=HR.out;omega
         go_enter Tryz.func155,Tryz.ntmps155
         go_wp2
         go_ret
         exact ⟨rfl,(Below.refl _ _).alloc (Nat.le_refl _) _⟩
 · have g1:0≤rep:=by omega
   have g2:rep≤200:=by omega
   have g3:1≤time:=by omega
   have g4:time≤1099511627776:=by omega
   rcases h0 with ⟨hk0,rfl⟩ | ⟨j,d,rfl,hd,rfl⟩
   · have HW:Hid (wrE ⟨rep,time⟩ (-1)=0):=Lib.hid (wrE_fine hr (by simp only;omega))
     have z1:¬ 0 < k:=by omega
     have z2:decide (0 < k)=false:=by simp;omega
     have z3:decide ((0:Int) < (k:Int))=false:=by simp;omega
     clear hv f1 hn he hr hk0
     rw [HW.out]
     go_enter Tryz.func155,Tryz.ntmps155
     go_wp2
     go_quiet (fail)
     go_wp2
     go_ret
     exact ⟨rfl,below_drewN ((Below.refl _ _).alloc (Nat.le_refl _) _) _⟩
   · obtain ⟨b2,o2,hbo,_,q0,_⟩:=f1 j d hd
     simp only [Option.some.injEq,Addr.mk.injEq,and_true] at hbo
     obtain ⟨rfl,rfl⟩:=hbo
     obtain ⟨last,dt⟩:=d
     simp only at q0
     obtain ⟨k,hk⟩:∃ k,k=j + 1:=⟨_,rfl⟩
     rw [←hk] at he hkl p0 p1 ⊢
     have hj1:(k:Int) - 1=(j:Int):=by omega
     have hj2:IntKind.i64.wrap ((k:Int) - 1)=(j:Int):=by rw [hj1];exact IntWalk.i64_in _ (by omega)
     have hk0:(0:Int) < (k:Int):=by omega
     have z1:0 < k:=by omega
     have z2:decide (0 < k)=true:=by simp;omega
     have z3:decide ((0:Int) < (k:Int))=true:=by simp;omega
     have hjn:(j:Int) < (n:Int):=by omega
     have hjn':j < n:=by omega
     have hj0:(0:Int)≤(j:Int):=by omega
     have q0':=(World.cell?_alloc_lt w (.cells #[.int .i64 rep,.int .i64 time] 80) (⟨b1,o1 + j * 2,none⟩:Addr) hb1).trans q0
     by_cases h5:rep≤last
     · have HW:Hid (wrE ⟨rep,time⟩ (Ent.mk last dt).rep=10):=Lib.hid (wrE_order hr h5)
       clear hv f1 hn he hr hd hk
       rw [HW.out]
       go_enter Tryz.func155,Tryz.ntmps155
       go_wp2
       go_quiet (fail)
       go_wp2
       go_ret
       exact ⟨rfl,below_drewN ((Below.refl _ _).alloc (Nat.le_refl _) _) _⟩
     · have HW:Hid (wrE ⟨rep,time⟩ (Ent.mk last dt).rep=0):=Lib.hid (wrE_fine hr h5)
       clear hv f1 hn he hr hd hk
       rw [HW.out]
       go_enter Tryz.func155,Tryz.ntmps155
       go_wp2
       go_quiet (fail)
       go_wp2
       go_ret
       exact ⟨rfl,below_drewN ((Below.refl _ _).alloc (Nat.le_refl _) _) _⟩
set_option maxRecDepth 100000 in
set_option maxHeartbeats 2000000 in
theorem vright_few (v:Value) (l:List Ent) (w:World) (hv:IsEnts w v l) (hl:l.length≤16) :
   Calls Tryz.prog 101 #[v] w (RightIs w (vr l 0 (-1))):=by
 have HV:=Lib.hid hv
 obtain ⟨a1,c1,rfl,f1⟩:=hv.form
 obtain ⟨n,hn⟩:∃ n,n=l.length:=⟨_,rfl⟩
 rw [←hn] at hl HV ⊢
 have HN:=Lib.hid hn
 clear hv f1 hn
 go_enter Tryz.func101,Tryz.ntmps101
 go_wp2
 go_loopw [11] (fun i wr=>∃ (k:Nat) (last:Int),k≤n∧i=.int .i64 k∧((k=0∧last=-1)∨∃ j d,k=j + 1∧l[j]? = some d∧last=d.rep)∧vr l 0 (-1)=vr (l.drop k) k last∧Below w.heap.size w wr) (fun i _=>n - (intOf i).toNat)
 case atStart=>exact ⟨0,-1,by omega,rfl,.inl ⟨rfl,rfl⟩,rfl,Below.refl _ _⟩
 case round =>
   obtain ⟨k,last,hk,rfl,hla,heq,hbel⟩:=hrel
   have HEQ:=Lib.hid heq
   have HLA:=Lib.hid hla
   have HB:=Lib.hid hbel
   have hzr:=hbel.size
   clear heq hbel hla
   by_cases hlt:k < n
   · have hkl:k < l.length:=by have:=HN.out;omega
     obtain ⟨t,ht⟩:∃ t,l[k]? = some t:=⟨l[k],List.getElem?_eq_getElem hkl⟩
     have hd:l.drop k=t :: l.drop (k + 1):=by
       rw [List.drop_eq_getElem_cons hkl];congr 1
       rw [List.getElem?_eq_getElem hkl] at ht;exact Option.some.inj ht
     have HD:=Lib.hid hd
     have HT:=Lib.hid ht
     obtain ⟨e,he⟩:∃ e,wrE t last=e:=⟨_,rfl⟩
     have HE:=Lib.hid he
     clear ht hkl hd he
     go_wp2_with fail
     refine (vwrong_any _ l k t last _ (HV.out.below (HB.out.mono (Nat.le_refl _))) (by have:=HN.out;omega) HT.out HLA.out).mono ?_
     rintro r w1 ⟨rfl,hb1⟩
     rw [HE.out]
     have HB1:Hid (Below w.heap.size w w1):=HB.out.trans (hb1.mono hzr)
     have hz1:=HB1.out.size
     clear hb1
     by_cases h0:e=0
     · subst h0
       have HN2:Hid (vr l 0 (-1)=vr (l.drop (k + 1)) (k + 1) t.rep):=Lib.hid (show vr l 0 (-1)=vr (l.drop (k + 1)) (k + 1) t.rep by rw [HEQ.out,HD.out,vr_good HE.out])
       go_wp2
       go_roundw
       case rel=>exact ⟨k + 1,t.rep,by omega,by go_num,.inr ⟨k,t,rfl,HT.out,rfl⟩,HN2.out,HB1.out⟩
       case measure=>simp [intOf];omega
     · have HN2:Hid (vr l 0 (-1)=(e,(k:Int))):=Lib.hid (show vr l 0 (-1)=(e,(k:Int)) by rw [HEQ.out,HD.out,vr_bad (by rw [HE.out];exact h0),HE.out])
       have hne:((e:Int) != 0)=true:=by simp;omega
       have H0:=Lib.hid h0
       clear h0
       go_wp2
       go_ret
       rw [HN2.out]
       exact ⟨_,rfl,atIs.new w1 e k H0.out,HB1.out.alloc hz1 _⟩
   · have HN2:Hid (vr l 0 (-1)=(0,-1)):=Lib.hid (show vr l 0 (-1)=(0,-1) by rw [HEQ.out,List.drop_eq_nil_of_le (by have:=HN.out;omega)];rfl)
     go_wp2
     go_ret
     exact ⟨_,rfl,.inl ⟨HN2.out,rfl⟩,HB.out⟩
theorem vright_any (v:Value) (l:List Ent) (w:World) (hv:IsEnts w v l) (hl:l.length≤9223372036854775807) :
   Calls Tryz.prog 101 #[v] w (VRightIs w (vrightF l)):=by
 by_cases h:16 < l.length
 · have HW:Hid (vrightF l=(4,-1)):=Lib.hid (show vrightF l=(4,-1) by unfold vrightF;rw [if_pos h])
   obtain ⟨a1,c1,rfl,_⟩:=hv.form
   obtain ⟨n,hn⟩:∃ n,n=l.length:=⟨_,rfl⟩
   rw [←hn] at h hl ⊢
   clear hv hn
   rw [HW.out]
   have h2:16 < (n:Int):=by omega
   go_enter Tryz.func101,Tryz.ntmps101
   go_wp2
   go_ret
   exact ⟨_,rfl,.inr ⟨by decide,rfl,rfl⟩,Below.refl _ _⟩
 · refine (vright_few v l w hv (by omega)).mono ?_
   rintro e w' ⟨x,h1,h2,h3⟩
   refine ⟨x,h1,.inl ?_,h3⟩
   unfold vrightF;rw [if_neg h];exact h2
end Go.Proofs.YtgfinhehgfbdgaaGreatDoor
namespace Go.Proofs.YtgfinhehgfbdgaaGreatDoor
open Go.RowKit
theorem dupG_hit {l:List ByteArray} {k:Nat} {s:ByteArray} (h:l[k]? = some s) (hs:s∈l.take k):dupG (l.take k) (l.drop k) k=some k:=by
 obtain ⟨hk,e⟩:=List.getElem?_eq_some_iff.1 h
 rw [List.drop_eq_getElem_cons hk,e,dupG,if_pos hs]
theorem dupG_miss {l:List ByteArray} {k:Nat} {s:ByteArray} (h:l[k]? = some s) (hs:s ∉ l.take k):dupG (l.take k) (l.drop k) k=dupG (l.take (k + 1)) (l.drop (k + 1)) (k + 1):=by
 obtain ⟨hk,e⟩:=List.getElem?_eq_some_iff.1 h
 rw [List.drop_eq_getElem_cons hk,e,dupG,if_neg hs]
 congr 1
 rw [←e,List.take_append_getElem hk]
def dupR (l:List ByteArray):Nat×Int:=match dupG [] l 0 with | some i=>(9,(i:Int)) | none=>(0,-1)
set_option maxRecDepth 100000 in
set_option maxHeartbeats 4000000 in
theorem ktwice_any (v:Value) (l:List ByteArray) (w:World) (hv:IsTexts w v l) (hl:l.length≤1000000) (hs:∀ s∈l,s.size≤140737488351232) :
   Calls Tryz.prog 194 #[v] w (RightIs w (dupR l)):=by
 obtain ⟨a1,c1,rfl,_,f1⟩:=hv
 have F1:=Lib.hid f1
 have HS:=Lib.hid hs
 obtain ⟨n,hn⟩:∃ n,n=l.length:=⟨_,rfl⟩
 rw [←hn] at hl ⊢
 have HN:=Lib.hid hn
 clear f1 hs hn
 have hmm:=@run_makeMap Tryz.prog
 go_enter Tryz.func194,Tryz.ntmps194
 go_wp2
 go_loopw [9] (fun i wr=>∃ k:Nat,k≤n∧i=.int .i64 k∧dupG [] l 0=dupG (l.take k) (l.drop k) k∧ownsSet wr w.heap.size k (l.take k)∧Below w.heap.size w wr) (fun i _=>n - (intOf i).toNat)
 case atStart=>exact ⟨0,Nat.zero_le _,rfl,rfl,ownsSet_made _,(Below.refl _ _).alloc (Nat.le_refl _) _⟩
 case round =>
   obtain ⟨k,hk,rfl,hd,hmap,hbel⟩:=hrel
   have HD:=Lib.hid hd
   have HM:=Lib.hid hmap
   have HB:=Lib.hid hbel
   clear hd hmap hbel
   by_cases hlt:k < n
   · obtain ⟨s, hs⟩ : ∃ s, l[k]? = some s := ⟨l[k]'(by have := HN.out; omega), List.getElem?_eq_getElem _⟩
     obtain ⟨b1,o1,rfl,hb1,p0⟩:=F1.out k s hs
     have q0:=(HB.out.cell (p:=⟨b1,o1 + k,none⟩) hb1).trans p0
     have HSZ:Hid (s.size≤140737488351232):=Lib.hid (HS.out s (List.mem_of_getElem? hs))
     have hsz:s.size≤maxLen:=by have:=HSZ.out;unfold maxLen;omega
     by_cases hin:s∈l.take k
     · have HR:Hid (dupR l=(9,(k:Int))):=Lib.hid (show dupR l=_ by unfold dupR;rw [HD.out,dupG_hit hs hin])
       clear p0 hs
       go_wp2_with (at_lookup;refine wpList_set_look rfl _ _ rfl w.heap.size k (l.take k) rfl HM.out s rfl hsz true (by simpa using hin) ?_)
       go_ret
       rw [HR.out]
       exact ⟨_,rfl,atIs.new _ 9 _ (by decide),HB.out.alloc HB.out.size _⟩
     · have HD2:=Lib.hid (HD.out.trans (dupG_miss hs hin))
       have HTK:Hid (l.take k ++ [s]=l.take (k + 1)):=Lib.hid (show _=_ by obtain ⟨hk2,e⟩:=List.getElem?_eq_some_iff.1 hs;rw [←e,List.take_append_getElem hk2])
       clear p0 hs
       go_wp2_with (first
         | (at_lookup;refine wpList_set_look rfl _ _ rfl w.heap.size k (l.take k) rfl HM.out s rfl hsz false (by simpa using hin) ?_)
         | (at_mapUpdate;refine wpList_set_put rfl _ _ _ rfl w.heap.size k (l.take k) rfl HM.out (by unfold maxLen;omega) s rfl rfl hsz ?_;intro w1 hm1 hg1))
       have HB1:Hid (Below w.heap.size w w1):=Lib.hid (HB.out.grown hg1 HB.out.size (fun g hg=>by cases hg;exact Nat.le_refl _))
       rw [HTK.out] at hm1
       have HM1:=Lib.hid hm1
       clear hm1 hg1
       go_roundw
       case rel=>exact ⟨k + 1,by omega,by go_num,HD2.out,HM1.out,HB1.out⟩
       case measure=>simp [intOf];omega
   · have HR:Hid (dupR l=(0,-1)):=Lib.hid (show dupR l=_ by unfold dupR;rw [HD.out,List.drop_eq_nil_of_le (by have:=HN.out;omega)];rfl)
     go_wp2
     go_ret
     rw [HR.out]
     exact ⟨_,rfl,.inl ⟨rfl,rfl⟩,HB.out⟩
theorem ordG_range {K told k:Nat} {l:List Int} {n:Int} (h:l[k]? = some n) (hn:n < 0∨(K:Int)≤n):ordG K told (l.drop k) k=(2,(k:Int)):=by
 obtain ⟨hk,e⟩:=List.getElem?_eq_some_iff.1 h
 rw [List.drop_eq_getElem_cons hk,e,ordG,if_pos hn]
theorem ordG_false {K told k:Nat} {l:List Int} {n:Int} (h:l[k]? = some n) (hn:¬ (n < 0∨(K:Int)≤n)) (ht:(told:Int) < n):ordG K told (l.drop k) k=(13,(k:Int)):=by
 obtain ⟨hk,e⟩:=List.getElem?_eq_some_iff.1 h
 rw [List.drop_eq_getElem_cons hk,e,ordG,if_neg hn,if_pos ht]
theorem ordG_old {K told k:Nat} {l:List Int} {n:Int} (h:l[k]? = some n) (hn:¬ (n < 0∨(K:Int)≤n)) (ht:n < (told:Int)):ordG K told (l.drop k) k=ordG K told (l.drop (k + 1)) (k + 1):=by
 obtain ⟨hk,e⟩:=List.getElem?_eq_some_iff.1 h
 rw [List.drop_eq_getElem_cons hk,e,ordG,if_neg hn,if_neg (by omega),if_neg (by omega)]
theorem ordG_new {K told k:Nat} {l:List Int} {n:Int} (h:l[k]? = some n) (hn:¬ (n < 0∨(K:Int)≤n)) (ht:n=(told:Int)):ordG K told (l.drop k) k=ordG K (told + 1) (l.drop (k + 1)) (k + 1):=by
 obtain ⟨hk,e⟩:=List.getElem?_eq_some_iff.1 h
 rw [List.drop_eq_getElem_cons hk,e,ordG,if_neg hn,if_neg (by omega),if_pos ht]
set_option maxRecDepth 100000 in
set_option maxHeartbeats 4000000 in
theorem korder_any (v:Value) (l:List Int) (K:Nat) (w:World) (hv:IsNums w v l) (hl:l.length≤1000000) (hK:K≤1000000) :
   Calls Tryz.prog 195 #[v,.int .i64 (K:Int)] w (VRightIs w (ordG K 0 l 0)):=by
 obtain ⟨a1,c1,rfl,_,f1⟩:=hv
 have F1:=Lib.hid f1
 obtain ⟨n,hn⟩:∃ n,n=l.length:=⟨_,rfl⟩
 rw [←hn] at hl ⊢
 have HN:=Lib.hid hn
 clear f1 hn
 go_enter Tryz.func195,Tryz.ntmps195
 go_wp2
 go_loopw [5,10] (fun t i wr=>∃ k told:Nat,k≤n∧told≤k∧i=.int .i64 k∧t=.int .i64 told∧ordG K 0 l 0=ordG K told (l.drop k) k∧Below w.heap.size w wr) (fun _ i _=>n - (intOf i).toNat)
 case atStart=>exact ⟨0,0,Nat.zero_le _,Nat.le_refl _,rfl,rfl,rfl,Below.refl _ _⟩
 case round =>
   obtain ⟨k,told,hk,htk,rfl,rfl,hd,hbel⟩:=hrel
   have HD:=Lib.hid hd
   have HB:=Lib.hid hbel
   clear hd hbel
   by_cases hlt:k < n
   · obtain ⟨z, hz⟩ : ∃ z, l[k]? = some z := ⟨l[k]'(by have := HN.out; omega), List.getElem?_eq_getElem _⟩
     obtain ⟨b1,o1,rfl,hb1,p0⟩:=F1.out k z hz
     have q0:=(HB.out.cell (p:=⟨b1,o1 + k,none⟩) hb1).trans p0
     by_cases hr:z < 0∨(K:Int)≤z
     · have HR:=Lib.hid (HD.out.trans (ordG_range hz hr))
       clear p0 hz
       by_cases h0:z < 0
       · go_wp2
         go_ret
         rw [HR.out]
         exact ⟨_,rfl,.inl (atIs.new _ 2 _ (by decide)),HB.out.alloc HB.out.size _⟩
       · have h1:(K:Int)≤z:=by omega
         go_wp2
         go_ret
         rw [HR.out]
         exact ⟨_,rfl,.inl (atIs.new _ 2 _ (by decide)),HB.out.alloc HB.out.size _⟩
     · have h0:¬ z < 0:=by omega
       have h1:¬ (K:Int)≤z:=by omega
       by_cases hf:(told:Int) < z
       · have HR:=Lib.hid (HD.out.trans (ordG_false hz hr hf))
         clear p0 hz hr
         go_wp2
         go_ret
         rw [HR.out]
         exact ⟨_,rfl,.inl (atIs.new _ 13 _ (by decide)),HB.out.alloc HB.out.size _⟩
       · by_cases he:z=(told:Int)
         · have HD2:=Lib.hid (HD.out.trans (ordG_new hz hr he))
           clear p0 hz hr
           subst he
           go_wp2
           go_roundw
           case rel=>exact ⟨k + 1,told + 1,by omega,by omega,by go_num,by go_num,HD2.out,HB.out⟩
           case measure=>simp [intOf];omega
         · have HD2:=Lib.hid (HD.out.trans (ordG_old hz hr (by omega)))
           have hb:(z == (told:Int))=false:=by simpa using he
           clear p0 hz hr
           go_wp2
           go_roundw
           case rel=>exact ⟨k + 1,told,by omega,by omega,by go_num,rfl,HD2.out,HB.out⟩
           case measure=>simp [intOf];omega
   · have HE:Hid (ordG K 0 l 0=if told < K then (8,-1) else (0,-1)):=Lib.hid (show _=_ by rw [HD.out,List.drop_eq_nil_of_le (by have:=HN.out;omega)];rfl)
     by_cases ht:told < K
     · have HR:Hid (ordG K 0 l 0=(8,-1)):=Lib.hid (show _=_ by rw [HE.out,if_pos ht])
       go_wp2
       go_ret
       rw [HR.out]
       exact ⟨_,rfl,.inr ⟨by decide,rfl,rfl⟩,HB.out⟩
     · have HR:Hid (ordG K 0 l 0=(0,-1)):=Lib.hid (show _=_ by rw [HE.out,if_neg ht])
       go_wp2
       go_ret
       rw [HR.out]
       exact ⟨_,rfl,.inl (.inl ⟨rfl,rfl⟩),HB.out⟩
end Go.Proofs.YtgfinhehgfbdgaaGreatDoor
